/-
 Contracts: strings.Compare, and what it says of two texts.
-/
import Derived.Test.YtlllkdioojjaeaaMath2
import Derived.Lib.Bytealg
namespace Go.Proofs.Ytlllkdioojjaeaa
open Go.RowKit
set_option linter.unusedVariables false
theorem cmp_neg:∀ a b:List UInt8,(Lib.compareBytes a b<0)=(Op.bytesLess a b=true)
 | [],[]=>by simp[Lib.compareBytes,Op.bytesLess]
 | [],_ :: _=>by simp[Lib.compareBytes,Op.bytesLess]
 | _ :: _,[]=>by simp[Lib.compareBytes,Op.bytesLess]
 | a :: ra, b :: rb => by
   have ih:=cmp_neg ra rb
   simp only[Lib.compareBytes,Op.bytesLess]
   by_cases h1:a<b
   · simp[h1]
   · by_cases h2:b<a
     · have hne:(a == b)=false:=by simp;intro e;rw[e] at h2;exact absurd h2 (UInt8.lt_irrefl b)
       simp[h1,h2,hne]
     · have he:a=b:=UInt8.le_antisymm (UInt8.not_lt.1 h2) (UInt8.not_lt.1 h1)
       subst he
       simp[h1,ih]
theorem cmp_zero:∀ a b:List UInt8,(Lib.compareBytes a b=0)=(a=b)
 | [],[]=>by simp[Lib.compareBytes]
 | [],_ :: _=>by simp[Lib.compareBytes]
 | _ :: _,[]=>by simp[Lib.compareBytes]
 | a :: ra, b :: rb => by
   have ih:=cmp_zero ra rb
   simp only[Lib.compareBytes]
   by_cases h1:a<b
   · have hne:¬ a=b:=fun e=>by rw[e] at h1;exact absurd h1 (UInt8.lt_irrefl b)
     simp[h1,hne]
   · by_cases h2:b<a
     · have hne:¬ a=b:=fun e=>by rw[e] at h2;exact absurd h2 (UInt8.lt_irrefl b)
       simp[h1,h2,hne]
     · have he:a=b:=UInt8.le_antisymm (UInt8.not_lt.1 h2) (UInt8.not_lt.1 h1)
       subst he
       simp[h1,ih]
set_option maxHeartbeats 1000000 in
set_option maxRecDepth 100000 in
theorem compareString_any (a b:List UInt8) (w:World) :
 Calls Try.prog 95 #[.string ⟨a.toArray⟩,.string ⟨b.toArray⟩] w fun e w'=>e=.returned (.int .i64 (Lib.compareBytes a b))∧w'=w:=by
 go_enter Try.func95,Try.ntmps95
 go_wp2
 rw[run_callFunc_extern Try.func100 (by kernel_rfl) (by kernel_rfl) (by kernel_rfl) (e:=Extern.BytealgCompare.compare) (by kernel_rfl),Lib.run_compareString]
 simp only[Result.andThen]
 rw[Oper.upon_value]
 go_wp2
 go_ret
 exact⟨rfl,rfl⟩
set_option maxHeartbeats 1000000 in
set_option maxRecDepth 100000 in
theorem compare_any (a b:List UInt8) (w:World) :
 Calls Try.prog 88 #[.string ⟨a.toArray⟩,.string ⟨b.toArray⟩] w fun e w'=>e=.returned (.int .i64 (Lib.compareBytes a b))∧w'=w:=by
 have K:=compareString_any a b w
 go_enter Try.func88,Try.ntmps88
 go_wp2_with fail
 refine K.mono ?_
 rintro e w1 ⟨rfl,rfl⟩
 go_wp2
 go_ret
 exact⟨rfl,rfl⟩
end Go.Proofs.Ytlllkdioojjaeaa
