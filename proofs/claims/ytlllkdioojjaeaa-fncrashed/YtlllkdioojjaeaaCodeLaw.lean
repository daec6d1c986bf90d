/-
 A code that came in, and whether it is too long.
-/
import Derived.Test.YtlllkdioojjaeaaHurt
namespace Go.Proofs.Ytlllkdioojjaeaa
open Go.RowKit
set_option linter.unusedVariables false
theorem laidOut:laidOutB Try.prog=true:=by kernel_rfl
theorem bigNo (n cap:Nat) (a:Option Addr) (w:World) (h:n≤1048576) :
 Calls Try.prog 34 #[.slice a n cap] w fun e w'=>e=.returned (.bool false)∧w'=w:=by
 have h':¬ (1048576:Int)<(n:Int):=by omega
 go_enter Try.func34,Try.ntmps34
 go_wp2
 go_ret
 exact⟨by simp,rfl⟩
theorem bigYes (n cap:Nat) (a:Option Addr) (w:World) (h:¬ n≤1048576) :
 Calls Try.prog 34 #[.slice a n cap] w fun e w'=>e=.returned (.bool true)∧w'=w:=by
 have h':(1048576:Int)<(n:Int):=by omega
 go_enter Try.func34,Try.ntmps34
 go_wp2
 go_ret
 exact⟨by simp,rfl⟩
theorem codeOf (W:World) (x:Addr) (len cap:Nat) (zs:List Int) (hl:len≤cap) (hz:zs.length=cap) (hcell:∀ i,i<zs.length→W.cell? (x.add i)=some (.int .u8 (zs.getD i 0))) (hwz:∀ n∈zs,(Lit.int .u8 n).wf=true):Code W (some x) len:=by
 by_cases h0:len=0
 · exact .inl h0
 · obtain⟨b,o,sp⟩:=x
   have h00:=hcell 0 (by omega)
   have hsp:sp=none:=World.cell?_spot (a:=⟨b,o,sp⟩) (by simpa [Addr.add] using h00)
   subst hsp
   have hlt:b<W.heap.size:=by
    rcases Nat.lt_or_ge b W.heap.size with h | h
    · exact h
    · simp[Addr.add,World.cell?,Array.getElem?_eq_none h] at h00
   refine .inr ⟨b,o,rfl,hlt,fun i hi=>?_⟩
   have hc:=hcell i (by omega)
   have ha:(Addr.add ⟨b,o,none⟩ i)=⟨b,o+i,none⟩:=by unfold Addr.add;split <;> simp_all
   rw[ha] at hc
   have hi':i<zs.length:=by omega
   have hm:zs.getD i 0∈zs:=by simp[List.getD,List.getElem?_eq_getElem hi']
   have hwf:=hwz _ hm
   obtain⟨z,hz⟩:∃ z,z=zs.getD i 0:=⟨_,rfl⟩
   rw[←hz] at hc hwf
   have hr:0≤z∧z≤255:=by simp only[Lit.wf,Bool.and_eq_true,decide_eq_true_eq] at hwf;exact hwf
   refine⟨UInt8.ofNat z.toNat,?_⟩
   rw[byte_of,hc]
   congr 2
   omega
end Go.Proofs.Ytlllkdioojjaeaa
