/-
 Laws: texts appended to a row of texts that the call owns; a list that may be nil.
-/
import Derived.Test.YtgjddhlmmljabaaDoorStrsX
import Derived.Laws.AppendOwnNone
namespace Go.Proofs.YtgjddhlmmljabaaDoor
open Go.RowKit
set_option linter.unusedVariables false
theorem scells_oneT (qs:List (List UInt8)):∀ u∈scells qs,u.oneCell'=true:=by
 intro u hu
 simp only[scells,List.mem_map] at hu
 obtain⟨l,_,rfl⟩:=hu
 rfl
theorem flat_strs {w:World} {a:Option Addr} {ad:Addr} {qs:List (List UInt8)} (h:IsStrs w a qs) (ha:a=some ad):∀ j u,(scells qs)[j]? = some u→w.cell? (ad.add j)=some u:=by
 intro j u hu
 rcases h with rfl | ⟨b,off,h1,h2⟩
 · simp[scells] at hu
 · rw[h1] at ha
   cases ha
   have hj:j<qs.length:=by
    have:=(List.getElem?_eq_some_iff.1 hu).1
    rwa [scells_length] at this
   rw[scells_at qs j hj] at hu
   cases hu
   have h3:=h2 j hj
   by_cases e:j=0
   · subst e;simpa [Addr.add] using h3
   · simpa [Addr.add,e] using h3
theorem own_noneT {w:World} {B e m c n:Nat} {xs:List Value} {a:Option Addr} (h:w.ownsRow B e 1 (.slice a m c) n xs):a=none→c=0:=fun ha=>by
 subst ha
 rcases own_cases h with ⟨h1,_,_⟩ | ⟨g,cap,h1,_⟩
 · cases h1;rfl
 · cases h1
theorem own_sliceT {w:World} {B e n:Nat} {v:Value} {xs:List Value} (h:w.ownsRow B e 1 v n xs):∃ a m c,v=.slice a m c:=by
 rcases own_cases h with ⟨h1,_,_⟩ | ⟨g,cap,h1,_⟩
 · exact⟨_,_,_,h1⟩
 · exact⟨_,_,_,h1⟩
theorem wpList_append_strs {P:Program} {w:World} {ops:Array Oper} {rest:List Oper} {o:Oper} {a:Act} {Q:Exit→Act→World→Prop} (hgd:o.guard=none) (s x:Operand) (t:TypeId)
 (ho:o.op=.call { callee:=.builtin .append,args:=#[s,x],argTypes:=#[t,t] })
 (base:Nat) (e:TypeId) (i:TypeInfo) (z:Value) (bytes:Nat) (ht:P.underlying t=some (.slice e)) (hi:P.info? e=some i) (hz:i.zero=some z)
 (hsize:i.size=1) (hby:i.bytes=bytes) (hzs:z.cells.size=1)
 (v:Value) (n:Nat) (xs:List Value) (hs:a.eval s=v) (hown:w.ownsRow base e 1 v n xs)
 (a2:Option Addr) (qs:List (List UInt8)) (m c:Nat) (hm:m=qs.length) (hx:a.eval x=.slice a2 m c) (hc:a2=none→c=0) (hp:IsStrs w a2 qs)
 (h63:n+m≤maxLen) (hbytes:(n+m)*bytes≤140737488355328) (hbase:base≤w.heap.size)
 (h:∀ v' w',w'.ownsRow base e 1 v' (n+m) (xs ++ scells qs)→w.grownBy w' v.ownBlock→wpList P ops Q rest (a.put o.dst v') w'):wpList P ops Q (o :: rest) a w:=by
 subst hm
 cases a2 with
 | none =>
   have hq:qs=[]:=by
    rcases hp with h | ⟨b,off,h,_⟩
    · exact h
    · cases h
   subst hq
   obtain rfl:=hc rfl
   refine wpList_append_own_none hgd s x t ho base e i 1 ht hi v n xs hs hown hx (h v w ?_ (World.grownBy.refl _ _))
   simpa [scells] using hown
 | some ad=>exact wpList_append_own w hgd s x t ho base e i z 1 bytes ht hi hz hsize hby hzs (by decide) v n xs hs hown ad qs.length c (scells qs) hx (by rw[scells_length];omega) (flat_strs hp rfl) (scells_oneT qs) h63 hbytes hbase (fun v' w' h1 h2 _=>h v' w' h1 h2)
end Go.Proofs.YtgjddhlmmljabaaDoor
