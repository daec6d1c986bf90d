/-
 Laws: ops appended to a row of ops that the call owns; a list that may be nil.
-/
import Derived.Test.YtbpgpmchnjbclaaDoorMathOp
import Derived.Laws.AppendOwnNone
namespace Go.Proofs.YtbpgpmchnjbclaaDoor
open Go.RowKit
set_option linter.unusedVariables false
theorem flat_ops {w:World} {a:Option Addr} {ad:Addr} {qs:List OpL} (h:IsOps w a qs) (ha:a=some ad):∀ j u,(ocells qs)[j]? = some u→w.cell? (ad.add j)=some u:=by
 intro j u hu
 rcases h with rfl | ⟨b,off,h1,h2⟩
 · simp[ocells] at hu
 · rw[h1] at ha
   cases ha
   have hj:j<qs.length*3:=by
    have:=(List.getElem?_eq_some_iff.1 hu).1
    rwa [ocells_length] at this
   have hc:=h2 (j / 3) (by omega)
   have hp:=ocells_at qs (j / 3) (by omega)
   have hadd:∀ x:Nat,(⟨b,off,none⟩:Addr).add x=⟨b,off+x,none⟩:=fun x=>by
    by_cases e:x=0
    · subst e;simp[Addr.add]
    · simp[Addr.add,e]
   rw[hadd]
   have hm:j % 3=0∨j % 3=1∨j % 3=2:=by omega
   rcases hm with h0 | h0 | h0
   · have e:j=j / 3*3:=by omega
     rw[e] at hu ⊢
     rw[hp.1] at hu
     rw[hc.1,hu]
   · have e:j=j / 3*3+1:=by omega
     rw[e] at hu ⊢
     rw[hp.2.1] at hu
     rw[show off+(j / 3*3+1)=off+j / 3*3+1 by omega,hc.2.1,hu]
   · have e:j=j / 3*3+2:=by omega
     rw[e] at hu ⊢
     rw[hp.2.2] at hu
     rw[show off+(j / 3*3+2)=off+j / 3*3+2 by omega,hc.2.2,hu]
theorem one_ops (qs:List OpL):∀ u∈ocells qs,u.oneCell'=true:=by
 induction qs with
 | nil=>simp[ocells]
 | cons p l ih=>simpa [ocells,Value.oneCell'] using ih
theorem own_sliceO {w:World} {B e n:Nat} {v:Value} {xs:List Value} (h:w.ownsRow B e 3 v n xs):∃ a m c,v=.slice a m c:=by
 rcases h.2 with ⟨h',h0⟩ | ⟨g,cap,cur,h',_⟩
 · exact⟨_,_,_,h'⟩
 · exact⟨_,_,_,h'⟩
theorem wpList_append_ops {P:Program} {w:World} {ops:Array Oper} {rest:List Oper} {o:Oper} {a:Act} {Q:Exit→Act→World→Prop} (hgd:o.guard=none) (s x:Operand) (t:TypeId)
 (ho:o.op=.call { callee:=.builtin .append,args:=#[s,x],argTypes:=#[t,t] })
 (base:Nat) (e:TypeId) (i:TypeInfo) (z:Value) (bytes:Nat) (ht:P.underlying t=some (.slice e)) (hi:P.info? e=some i) (hz:i.zero=some z)
 (hsize:i.size=3) (hby:i.bytes=bytes) (hzs:z.cells.size=3)
 (v:Value) (n:Nat) (xs:List Value) (hs:a.eval s=v) (hown:w.ownsRow base e 3 v n xs)
 (a2:Option Addr) (qs:List OpL) (m c:Nat) (hm:m=qs.length) (hx:a.eval x=.slice a2 m c) (hc:a2=none→c=0) (hp:IsOps w a2 qs)
 (h63:n+m≤maxLen) (hbytes:(n+m)*bytes≤140737488355328) (hbase:base≤w.heap.size)
 (h:∀ v' w',w'.ownsRow base e 3 v' (n+m) (xs ++ ocells qs)→w.grownBy w' v.ownBlock→wpList P ops Q rest (a.put o.dst v') w'):wpList P ops Q (o :: rest) a w:=by
 subst hm
 cases a2 with
 | none =>
   have hq:qs=[]:=by
    rcases hp with h | ⟨b,off,h,_⟩
    · exact h
    · cases h
   subst hq
   obtain rfl:=hc rfl
   refine wpList_append_own_none hgd s x t ho base e i 3 ht hi v n xs hs hown hx (h v w ?_ (World.grownBy.refl _ _))
   simpa [ocells] using hown
 | some ad=>exact wpList_append_own w hgd s x t ho base e i z 3 bytes ht hi hz hsize hby hzs (by decide) v n xs hs hown ad qs.length c (ocells qs) hx (ocells_length qs) (flat_ops hp rfl) (one_ops qs) h63 hbytes hbase (fun v' w' h1 h2 _=>h v' w' h1 h2)
end Go.Proofs.YtbpgpmchnjbclaaDoor
