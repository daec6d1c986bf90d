/-
 Laws: pairs appended to a row of pairs that the call owns; a list that may be nil.
-/
import Derived.Test.YtcoahmldmodmlaaGreatDoorPairs
import Derived.Laws.AppendOwnNone
namespace Go.Proofs.YtcoahmldmodmlaaGreatDoor
open Go.RowKit
set_option linter.unusedVariables false
theorem flat_prs {w:World} {a:Option Addr} {ad:Addr} {qs:List PairL} (h:IsPairs w a qs) (ha:a=some ad):∀ j u,(pcells qs)[j]? = some u→w.cell? (ad.add j)=some u:=by
 intro j u hu
 rcases h with rfl | ⟨b,off,h1,h2⟩
 · simp[pcells] at hu
 · rw[h1] at ha
   cases ha
   have hj:j<qs.length*2:=by
    have:=(List.getElem?_eq_some_iff.1 hu).1
    rwa [pcells_length] at this
   have hc:=h2 (j / 2) (by omega)
   have hp:=pcells_at qs (j / 2) (by omega)
   have hm:j % 2=0∨j % 2=1:=by omega
   have hadd:∀ x:Nat,(⟨b,off,none⟩:Addr).add x=⟨b,off+x,none⟩:=fun x=>by
    by_cases e:x=0
    · subst e;simp[Addr.add]
    · simp[Addr.add,e]
   rw[hadd]
   rcases hm with h0 | h0
   · have e:j=j / 2*2:=by omega
     rw[e] at hu ⊢
     rw[hp.1] at hu
     rw[hc.1,hu]
   · have e:j=j / 2*2+1:=by omega
     rw[e] at hu ⊢
     rw[hp.2] at hu
     rw[show off+(j / 2*2+1)=off+j / 2*2+1 by omega,hc.2,hu]
theorem one_prs (qs:List PairL):∀ u∈pcells qs,u.oneCell'=true:=by
 induction qs with
 | nil=>simp[pcells]
 | cons p l ih=>simpa [pcells,Value.oneCell'] using ih
theorem wpList_append_prs {P:Program} {w:World} {ops:Array Oper} {rest:List Oper} {o:Oper} {a:Act} {Q:Exit→Act→World→Prop} (hgd:o.guard=none) (s x:Operand) (t:TypeId)
 (ho:o.op=.call { callee:=.builtin .append,args:=#[s,x],argTypes:=#[t,t] })
 (base:Nat) (e:TypeId) (i:TypeInfo) (z:Value) (bytes:Nat) (ht:P.underlying t=some (.slice e)) (hi:P.info? e=some i) (hz:i.zero=some z)
 (hsize:i.size=2) (hby:i.bytes=bytes) (hzs:z.cells.size=2)
 (v:Value) (n:Nat) (xs:List Value) (hs:a.eval s=v) (hown:w.ownsRow base e 2 v n xs)
 (a2:Option Addr) (qs:List PairL) (m c:Nat) (hm:m=qs.length) (hx:a.eval x=.slice a2 m c) (hc:a2=none→c=0) (hp:IsPairs w a2 qs)
 (h63:n+m≤maxLen) (hbytes:(n+m)*bytes≤140737488355328) (hbase:base≤w.heap.size)
 (h:∀ v' w',w'.ownsRow base e 2 v' (n+m) (xs ++ pcells qs)→w.grownBy w' v.ownBlock→wpList P ops Q rest (a.put o.dst v') w'):wpList P ops Q (o :: rest) a w:=by
 subst hm
 cases a2 with
 | none =>
   have hq:qs=[]:=by
    rcases hp with h | ⟨b,off,h,_⟩
    · exact h
    · cases h
   subst hq
   obtain rfl:=hc rfl
   refine wpList_append_own_none hgd s x t ho base e i 2 ht hi v n xs hs hown hx (h v w ?_ (World.grownBy.refl _ _))
   simpa [pcells] using hown
 | some ad=>exact wpList_append_own w hgd s x t ho base e i z 2 bytes ht hi hz hsize hby hzs (by decide) v n xs hs hown ad qs.length c (pcells qs) hx (pcells_length qs) (flat_prs hp rfl) (one_prs qs) h63 hbytes hbase (fun v' w' h1 h2 _=>h v' w' h1 h2)
end Go.Proofs.YtcoahmldmodmlaaGreatDoor
