/-
 Laws: disk ops appended to a row of disk ops that the call owns; a list that may be nil.
-/
import Derived.Test.YtlllkdioojjaeaaNewP
import Derived.Laws.AppendOwnNone
namespace Go.Proofs.Ytlllkdioojjaeaa
open Go.RowKit
set_option linter.unusedVariables false
theorem flat_dops {w:World} {a:Option Addr} {ad:Addr} {qs:List DOpL} (h:IsDOps w a qs) (ha:a=some ad):∀ j u,(dcells qs)[j]? = some u→w.cell? (ad.add j)=some u:=by
 intro j u hu
 rcases src_dops h with h0 | ⟨ad2,h1,h2⟩
 · have:qs=[]:=List.length_eq_zero_iff.1 h0
   subst this
   simp[dcells] at hu
 · rw[ha] at h1
   cases h1
   exact h2 j u hu
theorem own_slice4 {w:World} {B e n:Nat} {v:Value} {xs:List Value} (h:w.ownsRow B e 4 v n xs):∃ a m c,v=.slice a m c:=by
 rcases h.2 with ⟨h',h0⟩ | ⟨g,cap,cur,h',_⟩
 · exact⟨_,_,_,h'⟩
 · exact⟨_,_,_,h'⟩
theorem wpList_append_dops {P:Program} {w:World} {ops:Array Oper} {rest:List Oper} {o:Oper} {a:Act} {Q:Exit→Act→World→Prop} (hgd:o.guard=none) (s x:Operand) (t:TypeId)
 (ho:o.op=.call { callee:=.builtin .append,args:=#[s,x],argTypes:=#[t,t] })
 (base:Nat) (e:TypeId) (i:TypeInfo) (z:Value) (bytes:Nat) (ht:P.underlying t=some (.slice e)) (hi:P.info? e=some i) (hz:i.zero=some z)
 (hsize:i.size=4) (hby:i.bytes=bytes) (hzs:z.cells.size=4)
 (v:Value) (n:Nat) (xs:List Value) (hs:a.eval s=v) (hown:w.ownsRow base e 4 v n xs)
 (a2:Option Addr) (qs:List DOpL) (m c:Nat) (hm:m=qs.length) (hx:a.eval x=.slice a2 m c) (hc:a2=none→c=0) (hp:IsDOps w a2 qs)
 (h63:n+m≤maxLen) (hbytes:(n+m)*bytes≤140737488355328) (hbase:base≤w.heap.size)
 (h:∀ v' w',w'.ownsRow base e 4 v' (n+m) (xs ++ dcells qs)→w.grownBy w' v.ownBlock→wpList P ops Q rest (a.put o.dst v') w'):wpList P ops Q (o :: rest) a w:=by
 subst hm
 cases a2 with
 | none =>
   have hq:qs=[]:=by
    rcases hp with h | ⟨b,off,h,_⟩
    · exact h
    · cases h
   subst hq
   obtain rfl:=hc rfl
   refine wpList_append_own_none hgd s x t ho base e i 4 ht hi v n xs hs hown hx (h v w ?_ (World.grownBy.refl _ _))
   simpa [dcells] using hown
 | some ad=>exact wpList_append_own w hgd s x t ho base e i z 4 bytes ht hi hz hsize hby hzs (by decide) v n xs hs hown ad qs.length c (dcells qs) hx (dcells_length qs) (flat_dops hp rfl) (dcells_one qs) h63 hbytes hbase (fun v' w' h1 h2 _=>h v' w' h1 h2)
end Go.Proofs.Ytlllkdioojjaeaa
