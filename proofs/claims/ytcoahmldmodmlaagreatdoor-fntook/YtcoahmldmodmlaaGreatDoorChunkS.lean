import Derived.Test.YtcoahmldmodmlaaGreatDoorMathCh
import Derived.Test.YtcoahmldmodmlaaGreatDoorImp
import Derived.Deep.RegionHeld3
namespace Go.Proofs.YtcoahmldmodmlaaGreatDoor
open Go.RowKit
set_option linter.unusedVariables false
theorem OwnC.slice {w:World} {lo e2:Nat} {v:Value} {cs:List ChL} {vs:List Value} (h:OwnC w lo e2 v cs vs):(v=.slice none 0 0∧cs=[])∨∃ g cap,v=.slice (some ⟨g,0,none⟩) cs.length cap∧lo≤g∧g<w.heap.size:=by
 rcases h.row.2 with ⟨rfl,h0⟩ | ⟨g,cap,cur,rfl,hb,hg,_⟩
 · exact .inl ⟨rfl,List.length_eq_zero_iff.1 h0⟩
 · exact .inr ⟨g,cap,rfl,hb,lt_of_block hg⟩
theorem OwnC.cells {w:World} {lo e2 g n cap:Nat} {cs:List ChL} {vs:List Value} (h:OwnC w lo e2 (.slice (some ⟨g,0,none⟩) n cap) cs vs) {j:Nat} {c:ChL} {u:Value} (hc:cs[j]? = some c) (hu:vs[j]? = some u) :
 w.cell? ⟨g,j*3,none⟩=some (.bool c.1)∧w.cell? ⟨g,j*3+1,none⟩=some (.bool c.2.1)∧w.cell? ⟨g,j*3+2,none⟩=some u:=by
 have hj:=(List.getElem?_eq_some_iff.1 hc).1
 have:=ccells_at cs vs j c u hc hu
 have r:=h.row
 rcases r.2 with ⟨e,h0⟩ | ⟨g',cap',cur,e,hb,hg,_⟩
 · cases e
 · cases e
   exact⟨(r.cellAt (j*3) (by omega)).trans this.1,(r.cellAt (j*3+1) (by omega)).trans this.2.1,(r.cellAt (j*3+2) (by omega)).trans this.2.2⟩
theorem OwnC.kids {w:World} {lo e2:Nat} {v:Value} {cs:List ChL} {vs:List Value} (h:OwnC w lo e2 v cs vs) {j:Nat} (hj:j<cs.length):∃ c u,cs[j]? = some c∧vs[j]? = some u∧∃ a cap,u=.slice a c.2.2.length cap∧IsPairs w a c.2.2∧w.ownsRow lo 46 2 (.slice a c.2.2.length cap) c.2.2.length (pcells c.2.2):=by
 have hv:j<vs.length:=by rw[h.len];exact hj
 have k:=h.kid j cs[j] vs[j] (List.getElem?_eq_getElem hj) (List.getElem?_eq_getElem hv)
 obtain⟨a,m,cap,e⟩:=own_slice2 k
 rw[e] at k
 obtain⟨rfl,_,i⟩:=isPairs_own k
 exact⟨cs[j],vs[j],List.getElem?_eq_getElem hj,List.getElem?_eq_getElem hv,a,cap,e,i,k⟩
theorem OwnC.kidAt {w:World} {lo e2 g n cap:Nat} {cs:List ChL} {vs:List Value} {j:Nat} {c:ChL} {u:Value} (x y:Value) (hn:n=cs.length) (h:OwnC w lo e2 (.slice (some ⟨g,0,none⟩) n cap) cs vs) (hc:cs[j]? = some c) (hu:vs[j]? = some u):((w.setCell ⟨g,j*3,none⟩ x).setCell ⟨g,j*3+1,none⟩ y).ownsRow lo 46 2 u c.2.2.length (pcells c.2.2):=by
 subst hn
 have s1:=h.row.stored (j*3) x
 have s2:=s1.1.stored (j*3+1) y
 exact kept_row (h.kid j c u hc hu) (s1.2.trans s2.2) (fun k hk=>h.far j u k hu hk)
theorem mod3 (q:Nat):((q:Int) % 3 == 0)=decide (q % 3=0)∧(((q:Int)+1) % 3 == 0)=decide ((q+1) % 3=0):=by
 constructor <;> (rw[Bool.eq_iff_iff];simp;omega)
end Go.Proofs.YtcoahmldmodmlaaGreatDoor
