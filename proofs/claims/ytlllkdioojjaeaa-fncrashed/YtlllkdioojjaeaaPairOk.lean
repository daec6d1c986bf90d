import Derived.Test.YtlllkdioojjaeaaMathPair
import Derived.Test.YtlllkdioojjaeaaMath2
import Derived.BigQuiet
import Derived.Deep.QuietTactic
namespace Go.Proofs.Ytlllkdioojjaeaa
open Go.RowKit
set_option linter.unusedVariables false
def keyAt (ps:List PairL) (j:Nat):List UInt8:=(ps.getD j ([],[])).1
def valAt (ps:List PairL) (j:Nat):List UInt8:=(ps.getD j ([],[])).2
def okAt (ps:List PairL) (j:Nat):Bool:=decide ((keyAt ps j).length≤12) && decide (1≤(valAt ps j).length) && decide ((valAt ps j).length≤60) && (decide (j=0) || Op.bytesLess (keyAt ps (j - 1)) (keyAt ps j))
def pairsOkL (ps:List PairL):Bool:=decide (ps.length≤60) && (List.range ps.length).all (okAt ps)
theorem pairsOk_big (ps:List PairL) (h:¬ ps.length≤60):pairsOkL ps=false:=by simp[pairsOkL,h]
theorem pairsOk_bad (ps:List PairL) (j:Nat) (h:j<ps.length) (hb:okAt ps j=false):pairsOkL ps=false:=by
 have:(List.range ps.length).all (okAt ps)=false:=by
  rw[List.all_eq_false]
  exact⟨j,List.mem_range.2 h,by simp[hb]⟩
 simp[pairsOkL,this]
theorem pairsOk_all (ps:List PairL) (h60:ps.length≤60) (h:∀ j,j<ps.length→okAt ps j=true):pairsOkL ps=true:=by
 simp only[pairsOkL,Bool.and_eq_true,decide_eq_true_eq,List.all_eq_true,List.mem_range]
 exact⟨h60,h⟩
theorem pairsOk_of (ps:List PairL) (h:pairsOkL ps=true):ps.length≤60∧∀ j,j<ps.length→okAt ps j=true:=by
 simpa only[pairsOkL,Bool.and_eq_true,decide_eq_true_eq,List.all_eq_true,List.mem_range] using h
theorem keyAt_lt (ps:List PairL) (j:Nat) (h:j<ps.length):keyAt ps j=ps[j].1:=by simp[keyAt,h]
theorem valAt_lt (ps:List PairL) (j:Nat) (h:j<ps.length):valAt ps j=ps[j].2:=by simp[valAt,h]
theorem below_dr {B:Nat} {w w':World} {q:Nat} (h:Below B w w'):Below B w (w'.drewN q):=⟨h.os,h.tape,h.output,h.size,h.block⟩
theorem ba_toList (l:List UInt8):(⟨l.toArray⟩:ByteArray).toList=l:=by simp
end Go.Proofs.Ytlllkdioojjaeaa
