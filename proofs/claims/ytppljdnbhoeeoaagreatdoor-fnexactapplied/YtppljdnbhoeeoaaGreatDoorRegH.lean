/-
 Steps of a region that draws its order, by hand: what the step yields is walked by the lemma's own last arguments.
-/
import Derived.Test.YtppljdnbhoeeoaaGreatDoorPairs
namespace Go.Proofs.YtppljdnbhoeeoaaGreatDoor
open Go.RowKit
set_option linter.unusedVariables false
theorem lA {α:Type _} (l:List α) (i:Nat) (x:α):l.toArray.setIfInBounds i x=(l.set i x).toArray:=List.setIfInBounds_toArray l i x
theorem lB {α:Type _} (x y:α) (l:List α):(x :: l).set 0 y=y :: l:=List.set_cons_zero
theorem lC {α:Type _} (x y:α) (l:List α) (n:Nat):(x :: l).set (n+1) y=x :: l.set n y:=List.set_cons_succ
def nthO:List Oper→Nat→Option Oper
 | o :: _,0=>some o
 | _ :: l,n+1=>nthO l n
 | [],_=>none
theorem za0r (l:List Oper) (i:Nat):nthO l i=l[i]? := by
 induction l generalizing i with
 | nil=>simp[nthO]
 | cons o l ih => cases i with
   | zero=>rfl
   | succ n=>simp[nthO,ih]
theorem zqi {ops:Array Oper} {i:Nat} {o:Oper} (h:nthO ops.toList i=some o):ops[i]? = some o:=by rw[za0r] at h;simpa using h
theorem yL (i:Nat) {oi:Oper} {v:Value} {P:Program} {md:Region.Mode} {ops:Array Oper} {Q:Exit→Act→World→Prop} {S:World→Prop} {fuel:Nat} {listed:Array Bool} {a b:Act} {w:World}
 (h:wpAnyH P md ops Q S fuel (listed.setIfInBounds i true) b w) (hi:nthO ops.toList i=some oi:=by rfl) (hS:S w:=by assumption) (hs:Region.noSelect ops=true:=by kernel_rfl) (hf:Region.free md ops listed i=true:=by kernel_rfl) (hr:(Region.ready md ops listed).contains i=true:=by kernel_rfl)
 (hw:Region.wanted oi (yielded ops a.tmps)=true:=by rfl) (hy:∀ w,S w→(execOp a.eval oi).run P w=.ok (.value v) w:=by intro w hSw;(try dsimp only at hSw);go_simp;(try with_reducible rfl))
 (hb:a.put oi.dst v=b:=by simp only[Act.put,lA,lB,lC];exact rfl) (hQ:∀ c a w,Q (.panic c) (a.put oi.dst v) w→Q (.panic c) a w:=by exact fun _ _ _ h=>h):wpAnyH P md ops Q S (fuel+1) listed a w:=by
 subst hb
 exact wpAnyH_take (zqi hi) hs hf hr hQ (.inl ⟨hw,hy⟩) hS h
theorem nL (i:Nat) {oi:Oper} {P:Program} {md:Region.Mode} {ops:Array Oper} {Q:Exit→Act→World→Prop} {S:World→Prop} {fuel:Nat} {listed:Array Bool} {a b:Act} {w:World}
 (h:wpAnyH P md ops Q S fuel (listed.setIfInBounds i true) b w) (hi:nthO ops.toList i=some oi:=by rfl) (hS:S w:=by assumption) (hs:Region.noSelect ops=true:=by kernel_rfl) (hf:Region.free md ops listed i=true:=by kernel_rfl) (hr:(Region.ready md ops listed).contains i=true:=by kernel_rfl)
 (hw:Region.wanted oi (yielded ops a.tmps)=false:=by rfl) (hb:a.put oi.dst undef=b:=by simp only[Act.put,lA,lB,lC];exact rfl) (hQ:∀ c a w,Q (.panic c) (a.put oi.dst undef) w→Q (.panic c) a w:=by exact fun _ _ _ h=>h):wpAnyH P md ops Q S (fuel+1) listed a w:=by
 subst hb
 exact wpAnyH_take (zqi hi) hs hf hr hQ (.inr ⟨hw,rfl⟩) hS h
end Go.Proofs.YtppljdnbhoeeoaaGreatDoor
