/-
 Texts that are laid as one: SSrt, SortH, MathSrt, MapG, MathAdd.
-/
import Derived.Test.YtckoglgcjcmmkaaGreatDoorSMades
import Derived.Test.YtckoglgcjcmmkaaGreatDoorPairs
import Derived.Test.YtckoglgcjcmmkaaGreatDoorIListAll
import Derived.Deep.RegionHeld3
import Derived.Test.YtckoglgcjcmmkaaGreatDoorSortAll
import Derived.Test.YtckoglgcjcmmkaaGreatDoorShelfS
import Derived.Test.YtckoglgcjcmmkaaGreatDoorStAll
import Derived.Lib.SliceRun
import Derived.Test.YtckoglgcjcmmkaaGreatDoorLaidAll
import Derived.Test.YtckoglgcjcmmkaaGreatDoorGetAll
import Derived.Maps.Ext
import Derived.Maps.RangeWalk
namespace Go.Proofs.YtckoglgcjcmmkaaGreatDoor
open Go.RowKit
set_option linter.unusedVariables false
theorem below_dkS {B:Nat} {w w':World} {q:Nat} (h:Below B w w'):Below B w (w'.drewN q):=⟨h.os,h.tape,h.output,h.size,h.block⟩
theorem poneS (qs:List PairL):∀ u∈pcells qs,u.oneCell'=true:=by
 induction qs with
 | nil=>simp[pcells]
 | cons p ps ih=>simp[pcells,Value.oneCell'];exact ih
theorem keptZ {w w':World} {b e sz n:Nat} {v:Value} {xs:List Value} (h:w.ownsRow b e sz v n xs) (hb:Below w.heap.size w w'):w'.ownsRow b e sz v n xs :=
 h.kept (row:=none) ⟨hb.os,hb.tape,hb.output,hb.size,fun k hk _=>hb.block k hk⟩ (by cases v.ownBlock with | none=>exact .inl rfl | some k=>exact .inr (by simp))
def HN (t:List UInt8) (v:Value):Prop:=∃ (k:Int) (p:ByteArray) (a:Option Addr) (m c:Nat) (x:ByteArray),v=.agg #[.string ⟨t.toArray⟩,.int .i64 k,.string p,.slice a m c,.string x]
def TxtAt (D:DataW Value) (f:List UInt8→Option (List UInt8)):Prop:=∀ x:List UInt8,x.length=32→(f x=none∧Maps.has D (keyLit x)=false)∨∃ t v,f x=some t∧Maps.has D (keyLit x)=true∧(∀ z,D.atKey (keyLit x) z=.held v)∧HN t v
theorem TxtAt.congr {D:DataW Value} {f g:List UInt8→Option (List UInt8)} (h:TxtAt D f) (e:∀ x,x.length=32→f x=g x):TxtAt D g:=fun x hx=>by rw[←e x hx];exact h x hx
def clashB (ps qs:List PairL):Bool:=qs.any fun q=>match findL ps q.1 with
 | none=>false
 | some t => !(t == q.2)
def addOk (ps qs:List PairL):Bool:=storeOkL ps && (storeOkL qs && (!clashB ps qs && decide ((sortedL (ps ++ qs)).length≤400)))
def addR (ps qs:List PairL):List PairL:=if addOk ps qs=true then sortedL (ps ++ qs) else []
theorem clash_all (ps qs:List PairL) (h:∀ j (hj:j<qs.length),∀ t',findL ps qs[j].1=some t'→t'=qs[j].2):clashB ps qs=false:=by
 rw[clashB,List.any_eq_false]
 intro q hq
 obtain⟨j,hj,rfl⟩:=List.getElem_of_mem hq
 cases hf:findL ps qs[j].1 with
 | none=>simp
 | some t'=>simp[h j hj t' hf]
theorem clash_at (ps qs:List PairL) (j:Nat) (hj:j<qs.length) (t':List UInt8) (h:findL ps qs[j].1=some t') (hne:t'≠qs[j].2):clashB ps qs=true:=by
 rw[clashB,List.any_eq_true]
 exact⟨_,List.getElem_mem hj,by simp only[h];simpa using hne⟩
end Go.Proofs.YtckoglgcjcmmkaaGreatDoor
