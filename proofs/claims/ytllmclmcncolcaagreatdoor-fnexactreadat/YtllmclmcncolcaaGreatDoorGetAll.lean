import Derived.Test.YtllmclmcncolcaaGreatDoorStAll
import Derived.Test.YtllmclmcncolcaaGreatDoorMath2
import Derived.Maps.Views
import Derived.Maps.OwnSet
import Derived.Test.YtllmclmcncolcaaGreatDoorEmptyR
import Derived.Test.YtllmclmcncolcaaGreatDoorIListAll
import Derived.Test.YtllmclmcncolcaaGreatDoorIReadAll
import Derived.Test.YtllmclmcncolcaaGreatDoorSumI
import Derived.Deep.RegionHeld3
namespace Go.Proofs.YtllmclmcncolcaaGreatDoor
open Go.RowKit
set_option linter.unusedVariables false
theorem five_cells {w:World} {b:Nat} {u v x y z:Value} {t:TypeId} (h:w.heap[b]? = some (.cells #[u,v,x,y,z] t (0,0))) :
 w.cell? ⟨b,0,none⟩=some u∧w.cell? ⟨b,1,none⟩=some v∧w.cell? ⟨b,2,none⟩=some x∧w.cell? ⟨b,3,none⟩=some y∧w.cell? ⟨b,4,none⟩=some z∧∀ j,w.frozen? ⟨b,j,none⟩=false:=by
 refine⟨?_,?_,?_,?_,?_,fun j=>frozen_of_row w b j _ t h⟩ <;> simp only[World.cell?,h] <;> rfl
theorem fiveS_below {B b:Nat} {w w':World} (h:Below B w w') (hb:B≤b) (z0 z1 z2 z3 z4:Value):Below B w (((((w'.setCell ⟨b,0,none⟩ z0).setCell ⟨b,1,none⟩ z1).setCell ⟨b,2,none⟩ z2).setCell ⟨b,3,none⟩ z3).setCell ⟨b,4,none⟩ z4) :=
 ((((h.setCell hb _).setCell hb _).setCell hb _).setCell hb _).setCell hb _
inductive StepL where
 | ends (c:Int) (v:List UInt8)
 | on (h p:List UInt8)
def stepL (n:NodeL) (path:List UInt8):StepL :=
 if n.k=1 then (if n.p=path then .ends 1 n.v else .ends 0 [])
 else if n.k=2 then (if path.take n.p.length=n.p then .on (n.ls.getD 0 []) (path.drop n.p.length) else .ends 0 [])
 else match path with
  | []=>if n.v=[] then .ends 0 [] else .ends 1 n.v
  | x :: r=>if n.ls.getD x.toNat []=[] then .ends 0 [] else .on (n.ls.getD x.toNat []) r
def nodeAt (t:List UInt8):NodeL:=(readNode t).getD zeroN
theorem readNode_ok (t:List UInt8) (n:NodeL) (h:readNode t=some n):n.ok=true:=by
 unfold readNode at h
 split at h
 · cases h
 · unfold keepN at h
   split at h
   · rename_i hk
     cases h
     exact hk.1
   · cases h
theorem nodeAt_ok (t:List UInt8) (h:(readNode t).isSome=true):(nodeAt t).ok=true:=by
 obtain⟨n,hn⟩:=Option.isSome_iff_exists.1 h
 unfold nodeAt
 rw[hn]
 exact readNode_ok t n hn
theorem ok_parts (n:NodeL) (h:n.ok=true):n.p.length≤24∧isNibs n.p=true∧n.v.length≤60∧((n.k=1∧n.ls=[]∧n.v≠[])∨(n.k=2∧n.p≠[]∧n.v=[]∧∃ x,n.ls=[x]∧x.length=32)∨(n.k=3∧n.p=[]∧n.ls.length=16∧∀ l∈n.ls,l=[]∨l.length=32)):=by
 obtain⟨k,p,ls,v⟩:=n
 simp only[NodeL.ok,nodeOk,headOk,Bool.and_eq_true,decide_eq_true_eq] at h
 obtain⟨⟨h1,h2,h3⟩,h4⟩:=h
 refine⟨h1,h2,h3,?_⟩
 unfold kindOk at h4
 split at h4
 · rename_i hk
   simp only[Bool.and_eq_true,decide_eq_true_eq,Bool.not_eq_true'] at h4
   exact .inl ⟨hk,List.length_eq_zero_iff.1 h4.2,fun e=>by subst e;simp at h4⟩
 · split at h4
   · rename_i hk
     simp only[Bool.and_eq_true,decide_eq_true_eq,Bool.not_eq_true'] at h4
     obtain⟨q1,q2,q3,q4⟩:=h4
     obtain⟨x,rfl⟩:=List.length_eq_one_iff.1 q3
     exact .inr (.inl ⟨hk,fun e=>by subst e;simp at q1,List.isEmpty_iff.1 q2,x,rfl,by simpa using q4⟩)
   · split at h4
     · rename_i hk
       simp only[branchOk,Bool.and_eq_true,decide_eq_true_eq,List.all_eq_true] at h4
       obtain⟨q1,q2,q3,q4⟩:=h4
       refine .inr (.inr ⟨hk,List.isEmpty_iff.1 q1,q2,fun l hl=>?_⟩)
       have:=q3 l hl
       simp only[kidOk,Bool.or_eq_true,decide_eq_true_eq] at this
       rcases this with h | h
       · exact .inl (List.isEmpty_iff.1 h)
       · exact .inr h
     · cases h4
def uvR (v:Value):Option (DataW Value × List MemPlace):=match v with
 | .agg ⟨[.string _,.int .i64 _,.string _,.slice _ _ _,.string _]⟩=>some (.held v,[])
 | _=>none
def datV:List PairL→List Value→DataW Value→DataW Value
 | p :: ps,v :: vs,D=>datV ps vs (D.put (keyLit p.1) (.held v))
 | _,_,D=>D
def NodeIs (w:World) (lo:Nat) (t:List UInt8) (v:Value):Prop :=
 ∃ (a:Option Addr) (m c:Nat),v=.agg #[.string ⟨t.toArray⟩,.int .i64 (nodeAt t).k,.string ⟨(nodeAt t).p.toArray⟩,.slice a m c,.string ⟨(nodeAt t).v.toArray⟩]∧w.ownsRow lo 9 1 (.slice a m c) (nodeAt t).ls.length (scells (nodeAt t).ls)
theorem kept1 {w w':World} {b e n:Nat} {v:Value} {xs:List Value} (h:w.ownsRow b e 1 v n xs) (hb:Below w.heap.size w w'):w'.ownsRow b e 1 v n xs :=
 h.kept (row:=none) ⟨hb.os,hb.tape,hb.output,hb.size,fun k hk _=>hb.block k hk⟩ (by cases v.ownBlock with | none=>exact .inl rfl | some k=>exact .inr (by simp))
theorem NodeIs.kept {w w':World} {lo:Nat} {t:List UInt8} {v:Value} {row:Option Nat} (h:NodeIs w lo t v) (hg:w.grownBy w' row) (hr:∀ k,row=some k→k<lo):NodeIs w' lo t v:=by
 obtain⟨a,m,c,hv,ho⟩:=h
 refine⟨a,m,c,hv,ho.kept hg ?_⟩
 cases hb:(Value.slice a m c).ownBlock with
 | none=>exact .inl rfl
 | some k =>
   refine .inr fun e=>?_
   have h1:=(ho.lt k hb).1
   have h2:=hr k e.symm
   omega
end Go.Proofs.YtllmclmcncolcaaGreatDoor
