/-
 Texts that are laid as one: SSrt, SortH, MathSrt, MapG, MathAdd.
-/
import Derived.Test.YtokfcfcdfhoejaaGreatDoorSMades
import Derived.Test.YtokfcfcdfhoejaaGreatDoorPairs
import Derived.Test.YtokfcfcdfhoejaaGreatDoorIListAll
import Derived.Deep.RegionHeld3
import Derived.Test.YtokfcfcdfhoejaaGreatDoorSortAll
import Derived.Test.YtokfcfcdfhoejaaGreatDoorShelfS
import Derived.Test.YtokfcfcdfhoejaaGreatDoorStAll
import Derived.Lib.SliceRun
import Derived.Test.YtokfcfcdfhoejaaGreatDoorLaidAll
import Derived.Test.YtokfcfcdfhoejaaGreatDoorGetAll
import Derived.Maps.Ext
import Derived.Maps.RangeWalk
namespace Go.Proofs.YtokfcfcdfhoejaaGreatDoor
open Go.RowKit
set_option linter.unusedVariables false
theorem below_dkS {B:Nat} {w w':World} {q:Nat} (h:Below B w w'):Below B w (w'.drewN q):=⟨h.os,h.tape,h.output,h.size,h.block⟩
theorem poneS (qs:List PairL):∀ u∈pcells qs,u.oneCell'=true:=by
 induction qs with
 | nil=>simp[pcells]
 | cons p ps ih=>simp[pcells,Value.oneCell'];exact ih
theorem keptZ {w w':World} {b e sz n:Nat} {v:Value} {xs:List Value} (h:w.ownsRow b e sz v n xs) (hb:Below w.heap.size w w'):w'.ownsRow b e sz v n xs :=
 h.kept (row:=none) ⟨hb.os,hb.tape,hb.output,hb.size,fun k hk _=>hb.block k hk⟩ (by cases v.ownBlock with | none=>exact .inl rfl | some k=>exact .inr (by simp))
theorem mapM_each {α β:Type} (f:α→Option β):∀ (xs:List α) (ys:List β),xs.mapM f=some ys→∀ x∈xs,∃ y,f x=some y
 | [],_,_,x,hx=>by simp at hx
 | a :: xs, ys, h, x, hx => by
   rw[List.mapM_cons] at h
   cases ha:f a with
   | none=>rw[ha] at h;cases h
   | some y =>
     rw[ha] at h
     cases hr:xs.mapM f with
     | none=>rw[hr] at h;cases h
     | some zs =>
       rcases List.mem_cons.1 hx with e | e
       · rw[e];exact⟨y,ha⟩
       · exact mapM_each f xs zs hr x e
set_option maxRecDepth 100000 in
theorem key_shape (key:Value) (kl:Lit) (h:keyOf Tryz.prog 56 key=some kl):∃ l:List UInt8,l.length=32∧key=.agg (bcells l).toArray∧kl=keyLit l:=by
 obtain⟨m,hm⟩:∃ m,Tryz.prog.types.size=m+2:=⟨Tryz.prog.types.size - 2,by kernel_rfl⟩
 have h0:=h
 unfold keyOf at h
 simp only[arr32.hu] at h
 split at h
 · rename_i hf
   rw[hm] at h
   unfold Program.keyLits at h
   simp only[arr32.hu] at h
   by_cases hlen0:key.cells.toList.length=Tryz.prog.cellsOf 56
   case neg=>rw[if_neg hlen0] at h;cases h
   rw[if_pos hlen0] at h
   cases key with
   | agg cs =>
     have hlen:cs.toList.length=Tryz.prog.cellsOf 56:=hlen0
     replace h:(((List.range 32).mapM (fun i=>Tryz.prog.keyLits (m+2) 5 ((cs.toList.drop (i*Tryz.prog.cellsOf 5)).take (Tryz.prog.cellsOf 5)))).map List.flatten).map (fun ls=>Lit.string (keyBytes ls))=some kl:=h
     · rw [arr32.size] at hlen
       cases hM:(List.range 32).mapM (fun i=>Tryz.prog.keyLits (m+2) 5 ((cs.toList.drop (i*Tryz.prog.cellsOf 5)).take (Tryz.prog.cellsOf 5))) with
       | none=>rw[hM] at h;cases h
       | some ys =>
         have hcell : ∀ i (hi : i < 32), ∃ b : UInt8, cs.toList[i]'(by omega) = .int .u8 (b.toNat : Int) := fun i hi => by
          obtain⟨y,hy⟩:=mapM_each _ _ _ hM i (List.mem_range.2 hi)
          rw[arr32.one,Nat.mul_one,List.drop_eq_getElem_cons (by omega)] at hy
          simp only[List.take_succ_cons,List.take_zero] at hy
          unfold Program.keyLits at hy
          rw[Tryz.underlying5] at hy
          cases hv:cs.toList[i]'(by omega) with
          | int q n =>
            rw[hv] at hy
            simp only at hy
            split at hy
            · rename_i hq
              obtain⟨rfl,hw⟩:=hq
              simp[Lit.wf,IntKind.min,IntKind.max,IntKind.signed,IntKind.bits] at hw
              refine⟨UInt8.ofNat n.toNat,?_⟩
              congr 1
              simp only[UInt8.toNat_ofNat']
              omega
            · cases hy
          | _=>rw[hv] at hy;simp at hy
         refine⟨(List.range 32).map (fun i=>if hi:i<32 then (hcell i hi).choose else 0),by simp,?_,?_⟩
         · congr 1
           apply Array.ext'
           apply List.ext_getElem
           · simp[bcells];simpa using hlen
           · intro i h1 h2
             have hi:i<32:=by rw[hlen] at h1;exact h1
             rw[(hcell i hi).choose_spec]
             simp[bcells,hi]
         · have hk:(Value.agg cs)=.agg (bcells ((List.range 32).map (fun i=>if hi:i<32 then (hcell i hi).choose else 0))).toArray:=by
            congr 1
            apply Array.ext'
            apply List.ext_getElem
            · simp[bcells];simpa using hlen
            · intro i h1 h2
              have hi:i<32:=by rw[hlen] at h1;exact h1
              rw[(hcell i hi).choose_spec]
              simp[bcells,hi]
           rw[hk,key_reads _ (by simp)] at h0
           exact (Option.some.inj h0).symm
   | _=>simp[Value.formed,arr32.hu] at hf
 · cases h
def HN (t:List UInt8) (v:Value):Prop:=∃ (k:Int) (p:ByteArray) (a:Option Addr) (m c:Nat) (x:ByteArray),v=.agg #[.string ⟨t.toArray⟩,.int .i64 k,.string p,.slice a m c,.string x]
def TxtAt (D:DataW Value) (f:List UInt8→Option (List UInt8)):Prop:=∀ x:List UInt8,x.length=32→(f x=none∧Maps.has D (keyLit x)=false)∨∃ t v,f x=some t∧Maps.has D (keyLit x)=true∧(∀ z,D.atKey (keyLit x) z=.held v)∧HN t v
theorem TxtAt.congr {D:DataW Value} {f g:List UInt8→Option (List UInt8)} (h:TxtAt D f) (e:∀ x,x.length=32→f x=g x):TxtAt D g:=fun x hx=>by rw[←e x hx];exact h x hx
theorem sameKey_ne32 (x y:List UInt8) (hx:x.length=32) (hy:y.length=32):(keyLit x).sameKey (keyLit y)=decide (x=y):=by
 by_cases e:x=y
 · subst e
   rw[decide_eq_true rfl]
   exact WideAt.sameKey_self (keyLit_key x)
 · rw[decide_eq_false e]
   exact Maps.sameKey_ne (keyLit_ne x y hx hy e)
theorem nodup_le {α:Type}:∀ (a b:List α),a.Pairwise (· ≠ ·)→(∀ x∈a,x∈b)→a.length≤b.length
 | [],_,_,_=>by simp
 | x :: a, b, hp, hm => by
   rw[List.pairwise_cons] at hp
   obtain⟨b1,b2,rfl⟩:=List.append_of_mem (hm x (by simp))
   have:=nodup_le a (b1 ++ b2) hp.2 (fun y hy=>by
    have h1:=hm y (List.mem_cons_of_mem _ hy)
    rw[List.mem_append,List.mem_cons] at h1
    rw[List.mem_append]
    rcases h1 with h1 | h1 | h1
    · exact .inl h1
    · exact absurd h1.symm (hp.1 y hy)
    · exact .inr h1)
   simp only[List.length_append,List.length_cons] at this ⊢
   omega
def clashB (ps qs:List PairL):Bool:=qs.any fun q=>match findL ps q.1 with
 | none=>false
 | some t => !(t == q.2)
def addOk (ps qs:List PairL):Bool:=storeOkL ps && (storeOkL qs && (!clashB ps qs && decide ((sortedL (ps ++ qs)).length≤400)))
def addR (ps qs:List PairL):List PairL:=if addOk ps qs=true then sortedL (ps ++ qs) else []
theorem store_rises (ps:List PairL) (h:storeOkL ps=true):ps.Pairwise (fun x y=>x.1<y.1):=by
 rw[List.pairwise_iff_getElem]
 intro i j hi hj hij
 have:=storeOk_rise ps h i (j - i - 1) (by omega)
 rw[show i+1+(j - i - 1)=j by omega,keyAt_lt ps i hi,keyAt_lt ps j hj] at this
 exact (less_iff _ _).1 this
theorem find_iff (ps:List PairL) (h:ps.Pairwise (fun x y=>x.1<y.1)) (x t:List UInt8):findL ps x=some t↔(x,t)∈ps:=by
 constructor
 · intro hf
   unfold findL at hf
   rw[Option.map_eq_some_iff] at hf
   obtain⟨p,hp,rfl⟩:=hf
   have h1:=List.find?_some hp
   have h2:=List.mem_of_find?_eq_some hp
   have e:p.1=x:=by simpa using h1
   rw[←e]
   exact h2
 · intro hm
   exact find_mem ps h (x,t) hm
theorem clash_all (ps qs:List PairL) (h:∀ j (hj:j<qs.length),∀ t',findL ps qs[j].1=some t'→t'=qs[j].2):clashB ps qs=false:=by
 rw[clashB,List.any_eq_false]
 intro q hq
 obtain⟨j,hj,rfl⟩:=List.getElem_of_mem hq
 cases hf:findL ps qs[j].1 with
 | none=>simp
 | some t'=>simp[h j hj t' hf]
theorem clash_at (ps qs:List PairL) (j:Nat) (hj:j<qs.length) (t':List UInt8) (h:findL ps qs[j].1=some t') (hne:t'≠qs[j].2):clashB ps qs=true:=by
 rw[clashB,List.any_eq_true]
 exact⟨_,List.getElem_mem hj,by simp only[h];simpa using hne⟩
end Go.Proofs.YtokfcfcdfhoejaaGreatDoor
