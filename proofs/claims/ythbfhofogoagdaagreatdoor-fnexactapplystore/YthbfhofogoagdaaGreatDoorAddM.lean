/-
 Texts that are laid as one: SSrt, SortH, MathSrt, MapG, MathAdd.
-/
import Derived.Test.YthbfhofogoagdaaGreatDoorSMades
import Derived.Test.YthbfhofogoagdaaGreatDoorPairs
import Derived.Test.YthbfhofogoagdaaGreatDoorIListAll
import Derived.Deep.RegionHeld3
import Derived.Test.YthbfhofogoagdaaGreatDoorSortAll
import Derived.Test.YthbfhofogoagdaaGreatDoorShelfS
import Derived.Test.YthbfhofogoagdaaGreatDoorStAll
import Derived.Lib.SliceRun
import Derived.Test.YthbfhofogoagdaaGreatDoorLaidAll
import Derived.Test.YthbfhofogoagdaaGreatDoorGetAll
import Derived.Maps.Ext
import Derived.Maps.RangeWalk
namespace Go.Proofs.YthbfhofogoagdaaGreatDoor
open Go.RowKit
set_option linter.unusedVariables false
theorem below_dkS {B:Nat} {w w':World} {q:Nat} (h:Below B w w'):Below B w (w'.drewN q):=⟨h.os,h.tape,h.output,h.size,h.block⟩
theorem poneS (qs:List PairL):∀ u∈pcells qs,u.oneCell'=true:=by
 induction qs with
 | nil=>simp[pcells]
 | cons p ps ih=>simp[pcells,Value.oneCell'];exact ih
theorem keptZ {w w':World} {b e sz n:Nat} {v:Value} {xs:List Value} (h:w.ownsRow b e sz v n xs) (hb:Below w.heap.size w w'):w'.ownsRow b e sz v n xs :=
 h.kept (row:=none) ⟨hb.os,hb.tape,hb.output,hb.size,fun k hk _=>hb.block k hk⟩ (by cases v.ownBlock with | none=>exact .inl rfl | some k=>exact .inr (by simp))
def cmpH (x y:PairL):Int:=Lib.compareBytes x.1 y.1
set_option maxRecDepth 100000 in
set_option maxHeartbeats 4000000 in
theorem cmpH_any (x y:PairL) (W:World) :
 Calls Tryz.prog 104 #[.agg #[.string ⟨x.1.toArray⟩,.string ⟨x.2.toArray⟩],.agg #[.string ⟨y.1.toArray⟩,.string ⟨y.2.toArray⟩]] W fun e w'=>e=.returned (.int .i64 (cmpH x y))∧∃ q os',w'=Sort.grow (W.drewN q) os':=by
 obtain⟨x1,x2⟩:=x
 obtain⟨y1,y2⟩:=y
 have K1:=fun W=>compare_any x1 y1 W
 have HR:Hid (cmpH (x1,x2) (y1,y2)=Lib.compareBytes x1 y1):=rfl
 obtain⟨c1,hc1⟩:∃ c,c=Lib.compareBytes x1 y1:=⟨_,rfl⟩
 rw[←hc1] at K1 HR
 have hS:_∧_∧_∧_:=st_cells W #[.string ⟨x1.toArray⟩,.string ⟨x2.toArray⟩] #[.string ⟨y1.toArray⟩,.string ⟨y2.toArray⟩] 50 _ _ _ _ rfl rfl rfl rfl
 obtain⟨p0,p1,q0,q1⟩:=hS
 have HV:Hid (((W.alloc (.cells #[.string ⟨x1.toArray⟩,.string ⟨x2.toArray⟩] 50)).alloc (.cells #[.string ⟨y1.toArray⟩,.string ⟨y2.toArray⟩] 50))=Sort.grow (W.drewN 0) (#[(.cells #[.string ⟨x1.toArray⟩,.string ⟨x2.toArray⟩] 50)] ++ #[(.cells #[.string ⟨y1.toArray⟩,.string ⟨y2.toArray⟩] 50)])):=by
  rw[Hid,Sort.alloc_eq_grow,Sort.alloc_eq_grow,Sort.grow_grow];rfl
 clear hc1
 go_enter Tryz.func104,Tryz.ntmps104
 go_wp2_with fail
 refine (K1 _).mono ?_
 rintro e w1 ⟨rfl,rfl⟩
 go_wp2
 go_ret
 exact⟨by rw[HR.out];rfl,0,_,HV.out⟩
def ahH (x y:PairL):Prop:=x.1<y.1
theorem lt_ltH (x y:PairL):Go.Proofs.ltOf cmpH x y=true↔ahH x y:=by
 unfold Go.Proofs.ltOf cmpH ahH
 rw[decide_eq_true_iff,cmp_lt]
theorem swoH:Go.Sort.SWO (Go.Proofs.ltOf cmpH):=by
 refine⟨fun x=>?_,fun x y z h1 h2=>?_,fun x y z h1 h2=>?_⟩
 · rw[Bool.eq_false_iff];intro h;exact List.lt_irrefl _ ((lt_ltH x x).1 h)
 · exact (lt_ltH x z).2 (List.lt_trans ((lt_ltH x y).1 h1) ((lt_ltH y z).1 h2))
 · have n1:¬ ahH x y:=fun h=>by rw[(lt_ltH x y).2 h] at h1;cases h1
   have n2:¬ ahH y z:=fun h=>by rw[(lt_ltH y z).2 h] at h2;cases h2
   rw[Bool.eq_false_iff];intro h
   have h3:x.1<z.1:=(lt_ltH x z).1 h
   rcases tri x.1 y.1 with h4 | h4 | h4
   · exact n1 h4
   · exact n2 (by unfold ahH;rw[←h4];exact h3)
   · exact n2 (List.lt_trans h4 h3)
def RisesH (ns:List PairL):Prop:=∀ i j (hi:i<j) (hj:j<ns.length),¬ ahH ns[j] (ns[i]'(by omega))
set_option maxRecDepth 100000 in
set_option maxHeartbeats 1000000 in
theorem sortH_any (B g c:Nat) (ns:List PairL) (w:World) (hl:ns.length≤10000) (ho:w.ownsRow B 50 2 (.slice (some ⟨g,0,none⟩) ns.length c) ns.length (pcells ns)) :
 Calls Tryz.prog 99 #[.slice (some ⟨g,0,none⟩) ns.length c,.func (.func 104) #[] #[]] w fun e w'=>e=.returned (.tuple #[]) ∧
  ∃ ns':List PairL,ns'.Perm ns∧RisesH ns'∧w'.ownsRow B 50 2 (.slice (some ⟨g,0,none⟩) ns.length c) ns.length (pcells ns')∧Below B w w':=by
 have eg:∀ args w,(callFunc 104 args).run Tryz.prog w=.ok (.enter 104 args) w:=enters_of Tryz.func104 (by kernel_rfl) rfl
 have hlt:g<w.heap.size:=by
  rcases own_cases2 ho with ⟨h1,_⟩ | ⟨g',c',h1,_,h2,_⟩
  · cases h1
  · cases h1;exact h2
 have hcl:Go.Proofs.CmpLays Tryz.prog 104 #[] encP 2 cmpH g 0 ns.toArray.size w:=fun _ _ _ _ x y=>cmpH_any x y _
 have hcon:=Go.Proofs.AnyQ.slices_SortFunc Tryz.sortSt 2 Tryz.isAgg50 Tryz.sizeOf50 encP (fun _=>rfl) (fun x v hv=>by simp[encP] at hv;rcases hv with rfl | rfl <;> rfl) cmpH swoH 104 #[] g 0 c ns.toArray w eg hcl (holdsP ho rfl) hlt (by simp;omega)
 have hz:ns.toArray.size=ns.length:=by simp
 rw[hz] at hcon
 change Calls Tryz.prog 99 _ _ _ at hcon
 refine hcon.mono ?_
 rintro e w' ⟨rfl,d',m,os,⟨hps,_,hp⟩,hs,rfl⟩
 have hps':d'.size=ns.length:=by simpa using hps
 refine⟨rfl,d'.toList,?_,?_,?_⟩
 · have e1:ns.take d'.size=ns:=List.take_of_length_le (by omega)
   have hp':d'.toList.Perm (ns.take d'.size):=by simpa [←hps'] using hp
   rw[e1] at hp';exact hp'
 · intro i j hi hj hah
   have hj':j<d'.size:=by simpa using hj
   have:=hs i j (Nat.zero_le _) hi (by simpa [hps'] using hj')
   rw[getElem!_pos d' j hj',getElem!_pos d' i (by omega)] at this
   have h2:=(lt_ltH _ _).2 hah
   simp only[Array.getElem_toList] at h2
   rw[h2] at this;cases this
 · have:=own_put ho (Go.Sort.flatK encP 2 d') (by simp[hps']) m os
   rw[flat_pc] at this
   exact this
theorem mapM_each {α β:Type} (f:α→Option β):∀ (xs:List α) (ys:List β),xs.mapM f=some ys→∀ x∈xs,∃ y,f x=some y
 | [],_,_,x,hx=>by simp at hx
 | a :: xs, ys, h, x, hx => by
   rw[List.mapM_cons] at h
   cases ha:f a with
   | none=>rw[ha] at h;cases h
   | some y =>
     rw[ha] at h
     cases hr:xs.mapM f with
     | none=>rw[hr] at h;cases h
     | some zs =>
       rcases List.mem_cons.1 hx with e | e
       · rw[e];exact⟨y,ha⟩
       · exact mapM_each f xs zs hr x e
set_option maxRecDepth 100000 in
theorem key_shape (key:Value) (kl:Lit) (h:keyOf Tryz.prog 107 key=some kl):∃ l:List UInt8,l.length=32∧key=.agg (bcells l).toArray∧kl=keyLit l:=by
 obtain⟨m,hm⟩:∃ m,Tryz.prog.types.size=m+2:=⟨Tryz.prog.types.size - 2,by kernel_rfl⟩
 have h0:=h
 unfold keyOf at h
 simp only[arr32.hu] at h
 split at h
 · rename_i hf
   rw[hm] at h
   unfold Program.keyLits at h
   simp only[arr32.hu] at h
   by_cases hlen0:key.cells.toList.length=Tryz.prog.cellsOf 107
   case neg=>rw[if_neg hlen0] at h;cases h
   rw[if_pos hlen0] at h
   cases key with
   | agg cs =>
     have hlen:cs.toList.length=Tryz.prog.cellsOf 107:=hlen0
     replace h:(((List.range 32).mapM (fun i=>Tryz.prog.keyLits (m+2) 5 ((cs.toList.drop (i*Tryz.prog.cellsOf 5)).take (Tryz.prog.cellsOf 5)))).map List.flatten).map (fun ls=>Lit.string (keyBytes ls))=some kl:=h
     · rw [arr32.size] at hlen
       cases hM:(List.range 32).mapM (fun i=>Tryz.prog.keyLits (m+2) 5 ((cs.toList.drop (i*Tryz.prog.cellsOf 5)).take (Tryz.prog.cellsOf 5))) with
       | none=>rw[hM] at h;cases h
       | some ys =>
         have hcell : ∀ i (hi : i < 32), ∃ b : UInt8, cs.toList[i]'(by omega) = .int .u8 (b.toNat : Int) := fun i hi => by
          obtain⟨y,hy⟩:=mapM_each _ _ _ hM i (List.mem_range.2 hi)
          rw[arr32.one,Nat.mul_one,List.drop_eq_getElem_cons (by omega)] at hy
          simp only[List.take_succ_cons,List.take_zero] at hy
          unfold Program.keyLits at hy
          rw[Tryz.underlying5] at hy
          cases hv:cs.toList[i]'(by omega) with
          | int q n =>
            rw[hv] at hy
            simp only at hy
            split at hy
            · rename_i hq
              obtain⟨rfl,hw⟩:=hq
              simp[Lit.wf,IntKind.min,IntKind.max,IntKind.signed,IntKind.bits] at hw
              refine⟨UInt8.ofNat n.toNat,?_⟩
              congr 1
              simp only[UInt8.toNat_ofNat']
              omega
            · cases hy
          | _=>rw[hv] at hy;simp at hy
         refine⟨(List.range 32).map (fun i=>if hi:i<32 then (hcell i hi).choose else 0),by simp,?_,?_⟩
         · congr 1
           apply Array.ext'
           apply List.ext_getElem
           · simp[bcells];simpa using hlen
           · intro i h1 h2
             have hi:i<32:=by rw[hlen] at h1;exact h1
             rw[(hcell i hi).choose_spec]
             simp[bcells,hi]
         · have hk:(Value.agg cs)=.agg (bcells ((List.range 32).map (fun i=>if hi:i<32 then (hcell i hi).choose else 0))).toArray:=by
            congr 1
            apply Array.ext'
            apply List.ext_getElem
            · simp[bcells];simpa using hlen
            · intro i h1 h2
              have hi:i<32:=by rw[hlen] at h1;exact h1
              rw[(hcell i hi).choose_spec]
              simp[bcells,hi]
           rw[hk,key_reads _ (by simp)] at h0
           exact (Option.some.inj h0).symm
   | _=>simp[Value.formed,arr32.hu] at hf
 · cases h
def HN (t:List UInt8) (v:Value):Prop:=∃ (k:Int) (p:ByteArray) (a:Option Addr) (m c:Nat) (x:ByteArray),v=.agg #[.string ⟨t.toArray⟩,.int .i64 k,.string p,.slice a m c,.string x]
def TxtAt (D:DataW Value) (f:List UInt8→Option (List UInt8)):Prop:=∀ x:List UInt8,x.length=32→(f x=none∧Maps.has D (keyLit x)=false)∨∃ t v,f x=some t∧Maps.has D (keyLit x)=true∧(∀ z,D.atKey (keyLit x) z=.held v)∧HN t v
theorem heldM_txt {w:World} {B:Nat} {ps:List PairL} (hs:storeOkL ps=true) (h:HeldM w B ps ps.length):∃ D:DataW Value,w.ownsMap Tryz.prog 107 uvR B ps.length D∧TxtAt D (findL ps):=by
 have h0:=h
 obtain⟨vs,h1,h2,h3⟩:=h
 refine⟨_,h2,fun x hx=>?_⟩
 have hun:∀ (D:DataW Value),w.ownsMap Tryz.prog 107 uvR B ps.length D→D=datV ps vs (.map []):=fun D hD=>by
  obtain⟨es,cl,e1,F1,_,rfl⟩:=hD
  obtain⟨es',cl',e2,F2,_,e3⟩:=h2
  rw[e1] at e2
  cases e2
  exact e3.symm
 obtain⟨D,hD,hc⟩:=heldM_at hs h0 x hx
 rw[hun D hD] at hc
 rcases hc with ⟨q1,q2,_⟩ | ⟨t,v,q1,_,q3,q4,a,m,c,rfl,_⟩
 · exact .inl ⟨q1,q2⟩
 · exact .inr ⟨t,_,q1,q3,q4,_,_,a,m,c,_,rfl⟩
theorem txtAt_put {D:DataW Value} {f:List UInt8→Option (List UInt8)} (h:TxtAt D f) (hD:Maps.IsMap D) (y:List UInt8) (hy:y.length=32) (t:List UInt8) (v:Value) (hv:HN t v):TxtAt (D.put (keyLit y) (.held v)) (fun x=>if x=y then some t else f x):=fun x hx=>by
 by_cases e:x=y
 · subst e
   exact .inr ⟨t,v,by simp,Maps.has_put_same hD (keyLit_key _) _,fun z=>Maps.atKey_put_same hD (keyLit_key _) _ _,hv⟩
 · have hne:=keyLit_ne x y hx hy e
   simp only[if_neg e]
   rcases h x hx with ⟨h1,h2⟩ | ⟨u,v',h1,h2,h3,h4⟩
   · exact .inl ⟨h1,by rw[Maps.has_put_other hne];exact h2⟩
   · exact .inr ⟨u,v',h1,by rw[Maps.has_put_other hne];exact h2,fun z=>by rw[Maps.atKey_put_other hne];exact h3 z,h4⟩
theorem TxtAt.congr {D:DataW Value} {f g:List UInt8→Option (List UInt8)} (h:TxtAt D f) (e:∀ x,x.length=32→f x=g x):TxtAt D g:=fun x hx=>by rw[←e x hx];exact h x hx
theorem txtAt_has {D:DataW Value} {f:List UInt8→Option (List UInt8)} (h:TxtAt D f) (x:List UInt8) (hx:x.length=32):Maps.has D (keyLit x)=(f x).isSome:=by
 rcases h x hx with ⟨h1,h2⟩ | ⟨t,v,h1,h2,_⟩
 · rw[h1,h2];rfl
 · rw[h1,h2];rfl
theorem sameKey_ne32 (x y:List UInt8) (hx:x.length=32) (hy:y.length=32):(keyLit x).sameKey (keyLit y)=decide (x=y):=by
 by_cases e:x=y
 · subst e
   rw[decide_eq_true rfl]
   exact WideAt.sameKey_self (keyLit_key x)
 · rw[decide_eq_false e]
   exact Maps.sameKey_ne (keyLit_ne x y hx hy e)
theorem nodup_le {α:Type}:∀ (a b:List α),a.Pairwise (· ≠ ·)→(∀ x∈a,x∈b)→a.length≤b.length
 | [],_,_,_=>by simp
 | x :: a, b, hp, hm => by
   rw[List.pairwise_cons] at hp
   obtain⟨b1,b2,rfl⟩:=List.append_of_mem (hm x (by simp))
   have:=nodup_le a (b1 ++ b2) hp.2 (fun y hy=>by
    have h1:=hm y (List.mem_cons_of_mem _ hy)
    rw[List.mem_append,List.mem_cons] at h1
    rw[List.mem_append]
    rcases h1 with h1 | h1 | h1
    · exact .inl h1
    · exact absurd h1.symm (hp.1 y hy)
    · exact .inr h1)
   simp only[List.length_append,List.length_cons] at this ⊢
   omega
theorem txtAt_size {w:World} {B n:Nat} {D:DataW Value} {f:List UInt8→Option (List UInt8)} (hown:w.ownsMap Tryz.prog 107 uvR B n D) (h:TxtAt D f) (U:List (List UInt8)) (hU:U.Pairwise (· ≠ ·)) (h32:∀ x∈U,x.length=32) (hm:∀ x,x.length=32→(x∈U↔(f x).isSome=true)):Maps.size D=U.length:=by
 have hE:∃ es:List (Lit × DataW Value),D=.map es∧es.Pairwise (fun p q=>p.1≠q.1)∧∀ p∈es,∃ x:List UInt8,x.length=32∧p.1=keyLit x:=by
  obtain⟨es,h1,h2,_⟩:=hown.entries keyedH
  refine⟨es,h1,h2,fun p hp=>?_⟩
  obtain⟨es',clock,_,F,_,hD⟩:=hown
  rw[h1] at hD
  cases hD
  obtain⟨x,hx,rfl⟩:=List.mem_map.1 (mem_sorted.1 hp)
  obtain⟨y,hy⟩:=F.reads x hx
  obtain⟨l,hl,_,hk⟩:=key_shape _ _ (WideElems.rd_key hy)
  exact⟨l,hl,by rw[WideElems.rg_of hy,hk]⟩
 obtain⟨es,rfl,hp,hk⟩:=hE
 rw[Maps.size_eq]
 have hhas:∀ x:List UInt8,x.length=32→((∃ p∈es,p.1=keyLit x)↔x∈U):=fun x hx=>by
  rw[hm x hx,←txtAt_has h x hx,Maps.has_eq,List.any_eq_true]
  constructor
  · rintro⟨p,hp,e⟩
    exact⟨p,hp,by rw[e];exact WideAt.sameKey_self (keyLit_key x)⟩
  · rintro⟨p,hp,e⟩
    exact⟨p,hp,WideAt.sameKey_eq e⟩
 apply Nat.le_antisymm
 · have:=nodup_le (es.map (·.1)) (U.map keyLit) (by rw[List.pairwise_map];exact hp) (fun y hy=>by
    obtain⟨p,hp',rfl⟩:=List.mem_map.1 hy
    obtain⟨x,hx,e⟩:=hk p hp'
    rw[e]
    exact List.mem_map_of_mem ((hhas x hx).1 ⟨p,hp',e⟩))
   simpa using this
 · have:=nodup_le (U.map keyLit) (es.map (·.1)) (by
    rw[List.pairwise_map]
    exact hU.imp_of_mem fun {a b} ha hb hab=>keyLit_ne a b (h32 a ha) (h32 b hb) hab) (fun y hy=>by
    obtain⟨x,hx,rfl⟩:=List.mem_map.1 hy
    obtain⟨p,hp',e⟩:=(hhas x (h32 x hx)).2 hx
    rw[←e]
    exact List.mem_map_of_mem hp')
   simpa using this
def clashB (ps qs:List PairL):Bool:=qs.any fun q=>match findL ps q.1 with
 | none=>false
 | some t => !(t == q.2)
def addOk (ps qs:List PairL):Bool:=storeOkL ps && (storeOkL qs && (!clashB ps qs && decide ((sortedL (ps ++ qs)).length≤400)))
def addR (ps qs:List PairL):List PairL:=if addOk ps qs=true then sortedL (ps ++ qs) else []
def unionF (ps qs:List PairL) (x:List UInt8):Option (List UInt8):=(findL qs x).or (findL ps x)
theorem store_rises (ps:List PairL) (h:storeOkL ps=true):ps.Pairwise (fun x y=>x.1<y.1):=by
 rw[List.pairwise_iff_getElem]
 intro i j hi hj hij
 have:=storeOk_rise ps h i (j - i - 1) (by omega)
 rw[show i+1+(j - i - 1)=j by omega,keyAt_lt ps i hi,keyAt_lt ps j hj] at this
 exact (less_iff _ _).1 this
theorem find_iff (ps:List PairL) (h:ps.Pairwise (fun x y=>x.1<y.1)) (x t:List UInt8):findL ps x=some t↔(x,t)∈ps:=by
 constructor
 · intro hf
   unfold findL at hf
   rw[Option.map_eq_some_iff] at hf
   obtain⟨p,hp,rfl⟩:=hf
   have h1:=List.find?_some hp
   have h2:=List.mem_of_find?_eq_some hp
   have e:p.1=x:=by simpa using h1
   rw[←e]
   exact h2
 · intro hm
   exact find_mem ps h (x,t) hm
theorem clash_no (ps qs:List PairL) (hq:qs.Pairwise (fun x y=>x.1<y.1)) (h:clashB ps qs=false) (x t t':List UInt8) (h1:findL qs x=some t) (h2:findL ps x=some t'):t'=t:=by
 rw[find_iff qs hq] at h1
 rw[clashB,List.any_eq_false] at h
 have:=h _ h1
 simp only[h2] at this
 simpa using this
theorem clash_yes (ps qs:List PairL) (hq:qs.Pairwise (fun x y=>x.1<y.1)) (x t t':List UInt8) (h1:findL qs x=some t) (h2:findL ps x=some t') (hne:t'≠t):clashB ps qs=true:=by
 rw[find_iff qs hq] at h1
 rw[clashB,List.any_eq_true]
 exact⟨_,h1,by simp only[h2];simpa using hne⟩
theorem clash_all (ps qs:List PairL) (h:∀ j (hj:j<qs.length),∀ t',findL ps qs[j].1=some t'→t'=qs[j].2):clashB ps qs=false:=by
 rw[clashB,List.any_eq_false]
 intro q hq
 obtain⟨j,hj,rfl⟩:=List.getElem_of_mem hq
 cases hf:findL ps qs[j].1 with
 | none=>simp
 | some t'=>simp[h j hj t' hf]
theorem clash_at (ps qs:List PairL) (j:Nat) (hj:j<qs.length) (t':List UInt8) (h:findL ps qs[j].1=some t') (hne:t'≠qs[j].2):clashB ps qs=true:=by
 rw[clashB,List.any_eq_true]
 exact⟨_,List.getElem_mem hj,by simp only[h];simpa using hne⟩
theorem union_mem (ps qs:List PairL) (hp:ps.Pairwise (fun x y=>x.1<y.1)) (hq:qs.Pairwise (fun x y=>x.1<y.1)) (hc:clashB ps qs=false) (x t:List UInt8):unionF ps qs x=some t↔(x,t)∈ps ++ qs:=by
 unfold unionF
 rw[List.mem_append,←find_iff ps hp,←find_iff qs hq]
 cases h1:findL qs x with
 | none=>simp
 | some u =>
   simp only[Option.or,Option.some.injEq]
   constructor
   · intro e;exact .inr e
   · rintro (e | e)
     · exact (clash_no ps qs hq hc x u t h1 e).symm
     · exact e
theorem union_same (ps qs:List PairL) (hp:ps.Pairwise (fun x y=>x.1<y.1)) (hq:qs.Pairwise (fun x y=>x.1<y.1)) (hc:clashB ps qs=false):∀ x∈ps ++ qs,∀ y∈ps ++ qs,x.1=y.1→x=y:=by
 intro x hx y hy e
 have h1:=(union_mem ps qs hp hq hc x.1 x.2).2 hx
 have h2:=(union_mem ps qs hp hq hc y.1 y.2).2 hy
 rw[e,h2] at h1
 exact Prod.ext e (Option.some.inj h1).symm
theorem union_keys (ps qs:List PairL) (hp:storeOkL ps=true) (hq:storeOkL qs=true) (hc:clashB ps qs=false):((sortedL (ps ++ qs)).map (·.1)).Pairwise (· ≠ ·)∧(∀ x∈(sortedL (ps ++ qs)).map (·.1),x.length=32)∧∀ x,x∈(sortedL (ps ++ qs)).map (·.1)↔(unionF ps qs x).isSome=true:=by
 obtain⟨s1,s2,s3⟩:=sorted_facts (ps ++ qs)
 refine⟨?_,fun x hx=>?_,fun x=>?_⟩
 · rw[List.pairwise_map]
   exact s1.imp fun {a b} h e=>by rw[e] at h;exact List.lt_irrefl _ h
 · obtain⟨p,hp',rfl⟩:=List.mem_map.1 hx
   have:=s2 p hp'
   rw[List.mem_append] at this
   rcases this with h | h
   · exact storeOk_32 ps hp p h
   · exact storeOk_32 qs hq p h
 · constructor
   · intro hx
     obtain⟨p,hp',rfl⟩:=List.mem_map.1 hx
     rw[(union_mem ps qs (store_rises ps hp) (store_rises qs hq) hc p.1 p.2).2 (s2 p hp')]
     rfl
   · intro hx
     obtain⟨t,ht⟩:=Option.isSome_iff_exists.1 hx
     rw[union_mem ps qs (store_rises ps hp) (store_rises qs hq) hc] at ht
     obtain⟨y,hy,he⟩:=s3 _ ht
     exact List.mem_map.2 ⟨y,hy,he⟩
end Go.Proofs.YthbfhofogoagdaaGreatDoor
