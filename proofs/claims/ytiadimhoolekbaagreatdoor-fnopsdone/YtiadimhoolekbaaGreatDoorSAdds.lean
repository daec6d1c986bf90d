/-
 Texts that are laid as one: SSrt, SortH, MathSrt, MapG, MathAdd, SAdd, SAddG.
-/
import Derived.Test.YtiadimhoolekbaaGreatDoorLaidAll
import Derived.Test.YtiadimhoolekbaaGreatDoorGetAll
import Derived.Maps.Ext
import Derived.Maps.RangeWalk
namespace Go.Proofs.YtiadimhoolekbaaGreatDoor
open Go.RowKit
set_option linter.unusedVariables false
set_option maxHeartbeats 4000000
set_option maxRecDepth 100000
theorem za5x {B:Nat} {w w':World} {q:Nat} (h:Below B w w'):Below B w (w'.drewN q):=⟨h.os,h.tape,h.output,h.size,h.block⟩
theorem zsm (qs:List za):∀ u∈zc qs,u.oneCell'=true:=by
 induction qs with
 | nil=>simp[zc]
 | cons p ps ih=>simp[zc,Value.oneCell'];exact ih
theorem za2a {w w':World} {b e sz n:Nat} {v:Value} {xs:List Value} (h:w.ownsRow b e sz v n xs) (hb:Below w.heap.size w w'):w'.ownsRow b e sz v n xs :=
 h.kept (row:=none) ⟨hb.os,hb.tape,hb.output,hb.size,fun k hk _=>hb.block k hk⟩ (by cases v.ownBlock with | none=>exact .inl rfl | some k=>exact .inr (by simp))
def cmpH (x y:za):Int:=Lib.compareBytes x.1 y.1
theorem za2b (x y:za) (W:World) :
 Calls Tryz.prog 105 #[.agg #[.string ⟨x.1.toArray⟩,.string ⟨x.2.toArray⟩],.agg #[.string ⟨y.1.toArray⟩,.string ⟨y.2.toArray⟩]] W fun e w'=>e=.returned (.int .i64 (cmpH x y))∧∃ q os',w'=Sort.grow (W.drewN q) os':=by
 obtain⟨x1,x2⟩:=x
 obtain⟨y1,y2⟩:=y
 have K1:=fun W=>zjx x1 y1 W
 have HR:Hid (cmpH (x1,x2) (y1,y2)=Lib.compareBytes x1 y1):=rfl
 obtain⟨c1,hc1⟩:∃ c,c=Lib.compareBytes x1 y1:=⟨_,rfl⟩
 rw[←hc1] at K1 HR
 have hS:_∧_∧_∧_:=ztt W #[.string ⟨x1.toArray⟩,.string ⟨x2.toArray⟩] #[.string ⟨y1.toArray⟩,.string ⟨y2.toArray⟩] 83 _ _ _ _ rfl rfl rfl rfl
 obtain⟨p0,p1,q0,q1⟩:=hS
 have HV:Hid (((W.alloc (.cells #[.string ⟨x1.toArray⟩,.string ⟨x2.toArray⟩] 83)).alloc (.cells #[.string ⟨y1.toArray⟩,.string ⟨y2.toArray⟩] 83))=Sort.grow (W.drewN 0) (#[(.cells #[.string ⟨x1.toArray⟩,.string ⟨x2.toArray⟩] 83)] ++ #[(.cells #[.string ⟨y1.toArray⟩,.string ⟨y2.toArray⟩] 83)])):=by
  rw[Hid,Sort.alloc_eq_grow,Sort.alloc_eq_grow,Sort.grow_grow];rfl
 clear hc1
 go_enter Tryz.func105,Tryz.ntmps105
 go_wp2_with fail
 refine (K1 _).mono ?_
 rintro e w1 ⟨rfl,rfl⟩
 go_wp2
 go_ret
 exact⟨by rw[HR.out];rfl,0,_,HV.out⟩
def ahH (x y:za):Prop:=x.1<y.1
theorem zf1 (x y:za):Go.Proofs.ltOf cmpH x y=true↔ahH x y:=by
 unfold Go.Proofs.ltOf cmpH ahH
 rw[decide_eq_true_iff,zn6]
theorem swoH:Go.Sort.SWO (Go.Proofs.ltOf cmpH):=by
 refine⟨fun x=>?_,fun x y z h1 h2=>?_,fun x y z h1 h2=>?_⟩
 · rw[Bool.eq_false_iff];intro h;exact List.lt_irrefl _ ((zf1 x x).1 h)
 · exact (zf1 x z).2 (List.lt_trans ((zf1 x y).1 h1) ((zf1 y z).1 h2))
 · have n1:¬ ahH x y:=fun h=>by rw[(zf1 x y).2 h] at h1;cases h1
   have n2:¬ ahH y z:=fun h=>by rw[(zf1 y z).2 h] at h2;cases h2
   rw[Bool.eq_false_iff];intro h
   have h3:x.1<z.1:=(zf1 x z).1 h
   rcases tri x.1 y.1 with h4 | h4 | h4
   · exact n1 h4
   · exact n2 (by unfold ahH;rw[←h4];exact h3)
   · exact n2 (List.lt_trans h4 h3)
def zhf (ns:List za):Prop:=∀ i j (hi:i<j) (hj:j<ns.length),¬ ahH ns[j] (ns[i]'(by omega))
theorem za2c (B g c:Nat) (ns:List za) (w:World) (hl:ns.length≤10000) (ho:w.ownsRow B 83 2 (.slice (some ⟨g,0,none⟩) ns.length c) ns.length (zc ns)) :
 Calls Tryz.prog 98 #[.slice (some ⟨g,0,none⟩) ns.length c,.func (.func 105) #[] #[]] w fun e w'=>e=.returned (.tuple #[]) ∧
  ∃ ns':List za,ns'.Perm ns∧zhf ns'∧w'.ownsRow B 83 2 (.slice (some ⟨g,0,none⟩) ns.length c) ns.length (zc ns')∧Below B w w':=by
 have eg:∀ args w,(callFunc 105 args).run Tryz.prog w=.ok (.enter 105 args) w:=enters_of Tryz.func105 (by kernel_rfl) rfl
 have hlt:g<w.heap.size:=by
  rcases zcb ho with ⟨h1,_⟩ | ⟨g',c',h1,_,h2,_⟩
  · cases h1
  · cases h1;exact h2
 have hcl:Go.Proofs.CmpLays Tryz.prog 105 #[] encP 2 cmpH g 0 ns.toArray.size w:=fun _ _ _ _ x y=>za2b x y _
 have hcon:=Go.Proofs.AnyQ.slices_SortFunc Tryz.sortSt 2 Tryz.isAgg83 Tryz.sizeOf83 encP (fun _=>rfl) (fun x v hv=>by simp[encP] at hv;rcases hv with rfl | rfl <;> rfl) cmpH swoH 105 #[] g 0 c ns.toArray w eg hcl (zty ho rfl) hlt (by simp;omega)
 have hz:ns.toArray.size=ns.length:=by simp
 rw[hz] at hcon
 change Calls Tryz.prog 98 _ _ _ at hcon
 refine hcon.mono ?_
 rintro e w' ⟨rfl,d',m,os,⟨hps,_,hp⟩,hs,rfl⟩
 have hps':d'.size=ns.length:=by simpa using hps
 refine⟨rfl,d'.toList,?_,?_,?_⟩
 · have e1:ns.take d'.size=ns:=List.take_of_length_le (by omega)
   have hp':d'.toList.Perm (ns.take d'.size):=by simpa [←hps'] using hp
   rw[e1] at hp';exact hp'
 · intro i j hi hj hah
   have hj':j<d'.size:=by simpa using hj
   have:=hs i j (Nat.zero_le _) hi (by simpa [hps'] using hj')
   rw[getElem!_pos d' j hj',getElem!_pos d' i (by omega)] at this
   have h2:=(zf1 _ _).2 hah
   simp only[Array.getElem_toList] at h2
   rw[h2] at this;cases this
 · have:=ztz ho (Go.Sort.flatK encP 2 d') (by simp[hps']) m os
   rw[ztx] at this
   exact this
theorem mapM_each {α β:Type} (f:α→Option β):∀ (xs:List α) (ys:List β),xs.mapM f=some ys→∀ x∈xs,∃ y,f x=some y
 | [],_,_,x,hx=>by simp at hx
 | a :: xs, ys, h, x, hx => by
   rw[List.mapM_cons] at h
   cases ha:f a with
   | none=>rw[ha] at h;cases h
   | some y =>
     rw[ha] at h
     cases hr:xs.mapM f with
     | none=>rw[hr] at h;cases h
     | some zs =>
       rcases List.mem_cons.1 hx with e | e
       · rw[e];exact⟨y,ha⟩
       · exact mapM_each f xs zs hr x e
theorem zso (key:Value) (kl:Lit) (h:keyOf Tryz.prog 99 key=some kl):∃ l:List UInt8,l.length=32∧key=.agg (zg l).toArray∧kl=zn l:=by
 obtain⟨m,hm⟩:∃ m,Tryz.prog.types.size=m+2:=⟨Tryz.prog.types.size - 2,by kernel_rfl⟩
 have h0:=h
 unfold keyOf at h
 simp only[arr32.hu] at h
 split at h
 · rename_i hf
   rw[hm] at h
   unfold Program.keyLits at h
   simp only[arr32.hu] at h
   by_cases hlen0:key.cells.toList.length=Tryz.prog.cellsOf 99
   case neg=>rw[if_neg hlen0] at h;cases h
   rw[if_pos hlen0] at h
   cases key with
   | agg cs =>
     have hlen:cs.toList.length=Tryz.prog.cellsOf 99:=hlen0
     replace h:(((List.range 32).mapM (fun i=>Tryz.prog.keyLits (m+2) 5 ((cs.toList.drop (i*Tryz.prog.cellsOf 5)).take (Tryz.prog.cellsOf 5)))).map List.flatten).map (fun ls=>Lit.string (keyBytes ls))=some kl:=h
     · rw [arr32.size] at hlen
       cases hM:(List.range 32).mapM (fun i=>Tryz.prog.keyLits (m+2) 5 ((cs.toList.drop (i*Tryz.prog.cellsOf 5)).take (Tryz.prog.cellsOf 5))) with
       | none=>rw[hM] at h;cases h
       | some ys =>
         have hcell : ∀ i (hi : i < 32), ∃ b : UInt8, cs.toList[i]'(by omega) = .int .u8 (b.toNat : Int) := fun i hi => by
          obtain⟨y,hy⟩:=mapM_each _ _ _ hM i (List.mem_range.2 hi)
          rw[arr32.one,Nat.mul_one,List.drop_eq_getElem_cons (by omega)] at hy
          simp only[List.take_succ_cons,List.take_zero] at hy
          unfold Program.keyLits at hy
          rw[Tryz.underlying5] at hy
          cases hv:cs.toList[i]'(by omega) with
          | int q n =>
            rw[hv] at hy
            simp only at hy
            split at hy
            · rename_i hq
              obtain⟨rfl,hw⟩:=hq
              simp[Lit.wf,IntKind.min,IntKind.max,IntKind.signed,IntKind.bits] at hw
              refine⟨UInt8.ofNat n.toNat,?_⟩
              congr 1
              simp only[UInt8.toNat_ofNat']
              omega
            · cases hy
          | _=>rw[hv] at hy;simp at hy
         refine⟨(List.range 32).map (fun i=>if hi:i<32 then (hcell i hi).choose else 0),by simp,?_,?_⟩
         · congr 1
           apply Array.ext'
           apply List.ext_getElem
           · simp[zg];simpa using hlen
           · intro i h1 h2
             have hi:i<32:=by rw[hlen] at h1;exact h1
             rw[(hcell i hi).choose_spec]
             simp[zg,hi]
         · have hk:(Value.agg cs)=.agg (zg ((List.range 32).map (fun i=>if hi:i<32 then (hcell i hi).choose else 0))).toArray:=by
            congr 1
            apply Array.ext'
            apply List.ext_getElem
            · simp[zg];simpa using hlen
            · intro i h1 h2
              have hi:i<32:=by rw[hlen] at h1;exact h1
              rw[(hcell i hi).choose_spec]
              simp[zg,hi]
           rw[hk,zf9 _ (by simp)] at h0
           exact (Option.some.inj h0).symm
   | _=>simp[Value.formed,arr32.hu] at hf
 · cases h
def HN (t:List UInt8) (v:Value):Prop:=∃ (k:Int) (p:ByteArray) (a:Option Addr) (m c:Nat) (x:ByteArray),v=.agg #[.string ⟨t.toArray⟩,.int .i64 k,.string p,.slice a m c,.string x]
def TxtAt (D:DataW Value) (f:List UInt8→Option (List UInt8)):Prop:=∀ x:List UInt8,x.length=32→(f x=none∧Maps.has D (zn x)=false)∨∃ t v,f x=some t∧Maps.has D (zn x)=true∧(∀ z,D.atKey (zn x) z=.held v)∧HN t v
theorem zsp {w:World} {B:Nat} {ps:List za} (hs:zu ps=true) (h:HeldM w B ps ps.length):∃ D:DataW Value,w.ownsMap Tryz.prog 99 uvR B ps.length D∧TxtAt D (zh ps):=by
 have h0:=h
 obtain⟨vs,h1,h2,h3⟩:=h
 refine⟨_,h2,fun x hx=>?_⟩
 have hun:∀ (D:DataW Value),w.ownsMap Tryz.prog 99 uvR B ps.length D→D=datV ps vs (.map []):=fun D hD=>by
  obtain⟨es,cl,e1,F1,_,rfl⟩:=hD
  obtain⟨es',cl',e2,F2,_,e3⟩:=h2
  rw[e1] at e2
  cases e2
  exact e3.symm
 obtain⟨D,hD,hc⟩:=zoz hs h0 x hx
 rw[hun D hD] at hc
 rcases hc with ⟨q1,q2,_⟩ | ⟨t,v,q1,_,q3,q4,a,m,c,rfl,_⟩
 · exact .inl ⟨q1,q2⟩
 · exact .inr ⟨t,_,q1,q3,q4,_,_,a,m,c,_,rfl⟩
theorem za2d {D:DataW Value} {f:List UInt8→Option (List UInt8)} (h:TxtAt D f) (hD:Maps.IsMap D) (y:List UInt8) (hy:y.length=32) (t:List UInt8) (v:Value) (hv:HN t v):TxtAt (D.put (zn y) (.held v)) (fun x=>if x=y then some t else f x):=fun x hx=>by
 by_cases e:x=y
 · subst e
   exact .inr ⟨t,v,by simp,Maps.has_put_same hD (zfx _) _,fun z=>Maps.atKey_put_same hD (zfx _) _ _,hv⟩
 · have hne:=zi6 x y hx hy e
   simp only[if_neg e]
   rcases h x hx with ⟨h1,h2⟩ | ⟨u,v',h1,h2,h3,h4⟩
   · exact .inl ⟨h1,by rw[Maps.has_put_other hne];exact h2⟩
   · exact .inr ⟨u,v',h1,by rw[Maps.has_put_other hne];exact h2,fun z=>by rw[Maps.atKey_put_other hne];exact h3 z,h4⟩
theorem TxtAt.congr {D:DataW Value} {f g:List UInt8→Option (List UInt8)} (h:TxtAt D f) (e:∀ x,x.length=32→f x=g x):TxtAt D g:=fun x hx=>by rw[←e x hx];exact h x hx
theorem zgg {D:DataW Value} {f:List UInt8→Option (List UInt8)} (h:TxtAt D f) (x:List UInt8) (hx:x.length=32):Maps.has D (zn x)=(f x).isSome:=by
 rcases h x hx with ⟨h1,h2⟩ | ⟨t,v,h1,h2,_⟩
 · rw[h1,h2];rfl
 · rw[h1,h2];rfl
theorem zhg (x y:List UInt8) (hx:x.length=32) (hy:y.length=32):(zn x).sameKey (zn y)=decide (x=y):=by
 by_cases e:x=y
 · subst e
   rw[decide_eq_true rfl]
   exact WideAt.sameKey_self (zfx x)
 · rw[decide_eq_false e]
   exact Maps.sameKey_ne (zi6 x y hx hy e)
theorem zmj {α:Type}:∀ (a b:List α),a.Pairwise (· ≠ ·)→(∀ x∈a,x∈b)→a.length≤b.length
 | [],_,_,_=>by simp
 | x :: a, b, hp, hm => by
   rw[List.pairwise_cons] at hp
   obtain⟨b1,b2,rfl⟩:=List.append_of_mem (hm x (by simp))
   have:=zmj a (b1 ++ b2) hp.2 (fun y hy=>by
    have h1:=hm y (List.mem_cons_of_mem _ hy)
    rw[List.mem_append,List.mem_cons] at h1
    rw[List.mem_append]
    rcases h1 with h1 | h1 | h1
    · exact .inl h1
    · exact absurd h1.symm (hp.1 y hy)
    · exact .inr h1)
   simp only[List.length_append,List.length_cons] at this ⊢
   omega
theorem za2e {w:World} {B n:Nat} {D:DataW Value} {f:List UInt8→Option (List UInt8)} (hown:w.ownsMap Tryz.prog 99 uvR B n D) (h:TxtAt D f) (U:List (List UInt8)) (hU:U.Pairwise (· ≠ ·)) (h32:∀ x∈U,x.length=32) (hm:∀ x,x.length=32→(x∈U↔(f x).isSome=true)):Maps.size D=U.length:=by
 have hE:∃ es:List (Lit × DataW Value),D=.map es∧es.Pairwise (fun p q=>p.1≠q.1)∧∀ p∈es,∃ x:List UInt8,x.length=32∧p.1=zn x:=by
  obtain⟨es,h1,h2,_⟩:=hown.entries zda
  refine⟨es,h1,h2,fun p hp=>?_⟩
  obtain⟨es',clock,_,F,_,hD⟩:=hown
  rw[h1] at hD
  cases hD
  obtain⟨x,hx,rfl⟩:=List.mem_map.1 (mem_sorted.1 hp)
  obtain⟨y,hy⟩:=F.reads x hx
  obtain⟨l,hl,_,hk⟩:=zso _ _ (WideElems.rd_key hy)
  exact⟨l,hl,by rw[WideElems.rg_of hy,hk]⟩
 obtain⟨es,rfl,hp,hk⟩:=hE
 rw[Maps.size_eq]
 have hhas:∀ x:List UInt8,x.length=32→((∃ p∈es,p.1=zn x)↔x∈U):=fun x hx=>by
  rw[hm x hx,←zgg h x hx,Maps.has_eq,List.any_eq_true]
  constructor
  · rintro⟨p,hp,e⟩
    exact⟨p,hp,by rw[e];exact WideAt.sameKey_self (zfx x)⟩
  · rintro⟨p,hp,e⟩
    exact⟨p,hp,WideAt.sameKey_eq e⟩
 apply Nat.le_antisymm
 · have:=zmj (es.map (·.1)) (U.map zn) (by rw[List.pairwise_map];exact hp) (fun y hy=>by
    obtain⟨p,hp',rfl⟩:=List.mem_map.1 hy
    obtain⟨x,hx,e⟩:=hk p hp'
    rw[e]
    exact List.mem_map_of_mem ((hhas x hx).1 ⟨p,hp',e⟩))
   simpa using this
 · have:=zmj (U.map zn) (es.map (·.1)) (by
    rw[List.pairwise_map]
    exact hU.imp_of_mem fun {a b} ha hb hab=>zi6 a b (h32 a ha) (h32 b hb) hab) (fun y hy=>by
    obtain⟨x,hx,rfl⟩:=List.mem_map.1 hy
    obtain⟨p,hp',e⟩:=(hhas x (h32 x hx)).2 hx
    rw[←e]
    exact List.mem_map_of_mem hp')
   simpa using this
def zbr (ps qs:List za):Bool:=qs.any fun q=>match zh ps q.1 with
 | none=>false
 | some t => !(t == q.2)
def za3 (ps qs:List za):Bool:=zu ps && (zu qs && (!zbr ps qs && decide ((zl (ps ++ qs)).length≤400)))
def addR (ps qs:List za):List za:=if za3 ps qs=true then zl (ps ++ qs) else []
def zeb (ps qs:List za) (x:List UInt8):Option (List UInt8):=(zh qs x).or (zh ps x)
theorem zdu (ps:List za) (h:zu ps=true):ps.Pairwise (fun x y=>x.1<y.1):=by
 rw[List.pairwise_iff_getElem]
 intro i j hi hj hij
 have:=zi5 ps h i (j - i - 1) (by omega)
 rw[show i+1+(j - i - 1)=j by omega,za9 ps i hi,za9 ps j hj] at this
 exact (zee _ _).1 this
theorem zgh (ps:List za) (h:ps.Pairwise (fun x y=>x.1<y.1)) (x t:List UInt8):zh ps x=some t↔(x,t)∈ps:=by
 constructor
 · intro hf
   unfold zh at hf
   rw[Option.map_eq_some_iff] at hf
   obtain⟨p,hp,rfl⟩:=hf
   have h1:=List.find?_some hp
   have h2:=List.mem_of_find?_eq_some hp
   have e:p.1=x:=by simpa using h1
   rw[←e]
   exact h2
 · intro hm
   exact zlc ps h (x,t) hm
theorem za2f (ps qs:List za) (hq:qs.Pairwise (fun x y=>x.1<y.1)) (h:zbr ps qs=false) (x t t':List UInt8) (h1:zh qs x=some t) (h2:zh ps x=some t'):t'=t:=by
 rw[zgh qs hq] at h1
 rw[zbr,List.any_eq_false] at h
 have:=h _ h1
 simp only[h2] at this
 simpa using this
theorem za2g (ps qs:List za) (hq:qs.Pairwise (fun x y=>x.1<y.1)) (x t t':List UInt8) (h1:zh qs x=some t) (h2:zh ps x=some t') (hne:t'≠t):zbr ps qs=true:=by
 rw[zgh qs hq] at h1
 rw[zbr,List.any_eq_true]
 exact⟨_,h1,by simp only[h2];simpa using hne⟩
theorem zmk (ps qs:List za) (h:∀ j (hj:j<qs.length),∀ t',zh ps qs[j].1=some t'→t'=qs[j].2):zbr ps qs=false:=by
 rw[zbr,List.any_eq_false]
 intro q hq
 obtain⟨j,hj,rfl⟩:=List.getElem_of_mem hq
 cases hf:zh ps qs[j].1 with
 | none=>simp
 | some t'=>simp[h j hj t' hf]
theorem za2h (ps qs:List za) (j:Nat) (hj:j<qs.length) (t':List UInt8) (h:zh ps qs[j].1=some t') (hne:t'≠qs[j].2):zbr ps qs=true:=by
 rw[zbr,List.any_eq_true]
 exact⟨_,List.getElem_mem hj,by simp only[h];simpa using hne⟩
theorem zhh (ps qs:List za) (hp:ps.Pairwise (fun x y=>x.1<y.1)) (hq:qs.Pairwise (fun x y=>x.1<y.1)) (hc:zbr ps qs=false) (x t:List UInt8):zeb ps qs x=some t↔(x,t)∈ps ++ qs:=by
 unfold zeb
 rw[List.mem_append,←zgh ps hp,←zgh qs hq]
 cases h1:zh qs x with
 | none=>simp
 | some u =>
   simp only[Option.or,Option.some.injEq]
   constructor
   · intro e;exact .inr e
   · rintro (e | e)
     · exact (za2f ps qs hq hc x u t h1 e).symm
     · exact e
theorem zsq (ps qs:List za) (hp:ps.Pairwise (fun x y=>x.1<y.1)) (hq:qs.Pairwise (fun x y=>x.1<y.1)) (hc:zbr ps qs=false):∀ x∈ps ++ qs,∀ y∈ps ++ qs,x.1=y.1→x=y:=by
 intro x hx y hy e
 have h1:=(zhh ps qs hp hq hc x.1 x.2).2 hx
 have h2:=(zhh ps qs hp hq hc y.1 y.2).2 hy
 rw[e,h2] at h1
 exact Prod.ext e (Option.some.inj h1).symm
theorem za2i (ps qs:List za) (hp:zu ps=true) (hq:zu qs=true) (hc:zbr ps qs=false):((zl (ps ++ qs)).map (·.1)).Pairwise (· ≠ ·)∧(∀ x∈(zl (ps ++ qs)).map (·.1),x.length=32)∧∀ x,x∈(zl (ps ++ qs)).map (·.1)↔(zeb ps qs x).isSome=true:=by
 obtain⟨s1,s2,s3⟩:=zcj (ps ++ qs)
 refine⟨?_,fun x hx=>?_,fun x=>?_⟩
 · rw[List.pairwise_map]
   exact s1.imp fun {a b} h e=>by rw[e] at h;exact List.lt_irrefl _ h
 · obtain⟨p,hp',rfl⟩:=List.mem_map.1 hx
   have:=s2 p hp'
   rw[List.mem_append] at this
   rcases this with h | h
   · exact zfd ps hp p h
   · exact zfd qs hq p h
 · constructor
   · intro hx
     obtain⟨p,hp',rfl⟩:=List.mem_map.1 hx
     rw[(zhh ps qs (zdu ps hp) (zdu qs hq) hc p.1 p.2).2 (s2 p hp')]
     rfl
   · intro hx
     obtain⟨t,ht⟩:=Option.isSome_iff_exists.1 hx
     rw[zhh ps qs (zdu ps hp) (zdu qs hq) hc] at ht
     obtain⟨y,hy,he⟩:=s3 _ ht
     exact List.mem_map.2 ⟨y,hy,he⟩
theorem zsr (ps qs:List za) (h:zu ps=false):za3 ps qs=false:=by rw[za3,h];rfl
theorem zss (ps qs:List za) (h:zu qs=false):za3 ps qs=false:=by rw[za3,h];simp
theorem zst (ps qs:List za) (h:zbr ps qs=true):za3 ps qs=false:=by rw[za3,h];simp
theorem zsu (ps qs:List za) (h:400<(zl (ps ++ qs)).length):za3 ps qs=false:=by rw[za3,decide_eq_false (by omega:¬ (zl (ps ++ qs)).length≤400)];simp
theorem zj8 (ps qs:List za) (h1:zu ps=true) (h2:zu qs=true) (h3:zbr ps qs=false) (h4:(zl (ps ++ qs)).length≤400):za3 ps qs=true:=by rw[za3,h1,h2,h3,decide_eq_true h4];rfl
theorem zsv (ps qs:List za) (h:za3 ps qs=false):addR ps qs=[]:=by rw[addR,h];rfl
theorem zfk (ps qs:List za) (h:za3 ps qs=true):addR ps qs=zl (ps ++ qs):=if_pos h
theorem zj9 (ps:List za) (h:zu ps=true):ps.length≤400:=by
 simp only[zu,Bool.and_eq_true,decide_eq_true_eq] at h
 exact h.1
theorem za2j {w:World} {b off:Nat} {qs:List za} (h:IsPairs w (some ⟨b,off,none⟩) qs):∀ j u,(zc qs)[j]? = some u→w.cell? ((⟨b,off,none⟩:Addr).add j)=some u:=by
 intro j u hu
 have hj:j<qs.length*2:=by
  have:=(List.getElem?_eq_some_iff.1 hu).1
  rwa [zay] at this
 rcases h with rfl | ⟨b',off',he,hc⟩
 · simp at hj
 · cases he
   have ht:=hc (j / 2) (by omega)
   have hp:=ze9 qs (j / 2) (by omega)
   rcases Nat.mod_two_eq_zero_or_one j with h0 | h0
   · have e:j=j / 2*2:=by omega
     rw[e] at hu ⊢
     rw[hp.1] at hu
     cases hu
     have ea:(⟨b,off,none⟩:Addr).add (j / 2*2)=⟨b,off+j / 2*2,none⟩:=by
      simp only[Addr.add]
      split
      · rename_i h9;rw[h9];rfl
      · rfl
     rw[ea];exact ht.1
   · have e:j=j / 2*2+1:=by omega
     rw[e] at hu ⊢
     rw[hp.2] at hu
     cases hu
     have ea:(⟨b,off,none⟩:Addr).add (j / 2*2+1)=⟨b,off+j / 2*2+1,none⟩:=by simp[Addr.add,Nat.add_assoc]
     rw[ea];exact ht.2
def zf2 (w:World) (ps qs:List za) (e:Ending) (w':World):Prop :=
 ∃ (a:Option Addr) (m c:Nat),e=.returned (.tuple #[.slice a m c,.bool (za3 ps qs)])∧w'.ownsRow w.heap.size 83 2 (.slice a m c) (addR ps qs).length (zc (addR ps qs))∧Below w.heap.size w w'
theorem zf3 {w w':World} {ps qs:List za} (h:za3 ps qs=false) (hb:Below w.heap.size w w'):zf2 w ps qs (.returned (.tuple #[.slice none 0 0,.bool false])) w' :=
 ⟨none,0,0,by rw[h],by rw[zsv _ _ h];exact World.ownsRow_nil _ _ _ _,hb⟩
theorem zsw {w:World} {a:Option Addr} {ad:Addr} {qs:List za} (h:IsPairs w a qs) (ha:a=some ad):∀ j u,(zc qs)[j]? = some u→w.cell? (ad.add j)=some u:=by
 rcases h with rfl | ⟨b,off,h1,h2⟩
 · intro j u hu;simp[zc] at hu
 · rw[h1] at ha
   cases ha
   exact za2j (.inr ⟨b,off,rfl,h2⟩)
theorem za2k {P:Program} {w:World} {o:Oper} {a:Act} {K:Act→World→Prop} {Q:Exit→Act→World→Prop} (s x:Operand) (t:TypeId)
 (ho:o.op=.call { callee:=.builtin .append,args:=#[s,x],argTypes:=#[t,t] })
 (base:Nat) (e:TypeId) (i:TypeInfo) (z:Value) (bytes:Nat) (ht:P.underlying t=some (.slice e)) (hi:P.info? e=some i) (hz:i.zero=some z)
 (hsize:i.size=2) (hby:i.bytes=bytes) (hzs:z.cells.size=2)
 (v:Value) (n:Nat) (xs:List Value) (hs:a.eval s=v) (hown:w.ownsRow base e 2 v n xs)
 (a2:Option Addr) (qs:List za) (m c:Nat) (hm:m=qs.length) (hx:a.eval x=.slice a2 m c) (hc:a2=none→c=0) (hp:IsPairs w a2 qs)
 (h63:n+m≤maxLen) (hbytes:(n+m)*bytes≤140737488355328) (hbase:base≤w.heap.size)
 (h:∀ v' w',w'.ownsRow base e 2 v' (n+m) (xs ++ zc qs)→w.grownBy w' v.ownBlock→K (a.put o.dst v') w'):o.wp P a w K Q:=by
 subst hm
 cases a2 with
 | none =>
   have hq:qs=[]:=by
    rcases hp with h | ⟨b,off,h,_⟩
    · exact h
    · cases h
   subst hq
   obtain rfl:=hc rfl
   have hrun:=run_append_owned_none (P:=P) (w:=w) base t o.type e i 2 ht hi v n xs hown
   unfold Oper.wp
   simp[execOp,ho,resolve,invoke,builtin,hs,hx,hrun,Result.andThen]
   exact h v w (by simpa [zc] using hown) (World.grownBy.refl _ _)
 | some ad=>exact wp_append_own w s x t ho base e i z 2 bytes ht hi hz hsize hby hzs (by decide) v n xs hs hown ad qs.length c (zc qs) hx (zay qs) (zsw hp rfl) (zsm qs) h63 hbytes hbase (fun v' w' h1 h2 _=>h v' w' h1 h2)
theorem zja {P:Program} {w:World} {ops:Array Oper} {o:Oper} {a:Act} {K:Act→World→Prop} {Q:Exit→Act→World→Prop} {E:Prop} (hgd:o.guard=none) (s x:Operand) (t:TypeId)
 (ho:o.op=.call { callee:=.builtin .append,args:=#[s,x],argTypes:=#[t,t] })
 (base:Nat) (e:TypeId) (i:TypeInfo) (z:Value) (bytes:Nat) (ht:P.underlying t=some (.slice e)) (hi:P.info? e=some i) (hz:i.zero=some z)
 (hsize:i.size=2) (hby:i.bytes=bytes) (hzs:z.cells.size=2)
 (v:Value) (n:Nat) (xs:List Value) (hs:a.eval s=v) (hown:w.ownsRow base e 2 v n xs)
 (a2:Option Addr) (qs:List za) (m c:Nat) (hm:m=qs.length) (hx:a.eval x=.slice a2 m c) (hc:a2=none→c=0) (hp:IsPairs w a2 qs)
 (h63:n+m≤maxLen) (hbytes:(n+m)*bytes≤140737488355328) (hbase:base≤w.heap.size)
 (h:∀ v' w',w'.ownsRow base e 2 v' (n+m) (xs ++ zc qs)→w.grownBy w' v.ownBlock→K (a.put o.dst v') w') :
 if Region.wanted o (yielded ops a.tmps)=true then Oper.wp P o a w K Q else E:=by
 rw[if_pos (by simp[Region.wanted,hgd])]
 exact za2k s x t ho base e i z bytes ht hi hz hsize hby hzs v n xs hs hown a2 qs m c hm hx hc hp h63 hbytes hbase h
theorem zsx {P:Program} {w:World} {ops:Array Oper} {rest:List Oper} {o:Oper} {a:Act} {Q:Exit→Act→World→Prop} (hgd:o.guard=none) (s x:Operand) (t:TypeId)
 (ho:o.op=.call { callee:=.builtin .append,args:=#[s,x],argTypes:=#[t,t] })
 (base:Nat) (e:TypeId) (i:TypeInfo) (z:Value) (bytes:Nat) (ht:P.underlying t=some (.slice e)) (hi:P.info? e=some i) (hz:i.zero=some z)
 (hsize:i.size=2) (hby:i.bytes=bytes) (hzs:z.cells.size=2)
 (v:Value) (n:Nat) (xs:List Value) (hs:a.eval s=v) (hown:w.ownsRow base e 2 v n xs)
 (a2:Option Addr) (qs:List za) (c:Nat) (hx:a.eval x=.slice a2 qs.length c) (hc:a2=none→c=0) (hp:IsPairs w a2 qs)
 (h63:n+qs.length≤maxLen) (hbytes:(n+qs.length)*bytes≤140737488355328) (hbase:base≤w.heap.size)
 (h:∀ v' w',w'.ownsRow base e 2 v' (n+qs.length) (xs ++ zc qs)→w.grownBy w' v.ownBlock→wpList P ops Q rest (a.put o.dst v') w'):wpList P ops Q (o :: rest) a w:=by
 cases a2 with
 | none =>
   have hq:qs=[]:=by
    rcases hp with h | ⟨b,off,h,_⟩
    · exact h
    · cases h
   subst hq
   obtain rfl:=hc rfl
   refine wpList_append_own_none hgd s x t ho base e i 2 ht hi v n xs hs hown hx (h v w ?_ (World.grownBy.refl _ _))
   simpa [zc] using hown
 | some ad=>exact wpList_append_own w hgd s x t ho base e i z 2 bytes ht hi hz hsize hby hzs (by decide) v n xs hs hown ad qs.length c (zc qs) hx (zay qs) (zsw hp rfl) (zsm qs) h63 hbytes hbase (fun v' w' h1 h2 _=>h v' w' h1 h2)
theorem zsy (a1 : Option Addr) (cap : Nat) (ps : List za) (a2 : Option Addr) (cap2 : Nat) (qs : List za) (w : World) (hl : ps.length ≤ 1048576) (hm : ∀ p ∈ ps, p.1.length ≤ 1048576 ∧ p.2.length ≤ 1048576) (hs : IsPairs w a1 ps) (hl2 : qs.length ≤ 1048576) (hm2 : ∀ p ∈ qs, p.1.length ≤ 1048576 ∧ p.2.length ≤ 1048576) (hs2 : IsPairs w a2 qs) (hca : a1 = none → cap = 0) (hcb : a2 = none → cap2 = 0) :
 Calls Tryz.prog 37 #[.slice a1 ps.length cap,.slice a2 qs.length cap2] w fun e w'=>zf2 w ps qs e w':=by
 obtain⟨i0,hi0,hz0,hz1,hz2⟩:=info_parts zfj
 have K1:=znd a1 cap ps w hl hm hs
 have HK2:Hid (∀ W,Below w.heap.size w W→_):=fun W hW=>znd a2 cap2 qs W hl2 hm2 (hs2.later hW)
 have HKF:Hid (∀ h W,Below w.heap.size w W→_):=fun h W hW=>zj4 a1 cap ps h W hl (hs.later hW)
 have HS:Hid (∀ W,Below w.heap.size w W→IsPairs W a1 ps∧IsPairs W a2 qs):=fun W hW=>⟨hs.later hW,hs2.later hW⟩
 have HNO1:Hid (zu ps=false→za3 ps qs=false):=zsr ps qs
 have HNO2:Hid (zu qs=false→za3 ps qs=false):=zss ps qs
 have HL1:Hid (zu ps=true→ps.length≤400):=zj9 ps
 have HL2:Hid (zu qs=true→qs.length≤400):=zj9 qs
 obtain⟨s1,hs1⟩:∃ s1,s1=zu ps:=⟨_,rfl⟩
 obtain⟨s2,hs2'⟩:∃ s2,s2=zu qs:=⟨_,rfl⟩
 have HST:Hid (s1=zu ps∧s2=zu qs):=⟨hs1,hs2'⟩
 rw[←hs1] at K1 HNO1 HL1
 rw[←hs2'] at HK2 HNO2 HL2
 clear hs hs2 hm hm2 hs1 hs2'
 cases s1 with
 | false =>
   have HZ:=HNO1.out rfl
   have HZZ:Hid (za3 ps qs=false):=HZ
   clear HZ
   go_enter Tryz.func37,Tryz.ntmps37
   go_wp2_with fail
   refine K1.mono ?_
   rintro e w1 ⟨rfl,b1⟩
   go_wp2
   go_ret2
   exact zf3 HZZ.out b1
 | true =>
   cases s2 with
   | false =>
     have HZZ:Hid (za3 ps qs=false):=HNO2.out rfl
     go_enter Tryz.func37,Tryz.ntmps37
     go_wp2_with fail
     refine K1.mono ?_
     rintro e w1 ⟨rfl,b1⟩
     go_wp2_with fail
     refine (HK2.out w1 b1).mono ?_
     rintro e w2 ⟨rfl,b2⟩
     have B2:=b1.trans (b2.mono b1.size)
     go_wp2
     go_ret2
     exact zf3 HZZ.out B2
   | true =>
     have hp4:=HL1.out rfl
     have hq4:=HL2.out rfl
     go_enter Tryz.func37,Tryz.ntmps37
     go_wp2_with fail
     refine K1.mono ?_
     rintro e w1 ⟨rfl,b1⟩
     go_wp2_with fail
     refine (HK2.out w1 b1).mono ?_
     rintro e w2 ⟨rfl,bb2⟩
     have B2:=b1.trans (bb2.mono b1.size)
     have HC2:Hid (∀ W,Below w.heap.size w W→∀ j,j<qs.length→∃ b2 off2,a2=some ⟨b2,off2,none⟩∧W.cell? ⟨b2,off2+j*2,none⟩=some (.string ⟨(keyAt qs j).toArray⟩)∧W.cell? ⟨b2,off2+j*2+1,none⟩=some (.string ⟨(zv qs j).toArray⟩)∧b2<W.heap.size):=fun W hW j hj=>by
      rcases (HS.out W hW).2 with h | ⟨b',off',he,hc⟩
      · rw[h] at hj;simp at hj
      · rw[za9 qs j hj,zaz qs j hj]
        exact⟨b',off',he,(hc j hj).1,(hc j hj).2,World.block_lt_of_cell? W _ (hc j hj).1⟩
     have HNC:Hid ((∀ j,j<qs.length→∀ t',zh ps (keyAt qs j)=some t'→t'=zv qs j)→zbr ps qs=false):=fun h=>zmk ps qs (fun j hj t' ht=>by
      have:=h j hj t' (by rw[za9 qs j hj];exact ht)
      rwa [zaz qs j hj] at this)
     have HYC:Hid (∀ j,j<qs.length→∀ t',zh ps (keyAt qs j)=some t'→t'≠zv qs j→za3 ps qs=false):=fun j hj t' ht hne=>zst ps qs (za2h ps qs j hj t' (by rw[←za9 qs j hj];exact ht) (by rw[←zaz qs j hj];exact hne))
     have HEND:Hid (zbr ps qs=false→(400<(zl (ps ++ qs)).length→za3 ps qs=false)∧((zl (ps ++ qs)).length≤400→za3 ps qs=true)):=fun h=>⟨zsu ps qs,zj8 ps qs HST.out.1.symm HST.out.2.symm h⟩
     clear b1 bb2 K1 HK2 HNO1 HNO2 HL1 HL2 HST
     go_wp2
     go_loopw [6] (fun i wr=>∃ j:Nat,j≤qs.length∧i=.int .i64 (j:Int)∧Hid (∀ q,q<j→∀ t',zh ps (keyAt qs q)=some t'→t'=zv qs q)∧Below w.heap.size w wr) (fun i _=>qs.length - (intOf i).toNat)
     case atStart=>exact⟨0,Nat.zero_le _,rfl,fun k hk=>by omega,B2⟩
     case round =>
      obtain⟨j,hj,rfl,HA,hbel⟩:=hrel
      by_cases hlt:j<qs.length
      · obtain⟨b2,off2,rfl,c1,c2,hb2l⟩:=HC2.out wr hbel j hlt
        have hj0:(0:Int)≤(j:Int):=by omega
        have hj1:(j:Int)<(qs.length:Int):=by omega
        have KF:=HKF.out (keyAt qs j) wr hbel
        have HN:Hid ((∀ t',zh ps (keyAt qs j)=some t'→t'=zv qs j)→∀ k,k<j+1→∀ t',zh ps (keyAt qs k)=some t'→t'=zv qs k):=fun e k hk=>by
         by_cases ek:k=j
         · rw[ek];exact e
         · exact HA.out k (by omega)
        have HY:Hid (∀ t',zh ps (keyAt qs j)=some t'→t'≠zv qs j→za3 ps qs=false):=HYC.out j hlt
        have HC3:Hid (∀ W,Below wr.heap.size wr W→W.cell? ⟨b2,off2+j*2+1,none⟩=some (.string ⟨(zv qs j).toArray⟩)):=fun W hW=>(hW.cell (p:=⟨b2,off2+j*2+1,none⟩) hb2l).trans c2
        obtain⟨x,hx⟩:∃ x,x=keyAt qs j:=⟨_,rfl⟩
        obtain⟨y,hy⟩:∃ y,y=zv qs j:=⟨_,rfl⟩
        obtain⟨f,hf⟩:∃ f,f=zh ps (keyAt qs j):=⟨_,rfl⟩
        rw[←hf] at HN HY
        rw[←hx] at c1 KF hf
        rw[←hf] at KF
        rw[←hy] at c2 HN HY HC3
        clear HA HYC HNC HEND hx hy hf
        go_wp2_with fail
        refine KF.mono ?_
        rintro e w4 ⟨rfl,b4⟩
        have B4:=hbel.trans (b4.mono hbel.size)
        have c4:=HC3.out w4 b4
        clear b4 KF c1 c2
        cases f with
        | none =>
          have HN':=HN.out (fun t' h=>by cases h)
          have HNN:Hid (∀ k,k<j+1→∀ t',zh ps (keyAt qs k)=some t'→t'=zv qs k):=HN'
          clear HN' HN HY
          simp only[Option.getD_none,Option.isSome_none]
          go_wp2
          go_roundw
          case rel=>exact⟨j+1,by omega,by go_num,HNN,by first | exact B4 | exact zz B4⟩
          case measure=>simp[intOf];omega
        | some u =>
          simp only[Option.getD_some,Option.isSome_some]
          by_cases he:u=y
          · subst he
            have HNN:Hid (∀ k,k<j+1→∀ t',zh ps (keyAt qs k)=some t'→t'=zv qs k):=HN.out (fun t' h=>by cases h;rfl)
            clear HN HY
            go_wp2
            go_roundw
            case rel=>exact⟨j+1,by omega,by go_num,HNN,by first | exact B4 | exact zz B4⟩
            case measure=>simp[intOf];omega
          · have heb:(u == y)=false:=by rw[beq_eq_false_iff_ne];exact he
            have HZZ:Hid (za3 ps qs=false):=HY.out u rfl he
            clear HN HY
            go_wp2
            go_ret2
            exact zf3 HZZ.out (by first | exact B4 | exact zz B4)
      · have hjl:j=qs.length:=by omega
        subst hjl
        have HE:Hid ((400<(zl (ps ++ qs)).length→za3 ps qs=false)∧((zl (ps ++ qs)).length≤400→za3 ps qs=true)):=HEND.out (HNC.out HA.out)
        have HRY:Hid (za3 ps qs=true→addR ps qs=zl (ps ++ qs)):=zfk ps qs
        have hSB:=HS.out wr hbel
        have HSL:Hid (∀ (g c:Nat) W,IsPairs W (some ⟨g,0,none⟩) (ps ++ qs)→_):=fun g c W h=>zmt (some ⟨g,0,none⟩) c (ps ++ qs) W (by simp;omega) h
        have L1:Hid (Below wr.heap.size wr (wr.alloc (.cells #[] 83))):=(Below.refl _ _).alloc (Nat.le_refl _) _
        have HP1:Hid (∀ W,Below wr.heap.size wr W→IsPairs W a1 ps∧IsPairs W a2 qs):=fun W hW=>HS.out _ (hbel.trans (hW.mono hbel.size))
        have HO0:=zf (World.ownsRow_lit (e:=83) (size:=2) wr #[] 0 (base:=wr.heap.size) (Nat.le_refl _) (Nat.zero_le _) rfl)
        have HRUN:Hid (∀ (a:Option Addr) (m c:Nat) W,W.ownsRow wr.heap.size 83 2 (.slice a m c) (0+ps.length+qs.length) ([] ++ zc ps ++ zc qs)→Calls Tryz.prog 70 #[.slice a m c] W fun e w'=>∃ g c:Nat,e=.returned (.slice (some ⟨g,0,none⟩) (zl (ps ++ qs)).length c)∧w'.ownsRow W.heap.size 83 2 (.slice (some ⟨g,0,none⟩) (zl (ps ++ qs)).length c) (zl (ps ++ qs)).length (zc (zl (ps ++ qs)))∧Below W.heap.size W w'):=fun a m c W ho=>by
         have ho':W.ownsRow wr.heap.size 83 2 (.slice a m c) (ps ++ qs).length (zc (ps ++ qs)):=by
          rw[zai,List.length_append];simpa using ho
         obtain⟨e1,_,h3⟩:=za8 ho'
         subst e1
         exact zmt a c (ps ++ qs) W (by simp;omega) h3
        clear HA HYC HNC HEND HC2 hSB HSL
        go_wp2_with (first | (at_builtin;refine zsx rfl _ _ 24 rfl wr.heap.size 83 i0 (.agg #[.string ⟨#[]⟩,.string ⟨#[]⟩]) 32 Tryz.underlying24 hi0 hz0 hz1 hz2 rfl (.slice a3 m3 c3) (0+ps.length) _ rfl OV3.out a2 qs cap2 rfl hcb (HP1.out w3 B3).2 (by unfold maxLen;omega) (by omega) (by first | omega | (simp <;> omega)) ?_;intro v4 w4 hown4 hgrow4;obtain⟨a4,m4,c4,rfl⟩:=zbj hown4) | (at_builtin;refine zsx rfl _ _ 24 rfl wr.heap.size 83 i0 (.agg #[.string ⟨#[]⟩,.string ⟨#[]⟩]) 32 Tryz.underlying24 hi0 hz0 hz1 hz2 rfl (.slice (some ⟨wr.heap.size,0,none⟩) 0 0) 0 _ rfl HO0.out a1 ps cap rfl hca (HP1.out _ L1.out).1 (by unfold maxLen;omega) (by omega) (by simp <;> omega) ?_;intro v3 w3 hown3 hgrow3;obtain⟨a3,m3,c3,rfl⟩:=zbj hown3;have B3:Below wr.heap.size wr w3:=L1.out.grown hgrow3 (by simp) (fun q hq=>by simp[Value.ownBlock] at hq;omega);have s3:=B3.size;have OV3:=zf hown3;clear hown3 hgrow3))
        have B4:Below w.heap.size w w4:=hbel.trans ((B3.grown hgrow4 s3 (fun k hk=>(OV3.out.lt k hk).1)).mono hbel.size)
        have K5:=HRUN.out a4 m4 c4 w4 hown4
        have HAO:Hid ((zl (ps ++ qs)).length≤400∨400<(zl (ps ++ qs)).length):=by rw[Hid];omega
        have HLS:Hid ((zl (ps ++ qs)).length≤800):=by
         have:=zf5 (ps ++ qs) _ (Nat.le_refl _)
         rw[List.take_length,List.length_append] at this
         rw[Hid];omega
        obtain⟨R,hR⟩:∃ R,R=zl (ps ++ qs):=⟨_,rfl⟩
        rw[←hR] at K5 HE HRY HAO HLS
        clear hown4 hgrow4 hR HRUN HP1 HO0 L1 OV3 B3
        refine K5.mono ?_
        rintro e w5 ⟨g5,c5,rfl,o5,b5⟩
        have B5:=B4.trans (b5.mono B4.size)
        have O5:=zf (o5.mono (base':=w.heap.size) B4.size)
        have hls:=HLS.out
        clear o5 b5 K5
        rcases HAO.out with h | h
        · have hh:¬ 400<(R.length:Int):=by omega
          have hok:=HE.out.2 h
          have HOK:Hid (za3 ps qs=true∧addR ps qs=R):=⟨hok,HRY.out hok⟩
          clear HE HRY HAO hok
          go_wp2
          go_ret2
          exact⟨_,_,_,by rw[HOK.out.1];rfl,by rw[HOK.out.2];exact O5.out,by first | exact B5 | exact zz B5⟩
        · have hh:400<(R.length:Int):=by omega
          have HZZ:Hid (za3 ps qs=false):=HE.out.1 h
          clear HE HRY HAO
          go_wp2
          go_ret2
          exact zf3 HZZ.out (by first | exact B5 | exact zz B5)
end Go.Proofs.YtiadimhoolekbaaGreatDoor
