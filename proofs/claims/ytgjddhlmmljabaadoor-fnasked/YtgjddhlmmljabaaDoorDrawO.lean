import Derived.Test.YtgjddhlmmljabaaDoorDrawHs
import Derived.Test.YtgjddhlmmljabaaDoorBats
import Derived.Test.YtgjddhlmmljabaaDoorSets
namespace Go.Proofs.YtgjddhlmmljabaaDoor
open Go.RowKit
set_option linter.unusedVariables false
set_option linter.unusedSimpArgs false
theorem grown_setS {w w':World} {b j:Nat} (h:w.grownBy w' (some b)) (y:Value):w.grownBy (w'.setCell ⟨b,j,none⟩ y) (some b) :=
 ⟨h.os,h.tape,h.output,by simpa [World.setCell] using h.size,fun k hk hne=>(Below.heap_setCell _ _ _ _ (fun e=>hne (by simpa using e))).trans (h.block k hk hne)⟩
def smallO (ps:List OpL):Prop:=∀ p∈ps,p.1.length≤5∧p.2.1.length≤5
theorem smallO_snoc {ps:List OpL} (h:smallO ps) (k v:List UInt8) (c:Bool) (hk:k.length≤5) (hv:v.length≤5):smallO (ps ++ [(k,v,c)]):=fun p hp=>by
 rcases List.mem_append.1 hp with h1 | h1
 · exact h p h1
 · simp at h1;subst h1;exact⟨hk,hv⟩
set_option maxRecDepth 100000 in
set_option maxHeartbeats 1000000 in
theorem ops_any (rd n cap : Nat) (a : Option Addr) (w : World) (hn : n ≤ 1048576) (h : Rd rd a n cap w) :
 Calls Tryd.prog 13 #[.pointer (some ⟨rd,0,none⟩)] w fun e w'=>∃ (ps:List OpL) (a2:Option Addr) (c2:Nat),ps.length≤4∧smallO ps∧e=.returned (.slice a2 ps.length c2)∧w'.ownsRow w.heap.size 52 3 (.slice a2 ps.length c2) ps.length (ocells ps)∧Rd rd a n cap w'∧w.grownBy w' (some rd):=by
 obtain⟨i0,hi0,hz0,hz1,hz2⟩:=info_parts infoO
 have HRDL:Hid (rd<w.heap.size):=h.lt
 have HCODE:Hid (∀ cb off,a=some ⟨cb,off,none⟩→n≠0→cb<w.heap.size):=h.code
 have O0:Hid ((w.alloc (.cells #[] 52)).ownsRow w.heap.size 52 3 (.slice (some ⟨w.heap.size,0,none⟩) 0 0) 0 []):=World.ownsRow_lit (e:=52) (size:=3) w #[] 0 (base:=w.heap.size) (Nat.le_refl _) (Nat.zero_le _) rfl
 have G0:Hid (w.grownBy (w.alloc (.cells #[] 52)) (some rd)):=World.grownBy_alloc w _ _
 have K0:=below_any rd n cap 4 4 a (w.alloc (.cells #[] 52)) rfl (by omega) (by omega) hn (h.keptNone ((Below.refl _ _).alloc (Nat.le_refl _) _))
 clear h
 go_enter Tryd.func13,Tryd.ntmps13
 go_wp2_with fail
 refine K0.mono ?_
 rintro e w1 ⟨k0,hk0,rfl,hR1,hG1⟩
 have O1:Hid (w1.ownsRow w.heap.size 52 3 (.slice (some ⟨w.heap.size,0,none⟩) 0 0) 0 []):=O0.out.kept hG1 (by simp[Value.ownBlock];have:=HRDL.out;omega)
 have G1:Hid (w.grownBy w1 (some rd)):=G0.out.trans hG1
 have R1:Hid (Rd rd a n cap w1):=hR1
 clear hR1 hG1 K0 O0 G0
 go_wp2
 go_loopw [3,4,5] (fun v i _ wr=>∃ j c2:Nat,∃ a2:Option Addr,∃ ps:List OpL,ps.length+j=k0+1∧i=.int .i64 (j:Int)∧v=.slice a2 ps.length c2∧smallO ps∧wr.ownsRow w.heap.size 52 3 (.slice a2 ps.length c2) ps.length (ocells ps)∧Rd rd a n cap wr∧w.grownBy wr (some rd)) (fun _ i _ _=>(intOf i).toNat)
 case atStart=>exact⟨k0+1,0,some ⟨w.heap.size,0,none⟩,[],by simp,by go_num,rfl,fun p hp=>by simp at hp,O1.out,R1.out,G1.out⟩
 case round =>
  obtain⟨j0,c2,a2,ps,hj,rfl,rfl,hsm,hown,hRr,hGr⟩:=hrel
  have HSM:Hid (smallO ps):=hsm
  have hpl:ps.length≤4:=by omega
  have HO:=hidOwn hown
  have HG:Hid (w.grownBy wr (some rd)):=hGr
  have HR:Hid (Rd rd a n cap wr):=hRr
  have HLO:Hid (∀ k,(Value.slice a2 ps.length c2).ownBlock=some k→w.heap.size≤k):=fun k hk=>(hown.lt k hk).1
  have HNR:Hid ((Value.slice a2 ps.length c2).ownBlock=none∨(Value.slice a2 ps.length c2).ownBlock≠some rd):=.inr (fun e=>by have:=(hown.lt _ e).1;have:=HRDL.out;omega)
  clear hown hGr hRr hsm R1 G1 O1
  cases j0 with
  | zero =>
    have hz0:¬ ((0:Nat):Int) > 0:=by omega
    have K1:=below_any rd n cap 30 30 a wr rfl (by omega) (by omega) hn HR.out
    have HPL:Hid (ps.length=k0+1):=by rw[Hid];omega
    clear HR hj
    go_wp2_with fail
    refine K1.mono ?_
    rintro e w2 ⟨y,hy,rfl,hR2,hG2⟩
    have G2:Hid (w.grownBy w2 (some rd)):=HG.out.trans hG2
    have O2:=hidOwn (HO.out.kept hG2 HNR.out)
    have R2:Hid (Rd rd a n cap w2):=hR2
    clear hR2 hG2 K1 HG HO
    by_cases y0:y=0
    · subst y0
      go_wp2
      go_ret
      exact⟨[],some ⟨w2.heap.size,0,none⟩,0,by simp,fun p hp=>by simp at hp,rfl,World.ownsRow_lit (e:=52) (size:=3) w2 #[] 0 (base:=w.heap.size) G2.out.size (Nat.zero_le _) rfl,R2.out.keptNone ((Below.refl _ _).alloc (Nat.le_refl _) _),G2.out.trans (World.grownBy_alloc w2 _ _)⟩
    · have y0' : ((y : Int) == 0) = false := by simp only [beq_eq_false_iff_ne, ne_eq]; omega
      by_cases y1:y=1
      · subst y1
        cases ps with
        | nil=>have:=HPL.out;simp at this
        | cons p ps =>
          obtain⟨pk,pv,pc⟩:=p
          obtain⟨g,cap',hv,hg1,hg2,hc,hf⟩:∃ g cap',Value.slice a2 ((pk,pv,pc) :: ps).length c2=.slice (some ⟨g,0,none⟩) ((pk,pv,pc) :: ps).length cap'∧w.heap.size≤g∧g<w2.heap.size∧(∀ j,j<((pk,pv,pc) :: ps).length*3→w2.cell? ⟨g,j,none⟩=(ocells ((pk,pv,pc) :: ps))[j]?)∧∀ j,w2.frozen? ⟨g,j,none⟩=false:=by
           rcases own_cases3 O2.out with ⟨_,h0,_⟩ | h
           · simp at h0
           · exact h
          injection hv with hv1 hv2 hv3
          subst hv1
          have c2':w2.cell? ⟨g,2,none⟩=some (.bool pc):=by rw[hc 2 (by simp;omega)];rfl
          have f2:=hf 2
          have hlen:(0:Int)<((((pk,pv,pc) :: ps).length:Nat):Int):=by simp
          have ST:Hid ((w2.setCell ⟨g,2,none⟩ (.bool !pc)).ownsRow w.heap.size 52 3 (.slice (some ⟨g,0,none⟩) ((pk,pv,!pc) :: ps).length c2) ((pk,pv,!pc) :: ps).length (ocells ((pk,pv,!pc) :: ps))):=(O2.out.stored 2 (.bool !pc)).1
          have SG:Hid (w.grownBy (w2.setCell ⟨g,2,none⟩ (.bool !pc)) (some rd)):=grown_setC G2.out _ _ hg1
          have SR:Hid (Rd rd a n cap (w2.setCell ⟨g,2,none⟩ (.bool !pc))):=R2.out.kept (grown_setS (World.grownBy.refl w2 (some g)) _) (by simp;have:=HRDL.out;omega) (fun cb off hcc hne=>by have:=HCODE.out cb off hcc hne;simp;omega)
          have SMM:Hid (smallO ((pk,pv,!pc) :: ps)):=fun p hp=>by
           rcases List.mem_cons.1 hp with h1 | h1
           · subst h1;exact HSM.out (pk,pv,pc) (by simp)
           · exact HSM.out p (by simp[h1])
          clear hc hf R2 G2 O2 hv3
          go_wp2
          go_ret
          exact⟨(pk,pv,!pc) :: ps,some ⟨g,0,none⟩,c2,by simpa using hpl,SMM.out,rfl,ST.out,SR.out,SG.out⟩
      · have y1':((y:Int) == 1)=false:=by simp only[beq_eq_false_iff_ne,ne_eq];omega
        go_wp2
        go_ret
        exact⟨ps,a2,c2,hpl,HSM.out,rfl,O2.out,R2.out,G2.out⟩
  | succ j =>
    have hjp:¬ ((j+1:Nat):Int)≤0:=by omega
    have hjp2:(0:Int)<((j+1:Nat):Int):=by omega
    have HJ:Hid (ps.length+(j+1)=k0+1):=hj
    have hj4:j≤4:=by omega
    have K1:=key_any rd n cap a wr hn HR.out
    clear HR hj
    go_wp2_with fail
    refine K1.mono ?_
    rintro e w2 ⟨k1,hk1,rfl,hR2,hG2⟩
    have G2:Hid (w.grownBy w2 (some rd)):=HG.out.trans hG2
    have O2:=hidOwn (HO.out.kept hG2 HNR.out)
    have K2:=value_any rd n cap a w2 hn hR2
    clear hR2 hG2 K1 HG HO
    go_wp2_with fail
    refine K2.mono ?_
    rintro e w3 ⟨v1,hv1,rfl,hR3,hG3⟩
    have G3:Hid (w.grownBy w3 (some rd)):=G2.out.trans hG3
    have O3:=hidOwn (O2.out.kept hG3 HNR.out)
    have X3:Hid ((w3.alloc (.cells #[.string ⟨k1.toArray⟩,.string ⟨v1.toArray⟩,.bool false] 52)).heap[w3.heap.size]? = some (.cells #[.string ⟨k1.toArray⟩,.string ⟨v1.toArray⟩,.bool false] 52 (0,0))):=heap_alloc_new w3 _
    have S3:Hid (w.heap.size≤w3.heap.size):=G3.out.size
    have K3:=once_any rd n cap 3 3 a (w3.alloc (.cells #[.string ⟨k1.toArray⟩,.string ⟨v1.toArray⟩,.bool false] 52)) rfl (by omega) (by omega) hn (hR3.keptNone ((Below.refl _ _).alloc (Nat.le_refl _) _))
    have G3a:Hid (w.grownBy (w3.alloc (.cells #[.string ⟨k1.toArray⟩,.string ⟨v1.toArray⟩,.bool false] 52)) (some rd)):=G3.out.trans (World.grownBy_alloc w3 _ _)
    have O3a:=hidOwn (O3.out.alloc (.cells #[.string ⟨k1.toArray⟩,.string ⟨v1.toArray⟩,.bool false] 52))
    have NB:Hid ((Value.slice a2 ps.length c2).ownBlock≠some w3.heap.size):=fun e=>by have:=(O3.out.lt _ e).2;omega
    clear hR3 hG3 K2 G2 O2 G3 O3
    go_wp2_with fail
    refine K3.mono ?_
    rintro e w4 ⟨t,rfl,hR4,hG4⟩
    have G4:Hid (w.grownBy w4 (some rd)):=G3a.out.trans hG4
    have O4:=hidOwn (O3a.out.kept hG4 HNR.out)
    have X4:Hid (w4.heap[w3.heap.size]? = some (.cells #[.string ⟨k1.toArray⟩,.string ⟨v1.toArray⟩,.bool false] 52 (0,0))):=(hG4.block w3.heap.size (by simp) (by simp;have:=HRDL.out;have:=S3.out;omega)).trans X3.out
    have S4:Hid (w3.heap.size<w4.heap.size):=lt_of_block X4.out
    have R4:Hid (Rd rd a n cap w4):=hR4
    clear hR4 hG4 K3 G3a O3a X3
    cases t with
    | false =>
      obtain⟨p0,p1,p2,pf⟩:=bat_cells X4.out
      have SM2:Hid (smallO (ps ++ [(k1,v1,false)])):=smallO_snoc HSM.out k1 v1 false hk1 hv1
      have HOW:Hid (w4.ownsRow w.heap.size 52 3 (.slice a2 ps.length c2) ps.length (ocells ps)):=O4.out
      have HRA:Hid (Rd rd a n cap (w4.alloc (.cells #[.string ⟨k1.toArray⟩,.string ⟨v1.toArray⟩,.bool false] 52))):=R4.out.keptNone ((Below.refl _ _).alloc (Nat.le_refl _) _)
      have HGA:Hid (w.grownBy (w4.alloc (.cells #[.string ⟨k1.toArray⟩,.string ⟨v1.toArray⟩,.bool false] 52)) (some rd)):=G4.out.trans (World.grownBy_alloc w4 _ _)
      have HSZ:Hid (w.heap.size≤w4.heap.size):=G4.out.size
      have NEW:Hid (∀ q u,[Value.string ⟨k1.toArray⟩,.string ⟨v1.toArray⟩,.bool false][q]? = some u→(w4.alloc (.cells #[.string ⟨k1.toArray⟩,.string ⟨v1.toArray⟩,.bool false] 52)).cell? ((⟨w4.heap.size,0,none⟩:Addr).add q)=some u):=World.news_of_block (cs:=#[.string ⟨k1.toArray⟩,.string ⟨v1.toArray⟩,.bool false]) (t:=52) (fr:=(0,0)) (heap_alloc_new w4 _)
      clear pf R4 G4 O4
      go_wp2_with (at_builtin;refine wpList_append_lies _ rfl _ _ 27 rfl w.heap.size 52 i0 (.agg #[.string ⟨#[]⟩,.string ⟨#[]⟩,.bool false]) 3 40 Tryd.underlying27 hi0 hz0 hz1 hz2 rfl (by decide) (.slice a2 ps.length c2) ps.length _ rfl (HOW.out.alloc _) ⟨w4.heap.size,0,none⟩ 1 1 [.string ⟨k1.toArray⟩,.string ⟨v1.toArray⟩,.bool false] rfl rfl NEW.out (by simp[Value.oneCell']) (by omega) (by unfold maxLen;omega) (by omega) (by have:=HSZ.out;simp[World.setCell];omega) (w4.heap.size+1) (by simp[World.setCell]) ?_;intro g2 cap2 w5 hown5 hgrow hat hlt5)
      have HG5:Hid (w.grownBy w5 (some rd)):=grown_more HGA.out hgrow (fun k hk=>.inl (HLO.out k hk))
      have HR5:Hid (Rd rd a n cap w5):=HRA.out.kept hgrow (fun e=>by have:=HLO.out _ e;have:=HRDL.out;omega) (fun cb off hc hne e=>by have h1:=HLO.out _ e.symm;have h2:=HCODE.out cb off hc hne;omega)
      have HO5:Hid (w5.ownsRow w.heap.size 52 3 (.slice (some ⟨g2,0,none⟩) (ps ++ [(k1,v1,false)]).length cap2) (ps ++ [(k1,v1,false)]).length (ocells (ps ++ [(k1,v1,false)]))):=by rw[Hid,ocells_app,List.length_append];exact hown5
      clear hgrow hown5 hat hlt5 NEW HRA HGA HOW
      go_roundw
      case rel=>exact⟨j,cap2,some ⟨g2,0,none⟩,ps ++ [(k1,v1,false)],by have:=HJ.out;simp;omega,by simp <;> omega,by simp,SM2.out,HO5.out,HR5.out,HG5.out⟩
      case measure=>simp[intOf]
    | true =>
      have K4:=key_any rd n cap a w4 hn R4.out
      clear R4
      go_wp2_with fail
      refine K4.mono ?_
      rintro e w5 ⟨k2,hk2,rfl,hR5,hG5⟩
      have G5:Hid (w.grownBy w5 (some rd)):=G4.out.trans hG5
      have O5:=hidOwn (O4.out.kept hG5 HNR.out)
      have X5:Hid (w5.heap[w3.heap.size]? = some (.cells #[.string ⟨k1.toArray⟩,.string ⟨v1.toArray⟩,.bool false] 52 (0,0))):=(hG5.block w3.heap.size S4.out (by simp;have:=HRDL.out;have:=S3.out;omega)).trans X4.out
      have S5:Hid (w3.heap.size<w5.heap.size):=lt_of_block X5.out
      obtain⟨p0,p1,p2,pf⟩:=bat_cells X5.out
      have pf0:=pf 0
      have pf1:=pf 1
      have pf2:=pf 2
      have SM2:Hid (smallO (ps ++ [(k2,[],true)])):=smallO_snoc HSM.out k2 [] true hk2 (by simp)
      have HOW:Hid ((((w5.setCell ⟨w3.heap.size,0,none⟩ (.string ⟨k2.toArray⟩)).setCell ⟨w3.heap.size,1,none⟩ (.string ⟨#[]⟩)).setCell ⟨w3.heap.size,2,none⟩ (.bool true)).ownsRow w.heap.size 52 3 (.slice a2 ps.length c2) ps.length (ocells ps)):=tri_own O5.out NB.out _ _ _
      have HRA:Hid (Rd rd a n cap ((((w5.setCell ⟨w3.heap.size,0,none⟩ (.string ⟨k2.toArray⟩)).setCell ⟨w3.heap.size,1,none⟩ (.string ⟨#[]⟩)).setCell ⟨w3.heap.size,2,none⟩ (.bool true)).alloc (.cells #[.string ⟨k2.toArray⟩,.string ⟨#[]⟩,.bool true] 52))):=(hR5.kept (grown_setS (grown_setS (grown_setS (World.grownBy.refl w5 (some w3.heap.size)) _) _) _) (by simp;have:=HRDL.out;have:=S3.out;omega) (fun cb off hc hne=>by have:=HCODE.out cb off hc hne;simp;have:=S3.out;omega)).keptNone ((Below.refl _ _).alloc (Nat.le_refl _) _)
      have HGA:Hid (w.grownBy ((((w5.setCell ⟨w3.heap.size,0,none⟩ (.string ⟨k2.toArray⟩)).setCell ⟨w3.heap.size,1,none⟩ (.string ⟨#[]⟩)).setCell ⟨w3.heap.size,2,none⟩ (.bool true)).alloc (.cells #[.string ⟨k2.toArray⟩,.string ⟨#[]⟩,.bool true] 52)) (some rd)):=(grown_setC (grown_setC (grown_setC G5.out _ _ S3.out) _ _ S3.out) _ _ S3.out).trans (World.grownBy_alloc _ _ _)
      have HSZ:Hid (w.heap.size≤w5.heap.size):=G5.out.size
      have NEW:Hid (∀ q u,[Value.string ⟨k2.toArray⟩,.string ⟨#[]⟩,.bool true][q]? = some u→((((w5.setCell ⟨w3.heap.size,0,none⟩ (.string ⟨k2.toArray⟩)).setCell ⟨w3.heap.size,1,none⟩ (.string ⟨#[]⟩)).setCell ⟨w3.heap.size,2,none⟩ (.bool true)).alloc (.cells #[.string ⟨k2.toArray⟩,.string ⟨#[]⟩,.bool true] 52)).cell? ((⟨w5.heap.size,0,none⟩:Addr).add q)=some u):=World.news_of_block (cs:=#[.string ⟨k2.toArray⟩,.string ⟨#[]⟩,.bool true]) (t:=52) (fr:=(0,0)) (by have:=heap_alloc_new (((w5.setCell ⟨w3.heap.size,0,none⟩ (.string ⟨k2.toArray⟩)).setCell ⟨w3.heap.size,1,none⟩ (.string ⟨#[]⟩)).setCell ⟨w3.heap.size,2,none⟩ (.bool true)) (.cells #[.string ⟨k2.toArray⟩,.string ⟨#[]⟩,.bool true] 52);simpa [World.setCell] using this)
      clear pf G4 O4 X4 S4 hR5 hG5 K4
      go_wp2_with (at_builtin;refine wpList_append_lies _ rfl _ _ 27 rfl w.heap.size 52 i0 (.agg #[.string ⟨#[]⟩,.string ⟨#[]⟩,.bool false]) 3 40 Tryd.underlying27 hi0 hz0 hz1 hz2 rfl (by decide) (.slice a2 ps.length c2) ps.length _ rfl (HOW.out.alloc _) ⟨w5.heap.size,0,none⟩ 1 1 [.string ⟨k2.toArray⟩,.string ⟨#[]⟩,.bool true] rfl rfl NEW.out (by simp[Value.oneCell']) (by omega) (by unfold maxLen;omega) (by omega) (by have:=HSZ.out;simp[World.setCell];omega) (w5.heap.size+1) (by simp[World.setCell]) ?_;intro g2 cap2 w5 hown5 hgrow hat hlt5)
      have HG5:Hid (w.grownBy w5 (some rd)):=grown_more HGA.out hgrow (fun k hk=>.inl (HLO.out k hk))
      have HR5:Hid (Rd rd a n cap w5):=HRA.out.kept hgrow (fun e=>by have:=HLO.out _ e;have:=HRDL.out;omega) (fun cb off hc hne e=>by have h1:=HLO.out _ e.symm;have h2:=HCODE.out cb off hc hne;omega)
      have HO5:Hid (w5.ownsRow w.heap.size 52 3 (.slice (some ⟨g2,0,none⟩) (ps ++ [(k2,[],true)]).length cap2) (ps ++ [(k2,[],true)]).length (ocells (ps ++ [(k2,[],true)]))):=by rw[Hid,ocells_app,List.length_append];exact hown5
      clear hgrow hown5 hat hlt5 NEW HRA HGA HOW
      go_roundw
      case rel=>exact⟨j,cap2,some ⟨g2,0,none⟩,ps ++ [(k2,[],true)],by have:=HJ.out;simp;omega,by simp <;> omega,by simp,SM2.out,HO5.out,HR5.out,HG5.out⟩
      case measure=>simp[intOf]
end Go.Proofs.YtgjddhlmmljabaaDoor
