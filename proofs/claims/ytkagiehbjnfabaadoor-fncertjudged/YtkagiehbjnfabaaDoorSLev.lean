/-
 Contract: the model's levels of the key tree.
-/
import Derived.Test.YtkagiehbjnfabaaDoorSRoots
import Derived.Test.YtkagiehbjnfabaaDoorMath2
namespace Go.Proofs.YtkagiehbjnfabaaDoor
open Go.RowKit
set_option linter.unusedVariables false
theorem info34:(Tryd.prog.info? 24).map (fun i=>(i.zero,i.size,i.bytes))=some (some (.slice none 0 0),1,24):=by kernel_rfl
set_option maxRecDepth 100000 in
set_option maxHeartbeats 4000000 in
theorem l4Levels_any (seed : List UInt8) (w : World) (hs : seed.length = 32) :
 Calls Tryd.prog 37 #[.string ⟨seed.toArray⟩] w fun e w'=>∃ go co g0 c0 g1 c1 g2 c2:Nat,e=.returned (.slice (some ⟨go,0,none⟩) 3 co)∧w'.ownsRow w.heap.size 24 1 (.slice (some ⟨go,0,none⟩) 3 co) 3 [.slice (some ⟨g0,0,none⟩) 4 c0,.slice (some ⟨g1,0,none⟩) 2 c1,.slice (some ⟨g2,0,none⟩) 1 c2]∧w'.ownsRow w.heap.size 9 1 (.slice (some ⟨g0,0,none⟩) 4 c0) 4 (scells (level0 seed))∧w'.ownsRow w.heap.size 9 1 (.slice (some ⟨g1,0,none⟩) 2 c1) 2 (scells (level1 seed))∧w'.ownsRow w.heap.size 9 1 (.slice (some ⟨g2,0,none⟩) 1 c2) 1 (scells [rootL seed])∧Below w.heap.size w w':=by
 obtain⟨i0,hi0,hz0,hz1,hz2⟩:=info_parts info9t
 obtain⟨j0,hj0,hy0,hy1,hy2⟩:=info_parts info34
 have h32:=level0_32 seed hs
 have h321:=level1_32 seed hs
 have HK4:Hid (keysTo seed 4=level0 seed):=keysTo_four seed
 have HP1:Hid (pairsTo (level0 seed) 2=level1 seed):=pairs_level1 seed
 have HP2:Hid (pairsTo (level1 seed) 1=[rootL seed]):=pairs_level2 seed
 obtain⟨L0,hL0⟩:∃ L,L=level0 seed:=⟨_,rfl⟩
 obtain⟨L1,hL1⟩:∃ L,L=level1 seed:=⟨_,rfl⟩
 obtain⟨rt,hrt⟩:∃ L,L=rootL seed:=⟨_,rfl⟩
 have n0:L0.length=4:=by rw[hL0];simp[level0]
 have n1:L1.length=2:=by rw[hL1];simp[level1]
 rw[←hL0] at HK4 h32 HP1 ⊢
 rw[←hL1] at h321 HP1 HP2 ⊢
 rw[←hrt] at HP2 ⊢
 clear hL0 hL1 hrt
 have H32:Hid (∀ k,k<4→(L0.getD k []).length=32):=h32
 have H321:Hid (∀ k,k<2→(L1.getD k []).length=32):=h321
 clear h32 h321
 go_enter Tryd.func37,Tryd.ntmps37
 go_wp2
 go_loopw [3,4] (fun v i wr=>∃ j g cap:Nat,j≤4∧i=.int .i64 (j:Int)∧v=.slice (some ⟨g,0,none⟩) j cap∧wr.ownsRow w.heap.size 9 1 (.slice (some ⟨g,0,none⟩) j cap) j (scells (keysTo seed j))∧Below w.heap.size w wr) (fun _ i _=>4 - (intOf i).toNat)
 case atStart=>exact⟨0,w.heap.size,0,by omega,rfl,rfl,World.ownsRow_lit w #[] 0 (Nat.le_refl _) (Nat.zero_le _) rfl,(Below.refl _ _).alloc (Nat.le_refl _) _⟩
 case round =>
  obtain⟨j,g,cap,hj,rfl,rfl,hown,hbel⟩:=hrel
  have hsz:=hbel.size
  by_cases hlt:j<4
  · have hlt':(j:Int)<4:=by omega
    have K1:=spec_leaf seed j wr hs (by omega)
    have hll:=leafL_len seed j hs
    have K2:=fun W=>l3Public_any (leafL seed j) W hll
    have HN:Hid (keysTo seed (j+1)=keysTo seed j ++ [publicL (leafL seed j)]):=keysTo_snoc seed j
    obtain⟨y,hy⟩:∃ y,y=publicL (leafL seed j):=⟨_,rfl⟩
    rw[←hy] at K2 HN
    obtain⟨x,hx⟩:∃ x,x=leafL seed j:=⟨_,rfl⟩
    rw[←hx] at K1 K2
    have HO:=hidOwn hown
    have hbg:=own_base hown
    clear hy hx hown hll
    go_wp2_with fail
    refine K1.mono ?_
    rintro e w1 ⟨rfl,b1⟩
    have B1:=hbel.trans (b1.mono hsz)
    have O1:=hidOwn (keptS HO.out b1)
    clear HO b1 hbel K1
    go_wp2_with fail
    refine (K2 _).mono ?_
    rintro e w2 ⟨rfl,b2⟩
    have B2:=B1.trans (b2.mono B1.size)
    have hs2:=B2.size
    have hown2:=keptS O1.out b2
    clear O1 b2 B1 K2
    go_wp2_with (at_builtin;refine wpList_append_lies _ rfl _ _ 24 rfl w.heap.size 9 i0 (.string ⟨#[]⟩) 1 16 Tryd.underlying24 hi0 hz0 hz1 hz2 rfl (by decide) (.slice (some ⟨g,0,none⟩) j cap) j _ rfl (hown2.alloc _) ⟨w2.heap.size,0,none⟩ 1 1 [.string ⟨y.toArray⟩] rfl rfl (World.news_of_block (cs:=#[.string ⟨y.toArray⟩]) (t:=9) (fr:=(0,0)) (heap_alloc_new w2 _)) (by simp[Value.oneCell']) (by omega) (by unfold maxLen;omega) (by omega) (by simp;omega) (w2.heap.size+1) (by simp) ?_;intro g3 cap3 w3 hown3 hgrow3 hat3 hlt3)
    have B3:=below_app0 B2 hs2 hbg hgrow3
    have HO3:Hid (w3.ownsRow w.heap.size 9 1 (.slice (some ⟨g3,0,none⟩) (j+1) cap3) (j+1) (scells (keysTo seed (j+1)))):=by rw[Hid,HN.out,scells_snoc];exact hown3
    clear hown3 hgrow3 hat3 hown2 B2
    go_wp2
    go_roundw
    case rel=>exact⟨j+1,g3,cap3,by omega,by go_num,rfl,HO3.out,B3⟩
    case measure=>simp[intOf];omega
  · have hj4 : j = 4 := by omega
    subst hj4
    have HL0:Hid (wr.ownsRow w.heap.size 9 1 (.slice (some ⟨g,0,none⟩) 4 cap) 4 (scells L0)):=by rw[Hid,←HK4.out];exact hown
    have g0lt:=own_lt HL0.out
    have hg0b:=own_base HL0.out
    clear hown hlt hj
    have r0:∀ k,k<4→wr.cell? ⟨g,k,none⟩=some (.string ⟨(L0.getD k []).toArray⟩):=row_at HL0.out n0
    obtain⟨wb,hwb⟩:∃ wb,wb=wr.alloc (.cells #[.slice (some ⟨g,0,none⟩) 4 cap] 24):=⟨_,rfl⟩
    have Bb:Below wr.heap.size wr wb:=by rw[hwb];exact (Below.refl _ _).alloc (Nat.le_refl _) _
    have sb:wb.heap.size=wr.heap.size+1:=by rw[hwb];simp
    have OB:Hid (wb.ownsRow w.heap.size 24 1 (.slice (some ⟨wr.heap.size,0,none⟩) 1 1) 1 [.slice (some ⟨g,0,none⟩) 4 cap]):=by rw[Hid,hwb];exact World.ownsRow_lit wr #[_] 1 hsz (by decide) rfl
    have r0b:∀ k,k<4→wb.cell? ⟨g,k,none⟩=some (.string ⟨(L0.getD k []).toArray⟩):=fun k hk=>(Bb.cell (p:=⟨g,k,none⟩) g0lt).trans (r0 k hk)
    have g0b:g<wb.heap.size:=by omega
    have BW:Below w.heap.size w wb:=hbel.trans (Bb.mono hsz)
    have HL0b:=hidOwn (keptS HL0.out Bb)
    have e4:((4:Nat):Int)=4:=rfl
    rw[e4]
    clear e4
    obtain⟨ob,hob⟩:∃ ob,ob=wr.heap.size:=⟨_,rfl⟩
    rw[←hob] at OB
    go_wp2_with fail
    rw[←hwb,←hob]
    have HSB:Hid (wb.heap.size=ob+1):=by rw[Hid,hob];exact sb
    have hgob:g<ob:=by omega
    have hwob:w.heap.size≤ob:=by omega
    have hobw:ob<wb.heap.size:=by omega
    clear hwb r0 HL0 Bb sb hob hbel hsz g0lt
    refine wp_loop_rounds 3 ?_
    rw[rounds_succ]
    go_wp2
    go_loopw [8,9] (fun v i wr=>∃ j k g cap:Nat,j≤2∧i=.int .i64 (k:Int)∧Hid (k=2*j)∧v=.slice (some ⟨g,0,none⟩) j cap∧wr.ownsRow wb.heap.size 9 1 (.slice (some ⟨g,0,none⟩) j cap) j (scells (pairsTo L0 j))∧Below wb.heap.size wb wr) (fun _ i _=>2*2 - (intOf i).toNat)
    case atStart=>exact⟨0,0,wb.heap.size,0,by omega,rfl,rfl,by rw[HSB.out],World.ownsRow_lit wb #[] 0 (Nat.le_refl _) (Nat.zero_le _) rfl,(Below.refl _ _).alloc (Nat.le_refl _) _⟩
    case round =>
     obtain⟨j,k,gn,cn,hj,rfl,HK,rfl,hown,hbel⟩:=hrel
     have hsz:=hbel.size
     by_cases hlt:j<2
     · have hk0 : (0 : Int) ≤ (k : Int) := by omega
       have hk1:(k:Int)+1<4:=by have:=HK.out;omega
       have hk2:(k:Int)<4:=by omega
       have hk3:(0:Int)≤(k:Int)+1:=by omega
       have hk5:((k:Int)+1).toNat=k+1:=by omega
       have hkw:IntKind.i64.wrap ((k:Int)+1)=(k:Int)+1:=i64_wrap_small _ (by omega) (by omega)
       have c1:=(hbel.cell (p:=⟨g,k,none⟩) g0b).trans (r0b k (by omega))
       have c2:=(hbel.cell (p:=⟨g,k+1,none⟩) g0b).trans (r0b (k+1) (by omega))
       have h1:=H32.out k (by omega)
       have h2:=H32.out (k+1) (by omega)
       have HN:Hid (pairsTo L0 (j+1)=pairsTo L0 j ++ [nodeL (L0.getD k []) (L0.getD (k+1) [])]):=by rw[Hid,pairsTo_snoc,HK.out]
       obtain⟨x,hx⟩:∃ x,x=L0.getD k []:=⟨_,rfl⟩
       obtain⟨y,hy⟩:∃ y,y=L0.getD (k+1) []:=⟨_,rfl⟩
       rw[←hx] at c1 h1 HN
       rw[←hy] at c2 h2 HN
       have K:=snode_any x y wr.drew h1 h2
       obtain⟨z,hz⟩:∃ z,z=nodeL x y:=⟨_,rfl⟩
       rw[←hz] at K HN
       have HO:=hidOwn hown
       have hbg:=own_base hown
       have hgl:=own_lt hown
       have HB:Hid (Below wb.heap.size wb wr):=hbel
       have hgw:g<wr.heap.size:=Nat.lt_of_lt_of_le g0b hsz
       have c1a:(wr.drew.alloc (.cells #[.string ⟨x.toArray⟩,.string ⟨y.toArray⟩] 9)).cell? ⟨g,k,none⟩=some (.string ⟨x.toArray⟩):=by rw[World.cell?_alloc_lt _ _ _ hgw];exact c1
       have c2a:(wr.drew.alloc (.cells #[.string ⟨x.toArray⟩,.string ⟨y.toArray⟩] 9)).cell? ⟨g,k+1,none⟩=some (.string ⟨y.toArray⟩):=by rw[World.cell?_alloc_lt _ _ _ hgw];exact c2
       clear hz hx hy hown hbel
       go_wp2_with fail
       go_region_held3 (fun w'=>w'.cell? ⟨g,k,none⟩=some (.string ⟨x.toArray⟩)∧w'.cell? ⟨g,k+1,none⟩=some (.string ⟨y.toArray⟩))
        (first | (exact⟨by assumption,by assumption⟩) | go_keep)
        (first
         | (go_at_call 40
            refine K.mono ?_
            rintro e w3 ⟨rfl,b3⟩
            have b3':Below wr.heap.size wr w3:=⟨b3.os,b3.tape,b3.output,b3.size,b3.block⟩
            have B3:=HB.out.trans (b3'.mono hsz)
            have hs3:=B3.size
            have hw3:wr.heap.size≤w3.heap.size:=b3'.size
            have hg3:g<w3.heap.size:=Nat.lt_of_lt_of_le hgw hw3
            have c3:=(b3'.cell (p:=⟨g,k,none⟩) hgw).trans c1
            have d3:=(b3'.cell (p:=⟨g,k+1,none⟩) hgw).trans c2
            have O3:=hidOwn (keptS HO.out b3')
            have c3a:(w3.alloc (.cells #[.string ⟨z.toArray⟩] 9)).cell? ⟨g,k,none⟩=some (.string ⟨x.toArray⟩):=by rw[World.cell?_alloc_lt _ _ _ hg3];exact c3
            have d3a:(w3.alloc (.cells #[.string ⟨z.toArray⟩] 9)).cell? ⟨g,k+1,none⟩=some (.string ⟨y.toArray⟩):=by rw[World.cell?_alloc_lt _ _ _ hg3];exact d3
            clear b3 b3')
         | (refine step_own rfl _ _ 24 rfl wb.heap.size 9 i0 (.string ⟨#[]⟩) 1 16 Tryd.underlying24 hi0 hz0 hz1 hz2 rfl (by decide) (.slice (some ⟨gn, 0, none⟩) j cn) j _ rfl (O3.out.alloc _) ⟨w3.heap.size, 0, none⟩ 1 1 [.string ⟨z.toArray⟩] rfl rfl (World.news_of_block (cs := #[.string ⟨z.toArray⟩]) (t := 9) (fr := (0, 0)) (heap_alloc_new w3 _)) (by simp [Value.oneCell']) (by unfold maxLen; omega) (by omega) (by simp; omega) ?_
            intro v4 w4 hown4 hgrow4 hnil4
            have hv4:∃ g4 cap4,v4=.slice (some ⟨g4,0,none⟩) (j+1) cap4:=own_shape hown4 (by rw[Ne,hnil4];simp)
            obtain⟨g4,cap4,rfl⟩:=hv4
            have B4:Below wb.heap.size wb w4:=(B3.alloc hs3 _).grown hgrow4 (by simp;omega) (fun k hk=>by simp[Value.ownBlock] at hk;omega)
            have O4:Hid (w4.ownsRow wb.heap.size 9 1 (.slice (some ⟨g4,0,none⟩) (j+1) cap4) (j+1) (scells (pairsTo L0 (j+1)))):=by rw[Hid,HN.out,scells_snoc];exact hown4
            have c4:w4.cell? ⟨g,k,none⟩=some (.string ⟨x.toArray⟩):=by rw[hgrow4.cell_far ⟨g,k,none⟩ (by simp;omega) (by simp[Value.ownBlock];omega)];exact c3a
            have d4:w4.cell? ⟨g,k+1,none⟩=some (.string ⟨y.toArray⟩):=by rw[hgrow4.cell_far ⟨g,k+1,none⟩ (by simp;omega) (by simp[Value.ownBlock];omega)];exact d3a
            clear hgrow4 hown4 hnil4))
       all_goals
        go_wp2
        go_roundw
        case rel=>exact⟨j+1,k+2,g4,cap4,by omega,by go_num,by have:=HK.out;rw[Hid];omega,rfl,O4.out,B4⟩
        case measure=>have:=HK.out;simp[intOf];omega
     · have hjm : j = 2 := by omega
       subst hjm
       have hk3:¬ (k:Int)+1<4:=by have:=HK.out;omega
       have hk4:k=2*2:=HK.out
       clear HK hlt hj
       have hgib:=own_base hown
       have hgil:=own_lt hown
       have BWr:=BW.trans (hbel.mono BW.size)
       have OBr:=hidOwn (keptS OB.out hbel)
       have L0r:=hidOwn (keptS HL0b.out hbel)
       have OL1:Hid (wr.ownsRow wb.heap.size 9 1 (.slice (some ⟨gn,0,none⟩) 2 cn) 2 (scells L1)):=by rw[Hid,←HP1.out];exact hown
       have hszw:=BWr.size
       clear hown hbel
       go_wp2_with (at_builtin;refine wpList_append_lies _ rfl _ _ 70 rfl w.heap.size 24 j0 (.slice none 0 0) 1 24 Tryd.underlying70 hj0 hy0 hy1 hy2 rfl (by decide) (.slice (some ⟨ob,0,none⟩) 1 1) 1 _ rfl (OBr.out.alloc _) ⟨wr.heap.size,0,none⟩ 1 1 [.slice (some ⟨gn,0,none⟩) 2 cn] rfl rfl (World.news_of_block (cs:=#[.slice (some ⟨gn,0,none⟩) 2 cn]) (t:=24) (fr:=(0,0)) (heap_alloc_new wr _)) (by simp[Value.oneCell']) (by omega) (by unfold maxLen;omega) (by omega) (by simp;omega) (wr.heap.size+1) (by simp) ?_;intro go1 co1 w5 ho5 hgrow5 hat5 hlt5)
       have BW5:Below w.heap.size w w5:=(BWr.alloc hszw _).grown hgrow5 (by simp;omega) (fun k hk=>by simp[Value.ownBlock] at hk;omega)
       have Ba:Below wr.heap.size wr (wr.alloc (.cells #[.slice (some ⟨gn,0,none⟩) 2 cn] 24)):=(Below.refl _ _).alloc (Nat.le_refl _) _
       have L05:=hidOwn ((keptS L0r.out Ba).kept hgrow5 (.inr (by simp[Value.ownBlock];omega)))
       have L15:=hidOwn (((keptS OL1.out Ba).kept hgrow5 (.inr (by simp[Value.ownBlock];omega))).mono (by omega:w.heap.size≤wb.heap.size))
       have OB5:=hidOwn ho5
       have r1:∀ k,k<2→w5.cell? ⟨gn,k,none⟩=some (.string ⟨(L1.getD k []).toArray⟩):=row_at L15.out n1
       have gilt:gn<w5.heap.size:=own_lt L15.out
       have hgo1:=own_base ho5
       clear ho5 hgrow5 hat5 hlt5 OBr L0r OL1 Ba BWr
       rw[rounds_succ]
       go_wp2
       go_loopw [8,9] (fun v i wr=>∃ j k g cap:Nat,j≤1∧i=.int .i64 (k:Int)∧Hid (k=2*j)∧v=.slice (some ⟨g,0,none⟩) j cap∧wr.ownsRow w5.heap.size 9 1 (.slice (some ⟨g,0,none⟩) j cap) j (scells (pairsTo L1 j))∧Below w5.heap.size w5 wr) (fun _ i _=>2*1 - (intOf i).toNat)
       case atStart=>exact⟨0,0,w5.heap.size,0,by omega,rfl,rfl,rfl,World.ownsRow_lit w5 #[] 0 (Nat.le_refl _) (Nat.zero_le _) rfl,(Below.refl _ _).alloc (Nat.le_refl _) _⟩
       case round =>
        obtain⟨j,k,gi,ci,hj,rfl,HK,rfl,hown,hbel⟩:=hrel
        have hsz:=hbel.size
        by_cases hlt:j<1
        · have hk0 : (0 : Int) ≤ (k : Int) := by omega
          have hk1:(k:Int)+1<2:=by have:=HK.out;omega
          have hk2:(k:Int)<2:=by omega
          have hk3:(0:Int)≤(k:Int)+1:=by omega
          have hk5:((k:Int)+1).toNat=k+1:=by omega
          have hkw:IntKind.i64.wrap ((k:Int)+1)=(k:Int)+1:=i64_wrap_small _ (by omega) (by omega)
          have c1:=(hbel.cell (p:=⟨gn,k,none⟩) gilt).trans (r1 k (by omega))
          have c2:=(hbel.cell (p:=⟨gn,k+1,none⟩) gilt).trans (r1 (k+1) (by omega))
          have h1:=H321.out k (by omega)
          have h2:=H321.out (k+1) (by omega)
          have HN:Hid (pairsTo L1 (j+1)=pairsTo L1 j ++ [nodeL (L1.getD k []) (L1.getD (k+1) [])]):=by rw[Hid,pairsTo_snoc,HK.out]
          obtain⟨x,hx⟩:∃ x,x=L1.getD k []:=⟨_,rfl⟩
          obtain⟨y,hy⟩:∃ y,y=L1.getD (k+1) []:=⟨_,rfl⟩
          rw[←hx] at c1 h1 HN
          rw[←hy] at c2 h2 HN
          have K:=snode_any x y wr.drew h1 h2
          obtain⟨z,hz⟩:∃ z,z=nodeL x y:=⟨_,rfl⟩
          rw[←hz] at K HN
          have HO:=hidOwn hown
          have hbg:=own_base hown
          have hgl:=own_lt hown
          have HB:Hid (Below w5.heap.size w5 wr):=hbel
          have hgw:gn<wr.heap.size:=Nat.lt_of_lt_of_le gilt hsz
          have c1a:(wr.drew.alloc (.cells #[.string ⟨x.toArray⟩,.string ⟨y.toArray⟩] 9)).cell? ⟨gn,k,none⟩=some (.string ⟨x.toArray⟩):=by rw[World.cell?_alloc_lt _ _ _ hgw];exact c1
          have c2a:(wr.drew.alloc (.cells #[.string ⟨x.toArray⟩,.string ⟨y.toArray⟩] 9)).cell? ⟨gn,k+1,none⟩=some (.string ⟨y.toArray⟩):=by rw[World.cell?_alloc_lt _ _ _ hgw];exact c2
          clear hz hx hy hown hbel
          go_wp2_with fail
          go_region_held3 (fun w'=>w'.cell? ⟨gn,k,none⟩=some (.string ⟨x.toArray⟩)∧w'.cell? ⟨gn,k+1,none⟩=some (.string ⟨y.toArray⟩))
           (first | (exact⟨by assumption,by assumption⟩) | go_keep)
           (first
            | (go_at_call 40
               refine K.mono ?_
               rintro e w3 ⟨rfl,b3⟩
               have b3':Below wr.heap.size wr w3:=⟨b3.os,b3.tape,b3.output,b3.size,b3.block⟩
               have B3:=HB.out.trans (b3'.mono hsz)
               have hs3:=B3.size
               have hw3:wr.heap.size≤w3.heap.size:=b3'.size
               have hg3:gn<w3.heap.size:=Nat.lt_of_lt_of_le hgw hw3
               have c3:=(b3'.cell (p:=⟨gn,k,none⟩) hgw).trans c1
               have d3:=(b3'.cell (p:=⟨gn,k+1,none⟩) hgw).trans c2
               have O3:=hidOwn (keptS HO.out b3')
               have c3a:(w3.alloc (.cells #[.string ⟨z.toArray⟩] 9)).cell? ⟨gn,k,none⟩=some (.string ⟨x.toArray⟩):=by rw[World.cell?_alloc_lt _ _ _ hg3];exact c3
               have d3a:(w3.alloc (.cells #[.string ⟨z.toArray⟩] 9)).cell? ⟨gn,k+1,none⟩=some (.string ⟨y.toArray⟩):=by rw[World.cell?_alloc_lt _ _ _ hg3];exact d3
               clear b3 b3')
            | (refine step_own rfl _ _ 24 rfl w5.heap.size 9 i0 (.string ⟨#[]⟩) 1 16 Tryd.underlying24 hi0 hz0 hz1 hz2 rfl (by decide) (.slice (some ⟨gi, 0, none⟩) j ci) j _ rfl (O3.out.alloc _) ⟨w3.heap.size, 0, none⟩ 1 1 [.string ⟨z.toArray⟩] rfl rfl (World.news_of_block (cs := #[.string ⟨z.toArray⟩]) (t := 9) (fr := (0, 0)) (heap_alloc_new w3 _)) (by simp [Value.oneCell']) (by unfold maxLen; omega) (by omega) (by simp; omega) ?_
               intro v4 w4 hown4 hgrow4 hnil4
               have hv4:∃ g4 cap4,v4=.slice (some ⟨g4,0,none⟩) (j+1) cap4:=own_shape hown4 (by rw[Ne,hnil4];simp)
               obtain⟨g4,cap4,rfl⟩:=hv4
               have B4:Below w5.heap.size w5 w4:=(B3.alloc hs3 _).grown hgrow4 (by simp;omega) (fun k hk=>by simp[Value.ownBlock] at hk;omega)
               have O4:Hid (w4.ownsRow w5.heap.size 9 1 (.slice (some ⟨g4,0,none⟩) (j+1) cap4) (j+1) (scells (pairsTo L1 (j+1)))):=by rw[Hid,HN.out,scells_snoc];exact hown4
               have c4:w4.cell? ⟨gn,k,none⟩=some (.string ⟨x.toArray⟩):=by rw[hgrow4.cell_far ⟨gn,k,none⟩ (by simp;omega) (by simp[Value.ownBlock];omega)];exact c3a
               have d4:w4.cell? ⟨gn,k+1,none⟩=some (.string ⟨y.toArray⟩):=by rw[hgrow4.cell_far ⟨gn,k+1,none⟩ (by simp;omega) (by simp[Value.ownBlock];omega)];exact d3a
               clear hgrow4 hown4 hnil4))
          all_goals
           go_wp2
           go_roundw
           case rel=>exact⟨j+1,k+2,g4,cap4,by omega,by go_num,by have:=HK.out;rw[Hid];omega,rfl,O4.out,B4⟩
           case measure=>have:=HK.out;simp[intOf];omega
        · have hjm:j=1:=by omega
          subst hjm
          have hk3:¬ (k:Int)+1<2:=by have:=HK.out;omega
          have hk4:k=2*1:=HK.out
          clear HK hlt hj
          have hgib:=own_base hown
          have hgil:=own_lt hown
          have BWr:=BW5.trans (hbel.mono BW5.size)
          have OBr:=hidOwn (keptS OB5.out hbel)
          have L0r:=hidOwn (keptS L05.out hbel)
          have L1r:=hidOwn (keptS L15.out hbel)
          have OL2:Hid (wr.ownsRow w5.heap.size 9 1 (.slice (some ⟨gi,0,none⟩) 1 ci) 1 (scells [rt])):=by rw[Hid,←HP2.out];exact hown
          have hszw:=BWr.size
          have x0:=own_ne OBr.out L0r.out (by decide)
          have x1:=own_ne OBr.out L1r.out (by decide)
          have x2:=own_ne OBr.out OL2.out (by decide)
          clear hown hbel
          go_wp2_with (at_builtin;refine wpList_append_lies _ rfl _ _ 70 rfl w.heap.size 24 j0 (.slice none 0 0) 1 24 Tryd.underlying70 hj0 hy0 hy1 hy2 rfl (by decide) (.slice (some ⟨go1,0,none⟩) 2 co1) 2 _ rfl (OBr.out.alloc _) ⟨wr.heap.size,0,none⟩ 1 1 [.slice (some ⟨gi,0,none⟩) 1 ci] rfl rfl (World.news_of_block (cs:=#[.slice (some ⟨gi,0,none⟩) 1 ci]) (t:=24) (fr:=(0,0)) (heap_alloc_new wr _)) (by simp[Value.oneCell']) (by omega) (by unfold maxLen;omega) (by omega) (by simp;omega) (wr.heap.size+1) (by simp) ?_;intro go2 co2 w6 ho5 hgrow5 hat5 hlt5)
          have BW6:Below w.heap.size w w6:=(BWr.alloc hszw _).grown hgrow5 (by simp;omega) (fun k hk=>by simp[Value.ownBlock] at hk;omega)
          have Ba:Below wr.heap.size wr (wr.alloc (.cells #[.slice (some ⟨gi,0,none⟩) 1 ci] 24)):=(Below.refl _ _).alloc (Nat.le_refl _) _
          have L06:=hidOwn ((keptS L0r.out Ba).kept hgrow5 (.inr (by simp[Value.ownBlock];omega)))
          have L16:=hidOwn ((keptS L1r.out Ba).kept hgrow5 (.inr (by simp[Value.ownBlock];omega)))
          have L26:=hidOwn (((keptS OL2.out Ba).kept hgrow5 (.inr (by simp[Value.ownBlock];omega))).mono BW5.size)
          have OB6:=hidOwn ho5
          clear ho5 hgrow5 hat5 hlt5 OBr L0r L1r OL2 Ba BWr
          rw[rounds_succ]
          go_wp2
          go_ret
          exact⟨go2,co2,g,cap,gn,cn,gi,ci,rfl,OB6.out,L06.out,L16.out,L26.out,BW6⟩
end Go.Proofs.YtkagiehbjnfabaaDoor
