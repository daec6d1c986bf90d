/-
 Contracts: the model's next signature.
-/
import Derived.Test.YtkagiehbjnfabaaDoorNextX
import Derived.Test.YtkagiehbjnfabaaDoorSLev
import Derived.Test.YtkagiehbjnfabaaDoorSSigns
import Derived.Test.YtkagiehbjnfabaaDoorSRoots
namespace Go.Proofs.YtkagiehbjnfabaaDoor
open Go.RowKit
set_option linter.unusedVariables false
theorem grown_ad {w0 w w2:World} {b:Nat} {o:Obj} {v:Value} (h:w0.grownBy w (some b)) (hg:(w.alloc o).drew.grownBy w2 v.ownBlock) (hl:∀ k,v.ownBlock=some k→w0.heap.size≤k):w0.grownBy w2 (some b) :=
 grown_trans2 (w1:=w) (o:=o) (v:=v) h ⟨hg.os,hg.tape,hg.output,hg.size,hg.block⟩ hl
set_option maxRecDepth 100000 in
set_option maxHeartbeats 4000000 in
theorem spec_next_0 (seed msg lf x y:List UInt8) (sg L0 L1:List (List UInt8)) (rt:List UInt8) (w:World) (hs:seed.length=32)
 (HK2:Hid (∀ W,Calls Tryd.prog 50 #[.string ⟨seed.toArray⟩,.int .i64 0] W fun e w'=>e=.returned (.tuple #[.string ⟨lf.toArray⟩,.bool true])∧Below W.heap.size W w'))
 (HK3:Hid (∀ W,Calls Tryd.prog 53 #[.string ⟨lf.toArray⟩,.string ⟨msg.toArray⟩] W fun e w'=>∃ g cap:Nat,e=.returned (.slice (some ⟨g,0,none⟩) 19 cap)∧w'.ownsRow W.heap.size 9 1 (.slice (some ⟨g,0,none⟩) 19 cap) 19 (scells sg)∧Below W.heap.size W w'))
 (HK4:Hid (∀ W,Calls Tryd.prog 37 #[.string ⟨seed.toArray⟩] W fun e w'=>∃ go co g0 c0 g1 c1 g2 c2:Nat,e=.returned (.slice (some ⟨go,0,none⟩) 3 co)∧w'.ownsRow W.heap.size 24 1 (.slice (some ⟨go,0,none⟩) 3 co) 3 [.slice (some ⟨g0,0,none⟩) 4 c0,.slice (some ⟨g1,0,none⟩) 2 c1,.slice (some ⟨g2,0,none⟩) 1 c2]∧w'.ownsRow W.heap.size 9 1 (.slice (some ⟨g0,0,none⟩) 4 c0) 4 (scells L0)∧w'.ownsRow W.heap.size 9 1 (.slice (some ⟨g1,0,none⟩) 2 c1) 2 (scells L1)∧w'.ownsRow W.heap.size 9 1 (.slice (some ⟨g2,0,none⟩) 1 c2) 1 (scells [rt])∧Below W.heap.size W w'))
 (n0:L0.length=4) (n1:L1.length=2) (hx:x=L0.getD 1 []) (hy:y=L1.getD 1 []) :
 Calls Tryd.prog 38 #[.agg #[.string ⟨seed.toArray⟩,.int .i64 0],.string ⟨msg.toArray⟩] w fun e w'=>∃ g c q d:Nat,e=.returned (.tuple #[.agg #[.string ⟨seed.toArray⟩,.int .i64 1],.agg #[.int .i64 0,.slice (some ⟨g,0,none⟩) 19 c,.slice (some ⟨q,0,none⟩) 2 d],.bool true])∧w'.ownsRow w.heap.size 9 1 (.slice (some ⟨g,0,none⟩) 19 c) 19 (scells sg)∧w'.ownsRow w.heap.size 9 1 (.slice (some ⟨q,0,none⟩) 2 d) 2 (scells [x,y])∧Below w.heap.size w w':=by
 obtain⟨i0,hi0,hz0,hz1,hz2⟩:=info_parts info9i
 obtain⟨wa,hwa⟩:∃ wa,wa=((w.alloc (.cells #[.string ⟨seed.toArray⟩,.int .i64 0] 61)).alloc (.cells #[.string ⟨#[]⟩,.int .i64 0] 61)).alloc (.cells #[.int .i64 0,.slice none 0 0,.slice none 0 0] 33):=⟨_,rfl⟩
 have Ba:Below w.heap.size w wa:=by rw[hwa];exact (((Below.refl _ _).alloc (Nat.le_refl _) _).alloc (by simp) _).alloc (by simp;omega) _
 have sa:wa.heap.size=w.heap.size+3:=by rw[hwa];simp
 have a0:wa.heap[w.heap.size]? = some (.cells #[.string ⟨seed.toArray⟩,.int .i64 0] 61 (0,0)):=by rw[hwa,Below.heap_alloc _ _ _ (by simp;omega),Below.heap_alloc _ _ _ (by simp)];exact heap_alloc_new w _
 have a1:wa.heap[w.heap.size+1]? = some (.cells #[.string ⟨#[]⟩,.int .i64 0] 61 (0,0)):=by rw[hwa,Below.heap_alloc _ _ _ (by simp)];exact new_at _ (by simp) _
 have a2:wa.heap[w.heap.size+2]? = some (.cells #[.int .i64 0,.slice none 0 0,.slice none 0 0] 33 (0,0)):=by rw[hwa];exact new_at _ (by simp) _
 have K1:=spec_ok seed 0 true wa (by omega) (by simp[hs])
 rw[hwa] at K1
 go_enter Tryd.func38,Tryd.ntmps38
 go_wp2_with fail
 refine K1.mono ?_
 rintro e w1 ⟨rfl,b1⟩
 rw[←hwa] at b1
 clear K1 hwa
 have B1:=Ba.trans (b1.mono (by omega))
 have s1:=b1.size
 have p1:=(b1.block _ (by omega)).trans a0
 obtain⟨p1a,p1b,_⟩:=duo_row p1
 go_wp2_with fail
 refine (HK2.out w1).mono ?_
 rintro e w3 ⟨rfl,b3⟩
 have B3:=B1.trans (b3.mono B1.size)
 have s3:=b3.size
 have z0:=(b3.block _ (by omega)).trans p1
 have z1:=(b3.block _ (by omega)).trans ((b1.block _ (by omega)).trans a1)
 have z2:=(b3.block _ (by omega)).trans ((b1.block _ (by omega)).trans a2)
 have HZ:Hid (w3.heap[w.heap.size]? = some (.cells #[.string ⟨seed.toArray⟩,.int .i64 0] 61 (0,0))∧w3.heap[w.heap.size+1]? = some (.cells #[.string ⟨#[]⟩,.int .i64 0] 61 (0,0))∧w3.heap[w.heap.size+2]? = some (.cells #[.int .i64 0,.slice none 0 0,.slice none 0 0] 33 (0,0))):=⟨z0,z1,z2⟩
 have sw3:w.heap.size+3≤w3.heap.size:=by omega
 obtain⟨p3a,p3b,_⟩:=duo_row z0
 clear HK2 b3 b1 p1 a0 a1 a2 z0 z1 z2 B1 Ba p1a p1b
 have K3:=HK3.out w3.drew
 have K3A:=HK3.out (w3.alloc (.cells #[.int .i64 0,.slice none 0 0,.slice none 0 0] 33)).drew
 go_wp2_with fail
 go_cut [9] from 32 (fun v wx=>∃ bs g c:Nat,v=.pointer (some ⟨bs,0,none⟩)∧Hid (wx.heap[bs]? = some (.cells #[.int .i64 0,.slice (some ⟨g,0,none⟩) 19 c,.slice none 0 0] 33 (0,0)))∧Hid (w3.heap.size≤bs∧w3.heap.size≤g∧g≠bs)∧Hid (Below w3.heap.size w3 wx)∧Hid (wx.ownsRow w3.heap.size 9 1 (.slice (some ⟨g,0,none⟩) 19 c) 19 (scells sg)))
 case first =>
  go_region_held3 (fun w'=>w'.cell? ⟨w.heap.size,1,none⟩=some (.int .i64 0))
   (first | assumption | (with_reducible exact (trio_set_cell (by simp;omega)).trans (by assumption)) | go_keep)
   (first
    | (go_at_call 53
       with_reducible refine K3A.mono ?_
       rintro e w5 ⟨g,c,rfl,o5,b5'⟩
       obtain⟨s5,b5,hzA⟩:=below_alloc_drew b5'
       have q5b:=(b5.cell (p:=⟨w.heap.size,1,none⟩) (by simp;omega)).trans p3b
       have HN:Hid (Below w3.heap.size w3 w5∧w5.heap[w3.heap.size]? = some (.cells #[.int .i64 0,.slice none 0 0,.slice none 0 0] 33)∧w3.heap.size<g):=⟨b5,hzA,by have:=own_base o5;have e:(w3.alloc (.cells #[.int .i64 0,.slice none 0 0,.slice none 0 0] 33)).drew.heap.size=w3.heap.size+1:=(by show (w3.alloc (.cells #[.int .i64 0,.slice none 0 0,.slice none 0 0] 33)).heap.size=_;simp);omega⟩
       have O5:=hidOwn o5
       obtain⟨y0,y1,y2,yf⟩:=trio_cells HN.out.2.1
       have yf0:=yf 0
       have yf1:=yf 1
       have yf2:=yf 2
       clear o5 b5 b5' yf)
    | (go_at_call 53
       with_reducible refine K3.mono ?_
       rintro e w5 ⟨g,c,rfl,o5,b5'⟩
       have b5:Below w3.heap.size w3 w5:=⟨b5'.os,b5'.tape,b5'.output,b5'.size,b5'.block⟩
       have q5b:=(b5.cell (p:=⟨w.heap.size,1,none⟩) (by simp;omega)).trans p3b
       have HC:Hid (Below w3.heap.size w3 w5∧w3.heap.size≤g∧g<w5.heap.size):=⟨b5,own_base o5,own_lt o5⟩
       have O5:=hidOwn o5
       clear o5 b5 b5'))
  all_goals go_wp2_with fail
  · go_meet
    case rel =>
     have hc:=HC.out
     exact⟨w5.heap.size,g,c,rfl,heap_alloc_new w5 _,⟨hc.1.size,by omega,by omega⟩,hc.1.alloc hc.1.size _,(O5.out.alloc _).mono (Nat.le_refl _)⟩
  · go_meet
    case rel =>
     have hn:=HN.out
     have ts:=trio_store hn.2.1 (Nat.le_refl _) hn.1 O5.out (by omega) (.int .i64 0) (.slice (some ⟨g,0,none⟩) 19 c) (.slice none 0 0)
     exact⟨w3.heap.size,g,c,rfl,ts.1,⟨Nat.le_refl _,by omega,by omega⟩,ts.2.1,ts.2.2.mono (by show _≤(w3.alloc _).heap.size;simp)⟩
 case rest =>
  obtain⟨bs,g,c,rfl,HS,HB,HW,HO⟩:=hcut
  obtain⟨w4,rfl⟩:∃ W,W=wc:=⟨_,rfl⟩
  have hbb:=HB.out
  have b4:=HW.out
  have s4:=b4.size
  obtain⟨p4a,_,_⟩:=duo_row ((b4.block _ (by omega)).trans HZ.out.1)
  have lbs:=lt_of_block HS.out
  clear K3 K3A HK3 p3a p3b
  go_wp2_with fail
  refine (HK4.out w4).mono ?_
  rintro e w5 ⟨go,co,g0,c0,g1,c1,g2,c2,rfl,ob,l0,l1,l2,b5⟩
  have s5:=b5.size
  have d0:w5.cell? ⟨go,0,none⟩=some (.slice (some ⟨g0,0,none⟩) 4 c0):=by rw[ob.cellAt 0 (by omega)];rfl
  have d1:w5.cell? ⟨go,1,none⟩=some (.slice (some ⟨g1,0,none⟩) 2 c1):=by rw[ob.cellAt 1 (by omega)];rfl
  have r0:=row_at l0 n0 1 (by omega)
  have r1:=row_at l1 n1 1 (by omega)
  rw[←hx] at r0
  rw[←hy] at r1
  have lgo:=own_lt ob
  have lg1:=own_lt l1
  have bgo:=own_base ob
  have bg1:=own_base l1
  have HZ5:Hid (w5.heap[w.heap.size]? = some (.cells #[.string ⟨seed.toArray⟩,.int .i64 0] 61 (0,0))∧w5.heap[w.heap.size+1]? = some (.cells #[.string ⟨#[]⟩,.int .i64 0] 61 (0,0))∧w5.heap[w.heap.size+2]? = some (.cells #[.int .i64 0,.slice none 0 0,.slice none 0 0] 33 (0,0))):=⟨(b5.block _ (by omega)).trans ((b4.block _ (by omega)).trans HZ.out.1),(b5.block _ (by omega)).trans ((b4.block _ (by omega)).trans HZ.out.2.1),(b5.block _ (by omega)).trans ((b4.block _ (by omega)).trans HZ.out.2.2)⟩
  have HS5:Hid (w5.heap[bs]? = some (.cells #[.int .i64 0,.slice (some ⟨g,0,none⟩) 19 c,.slice none 0 0] 33 (0,0))):=(b5.block _ lbs).trans HS.out
  have HO5:=hidOwn (keptO HO.out b5)
  have HB5:Hid (Below w.heap.size w w5):=(B3.trans (b4.mono B3.size)).trans (b5.mono (by omega))
  obtain⟨p5a,p5b,_⟩:=duo_row HZ5.out.1
  obtain⟨v0,v1,v2,vf⟩:=trio_cells HS5.out
  have vf2:=vf 2
  have v2a:(w5.alloc (.cells #[.string ⟨x.toArray⟩] 9)).cell? ⟨bs,2,none⟩=some (.slice none 0 0):=by rw[World.cell?_alloc_lt _ _ _ (by simp;omega)];exact v2
  clear HK4 ob l0 l1 l2 b5 b4 HS HO HW HZ B3 hx hy p4a vf
  go_wp2_with fail
  refine wp_loop_rounds 3 ?_
  rw[rounds_succ]
  go_wp2_with fail
  go_cut [] from 54 (fun wx=>∃ q d:Nat,Hid (wx.heap[bs]? = some (.cells #[.int .i64 0,.slice (some ⟨g,0,none⟩) 19 c,.slice (some ⟨q,0,none⟩) 1 d] 33 (0,0)))∧Hid (wx.ownsRow (bs+1) 9 1 (.slice (some ⟨q,0,none⟩) 1 d) 1 (scells [x])∧w5.heap.size≤q)∧Hid (w5.grownBy wx (some bs)))
  case first =>
   go_region_law (
    refine step_append_lies _ rfl (.tmp 55) (.tmp 63) 24 rfl w5.heap.size 9 i0 (.string ⟨#[]⟩) 1 16 Tryd.underlying24 hi0 hz0 hz1 hz2 rfl (by decide) (.slice none 0 0) 0 _ (by simp[Act.eval]) (own_nil _ _ _) ⟨w5.heap.size,0,none⟩ 1 1 [.string ⟨x.toArray⟩] (by simp[Act.eval]) rfl (World.news_of_block (cs:=#[.string ⟨x.toArray⟩]) (t:=9) (fr:=(0,0)) (heap_alloc_new w5 _)) (by simp[Value.oneCell']) (by decide) (by unfold maxLen;omega) (by omega) (by show _≤(w5.alloc _).heap.size;simp <;> omega) (w5.heap.size+1) (by show (w5.alloc _).heap.size=_;simp) ?_
    intro g3 cap3 w6 hown6 hgrow6 hat6 hlt6
    have h6:w6.heap[bs]? = some (.cells #[.int .i64 0,.slice (some ⟨g,0,none⟩) 19 c,.slice none 0 0] 33 (0,0)):=(by rw[hgrow6.block _ (by show _<(w5.alloc _).heap.size;simp;omega) (by simp[Value.ownBlock])];show (w5.alloc _).heap[bs]? = _;rw[Below.heap_alloc _ _ _ (by omega)];exact HS5.out)
    obtain⟨_,_,u2,uf⟩:=trio_cells h6
    have uf2:=uf 2
    clear uf)
   all_goals go_wp2_with fail
   all_goals
    go_meet
    case rel =>
     exact⟨g3,cap3,trio_set (j:=2) h6,⟨(ownsRow_setCell_other (a:=⟨bs,2,none⟩) hown6 (by have:=own_base hown6;simp[Value.ownBlock];omega) _).mono (by omega),own_base hown6⟩,grown_set (grown_ad (World.grownBy.refl _ _) hgrow6 (by simp[Value.ownBlock])) _⟩
  case rest =>
   obtain⟨q,d,HS6,HO6,HG6⟩:=hcut
   obtain⟨w7,rfl⟩:∃ W,W=wc:=⟨_,rfl⟩
   have g7:=HG6.out
   have s7:=g7.size
   have hq7:=HO6.out.2
   have e1:=(g7.cell_far ⟨go,1,none⟩ (by simpa using lgo) (by simp;omega)).trans d1
   have e2:=(g7.cell_far ⟨g1,1,none⟩ (by simpa using lg1) (by simp;omega)).trans r1
   obtain⟨_,_,v2',vf'⟩:=trio_cells HS6.out
   have vf2':=vf' 2
   have v2b:(w7.alloc (.cells #[.string ⟨y.toArray⟩] 9)).cell? ⟨bs,2,none⟩=some (.slice (some ⟨q,0,none⟩) 1 d):=by rw[World.cell?_alloc_lt _ _ _ (by simp;omega)];exact v2'
   have O6:=hidOwn HO6.out.1
   clear vf' d0 d1 r0 r1 v0 v1 v2 v2a vf2 p5a p5b g7
   go_wp2_with fail
   rw[rounds_succ]
   go_wp2_with fail
   go_cut [] from 54 (fun wx=>∃ q d:Nat,Hid (wx.heap[bs]? = some (.cells #[.int .i64 0,.slice (some ⟨g,0,none⟩) 19 c,.slice (some ⟨q,0,none⟩) 2 d] 33 (0,0)))∧Hid (wx.ownsRow (bs+1) 9 1 (.slice (some ⟨q,0,none⟩) 2 d) 2 (scells [x,y])∧bs<q∧w5.heap.size≤q)∧Hid (w5.grownBy wx (some bs)))
   case first =>
    go_region_law (
     refine step_append_lies _ rfl (.tmp 55) (.tmp 63) 24 rfl (bs+1) 9 i0 (.string ⟨#[]⟩) 1 16 Tryd.underlying24 hi0 hz0 hz1 hz2 rfl (by decide) (.slice (some ⟨q,0,none⟩) 1 d) 1 _ (by simp[Act.eval]) (O6.out.alloc _) ⟨w7.heap.size,0,none⟩ 1 1 [.string ⟨y.toArray⟩] (by simp[Act.eval]) rfl (World.news_of_block (cs:=#[.string ⟨y.toArray⟩]) (t:=9) (fr:=(0,0)) (heap_alloc_new w7 _)) (by simp[Value.oneCell']) (by decide) (by unfold maxLen;omega) (by omega) (by show _≤(w7.alloc _).heap.size;simp <;> omega) (w7.heap.size+1) (by show (w7.alloc _).heap.size=_;simp) ?_
     intro g3 cap3 w6 hown6 hgrow6 hat6 hlt6
     have h6:w6.heap[bs]? = some (.cells #[.int .i64 0,.slice (some ⟨g,0,none⟩) 19 c,.slice (some ⟨q,0,none⟩) 1 d] 33 (0,0)):=(by rw[hgrow6.block _ (by show _<(w7.alloc _).heap.size;simp;omega) (by simp[Value.ownBlock];omega)];show (w7.alloc _).heap[bs]? = _;rw[Below.heap_alloc _ _ _ (by omega)];exact HS6.out)
     obtain⟨_,_,u2,uf⟩:=trio_cells h6
     have uf2:=uf 2
     clear uf)
    all_goals go_wp2_with fail
    all_goals
     go_meet
     case rel =>
      have hg3 : w5.heap.size ≤ g3 := by rcases hat6 with h | h
                                         · simp[Value.ownBlock] at h;omega
                                         · omega
      exact⟨g3,cap3,trio_set (j:=2) h6,⟨ownsRow_setCell_other (a:=⟨bs,2,none⟩) hown6 (by simp[Value.ownBlock];omega) _,by omega,hg3⟩,grown_set (grown_ad HG6.out hgrow6 (fun k hk=>by simp[Value.ownBlock] at hk;omega)) _⟩
   case rest =>
    obtain⟨q2,d2,HS8,HO8,HG8⟩:=hcut
    obtain⟨w9,rfl⟩:∃ W,W=wc:=⟨_,rfl⟩
    have g9:=HG8.out
    have s9:=g9.size
    have hq9:=HO8.out.2
    have z0:=(g9.block _ (by omega) (by simp;omega)).trans HZ5.out.1
    have z1:=(g9.block _ (by omega) (by simp;omega)).trans HZ5.out.2.1
    have z2:=(g9.block _ (by omega) (by simp;omega)).trans HZ5.out.2.2
    obtain⟨f0,f1,_⟩:=duo_row z0
    obtain⟨r0,r1,rf⟩:=duo_row z1
    obtain⟨t0,t1,t2,tf⟩:=trio_cells z2
    obtain⟨v0,v1,v2,_⟩:=trio_cells HS8.out
    have rf0:=rf 0
    have rf1:=rf 1
    have tf0:=tf 0
    have tf1:=tf 1
    have tf2:=tf 2
    have ne1:bs≠w.heap.size:=by omega
    have ne2:bs≠w.heap.size+1:=by omega
    have ne3:bs≠w.heap.size+1+1:=by omega
    have HZ2:Hid (w9.heap[w.heap.size+1]? = some (.cells #[.string ⟨#[]⟩,.int .i64 0] 61 (0,0))∧w9.heap[w.heap.size+2]? = some (.cells #[.int .i64 0,.slice none 0 0,.slice none 0 0] 33 (0,0))):=⟨z1,z2⟩
    have BW:Below w.heap.size w w9:=HB5.out.grown g9 (by omega) (fun k hk=>by simp at hk;omega)
    have hgk:=HO5.out.kept g9 (.inr (by simp[Value.ownBlock];omega))
    have HGK:=hidOwn hgk
    clear z0 z1 z2 rf tf g9 hgk e1 e2 v2' v2b vf2' O6
    go_wp2_with fail
    rw[rounds_succ]
    go_wp2_with fail
    go_region
    go_wp2
    have hgk:=HGK.out
    have eu:=duo_set (j:=1) (y:=.int .i64 1) (duo_set (j:=0) (y:=.string ⟨seed.toArray⟩) HZ2.out.1)
    have BS:=(BW.setCell (p:=⟨w.heap.size+1,0,none⟩) (by simp) (.string ⟨seed.toArray⟩)).setCell (p:=⟨w.heap.size+1,1,none⟩) (by simp) (.int .i64 1)
    have hz2:((w9.setCell ⟨w.heap.size+1,0,none⟩ (.string ⟨seed.toArray⟩)).setCell ⟨w.heap.size+1,1,none⟩ (.int .i64 1)).heap[w.heap.size+1+1]? = _:=(Below.heap_setCell _ _ _ _ (by simp)).trans ((Below.heap_setCell _ _ _ _ (by simp)).trans HZ2.out.2)
    have two:∀ {q m a base:Nat} {xs:List Value},w9.ownsRow base 9 1 (.slice (some ⟨q,0,none⟩) m a) m xs→w.heap.size+2<q→((w9.setCell ⟨w.heap.size+1,0,none⟩ (.string ⟨seed.toArray⟩)).setCell ⟨w.heap.size+1,1,none⟩ (.int .i64 1)).ownsRow base 9 1 (.slice (some ⟨q,0,none⟩) m a) m xs:=fun h hq=>ownsRow_setCell_other (ownsRow_setCell_other h (by simp[Value.ownBlock];omega) _) (by simp[Value.ownBlock];omega) _
    have ts:=trio_store hz2 (by omega:w.heap.size≤w.heap.size+1+1) BS (two hgk (by omega)) (by omega) (.int .i64 0) (.slice (some ⟨g,0,none⟩) 19 c) (.slice (some ⟨q2,0,none⟩) 2 d2)
    have tk:=trio_store hz2 (by omega:w.heap.size≤w.heap.size+1+1) BS (two HO8.out.1 (by omega)) (by omega) (.int .i64 0) (.slice (some ⟨g,0,none⟩) 19 c) (.slice (some ⟨q2,0,none⟩) 2 d2)
    have eu2:=(Below.heap_setCell _ ⟨w.heap.size+1+1,2,none⟩ (.slice (some ⟨q2,0,none⟩) 2 d2) (w.heap.size+1) (by simp)).trans ((Below.heap_setCell _ ⟨w.heap.size+1+1,1,none⟩ (.slice (some ⟨g,0,none⟩) 19 c) (w.heap.size+1) (by simp)).trans ((Below.heap_setCell _ ⟨w.heap.size+1+1,0,none⟩ (.int .i64 0) (w.heap.size+1) (by simp)).trans eu))
    obtain⟨wf,hwf⟩:∃ wf,wf=(((((w9.setCell ⟨w.heap.size+1,0,none⟩ (.string ⟨seed.toArray⟩)).setCell ⟨w.heap.size+1,1,none⟩ (.int .i64 1)).setCell ⟨w.heap.size+1+1,0,none⟩ (.int .i64 0)).setCell ⟨w.heap.size+1+1,1,none⟩ (.slice (some ⟨g,0,none⟩) 19 c)).setCell ⟨w.heap.size+1+1,2,none⟩ (.slice (some ⟨q2,0,none⟩) 2 d2)).drew:=⟨_,rfl⟩
    have F1:wf.heap[w.heap.size+1]? = some (.cells #[.string ⟨seed.toArray⟩,.int .i64 1] 61 (0,0)):=by rw[hwf];exact eu2
    have F2:wf.heap[w.heap.size+1+1]? = some (.cells #[.int .i64 0,.slice (some ⟨g,0,none⟩) 19 c,.slice (some ⟨q2,0,none⟩) 2 d2] 33 (0,0)):=by rw[hwf];exact ts.1
    have F3:wf.ownsRow w.heap.size 9 1 (.slice (some ⟨g,0,none⟩) 19 c) 19 (scells sg):=by rw[hwf];exact (ts.2.2.mono (by omega)).drew
    have F4:wf.ownsRow w.heap.size 9 1 (.slice (some ⟨q2,0,none⟩) 2 d2) 2 (scells [x,y]):=by rw[hwf];exact (tk.2.2.mono (by omega)).drew
    have F5:Below w.heap.size w wf:=by rw[hwf];exact below_drewI ts.2.1
    rw[←hwf]
    clear hwf eu2 ts tk eu hz2 BS two hgk
    exact bodyPost_ret (v:=.tuple #[.agg #[.string ⟨seed.toArray⟩,.int .i64 1],.agg #[.int .i64 0,.slice (some ⟨g,0,none⟩) 19 c,.slice (some ⟨q2,0,none⟩) 2 d2],.bool true]) (results_ccb rfl _ _ (w.heap.size+1) (w.heap.size+1+1) 61 33 _ _ _ _ rfl F1 Tryd.underlying61 rfl (by kernel_rfl) rfl F2 Tryd.underlying33 rfl (by kernel_rfl) _ rfl) rfl ⟨g,c,q2,d2,rfl,F3,F4,F5⟩
set_option maxRecDepth 100000 in
set_option maxHeartbeats 4000000 in
theorem spec_next_1 (seed msg lf x y:List UInt8) (sg L0 L1:List (List UInt8)) (rt:List UInt8) (w:World) (hs:seed.length=32)
 (HK2:Hid (∀ W,Calls Tryd.prog 50 #[.string ⟨seed.toArray⟩,.int .i64 1] W fun e w'=>e=.returned (.tuple #[.string ⟨lf.toArray⟩,.bool true])∧Below W.heap.size W w'))
 (HK3:Hid (∀ W,Calls Tryd.prog 53 #[.string ⟨lf.toArray⟩,.string ⟨msg.toArray⟩] W fun e w'=>∃ g cap:Nat,e=.returned (.slice (some ⟨g,0,none⟩) 19 cap)∧w'.ownsRow W.heap.size 9 1 (.slice (some ⟨g,0,none⟩) 19 cap) 19 (scells sg)∧Below W.heap.size W w'))
 (HK4:Hid (∀ W,Calls Tryd.prog 37 #[.string ⟨seed.toArray⟩] W fun e w'=>∃ go co g0 c0 g1 c1 g2 c2:Nat,e=.returned (.slice (some ⟨go,0,none⟩) 3 co)∧w'.ownsRow W.heap.size 24 1 (.slice (some ⟨go,0,none⟩) 3 co) 3 [.slice (some ⟨g0,0,none⟩) 4 c0,.slice (some ⟨g1,0,none⟩) 2 c1,.slice (some ⟨g2,0,none⟩) 1 c2]∧w'.ownsRow W.heap.size 9 1 (.slice (some ⟨g0,0,none⟩) 4 c0) 4 (scells L0)∧w'.ownsRow W.heap.size 9 1 (.slice (some ⟨g1,0,none⟩) 2 c1) 2 (scells L1)∧w'.ownsRow W.heap.size 9 1 (.slice (some ⟨g2,0,none⟩) 1 c2) 1 (scells [rt])∧Below W.heap.size W w'))
 (n0:L0.length=4) (n1:L1.length=2) (hx:x=L0.getD 0 []) (hy:y=L1.getD 1 []) :
 Calls Tryd.prog 38 #[.agg #[.string ⟨seed.toArray⟩,.int .i64 1],.string ⟨msg.toArray⟩] w fun e w'=>∃ g c q d:Nat,e=.returned (.tuple #[.agg #[.string ⟨seed.toArray⟩,.int .i64 2],.agg #[.int .i64 1,.slice (some ⟨g,0,none⟩) 19 c,.slice (some ⟨q,0,none⟩) 2 d],.bool true])∧w'.ownsRow w.heap.size 9 1 (.slice (some ⟨g,0,none⟩) 19 c) 19 (scells sg)∧w'.ownsRow w.heap.size 9 1 (.slice (some ⟨q,0,none⟩) 2 d) 2 (scells [x,y])∧Below w.heap.size w w':=by
 obtain⟨i0,hi0,hz0,hz1,hz2⟩:=info_parts info9i
 obtain⟨wa,hwa⟩:∃ wa,wa=((w.alloc (.cells #[.string ⟨seed.toArray⟩,.int .i64 1] 61)).alloc (.cells #[.string ⟨#[]⟩,.int .i64 0] 61)).alloc (.cells #[.int .i64 0,.slice none 0 0,.slice none 0 0] 33):=⟨_,rfl⟩
 have Ba:Below w.heap.size w wa:=by rw[hwa];exact (((Below.refl _ _).alloc (Nat.le_refl _) _).alloc (by simp) _).alloc (by simp;omega) _
 have sa:wa.heap.size=w.heap.size+3:=by rw[hwa];simp
 have a0:wa.heap[w.heap.size]? = some (.cells #[.string ⟨seed.toArray⟩,.int .i64 1] 61 (0,0)):=by rw[hwa,Below.heap_alloc _ _ _ (by simp;omega),Below.heap_alloc _ _ _ (by simp)];exact heap_alloc_new w _
 have a1:wa.heap[w.heap.size+1]? = some (.cells #[.string ⟨#[]⟩,.int .i64 0] 61 (0,0)):=by rw[hwa,Below.heap_alloc _ _ _ (by simp)];exact new_at _ (by simp) _
 have a2:wa.heap[w.heap.size+2]? = some (.cells #[.int .i64 0,.slice none 0 0,.slice none 0 0] 33 (0,0)):=by rw[hwa];exact new_at _ (by simp) _
 have K1:=spec_ok seed 1 true wa (by omega) (by simp[hs])
 rw[hwa] at K1
 go_enter Tryd.func38,Tryd.ntmps38
 go_wp2_with fail
 refine K1.mono ?_
 rintro e w1 ⟨rfl,b1⟩
 rw[←hwa] at b1
 clear K1 hwa
 have B1:=Ba.trans (b1.mono (by omega))
 have s1:=b1.size
 have p1:=(b1.block _ (by omega)).trans a0
 obtain⟨p1a,p1b,_⟩:=duo_row p1
 go_wp2_with fail
 refine (HK2.out w1).mono ?_
 rintro e w3 ⟨rfl,b3⟩
 have B3:=B1.trans (b3.mono B1.size)
 have s3:=b3.size
 have z0:=(b3.block _ (by omega)).trans p1
 have z1:=(b3.block _ (by omega)).trans ((b1.block _ (by omega)).trans a1)
 have z2:=(b3.block _ (by omega)).trans ((b1.block _ (by omega)).trans a2)
 have HZ:Hid (w3.heap[w.heap.size]? = some (.cells #[.string ⟨seed.toArray⟩,.int .i64 1] 61 (0,0))∧w3.heap[w.heap.size+1]? = some (.cells #[.string ⟨#[]⟩,.int .i64 0] 61 (0,0))∧w3.heap[w.heap.size+2]? = some (.cells #[.int .i64 0,.slice none 0 0,.slice none 0 0] 33 (0,0))):=⟨z0,z1,z2⟩
 have sw3:w.heap.size+3≤w3.heap.size:=by omega
 obtain⟨p3a,p3b,_⟩:=duo_row z0
 clear HK2 b3 b1 p1 a0 a1 a2 z0 z1 z2 B1 Ba p1a p1b
 have K3:=HK3.out w3.drew
 have K3A:=HK3.out (w3.alloc (.cells #[.int .i64 0,.slice none 0 0,.slice none 0 0] 33)).drew
 go_wp2_with fail
 go_cut [9] from 32 (fun v wx=>∃ bs g c:Nat,v=.pointer (some ⟨bs,0,none⟩)∧Hid (wx.heap[bs]? = some (.cells #[.int .i64 1,.slice (some ⟨g,0,none⟩) 19 c,.slice none 0 0] 33 (0,0)))∧Hid (w3.heap.size≤bs∧w3.heap.size≤g∧g≠bs)∧Hid (Below w3.heap.size w3 wx)∧Hid (wx.ownsRow w3.heap.size 9 1 (.slice (some ⟨g,0,none⟩) 19 c) 19 (scells sg)))
 case first =>
  go_region_held3 (fun w'=>w'.cell? ⟨w.heap.size,1,none⟩=some (.int .i64 1))
   (first | assumption | (with_reducible exact (trio_set_cell (by simp;omega)).trans (by assumption)) | go_keep)
   (first
    | (go_at_call 53
       with_reducible refine K3A.mono ?_
       rintro e w5 ⟨g,c,rfl,o5,b5'⟩
       obtain⟨s5,b5,hzA⟩:=below_alloc_drew b5'
       have q5b:=(b5.cell (p:=⟨w.heap.size,1,none⟩) (by simp;omega)).trans p3b
       have HN:Hid (Below w3.heap.size w3 w5∧w5.heap[w3.heap.size]? = some (.cells #[.int .i64 0,.slice none 0 0,.slice none 0 0] 33)∧w3.heap.size<g):=⟨b5,hzA,by have:=own_base o5;have e:(w3.alloc (.cells #[.int .i64 0,.slice none 0 0,.slice none 0 0] 33)).drew.heap.size=w3.heap.size+1:=(by show (w3.alloc (.cells #[.int .i64 0,.slice none 0 0,.slice none 0 0] 33)).heap.size=_;simp);omega⟩
       have O5:=hidOwn o5
       obtain⟨y0,y1,y2,yf⟩:=trio_cells HN.out.2.1
       have yf0:=yf 0
       have yf1:=yf 1
       have yf2:=yf 2
       clear o5 b5 b5' yf)
    | (go_at_call 53
       with_reducible refine K3.mono ?_
       rintro e w5 ⟨g,c,rfl,o5,b5'⟩
       have b5:Below w3.heap.size w3 w5:=⟨b5'.os,b5'.tape,b5'.output,b5'.size,b5'.block⟩
       have q5b:=(b5.cell (p:=⟨w.heap.size,1,none⟩) (by simp;omega)).trans p3b
       have HC:Hid (Below w3.heap.size w3 w5∧w3.heap.size≤g∧g<w5.heap.size):=⟨b5,own_base o5,own_lt o5⟩
       have O5:=hidOwn o5
       clear o5 b5 b5'))
  all_goals go_wp2_with fail
  · go_meet
    case rel =>
     have hc:=HC.out
     exact⟨w5.heap.size,g,c,rfl,heap_alloc_new w5 _,⟨hc.1.size,by omega,by omega⟩,hc.1.alloc hc.1.size _,(O5.out.alloc _).mono (Nat.le_refl _)⟩
  · go_meet
    case rel =>
     have hn:=HN.out
     have ts:=trio_store hn.2.1 (Nat.le_refl _) hn.1 O5.out (by omega) (.int .i64 1) (.slice (some ⟨g,0,none⟩) 19 c) (.slice none 0 0)
     exact⟨w3.heap.size,g,c,rfl,ts.1,⟨Nat.le_refl _,by omega,by omega⟩,ts.2.1,ts.2.2.mono (by show _≤(w3.alloc _).heap.size;simp)⟩
 case rest =>
  obtain⟨bs,g,c,rfl,HS,HB,HW,HO⟩:=hcut
  obtain⟨w4,rfl⟩:∃ W,W=wc:=⟨_,rfl⟩
  have hbb:=HB.out
  have b4:=HW.out
  have s4:=b4.size
  obtain⟨p4a,_,_⟩:=duo_row ((b4.block _ (by omega)).trans HZ.out.1)
  have lbs:=lt_of_block HS.out
  clear K3 K3A HK3 p3a p3b
  go_wp2_with fail
  refine (HK4.out w4).mono ?_
  rintro e w5 ⟨go,co,g0,c0,g1,c1,g2,c2,rfl,ob,l0,l1,l2,b5⟩
  have s5:=b5.size
  have d0:w5.cell? ⟨go,0,none⟩=some (.slice (some ⟨g0,0,none⟩) 4 c0):=by rw[ob.cellAt 0 (by omega)];rfl
  have d1:w5.cell? ⟨go,1,none⟩=some (.slice (some ⟨g1,0,none⟩) 2 c1):=by rw[ob.cellAt 1 (by omega)];rfl
  have r0:=row_at l0 n0 0 (by omega)
  have r1:=row_at l1 n1 1 (by omega)
  rw[←hx] at r0
  rw[←hy] at r1
  have lgo:=own_lt ob
  have lg1:=own_lt l1
  have bgo:=own_base ob
  have bg1:=own_base l1
  have HZ5:Hid (w5.heap[w.heap.size]? = some (.cells #[.string ⟨seed.toArray⟩,.int .i64 1] 61 (0,0))∧w5.heap[w.heap.size+1]? = some (.cells #[.string ⟨#[]⟩,.int .i64 0] 61 (0,0))∧w5.heap[w.heap.size+2]? = some (.cells #[.int .i64 0,.slice none 0 0,.slice none 0 0] 33 (0,0))):=⟨(b5.block _ (by omega)).trans ((b4.block _ (by omega)).trans HZ.out.1),(b5.block _ (by omega)).trans ((b4.block _ (by omega)).trans HZ.out.2.1),(b5.block _ (by omega)).trans ((b4.block _ (by omega)).trans HZ.out.2.2)⟩
  have HS5:Hid (w5.heap[bs]? = some (.cells #[.int .i64 1,.slice (some ⟨g,0,none⟩) 19 c,.slice none 0 0] 33 (0,0))):=(b5.block _ lbs).trans HS.out
  have HO5:=hidOwn (keptO HO.out b5)
  have HB5:Hid (Below w.heap.size w w5):=(B3.trans (b4.mono B3.size)).trans (b5.mono (by omega))
  obtain⟨p5a,p5b,_⟩:=duo_row HZ5.out.1
  obtain⟨v0,v1,v2,vf⟩:=trio_cells HS5.out
  have vf2:=vf 2
  have v2a:(w5.alloc (.cells #[.string ⟨x.toArray⟩] 9)).cell? ⟨bs,2,none⟩=some (.slice none 0 0):=by rw[World.cell?_alloc_lt _ _ _ (by simp;omega)];exact v2
  clear HK4 ob l0 l1 l2 b5 b4 HS HO HW HZ B3 hx hy p4a vf
  go_wp2_with fail
  refine wp_loop_rounds 3 ?_
  rw[rounds_succ]
  go_wp2_with fail
  go_cut [] from 54 (fun wx=>∃ q d:Nat,Hid (wx.heap[bs]? = some (.cells #[.int .i64 1,.slice (some ⟨g,0,none⟩) 19 c,.slice (some ⟨q,0,none⟩) 1 d] 33 (0,0)))∧Hid (wx.ownsRow (bs+1) 9 1 (.slice (some ⟨q,0,none⟩) 1 d) 1 (scells [x])∧w5.heap.size≤q)∧Hid (w5.grownBy wx (some bs)))
  case first =>
   go_region_law (
    refine step_append_lies _ rfl (.tmp 55) (.tmp 63) 24 rfl w5.heap.size 9 i0 (.string ⟨#[]⟩) 1 16 Tryd.underlying24 hi0 hz0 hz1 hz2 rfl (by decide) (.slice none 0 0) 0 _ (by simp[Act.eval]) (own_nil _ _ _) ⟨w5.heap.size,0,none⟩ 1 1 [.string ⟨x.toArray⟩] (by simp[Act.eval]) rfl (World.news_of_block (cs:=#[.string ⟨x.toArray⟩]) (t:=9) (fr:=(0,0)) (heap_alloc_new w5 _)) (by simp[Value.oneCell']) (by decide) (by unfold maxLen;omega) (by omega) (by show _≤(w5.alloc _).heap.size;simp <;> omega) (w5.heap.size+1) (by show (w5.alloc _).heap.size=_;simp) ?_
    intro g3 cap3 w6 hown6 hgrow6 hat6 hlt6
    have h6:w6.heap[bs]? = some (.cells #[.int .i64 1,.slice (some ⟨g,0,none⟩) 19 c,.slice none 0 0] 33 (0,0)):=(by rw[hgrow6.block _ (by show _<(w5.alloc _).heap.size;simp;omega) (by simp[Value.ownBlock])];show (w5.alloc _).heap[bs]? = _;rw[Below.heap_alloc _ _ _ (by omega)];exact HS5.out)
    obtain⟨_,_,u2,uf⟩:=trio_cells h6
    have uf2:=uf 2
    clear uf)
   all_goals go_wp2_with fail
   all_goals
    go_meet
    case rel =>
     exact⟨g3,cap3,trio_set (j:=2) h6,⟨(ownsRow_setCell_other (a:=⟨bs,2,none⟩) hown6 (by have:=own_base hown6;simp[Value.ownBlock];omega) _).mono (by omega),own_base hown6⟩,grown_set (grown_ad (World.grownBy.refl _ _) hgrow6 (by simp[Value.ownBlock])) _⟩
  case rest =>
   obtain⟨q,d,HS6,HO6,HG6⟩:=hcut
   obtain⟨w7,rfl⟩:∃ W,W=wc:=⟨_,rfl⟩
   have g7:=HG6.out
   have s7:=g7.size
   have hq7:=HO6.out.2
   have e1:=(g7.cell_far ⟨go,1,none⟩ (by simpa using lgo) (by simp;omega)).trans d1
   have e2:=(g7.cell_far ⟨g1,1,none⟩ (by simpa using lg1) (by simp;omega)).trans r1
   obtain⟨_,_,v2',vf'⟩:=trio_cells HS6.out
   have vf2':=vf' 2
   have v2b:(w7.alloc (.cells #[.string ⟨y.toArray⟩] 9)).cell? ⟨bs,2,none⟩=some (.slice (some ⟨q,0,none⟩) 1 d):=by rw[World.cell?_alloc_lt _ _ _ (by simp;omega)];exact v2'
   have O6:=hidOwn HO6.out.1
   clear vf' d0 d1 r0 r1 v0 v1 v2 v2a vf2 p5a p5b g7
   go_wp2_with fail
   rw[rounds_succ]
   go_wp2_with fail
   go_cut [] from 54 (fun wx=>∃ q d:Nat,Hid (wx.heap[bs]? = some (.cells #[.int .i64 1,.slice (some ⟨g,0,none⟩) 19 c,.slice (some ⟨q,0,none⟩) 2 d] 33 (0,0)))∧Hid (wx.ownsRow (bs+1) 9 1 (.slice (some ⟨q,0,none⟩) 2 d) 2 (scells [x,y])∧bs<q∧w5.heap.size≤q)∧Hid (w5.grownBy wx (some bs)))
   case first =>
    go_region_law (
     refine step_append_lies _ rfl (.tmp 55) (.tmp 63) 24 rfl (bs+1) 9 i0 (.string ⟨#[]⟩) 1 16 Tryd.underlying24 hi0 hz0 hz1 hz2 rfl (by decide) (.slice (some ⟨q,0,none⟩) 1 d) 1 _ (by simp[Act.eval]) (O6.out.alloc _) ⟨w7.heap.size,0,none⟩ 1 1 [.string ⟨y.toArray⟩] (by simp[Act.eval]) rfl (World.news_of_block (cs:=#[.string ⟨y.toArray⟩]) (t:=9) (fr:=(0,0)) (heap_alloc_new w7 _)) (by simp[Value.oneCell']) (by decide) (by unfold maxLen;omega) (by omega) (by show _≤(w7.alloc _).heap.size;simp <;> omega) (w7.heap.size+1) (by show (w7.alloc _).heap.size=_;simp) ?_
     intro g3 cap3 w6 hown6 hgrow6 hat6 hlt6
     have h6:w6.heap[bs]? = some (.cells #[.int .i64 1,.slice (some ⟨g,0,none⟩) 19 c,.slice (some ⟨q,0,none⟩) 1 d] 33 (0,0)):=(by rw[hgrow6.block _ (by show _<(w7.alloc _).heap.size;simp;omega) (by simp[Value.ownBlock];omega)];show (w7.alloc _).heap[bs]? = _;rw[Below.heap_alloc _ _ _ (by omega)];exact HS6.out)
     obtain⟨_,_,u2,uf⟩:=trio_cells h6
     have uf2:=uf 2
     clear uf)
    all_goals go_wp2_with fail
    all_goals
     go_meet
     case rel =>
      have hg3 : w5.heap.size ≤ g3 := by rcases hat6 with h | h
                                         · simp[Value.ownBlock] at h;omega
                                         · omega
      exact⟨g3,cap3,trio_set (j:=2) h6,⟨ownsRow_setCell_other (a:=⟨bs,2,none⟩) hown6 (by simp[Value.ownBlock];omega) _,by omega,hg3⟩,grown_set (grown_ad HG6.out hgrow6 (fun k hk=>by simp[Value.ownBlock] at hk;omega)) _⟩
   case rest =>
    obtain⟨q2,d2,HS8,HO8,HG8⟩:=hcut
    obtain⟨w9,rfl⟩:∃ W,W=wc:=⟨_,rfl⟩
    have g9:=HG8.out
    have s9:=g9.size
    have hq9:=HO8.out.2
    have z0:=(g9.block _ (by omega) (by simp;omega)).trans HZ5.out.1
    have z1:=(g9.block _ (by omega) (by simp;omega)).trans HZ5.out.2.1
    have z2:=(g9.block _ (by omega) (by simp;omega)).trans HZ5.out.2.2
    obtain⟨f0,f1,_⟩:=duo_row z0
    obtain⟨r0,r1,rf⟩:=duo_row z1
    obtain⟨t0,t1,t2,tf⟩:=trio_cells z2
    obtain⟨v0,v1,v2,_⟩:=trio_cells HS8.out
    have rf0:=rf 0
    have rf1:=rf 1
    have tf0:=tf 0
    have tf1:=tf 1
    have tf2:=tf 2
    have ne1:bs≠w.heap.size:=by omega
    have ne2:bs≠w.heap.size+1:=by omega
    have ne3:bs≠w.heap.size+1+1:=by omega
    have HZ2:Hid (w9.heap[w.heap.size+1]? = some (.cells #[.string ⟨#[]⟩,.int .i64 0] 61 (0,0))∧w9.heap[w.heap.size+2]? = some (.cells #[.int .i64 0,.slice none 0 0,.slice none 0 0] 33 (0,0))):=⟨z1,z2⟩
    have BW:Below w.heap.size w w9:=HB5.out.grown g9 (by omega) (fun k hk=>by simp at hk;omega)
    have hgk:=HO5.out.kept g9 (.inr (by simp[Value.ownBlock];omega))
    have HGK:=hidOwn hgk
    clear z0 z1 z2 rf tf g9 hgk e1 e2 v2' v2b vf2' O6
    go_wp2_with fail
    rw[rounds_succ]
    go_wp2_with fail
    go_region
    go_wp2
    have hgk:=HGK.out
    have eu:=duo_set (j:=1) (y:=.int .i64 2) (duo_set (j:=0) (y:=.string ⟨seed.toArray⟩) HZ2.out.1)
    have BS:=(BW.setCell (p:=⟨w.heap.size+1,0,none⟩) (by simp) (.string ⟨seed.toArray⟩)).setCell (p:=⟨w.heap.size+1,1,none⟩) (by simp) (.int .i64 2)
    have hz2:((w9.setCell ⟨w.heap.size+1,0,none⟩ (.string ⟨seed.toArray⟩)).setCell ⟨w.heap.size+1,1,none⟩ (.int .i64 2)).heap[w.heap.size+1+1]? = _:=(Below.heap_setCell _ _ _ _ (by simp)).trans ((Below.heap_setCell _ _ _ _ (by simp)).trans HZ2.out.2)
    have two:∀ {q m a base:Nat} {xs:List Value},w9.ownsRow base 9 1 (.slice (some ⟨q,0,none⟩) m a) m xs→w.heap.size+2<q→((w9.setCell ⟨w.heap.size+1,0,none⟩ (.string ⟨seed.toArray⟩)).setCell ⟨w.heap.size+1,1,none⟩ (.int .i64 2)).ownsRow base 9 1 (.slice (some ⟨q,0,none⟩) m a) m xs:=fun h hq=>ownsRow_setCell_other (ownsRow_setCell_other h (by simp[Value.ownBlock];omega) _) (by simp[Value.ownBlock];omega) _
    have ts:=trio_store hz2 (by omega:w.heap.size≤w.heap.size+1+1) BS (two hgk (by omega)) (by omega) (.int .i64 1) (.slice (some ⟨g,0,none⟩) 19 c) (.slice (some ⟨q2,0,none⟩) 2 d2)
    have tk:=trio_store hz2 (by omega:w.heap.size≤w.heap.size+1+1) BS (two HO8.out.1 (by omega)) (by omega) (.int .i64 1) (.slice (some ⟨g,0,none⟩) 19 c) (.slice (some ⟨q2,0,none⟩) 2 d2)
    have eu2:=(Below.heap_setCell _ ⟨w.heap.size+1+1,2,none⟩ (.slice (some ⟨q2,0,none⟩) 2 d2) (w.heap.size+1) (by simp)).trans ((Below.heap_setCell _ ⟨w.heap.size+1+1,1,none⟩ (.slice (some ⟨g,0,none⟩) 19 c) (w.heap.size+1) (by simp)).trans ((Below.heap_setCell _ ⟨w.heap.size+1+1,0,none⟩ (.int .i64 1) (w.heap.size+1) (by simp)).trans eu))
    obtain⟨wf,hwf⟩:∃ wf,wf=(((((w9.setCell ⟨w.heap.size+1,0,none⟩ (.string ⟨seed.toArray⟩)).setCell ⟨w.heap.size+1,1,none⟩ (.int .i64 2)).setCell ⟨w.heap.size+1+1,0,none⟩ (.int .i64 1)).setCell ⟨w.heap.size+1+1,1,none⟩ (.slice (some ⟨g,0,none⟩) 19 c)).setCell ⟨w.heap.size+1+1,2,none⟩ (.slice (some ⟨q2,0,none⟩) 2 d2)).drew:=⟨_,rfl⟩
    have F1:wf.heap[w.heap.size+1]? = some (.cells #[.string ⟨seed.toArray⟩,.int .i64 2] 61 (0,0)):=by rw[hwf];exact eu2
    have F2:wf.heap[w.heap.size+1+1]? = some (.cells #[.int .i64 1,.slice (some ⟨g,0,none⟩) 19 c,.slice (some ⟨q2,0,none⟩) 2 d2] 33 (0,0)):=by rw[hwf];exact ts.1
    have F3:wf.ownsRow w.heap.size 9 1 (.slice (some ⟨g,0,none⟩) 19 c) 19 (scells sg):=by rw[hwf];exact (ts.2.2.mono (by omega)).drew
    have F4:wf.ownsRow w.heap.size 9 1 (.slice (some ⟨q2,0,none⟩) 2 d2) 2 (scells [x,y]):=by rw[hwf];exact (tk.2.2.mono (by omega)).drew
    have F5:Below w.heap.size w wf:=by rw[hwf];exact below_drewI ts.2.1
    rw[←hwf]
    clear hwf eu2 ts tk eu hz2 BS two hgk
    exact bodyPost_ret (v:=.tuple #[.agg #[.string ⟨seed.toArray⟩,.int .i64 2],.agg #[.int .i64 1,.slice (some ⟨g,0,none⟩) 19 c,.slice (some ⟨q2,0,none⟩) 2 d2],.bool true]) (results_ccb rfl _ _ (w.heap.size+1) (w.heap.size+1+1) 61 33 _ _ _ _ rfl F1 Tryd.underlying61 rfl (by kernel_rfl) rfl F2 Tryd.underlying33 rfl (by kernel_rfl) _ rfl) rfl ⟨g,c,q2,d2,rfl,F3,F4,F5⟩
set_option maxRecDepth 100000 in
set_option maxHeartbeats 4000000 in
theorem spec_next_2 (seed msg lf x y:List UInt8) (sg L0 L1:List (List UInt8)) (rt:List UInt8) (w:World) (hs:seed.length=32)
 (HK2:Hid (∀ W,Calls Tryd.prog 50 #[.string ⟨seed.toArray⟩,.int .i64 2] W fun e w'=>e=.returned (.tuple #[.string ⟨lf.toArray⟩,.bool true])∧Below W.heap.size W w'))
 (HK3:Hid (∀ W,Calls Tryd.prog 53 #[.string ⟨lf.toArray⟩,.string ⟨msg.toArray⟩] W fun e w'=>∃ g cap:Nat,e=.returned (.slice (some ⟨g,0,none⟩) 19 cap)∧w'.ownsRow W.heap.size 9 1 (.slice (some ⟨g,0,none⟩) 19 cap) 19 (scells sg)∧Below W.heap.size W w'))
 (HK4:Hid (∀ W,Calls Tryd.prog 37 #[.string ⟨seed.toArray⟩] W fun e w'=>∃ go co g0 c0 g1 c1 g2 c2:Nat,e=.returned (.slice (some ⟨go,0,none⟩) 3 co)∧w'.ownsRow W.heap.size 24 1 (.slice (some ⟨go,0,none⟩) 3 co) 3 [.slice (some ⟨g0,0,none⟩) 4 c0,.slice (some ⟨g1,0,none⟩) 2 c1,.slice (some ⟨g2,0,none⟩) 1 c2]∧w'.ownsRow W.heap.size 9 1 (.slice (some ⟨g0,0,none⟩) 4 c0) 4 (scells L0)∧w'.ownsRow W.heap.size 9 1 (.slice (some ⟨g1,0,none⟩) 2 c1) 2 (scells L1)∧w'.ownsRow W.heap.size 9 1 (.slice (some ⟨g2,0,none⟩) 1 c2) 1 (scells [rt])∧Below W.heap.size W w'))
 (n0:L0.length=4) (n1:L1.length=2) (hx:x=L0.getD 3 []) (hy:y=L1.getD 0 []) :
 Calls Tryd.prog 38 #[.agg #[.string ⟨seed.toArray⟩,.int .i64 2],.string ⟨msg.toArray⟩] w fun e w'=>∃ g c q d:Nat,e=.returned (.tuple #[.agg #[.string ⟨seed.toArray⟩,.int .i64 3],.agg #[.int .i64 2,.slice (some ⟨g,0,none⟩) 19 c,.slice (some ⟨q,0,none⟩) 2 d],.bool true])∧w'.ownsRow w.heap.size 9 1 (.slice (some ⟨g,0,none⟩) 19 c) 19 (scells sg)∧w'.ownsRow w.heap.size 9 1 (.slice (some ⟨q,0,none⟩) 2 d) 2 (scells [x,y])∧Below w.heap.size w w':=by
 obtain⟨i0,hi0,hz0,hz1,hz2⟩:=info_parts info9i
 obtain⟨wa,hwa⟩:∃ wa,wa=((w.alloc (.cells #[.string ⟨seed.toArray⟩,.int .i64 2] 61)).alloc (.cells #[.string ⟨#[]⟩,.int .i64 0] 61)).alloc (.cells #[.int .i64 0,.slice none 0 0,.slice none 0 0] 33):=⟨_,rfl⟩
 have Ba:Below w.heap.size w wa:=by rw[hwa];exact (((Below.refl _ _).alloc (Nat.le_refl _) _).alloc (by simp) _).alloc (by simp;omega) _
 have sa:wa.heap.size=w.heap.size+3:=by rw[hwa];simp
 have a0:wa.heap[w.heap.size]? = some (.cells #[.string ⟨seed.toArray⟩,.int .i64 2] 61 (0,0)):=by rw[hwa,Below.heap_alloc _ _ _ (by simp;omega),Below.heap_alloc _ _ _ (by simp)];exact heap_alloc_new w _
 have a1:wa.heap[w.heap.size+1]? = some (.cells #[.string ⟨#[]⟩,.int .i64 0] 61 (0,0)):=by rw[hwa,Below.heap_alloc _ _ _ (by simp)];exact new_at _ (by simp) _
 have a2:wa.heap[w.heap.size+2]? = some (.cells #[.int .i64 0,.slice none 0 0,.slice none 0 0] 33 (0,0)):=by rw[hwa];exact new_at _ (by simp) _
 have K1:=spec_ok seed 2 true wa (by omega) (by simp[hs])
 rw[hwa] at K1
 go_enter Tryd.func38,Tryd.ntmps38
 go_wp2_with fail
 refine K1.mono ?_
 rintro e w1 ⟨rfl,b1⟩
 rw[←hwa] at b1
 clear K1 hwa
 have B1:=Ba.trans (b1.mono (by omega))
 have s1:=b1.size
 have p1:=(b1.block _ (by omega)).trans a0
 obtain⟨p1a,p1b,_⟩:=duo_row p1
 go_wp2_with fail
 refine (HK2.out w1).mono ?_
 rintro e w3 ⟨rfl,b3⟩
 have B3:=B1.trans (b3.mono B1.size)
 have s3:=b3.size
 have z0:=(b3.block _ (by omega)).trans p1
 have z1:=(b3.block _ (by omega)).trans ((b1.block _ (by omega)).trans a1)
 have z2:=(b3.block _ (by omega)).trans ((b1.block _ (by omega)).trans a2)
 have HZ:Hid (w3.heap[w.heap.size]? = some (.cells #[.string ⟨seed.toArray⟩,.int .i64 2] 61 (0,0))∧w3.heap[w.heap.size+1]? = some (.cells #[.string ⟨#[]⟩,.int .i64 0] 61 (0,0))∧w3.heap[w.heap.size+2]? = some (.cells #[.int .i64 0,.slice none 0 0,.slice none 0 0] 33 (0,0))):=⟨z0,z1,z2⟩
 have sw3:w.heap.size+3≤w3.heap.size:=by omega
 obtain⟨p3a,p3b,_⟩:=duo_row z0
 clear HK2 b3 b1 p1 a0 a1 a2 z0 z1 z2 B1 Ba p1a p1b
 have K3:=HK3.out w3.drew
 have K3A:=HK3.out (w3.alloc (.cells #[.int .i64 0,.slice none 0 0,.slice none 0 0] 33)).drew
 go_wp2_with fail
 go_cut [9] from 32 (fun v wx=>∃ bs g c:Nat,v=.pointer (some ⟨bs,0,none⟩)∧Hid (wx.heap[bs]? = some (.cells #[.int .i64 2,.slice (some ⟨g,0,none⟩) 19 c,.slice none 0 0] 33 (0,0)))∧Hid (w3.heap.size≤bs∧w3.heap.size≤g∧g≠bs)∧Hid (Below w3.heap.size w3 wx)∧Hid (wx.ownsRow w3.heap.size 9 1 (.slice (some ⟨g,0,none⟩) 19 c) 19 (scells sg)))
 case first =>
  go_region_held3 (fun w'=>w'.cell? ⟨w.heap.size,1,none⟩=some (.int .i64 2))
   (first | assumption | (with_reducible exact (trio_set_cell (by simp;omega)).trans (by assumption)) | go_keep)
   (first
    | (go_at_call 53
       with_reducible refine K3A.mono ?_
       rintro e w5 ⟨g,c,rfl,o5,b5'⟩
       obtain⟨s5,b5,hzA⟩:=below_alloc_drew b5'
       have q5b:=(b5.cell (p:=⟨w.heap.size,1,none⟩) (by simp;omega)).trans p3b
       have HN:Hid (Below w3.heap.size w3 w5∧w5.heap[w3.heap.size]? = some (.cells #[.int .i64 0,.slice none 0 0,.slice none 0 0] 33)∧w3.heap.size<g):=⟨b5,hzA,by have:=own_base o5;have e:(w3.alloc (.cells #[.int .i64 0,.slice none 0 0,.slice none 0 0] 33)).drew.heap.size=w3.heap.size+1:=(by show (w3.alloc (.cells #[.int .i64 0,.slice none 0 0,.slice none 0 0] 33)).heap.size=_;simp);omega⟩
       have O5:=hidOwn o5
       obtain⟨y0,y1,y2,yf⟩:=trio_cells HN.out.2.1
       have yf0:=yf 0
       have yf1:=yf 1
       have yf2:=yf 2
       clear o5 b5 b5' yf)
    | (go_at_call 53
       with_reducible refine K3.mono ?_
       rintro e w5 ⟨g,c,rfl,o5,b5'⟩
       have b5:Below w3.heap.size w3 w5:=⟨b5'.os,b5'.tape,b5'.output,b5'.size,b5'.block⟩
       have q5b:=(b5.cell (p:=⟨w.heap.size,1,none⟩) (by simp;omega)).trans p3b
       have HC:Hid (Below w3.heap.size w3 w5∧w3.heap.size≤g∧g<w5.heap.size):=⟨b5,own_base o5,own_lt o5⟩
       have O5:=hidOwn o5
       clear o5 b5 b5'))
  all_goals go_wp2_with fail
  · go_meet
    case rel =>
     have hc:=HC.out
     exact⟨w5.heap.size,g,c,rfl,heap_alloc_new w5 _,⟨hc.1.size,by omega,by omega⟩,hc.1.alloc hc.1.size _,(O5.out.alloc _).mono (Nat.le_refl _)⟩
  · go_meet
    case rel =>
     have hn:=HN.out
     have ts:=trio_store hn.2.1 (Nat.le_refl _) hn.1 O5.out (by omega) (.int .i64 2) (.slice (some ⟨g,0,none⟩) 19 c) (.slice none 0 0)
     exact⟨w3.heap.size,g,c,rfl,ts.1,⟨Nat.le_refl _,by omega,by omega⟩,ts.2.1,ts.2.2.mono (by show _≤(w3.alloc _).heap.size;simp)⟩
 case rest =>
  obtain⟨bs,g,c,rfl,HS,HB,HW,HO⟩:=hcut
  obtain⟨w4,rfl⟩:∃ W,W=wc:=⟨_,rfl⟩
  have hbb:=HB.out
  have b4:=HW.out
  have s4:=b4.size
  obtain⟨p4a,_,_⟩:=duo_row ((b4.block _ (by omega)).trans HZ.out.1)
  have lbs:=lt_of_block HS.out
  clear K3 K3A HK3 p3a p3b
  go_wp2_with fail
  refine (HK4.out w4).mono ?_
  rintro e w5 ⟨go,co,g0,c0,g1,c1,g2,c2,rfl,ob,l0,l1,l2,b5⟩
  have s5:=b5.size
  have d0:w5.cell? ⟨go,0,none⟩=some (.slice (some ⟨g0,0,none⟩) 4 c0):=by rw[ob.cellAt 0 (by omega)];rfl
  have d1:w5.cell? ⟨go,1,none⟩=some (.slice (some ⟨g1,0,none⟩) 2 c1):=by rw[ob.cellAt 1 (by omega)];rfl
  have r0:=row_at l0 n0 3 (by omega)
  have r1:=row_at l1 n1 0 (by omega)
  rw[←hx] at r0
  rw[←hy] at r1
  have lgo:=own_lt ob
  have lg1:=own_lt l1
  have bgo:=own_base ob
  have bg1:=own_base l1
  have HZ5:Hid (w5.heap[w.heap.size]? = some (.cells #[.string ⟨seed.toArray⟩,.int .i64 2] 61 (0,0))∧w5.heap[w.heap.size+1]? = some (.cells #[.string ⟨#[]⟩,.int .i64 0] 61 (0,0))∧w5.heap[w.heap.size+2]? = some (.cells #[.int .i64 0,.slice none 0 0,.slice none 0 0] 33 (0,0))):=⟨(b5.block _ (by omega)).trans ((b4.block _ (by omega)).trans HZ.out.1),(b5.block _ (by omega)).trans ((b4.block _ (by omega)).trans HZ.out.2.1),(b5.block _ (by omega)).trans ((b4.block _ (by omega)).trans HZ.out.2.2)⟩
  have HS5:Hid (w5.heap[bs]? = some (.cells #[.int .i64 2,.slice (some ⟨g,0,none⟩) 19 c,.slice none 0 0] 33 (0,0))):=(b5.block _ lbs).trans HS.out
  have HO5:=hidOwn (keptO HO.out b5)
  have HB5:Hid (Below w.heap.size w w5):=(B3.trans (b4.mono B3.size)).trans (b5.mono (by omega))
  obtain⟨p5a,p5b,_⟩:=duo_row HZ5.out.1
  obtain⟨v0,v1,v2,vf⟩:=trio_cells HS5.out
  have vf2:=vf 2
  have v2a:(w5.alloc (.cells #[.string ⟨x.toArray⟩] 9)).cell? ⟨bs,2,none⟩=some (.slice none 0 0):=by rw[World.cell?_alloc_lt _ _ _ (by simp;omega)];exact v2
  clear HK4 ob l0 l1 l2 b5 b4 HS HO HW HZ B3 hx hy p4a vf
  go_wp2_with fail
  refine wp_loop_rounds 3 ?_
  rw[rounds_succ]
  go_wp2_with fail
  go_cut [] from 54 (fun wx=>∃ q d:Nat,Hid (wx.heap[bs]? = some (.cells #[.int .i64 2,.slice (some ⟨g,0,none⟩) 19 c,.slice (some ⟨q,0,none⟩) 1 d] 33 (0,0)))∧Hid (wx.ownsRow (bs+1) 9 1 (.slice (some ⟨q,0,none⟩) 1 d) 1 (scells [x])∧w5.heap.size≤q)∧Hid (w5.grownBy wx (some bs)))
  case first =>
   go_region_law (
    refine step_append_lies _ rfl (.tmp 55) (.tmp 63) 24 rfl w5.heap.size 9 i0 (.string ⟨#[]⟩) 1 16 Tryd.underlying24 hi0 hz0 hz1 hz2 rfl (by decide) (.slice none 0 0) 0 _ (by simp[Act.eval]) (own_nil _ _ _) ⟨w5.heap.size,0,none⟩ 1 1 [.string ⟨x.toArray⟩] (by simp[Act.eval]) rfl (World.news_of_block (cs:=#[.string ⟨x.toArray⟩]) (t:=9) (fr:=(0,0)) (heap_alloc_new w5 _)) (by simp[Value.oneCell']) (by decide) (by unfold maxLen;omega) (by omega) (by show _≤(w5.alloc _).heap.size;simp <;> omega) (w5.heap.size+1) (by show (w5.alloc _).heap.size=_;simp) ?_
    intro g3 cap3 w6 hown6 hgrow6 hat6 hlt6
    have h6:w6.heap[bs]? = some (.cells #[.int .i64 2,.slice (some ⟨g,0,none⟩) 19 c,.slice none 0 0] 33 (0,0)):=(by rw[hgrow6.block _ (by show _<(w5.alloc _).heap.size;simp;omega) (by simp[Value.ownBlock])];show (w5.alloc _).heap[bs]? = _;rw[Below.heap_alloc _ _ _ (by omega)];exact HS5.out)
    obtain⟨_,_,u2,uf⟩:=trio_cells h6
    have uf2:=uf 2
    clear uf)
   all_goals go_wp2_with fail
   all_goals
    go_meet
    case rel =>
     exact⟨g3,cap3,trio_set (j:=2) h6,⟨(ownsRow_setCell_other (a:=⟨bs,2,none⟩) hown6 (by have:=own_base hown6;simp[Value.ownBlock];omega) _).mono (by omega),own_base hown6⟩,grown_set (grown_ad (World.grownBy.refl _ _) hgrow6 (by simp[Value.ownBlock])) _⟩
  case rest =>
   obtain⟨q,d,HS6,HO6,HG6⟩:=hcut
   obtain⟨w7,rfl⟩:∃ W,W=wc:=⟨_,rfl⟩
   have g7:=HG6.out
   have s7:=g7.size
   have hq7:=HO6.out.2
   have e1:=(g7.cell_far ⟨go,1,none⟩ (by simpa using lgo) (by simp;omega)).trans d1
   have e2:=(g7.cell_far ⟨g1,0,none⟩ (by simpa using lg1) (by simp;omega)).trans r1
   obtain⟨_,_,v2',vf'⟩:=trio_cells HS6.out
   have vf2':=vf' 2
   have v2b:(w7.alloc (.cells #[.string ⟨y.toArray⟩] 9)).cell? ⟨bs,2,none⟩=some (.slice (some ⟨q,0,none⟩) 1 d):=by rw[World.cell?_alloc_lt _ _ _ (by simp;omega)];exact v2'
   have O6:=hidOwn HO6.out.1
   clear vf' d0 d1 r0 r1 v0 v1 v2 v2a vf2 p5a p5b g7
   go_wp2_with fail
   rw[rounds_succ]
   go_wp2_with fail
   go_cut [] from 54 (fun wx=>∃ q d:Nat,Hid (wx.heap[bs]? = some (.cells #[.int .i64 2,.slice (some ⟨g,0,none⟩) 19 c,.slice (some ⟨q,0,none⟩) 2 d] 33 (0,0)))∧Hid (wx.ownsRow (bs+1) 9 1 (.slice (some ⟨q,0,none⟩) 2 d) 2 (scells [x,y])∧bs<q∧w5.heap.size≤q)∧Hid (w5.grownBy wx (some bs)))
   case first =>
    go_region_law (
     refine step_append_lies _ rfl (.tmp 55) (.tmp 63) 24 rfl (bs+1) 9 i0 (.string ⟨#[]⟩) 1 16 Tryd.underlying24 hi0 hz0 hz1 hz2 rfl (by decide) (.slice (some ⟨q,0,none⟩) 1 d) 1 _ (by simp[Act.eval]) (O6.out.alloc _) ⟨w7.heap.size,0,none⟩ 1 1 [.string ⟨y.toArray⟩] (by simp[Act.eval]) rfl (World.news_of_block (cs:=#[.string ⟨y.toArray⟩]) (t:=9) (fr:=(0,0)) (heap_alloc_new w7 _)) (by simp[Value.oneCell']) (by decide) (by unfold maxLen;omega) (by omega) (by show _≤(w7.alloc _).heap.size;simp <;> omega) (w7.heap.size+1) (by show (w7.alloc _).heap.size=_;simp) ?_
     intro g3 cap3 w6 hown6 hgrow6 hat6 hlt6
     have h6:w6.heap[bs]? = some (.cells #[.int .i64 2,.slice (some ⟨g,0,none⟩) 19 c,.slice (some ⟨q,0,none⟩) 1 d] 33 (0,0)):=(by rw[hgrow6.block _ (by show _<(w7.alloc _).heap.size;simp;omega) (by simp[Value.ownBlock];omega)];show (w7.alloc _).heap[bs]? = _;rw[Below.heap_alloc _ _ _ (by omega)];exact HS6.out)
     obtain⟨_,_,u2,uf⟩:=trio_cells h6
     have uf2:=uf 2
     clear uf)
    all_goals go_wp2_with fail
    all_goals
     go_meet
     case rel =>
      have hg3 : w5.heap.size ≤ g3 := by rcases hat6 with h | h
                                         · simp[Value.ownBlock] at h;omega
                                         · omega
      exact⟨g3,cap3,trio_set (j:=2) h6,⟨ownsRow_setCell_other (a:=⟨bs,2,none⟩) hown6 (by simp[Value.ownBlock];omega) _,by omega,hg3⟩,grown_set (grown_ad HG6.out hgrow6 (fun k hk=>by simp[Value.ownBlock] at hk;omega)) _⟩
   case rest =>
    obtain⟨q2,d2,HS8,HO8,HG8⟩:=hcut
    obtain⟨w9,rfl⟩:∃ W,W=wc:=⟨_,rfl⟩
    have g9:=HG8.out
    have s9:=g9.size
    have hq9:=HO8.out.2
    have z0:=(g9.block _ (by omega) (by simp;omega)).trans HZ5.out.1
    have z1:=(g9.block _ (by omega) (by simp;omega)).trans HZ5.out.2.1
    have z2:=(g9.block _ (by omega) (by simp;omega)).trans HZ5.out.2.2
    obtain⟨f0,f1,_⟩:=duo_row z0
    obtain⟨r0,r1,rf⟩:=duo_row z1
    obtain⟨t0,t1,t2,tf⟩:=trio_cells z2
    obtain⟨v0,v1,v2,_⟩:=trio_cells HS8.out
    have rf0:=rf 0
    have rf1:=rf 1
    have tf0:=tf 0
    have tf1:=tf 1
    have tf2:=tf 2
    have ne1:bs≠w.heap.size:=by omega
    have ne2:bs≠w.heap.size+1:=by omega
    have ne3:bs≠w.heap.size+1+1:=by omega
    have HZ2:Hid (w9.heap[w.heap.size+1]? = some (.cells #[.string ⟨#[]⟩,.int .i64 0] 61 (0,0))∧w9.heap[w.heap.size+2]? = some (.cells #[.int .i64 0,.slice none 0 0,.slice none 0 0] 33 (0,0))):=⟨z1,z2⟩
    have BW:Below w.heap.size w w9:=HB5.out.grown g9 (by omega) (fun k hk=>by simp at hk;omega)
    have hgk:=HO5.out.kept g9 (.inr (by simp[Value.ownBlock];omega))
    have HGK:=hidOwn hgk
    clear z0 z1 z2 rf tf g9 hgk e1 e2 v2' v2b vf2' O6
    go_wp2_with fail
    rw[rounds_succ]
    go_wp2_with fail
    go_region
    go_wp2
    have hgk:=HGK.out
    have eu:=duo_set (j:=1) (y:=.int .i64 3) (duo_set (j:=0) (y:=.string ⟨seed.toArray⟩) HZ2.out.1)
    have BS:=(BW.setCell (p:=⟨w.heap.size+1,0,none⟩) (by simp) (.string ⟨seed.toArray⟩)).setCell (p:=⟨w.heap.size+1,1,none⟩) (by simp) (.int .i64 3)
    have hz2:((w9.setCell ⟨w.heap.size+1,0,none⟩ (.string ⟨seed.toArray⟩)).setCell ⟨w.heap.size+1,1,none⟩ (.int .i64 3)).heap[w.heap.size+1+1]? = _:=(Below.heap_setCell _ _ _ _ (by simp)).trans ((Below.heap_setCell _ _ _ _ (by simp)).trans HZ2.out.2)
    have two:∀ {q m a base:Nat} {xs:List Value},w9.ownsRow base 9 1 (.slice (some ⟨q,0,none⟩) m a) m xs→w.heap.size+2<q→((w9.setCell ⟨w.heap.size+1,0,none⟩ (.string ⟨seed.toArray⟩)).setCell ⟨w.heap.size+1,1,none⟩ (.int .i64 3)).ownsRow base 9 1 (.slice (some ⟨q,0,none⟩) m a) m xs:=fun h hq=>ownsRow_setCell_other (ownsRow_setCell_other h (by simp[Value.ownBlock];omega) _) (by simp[Value.ownBlock];omega) _
    have ts:=trio_store hz2 (by omega:w.heap.size≤w.heap.size+1+1) BS (two hgk (by omega)) (by omega) (.int .i64 2) (.slice (some ⟨g,0,none⟩) 19 c) (.slice (some ⟨q2,0,none⟩) 2 d2)
    have tk:=trio_store hz2 (by omega:w.heap.size≤w.heap.size+1+1) BS (two HO8.out.1 (by omega)) (by omega) (.int .i64 2) (.slice (some ⟨g,0,none⟩) 19 c) (.slice (some ⟨q2,0,none⟩) 2 d2)
    have eu2:=(Below.heap_setCell _ ⟨w.heap.size+1+1,2,none⟩ (.slice (some ⟨q2,0,none⟩) 2 d2) (w.heap.size+1) (by simp)).trans ((Below.heap_setCell _ ⟨w.heap.size+1+1,1,none⟩ (.slice (some ⟨g,0,none⟩) 19 c) (w.heap.size+1) (by simp)).trans ((Below.heap_setCell _ ⟨w.heap.size+1+1,0,none⟩ (.int .i64 2) (w.heap.size+1) (by simp)).trans eu))
    obtain⟨wf,hwf⟩:∃ wf,wf=(((((w9.setCell ⟨w.heap.size+1,0,none⟩ (.string ⟨seed.toArray⟩)).setCell ⟨w.heap.size+1,1,none⟩ (.int .i64 3)).setCell ⟨w.heap.size+1+1,0,none⟩ (.int .i64 2)).setCell ⟨w.heap.size+1+1,1,none⟩ (.slice (some ⟨g,0,none⟩) 19 c)).setCell ⟨w.heap.size+1+1,2,none⟩ (.slice (some ⟨q2,0,none⟩) 2 d2)).drew:=⟨_,rfl⟩
    have F1:wf.heap[w.heap.size+1]? = some (.cells #[.string ⟨seed.toArray⟩,.int .i64 3] 61 (0,0)):=by rw[hwf];exact eu2
    have F2:wf.heap[w.heap.size+1+1]? = some (.cells #[.int .i64 2,.slice (some ⟨g,0,none⟩) 19 c,.slice (some ⟨q2,0,none⟩) 2 d2] 33 (0,0)):=by rw[hwf];exact ts.1
    have F3:wf.ownsRow w.heap.size 9 1 (.slice (some ⟨g,0,none⟩) 19 c) 19 (scells sg):=by rw[hwf];exact (ts.2.2.mono (by omega)).drew
    have F4:wf.ownsRow w.heap.size 9 1 (.slice (some ⟨q2,0,none⟩) 2 d2) 2 (scells [x,y]):=by rw[hwf];exact (tk.2.2.mono (by omega)).drew
    have F5:Below w.heap.size w wf:=by rw[hwf];exact below_drewI ts.2.1
    rw[←hwf]
    clear hwf eu2 ts tk eu hz2 BS two hgk
    exact bodyPost_ret (v:=.tuple #[.agg #[.string ⟨seed.toArray⟩,.int .i64 3],.agg #[.int .i64 2,.slice (some ⟨g,0,none⟩) 19 c,.slice (some ⟨q2,0,none⟩) 2 d2],.bool true]) (results_ccb rfl _ _ (w.heap.size+1) (w.heap.size+1+1) 61 33 _ _ _ _ rfl F1 Tryd.underlying61 rfl (by kernel_rfl) rfl F2 Tryd.underlying33 rfl (by kernel_rfl) _ rfl) rfl ⟨g,c,q2,d2,rfl,F3,F4,F5⟩
set_option maxRecDepth 100000 in
set_option maxHeartbeats 4000000 in
theorem spec_next_3 (seed msg lf x y:List UInt8) (sg L0 L1:List (List UInt8)) (rt:List UInt8) (w:World) (hs:seed.length=32)
 (HK2:Hid (∀ W,Calls Tryd.prog 50 #[.string ⟨seed.toArray⟩,.int .i64 3] W fun e w'=>e=.returned (.tuple #[.string ⟨lf.toArray⟩,.bool true])∧Below W.heap.size W w'))
 (HK3:Hid (∀ W,Calls Tryd.prog 53 #[.string ⟨lf.toArray⟩,.string ⟨msg.toArray⟩] W fun e w'=>∃ g cap:Nat,e=.returned (.slice (some ⟨g,0,none⟩) 19 cap)∧w'.ownsRow W.heap.size 9 1 (.slice (some ⟨g,0,none⟩) 19 cap) 19 (scells sg)∧Below W.heap.size W w'))
 (HK4:Hid (∀ W,Calls Tryd.prog 37 #[.string ⟨seed.toArray⟩] W fun e w'=>∃ go co g0 c0 g1 c1 g2 c2:Nat,e=.returned (.slice (some ⟨go,0,none⟩) 3 co)∧w'.ownsRow W.heap.size 24 1 (.slice (some ⟨go,0,none⟩) 3 co) 3 [.slice (some ⟨g0,0,none⟩) 4 c0,.slice (some ⟨g1,0,none⟩) 2 c1,.slice (some ⟨g2,0,none⟩) 1 c2]∧w'.ownsRow W.heap.size 9 1 (.slice (some ⟨g0,0,none⟩) 4 c0) 4 (scells L0)∧w'.ownsRow W.heap.size 9 1 (.slice (some ⟨g1,0,none⟩) 2 c1) 2 (scells L1)∧w'.ownsRow W.heap.size 9 1 (.slice (some ⟨g2,0,none⟩) 1 c2) 1 (scells [rt])∧Below W.heap.size W w'))
 (n0:L0.length=4) (n1:L1.length=2) (hx:x=L0.getD 2 []) (hy:y=L1.getD 0 []) :
 Calls Tryd.prog 38 #[.agg #[.string ⟨seed.toArray⟩,.int .i64 3],.string ⟨msg.toArray⟩] w fun e w'=>∃ g c q d:Nat,e=.returned (.tuple #[.agg #[.string ⟨seed.toArray⟩,.int .i64 4],.agg #[.int .i64 3,.slice (some ⟨g,0,none⟩) 19 c,.slice (some ⟨q,0,none⟩) 2 d],.bool true])∧w'.ownsRow w.heap.size 9 1 (.slice (some ⟨g,0,none⟩) 19 c) 19 (scells sg)∧w'.ownsRow w.heap.size 9 1 (.slice (some ⟨q,0,none⟩) 2 d) 2 (scells [x,y])∧Below w.heap.size w w':=by
 obtain⟨i0,hi0,hz0,hz1,hz2⟩:=info_parts info9i
 obtain⟨wa,hwa⟩:∃ wa,wa=((w.alloc (.cells #[.string ⟨seed.toArray⟩,.int .i64 3] 61)).alloc (.cells #[.string ⟨#[]⟩,.int .i64 0] 61)).alloc (.cells #[.int .i64 0,.slice none 0 0,.slice none 0 0] 33):=⟨_,rfl⟩
 have Ba:Below w.heap.size w wa:=by rw[hwa];exact (((Below.refl _ _).alloc (Nat.le_refl _) _).alloc (by simp) _).alloc (by simp;omega) _
 have sa:wa.heap.size=w.heap.size+3:=by rw[hwa];simp
 have a0:wa.heap[w.heap.size]? = some (.cells #[.string ⟨seed.toArray⟩,.int .i64 3] 61 (0,0)):=by rw[hwa,Below.heap_alloc _ _ _ (by simp;omega),Below.heap_alloc _ _ _ (by simp)];exact heap_alloc_new w _
 have a1:wa.heap[w.heap.size+1]? = some (.cells #[.string ⟨#[]⟩,.int .i64 0] 61 (0,0)):=by rw[hwa,Below.heap_alloc _ _ _ (by simp)];exact new_at _ (by simp) _
 have a2:wa.heap[w.heap.size+2]? = some (.cells #[.int .i64 0,.slice none 0 0,.slice none 0 0] 33 (0,0)):=by rw[hwa];exact new_at _ (by simp) _
 have K1:=spec_ok seed 3 true wa (by omega) (by simp[hs])
 rw[hwa] at K1
 go_enter Tryd.func38,Tryd.ntmps38
 go_wp2_with fail
 refine K1.mono ?_
 rintro e w1 ⟨rfl,b1⟩
 rw[←hwa] at b1
 clear K1 hwa
 have B1:=Ba.trans (b1.mono (by omega))
 have s1:=b1.size
 have p1:=(b1.block _ (by omega)).trans a0
 obtain⟨p1a,p1b,_⟩:=duo_row p1
 go_wp2_with fail
 refine (HK2.out w1).mono ?_
 rintro e w3 ⟨rfl,b3⟩
 have B3:=B1.trans (b3.mono B1.size)
 have s3:=b3.size
 have z0:=(b3.block _ (by omega)).trans p1
 have z1:=(b3.block _ (by omega)).trans ((b1.block _ (by omega)).trans a1)
 have z2:=(b3.block _ (by omega)).trans ((b1.block _ (by omega)).trans a2)
 have HZ:Hid (w3.heap[w.heap.size]? = some (.cells #[.string ⟨seed.toArray⟩,.int .i64 3] 61 (0,0))∧w3.heap[w.heap.size+1]? = some (.cells #[.string ⟨#[]⟩,.int .i64 0] 61 (0,0))∧w3.heap[w.heap.size+2]? = some (.cells #[.int .i64 0,.slice none 0 0,.slice none 0 0] 33 (0,0))):=⟨z0,z1,z2⟩
 have sw3:w.heap.size+3≤w3.heap.size:=by omega
 obtain⟨p3a,p3b,_⟩:=duo_row z0
 clear HK2 b3 b1 p1 a0 a1 a2 z0 z1 z2 B1 Ba p1a p1b
 have K3:=HK3.out w3.drew
 have K3A:=HK3.out (w3.alloc (.cells #[.int .i64 0,.slice none 0 0,.slice none 0 0] 33)).drew
 go_wp2_with fail
 go_cut [9] from 32 (fun v wx=>∃ bs g c:Nat,v=.pointer (some ⟨bs,0,none⟩)∧Hid (wx.heap[bs]? = some (.cells #[.int .i64 3,.slice (some ⟨g,0,none⟩) 19 c,.slice none 0 0] 33 (0,0)))∧Hid (w3.heap.size≤bs∧w3.heap.size≤g∧g≠bs)∧Hid (Below w3.heap.size w3 wx)∧Hid (wx.ownsRow w3.heap.size 9 1 (.slice (some ⟨g,0,none⟩) 19 c) 19 (scells sg)))
 case first =>
  go_region_held3 (fun w'=>w'.cell? ⟨w.heap.size,1,none⟩=some (.int .i64 3))
   (first | assumption | (with_reducible exact (trio_set_cell (by simp;omega)).trans (by assumption)) | go_keep)
   (first
    | (go_at_call 53
       with_reducible refine K3A.mono ?_
       rintro e w5 ⟨g,c,rfl,o5,b5'⟩
       obtain⟨s5,b5,hzA⟩:=below_alloc_drew b5'
       have q5b:=(b5.cell (p:=⟨w.heap.size,1,none⟩) (by simp;omega)).trans p3b
       have HN:Hid (Below w3.heap.size w3 w5∧w5.heap[w3.heap.size]? = some (.cells #[.int .i64 0,.slice none 0 0,.slice none 0 0] 33)∧w3.heap.size<g):=⟨b5,hzA,by have:=own_base o5;have e:(w3.alloc (.cells #[.int .i64 0,.slice none 0 0,.slice none 0 0] 33)).drew.heap.size=w3.heap.size+1:=(by show (w3.alloc (.cells #[.int .i64 0,.slice none 0 0,.slice none 0 0] 33)).heap.size=_;simp);omega⟩
       have O5:=hidOwn o5
       obtain⟨y0,y1,y2,yf⟩:=trio_cells HN.out.2.1
       have yf0:=yf 0
       have yf1:=yf 1
       have yf2:=yf 2
       clear o5 b5 b5' yf)
    | (go_at_call 53
       with_reducible refine K3.mono ?_
       rintro e w5 ⟨g,c,rfl,o5,b5'⟩
       have b5:Below w3.heap.size w3 w5:=⟨b5'.os,b5'.tape,b5'.output,b5'.size,b5'.block⟩
       have q5b:=(b5.cell (p:=⟨w.heap.size,1,none⟩) (by simp;omega)).trans p3b
       have HC:Hid (Below w3.heap.size w3 w5∧w3.heap.size≤g∧g<w5.heap.size):=⟨b5,own_base o5,own_lt o5⟩
       have O5:=hidOwn o5
       clear o5 b5 b5'))
  all_goals go_wp2_with fail
  · go_meet
    case rel =>
     have hc:=HC.out
     exact⟨w5.heap.size,g,c,rfl,heap_alloc_new w5 _,⟨hc.1.size,by omega,by omega⟩,hc.1.alloc hc.1.size _,(O5.out.alloc _).mono (Nat.le_refl _)⟩
  · go_meet
    case rel =>
     have hn:=HN.out
     have ts:=trio_store hn.2.1 (Nat.le_refl _) hn.1 O5.out (by omega) (.int .i64 3) (.slice (some ⟨g,0,none⟩) 19 c) (.slice none 0 0)
     exact⟨w3.heap.size,g,c,rfl,ts.1,⟨Nat.le_refl _,by omega,by omega⟩,ts.2.1,ts.2.2.mono (by show _≤(w3.alloc _).heap.size;simp)⟩
 case rest =>
  obtain⟨bs,g,c,rfl,HS,HB,HW,HO⟩:=hcut
  obtain⟨w4,rfl⟩:∃ W,W=wc:=⟨_,rfl⟩
  have hbb:=HB.out
  have b4:=HW.out
  have s4:=b4.size
  obtain⟨p4a,_,_⟩:=duo_row ((b4.block _ (by omega)).trans HZ.out.1)
  have lbs:=lt_of_block HS.out
  clear K3 K3A HK3 p3a p3b
  go_wp2_with fail
  refine (HK4.out w4).mono ?_
  rintro e w5 ⟨go,co,g0,c0,g1,c1,g2,c2,rfl,ob,l0,l1,l2,b5⟩
  have s5:=b5.size
  have d0:w5.cell? ⟨go,0,none⟩=some (.slice (some ⟨g0,0,none⟩) 4 c0):=by rw[ob.cellAt 0 (by omega)];rfl
  have d1:w5.cell? ⟨go,1,none⟩=some (.slice (some ⟨g1,0,none⟩) 2 c1):=by rw[ob.cellAt 1 (by omega)];rfl
  have r0:=row_at l0 n0 2 (by omega)
  have r1:=row_at l1 n1 0 (by omega)
  rw[←hx] at r0
  rw[←hy] at r1
  have lgo:=own_lt ob
  have lg1:=own_lt l1
  have bgo:=own_base ob
  have bg1:=own_base l1
  have HZ5:Hid (w5.heap[w.heap.size]? = some (.cells #[.string ⟨seed.toArray⟩,.int .i64 3] 61 (0,0))∧w5.heap[w.heap.size+1]? = some (.cells #[.string ⟨#[]⟩,.int .i64 0] 61 (0,0))∧w5.heap[w.heap.size+2]? = some (.cells #[.int .i64 0,.slice none 0 0,.slice none 0 0] 33 (0,0))):=⟨(b5.block _ (by omega)).trans ((b4.block _ (by omega)).trans HZ.out.1),(b5.block _ (by omega)).trans ((b4.block _ (by omega)).trans HZ.out.2.1),(b5.block _ (by omega)).trans ((b4.block _ (by omega)).trans HZ.out.2.2)⟩
  have HS5:Hid (w5.heap[bs]? = some (.cells #[.int .i64 3,.slice (some ⟨g,0,none⟩) 19 c,.slice none 0 0] 33 (0,0))):=(b5.block _ lbs).trans HS.out
  have HO5:=hidOwn (keptO HO.out b5)
  have HB5:Hid (Below w.heap.size w w5):=(B3.trans (b4.mono B3.size)).trans (b5.mono (by omega))
  obtain⟨p5a,p5b,_⟩:=duo_row HZ5.out.1
  obtain⟨v0,v1,v2,vf⟩:=trio_cells HS5.out
  have vf2:=vf 2
  have v2a:(w5.alloc (.cells #[.string ⟨x.toArray⟩] 9)).cell? ⟨bs,2,none⟩=some (.slice none 0 0):=by rw[World.cell?_alloc_lt _ _ _ (by simp;omega)];exact v2
  clear HK4 ob l0 l1 l2 b5 b4 HS HO HW HZ B3 hx hy p4a vf
  go_wp2_with fail
  refine wp_loop_rounds 3 ?_
  rw[rounds_succ]
  go_wp2_with fail
  go_cut [] from 54 (fun wx=>∃ q d:Nat,Hid (wx.heap[bs]? = some (.cells #[.int .i64 3,.slice (some ⟨g,0,none⟩) 19 c,.slice (some ⟨q,0,none⟩) 1 d] 33 (0,0)))∧Hid (wx.ownsRow (bs+1) 9 1 (.slice (some ⟨q,0,none⟩) 1 d) 1 (scells [x])∧w5.heap.size≤q)∧Hid (w5.grownBy wx (some bs)))
  case first =>
   go_region_law (
    refine step_append_lies _ rfl (.tmp 55) (.tmp 63) 24 rfl w5.heap.size 9 i0 (.string ⟨#[]⟩) 1 16 Tryd.underlying24 hi0 hz0 hz1 hz2 rfl (by decide) (.slice none 0 0) 0 _ (by simp[Act.eval]) (own_nil _ _ _) ⟨w5.heap.size,0,none⟩ 1 1 [.string ⟨x.toArray⟩] (by simp[Act.eval]) rfl (World.news_of_block (cs:=#[.string ⟨x.toArray⟩]) (t:=9) (fr:=(0,0)) (heap_alloc_new w5 _)) (by simp[Value.oneCell']) (by decide) (by unfold maxLen;omega) (by omega) (by show _≤(w5.alloc _).heap.size;simp <;> omega) (w5.heap.size+1) (by show (w5.alloc _).heap.size=_;simp) ?_
    intro g3 cap3 w6 hown6 hgrow6 hat6 hlt6
    have h6:w6.heap[bs]? = some (.cells #[.int .i64 3,.slice (some ⟨g,0,none⟩) 19 c,.slice none 0 0] 33 (0,0)):=(by rw[hgrow6.block _ (by show _<(w5.alloc _).heap.size;simp;omega) (by simp[Value.ownBlock])];show (w5.alloc _).heap[bs]? = _;rw[Below.heap_alloc _ _ _ (by omega)];exact HS5.out)
    obtain⟨_,_,u2,uf⟩:=trio_cells h6
    have uf2:=uf 2
    clear uf)
   all_goals go_wp2_with fail
   all_goals
    go_meet
    case rel =>
     exact⟨g3,cap3,trio_set (j:=2) h6,⟨(ownsRow_setCell_other (a:=⟨bs,2,none⟩) hown6 (by have:=own_base hown6;simp[Value.ownBlock];omega) _).mono (by omega),own_base hown6⟩,grown_set (grown_ad (World.grownBy.refl _ _) hgrow6 (by simp[Value.ownBlock])) _⟩
  case rest =>
   obtain⟨q,d,HS6,HO6,HG6⟩:=hcut
   obtain⟨w7,rfl⟩:∃ W,W=wc:=⟨_,rfl⟩
   have g7:=HG6.out
   have s7:=g7.size
   have hq7:=HO6.out.2
   have e1:=(g7.cell_far ⟨go,1,none⟩ (by simpa using lgo) (by simp;omega)).trans d1
   have e2:=(g7.cell_far ⟨g1,0,none⟩ (by simpa using lg1) (by simp;omega)).trans r1
   obtain⟨_,_,v2',vf'⟩:=trio_cells HS6.out
   have vf2':=vf' 2
   have v2b:(w7.alloc (.cells #[.string ⟨y.toArray⟩] 9)).cell? ⟨bs,2,none⟩=some (.slice (some ⟨q,0,none⟩) 1 d):=by rw[World.cell?_alloc_lt _ _ _ (by simp;omega)];exact v2'
   have O6:=hidOwn HO6.out.1
   clear vf' d0 d1 r0 r1 v0 v1 v2 v2a vf2 p5a p5b g7
   go_wp2_with fail
   rw[rounds_succ]
   go_wp2_with fail
   go_cut [] from 54 (fun wx=>∃ q d:Nat,Hid (wx.heap[bs]? = some (.cells #[.int .i64 3,.slice (some ⟨g,0,none⟩) 19 c,.slice (some ⟨q,0,none⟩) 2 d] 33 (0,0)))∧Hid (wx.ownsRow (bs+1) 9 1 (.slice (some ⟨q,0,none⟩) 2 d) 2 (scells [x,y])∧bs<q∧w5.heap.size≤q)∧Hid (w5.grownBy wx (some bs)))
   case first =>
    go_region_law (
     refine step_append_lies _ rfl (.tmp 55) (.tmp 63) 24 rfl (bs+1) 9 i0 (.string ⟨#[]⟩) 1 16 Tryd.underlying24 hi0 hz0 hz1 hz2 rfl (by decide) (.slice (some ⟨q,0,none⟩) 1 d) 1 _ (by simp[Act.eval]) (O6.out.alloc _) ⟨w7.heap.size,0,none⟩ 1 1 [.string ⟨y.toArray⟩] (by simp[Act.eval]) rfl (World.news_of_block (cs:=#[.string ⟨y.toArray⟩]) (t:=9) (fr:=(0,0)) (heap_alloc_new w7 _)) (by simp[Value.oneCell']) (by decide) (by unfold maxLen;omega) (by omega) (by show _≤(w7.alloc _).heap.size;simp <;> omega) (w7.heap.size+1) (by show (w7.alloc _).heap.size=_;simp) ?_
     intro g3 cap3 w6 hown6 hgrow6 hat6 hlt6
     have h6:w6.heap[bs]? = some (.cells #[.int .i64 3,.slice (some ⟨g,0,none⟩) 19 c,.slice (some ⟨q,0,none⟩) 1 d] 33 (0,0)):=(by rw[hgrow6.block _ (by show _<(w7.alloc _).heap.size;simp;omega) (by simp[Value.ownBlock];omega)];show (w7.alloc _).heap[bs]? = _;rw[Below.heap_alloc _ _ _ (by omega)];exact HS6.out)
     obtain⟨_,_,u2,uf⟩:=trio_cells h6
     have uf2:=uf 2
     clear uf)
    all_goals go_wp2_with fail
    all_goals
     go_meet
     case rel =>
      have hg3 : w5.heap.size ≤ g3 := by rcases hat6 with h | h
                                         · simp[Value.ownBlock] at h;omega
                                         · omega
      exact⟨g3,cap3,trio_set (j:=2) h6,⟨ownsRow_setCell_other (a:=⟨bs,2,none⟩) hown6 (by simp[Value.ownBlock];omega) _,by omega,hg3⟩,grown_set (grown_ad HG6.out hgrow6 (fun k hk=>by simp[Value.ownBlock] at hk;omega)) _⟩
   case rest =>
    obtain⟨q2,d2,HS8,HO8,HG8⟩:=hcut
    obtain⟨w9,rfl⟩:∃ W,W=wc:=⟨_,rfl⟩
    have g9:=HG8.out
    have s9:=g9.size
    have hq9:=HO8.out.2
    have z0:=(g9.block _ (by omega) (by simp;omega)).trans HZ5.out.1
    have z1:=(g9.block _ (by omega) (by simp;omega)).trans HZ5.out.2.1
    have z2:=(g9.block _ (by omega) (by simp;omega)).trans HZ5.out.2.2
    obtain⟨f0,f1,_⟩:=duo_row z0
    obtain⟨r0,r1,rf⟩:=duo_row z1
    obtain⟨t0,t1,t2,tf⟩:=trio_cells z2
    obtain⟨v0,v1,v2,_⟩:=trio_cells HS8.out
    have rf0:=rf 0
    have rf1:=rf 1
    have tf0:=tf 0
    have tf1:=tf 1
    have tf2:=tf 2
    have ne1:bs≠w.heap.size:=by omega
    have ne2:bs≠w.heap.size+1:=by omega
    have ne3:bs≠w.heap.size+1+1:=by omega
    have HZ2:Hid (w9.heap[w.heap.size+1]? = some (.cells #[.string ⟨#[]⟩,.int .i64 0] 61 (0,0))∧w9.heap[w.heap.size+2]? = some (.cells #[.int .i64 0,.slice none 0 0,.slice none 0 0] 33 (0,0))):=⟨z1,z2⟩
    have BW:Below w.heap.size w w9:=HB5.out.grown g9 (by omega) (fun k hk=>by simp at hk;omega)
    have hgk:=HO5.out.kept g9 (.inr (by simp[Value.ownBlock];omega))
    have HGK:=hidOwn hgk
    clear z0 z1 z2 rf tf g9 hgk e1 e2 v2' v2b vf2' O6
    go_wp2_with fail
    rw[rounds_succ]
    go_wp2_with fail
    go_region
    go_wp2
    have hgk:=HGK.out
    have eu:=duo_set (j:=1) (y:=.int .i64 4) (duo_set (j:=0) (y:=.string ⟨seed.toArray⟩) HZ2.out.1)
    have BS:=(BW.setCell (p:=⟨w.heap.size+1,0,none⟩) (by simp) (.string ⟨seed.toArray⟩)).setCell (p:=⟨w.heap.size+1,1,none⟩) (by simp) (.int .i64 4)
    have hz2:((w9.setCell ⟨w.heap.size+1,0,none⟩ (.string ⟨seed.toArray⟩)).setCell ⟨w.heap.size+1,1,none⟩ (.int .i64 4)).heap[w.heap.size+1+1]? = _:=(Below.heap_setCell _ _ _ _ (by simp)).trans ((Below.heap_setCell _ _ _ _ (by simp)).trans HZ2.out.2)
    have two:∀ {q m a base:Nat} {xs:List Value},w9.ownsRow base 9 1 (.slice (some ⟨q,0,none⟩) m a) m xs→w.heap.size+2<q→((w9.setCell ⟨w.heap.size+1,0,none⟩ (.string ⟨seed.toArray⟩)).setCell ⟨w.heap.size+1,1,none⟩ (.int .i64 4)).ownsRow base 9 1 (.slice (some ⟨q,0,none⟩) m a) m xs:=fun h hq=>ownsRow_setCell_other (ownsRow_setCell_other h (by simp[Value.ownBlock];omega) _) (by simp[Value.ownBlock];omega) _
    have ts:=trio_store hz2 (by omega:w.heap.size≤w.heap.size+1+1) BS (two hgk (by omega)) (by omega) (.int .i64 3) (.slice (some ⟨g,0,none⟩) 19 c) (.slice (some ⟨q2,0,none⟩) 2 d2)
    have tk:=trio_store hz2 (by omega:w.heap.size≤w.heap.size+1+1) BS (two HO8.out.1 (by omega)) (by omega) (.int .i64 3) (.slice (some ⟨g,0,none⟩) 19 c) (.slice (some ⟨q2,0,none⟩) 2 d2)
    have eu2:=(Below.heap_setCell _ ⟨w.heap.size+1+1,2,none⟩ (.slice (some ⟨q2,0,none⟩) 2 d2) (w.heap.size+1) (by simp)).trans ((Below.heap_setCell _ ⟨w.heap.size+1+1,1,none⟩ (.slice (some ⟨g,0,none⟩) 19 c) (w.heap.size+1) (by simp)).trans ((Below.heap_setCell _ ⟨w.heap.size+1+1,0,none⟩ (.int .i64 3) (w.heap.size+1) (by simp)).trans eu))
    obtain⟨wf,hwf⟩:∃ wf,wf=(((((w9.setCell ⟨w.heap.size+1,0,none⟩ (.string ⟨seed.toArray⟩)).setCell ⟨w.heap.size+1,1,none⟩ (.int .i64 4)).setCell ⟨w.heap.size+1+1,0,none⟩ (.int .i64 3)).setCell ⟨w.heap.size+1+1,1,none⟩ (.slice (some ⟨g,0,none⟩) 19 c)).setCell ⟨w.heap.size+1+1,2,none⟩ (.slice (some ⟨q2,0,none⟩) 2 d2)).drew:=⟨_,rfl⟩
    have F1:wf.heap[w.heap.size+1]? = some (.cells #[.string ⟨seed.toArray⟩,.int .i64 4] 61 (0,0)):=by rw[hwf];exact eu2
    have F2:wf.heap[w.heap.size+1+1]? = some (.cells #[.int .i64 3,.slice (some ⟨g,0,none⟩) 19 c,.slice (some ⟨q2,0,none⟩) 2 d2] 33 (0,0)):=by rw[hwf];exact ts.1
    have F3:wf.ownsRow w.heap.size 9 1 (.slice (some ⟨g,0,none⟩) 19 c) 19 (scells sg):=by rw[hwf];exact (ts.2.2.mono (by omega)).drew
    have F4:wf.ownsRow w.heap.size 9 1 (.slice (some ⟨q2,0,none⟩) 2 d2) 2 (scells [x,y]):=by rw[hwf];exact (tk.2.2.mono (by omega)).drew
    have F5:Below w.heap.size w wf:=by rw[hwf];exact below_drewI ts.2.1
    rw[←hwf]
    clear hwf eu2 ts tk eu hz2 BS two hgk
    exact bodyPost_ret (v:=.tuple #[.agg #[.string ⟨seed.toArray⟩,.int .i64 4],.agg #[.int .i64 3,.slice (some ⟨g,0,none⟩) 19 c,.slice (some ⟨q2,0,none⟩) 2 d2],.bool true]) (results_ccb rfl _ _ (w.heap.size+1) (w.heap.size+1+1) 61 33 _ _ _ _ rfl F1 Tryd.underlying61 rfl (by kernel_rfl) rfl F2 Tryd.underlying33 rfl (by kernel_rfl) _ rfl) rfl ⟨g,c,q2,d2,rfl,F3,F4,F5⟩
theorem spec_next (seed msg:List UInt8) (i:Nat) (w:World) (hs:seed.length=32) (hi:i<4) (hl:msg.length≤1048576) :
 Calls Tryd.prog 38 #[.agg #[.string ⟨seed.toArray⟩,.int .i64 (i:Int)],.string ⟨msg.toArray⟩] w fun e w'=>∃ g c k d:Nat,e=.returned (.tuple #[.agg #[.string ⟨seed.toArray⟩,.int .i64 ((i:Int)+1)],.agg #[.int .i64 (i:Int),.slice (some ⟨g,0,none⟩) 19 c,.slice (some ⟨k,0,none⟩) 2 d],.bool true])∧w'.ownsRow w.heap.size 9 1 (.slice (some ⟨g,0,none⟩) 19 c) 19 (scells (sigL (leafL seed i) msg 19))∧w'.ownsRow w.heap.size 9 1 (.slice (some ⟨k,0,none⟩) 2 d) 2 (scells (pathL seed i))∧Below w.heap.size w w':=by
 match i,hi with
 | 0, _ =>
   have hp:pathL seed 0=[keyL seed 1,nodeL (keyL seed 2) (keyL seed 3)]:=by simp only[pathL]
   rw[hp]
   exact spec_next_0 seed msg (leafL seed 0) (keyL seed 1) (nodeL (keyL seed 2) (keyL seed 3)) (sigL (leafL seed 0) msg 19) (level0 seed) (level1 seed) (rootL seed) w hs (fun W=>spec_leaf seed 0 W hs (by omega)) (fun W=>l3Sign_any (leafL seed 0) msg W (leafL_len seed 0 hs) hl) (fun W=>l4Levels_any seed W hs) (by simp[level0]) (by simp[level1]) (by simp[level0]) (by simp[level1])
 | 1, _ =>
   have hp:pathL seed 1=[keyL seed 0,nodeL (keyL seed 2) (keyL seed 3)]:=by simp only[pathL]
   rw[hp]
   exact spec_next_1 seed msg (leafL seed 1) (keyL seed 0) (nodeL (keyL seed 2) (keyL seed 3)) (sigL (leafL seed 1) msg 19) (level0 seed) (level1 seed) (rootL seed) w hs (fun W=>spec_leaf seed 1 W hs (by omega)) (fun W=>l3Sign_any (leafL seed 1) msg W (leafL_len seed 1 hs) hl) (fun W=>l4Levels_any seed W hs) (by simp[level0]) (by simp[level1]) (by simp[level0]) (by simp[level1])
 | 2, _ =>
   have hp:pathL seed 2=[keyL seed 3,nodeL (keyL seed 0) (keyL seed 1)]:=by simp only[pathL]
   rw[hp]
   exact spec_next_2 seed msg (leafL seed 2) (keyL seed 3) (nodeL (keyL seed 0) (keyL seed 1)) (sigL (leafL seed 2) msg 19) (level0 seed) (level1 seed) (rootL seed) w hs (fun W=>spec_leaf seed 2 W hs (by omega)) (fun W=>l3Sign_any (leafL seed 2) msg W (leafL_len seed 2 hs) hl) (fun W=>l4Levels_any seed W hs) (by simp[level0]) (by simp[level1]) (by simp[level0]) (by simp[level1])
 | 3, _ =>
   have hp:pathL seed 3=[keyL seed 2,nodeL (keyL seed 0) (keyL seed 1)]:=by simp only[pathL]
   rw[hp]
   exact spec_next_3 seed msg (leafL seed 3) (keyL seed 2) (nodeL (keyL seed 0) (keyL seed 1)) (sigL (leafL seed 3) msg 19) (level0 seed) (level1 seed) (rootL seed) w hs (fun W=>spec_leaf seed 3 W hs (by omega)) (fun W=>l3Sign_any (leafL seed 3) msg W (leafL_len seed 3 hs) hl) (fun W=>l4Levels_any seed W hs) (by simp[level0]) (by simp[level1]) (by simp[level0]) (by simp[level1])
end Go.Proofs.YtkagiehbjnfabaaDoor
