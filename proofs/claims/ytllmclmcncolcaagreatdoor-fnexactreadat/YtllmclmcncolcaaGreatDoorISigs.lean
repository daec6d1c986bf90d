/-
 Texts that are laid as one: ITag, IChain, IClimb, IDig, IDig2, IOnce, IOnce2.
-/
import Derived.Test.YtllmclmcncolcaaGreatDoorMath2
import Derived.Test.YtllmclmcncolcaaGreatDoorMathAll
import Derived.Test.YtllmclmcncolcaaGreatDoorWrapTxt
import Derived.Test.YtllmclmcncolcaaGreatDoorIListAll
import Derived.Test.YtllmclmcncolcaaGreatDoorSumI
import Derived.Deep.RegionWith
import Derived.Test.YtllmclmcncolcaaGreatDoorStrsAll
namespace Go.Proofs.YtllmclmcncolcaaGreatDoor
open Go.RowKit
set_option linter.unusedVariables false
set_option maxRecDepth 100000 in
set_option maxHeartbeats 1000000 in
theorem impl_tagged (tag : List UInt8) (g cap : Nat) (ls : List (List UInt8)) (b0 : Nat) (w : World) (htg : tag.length ≤ 1048576) (hl : ls.length + ls.flatten.length ≤ 1048576) (hT : Tab w) (hv : w.ownsRow b0 9 1 (.slice (some ⟨g, 0, none⟩) ls.length cap) ls.length (scells ls)) :
 Calls Tryz.prog 103 #[.string ⟨tag.toArray⟩,.slice (some ⟨g,0,none⟩) ls.length cap] w fun e w'=>e=.returned (.string ⟨(tagL tag ls).toArray⟩)∧Below w.heap.size w w':=by
 obtain⟨i0,hi0,hz0,hz1,hz2⟩:=info_parts info9i
 have hgl:=own_lt hv
 have hc:∀ j (h:j<ls.length),w.cell? ⟨g,j,none⟩=some (.string ⟨ls[j].toArray⟩):=fun j h=>by rw[hv.cellAt j (by omega),scells_at ls j h]
 have HM:=tagL_many tag ls
 have HLG:=tagL_long tag ls
 have HY:=tagL_yes tag ls
 obtain⟨out,hout⟩:∃ out,out=tagL tag ls:=⟨_,rfl⟩
 rw[←hout] at HM HLG HY ⊢
 have HT:Hid (Tab w):=hT
 clear hout hv hT
 by_cases hmany:ls.length≤1000
 · have hmany' : (ls.length : Int) ≤ 1000 := by omega
   by_cases hlong:tag.length≤30000
   · have hlong' : (tag.length : Int) ≤ 30000 := by omega
     have HHL:Hid (∀ j,30000<tag.length+(ls.take j).flatten.length→out=[]):=HLG
     have HHY:Hid (tag.length+ls.flatten.length≤30000→out=sumL (listB (tag :: ls))):=HY hmany
     have H0:=fun W=>rlptext_at tag (by omega) W
     obtain⟨y0,hy0⟩:∃ y0,y0=textB tag:=⟨_,rfl⟩
     rw[←hy0] at H0
     have HY0:Hid (y0=textB tag):=hy0
     clear HM HLG HY hy0
     go_enter Tryz.func103,Tryz.ntmps103
     go_wp2_with fail
     refine (H0 _).mono ?_
     rintro e w1 ⟨rfl,hb1⟩
     have hs1:=hb1.size
     clear H0
     go_wp2
     go_loopw [5,6,8,24] (fun t v _ i wr=>∃ j n g1 cap1:Nat,j≤ls.length∧i=.int .i64 (j:Int)∧t=.int .i64 (n:Int)∧Hid (n=tag.length+(ls.take j).flatten.length)∧n≤30000∧v=.slice (some ⟨g1,0,none⟩) (j+1) cap1∧wr.ownsRow w.heap.size 9 1 (.slice (some ⟨g1,0,none⟩) (j+1) cap1) (j+1) (scells ((tag :: ls.take j).map textB))∧Below w.heap.size w wr) (fun _ _ _ i _=>ls.length - (intOf i).toNat)
     case atStart=>exact⟨0,tag.length,w1.heap.size,1,Nat.zero_le _,rfl,rfl,by rw[Hid];simp,hlong,rfl,by rw[HY0.out];exact World.ownsRow_lit w1 #[_] 1 hs1 (by decide) rfl,hb1.alloc hs1 _⟩
     case round =>
      obtain⟨j,n,g1,cap1,hj,rfl,rfl,HN,hn3,rfl,hown,hbel⟩:=hrel
      have hsz:=hbel.size
      have hbg:=own_base hown
      by_cases hlt:j<ls.length
      · have c1:=(hbel.cell (p:=⟨g,j,none⟩) hgl).trans (hc j hlt)
        have hxl:=each_le ls j hlt
        have HF:Hid (tag.length+(ls.take (j+1)).flatten.length=n+ls[j].length):=by rw[Hid,flat_snoc ls j hlt,List.length_append,HN.out];omega
        have HG:30000<tag.length+(ls.take (j+1)).flatten.length→out=[]:=HHL.out (j+1)
        have HI:Hid ((tag :: ls.take (j+1)).map textB=(tag :: ls.take j).map textB ++ [textB ls[j]]):=by rw[Hid,List.take_succ_eq_append_getElem hlt,←List.cons_append,List.map_append];rfl
        have hj0:(0:Int)≤(j:Int):=by omega
        have hj1:(j:Int)<(ls.length:Int):=by omega
        obtain⟨x,hx⟩:∃ x,x=ls[j]:=⟨_,rfl⟩
        rw[←hx] at c1 hxl HF HI
        rw[HF.out] at HG
        have HHG:Hid (30000<n+x.length→out=[]):=HG
        have HO:=hidOwn hown
        clear hc hx HG HN hown
        by_cases hbig:n+x.length≤30000
        · have hbig':(n:Int)+(x.length:Int)≤30000:=by omega
          have H1:=fun W=>rlptext_at x (by omega) W
          obtain⟨y,hy⟩:∃ y,y=textB x:=⟨_,rfl⟩
          rw[←hy] at H1 HI
          clear hy
          go_wp2_with fail
          refine (H1 _).mono ?_
          rintro e w2 ⟨rfl,hb2⟩
          have hown2:=HO.out.kept (row:=none) ⟨hb2.os,hb2.tape,hb2.output,hb2.size,fun k hk _=>hb2.block k hk⟩ (.inr (by simp[Value.ownBlock]))
          have hbel2:=hbel.trans (hb2.mono hsz)
          have hsz2:=hbel2.size
          clear HO hbel hb2 H1 c1
          go_wp2_with (at_builtin;refine wpList_append_lies _ rfl _ _ 22 rfl w.heap.size 9 i0 (.string ⟨#[]⟩) 1 16 Tryz.underlying22 hi0 hz0 hz1 hz2 rfl (by decide) (.slice (some ⟨g1,0,none⟩) (j+1) cap1) (j+1) _ rfl (hown2.alloc _) ⟨w2.heap.size,0,none⟩ 1 1 [.string ⟨y.toArray⟩] rfl rfl (World.news_of_block (cs:=#[.string ⟨y.toArray⟩]) (t:=9) (fr:=(0,0)) (heap_alloc_new w2 _)) (by simp[Value.oneCell']) (by omega) (by unfold maxLen;omega) (by omega) (by simp;omega) (w2.heap.size+1) (by simp) ?_;intro g2 cap2 w3 hown3 hgrow hat hlt3)
          have hbel3:=below_app0 hbel2 hsz2 hbg hgrow
          have HO3:Hid (w3.ownsRow w.heap.size 9 1 (.slice (some ⟨g2,0,none⟩) (j+1+1) cap2) (j+1+1) (scells ((tag :: ls.take (j+1)).map textB))):=by rw[Hid,HI.out,scells_snoc];exact hown3
          clear hgrow hown3 hown2 hbel2
          go_roundw
          case rel=>exact⟨j+1,n+x.length,g2,cap2,by omega,by go_num,by go_num,HF.out.symm,hbig,rfl,HO3.out,hbel3⟩
          case measure=>simp[intOf];omega
        · have hbig':¬ (n:Int)+(x.length:Int)≤30000:=by omega
          have HZ:Hid (out=[]):=HHG.out (by omega)
          clear HO
          go_wp2
          go_ret
          exact⟨by rw[HZ.out];rfl,hbel⟩
      · have hjl:j=ls.length:=by omega
        subst hjl
        have hnt:n=tag.length+ls.flatten.length:=by have:=HN.out;rw[List.take_length] at this;exact this
        have hfl:(tag :: ls).flatten.length≤30000:=by rw[List.flatten_cons,List.length_append];omega
        have hll:(tag :: ls).length≤1001:=by simp;omega
        rw[List.take_length] at hown
        have HO:Hid (out=sumL (listB (tag :: ls))):=HHY.out (by omega)
        have hlen:((tag :: ls).map textB).length=ls.length+1:=by simp
        have hfb:=(listB_len (tag :: ls) hfl hll)
        have hown':wr.ownsRow w.heap.size 9 1 (.slice (some ⟨g1,0,none⟩) ((tag :: ls).map textB).length cap1) ((tag :: ls).map textB).length (scells ((tag :: ls).map textB)):=by rw[hlen];exact hown
        have H1:=impl_list g1 cap1 ((tag :: ls).map textB) w.heap.size wr (by rw[hlen];have h1:=hfb.1;unfold textsB at h1;omega) (by rw[hlen];exact own_capT hown) hown'
        rw[listL_texts _ hfl hll,hlen] at H1
        have H2:=fun W hW=>impl_sum (listB (tag :: ls)) W (by omega) hW
        rw[←HO.out] at H2
        obtain⟨lb,hlb⟩:∃ lb,lb=listB (tag :: ls):=⟨_,rfl⟩
        rw[←hlb] at H1 H2
        clear hown hown' hlb HO hfb hlen hfl hll hnt hc HHL HHY HN HY0
        go_wp2_with fail
        refine H1.mono ?_
        rintro e w2 ⟨rfl,hb2⟩
        have hB2:=hbel.trans (hb2.mono hsz)
        have hs2:=hB2.size
        clear H1 hb2 hbel
        go_wp2_with fail
        refine (H2 _ (HT.out.later hB2)).mono ?_
        rintro e w3 ⟨rfl,hb3⟩
        have hB3:=hB2.trans (hb3.mono hs2)
        clear H2 hb3 hB2
        go_wp2
        go_ret
        exact⟨rfl,hB3⟩
   · have hlong':¬ (tag.length:Int)≤30000:=by omega
     have HZ:Hid (out=[]):=HLG 0 (by simp;omega)
     clear HM HLG HY hc
     go_enter Tryz.func103,Tryz.ntmps103
     go_wp2
     go_ret
     exact⟨by rw[HZ.out];rfl,Below.refl _ _⟩
 · have hmany':¬ (ls.length:Int)≤1000:=by omega
   have HZ:Hid (out=[]):=HM (by omega)
   clear HM HLG HY hc
   go_enter Tryz.func103,Tryz.ntmps103
   go_wp2
   go_ret
   exact⟨by rw[HZ.out];rfl,Below.refl _ _⟩
theorem below_undrewI {b:Nat} {w w1:World} (h:Below b w.drew w1):Below b w w1:=⟨h.os,h.tape,h.output,h.size,h.block⟩
set_option maxRecDepth 100000 in
theorem byteText_any (n:Nat) (w:World) (hn:n<256) :
 Calls Tryz.prog 153 #[.int .i64 (n:Int)] w fun e w'=>e=.returned (.string ⟨(byteL n).toArray⟩)∧Below w.heap.size w w':=by
 obtain⟨c,hc⟩:∃ c,c=UInt8.ofNat n:=⟨_,rfl⟩
 have hcv:=lit_string [c] #[.int .u8 (n:Int)] (by simp only[bcells,List.map_cons,List.map_nil];rw[hc,byte_of];congr 2;omega) 1 rfl (by decide)
 have hb:byteL n=[c]:=by rw[hc];rfl
 have hn':(n:Int)<256:=by omega
 rw[hb]
 clear hc hb
 go_enter Tryz.func153,Tryz.ntmps153
 go_wp2
 go_ret
 exact⟨rfl,(Below.refl _ _).alloc (Nat.le_refl _) _⟩
theorem tag3_flat (a b c:List UInt8) : [a,b,c].flatten.length=a.length+(b.length+c.length):=by simp
set_option maxRecDepth 100000 in
set_option maxHeartbeats 2000000 in
theorem step_any (c h:Nat) (x:List UInt8) (bc bh bt B:Nat) (w:World) (hc:c<256) (hh:h<255) (hx:x.length≤1000) (hT:Tab w) (h1:w.heap[bc]? = some (.cells #[.int .i64 (c:Int)] 2 (0,0))) (h2:w.heap[bh]? = some (.cells #[.int .i64 (h:Int)] 2 (0,0))) (h3:w.heap[bt]? = some (.cells #[.string ⟨x.toArray⟩] 9 (0,0))) (hb1:B≤bh) (hb2:B≤bt) (n1:bc≠bh) (n2:bc≠bt) (n3:bh≠bt) :
 Calls Tryz.prog 152 #[.pointer (some ⟨bc,0,none⟩),.pointer (some ⟨bh,0,none⟩),.pointer (some ⟨bt,0,none⟩)] w fun e w'=>e=.returned (.string ⟨(tagL tChain [byteL c,byteL h,x]).toArray⟩)∧w'.heap[bc]? = some (.cells #[.int .i64 (c:Int)] 2 (0,0))∧w'.heap[bh]? = some (.cells #[.int .i64 ((h+1:Nat):Int)] 2 (0,0))∧w'.heap[bt]? = some (.cells #[.string ⟨(tagL tChain [byteL c,byteL h,x]).toArray⟩] 9 (0,0))∧Below B w w':=by
 have c1:=cell_of_one h1
 have c2:=cell_of_one h2
 have c3:=cell_of_one h3
 have l1:=lt_of_block h1
 have l2:=lt_of_block h2
 have l3:=lt_of_block h3
 have HT:Hid (Tab w):=hT
 have HH1:Hid (w.heap[bc]? = some (.cells #[.int .i64 (c:Int)] 2 (0,0))):=h1
 have HH2:Hid (w.heap[bh]? = some (.cells #[.int .i64 (h:Int)] 2 (0,0))):=h2
 have HH3:Hid (w.heap[bt]? = some (.cells #[.string ⟨x.toArray⟩] 9 (0,0))):=h3
 obtain⟨y,hy⟩:∃ y,y=tagL tChain [byteL c,byteL h,x]:=⟨_,rfl⟩
 obtain⟨p,hp⟩:∃ p,p=byteL c:=⟨_,rfl⟩
 obtain⟨q,hq⟩:∃ q,q=byteL h:=⟨_,rfl⟩
 have K1:=byteText_any c w.drew hc
 have K2:=fun W=>byteText_any h W (by omega)
 have K3:=fun g cap b0 W h1 h2=>impl_tagged tChain g cap [p,q,x] b0 W (by decide) (by rw[hp,hq,tag3_flat];simp[byteL];omega) h1 h2
 rw[hp,hq,←hy,←hp,←hq] at K3
 rw[←hy]
 rw[←hp] at K1
 rw[←hq] at K2
 clear hT h1 h2 h3 hy hp hq
 go_enter Tryz.func152,Tryz.ntmps152
 go_wp2_with fail
 go_region_with (first
  | (go_at_call 153
     refine (K2 w1).mono ?_
     rintro e w2 ⟨rfl,b2⟩
     have B2:=B1.trans (b2.mono B1.size)
     have e3:=(B2.cell (p:=⟨bt,0,none⟩) l3).trans c3
     clear b2)
  | (go_at_call 103
     refine (K3 w2.heap.size 3 w2.heap.size _ (HT.out.later (B2.alloc B2.size _)) (World.ownsRow_lit w2 #[.string ⟨p.toArray⟩,.string ⟨q.toArray⟩,.string ⟨x.toArray⟩] 3 (Nat.le_refl _) (by decide) rfl)).mono ?_
     rintro e w3 ⟨rfl,b3⟩
     have B3:=(B2.alloc B2.size _).trans (b3.mono (Nat.le_trans B2.size (by simp)))
     have f2:=(B3.cell (p:=⟨bh,0,none⟩) l2).trans c2
     have f3:=(B3.cell (p:=⟨bt,0,none⟩) l3).trans c3
     have HB3:Hid (Below w.heap.size w w3):=B3
     have z2:=(free_of_one ((B3.block bh l2).trans HH2.out))
     have z3:=(free_of_one ((B3.block bt l3).trans HH3.out))
     clear b3 B3)
  | (go_at_call 153
     refine K1.mono ?_
     rintro e w1 ⟨rfl,b1⟩
     have B1:=below_undrewI b1
     have d2:=(B1.cell (p:=⟨bh,0,none⟩) l2).trans c2
     have d3:=(B1.cell (p:=⟨bt,0,none⟩) l3).trans c3
     clear b1))
 all_goals
  go_wp2
  go_ret
  have g1:=(HB3.out.block bc l1).trans HH1.out
  have g2:=(HB3.out.block bh l2).trans HH2.out
  have g3:=(HB3.out.block bt l3).trans HH3.out
  have k3:=one_setCell (u:=.string ⟨y.toArray⟩) g3
  have k2:(w3.setCell ⟨bt,0,none⟩ (.string ⟨y.toArray⟩)).heap[bh]? = _:=(Below.heap_setCell _ _ _ _ (by simpa using n3)).trans g2
  have k1:(w3.setCell ⟨bt,0,none⟩ (.string ⟨y.toArray⟩)).heap[bc]? = _:=(Below.heap_setCell _ _ _ _ (by simpa using n2)).trans g1
  have m2:=one_setCell (u:=.int .i64 ((h+1:Nat):Int)) k2
  exact⟨rfl,(Below.heap_setCell _ _ _ _ (by simpa using n1)).trans k1,m2,(Below.heap_setCell _ _ _ _ (by simpa using n3.symm)).trans k3,((HB3.out.mono (Nat.le_of_lt (Nat.lt_of_le_of_lt hb1 l2))).setCell (p:=⟨bt,0,none⟩) hb2 _).setCell (p:=⟨bh,0,none⟩) hb1 _⟩
set_option maxRecDepth 100000 in
theorem climber_any (c h:Nat) (x:List UInt8) (w:World) :
 Calls Tryz.prog 148 #[.string ⟨x.toArray⟩,.int .i64 (c:Int),.int .i64 (h:Int)] w fun e w'=>e=.returned (.func (.func 152) #[] #[.pointer (some ⟨w.heap.size+1,0,none⟩),.pointer (some ⟨w.heap.size+2,0,none⟩),.pointer (some ⟨w.heap.size,0,none⟩)])∧w'.heap[w.heap.size]? = some (.cells #[.string ⟨x.toArray⟩] 9 (0,0))∧w'.heap[w.heap.size+1]? = some (.cells #[.int .i64 (c:Int)] 2 (0,0))∧w'.heap[w.heap.size+2]? = some (.cells #[.int .i64 (h:Int)] 2 (0,0))∧Below w.heap.size w w':=by
 have hmf:∀ (fn:Fn) (first cap:Array Value) (w:World),(Instr.makeFunc fn first cap).run Tryz.prog w=.ok (.func fn first cap) w:=fun _ _ _ _=>rfl
 go_enter Tryz.func148,Tryz.ntmps148
 go_wp2
 go_ret
 have a1:=heap_alloc_new w (.cells #[.string ⟨x.toArray⟩] 9)
 have a2:=heap_alloc_new (w.alloc (.cells #[.string ⟨x.toArray⟩] 9)) (.cells #[.int .i64 (c:Int)] 2)
 have a3:=heap_alloc_new ((w.alloc (.cells #[.string ⟨x.toArray⟩] 9)).alloc (.cells #[.int .i64 (c:Int)] 2)) (.cells #[.int .i64 (h:Int)] 2)
 have e1:(w.alloc (.cells #[.string ⟨x.toArray⟩] 9)).heap.size=w.heap.size+1:=by simp
 have e2:((w.alloc (.cells #[.string ⟨x.toArray⟩] 9)).alloc (.cells #[.int .i64 (c:Int)] 2)).heap.size=w.heap.size+2:=by simp
 rw[e1] at a2
 rw[e2] at a3
 refine⟨by simp,?_,?_,a3,(((Below.refl _ _).alloc (Nat.le_refl _) _).alloc (by rw[e1];omega) _).alloc (by rw[e2];omega) _⟩
 · rw[Below.heap_alloc _ _ _ (by rw[e2];omega),Below.heap_alloc _ _ _ (by rw[e1];omega)];exact a1
 · rw[Below.heap_alloc _ _ _ (by rw[e2];omega)];exact a2
set_option maxRecDepth 100000 in
set_option maxHeartbeats 400000 in
theorem climbed_any (c f t:Nat) (x:List UInt8) (w:World) (hc:c<256) (hf:f≤t) (ht:t≤3) (hx:x.length=32) (hT:Tab w) :
 Calls Tryz.prog 138 #[.string ⟨x.toArray⟩,.int .i64 (c:Int),.int .i64 (f:Int),.int .i64 (t:Int)] w fun e w'=>e=.returned (.string ⟨(chainL c f x (t - f)).toArray⟩)∧Below w.heap.size w w':=by
 have HT:Hid (Tab w):=hT
 have H1:=climber_any c f x w
 have HX:Hid (∀ k,(chainL c f x k).length=32):=chainL_len c f x hx
 have HZ:Hid (chainL c f x 0=x):=rfl
 have HS:Hid (∀ k,chainL c f x (k+1)=tagL tChain [byteL c,byteL (f+k),chainL c f x k]):=fun k=>rfl
 clear hT
 go_enter Tryz.func138,Tryz.ntmps138
 go_wp2_with fail
 refine H1.mono ?_
 rintro e w1 ⟨rfl,i1,i2,i3,b1⟩
 clear H1
 go_wp2
 go_loopw [0,17] (fun v i wr=>∃ k:Nat,∃ y:List UInt8,k≤t - f∧i=.int .i64 (k:Int)∧v=.string ⟨y.toArray⟩∧Hid (y=chainL c f x k)∧Hid (wr.heap[w.heap.size]? = some (.cells #[.string ⟨y.toArray⟩] 9 (0,0))∧wr.heap[w.heap.size+1]? = some (.cells #[.int .i64 (c:Int)] 2 (0,0))∧wr.heap[w.heap.size+2]? = some (.cells #[.int .i64 ((f+k:Nat):Int)] 2 (0,0)))∧Below w.heap.size w wr) (fun _ i _=>t - f - (intOf i).toNat)
 case atStart=>exact⟨0,x,Nat.zero_le _,rfl,rfl,HZ.out.symm,⟨i1,i2,i3⟩,b1⟩
 case round =>
  obtain⟨k,y,hk,rfl,rfl,HY,HI,hbel⟩:=hrel
  have hsz:=hbel.size
  clear i1 i2 i3 b1
  by_cases hlt:k<t - f
  · have hlt':(k:Int)<(t:Int) - (f:Int):=by omega
    have H2:=step_any c (f+k) y (w.heap.size+1) (w.heap.size+2) w.heap.size w.heap.size wr hc (by omega) (by rw[HY.out,HX.out];omega) (HT.out.later hbel) HI.out.2.1 HI.out.2.2 HI.out.1 (by omega) (Nat.le_refl _) (by omega) (by omega) (by omega)
    have HN:Hid (tagL tChain [byteL c,byteL (f+k),y]=chainL c f x (k+1)):=by rw[Hid,HS.out,←HY.out]
    obtain⟨z,hz⟩:∃ z,z=tagL tChain [byteL c,byteL (f+k),y]:=⟨_,rfl⟩
    rw[←hz] at H2 HN
    clear hz HI HY
    go_wp2_with fail
    refine H2.mono ?_
    rintro e w2 ⟨rfl,j2,j3,j1,b2⟩
    have HI:Hid (w2.heap[w.heap.size]? = some (.cells #[.string ⟨z.toArray⟩] 9 (0,0))∧w2.heap[w.heap.size+1]? = some (.cells #[.int .i64 (c:Int)] 2 (0,0))∧w2.heap[w.heap.size+2]? = some (.cells #[.int .i64 ((f+(k+1):Nat):Int)] 2 (0,0))):=⟨j1,j2,j3⟩
    have hbel2:=hbel.trans b2
    clear H2 j1 j2 j3 b2 hbel
    go_wp2
    go_roundw
    case rel=>exact⟨k+1,z,by omega,by go_num,rfl,HN,HI,hbel2⟩
    case measure=>simp[intOf];omega
  · have hlt':¬ (k:Int)<(t:Int) - (f:Int):=by omega
    have hkt:k=t - f:=by omega
    subst hkt
    clear HI
    go_wp2
    go_ret
    exact⟨by rw[HY.out];rfl,hbel⟩
theorem info2i:(Tryz.prog.info? 2).map (fun i=>(i.zero,i.size,i.bytes))=some (some (.int .i64 0),1,8):=by kernel_rfl
theorem itag1 (tag a:List UInt8) (w:World) (ht:tag.length≤1000) (hl:a.length≤10000) (hT:Tab w) :
 Calls Tryz.prog 103 #[.string ⟨tag.toArray⟩,.slice (some ⟨w.heap.size,0,none⟩) 1 1] (w.alloc (.cells #[.string ⟨a.toArray⟩] 9)) fun e w'=>e=.returned (.string ⟨(tagL tag [a]).toArray⟩)∧Below w.heap.size w w':=by
 have K:=impl_tagged tag w.heap.size 1 [a] w.heap.size (w.alloc (.cells #[.string ⟨a.toArray⟩] 9)) (by omega) (by simp;omega) (hT.later ((Below.refl _ _).alloc (Nat.le_refl _) _)) (World.ownsRow_lit w #[.string ⟨a.toArray⟩] 1 (Nat.le_refl _) (by decide) rfl)
 exact K.mono fun e w' ⟨h1,h2⟩=>⟨h1,((Below.refl _ _).alloc (Nat.le_refl _) _).trans (h2.mono (by simp))⟩
theorem itag2 (tag a b:List UInt8) (w:World) (ht:tag.length≤1000) (hl:a.length+b.length≤10000) (hT:Tab w) :
 Calls Tryz.prog 103 #[.string ⟨tag.toArray⟩,.slice (some ⟨w.heap.size,0,none⟩) 2 2] (w.alloc (.cells #[.string ⟨a.toArray⟩,.string ⟨b.toArray⟩] 9)) fun e w'=>e=.returned (.string ⟨(tagL tag [a,b]).toArray⟩)∧Below w.heap.size w w':=by
 have K:=impl_tagged tag w.heap.size 2 [a,b] w.heap.size (w.alloc (.cells #[.string ⟨a.toArray⟩,.string ⟨b.toArray⟩] 9)) (by omega) (by simp;omega) (hT.later ((Below.refl _ _).alloc (Nat.le_refl _) _)) (World.ownsRow_lit w #[.string ⟨a.toArray⟩,.string ⟨b.toArray⟩] 2 (Nat.le_refl _) (by decide) rfl)
 exact K.mono fun e w' ⟨h1,h2⟩=>⟨h1,((Below.refl _ _).alloc (Nat.le_refl _) _).trans (h2.mono (by simp))⟩
theorem icells_set (ds:List Nat) (j x:Nat):(icells ds).set j (.int .i64 (x:Int))=icells (ds.set j x):=by simp[icells,List.map_set]
def lowD (n:Nat):Nat→List Nat
 | 0=>[]
 | m+1=>lowD (n / 4) m ++ [n % 4]
theorem lowD_four (b:UInt8):lowD b.toNat 4=dig4 b:=by
 have:=b.toNat_lt
 simp[lowD,dig4]
 omega
theorem lowD_three (n:Nat) (h:n≤48):lowD n 3=dig3 n:=by
 simp[lowD,dig3]
 omega
set_option maxRecDepth 100000 in
set_option maxHeartbeats 400000 in
theorem digitsOf_any (n m:Nat) (w:World) (hn:n≤1000) (hm:m≤10) :
 Calls Tryz.prog 147 #[.int .i64 (n:Int),.int .i64 (m:Int)] w fun e w'=>e=.returned (.slice (some ⟨w.heap.size,0,none⟩) m m)∧w'.ownsRow w.heap.size 2 1 (.slice (some ⟨w.heap.size,0,none⟩) m m) m (icells (lowD n m))∧Below w.heap.size w w':=by
 obtain⟨i0,hi0,hz0,hz1,hz2⟩:=info_parts info2i
 go_enter Tryz.func147,Tryz.ntmps147
 go_wp2_with (at_make;refine wpList_make_full _ rfl _ _ 174 rfl w.heap.size 2 i0 (.int .i64 0) 1 Tryz.underlying174 hi0 hz0 hz1 _ _ _ _ m rfl rfl (by omega) (by omega) (by rw[hz2];omega) (by unfold maxLen;omega) (Nat.le_refl _) ?_;intro w0 hown0 hgrow0)
 rw[show (Value.int .i64 0).cells=#[.int .i64 0] from rfl,Nat.mul_one,toList_madeCells_one] at hown0
 have hb0:=(Below.refl w.heap.size w).grown hgrow0 (Nat.le_refl _) (by simp)
 have hown1:w0.ownsRow w.heap.size 2 1 (.slice (some ⟨w.heap.size,0,none⟩) m m) m (icells (List.replicate m 0)):=by simpa [icells] using hown0
 clear hown0 hgrow0
 go_loopw [0,6] (fun v i wr=>∃ j x:Nat,∃ rest:List Nat,j≤m∧x≤1000∧i=.int .i64 ((j:Int) - 1)∧v=.int .i64 (x:Int)∧Hid (lowD x j ++ rest=lowD n m)∧Hid (rest.length=m - j)∧wr.ownsRow w.heap.size 2 1 (.slice (some ⟨w.heap.size,0,none⟩) m m) m (icells (List.replicate j 0 ++ rest))∧Below w.heap.size w wr) (fun _ i _=>(1+intOf i).toNat)
 case atStart=>exact⟨m,n,[],Nat.le_refl _,hn,rfl,rfl,by rw[Hid];simp,by rw[Hid];simp,by simpa using hown1,hb0⟩
 case round =>
  obtain⟨j,x,rest,hj,hx,rfl,rfl,HR,HL,hown,hbel⟩:=hrel
  clear hown1 hb0
  by_cases hlt:0<j
  · obtain⟨k,rfl⟩:∃ k,j=k+1:=⟨j - 1,by omega⟩
    have hc1:∃ o,wr.cell? ⟨w.heap.size,k,none⟩=some o:=by
     rw[hown.cellAt k (by omega)]
     exact⟨_,List.getElem?_eq_getElem (by rw[icells_length,List.length_append,List.length_replicate];omega)⟩
    obtain⟨o,hc1⟩:=hc1
    have hf1:=hown.frozenAt k
    have hst:=(hown.stored k (.int .i64 ((x % 4:Nat):Int))).1
    have HS:Hid ((List.replicate (k+1) 0 ++ rest).set k (x % 4)=List.replicate k 0 ++ (x % 4 :: rest)):=by
     rw[Hid,List.replicate_succ',List.append_assoc,List.set_append_right _ _ (by simp)]
     simp
    rw[icells_set,HS.out] at hst
    obtain⟨y,hy,HY⟩:∃ y:Nat,(x:Int) % 4=(y:Int)∧Hid (y=x % 4):=⟨x % 4,by omega,rfl⟩
    rw[←HY.out] at hst
    have hbel2:=hbel.setCell (p:=⟨w.heap.size,k,none⟩) (Nat.le_refl _) (.int .i64 (y:Int))
    have HN:Hid (lowD (x / 4) k ++ (y :: rest)=lowD n m):=by rw[Hid,←HR.out,lowD,HY.out];simp
    have HLN:Hid ((y :: rest).length=m - k):=by rw[Hid,List.length_cons,HL.out];omega
    have hst':(wr.setCell ⟨w.heap.size,k,none⟩ (.int .i64 (y:Int))).ownsRow w.heap.size 2 1 (.slice (some ⟨w.heap.size,0,none⟩) m m) m (icells (List.replicate k 0 ++ (y :: rest))):=hst
    have hk0:(0:Int)≤(k:Int):=by omega
    have hk1:(k:Int)<(m:Int):=by omega
    clear hown hbel hst HS HR HL
    go_wp2
    go_roundw
    case rel=>exact⟨k,x / 4,y :: rest,by omega,by omega,by go_num,by go_num,HN,HLN,hst',hbel2⟩
    case measure=>simp[intOf];omega
  · have hj0:j=0:=by omega
    subst hj0
    have HF:Hid (rest=lowD n m):=HR.out
    rw[show List.replicate 0 0 ++ rest=rest from rfl,HF.out] at hown
    go_wp2
    go_ret
    exact⟨rfl,hown,hbel⟩
set_option maxRecDepth 100000 in
set_option maxHeartbeats 1000000 in
theorem impl_digits (msg : List UInt8) (w : World) (hl : msg.length ≤ 1048576) (hT : Tab w) :
 Calls Tryz.prog 137 #[.string ⟨msg.toArray⟩] w fun e w'=>∃ g cap:Nat,e=.returned (.slice (some ⟨g,0,none⟩) 19 cap)∧w'.ownsRow w.heap.size 2 1 (.slice (some ⟨g,0,none⟩) 19 cap) 19 (icells (digitsL msg))∧Below w.heap.size w w':=by
 obtain⟨i0,hi0,hz0,hz1,hz2⟩:=info_parts info2i
 have HT:Hid (Tab w):=hT
 have H1:=impl_sum msg w hl hT
 have H2:=fun W hW=>itag1 tDigits (sumL msg) W (by decide) (by rw[sumL_len];omega) hW
 have HL:Hid (digitsL msg=digs (digestD msg) ++ dig3 (chk (digs (digestD msg)))):=rfl
 have hd4:=digestD_len msg
 have HE:Hid (digestD msg=tagL tDigits [sumL msg]):=rfl
 have HC:Hid (chk (digs (digestD msg))≤48):=chk48 msg
 obtain⟨s,hs⟩:∃ s,s=sumL msg:=⟨_,rfl⟩
 obtain⟨d,hd⟩:∃ d,d=digestD msg:=⟨_,rfl⟩
 rw[←hd] at HL hd4 HE HC
 rw[←hs] at H1 H2 HE
 rw[←HE.out] at H2
 obtain⟨out,hout⟩:∃ out,out=digitsL msg:=⟨_,rfl⟩
 rw[←hout] at HL ⊢
 clear hs hd hout HE hT
 go_enter Tryz.func137,Tryz.ntmps137
 go_wp2_with fail
 refine H1.mono ?_
 rintro e w1 ⟨rfl,b1⟩
 go_wp2_with fail
 refine (H2 _ (HT.out.later b1)).mono ?_
 rintro e w2 ⟨rfl,b2⟩
 have B2:=b1.trans (b2.mono b1.size)
 have hs2:=B2.size
 clear b1 b2 H1 H2
 go_wp2_with (at_make;refine wpList_make_own _ rfl _ _ 174 rfl w2.heap.size 2 i0 (.int .i64 0) 1 Tryz.underlying174 hi0 hz0 hz1 _ _ _ 19 rfl rfl (by omega) (by rw[hz2];omega) (by unfold maxLen;omega) (Nat.le_refl _) ?_;intro w3 hown0 hgrow0)
 have B3:=B2.grown hgrow0 hs2 (by simp)
 have O3:=hidOwn (hown0.mono hs2)
 clear hown0 hgrow0 B2
 go_loopw [4,14] (fun v i wr=>∃ j n g cap:Nat,∃ ds:List Nat,j≤4∧i=.int .i64 (j:Int)∧Hid (ds=((d.take j).map dig4).flatten)∧Hid (n=4*j)∧n≤16∧v=.slice (some ⟨g,0,none⟩) n cap∧wr.ownsRow w.heap.size 2 1 (.slice (some ⟨g,0,none⟩) n cap) n (icells ds)∧Below w.heap.size w wr) (fun _ i _=>4 - (intOf i).toNat)
 case atStart=>exact⟨0,0,w2.heap.size,19,[],by omega,rfl,rfl,rfl,by omega,rfl,O3.out,B3⟩
 case round =>
  obtain⟨j,n,g,cap,ds,hj,rfl,HD,HNJ,hn16,rfl,hown,hbel⟩:=hrel
  have hsz:=hbel.size
  have hbg:=own_base hown
  have hgl:=own_lt hown
  clear O3 B3
  by_cases hlt:j<4
  · have hlt':(j:Int)<4:=by omega
    have hjd:j<d.length:=by omega
    have hix:=fun W=>ix_at (P:=Tryz.prog) Tryz.underlying9 d (j:Int) j rfl hjd W
    have HN:Hid (((d.take (j+1)).map dig4).flatten=ds ++ dig4 d[j]):=by rw[Hid,digs4 d (by omega) j hlt,←HD.out]
    obtain⟨b,hb⟩:∃ b,b=d[j]:=⟨_,rfl⟩
    rw[←hb] at hix HN
    have hbt:=b.toNat_lt
    have K:=fun W=>digitsOf_any b.toNat 4 W (by omega) (by omega)
    rw[lowD_four b] at K
    have HO:=hidOwn hown
    have hn12:n≤12:=by have:=HNJ.out;omega
    clear hb HD hown
    go_wp2_with fail
    refine (K _).mono ?_
    rintro e w4 ⟨rfl,o4,b4⟩
    have hown4:=HO.out.kept (row:=none) ⟨b4.os,b4.tape,b4.output,b4.size,fun k hk _=>b4.block k hk⟩ (.inr (by simp[Value.ownBlock]))
    have B4:=hbel.trans (b4.mono hsz)
    have hs4:=B4.size
    have hg4:=own_lt hown4
    have hnews:∀ k u,(icells (dig4 b))[k]? = some u→w4.cell? ((⟨wr.heap.size,0,none⟩:Addr).add k)=some u:=fun k u hu=>by
     have hk:k<4:=by have:=(List.getElem?_eq_some_iff.1 hu).1;rw[icells_length] at this;exact this
     rw[add_none,o4.cellAt k (by omega)];exact hu
    have hone:=icells_one (dig4 b)
    clear K HO o4 b4 hbel
    go_wp2_with (at_builtin;refine wpList_append_own _ rfl _ _ 174 rfl w.heap.size 2 i0 (.int .i64 0) 1 8 Tryz.underlying174 hi0 hz0 hz1 hz2 rfl (by decide) (.slice (some ⟨g,0,none⟩) n cap) n _ rfl hown4 ⟨wr.heap.size,0,none⟩ 4 4 (icells (dig4 b)) rfl rfl hnews hone (by unfold maxLen;omega) (by omega) (by omega) ?_;intro v5 w5 hown5 hgrow5 hnil5)
    rcases own_cases hown5 with ⟨_,h0,_⟩ | ⟨g5,cap5,rfl,_,_,_,_⟩
    · omega
    have B5:Below w.heap.size w w5:=B4.grown hgrow5 hs4 (fun k hk=>by simp[Value.ownBlock] at hk;omega)
    have HO5:Hid (w5.ownsRow w.heap.size 2 1 (.slice (some ⟨g5,0,none⟩) (n+4) cap5) (n+4) (icells (ds ++ dig4 b))):=by rw[Hid,icells_app];exact hown5
    clear hown5 hgrow5 hnil5 hnews hone hown4 B4
    go_wp2
    go_roundw
    case rel=>exact⟨j+1,n+4,g5,cap5,ds ++ dig4 b,by omega,by go_num,HN.out.symm,by have:=HNJ.out;rw[Hid];omega,by omega,rfl,HO5.out,B5⟩
    case measure=>simp[intOf];omega
  · have hj4:j=4:=by omega
    subst hj4
    have hn:n=16:=HNJ.out
    subst hn
    have HDD:Hid (ds=digs d):=HD.out
    have hdl:ds.length=16:=by rw[HDD.out];exact digs_len d (by omega)
    have hd3:∀ k (h:k<ds.length),ds[k]≤3:=fun k h=>by
     have:=digs_lt d
     rw[←HDD.out] at this
     exact this _ (List.getElem_mem _)
    have hc:∀ k (h:k<ds.length),wr.cell? ⟨g,k,none⟩=some (.int .i64 (ds[k]:Int)):=fun k h=>by rw[hown.cellAt k (by omega),icells_at ds k h]
    have HO:=hidOwn hown
    have HB:Hid (Below w.heap.size w wr):=hbel
    clear HD hown hlt hj hbel
    go_wp2
    go_loop [6,27] (fun t i=>∃ k c:Nat,k≤16∧i=.int .i64 (k:Int)∧t=.int .i64 (c:Int)∧Hid (c=chk (ds.take k))∧c≤3*k) (fun _ i=>16 - (intOf i).toNat)
    case atStart=>exact⟨0,0,by omega,rfl,rfl,rfl,by omega⟩
    case round =>
     obtain⟨k,c,hk,rfl,rfl,HC1,hck⟩:=hrel
     by_cases hlt:k<16
     · have hkl:k<ds.length:=by omega
       have c1:=hc k hkl
       have d1:=hd3 k hkl
       have HS:Hid (chk (ds.take (k+1))=c+(3 - ds[k])):=by rw[Hid,chk_take ds k hkl,←HC1.out]
       obtain⟨x,hx⟩:∃ x,x=ds[k]:=⟨_,rfl⟩
       rw[←hx] at c1 d1 HS
       have hk0:(0:Int)≤(k:Int):=by omega
       have hk1:(k:Int)<16:=by omega
       clear hc hd3 hx HC1
       go_wp2
       go_round
       case rel=>exact⟨k+1,c+(3 - x),by omega,by go_num,by go_num,HS.out.symm,by omega⟩
       case measure=>simp[intOf];omega
     · have hk16:k=16:=by omega
       subst hk16
       have HCC:Hid (c=chk ds):=by have:=HC1.out;rw[List.take_of_length_le (by omega)] at this;exact this
       have hc48:c≤48:=by omega
       have K:=fun W=>digitsOf_any c 3 W (by omega) (by omega)
       rw[lowD_three c hc48] at K
       have HR:Hid (out=ds ++ dig3 c):=by rw[Hid,HL.out,←HDD.out,←HCC.out]
       clear hc hd3 HC1 hdl
       go_wp2_with fail
       refine (K _).mono ?_
       rintro e w4 ⟨rfl,o4,b4⟩
       have hown4:=HO.out.kept (row:=none) ⟨b4.os,b4.tape,b4.output,b4.size,fun k hk _=>b4.block k hk⟩ (.inr (by simp[Value.ownBlock]))
       have B4:=HB.out.trans (b4.mono hsz)
       have hs4:=B4.size
       have hg4:=own_lt hown4
       have hnews:∀ k u,(icells (dig3 c))[k]? = some u→w4.cell? ((⟨wr.heap.size,0,none⟩:Addr).add k)=some u:=fun k u hu=>by
        have hk:k<3:=by have:=(List.getElem?_eq_some_iff.1 hu).1;rw[icells_length] at this;exact this
        rw[add_none,o4.cellAt k (by omega)];exact hu
       have hone:=icells_one (dig3 c)
       clear K HO o4 b4 HB
       go_wp2_with (at_builtin;refine wpList_append_own _ rfl _ _ 174 rfl w.heap.size 2 i0 (.int .i64 0) 1 8 Tryz.underlying174 hi0 hz0 hz1 hz2 rfl (by decide) (.slice (some ⟨g,0,none⟩) 16 cap) 16 _ rfl hown4 ⟨wr.heap.size,0,none⟩ 3 3 (icells (dig3 c)) rfl rfl hnews hone (by unfold maxLen;omega) (by omega) (by omega) ?_;intro v5 w5 hown5 hgrow5 hnil5)
       rcases own_cases hown5 with ⟨_,h0,_⟩ | ⟨g5,cap5,rfl,_,_,_,_⟩
       · omega
       have B5:Below w.heap.size w w5:=B4.grown hgrow5 hs4 (fun k hk=>by simp[Value.ownBlock] at hk;omega)
       have HO5:Hid (w5.ownsRow w.heap.size 2 1 (.slice (some ⟨g5,0,none⟩) 19 cap5) 19 (icells out)):=by rw[Hid,HR.out,icells_app];exact hown5
       clear hown5 hgrow5 hnil5 hnews hone hown4 B4
       go_wp2
       go_ret
       exact⟨g5,cap5,rfl,HO5.out,B5⟩
theorem own_nil (w:World) (B e:Nat):w.ownsRow B e 1 (.slice none 0 0) 0 []:=⟨rfl,.inl ⟨rfl,rfl⟩⟩
theorem own_some {w:World} {base e n:Nat} {a:Option Addr} {m cap:Nat} {xs:List Value} (h:w.ownsRow base e 1 (.slice a m cap) n xs) (hn:0<n):m=n∧∃ g,a=some ⟨g,0,none⟩:=by
 rcases h.2 with ⟨h',h0⟩ | ⟨g,cap',cur,h',_⟩
 · omega
 · simp only[Value.slice.injEq] at h'
   exact⟨h'.2.1,g,h'.1⟩
theorem own_low {w:World} {base e n:Nat} {a:Option Addr} {m cap:Nat} {xs:List Value} (h:w.ownsRow base e 1 (.slice a m cap) n xs):∀ k,(Value.slice a m cap).ownBlock=some k→base≤k:=by
 intro k hk
 rcases h.2 with ⟨h',h0⟩ | ⟨g,cap',cur,h',hb,_⟩
 · cases h';simp[Value.ownBlock] at hk
 · cases h';simp[Value.ownBlock] at hk;omega
theorem keptO {w w':World} {b e n:Nat} {v:Value} {xs:List Value} (h:w.ownsRow b e 1 v n xs) (hb:Below w.heap.size w w'):w'.ownsRow b e 1 v n xs :=
 h.kept (row:=none) ⟨hb.os,hb.tape,hb.output,hb.size,fun k hk _=>hb.block k hk⟩ (by cases v.ownBlock with | none=>exact .inl rfl | some k=>exact .inr (by simp))
theorem IsStrs.later {w w':World} {a:Option Addr} {ls:List (List UInt8)} (h:IsStrs w a ls) (hb:Below w.heap.size w w'):IsStrs w' a ls:=by
 rcases h with h | ⟨b,off,h1,h2⟩
 · exact .inl h
 · exact .inr ⟨b,off,h1,fun j h=>(hb.cell (p:=⟨b,off+j,none⟩) (World.block_lt_of_cell? w _ (h2 j h))).trans (h2 j h)⟩
theorem isStrs_own {w:World} {base e n:Nat} {a:Option Addr} {m cap:Nat} {ls:List (List UInt8)} (h:w.ownsRow base e 1 (.slice a m cap) n (scells ls)):m=ls.length∧n=ls.length∧IsStrs w a ls:=by
 have hl:ls.length=n:=by rw[←scells_length ls];simpa using h.1
 rcases h.2 with ⟨h',h0⟩ | ⟨g,cap',cur,h',_⟩
 · cases h'
   exact⟨by omega,by omega,.inl (List.length_eq_zero_iff.1 (by omega))⟩
 · cases h'
   exact⟨by omega,by omega,.inr ⟨g,0,rfl,fun j hj=>by rw[Nat.zero_add,h.cellAt j (by omega),scells_at ls j hj]⟩⟩
set_option maxRecDepth 100000 in
set_option maxHeartbeats 400000 in
theorem seedSized_yes (a:Option Addr) (cap:Nat) (ls:List (List UInt8)) (w:World) (hl:ls.length≤1048576) (h32:∀ l∈ls,l.length=32) (hs:IsStrs w a ls) :
 Calls Tryz.prog 120 #[.slice a ls.length cap] w fun e w'=>e=.returned (.bool true)∧w'=w:=by
 rcases hs with rfl | ⟨b,off,rfl,hc⟩
 · go_enter Tryz.func120,Tryz.ntmps120
   go_wp2
   refine wp_loop_rounds 1 ?_
   rw[rounds_succ]
   go_wp2
   go_ret
   exact⟨rfl,rfl⟩
 · have h32':∀ j (h:j<ls.length),ls[j].length=32:=fun j h=>h32 _ (List.getElem_mem _)
   clear h32
   go_enter Tryz.func120,Tryz.ntmps120
   go_wp2
   go_loop [7] (fun i=>∃ j:Nat,j≤ls.length∧i=.int .i64 (j:Int)) (fun i=>ls.length - (intOf i).toNat)
   case atStart=>exact⟨0,Nat.zero_le _,rfl⟩
   case round =>
    obtain⟨j,hj,rfl⟩:=hrel
    by_cases hlt:j<ls.length
    · have c1:=hc j hlt
      have m1:=h32' j hlt
      have hj0:(0:Int)≤(j:Int):=by omega
      have hj1:(j:Int)<(ls.length:Int):=by omega
      obtain⟨x,hx⟩:∃ x,x=ls[j]:=⟨_,rfl⟩
      rw[←hx] at c1 m1
      have m2:(x.length:Int)=32:=by omega
      clear hc h32' hx
      go_wp2
      go_round
      case rel=>exact⟨j+1,by omega,by go_num⟩
      case measure=>simp[intOf];omega
    · go_wp2
      go_ret
      exact⟨rfl,rfl⟩
set_option maxRecDepth 100000 in
set_option maxHeartbeats 400000 in
theorem seedSized_no (a : Option Addr) (cap : Nat) (ls : List (List UInt8)) (w : World) (hl : ls.length ≤ 1048576) (hm : ∀ l ∈ ls, l.length ≤ 1048576) (h32 : ¬ ∀ l ∈ ls, l.length = 32) (hs : IsStrs w a ls) :
 Calls Tryz.prog 120 #[.slice a ls.length cap] w fun e w'=>e=.returned (.bool false)∧w'=w:=by
 rcases hs with rfl | ⟨b,off,rfl,hc⟩
 · exact absurd (by simp) h32
 · have HH : Hid (¬ ∀ l ∈ ls, l.length = 32) := h32
   have hm':∀ j (h:j<ls.length),ls[j].length≤1048576:=fun j h=>hm _ (List.getElem_mem _)
   clear h32 hm
   go_enter Tryz.func120,Tryz.ntmps120
   go_wp2
   go_loop [7] (fun i=>∃ j:Nat,j≤ls.length∧i=.int .i64 (j:Int)∧Hid (∀ l∈ls.take j,l.length=32)) (fun i=>ls.length - (intOf i).toNat)
   case atStart=>exact⟨0,Nat.zero_le _,rfl,by rw[Hid];simp⟩
   case round =>
    obtain⟨j,hj,rfl,HA⟩:=hrel
    by_cases hlt:j<ls.length
    · have c1:=hc j hlt
      have m1:=hm' j hlt
      have hj0:(0:Int)≤(j:Int):=by omega
      have hj1:(j:Int)<(ls.length:Int):=by omega
      have HS:Hid (ls[j].length=32→∀ l∈ls.take (j+1),l.length=32):=fun h l hl=>by
       rw[List.take_succ_eq_append_getElem hlt,List.mem_append] at hl
       rcases hl with hl | hl
       · exact HA.out l hl
       · simp at hl;rw[hl];exact h
      obtain⟨x,hx⟩:∃ x,x=ls[j]:=⟨_,rfl⟩
      rw[←hx] at c1 m1 HS
      clear hc hm' hx HA
      by_cases hx32:x.length=32
      · have m2:(x.length:Int)=32:=by omega
        go_wp2
        go_round
        case rel=>exact⟨j+1,by omega,by go_num,HS.out hx32⟩
        case measure=>simp[intOf];omega
      · have m2:¬ (x.length:Int)=32:=by omega
        go_wp2
        go_ret
        exact⟨rfl,rfl⟩
    · have hjl:j=ls.length:=by omega
      subst hjl
      exact absurd (by have:=HA.out;rw[List.take_length] at this;exact this) HH.out
set_option maxRecDepth 100000 in
set_option maxHeartbeats 1000000 in
theorem impl_publicOf (msg:List UInt8) (a:Option Addr) (cap:Nat) (ls:List (List UInt8)) (w:World) (hl:msg.length≤1048576) (h19:ls.length=19) (h32:∀ l∈ls,l.length=32) (hs:IsStrs w a ls) (hT:Tab w) :
 Calls Tryz.prog 118 #[.string ⟨msg.toArray⟩,.slice a ls.length cap] w fun e w'=>e=.returned (.tuple #[.string ⟨(publicOfL msg ls).toArray⟩,.bool true])∧Below w.heap.size w w':=by
 obtain⟨i0,hi0,hz0,hz1,hz2⟩:=info_parts info9i
 have HT:Hid (Tab w):=hT
 have K0:=seedSized_yes a cap ls w (by omega) h32 hs
 have H1:=impl_digits msg w hl hT
 have hdl:=digitsL_len msg
 have HD3:Hid (∀ j,(digitsL msg).getD j 0≤3):=digitsL_getD msg
 have HP:Hid (publicOfL msg ls=tagL tOnce (leadL msg ls 19)):=rfl
 have HF:Hid ((leadL msg ls 19).flatten.length=32*19):=by rw[Hid,flat32 _ (leadL_32 msg ls h32 19 (by omega)),leadL_length]
 have HLL:Hid ((leadL msg ls 19).length=19):=leadL_length msg ls 19
 have HN:Hid (∀ j,leadL msg ls (j+1)=leadL msg ls j ++ [chainL j ((digitsL msg).getD j 0) (ls.getD j []) (3 - (digitsL msg).getD j 0)]):=leadL_snoc msg ls
 have HZ:Hid (leadL msg ls 0=[]):=rfl
 obtain⟨ds,hds⟩:∃ ds,ds=digitsL msg:=⟨_,rfl⟩
 rw[←hds] at H1 hdl HD3 HN
 obtain⟨out,hout⟩:∃ out,out=publicOfL msg ls:=⟨_,rfl⟩
 rw[←hout] at HP ⊢
 obtain⟨ld,hld⟩:∃ ld,ld=leadL msg ls:=⟨_,rfl⟩
 rw[←hld] at HP HF HLL HN HZ
 rcases hs with rfl | ⟨b,off,rfl,hc⟩
 · simp at h19
 have H32:Hid (∀ j (h:j<ls.length),ls[j].length=32):=fun j h=>h32 _ (List.getElem_mem _)
 have hblt:b<w.heap.size:=World.block_lt_of_cell? w _ (hc 0 (by omega))
 have HC:Hid (∀ j (h:j<ls.length),w.cell? ⟨b,off+j,none⟩=some (.string ⟨ls[j].toArray⟩)):=hc
 rw[h19] at K0 ⊢
 clear hT hds hout hld hc h32
 go_enter Tryz.func118,Tryz.ntmps118
 go_wp2_with fail
 refine K0.mono ?_
 rintro e w0 ⟨rfl,rfl⟩
 clear K0
 go_wp2_with fail
 refine H1.mono ?_
 rintro e w1 ⟨gd,cd,rfl,od,b1⟩
 have hgd:=own_lt od
 have hcd:∀ j (h:j<ds.length),w1.cell? ⟨gd,j,none⟩=some (.int .i64 ((ds.getD j 0:Nat):Int)):=fun j h=>by rw[od.cellAt j (by omega),icells_at ds j h,List.getD_eq_getElem?_getD,List.getElem?_eq_getElem h];rfl
 have hs1:=b1.size
 clear H1 od
 go_wp2
 go_loopw [6,20] (fun v i wr=>∃ j n cap:Nat,∃ a:Option Addr,j≤19∧i=.int .i64 (j:Int)∧v=.slice a n cap∧wr.ownsRow w1.heap.size 9 1 (.slice a n cap) j (scells (ld j))∧Below w1.heap.size w1 wr) (fun _ i _=>19 - (intOf i).toNat)
 case atStart=>exact⟨0,0,0,none,by omega,rfl,rfl,by rw[HZ.out];exact own_nil _ _ _,Below.refl _ _⟩
 case round =>
  obtain⟨j,n,cap1,a,hj,rfl,rfl,hown,hbel⟩:=hrel
  have hsz:=hbel.size
  have hbw:=b1.trans (hbel.mono hs1)
  by_cases hlt:j<19
  · have hlt':(j:Int)<19:=by omega
    have hj0:(0:Int)≤(j:Int):=by omega
    have hjl:j<ls.length:=by omega
    have c1:=(hbel.cell (p:=⟨gd,j,none⟩) hgd).trans (hcd j (by omega))
    have c2:=(hbw.cell (p:=⟨b,off+j,none⟩) hblt).trans (HC.out j hjl)
    have hd3:=HD3.out j
    have hgx:ls.getD j []=ls[j]:=by rw[List.getD_eq_getElem?_getD,List.getElem?_eq_getElem hjl];rfl
    have HNJ:Hid (ld (j+1)=ld j ++ [chainL j (ds.getD j 0) (ls.getD j []) (3 - ds.getD j 0)]):=HN.out j
    rw[hgx] at HNJ
    have hx32:=H32.out j hjl
    obtain⟨d,hd⟩:∃ d,d=ds.getD j 0:=⟨_,rfl⟩
    rw[←hd] at c1 hd3 HNJ
    obtain⟨x,hx⟩:∃ x,x=ls[j]:=⟨_,rfl⟩
    rw[←hx] at c2 HNJ hx32
    have K2:=climbed_any j d 3 x wr (by omega) hd3 (by omega) hx32 (HT.out.later hbw)
    obtain⟨y,hy⟩:∃ y,y=chainL j d x (3 - d):=⟨_,rfl⟩
    rw[←hy] at K2 HNJ
    have HO:=hidOwn hown
    have hlow:=own_low hown
    clear hy hx hown hcd hd hgx hx32
    go_wp2_with fail
    refine K2.mono ?_
    rintro e w3 ⟨rfl,b3⟩
    have B3:=hbel.trans (b3.mono hsz)
    have hs3:=B3.size
    have hown3:=keptO HO.out b3
    clear HO b3 hbel K2 c1 c2
    go_wp2_with (at_builtin;refine wpList_append_own _ rfl _ _ 22 rfl w1.heap.size 9 i0 (.string ⟨#[]⟩) 1 16 Tryz.underlying22 hi0 hz0 hz1 hz2 rfl (by decide) (.slice a n cap1) j _ rfl (hown3.alloc _) ⟨w3.heap.size,0,none⟩ 1 1 [.string ⟨y.toArray⟩] rfl rfl (World.news_of_block (cs:=#[.string ⟨y.toArray⟩]) (t:=9) (fr:=(0,0)) (heap_alloc_new w3 _)) (by simp[Value.oneCell']) (by unfold maxLen;omega) (by omega) (by simp;omega) ?_;intro v4 w4 hown4 hgrow4 hnil4)
    obtain⟨a4,n4,cap4,rfl⟩:=own_slice hown4
    have B4:Below w1.heap.size w1 w4:=(B3.alloc hs3 _).grown hgrow4 (by simp;omega) hlow
    have HO4:Hid (w4.ownsRow w1.heap.size 9 1 (.slice a4 n4 cap4) (j+1) (scells (ld (j+1)))):=by rw[Hid,HNJ.out,scells_snoc];exact hown4
    clear hown4 hgrow4 hnil4 hown3 B3
    go_wp2
    go_roundw
    case rel=>exact⟨j+1,n4,cap4,a4,by omega,by go_num,rfl,HO4.out,B4⟩
    case measure=>simp[intOf];omega
  · have hj19:j=19:=by omega
    subst hj19
    obtain⟨rfl,g,rfl⟩:=own_some hown (by omega)
    have K:=impl_tagged tOnce g cap1 (ld 19) w1.heap.size wr (by decide) (by rw[HLL.out,HF.out];omega) (HT.out.later hbw) (by rw[HLL.out];exact hown)
    rw[←HP.out,HLL.out] at K
    clear hown hcd
    go_wp2_with fail
    refine K.mono ?_
    rintro e w2 ⟨rfl,b2⟩
    have B2:=hbw.trans (b2.mono hbw.size)
    go_wp2
    go_ret2
    exact⟨rfl,B2⟩
set_option maxRecDepth 100000 in
set_option maxHeartbeats 400000 in
theorem impl_publicOf_no (msg:List UInt8) (a:Option Addr) (cap:Nat) (ls:List (List UInt8)) (w:World) (hl:ls.length≤1048576) (hm:∀ l∈ls,l.length≤1048576) (hno:¬ (ls.length=19∧∀ l∈ls,l.length=32)) (hs:IsStrs w a ls) :
 Calls Tryz.prog 118 #[.string ⟨msg.toArray⟩,.slice a ls.length cap] w fun e w'=>e=.returned (.tuple #[.string ⟨#[]⟩,.bool false])∧w'=w:=by
 by_cases h19:ls.length=19
 · have K:=seedSized_no a cap ls w hl hm (fun h=>hno ⟨h19,h⟩) hs
   rw[h19] at K ⊢
   clear hno hs hm hl
   go_enter Tryz.func118,Tryz.ntmps118
   go_wp2_with fail
   refine K.mono ?_
   rintro e w1 ⟨rfl,rfl⟩
   go_wp2
   go_ret2
   exact⟨rfl,rfl⟩
 · have h19':¬ (ls.length:Int)=19:=by omega
   clear hno hs hm
   go_enter Tryz.func118,Tryz.ntmps118
   go_wp2
   go_ret2
   exact⟨rfl,rfl⟩
end Go.Proofs.YtllmclmcncolcaaGreatDoor
