/-
 Contract: the program's Tagged.
-/
import Derived.Test.YtkagiehbjnfabaaDoorMath2
import Derived.Test.YtkagiehbjnfabaaDoorMathAll
import Derived.Test.YtkagiehbjnfabaaDoorTxtC
import Derived.Test.YtkagiehbjnfabaaDoorIListAll
import Derived.Test.YtkagiehbjnfabaaDoorSumI
namespace Go.Proofs.YtkagiehbjnfabaaDoor
open Go.RowKit
set_option linter.unusedVariables false
set_option maxRecDepth 100000 in
set_option maxHeartbeats 1000000 in
theorem impl_tagged (tag : List UInt8) (g cap : Nat) (ls : List (List UInt8)) (b0 : Nat) (w : World) (htg : tag.length ≤ 1048576) (hl : ls.length + ls.flatten.length ≤ 1048576) (hT : Tab w) (hv : w.ownsRow b0 9 1 (.slice (some ⟨g, 0, none⟩) ls.length cap) ls.length (scells ls)) :
 Calls Tryd.prog 33 #[.string ⟨tag.toArray⟩,.slice (some ⟨g,0,none⟩) ls.length cap] w fun e w'=>e=.returned (.string ⟨(tagL tag ls).toArray⟩)∧Below w.heap.size w w':=by
 obtain⟨i0,hi0,hz0,hz1,hz2⟩:=info_parts info9i
 have hgl:=own_lt hv
 have hc:∀ j (h:j<ls.length),w.cell? ⟨g,j,none⟩=some (.string ⟨ls[j].toArray⟩):=fun j h=>by rw[hv.cellAt j (by omega),scells_at ls j h]
 have HM:=tagL_many tag ls
 have HLG:=tagL_long tag ls
 have HY:=tagL_yes tag ls
 obtain⟨out,hout⟩:∃ out,out=tagL tag ls:=⟨_,rfl⟩
 rw[←hout] at HM HLG HY ⊢
 have HT:Hid (Tab w):=hT
 clear hout hv hT
 by_cases hmany:ls.length≤1000
 · have hmany' : (ls.length : Int) ≤ 1000 := by omega
   by_cases hlong:tag.length≤30000
   · have hlong' : (tag.length : Int) ≤ 30000 := by omega
     have HHL:Hid (∀ j,30000<tag.length+(ls.take j).flatten.length→out=[]):=HLG
     have HHY:Hid (tag.length+ls.flatten.length≤30000→out=sumL (listB (tag :: ls))):=HY hmany
     have H0:=fun W=>rlptext_at tag (by omega) W
     obtain⟨y0,hy0⟩:∃ y0,y0=textB tag:=⟨_,rfl⟩
     rw[←hy0] at H0
     have HY0:Hid (y0=textB tag):=hy0
     clear HM HLG HY hy0
     go_enter Tryd.func33,Tryd.ntmps33
     go_wp2_with fail
     refine (H0 _).mono ?_
     rintro e w1 ⟨rfl,hb1⟩
     have hs1:=hb1.size
     clear H0
     go_wp2
     go_loopw [5,6,8,24] (fun t v _ i wr=>∃ j n g1 cap1:Nat,j≤ls.length∧i=.int .i64 (j:Int)∧t=.int .i64 (n:Int)∧Hid (n=tag.length+(ls.take j).flatten.length)∧n≤30000∧v=.slice (some ⟨g1,0,none⟩) (j+1) cap1∧wr.ownsRow w.heap.size 9 1 (.slice (some ⟨g1,0,none⟩) (j+1) cap1) (j+1) (scells ((tag :: ls.take j).map textB))∧Below w.heap.size w wr) (fun _ _ _ i _=>ls.length - (intOf i).toNat)
     case atStart=>exact⟨0,tag.length,w1.heap.size,1,Nat.zero_le _,rfl,rfl,by rw[Hid];simp,hlong,rfl,by rw[HY0.out];exact World.ownsRow_lit w1 #[_] 1 hs1 (by decide) rfl,hb1.alloc hs1 _⟩
     case round =>
      obtain⟨j,n,g1,cap1,hj,rfl,rfl,HN,hn3,rfl,hown,hbel⟩:=hrel
      have hsz:=hbel.size
      have hbg:=own_base hown
      by_cases hlt:j<ls.length
      · have c1:=(hbel.cell (p:=⟨g,j,none⟩) hgl).trans (hc j hlt)
        have hxl:=each_le ls j hlt
        have HF:Hid (tag.length+(ls.take (j+1)).flatten.length=n+ls[j].length):=by rw[Hid,flat_snoc ls j hlt,List.length_append,HN.out];omega
        have HG:30000<tag.length+(ls.take (j+1)).flatten.length→out=[]:=HHL.out (j+1)
        have HI:Hid ((tag :: ls.take (j+1)).map textB=(tag :: ls.take j).map textB ++ [textB ls[j]]):=by rw[Hid,List.take_succ_eq_append_getElem hlt,←List.cons_append,List.map_append];rfl
        have hj0:(0:Int)≤(j:Int):=by omega
        have hj1:(j:Int)<(ls.length:Int):=by omega
        obtain⟨x,hx⟩:∃ x,x=ls[j]:=⟨_,rfl⟩
        rw[←hx] at c1 hxl HF HI
        rw[HF.out] at HG
        have HHG:Hid (30000<n+x.length→out=[]):=HG
        have HO:=hidOwn hown
        clear hc hx HG HN hown
        by_cases hbig:n+x.length≤30000
        · have hbig':(n:Int)+(x.length:Int)≤30000:=by omega
          have H1:=fun W=>rlptext_at x (by omega) W
          obtain⟨y,hy⟩:∃ y,y=textB x:=⟨_,rfl⟩
          rw[←hy] at H1 HI
          clear hy
          go_wp2_with fail
          refine (H1 _).mono ?_
          rintro e w2 ⟨rfl,hb2⟩
          have hown2:=HO.out.kept (row:=none) ⟨hb2.os,hb2.tape,hb2.output,hb2.size,fun k hk _=>hb2.block k hk⟩ (.inr (by simp[Value.ownBlock]))
          have hbel2:=hbel.trans (hb2.mono hsz)
          have hsz2:=hbel2.size
          clear HO hbel hb2 H1 c1
          go_wp2_with (at_builtin;refine wpList_append_lies _ rfl _ _ 24 rfl w.heap.size 9 i0 (.string ⟨#[]⟩) 1 16 Tryd.underlying24 hi0 hz0 hz1 hz2 rfl (by decide) (.slice (some ⟨g1,0,none⟩) (j+1) cap1) (j+1) _ rfl (hown2.alloc _) ⟨w2.heap.size,0,none⟩ 1 1 [.string ⟨y.toArray⟩] rfl rfl (World.news_of_block (cs:=#[.string ⟨y.toArray⟩]) (t:=9) (fr:=(0,0)) (heap_alloc_new w2 _)) (by simp[Value.oneCell']) (by omega) (by unfold maxLen;omega) (by omega) (by simp;omega) (w2.heap.size+1) (by simp) ?_;intro g2 cap2 w3 hown3 hgrow hat hlt3)
          have hbel3:=below_app0 hbel2 hsz2 hbg hgrow
          have HO3:Hid (w3.ownsRow w.heap.size 9 1 (.slice (some ⟨g2,0,none⟩) (j+1+1) cap2) (j+1+1) (scells ((tag :: ls.take (j+1)).map textB))):=by rw[Hid,HI.out,scells_snoc];exact hown3
          clear hgrow hown3 hown2 hbel2
          go_roundw
          case rel=>exact⟨j+1,n+x.length,g2,cap2,by omega,by go_num,by go_num,HF.out.symm,hbig,rfl,HO3.out,hbel3⟩
          case measure=>simp[intOf];omega
        · have hbig':¬ (n:Int)+(x.length:Int)≤30000:=by omega
          have HZ:Hid (out=[]):=HHG.out (by omega)
          clear HO
          go_wp2
          go_ret
          exact⟨by rw[HZ.out];rfl,hbel⟩
      · have hjl:j=ls.length:=by omega
        subst hjl
        have hnt:n=tag.length+ls.flatten.length:=by have:=HN.out;rw[List.take_length] at this;exact this
        have hfl:(tag :: ls).flatten.length≤30000:=by rw[List.flatten_cons,List.length_append];omega
        have hll:(tag :: ls).length≤1001:=by simp;omega
        rw[List.take_length] at hown
        have HO:Hid (out=sumL (listB (tag :: ls))):=HHY.out (by omega)
        have hlen:((tag :: ls).map textB).length=ls.length+1:=by simp
        have hfb:=(listB_len (tag :: ls) hfl hll)
        have hown':wr.ownsRow w.heap.size 9 1 (.slice (some ⟨g1,0,none⟩) ((tag :: ls).map textB).length cap1) ((tag :: ls).map textB).length (scells ((tag :: ls).map textB)):=by rw[hlen];exact hown
        have H1:=impl_list g1 cap1 ((tag :: ls).map textB) w.heap.size wr (by rw[hlen];have h1:=hfb.1;unfold textsB at h1;omega) (by rw[hlen];exact own_capT hown) hown'
        rw[listL_texts _ hfl hll,hlen] at H1
        have H2:=fun W hW=>impl_sum (listB (tag :: ls)) W (by omega) hW
        rw[←HO.out] at H2
        obtain⟨lb,hlb⟩:∃ lb,lb=listB (tag :: ls):=⟨_,rfl⟩
        rw[←hlb] at H1 H2
        clear hown hown' hlb HO hfb hlen hfl hll hnt hc HHL HHY HN HY0
        go_wp2_with fail
        refine H1.mono ?_
        rintro e w2 ⟨rfl,hb2⟩
        have hB2:=hbel.trans (hb2.mono hsz)
        have hs2:=hB2.size
        clear H1 hb2 hbel
        go_wp2_with fail
        refine (H2 _ (HT.out.later hB2)).mono ?_
        rintro e w3 ⟨rfl,hb3⟩
        have hB3:=hB2.trans (hb3.mono hs2)
        clear H2 hb3 hB2
        go_wp2
        go_ret
        exact⟨rfl,hB3⟩
   · have hlong':¬ (tag.length:Int)≤30000:=by omega
     have HZ:Hid (out=[]):=HLG 0 (by simp;omega)
     clear HM HLG HY hc
     go_enter Tryd.func33,Tryd.ntmps33
     go_wp2
     go_ret
     exact⟨by rw[HZ.out];rfl,Below.refl _ _⟩
 · have hmany':¬ (ls.length:Int)≤1000:=by omega
   have HZ:Hid (out=[]):=HM (by omega)
   clear HM HLG HY hc
   go_enter Tryd.func33,Tryd.ntmps33
   go_wp2
   go_ret
   exact⟨by rw[HZ.out];rfl,Below.refl _ _⟩
end Go.Proofs.YtkagiehbjnfabaaDoor
