/-
 Texts that are laid as one: SSs, RpOf, SCp, MathApd, IClS.
-/
import Derived.Test.YtppljdnbhoeeoaaGreatDoorZMaps
import Derived.Test.YtppljdnbhoeeoaaGreatDoorPairsAts
import Derived.Test.YtppljdnbhoeeoaaGreatDoorIAps
namespace Go.Proofs.YtppljdnbhoeeoaaGreatDoor
open Go.RowKit
set_option linter.unusedVariables false
set_option maxHeartbeats 4000000
set_option maxRecDepth 100000
theorem zct {B:Nat} {w w':World} {q:Nat} (h:Below B w w'):Below B w (w'.drewN q):=⟨h.os,h.tape,h.output,h.size,h.block⟩
theorem zt7 (a:Option Addr) (cap:Nat) (ss:List zg) (c:Int) (w:World) (hl:ss.length≤1048576) (hs:IsSess w a ss) :
 Calls Tryz.prog 48 #[.slice a ss.length cap,.int .i64 c] w fun e w'=>e=.returned (.int .i64 (zbr ss c))∧Below w.heap.size w w':=by
 have HS:Hid (∀ W,Below w.heap.size w W→IsSess W a ss):=fun W hW=>hs.later hW
 have HNO:Hid ((∀ x∈ss,x.1≠c)→zbr ss c=0):=zsn
 have HAT:Hid (∀ j (h:j<ss.length),ss[j].1=c→(∀ i (hi:i<j),(ss[i]'(by omega)).1≠c)→zbr ss c=ss[j].2):=fun j h=>za4w h
 obtain⟨r,hr⟩:∃ r,r=zbr ss c:=⟨_,rfl⟩
 rw[←hr] at HNO HAT ⊢
 clear hr hs
 go_enter Tryz.func48,Tryz.ntmps48
 go_wp2
 go_loopw [5] (fun i wr=>∃ j:Nat,j≤ss.length∧i=.int .i64 (j:Int)∧Hid (∀ k (h:k<ss.length),k<j→ss[k].1≠c)∧Below w.heap.size w wr) (fun i _=>ss.length - (RowKit.intOf i).toNat)
 case atStart=>exact⟨0,Nat.zero_le _,rfl,fun k _ hk=>by omega,Below.refl _ _⟩
 case round =>
  obtain⟨j,hj,rfl,HA,hbel⟩:=hrel
  have hsz:=hbel.size
  by_cases hlt:j<ss.length
  · obtain⟨pb,poff,rfl,hc⟩:∃ pb poff,a=some ⟨pb,poff,none⟩∧(wr.cell? ⟨pb,poff+j*2,none⟩=some (.int .i64 ss[j].1)∧wr.cell? ⟨pb,poff+j*2+1,none⟩=some (.int .i64 ss[j].2)):=by
     rcases HS.out wr hbel with h | ⟨pb,poff,h,hc⟩
     · rw[h] at hlt;simp at hlt
     · exact⟨pb,poff,h,hc j hlt⟩
    obtain⟨c1,c2⟩:=hc
    have hj0:(0:Int)≤(j:Int):=by omega
    have hj1:(j:Int)<(ss.length:Int):=by omega
    by_cases hx:ss[j].1=c
    · have HR:Hid (r=ss[j].2):=HAT.out j hlt hx fun i hi=>HA.out i (by omega) hi
      obtain⟨y,hy⟩:∃ y,y=ss[j].2:=⟨_,rfl⟩
      rw[←hy] at c2 HR
      rw[hx] at c1
      clear hx hy HAT HNO HA HS
      go_wp2
      go_ret
      obtain rfl:=HR.out
      exact⟨rfl,hbel⟩
    · have HN:Hid (∀ k (h:k<ss.length),k<j+1→ss[k].1≠c):=fun k h hk=>by
       by_cases e:k=j
       · subst e;exact hx
       · exact HA.out k h (by omega)
      obtain⟨x,hxe⟩:∃ x,x=ss[j].1:=⟨_,rfl⟩
      rw[←hxe] at c1 hx
      have hdc:decide (x=c)=false:=decide_eq_false hx
      clear hxe HAT HNO HA HS c2
      go_wp2
      go_roundw
      case rel=>exact⟨j+1,by omega,by go_num,HN,hbel⟩
      case measure=>simp[RowKit.intOf];omega
  · have HR:Hid (r=0):=HNO.out fun x hx=>by
     obtain⟨k,hk,rfl⟩:=List.mem_iff_getElem.1 hx
     exact HA.out k hk (by omega)
    clear HAT HNO HA HS
    go_wp2
    go_ret
    obtain rfl:=HR.out
    exact⟨rfl,hbel⟩
theorem zfw {w:World} {B e g cap:Nat} {L:List zg} {x y:Int} (h:Hid (w.ownsRow B e 2 (.slice (some ⟨g,0,none⟩) (L.length+1) cap) (L.length+1) (zl L ++ [.int .i64 x,.int .i64 y]))):Hid (w.ownsRow B e 2 (.slice (some ⟨g,0,none⟩) (L ++ [(x,y)]).length cap) (L ++ [(x,y)]).length (zl (L ++ [(x,y)]))):=by
 rw[Hid,zfl,List.length_append]
 exact h
theorem zt8 {w:World} {B e g cap:Nat} {L:List zg} {x y u v:Int} (h:Hid (w.ownsRow B e 2 (.slice (some ⟨g,0,none⟩) (L.length+1+1) cap) (L.length+1+1) (zl L ++ [.int .i64 u,.int .i64 v] ++ [.int .i64 x,.int .i64 y]))):Hid (w.ownsRow B e 2 (.slice (some ⟨g,0,none⟩) (L ++ [(u,v)] ++ [(x,y)]).length cap) (L ++ [(u,v)] ++ [(x,y)]).length (zl (L ++ [(u,v)] ++ [(x,y)]))):=by
 rw[Hid,zfl,zfl,List.length_append,List.length_append]
 exact h
theorem zt9 (a : Option Addr) (cap0 : Nat) (ss : List zg) (c n : Int) (w : World) (hl : ss.length ≤ 1048576) (hs : IsSess w a ss) :
 Calls Tryz.prog 50 #[.slice a ss.length cap0,.agg #[.int .i64 c,.int .i64 n]] w fun e w'=>∃ (g c':Nat),e=.returned (.slice (some ⟨g,0,none⟩) (insZ c n ss).length c')∧w'.ownsRow w.heap.size 62 2 (.slice (some ⟨g,0,none⟩) (insZ c n ss).length c') (insZ c n ss).length (zl (insZ c n ss))∧Below w.heap.size w w':=by
 obtain⟨i0,hi0,hz0,hz1,hz2⟩:=info_parts zi7
 obtain⟨wa,hwa⟩:∃ wa,wa=w.alloc (.cells #[.int .i64 c,.int .i64 n] 62):=⟨_,rfl⟩
 have hsz0:wa.heap.size=w.heap.size+1:=by rw[hwa];simp
 have B0:Below w.heap.size w wa:=by rw[hwa];exact (Below.refl _ _).alloc (Nat.le_refl _) _
 have H0:wa.heap[w.heap.size]? = some (.cells #[.int .i64 c,.int .i64 n] 62 (0,0)):=by rw[hwa];exact heap_alloc_new w _
 have HC:Hid (∀ W,Below wa.heap.size wa W→W.cell? ⟨w.heap.size,0,none⟩=some (.int .i64 c)∧W.cell? ⟨w.heap.size,1,none⟩=some (.int .i64 n)):=fun W hW=>by
  have h:=(hW.block _ (lt_of_block H0)).trans H0
  constructor <;> simp only[World.cell?,h] <;> rfl
 have HS:Hid (∀ W,Below wa.heap.size wa W→IsSess W a ss):=fun W hW=>(hs.later B0).later hW
 have HOL:Hid ((wa.alloc (.cells #[] 62)).ownsRow wa.heap.size 62 2 (.slice (some ⟨wa.heap.size,0,none⟩) 0 0) 0 []):=World.ownsRow_lit (e:=62) (size:=2) wa #[] 0 (base:=wa.heap.size) (Nat.le_refl _) (Nat.zero_le _) rfl
 have HBL:Hid (Below wa.heap.size wa (wa.alloc (.cells #[] 62))):=(Below.refl _ _).alloc (Nat.le_refl _) _
 have HST:Hid (∀ j (h:j<ss.length),(ss.take (j+1)).foldl (zax c n) ([],false)=zax c n ((ss.take j).foldl (zax c n) ([],false)) ss[j]):=fun j h=>by rw[List.take_succ_eq_append_getElem h,List.foldl_append];rfl
 have HFIN:Hid (endZ c n (ss.foldl (zax c n) ([],false))=insZ c n ss):=by rw[Hid,za4s];rfl
 have HB0:Hid (Below w.heap.size w wa):=B0
 obtain⟨res,hres⟩:∃ res,res=insZ c n ss:=⟨_,rfl⟩
 rw[←hres] at HFIN ⊢
 have HS0:Hid (wa.heap.size=w.heap.size+1):=hsz0
 obtain⟨q0,q1⟩:=HC.out wa (Below.refl _ _)
 clear hs hres B0 H0
 go_enter Tryz.func50,Tryz.ntmps50
 go_wp2
 rw[←hwa,←hsz0]
 clear hwa q0 q1 hsz0
 go_loopw [5,6,7] (fun o dn i wr=>∃ (j g cap:Nat) (L:List zg) (d:Bool),j≤ss.length∧i=.int .i64 (j:Int)∧dn=.bool d∧o=.slice (some ⟨g,0,none⟩) L.length cap∧Hid ((ss.take j).foldl (zax c n) ([],false)=(L,d))∧L.length≤2*j∧Hid (wr.ownsRow wa.heap.size 62 2 (.slice (some ⟨g,0,none⟩) L.length cap) L.length (zl L))∧Below wa.heap.size wa wr) (fun _ _ i _=>ss.length - (RowKit.intOf i).toNat)
 case atStart=>exact⟨0,wa.heap.size,0,[],false,Nat.zero_le _,rfl,rfl,rfl,rfl,Nat.zero_le _,HOL,HBL.out⟩
 case round =>
  obtain⟨j,g,cap,L,d,hj,rfl,rfl,rfl,HL,hLl,HO,hbel⟩:=hrel
  have hbg:=own_base HO.out
  have hsz:=hbel.size
  obtain⟨q0,q1⟩:=HC.out wr hbel
  by_cases hlt:j<ss.length
  · obtain⟨pb,poff,rfl,hc0⟩:∃ pb poff,a=some ⟨pb,poff,none⟩∧∀ W,Below wa.heap.size wa W→(W.cell? ⟨pb,poff+j*2,none⟩=some (.int .i64 ss[j].1)∧W.cell? ⟨pb,poff+j*2+1,none⟩=some (.int .i64 ss[j].2)):=by
     rcases HS.out wr hbel with h | ⟨pb,poff,h,hc⟩
     · rw[h] at hlt;simp at hlt
     · refine⟨pb,poff,h,fun W hW=>?_⟩
       rcases HS.out W hW with h' | ⟨pb',poff',h',hc'⟩
       · rw[h'] at hlt;simp at hlt
       · rw[h] at h'
         cases h'
         exact hc' j hlt
    have hj0:(0:Int)≤(j:Int):=by omega
    have hj1:(j:Int)<(ss.length:Int):=by omega
    have HSJ:Hid ((ss.take (j+1)).foldl (zax c n) ([],false)=zax c n (L,d) ss[j]):=by rw[Hid,HST.out j hlt,HL.out]
    obtain⟨x,hx⟩:∃ x,x=ss[j].1:=⟨_,rfl⟩
    obtain⟨y,hy⟩:∃ y,y=ss[j].2:=⟨_,rfl⟩
    have hxy:ss[j]=(x,y):=by rw[hx,hy]
    rw[hxy] at HSJ
    rw[←hx,←hy] at hc0
    have HCC:Hid (∀ W,Below wa.heap.size wa W→(W.cell? ⟨pb,poff+j*2,none⟩=some (.int .i64 x)∧W.cell? ⟨pb,poff+j*2+1,none⟩=some (.int .i64 y))):=hc0
    obtain⟨c1,c2⟩:=hc0 wr hbel
    clear hx hy hxy hc0 HS HST HFIN HL hlt HOL HBL HB0
    by_cases hcx:c≤x
    · have hge:decide (c≤x)=true:=decide_eq_true hcx
      cases d with
      | false =>
        by_cases hxc:x=c
        · obtain rfl:=hxc.symm
          have HN:Hid ((ss.take (j+1)).foldl (zax c n) ([],false)=(L ++ [(c,n)],true)):=by rw[Hid,HSJ.out];simp[zax]
          clear HSJ
          go_wp2
          go_quiet (fail)
          have HO1:Hid ((wr.drewN nq).ownsRow wa.heap.size 62 2 (.slice (some ⟨g,0,none⟩) L.length cap) L.length (zl L)):=HO.out
          have hb1:Below wa.heap.size wa (wr.drewN nq):=zct hbel
          obtain⟨w1,hw1⟩:∃ w1,w1=wr.drewN nq:=⟨_,rfl⟩
          rw[←hw1] at HO1 hb1 ⊢
          have hs1:=hb1.size
          have hg1:=own_base HO1.out
          clear q0 q1 c1 c2
          obtain⟨q0,q1⟩:=HC.out w1 hb1
          obtain⟨c1,c2⟩:=HCC.out w1 hb1
          clear hw1
          go_wp2_with (at_builtin;refine wpList_append_lies _ rfl _ _ 32 rfl wa.heap.size 62 i0 (.agg #[.int .i64 0,.int .i64 0]) 2 16 Tryz.underlying32 hi0 hz0 hz1 hz2 rfl (by decide) (.slice (some ⟨g,0,none⟩) L.length cap) (L.length) _ rfl (HO1.out.alloc _) ⟨w1.heap.size,0,none⟩ 1 1 [.int .i64 c,.int .i64 n] rfl rfl (World.news_of_block (cs:=#[.int .i64 c,.int .i64 n]) (t:=62) (fr:=(0,0)) (heap_alloc_new w1 _)) (by simp[Value.oneCell']) (by omega) (by unfold maxLen;omega) (by omega) (by simp <;> omega) (w1.heap.size+1) (by simp) ?_;intro g3 cap3 w3 hown3 hgrow3 hat3 hlt3)
          have B3:=zcm hb1 hb1.size hg1 hgrow3
          have O3:=zc hown3
          have g_3:=own_base hown3
          clear q0 q1 c1 c2
          obtain⟨q0,q1⟩:=HC.out w3 B3
          obtain⟨c1,c2⟩:=HCC.out w3 B3
          clear hown3 hgrow3 hat3 hlt3
          go_wp2
          go_quiet (fail)
          have HO2:Hid ((w3.drewN nq).ownsRow wa.heap.size 62 2 (.slice (some ⟨g3,0,none⟩) (L.length+1) cap3) (L.length+1) (zl L ++ [.int .i64 c,.int .i64 n])):=O3.out
          have hb2:Below wa.heap.size wa (w3.drewN nq):=zct B3
          obtain⟨w2,hw2⟩:∃ w2,w2=w3.drewN nq:=⟨_,rfl⟩
          rw[←hw2] at HO2 hb2 ⊢
          have hs2:=hb2.size
          have hg2:=own_base HO2.out
          clear q0 q1 c1 c2
          obtain⟨q0,q1⟩:=HC.out w2 hb2
          obtain⟨c1,c2⟩:=HCC.out w2 hb2
          clear hw2
          go_wp2
          skip
          go_roundw
          case rel=>exact⟨j+1,g3,cap3,L ++ [(c,n)],true,by omega,by go_num,rfl,by simp,HN,by simp;omega,zfw HO2,hb2⟩
          case measure=>simp[RowKit.intOf];omega
        · have hdc:decide (x=c)=false:=decide_eq_false hxc
          have HN:Hid ((ss.take (j+1)).foldl (zax c n) ([],false)=(L ++ [(c,n)] ++ [(x,y)],true)):=by rw[Hid,HSJ.out];simp[zax,hcx,hxc]
          clear HSJ
          go_wp2
          go_quiet (fail)
          have HO1:Hid ((wr.drewN nq).ownsRow wa.heap.size 62 2 (.slice (some ⟨g,0,none⟩) L.length cap) L.length (zl L)):=HO.out
          have hb1:Below wa.heap.size wa (wr.drewN nq):=zct hbel
          obtain⟨w1,hw1⟩:∃ w1,w1=wr.drewN nq:=⟨_,rfl⟩
          rw[←hw1] at HO1 hb1 ⊢
          have hs1:=hb1.size
          have hg1:=own_base HO1.out
          clear q0 q1 c1 c2
          obtain⟨q0,q1⟩:=HC.out w1 hb1
          obtain⟨c1,c2⟩:=HCC.out w1 hb1
          clear hw1
          go_wp2_with (at_builtin;refine wpList_append_lies _ rfl _ _ 32 rfl wa.heap.size 62 i0 (.agg #[.int .i64 0,.int .i64 0]) 2 16 Tryz.underlying32 hi0 hz0 hz1 hz2 rfl (by decide) (.slice (some ⟨g,0,none⟩) L.length cap) (L.length) _ rfl (HO1.out.alloc _) ⟨w1.heap.size,0,none⟩ 1 1 [.int .i64 c,.int .i64 n] rfl rfl (World.news_of_block (cs:=#[.int .i64 c,.int .i64 n]) (t:=62) (fr:=(0,0)) (heap_alloc_new w1 _)) (by simp[Value.oneCell']) (by omega) (by unfold maxLen;omega) (by omega) (by simp <;> omega) (w1.heap.size+1) (by simp) ?_;intro g3 cap3 w3 hown3 hgrow3 hat3 hlt3)
          have B3:=zcm hb1 hb1.size hg1 hgrow3
          have O3:=zc hown3
          have g_3:=own_base hown3
          clear q0 q1 c1 c2
          obtain⟨q0,q1⟩:=HC.out w3 B3
          obtain⟨c1,c2⟩:=HCC.out w3 B3
          clear hown3 hgrow3 hat3 hlt3
          go_wp2
          go_quiet (fail)
          have HO2:Hid ((w3.drewN nq).ownsRow wa.heap.size 62 2 (.slice (some ⟨g3,0,none⟩) (L.length+1) cap3) (L.length+1) (zl L ++ [.int .i64 c,.int .i64 n])):=O3.out
          have hb2:Below wa.heap.size wa (w3.drewN nq):=zct B3
          obtain⟨w2,hw2⟩:∃ w2,w2=w3.drewN nq:=⟨_,rfl⟩
          rw[←hw2] at HO2 hb2 ⊢
          have hs2:=hb2.size
          have hg2:=own_base HO2.out
          clear q0 q1 c1 c2
          obtain⟨q0,q1⟩:=HC.out w2 hb2
          obtain⟨c1,c2⟩:=HCC.out w2 hb2
          clear hw2
          go_wp2_with (at_builtin;refine wpList_append_lies _ rfl _ _ 32 rfl wa.heap.size 62 i0 (.agg #[.int .i64 0,.int .i64 0]) 2 16 Tryz.underlying32 hi0 hz0 hz1 hz2 rfl (by decide) (.slice (some ⟨g3,0,none⟩) (L.length+1) cap3) ((L.length+1)) _ rfl (HO2.out.alloc _) ⟨w2.heap.size,0,none⟩ 1 1 [.int .i64 x,.int .i64 y] rfl rfl (World.news_of_block (cs:=#[.int .i64 x,.int .i64 y]) (t:=62) (fr:=(0,0)) (heap_alloc_new w2 _)) (by simp[Value.oneCell']) (by omega) (by unfold maxLen;omega) (by omega) (by simp <;> omega) (w2.heap.size+1) (by simp) ?_;intro g4 cap4 w4 hown4 hgrow4 hat4 hlt4)
          have B4:=zcm hb2 hb2.size hg2 hgrow4
          have O4:=zc hown4
          have g_4:=own_base hown4
          clear q0 q1 c1 c2
          obtain⟨q0,q1⟩:=HC.out w4 B4
          obtain⟨c1,c2⟩:=HCC.out w4 B4
          clear hown4 hgrow4 hat4 hlt4
          go_wp2
          skip
          go_roundw
          case rel=>exact⟨j+1,g4,cap4,L ++ [(c,n)] ++ [(x,y)],true,by omega,by go_num,rfl,by simp,HN,by simp;omega,zt8 O4,B4⟩
          case measure=>simp[RowKit.intOf];omega
      | true =>
        by_cases hxc:x=c
        · obtain rfl:=hxc.symm
          have HN:Hid ((ss.take (j+1)).foldl (zax c n) ([],false)=(L,true)):=by rw[Hid,HSJ.out];simp[zax]
          clear HSJ
          go_wp2
          go_quiet (fail)
          have HO1:Hid ((wr.drewN nq).ownsRow wa.heap.size 62 2 (.slice (some ⟨g,0,none⟩) L.length cap) L.length (zl L)):=HO.out
          have hb1:Below wa.heap.size wa (wr.drewN nq):=zct hbel
          obtain⟨w1,hw1⟩:∃ w1,w1=wr.drewN nq:=⟨_,rfl⟩
          rw[←hw1] at HO1 hb1 ⊢
          have hs1:=hb1.size
          have hg1:=own_base HO1.out
          clear q0 q1 c1 c2
          obtain⟨q0,q1⟩:=HC.out w1 hb1
          obtain⟨c1,c2⟩:=HCC.out w1 hb1
          clear hw1
          go_wp2
          go_quiet (fail)
          have HO2:Hid ((w1.drewN nq).ownsRow wa.heap.size 62 2 (.slice (some ⟨g,0,none⟩) L.length cap) L.length (zl L)):=HO1.out
          have hb2:Below wa.heap.size wa (w1.drewN nq):=zct hb1
          obtain⟨w2,hw2⟩:∃ w2,w2=w1.drewN nq:=⟨_,rfl⟩
          rw[←hw2] at HO2 hb2 ⊢
          have hs2:=hb2.size
          have hg2:=own_base HO2.out
          clear q0 q1 c1 c2
          obtain⟨q0,q1⟩:=HC.out w2 hb2
          obtain⟨c1,c2⟩:=HCC.out w2 hb2
          clear hw2
          go_wp2
          skip
          go_roundw
          case rel=>exact⟨j+1,g,cap,L,true,by omega,by go_num,rfl,rfl,HN,by omega,HO2,hb2⟩
          case measure=>simp[RowKit.intOf];omega
        · have hdc:decide (x=c)=false:=decide_eq_false hxc
          have HN:Hid ((ss.take (j+1)).foldl (zax c n) ([],false)=(L ++ [(x,y)],true)):=by rw[Hid,HSJ.out];simp[zax,hxc]
          clear HSJ
          go_wp2
          go_quiet (fail)
          have HO1:Hid ((wr.drewN nq).ownsRow wa.heap.size 62 2 (.slice (some ⟨g,0,none⟩) L.length cap) L.length (zl L)):=HO.out
          have hb1:Below wa.heap.size wa (wr.drewN nq):=zct hbel
          obtain⟨w1,hw1⟩:∃ w1,w1=wr.drewN nq:=⟨_,rfl⟩
          rw[←hw1] at HO1 hb1 ⊢
          have hs1:=hb1.size
          have hg1:=own_base HO1.out
          clear q0 q1 c1 c2
          obtain⟨q0,q1⟩:=HC.out w1 hb1
          obtain⟨c1,c2⟩:=HCC.out w1 hb1
          clear hw1
          go_wp2
          go_quiet (fail)
          have HO2:Hid ((w1.drewN nq).ownsRow wa.heap.size 62 2 (.slice (some ⟨g,0,none⟩) L.length cap) L.length (zl L)):=HO1.out
          have hb2:Below wa.heap.size wa (w1.drewN nq):=zct hb1
          obtain⟨w2,hw2⟩:∃ w2,w2=w1.drewN nq:=⟨_,rfl⟩
          rw[←hw2] at HO2 hb2 ⊢
          have hs2:=hb2.size
          have hg2:=own_base HO2.out
          clear q0 q1 c1 c2
          obtain⟨q0,q1⟩:=HC.out w2 hb2
          obtain⟨c1,c2⟩:=HCC.out w2 hb2
          clear hw2
          go_wp2_with (at_builtin;refine wpList_append_lies _ rfl _ _ 32 rfl wa.heap.size 62 i0 (.agg #[.int .i64 0,.int .i64 0]) 2 16 Tryz.underlying32 hi0 hz0 hz1 hz2 rfl (by decide) (.slice (some ⟨g,0,none⟩) L.length cap) (L.length) _ rfl (HO2.out.alloc _) ⟨w2.heap.size,0,none⟩ 1 1 [.int .i64 x,.int .i64 y] rfl rfl (World.news_of_block (cs:=#[.int .i64 x,.int .i64 y]) (t:=62) (fr:=(0,0)) (heap_alloc_new w2 _)) (by simp[Value.oneCell']) (by omega) (by unfold maxLen;omega) (by omega) (by simp <;> omega) (w2.heap.size+1) (by simp) ?_;intro g4 cap4 w4 hown4 hgrow4 hat4 hlt4)
          have B4:=zcm hb2 hb2.size hg2 hgrow4
          have O4:=zc hown4
          have g_4:=own_base hown4
          clear q0 q1 c1 c2
          obtain⟨q0,q1⟩:=HC.out w4 B4
          obtain⟨c1,c2⟩:=HCC.out w4 B4
          clear hown4 hgrow4 hat4 hlt4
          go_wp2
          skip
          go_roundw
          case rel=>exact⟨j+1,g4,cap4,L ++ [(x,y)],true,by omega,by go_num,rfl,by simp,HN,by simp;omega,zfw O4,B4⟩
          case measure=>simp[RowKit.intOf];omega
    · have hge:decide (c≤x)=false:=decide_eq_false hcx
      have hxc:¬ x=c:=fun e=>hcx (by omega)
      have hdc:decide (x=c)=false:=decide_eq_false hxc
      have HN:Hid ((ss.take (j+1)).foldl (zax c n) ([],false)=(L ++ [(x,y)],d)):=by rw[Hid,HSJ.out];simp[zax,hxc,hcx]
      clear HSJ
      cases d with
      | false =>
        go_wp2
        go_quiet (fail)
        have HO1:Hid ((wr.drewN nq).ownsRow wa.heap.size 62 2 (.slice (some ⟨g,0,none⟩) L.length cap) L.length (zl L)):=HO.out
        have hb1:Below wa.heap.size wa (wr.drewN nq):=zct hbel
        obtain⟨w1,hw1⟩:∃ w1,w1=wr.drewN nq:=⟨_,rfl⟩
        rw[←hw1] at HO1 hb1 ⊢
        have hs1:=hb1.size
        have hg1:=own_base HO1.out
        clear q0 q1 c1 c2
        obtain⟨q0,q1⟩:=HC.out w1 hb1
        obtain⟨c1,c2⟩:=HCC.out w1 hb1
        clear hw1
        go_wp2
        go_quiet (fail)
        have HO2:Hid ((w1.drewN nq).ownsRow wa.heap.size 62 2 (.slice (some ⟨g,0,none⟩) L.length cap) L.length (zl L)):=HO1.out
        have hb2:Below wa.heap.size wa (w1.drewN nq):=zct hb1
        obtain⟨w2,hw2⟩:∃ w2,w2=w1.drewN nq:=⟨_,rfl⟩
        rw[←hw2] at HO2 hb2 ⊢
        have hs2:=hb2.size
        have hg2:=own_base HO2.out
        clear q0 q1 c1 c2
        obtain⟨q0,q1⟩:=HC.out w2 hb2
        obtain⟨c1,c2⟩:=HCC.out w2 hb2
        clear hw2
        go_wp2_with (at_builtin;refine wpList_append_lies _ rfl _ _ 32 rfl wa.heap.size 62 i0 (.agg #[.int .i64 0,.int .i64 0]) 2 16 Tryz.underlying32 hi0 hz0 hz1 hz2 rfl (by decide) (.slice (some ⟨g,0,none⟩) L.length cap) (L.length) _ rfl (HO2.out.alloc _) ⟨w2.heap.size,0,none⟩ 1 1 [.int .i64 x,.int .i64 y] rfl rfl (World.news_of_block (cs:=#[.int .i64 x,.int .i64 y]) (t:=62) (fr:=(0,0)) (heap_alloc_new w2 _)) (by simp[Value.oneCell']) (by omega) (by unfold maxLen;omega) (by omega) (by simp <;> omega) (w2.heap.size+1) (by simp) ?_;intro g4 cap4 w4 hown4 hgrow4 hat4 hlt4)
        have B4:=zcm hb2 hb2.size hg2 hgrow4
        have O4:=zc hown4
        have g_4:=own_base hown4
        clear q0 q1 c1 c2
        obtain⟨q0,q1⟩:=HC.out w4 B4
        obtain⟨c1,c2⟩:=HCC.out w4 B4
        clear hown4 hgrow4 hat4 hlt4
        go_wp2
        skip
        go_roundw
        case rel=>exact⟨j+1,g4,cap4,L ++ [(x,y)],false,by omega,by go_num,rfl,by simp,HN,by simp;omega,zfw O4,B4⟩
        case measure=>simp[RowKit.intOf];omega
      | true =>
        go_wp2
        go_quiet (fail)
        have HO1:Hid ((wr.drewN nq).ownsRow wa.heap.size 62 2 (.slice (some ⟨g,0,none⟩) L.length cap) L.length (zl L)):=HO.out
        have hb1:Below wa.heap.size wa (wr.drewN nq):=zct hbel
        obtain⟨w1,hw1⟩:∃ w1,w1=wr.drewN nq:=⟨_,rfl⟩
        rw[←hw1] at HO1 hb1 ⊢
        have hs1:=hb1.size
        have hg1:=own_base HO1.out
        clear q0 q1 c1 c2
        obtain⟨q0,q1⟩:=HC.out w1 hb1
        obtain⟨c1,c2⟩:=HCC.out w1 hb1
        clear hw1
        go_wp2
        go_quiet (fail)
        have HO2:Hid ((w1.drewN nq).ownsRow wa.heap.size 62 2 (.slice (some ⟨g,0,none⟩) L.length cap) L.length (zl L)):=HO1.out
        have hb2:Below wa.heap.size wa (w1.drewN nq):=zct hb1
        obtain⟨w2,hw2⟩:∃ w2,w2=w1.drewN nq:=⟨_,rfl⟩
        rw[←hw2] at HO2 hb2 ⊢
        have hs2:=hb2.size
        have hg2:=own_base HO2.out
        clear q0 q1 c1 c2
        obtain⟨q0,q1⟩:=HC.out w2 hb2
        obtain⟨c1,c2⟩:=HCC.out w2 hb2
        clear hw2
        go_wp2_with (at_builtin;refine wpList_append_lies _ rfl _ _ 32 rfl wa.heap.size 62 i0 (.agg #[.int .i64 0,.int .i64 0]) 2 16 Tryz.underlying32 hi0 hz0 hz1 hz2 rfl (by decide) (.slice (some ⟨g,0,none⟩) L.length cap) (L.length) _ rfl (HO2.out.alloc _) ⟨w2.heap.size,0,none⟩ 1 1 [.int .i64 x,.int .i64 y] rfl rfl (World.news_of_block (cs:=#[.int .i64 x,.int .i64 y]) (t:=62) (fr:=(0,0)) (heap_alloc_new w2 _)) (by simp[Value.oneCell']) (by omega) (by unfold maxLen;omega) (by omega) (by simp <;> omega) (w2.heap.size+1) (by simp) ?_;intro g4 cap4 w4 hown4 hgrow4 hat4 hlt4)
        have B4:=zcm hb2 hb2.size hg2 hgrow4
        have O4:=zc hown4
        have g_4:=own_base hown4
        clear q0 q1 c1 c2
        obtain⟨q0,q1⟩:=HC.out w4 B4
        obtain⟨c1,c2⟩:=HCC.out w4 B4
        clear hown4 hgrow4 hat4 hlt4
        go_wp2
        skip
        go_roundw
        case rel=>exact⟨j+1,g4,cap4,L ++ [(x,y)],true,by omega,by go_num,rfl,by simp,HN,by simp;omega,zfw O4,B4⟩
        case measure=>simp[RowKit.intOf];omega
  · have hjl:j=ss.length:=by omega
    subst hjl
    have hfl:=HL.out
    rw[List.take_length] at hfl
    have HE:Hid (res=endZ c n (L,d)):=by rw[Hid,←HFIN.out,hfl]
    have HCC:Hid (∀ W,Below wa.heap.size wa W→True):=fun _ _=>trivial
    have HM:Hid (w.heap.size≤wa.heap.size):=by have:=HS0.out;rw[Hid];omega
    clear HST HFIN HL hfl HS HOL HBL hlt
    cases d
    · go_wp2_with (first | (at_builtin;refine wpList_append_lies _ rfl _ _ 32 rfl wa.heap.size 62 i0 (.agg #[.int .i64 0,.int .i64 0]) 2 16 Tryz.underlying32 hi0 hz0 hz1 hz2 rfl (by decide) (.slice (some ⟨g,0,none⟩) L.length cap) (L.length) _ rfl (HO.out.alloc _) ⟨wr.heap.size,0,none⟩ 1 1 [.int .i64 c,.int .i64 n] rfl rfl (World.news_of_block (cs:=#[.int .i64 c,.int .i64 n]) (t:=62) (fr:=(0,0)) (heap_alloc_new wr _)) (by simp[Value.oneCell']) (by omega) (by unfold maxLen;omega) (by omega) (by simp <;> omega) (wr.heap.size+1) (by simp) ?_;intro g3 cap3 w3 hown3 hgrow3 hat3 hlt3;have B3:=zcm hbel hbel.size hbg hgrow3;have O3:=zc hown3;have hbg3:=own_base hown3;have sz3:=B3.size;clear hown3 hgrow3 hat3 hlt3))
      go_ret
      have e:res=L ++ [(c,n)]:=by rw[HE.out];rfl
      rw[e,List.length_append]
      exact⟨g3,cap3,rfl,by have:=(zfw O3).out;rw[List.length_append] at this;exact this.mono HM.out,HB0.out.trans (B3.mono HM.out)⟩
    · go_wp2
      go_ret
      have e:res=L:=by rw[HE.out];rfl
      rw[e]
      exact⟨g,cap,rfl,HO.out.mono HM.out,HB0.out.trans (hbel.mono HM.out)⟩
abbrev RepL:=Int × List UInt8 × List za × List zg
def zj9:RepL:=(0,[],[],[])
theorem zfx {P:Program} {fn:Func} {p r:Tmp} {ty:TypeId} (h:fn.results=#[.cell p ty,.tmp r]) (tmps:Array Value) (w:World) (g:Nat) (t:TypeId) (cs:Array Value) (d:TypeDesc)
 (hp:tmps.getD p undef=.pointer (some ⟨g,0,none⟩)) (hg:w.heap[g]? = some (.cells cs t (0,0))) (hu:P.underlying ty=some d) (hd:(match d with | .struct _ | .array _ _=>true | _=>false)=true) (hi:(P.info? ty).map (·.size)=some cs.size) (vb:Value) (hb:tmps.getD r undef=vb) :
 (results fn tmps).run P w=.ok (.tuple #[.agg cs,vb]) w:=by
 subst hb
 have hp':tmps[p]?.getD undef=.pointer (some ⟨g,0,none⟩):=by simpa using hp
 simp[results,h,hp',asAddr,run_loadVar_row w g t ty cs (0,0) d hg hu hd hi]
theorem zef {w:World} {b:Nat} {u v x y:Value} {t:TypeId} (z0 z1 z2 z3:Value) (h:w.heap[b]? = some (.cells #[u,v,x,y] t (0,0))):((((w.setCell ⟨b,0,none⟩ z0).setCell ⟨b,1,none⟩ z1).setCell ⟨b,2,none⟩ z2).setCell ⟨b,3,none⟩ z3).heap[b]? = some (.cells #[z0,z1,z2,z3] t (0,0)) :=
 zc4 (j:=3) (zc4 (j:=2) (zc4 (j:=1) (zc4 (j:=0) h)))
theorem zeg {B b:Nat} {w0 w:World} (h:Below B w0 w) (hb:B≤b) (z0 z1 z2 z3:Value):Below B w0 ((((w.setCell ⟨b,0,none⟩ z0).setCell ⟨b,1,none⟩ z1).setCell ⟨b,2,none⟩ z2).setCell ⟨b,3,none⟩ z3):=(((h.setCell hb _).setCell hb _).setCell hb _).setCell hb _
theorem zdy {w:World} {b base e s n:Nat} {v:Value} {xs:List Value} (h:w.ownsRow base e s v n xs) (hv:v.ownBlock≠some b) (z0 z1 z2 z3:Value):((((w.setCell ⟨b,0,none⟩ z0).setCell ⟨b,1,none⟩ z1).setCell ⟨b,2,none⟩ z2).setCell ⟨b,3,none⟩ z3).ownsRow base e s v n xs :=
 ownsRow_setCell_other (ownsRow_setCell_other (ownsRow_setCell_other (ownsRow_setCell_other h hv _) hv _) hv _) hv _
theorem zta (ix:Int) (c:Option Addr) (n2 cap2:Nat) (a:Option Addr) (cp:Nat) (l:List za) (w:World) (hl:l.length≤1048576) (hm:∀ p∈l,p.1.length≤1048576∧p.2.length≤1048576) (hs:IsPairs w a l) (hT:Tab w) :
 Calls Tryz.prog 29 #[.int .i64 ix,.slice c n2 cap2,.slice a l.length cp] w fun e w'=>match zr l with
  | false=>e=.returned (.tuple #[.agg #[.int .i64 0,.string ⟨#[]⟩,.slice none 0 0,.slice none 0 0],.bool false])∧Below w.heap.size w w'
  | true=>∃ (a':Option Addr) (c':Nat),e=.returned (.tuple #[.agg #[.int .i64 ix,.string ⟨(zae l).toArray⟩,.slice a' (zy l).length c',.slice c n2 cap2],.bool true])∧w'.ownsRow w.heap.size 59 2 (.slice a' (zy l).length c') (zy l).length (zb (zy l))∧Below w.heap.size w w':=by
 have B0:Below w.heap.size w (w.alloc (.cells #[.int .i64 0,.string ⟨#[]⟩,.slice none 0 0,.slice none 0 0] 34)):=(Below.refl _ _).alloc (Nat.le_refl _) _
 have HQ:Hid ((w.alloc (.cells #[.int .i64 0,.string ⟨#[]⟩,.slice none 0 0,.slice none 0 0] 34)).heap[w.heap.size]? = some (.cells #[.int .i64 0,.string ⟨#[]⟩,.slice none 0 0,.slice none 0 0] 34 (0,0))):=heap_alloc_new w _
 have K:=zjw a cp l _ hl hm (hs.later B0) (hT.later B0)
 obtain⟨rt,hrt⟩:∃ rt,rt=zae l:=⟨_,rfl⟩
 obtain⟨ns,hns⟩:∃ ns,ns=zy l:=⟨_,rfl⟩
 obtain⟨ok,hok⟩:∃ ok,ok=zr l:=⟨_,rfl⟩
 rw[←hrt,←hns,←hok] at K
 rw[←hrt,←hns,←hok]
 clear hs hm hT hrt hns hok
 cases ok with
 | false =>
   go_enter Tryz.func29,Tryz.ntmps29
   go_wp2_with fail
   refine K.mono ?_
   rintro e w1 ⟨a1,m1,c1,rfl,_,b1⟩
   have B1:=B0.trans (b1.mono B0.size)
   have Q1:Hid (w1.heap[w.heap.size]? = some (.cells #[.int .i64 0,.string ⟨#[]⟩,.slice none 0 0,.slice none 0 0] 34 (0,0))):=(b1.block w.heap.size (by simp)).trans HQ.out
   obtain⟨q0,q1,q2,q3,qf⟩:=zj Q1.out
   have qf0:=qf 0
   have qf1:=qf 1
   have qf2:=qf 2
   have qf3:=qf 3
   clear qf b1 K HQ
   go_wp2
   exact bodyPost_ret (v:=.tuple #[.agg #[.int .i64 0,.string ⟨#[]⟩,.slice none 0 0,.slice none 0 0],.bool false]) (zfx rfl _ _ w.heap.size 34 _ _ rfl (zef (.int .i64 0) (.string ⟨#[]⟩) (.slice none 0 0) (.slice none 0 0) Q1.out) Tryz.underlying34 rfl (by kernel_rfl) (.bool false) rfl) rfl ⟨rfl,zeg B1 (Nat.le_refl _) _ _ _ _⟩
 | true =>
   go_enter Tryz.func29,Tryz.ntmps29
   go_wp2_with fail
   refine K.mono ?_
   rintro e w1 ⟨a1,m1,c1,rfl,o1,b1⟩
   obtain⟨rfl,_,_⟩:=zac o1
   have B1:=B0.trans (b1.mono B0.size)
   have Q1:Hid (w1.heap[w.heap.size]? = some (.cells #[.int .i64 0,.string ⟨#[]⟩,.slice none 0 0,.slice none 0 0] 34 (0,0))):=(b1.block w.heap.size (by simp)).trans HQ.out
   have O1:=zc (o1.mono B0.size)
   have N1:Hid ((Value.slice a1 ns.length c1).ownBlock≠some w.heap.size):=fun e=>by have:=(o1.lt _ e).1;simp at this;omega
   obtain⟨q0,q1,q2,q3,qf⟩:=zj Q1.out
   have qf0:=qf 0
   have qf1:=qf 1
   have qf2:=qf 2
   have qf3:=qf 3
   clear qf b1 K HQ o1
   go_wp2
   exact bodyPost_ret (v:=.tuple #[.agg #[.int .i64 ix,.string ⟨rt.toArray⟩,.slice a1 ns.length c1,.slice c n2 cap2],.bool true]) (zfx rfl _ _ w.heap.size 34 _ _ rfl (zef (.int .i64 ix) (.string ⟨rt.toArray⟩) (.slice a1 ns.length c1) (.slice c n2 cap2) Q1.out) Tryz.underlying34 rfl (by kernel_rfl) (.bool true) rfl) rfl ⟨a1,c1,rfl,zdy O1.out N1.out _ _ _ _,zeg B1 (Nat.le_refl _) _ _ _ _⟩
theorem ztb {l:List za} (hp:za3 l=true):zr l=zah (allL l)∧(zah (allL l)=true→zae l=zcb (allL l)∧zy l=zu (allL l)):=by
 have h:zr l=zah (allL l):=by simp[zr,hp]
 exact⟨h,fun hm=>⟨by rw[zae,h,if_pos hm],by rw[zy,h,if_pos hm]⟩⟩
theorem ztc (ix:Int) (c:Option Addr) (n2 cap2:Nat) (a:Option Addr) (cp:Nat) (l:List za) (w:World) (hp:za3 l=true) (hs:IsPairs w a l) :
 Calls Tryz.prog 51 #[.int .i64 ix,.slice a l.length cp,.slice c n2 cap2] w fun e w'=>match zr l with
  | false=>e=.returned (.tuple #[.agg #[.int .i64 0,.string ⟨#[]⟩,.slice none 0 0,.slice none 0 0],.bool false])∧Below w.heap.size w w'
  | true=>∃ (a':Option Addr) (c':Nat),e=.returned (.tuple #[.agg #[.int .i64 ix,.string ⟨(zae l).toArray⟩,.slice a' (zy l).length c',.slice c n2 cap2],.bool true])∧w'.ownsRow w.heap.size 59 2 (.slice a' (zy l).length c') (zy l).length (zb (zy l))∧Below w.heap.size w w':=by
 have B0:Below w.heap.size w (w.alloc (.cells #[.int .i64 0,.string ⟨#[]⟩,.slice none 0 0,.slice none 0 0] 34)):=(Below.refl _ _).alloc (Nat.le_refl _) _
 have HQ:Hid ((w.alloc (.cells #[.int .i64 0,.string ⟨#[]⟩,.slice none 0 0,.slice none 0 0] 34)).heap[w.heap.size]? = some (.cells #[.int .i64 0,.string ⟨#[]⟩,.slice none 0 0,.slice none 0 0] 34 (0,0))):=heap_alloc_new w _
 have K:=zlc a cp l (w.alloc (.cells #[.int .i64 0,.string ⟨#[]⟩,.slice none 0 0,.slice none 0 0] 34)) (zet l hp) (hs.later B0)
 obtain⟨e1,e2⟩:=ztb hp
 rw[e1]
 cases hm:zah (allL l) with
 | false =>
   rw[hm] at K
   simp only[Bool.false_eq_true,if_false] at K
   clear hs hp e1 e2 hm
   go_enter Tryz.func51,Tryz.ntmps51
   go_wp2_with fail
   refine K.mono ?_
   rintro e w1 ⟨a1,m1,c1,rfl,_,b1⟩
   have B1:=B0.trans (b1.mono B0.size)
   have Q1:Hid (w1.heap[w.heap.size]? = some (.cells #[.int .i64 0,.string ⟨#[]⟩,.slice none 0 0,.slice none 0 0] 34 (0,0))):=(b1.block w.heap.size (by simp)).trans HQ.out
   obtain⟨q0,q1,q2,q3,qf⟩:=zj Q1.out
   have qf0:=qf 0
   have qf1:=qf 1
   have qf2:=qf 2
   have qf3:=qf 3
   clear qf b1 K HQ
   go_wp2
   exact bodyPost_ret (v:=.tuple #[.agg #[.int .i64 0,.string ⟨#[]⟩,.slice none 0 0,.slice none 0 0],.bool false]) (zfx rfl _ _ w.heap.size 34 _ _ rfl (zef (.int .i64 0) (.string ⟨#[]⟩) (.slice none 0 0) (.slice none 0 0) Q1.out) Tryz.underlying34 rfl (by kernel_rfl) (.bool false) rfl) rfl ⟨rfl,zeg B1 (Nat.le_refl _) _ _ _ _⟩
 | true =>
   obtain⟨e3,e4⟩:=e2 hm
   rw[hm] at K
   simp only[if_true] at K
   rw[←e3,←e4] at K
   obtain⟨rt,hrt⟩:∃ rt,rt=zae l:=⟨_,rfl⟩
   obtain⟨ns,hns⟩:∃ ns,ns=zy l:=⟨_,rfl⟩
   rw[←hrt,←hns] at K ⊢
   clear hs hp e1 e2 hm e3 e4 hrt hns
   go_enter Tryz.func51,Tryz.ntmps51
   go_wp2_with fail
   refine K.mono ?_
   rintro e w1 ⟨a1,m1,c1,rfl,⟨o1,_⟩,b1⟩
   obtain⟨rfl,_,_⟩:=zac o1
   have B1:=B0.trans (b1.mono B0.size)
   have Q1:Hid (w1.heap[w.heap.size]? = some (.cells #[.int .i64 0,.string ⟨#[]⟩,.slice none 0 0,.slice none 0 0] 34 (0,0))):=(b1.block w.heap.size (by simp)).trans HQ.out
   have O1:=zc (o1.mono B0.size)
   have N1:Hid ((Value.slice a1 ns.length c1).ownBlock≠some w.heap.size):=fun e=>by have:=(o1.lt _ e).1;simp at this;omega
   obtain⟨q0,q1,q2,q3,qf⟩:=zj Q1.out
   have qf0:=qf 0
   have qf1:=qf 1
   have qf2:=qf 2
   have qf3:=qf 3
   clear qf b1 K HQ o1
   go_wp2
   exact bodyPost_ret (v:=.tuple #[.agg #[.int .i64 ix,.string ⟨rt.toArray⟩,.slice a1 ns.length c1,.slice c n2 cap2],.bool true]) (zfx rfl _ _ w.heap.size 34 _ _ rfl (zef (.int .i64 ix) (.string ⟨rt.toArray⟩) (.slice a1 ns.length c1) (.slice c n2 cap2) Q1.out) Tryz.underlying34 rfl (by kernel_rfl) (.bool true) rfl) rfl ⟨a1,c1,rfl,zdy O1.out N1.out _ _ _ _,zeg B1 (Nat.le_refl _) _ _ _ _⟩
theorem ztd {w:World} {a:Option Addr} {ad:Addr} {qs:List zg} (h:IsSess w a qs) (ha:a=some ad):∀ j u,(zl qs)[j]? = some u→w.cell? (ad.add j)=some u:=by
 intro j u hu
 rcases h with rfl | ⟨b,off,h1,h2⟩
 · simp[zl] at hu
 · rw[h1] at ha
   cases ha
   have hj:j<qs.length*2:=by
    have:=(List.getElem?_eq_some_iff.1 hu).1
    rwa [zer] at this
   have hc:=h2 (j / 2) (by omega)
   have hp:=zkz qs (j / 2) (by omega)
   have hm:j % 2=0∨j % 2=1:=by omega
   have hadd:∀ x:Nat,(⟨b,off,none⟩:Addr).add x=⟨b,off+x,none⟩:=fun x=>by
    by_cases e:x=0
    · subst e;simp[Addr.add]
    · simp[Addr.add,e]
   rw[hadd]
   rcases hm with h0 | h0
   · have e:j=j / 2*2:=by omega
     rw[e] at hu ⊢
     rw[hp.1] at hu
     rw[hc.1,hu]
   · have e:j=j / 2*2+1:=by omega
     rw[e] at hu ⊢
     rw[hp.2] at hu
     rw[show off+(j / 2*2+1)=off+j / 2*2+1 by omega,hc.2,hu]
theorem zte (qs:List zg):∀ u∈zl qs,u.oneCell'=true:=by
 induction qs with
 | nil=>simp[zl]
 | cons p l ih=>simpa [zl,Value.oneCell'] using ih
theorem zml {P:Program} {w:World} {ops:Array Oper} {rest:List Oper} {o:Oper} {a:Act} {Q:Exit→Act→World→Prop} (hgd:o.guard=none) (s x:Operand) (t:TypeId)
 (ho:o.op=.call { callee:=.builtin .append,args:=#[s,x],argTypes:=#[t,t] })
 (base:Nat) (e:TypeId) (i:TypeInfo) (z:Value) (bytes:Nat) (ht:P.underlying t=some (.slice e)) (hi:P.info? e=some i) (hz:i.zero=some z)
 (hsize:i.size=2) (hby:i.bytes=bytes) (hzs:z.cells.size=2)
 (v:Value) (n:Nat) (xs:List Value) (hs:a.eval s=v) (hown:w.ownsRow base e 2 v n xs)
 (a2:Option Addr) (qs:List zg) (m c:Nat) (hm:m=qs.length) (hx:a.eval x=.slice a2 m c) (hc:a2=none→c=0) (hp:IsSess w a2 qs)
 (h63:n+m≤maxLen) (hbytes:(n+m)*bytes≤140737488355328) (hbase:base≤w.heap.size)
 (h:∀ v' w',w'.ownsRow base e 2 v' (n+m) (xs ++ zl qs)→w.grownBy w' v.ownBlock→wpList P ops Q rest (a.put o.dst v') w'):wpList P ops Q (o :: rest) a w:=by
 subst hm
 cases a2 with
 | none =>
   have hq:qs=[]:=by
    rcases hp with h | ⟨b,off,h,_⟩
    · exact h
    · cases h
   subst hq
   obtain rfl:=hc rfl
   refine wpList_append_own_none hgd s x t ho base e i 2 ht hi v n xs hs hown hx (h v w ?_ (World.grownBy.refl _ _))
   simpa [zl] using hown
 | some ad=>exact wpList_append_own w hgd s x t ho base e i z 2 bytes ht hi hz hsize hby hzs (by decide) v n xs hs hown ad qs.length c (zl qs) hx (zer qs) (ztd hp rfl) (zte qs) h63 hbytes hbase (fun v' w' h1 h2 _=>h v' w' h1 h2)
def zmm (B:Nat) (w':World) (r:RepL) (v:Value):Prop:=∃ (a1:Option Addr) (m1 c1:Nat) (a2:Option Addr) (m2 c2:Nat),v=.agg #[.int .i64 r.1,.string ⟨r.2.1.toArray⟩,.slice a1 m1 c1,.slice a2 m2 c2] ∧
 w'.ownsRow B 59 2 (.slice a1 m1 c1) r.2.2.1.length (zb r.2.2.1)∧w'.ownsRow B 62 2 (.slice a2 m2 c2) r.2.2.2.length (zl r.2.2.2)∧(∀ q,(Value.slice a1 m1 c1).ownBlock=some q→(Value.slice a2 m2 c2).ownBlock≠some q)
theorem zh0 {w:World} {B e s n:Nat} {v:Value} {xs:List Value} (h:w.ownsRow B e s v n xs):∃ a m c,v=.slice a m c:=by
 rcases h.2 with ⟨h',h0⟩ | ⟨g,cap,cur,h',_⟩
 · exact⟨_,_,_,h'⟩
 · exact⟨_,_,_,h'⟩
theorem ztf (ix:Int) (root:List UInt8) (a:Option Addr) (cap:Nat) (ps:List za) (c:Option Addr) (cap2:Nat) (ss:List zg) (w:World) (hl:ps.length≤1048576) (hs:IsPairs w a ps) (hca:a=none→cap=0) (hl2:ss.length≤1048576) (hs2:IsSess w c ss) (hcc:c=none→cap2=0) :
 Calls Tryz.prog 46 #[.agg #[.int .i64 ix,.string ⟨root.toArray⟩,.slice a ps.length cap,.slice c ss.length cap2]] w fun e w'=>∃ v,e=.returned v∧zmm w.heap.size w' (ix,root,ps,ss) v∧Below w.heap.size w w':=by
 obtain⟨i0,hi0,hz0,hz1,hz2⟩:=info_parts zeq
 obtain⟨j0,hj0,hy0,hy1,hy2⟩:=info_parts zi7
 obtain⟨wa,hwa⟩:∃ wa,wa=(w.alloc (.cells #[.int .i64 ix,.string ⟨root.toArray⟩,.slice a ps.length cap,.slice c ss.length cap2] 34)).alloc (.cells #[.int .i64 0,.string ⟨#[]⟩,.slice none 0 0,.slice none 0 0] 34):=⟨_,rfl⟩
 have B1:Below w.heap.size w wa:=by rw[hwa];exact ((Below.refl _ _).alloc (Nat.le_refl _) _).alloc (by simp) _
 have H1:Hid (wa.heap[w.heap.size]? = some (.cells #[.int .i64 ix,.string ⟨root.toArray⟩,.slice a ps.length cap,.slice c ss.length cap2] 34 (0,0))):=by rw[hwa,Hid,Below.heap_alloc _ _ _ (by simp)];exact heap_alloc_new w _
 have R1:Hid (wa.heap[w.heap.size+1]? = some (.cells #[.int .i64 0,.string ⟨#[]⟩,.slice none 0 0,.slice none 0 0] 34 (0,0))):=by
  rw[hwa,Hid]
  have:=heap_alloc_new (w.alloc (.cells #[.int .i64 ix,.string ⟨root.toArray⟩,.slice a ps.length cap,.slice c ss.length cap2] 34)) (.cells #[.int .i64 0,.string ⟨#[]⟩,.slice none 0 0,.slice none 0 0] 34)
  simpa using this
 have hsz:wa.heap.size=w.heap.size+1+1:=by rw[hwa];simp
 have HS:Hid (∀ W,Below w.heap.size w W→IsPairs W a ps):=fun W hW=>hs.later hW
 have HS2:Hid (∀ W,Below w.heap.size w W→IsSess W c ss):=fun W hW=>hs2.later hW
 have HCA:Hid (a=none→cap=0):=hca
 have HCC:Hid (c=none→cap2=0):=hcc
 have HB1:Hid (Below w.heap.size w wa):=B1
 obtain⟨p0,p1,p2,p3,pf⟩:=zj H1.out
 have pf2:=pf 2
 have pf3:=pf 3
 have HOL:Hid ((wa.alloc (.cells #[] 59)).ownsRow wa.heap.size 59 2 (.slice (some ⟨wa.heap.size,0,none⟩) 0 0) 0 []):=World.ownsRow_lit (e:=59) (size:=2) wa #[] 0 (base:=wa.heap.size) (Nat.le_refl _) (Nat.zero_le _) rfl
 have HBZ:Hid (Below wa.heap.size wa (wa.alloc (.cells #[] 59))):=(Below.refl _ _).alloc (Nat.le_refl _) _
 have HBA:Hid (Below w.heap.size w (wa.alloc (.cells #[] 59))):=B1.alloc (by omega) _
 clear hs hs2 pf hca hcc B1
 rw[hsz] at HOL HBZ
 subst hwa
 clear hsz
 go_enter Tryz.func46,Tryz.ntmps46
 go_wp2_with (first
  | (at_builtin
     have OLX:=OL4
     refine zml rfl _ _ 32 rfl w3.heap.size 62 j0 (.agg #[.int .i64 0,.int .i64 0]) 16 Tryz.underlying32 hj0 hy0 hy1 hy2 rfl (.slice (some ⟨w3.heap.size,0,none⟩) 0 0) 0 [] rfl OL4.out c ss ss.length cap2 rfl rfl HCC.out (HS2.out _ B4.out) (by unfold maxLen;omega) (by omega) (by simp) ?_
     intro v5 w5 o5 g5
     obtain⟨a5,m5,c5,rfl⟩:=zh0 o5
     have b5:Below w3.heap.size (w3.setCell ⟨w.heap.size,2,none⟩ (.slice a3 m3 c3)) w5:=((Below.refl _ _).alloc (by simp) (.cells #[] 62)).grown g5 (by simp) (fun q hq=>by simp[Value.ownBlock] at hq;omega)
     have s5:w3.heap.size≤w5.heap.size:=by have:=b5.size;simpa using this
     have B5:Hid (Below w.heap.size w w5):=(B3.out.setCell (Nat.le_refl _) _).trans (b5.mono (by omega))
     have O5:Hid (w5.ownsRow w3.heap.size 62 2 (.slice a5 m5 c5) ss.length (zl ss)):=by have:=o5;rwa [Nat.zero_add,List.nil_append] at this
     have OW4:(w3.setCell ⟨w.heap.size,2,none⟩ (.slice a3 m3 c3)).ownsRow (w.heap.size+1+1) 59 2 (.slice a3 m3 c3) ps.length (zb ps):=ownsRow_setCell_other (a:=⟨w.heap.size,2,none⟩) O3.out (fun e=>absurd (O3.out.lt w.heap.size e).1 (by omega)) _
     have hz4:(w3.setCell ⟨w.heap.size,2,none⟩ (.slice a3 m3 c3)).heap.size=w3.heap.size:=by simp
     have O35:Hid (w5.ownsRow (w.heap.size+1+1) 59 2 (.slice a3 m3 c3) ps.length (zb ps)):=zaj OW4 (by rw[hz4];exact b5)
     have NE:Hid (∀ q,(Value.slice a3 m3 c3).ownBlock=some q→(Value.slice a5 m5 c5).ownBlock≠some q):=fun q h1 h2=>absurd (O3.out.lt q h1).2 (by have:=(O5.out.lt q h2).1;omega)
     have H5:Hid (w5.heap[w.heap.size]? = some (.cells #[.int .i64 ix,.string ⟨root.toArray⟩,.slice a3 m3 c3,.slice c ss.length cap2] 34 (0,0))):=(b5.block w.heap.size (by omega)).trans H4.out
     have R5:Hid (w5.heap[w.heap.size+1]? = some (.cells #[.int .i64 0,.string ⟨#[]⟩,.slice none 0 0,.slice none 0 0] 34 (0,0))):=(b5.block (w.heap.size+1) (by omega)).trans R4.out
     have H6:Hid ((w5.setCell ⟨w.heap.size,3,none⟩ (.slice a5 m5 c5)).heap[w.heap.size]? = some (.cells #[.int .i64 ix,.string ⟨root.toArray⟩,.slice a3 m3 c3,.slice a5 m5 c5] 34 (0,0))):=zc4 (j:=3) H5.out
     have R6:Hid ((w5.setCell ⟨w.heap.size,3,none⟩ (.slice a5 m5 c5)).heap[w.heap.size+1]? = some (.cells #[.int .i64 0,.string ⟨#[]⟩,.slice none 0 0,.slice none 0 0] 34 (0,0))):=(Below.heap_setCell w5 ⟨w.heap.size,3,none⟩ (.slice a5 m5 c5) (w.heap.size+1) (by simp)).trans R5.out
     clear p0 p1 p2 p3 pf2 pf3 q0 q1 q2 q3 qf2 qf3 t0 t1 t2 t3 tf2 tf3
     obtain⟨p0,p1,p2,p3,pf⟩:=zj H5.out
     have pf2:=pf 2
     have pf3:=pf 3
     clear pf
     obtain⟨q0,q1,q2,q3,qf⟩:=zj H6.out
     clear qf
     obtain⟨r0,r1,r2,r3,rf⟩:=zj R6.out
     have rf0:=rf 0
     have rf1:=rf 1
     have rf2:=rf 2
     have rf3:=rf 3
     clear rf
     clear o5 g5 b5 OLX OW4 hz4)
  | (at_builtin
     refine zj6 rfl _ _ 31 rfl (w.heap.size+1+1) 59 i0 (.agg #[.string ⟨#[]⟩,.string ⟨#[]⟩]) 32 Tryz.underlying31 hi0 hz0 hz1 hz2 rfl (.slice (some ⟨w.heap.size+1+1,0,none⟩) 0 0) 0 [] rfl HOL.out a ps ps.length cap rfl rfl HCA.out (HS.out _ HBA.out) (by unfold maxLen;omega) (by omega) (by simp) ?_
     intro v3 w3 o3 g3
     obtain⟨a3,m3,c3,rfl⟩:=zh0 o3
     have b3:Below (w.heap.size+1+1) ((w.alloc (.cells #[.int .i64 ix,.string ⟨root.toArray⟩,.slice a ps.length cap,.slice c ss.length cap2] 34)).alloc (.cells #[.int .i64 0,.string ⟨#[]⟩,.slice none 0 0,.slice none 0 0] 34)) w3:=HBZ.out.grown g3 (by simp) (fun q hq=>by simp[Value.ownBlock] at hq;omega)
     have s3:w.heap.size+1+1≤w3.heap.size:=by have:=b3.size;simpa using this
     have B3:Hid (Below w.heap.size w w3):=HB1.out.trans (b3.mono (by omega))
     have O3:Hid (w3.ownsRow (w.heap.size+1+1) 59 2 (.slice a3 m3 c3) ps.length (zb ps)):=by have:=o3;rwa [Nat.zero_add,List.nil_append] at this
     have H3:Hid (w3.heap[w.heap.size]? = some (.cells #[.int .i64 ix,.string ⟨root.toArray⟩,.slice a ps.length cap,.slice c ss.length cap2] 34 (0,0))):=(b3.block w.heap.size (by omega)).trans H1.out
     have R3:Hid (w3.heap[w.heap.size+1]? = some (.cells #[.int .i64 0,.string ⟨#[]⟩,.slice none 0 0,.slice none 0 0] 34 (0,0))):=(b3.block (w.heap.size+1) (by omega)).trans R1.out
     have H4:Hid ((w3.setCell ⟨w.heap.size,2,none⟩ (.slice a3 m3 c3)).heap[w.heap.size]? = some (.cells #[.int .i64 ix,.string ⟨root.toArray⟩,.slice a3 m3 c3,.slice c ss.length cap2] 34 (0,0))):=zc4 (j:=2) H3.out
     have R4:Hid ((w3.setCell ⟨w.heap.size,2,none⟩ (.slice a3 m3 c3)).heap[w.heap.size+1]? = some (.cells #[.int .i64 0,.string ⟨#[]⟩,.slice none 0 0,.slice none 0 0] 34 (0,0))):=(Below.heap_setCell w3 ⟨w.heap.size,2,none⟩ (.slice a3 m3 c3) (w.heap.size+1) (by simp)).trans R3.out
     clear p0 p1 p2 p3 pf2 pf3
     obtain⟨p0,p1,p2,p3,pf⟩:=zj H3.out
     have pf2:=pf 2
     have pf3:=pf 3
     clear pf
     obtain⟨q0,q1,q2,q3,qf⟩:=zj H4.out
     have qf2:=qf 2
     have qf3:=qf 3
     clear qf
     have H7:Hid (((w3.setCell ⟨w.heap.size,2,none⟩ (.slice a3 m3 c3)).alloc (.cells #[] 62)).heap[w.heap.size]? = some (.cells #[.int .i64 ix,.string ⟨root.toArray⟩,.slice a3 m3 c3,.slice c ss.length cap2] 34 (0,0))):=(Below.heap_alloc _ _ _ (lt_of_block H4.out)).trans H4.out
     obtain⟨t0,t1,t2,t3,tf⟩:=zj H7.out
     have tf2:=tf 2
     have tf3:=tf 3
     clear tf
     have B4:Hid (Below w.heap.size w ((w3.setCell ⟨w.heap.size,2,none⟩ (.slice a3 m3 c3)).alloc (.cells #[] 62))):=(B3.out.setCell (Nat.le_refl _) _).alloc (by simp <;> omega) _
     have OL4:Hid (((w3.setCell ⟨w.heap.size,2,none⟩ (.slice a3 m3 c3)).alloc (.cells #[] 62)).ownsRow w3.heap.size 62 2 (.slice (some ⟨w3.heap.size,0,none⟩) 0 0) 0 []):=by have:=World.ownsRow_lit (e:=62) (size:=2) (w3.setCell ⟨w.heap.size,2,none⟩ (.slice a3 m3 c3)) #[] 0 (base:=(w3.setCell ⟨w.heap.size,2,none⟩ (.slice a3 m3 c3)).heap.size) (Nat.le_refl _) (Nat.zero_le _) rfl;rw[Hid];simpa using this
     clear o3 g3 b3))
 have W6:Hid (Below w.heap.size w (w5.setCell ⟨w.heap.size,3,none⟩ (.slice a5 m5 c5))):=B5.out.setCell (Nat.le_refl _) _
 have P1:(w5.setCell ⟨w.heap.size,3,none⟩ (.slice a5 m5 c5)).ownsRow w.heap.size 59 2 (.slice a3 m3 c3) ps.length (zb ps):=(ownsRow_setCell_other (a:=⟨w.heap.size,3,none⟩) O35.out (fun e=>absurd (O35.out.lt w.heap.size e).1 (by omega)) _).mono (by omega)
 have P2:(w5.setCell ⟨w.heap.size,3,none⟩ (.slice a5 m5 c5)).ownsRow w.heap.size 62 2 (.slice a5 m5 c5) ss.length (zl ss):=(ownsRow_setCell_other (a:=⟨w.heap.size,3,none⟩) O5.out (fun e=>absurd (O5.out.lt w.heap.size e).1 (by omega)) _).mono (by omega)
 have N1:(Value.slice a3 m3 c3).ownBlock≠some (w.heap.size+1):=fun e=>absurd (O35.out.lt _ e).1 (by omega)
 have N2:(Value.slice a5 m5 c5).ownBlock≠some (w.heap.size+1):=fun e=>absurd (O5.out.lt _ e).1 (by omega)
 exact bodyPost_ret (v:=.agg #[.int .i64 ix,.string ⟨root.toArray⟩,.slice a3 m3 c3,.slice a5 m5 c5]) (results_cell_row rfl _ _ (w.heap.size+1) 34 _ (0,0) _ rfl (zef (.int .i64 ix) (.string ⟨root.toArray⟩) (.slice a3 m3 c3) (.slice a5 m5 c5) R6.out) Tryz.underlying34 rfl (by kernel_rfl)) rfl ⟨_,rfl,⟨a3,m3,c3,a5,m5,c5,rfl,zdy P1 N1 _ _ _ _,zdy P2 N2 _ _ _ _,NE.out⟩,zeg W6.out (by omega) _ _ _ _⟩
def apR (r:RepL) (ix c n:Int) (os:List OpL):RepL × Int:=match repR r.1 r.2.1 r.2.2.1 r.2.2.2 with
 | none=>(zj9,1)
 | some l => if zab c n os = false then (r, 2) else if ¬ (ix = r.1 + 1 ∧ ix ≤ 1000000000000) then (r, 4) else if n ≤ zbr r.2.2.2 c then ((ix, r.2), 3)
   else if zbk l c n os=true∧zr (zat l c n os)=true∧(insZ c n r.2.2.2).length≤6 then ((ix,zae (zat l c n os),zy (zat l c n os),insZ c n r.2.2.2),0) else ((ix,r.2),5)
theorem zja {r:RepL} {ix c n:Int} {os:List OpL} (h:repR r.1 r.2.1 r.2.2.1 r.2.2.2=none):apR r ix c n os=(zj9,1):=by unfold apR;rw[h]
theorem zmn {r:RepL} {ix c n:Int} {os:List OpL} {l:List za} (h:repR r.1 r.2.1 r.2.2.1 r.2.2.2=some l) (hb:zab c n os=false):apR r ix c n os=(r,2):=by
 unfold apR;rw[h];simp[hb]
theorem zmo {r:RepL} {ix c n:Int} {os:List OpL} {l:List za} (h:repR r.1 r.2.1 r.2.2.1 r.2.2.2=some l) (hb:zab c n os=true) (hi:¬ (ix=r.1+1∧ix≤1000000000000)):apR r ix c n os=(r,4):=by
 unfold apR;rw[h];simp[hb,hi]
theorem zmp {r:RepL} {ix c n:Int} {os:List OpL} {l:List za} (h:repR r.1 r.2.1 r.2.2.1 r.2.2.2=some l) (hb:zab c n os=true) (hi:ix=r.1+1∧ix≤1000000000000) (ho:n≤zbr r.2.2.2 c):apR r ix c n os=((ix,r.2),3):=by
 unfold apR;rw[h]
 dsimp only
 rw[if_neg (by rw[hb];simp),if_neg (fun e=>e hi),if_pos ho]
theorem zmq {r:RepL} {ix c n:Int} {os:List OpL} {l:List za} (h:repR r.1 r.2.1 r.2.2.1 r.2.2.2=some l) (hb:zab c n os=true) (hi:ix=r.1+1∧ix≤1000000000000) (ho:¬ n≤zbr r.2.2.2 c) :
 apR r ix c n os=if zbk l c n os=true∧zr (zat l c n os)=true∧(insZ c n r.2.2.2).length≤6 then ((ix,zae (zat l c n os),zy (zat l c n os),insZ c n r.2.2.2),0) else ((ix,r.2),5):=by
 unfold apR;rw[h]
 dsimp only
 rw[if_neg (by rw[hb];simp),if_neg (fun e=>e hi),if_neg ho]
theorem zmr (l:List za) (c n:Int) (os:List OpL):za3 (zat l c n os)=true:=by
 cases h:zbk l c n os with
 | false=>rw[zj4 h];rfl
 | true =>
   rw[zj5 h]
   have h':(za3 l && (zab c n os && za3 (zal l os)))=true:=h
   simp only[Bool.and_eq_true] at h'
   exact h'.2.2
def zf4 (w:World) (r:RepL × Int) (e:Ending) (w':World):Prop:=∃ v,e=.returned (.tuple #[v,.int .i64 r.2])∧zmm w.heap.size w' r.1 v∧Below w.heap.size w w'
theorem zbl {b1 b2 e1 e2 n1 n2 p0 p1 p2 p3:Nat} {v1 v2:Value} {l1 l2:List Value} {w W W':World} {x0 x1 x2 x3} (r0:Hid (W.heap[p0]? = some x0)) (r1:Hid (W.heap[p1]? = some x1)) (r2:Hid (W.heap[p2]? = some x2)) (r3:Hid (W.heap[p3]? = some x3)) (o1:Hid (W.ownsRow b1 e1 2 v1 n1 l1)) (o2:Hid (W.ownsRow b2 e2 2 v2 n2 l2)) (b:Hid (Below w.heap.size w W)) (g:Below W.heap.size W W') :
 Hid (W'.heap[p0]? = some x0)∧Hid (W'.heap[p1]? = some x1)∧Hid (W'.heap[p2]? = some x2)∧Hid (W'.heap[p3]? = some x3)∧Hid (W'.ownsRow b1 e1 2 v1 n1 l1)∧Hid (W'.ownsRow b2 e2 2 v2 n2 l2)∧Hid (Below w.heap.size w W') :=
 have k {p x} (r:W.heap[p]? = some x):W'.heap[p]? = some x:=(g.block _ (lt_of_block r)).trans r
 ⟨k r0.out,k r1.out,k r2.out,k r3.out,zaj o1.out g,zaj o2.out g,b.out.trans (g.mono b.out.size)⟩
theorem zbm {fn:Func} {a:Act} {p r:Tmp} {w W:World} {rr:RepL × Int} {z B:Nat} {u v x y:Value} {ix code:Int} {root:List UInt8} {ps:List za} {ss:List zg} {a1 a2:Option Addr} {m1 c1 m2 c2:Nat}
 (hrr:rr=((ix,root,ps,ss),code)) (h:fn.results=#[.cell p 34,.tmp r]) (hp:a.tmps.getD p undef=.pointer (some ⟨z,0,none⟩)) (hb:a.tmps.getD r undef=.int .i64 code) (hd:a.defers=[])
 (hz:W.heap[z]? = some (.cells #[u,v,x,y] 34 (0,0))) (o1:W.ownsRow B 59 2 (.slice a1 m1 c1) ps.length (zb ps)) (o2:W.ownsRow B 62 2 (.slice a2 m2 c2) ss.length (zl ss)) (hB:w.heap.size≤z∧z<B)
 (ne:∀ q,(Value.slice a1 m1 c1).ownBlock=some q→(Value.slice a2 m2 c2).ownBlock≠some q) (b:Below w.heap.size w W) :
 bodyPost Tryz.prog fn (fun e w'=>zf4 w rr e w') .ret a ((((W.setCell ⟨z,0,none⟩ (.int .i64 ix)).setCell ⟨z,1,none⟩ (.string ⟨root.toArray⟩)).setCell ⟨z,2,none⟩ (.slice a1 m1 c1)).setCell ⟨z,3,none⟩ (.slice a2 m2 c2)):=by
 subst hrr
 have own:∀ {e n:Nat} {v:Value} {l:List Value},W.ownsRow B e 2 v n l→v.ownBlock≠some z:=fun o e=>absurd (o.lt _ e).1 (by omega)
 exact bodyPost_ret (v:=.tuple #[.agg #[.int .i64 ix,.string ⟨root.toArray⟩,.slice a1 m1 c1,.slice a2 m2 c2],.int .i64 code]) (zfx h _ _ z 34 _ _ hp (zef _ _ _ _ hz) Tryz.underlying34 rfl (by kernel_rfl) (.int .i64 code) hb) hd ⟨_,rfl,⟨a1,m1,c1,a2,m2,c2,rfl,zdy (o1.mono (by omega)) (own o1) _ _ _ _,zdy (o2.mono (by omega)) (own o2) _ _ _ _,ne⟩,zeg b hB.1 _ _ _ _⟩
theorem zms {ss:List zg} (h:zav ss=true):ss.length≤6∧zcd ss∧∀ p∈ss,(1≤p.1∧p.1≤1000000000000)∧1≤p.2∧p.2≤1000000000000:=by
 simp only[zav,Bool.and_eq_true,decide_eq_true_eq,List.all_eq_true,List.mem_range] at h
 obtain⟨h6,ha⟩:=h
 have hs:∀ j (hj:j+1<ss.length),ss[j].1<ss[j+1].1:=fun j hj=>by
  have:=ha (j+1) hj
  unfold seOk at this
  simp only[Bool.and_eq_true,Bool.or_eq_true,decide_eq_true_eq,Nat.add_sub_cancel] at this
  rw[zgp ss j (by omega),zgp ss (j+1) hj] at this
  rcases this.2 with h | h
  · omega
  · exact h
 refine⟨h6,?_,fun p hp=>?_⟩
 · refine List.pairwise_iff_getElem.2 fun i j hi hj hij=>?_
   have:∀ k (hk:i+1+k<ss.length),ss[i].1<ss[i+1+k].1:=fun k=>by
    induction k with
    | zero=>exact fun hk=>hs i hk
    | succ k ih=>exact fun hk=>Int.lt_trans (ih (by omega)) (hs (i+1+k) hk)
   have:=this (j - (i+1)) (by omega)
   simpa [show i+1+(j - (i+1))=j by omega] using this
 · obtain⟨j,hj,rfl⟩:=List.mem_iff_getElem.1 hp
   have:=ha j hj
   unfold seOk at this
   simp only[Bool.and_eq_true] at this
   rw[zgp ss j hj] at this
   have h1:=this.1.1
   have h2:=this.1.2
   simp only[za4,decide_eq_true_eq] at h1 h2
   exact⟨h1,h2⟩
theorem ztg (b off cap:Nat) (ks:List zg) (w:World) (hl:ks.length≤1048576) (hs:IsSess w (some ⟨b,off,none⟩) ks) :
 Calls Tryz.prog 25 #[.slice (some ⟨b,off,none⟩) ks.length cap] w fun e w'=>∃ (a:Option Addr) (c:Nat),e=.returned (.slice a ks.length c)∧w'.ownsRow w.heap.size 62 2 (.slice a ks.length c) ks.length (zl ks)∧Below w.heap.size w w':=by
 obtain⟨i0,hi0,hz0,hz1,hz2⟩:=info_parts zi7
 have B0:Below w.heap.size w (w.alloc (.cells #[] 62)):=(Below.refl _ _).alloc (Nat.le_refl _) _
 have HB0:Hid (Below w.heap.size w (w.alloc (.cells #[] 62))):=B0
 have HO0:=zc (World.ownsRow_lit (e:=62) (size:=2) w #[] 0 (base:=w.heap.size) (Nat.le_refl _) (Nat.zero_le _) rfl)
 have HI0:Hid (IsSess (w.alloc (.cells #[] 62)) (some ⟨b,off,none⟩) ks):=hs.later B0
 have hnil:∀ W,(binOp .eql 32 (.slice (some ⟨b,off,none⟩) ks.length cap) (.slice none 0 0)).run Tryz.prog W=.ok (.bool false) W:=fun W=>by first | rfl | (simp[binOp,Op.equal,run_underlying Tryz.underlying32])
 clear hs B0
 go_enter Tryz.func25,Tryz.ntmps25
 go_wp2_with (first
  | (at_builtin; refine zml rfl _ _ 32 rfl w.heap.size 62 i0 (.agg #[.int .i64 0, .int .i64 0]) 16 Tryz.underlying32 hi0 hz0 hz1 hz2 rfl (.slice (some ⟨w.heap.size, 0, none⟩) 0 0) 0 [] rfl HO0.out (some ⟨b, off, none⟩) ks ks.length cap rfl rfl (by simp) HI0.out (by unfold maxLen; omega) (by omega) (by simp) ?_; intro v3 w3 o3 g3; obtain ⟨a3, m3, c3, rfl⟩ := zh0 o3
     have O3:Hid (w3.ownsRow w.heap.size 62 2 (.slice a3 m3 c3) ks.length (zl ks)):=(by rw[Hid];simpa using o3)
     have B3:Hid (Below w.heap.size w w3):=HB0.out.grown g3 HB0.out.size (fun q hq=>(HO0.out.lt q hq).1)
     clear o3 g3))
 obtain⟨hm3,_,_⟩:=zcl O3.out
 subst hm3
 first | go_ret | (go_wp2;go_ret)
 exact⟨a3,c3,rfl,O3.out,B3.out⟩
theorem zth (b off cap:Nat) (ks:List za) (w:World) (hl:ks.length≤1048576) (hs:IsPairs w (some ⟨b,off,none⟩) ks) :
 Calls Tryz.prog 24 #[.slice (some ⟨b,off,none⟩) ks.length cap] w fun e w'=>∃ (a:Option Addr) (c:Nat),e=.returned (.slice a ks.length c)∧w'.ownsRow w.heap.size 59 2 (.slice a ks.length c) ks.length (zb ks)∧Below w.heap.size w w':=by
 obtain⟨i0,hi0,hz0,hz1,hz2⟩:=info_parts zeq
 have B0:Below w.heap.size w (w.alloc (.cells #[] 59)):=(Below.refl _ _).alloc (Nat.le_refl _) _
 have HB0:Hid (Below w.heap.size w (w.alloc (.cells #[] 59))):=B0
 have HO0:=zc (World.ownsRow_lit (e:=59) (size:=2) w #[] 0 (base:=w.heap.size) (Nat.le_refl _) (Nat.zero_le _) rfl)
 have HI0:Hid (IsPairs (w.alloc (.cells #[] 59)) (some ⟨b,off,none⟩) ks):=hs.later B0
 have hnil:∀ W,(binOp .eql 31 (.slice (some ⟨b,off,none⟩) ks.length cap) (.slice none 0 0)).run Tryz.prog W=.ok (.bool false) W:=fun W=>by first | rfl | (simp[binOp,Op.equal,run_underlying Tryz.underlying31])
 clear hs B0
 go_enter Tryz.func24,Tryz.ntmps24
 go_wp2_with (first
  | (at_builtin; refine zj6 rfl _ _ 31 rfl w.heap.size 59 i0 (.agg #[.string ⟨#[]⟩, .string ⟨#[]⟩]) 32 Tryz.underlying31 hi0 hz0 hz1 hz2 rfl (.slice (some ⟨w.heap.size, 0, none⟩) 0 0) 0 [] rfl HO0.out (some ⟨b, off, none⟩) ks ks.length cap rfl rfl (by simp) HI0.out (by unfold maxLen; omega) (by omega) (by simp) ?_; intro v3 w3 o3 g3; obtain ⟨a3, m3, c3, rfl⟩ := zh0 o3
     have O3:Hid (w3.ownsRow w.heap.size 59 2 (.slice a3 m3 c3) ks.length (zb ks)):=(by rw[Hid];simpa using o3)
     have B3:Hid (Below w.heap.size w w3):=HB0.out.grown g3 HB0.out.size (fun q hq=>(HO0.out.lt q hq).1)
     clear o3 g3))
 obtain⟨hm3,_,_⟩:=zac O3.out
 subst hm3
 first | go_ret | (go_wp2;go_ret)
 exact⟨a3,c3,rfl,O3.out,B3.out⟩
end Go.Proofs.YtppljdnbhoeeoaaGreatDoor
