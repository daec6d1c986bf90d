/-
 Texts that are laid as one: SStr, Strs.
-/
import Derived.Test.YtllmclmcncolcaaGreatDoorMath2
import Derived.Test.YtllmclmcncolcaaGreatDoorMathAll
import Derived.Deep.QuietTactic
import Derived.BigQuiet
namespace Go.Proofs.YtllmclmcncolcaaGreatDoor
open Go.RowKit
set_option linter.unusedVariables false
theorem info9a:(Tryz.prog.info? 9).map (fun i=>(i.zero,i.size,i.bytes))=some (some (.string ⟨#[]⟩),1,16):=by kernel_rfl
def IsStrs (w:World) (a:Option Addr) (ls:List (List UInt8)):Prop :=
 ls=[]∨∃ b off,a=some ⟨b,off,none⟩∧∀ j (h:j<ls.length),w.cell? ⟨b,off+j,none⟩=some (.string ⟨ls[j].toArray⟩)
set_option maxRecDepth 100000 in
set_option maxHeartbeats 400000 in
theorem szS_any (a : Option Addr) (cap : Nat) (ls : List (List UInt8)) (w : World) (hl : ls.length ≤ 9223372036854775807) (hm : ∀ l ∈ ls, l.length ≤ 9223372036854775807) (hs : IsStrs w a ls) :
 Calls Tryz.prog 6 #[.slice a ls.length cap,.int .i64 1048576] w fun e w'=>(e=.returned (.int .i64 (-1))∨(ls.length+ls.flatten.length≤1048576∧∃ n:Nat,e=.returned (.int .i64 (n:Int))))∧w'=w:=by
 by_cases hb:ls.length≤1048576
 · rcases hs with rfl | ⟨b, off, rfl, hc⟩
   · go_enter Tryz.func6,Tryz.ntmps6
     go_wp2
     refine wp_loop_rounds 1 ?_
     rw[rounds_succ]
     go_wp2
     go_ret
     exact⟨.inr ⟨by simp,1048576,rfl⟩,rfl⟩
   · have hm' : ∀ j (h : j < ls.length), ls[j].length ≤ 9223372036854775807 := fun j h => hm _ (List.getElem_mem _)
     clear hm
     go_enter Tryz.func6,Tryz.ntmps6
     go_wp2
     go_loop [1,5] (fun v i=>∃ j q:Nat,j≤ls.length∧i=.int .i64 (j:Int)∧v=.int .i64 (q:Int)∧q+ls.length+(ls.take j).flatten.length=1048576) (fun _ i=>ls.length - (intOf i).toNat)
     case atStart=>exact⟨0,1048576 - ls.length,Nat.zero_le _,rfl,by simp;omega,by simp;omega⟩
     case round =>
      obtain⟨j,q,hj,rfl,rfl,hq⟩:=hrel
      by_cases hlt:j<ls.length
      · have c1:=hc j hlt
        have m1:=hm' j hlt
        have HS:Hid ((ls.take (j+1)).flatten.length=(ls.take j).flatten.length+ls[j].length):=by rw[Hid,flat_snoc ls j hlt,List.length_append]
        have hj0:(0:Int)≤(j:Int):=by omega
        have hj1:(j:Int)<(ls.length:Int):=by omega
        have hqs:q≤1048576:=by omega
        have HQ:Hid (q+ls.length+(ls.take j).flatten.length=1048576):=hq
        obtain⟨x,hx⟩:∃ x,x=ls[j]:=⟨_,rfl⟩
        rw[←hx] at c1 m1 HS
        clear hc hm' hx hq
        by_cases hle:x.length≤q
        · have hle':(x.length:Int)≤(q:Int):=by omega
          go_wp2
          go_round
          case rel=>exact⟨j+1,q - x.length,by omega,by go_num,by go_num,by have:=HS.out;have:=HQ.out;omega⟩
          case measure=>simp[intOf];omega
        · have hle':¬ (x.length:Int)≤(q:Int):=by omega
          go_wp2
          go_ret
          exact⟨.inl rfl,rfl⟩
      · have hjl:j=ls.length:=by omega
        subst hjl
        have HQ:Hid (ls.length+ls.flatten.length≤1048576):=by rw[Hid];rw[List.take_length] at hq;omega
        clear hq
        go_wp2
        go_ret
        exact⟨.inr ⟨by simpa using HQ.out,q,rfl⟩,rfl⟩
 · have hb':¬ (ls.length:Int)≤1048576:=by omega
   clear hs hm
   go_enter Tryz.func6,Tryz.ntmps6
   go_wp2
   go_ret
   exact⟨.inl rfl,rfl⟩
set_option maxRecDepth 100000 in
set_option maxHeartbeats 400000 in
theorem toS_any (a:Option Addr) (cap:Nat) (ls:List (List UInt8)) (w:World) (hl:ls.length≤1048576) (hs:IsStrs w a ls) :
 Calls Tryz.prog 10 #[.slice a ls.length cap] w fun e w'=>e=.returned (.slice (some ⟨w.heap.size,0,none⟩) ls.length ls.length)∧w'.ownsRow w.heap.size 9 1 (.slice (some ⟨w.heap.size,0,none⟩) ls.length ls.length) ls.length (scells ls)∧Below w.heap.size w w':=by
 obtain⟨i0,hi0,hz0,hz1,hz2⟩:=info_parts info9a
 go_enter Tryz.func10,Tryz.ntmps10
 go_wp2_with (at_make;refine wpList_make_full _ rfl _ _ 22 rfl w.heap.size 9 i0 (.string ⟨#[]⟩) 1 Tryz.underlying22 hi0 hz0 hz1 _ _ _ _ ls.length rfl rfl (by omega) (by omega) (by rw[hz2];omega) (by unfold maxLen;omega) (Nat.le_refl _) ?_;intro w0 hown0 hgrow0)
 rw[show (Value.string ⟨#[]⟩).cells=#[.string ⟨#[]⟩] from rfl,Nat.mul_one,toList_madeCells_one] at hown0
 have hb0:=(Below.refl w.heap.size w).grown hgrow0 (Nat.le_refl _) (by simp)
 have hs0:=hgrow0.size
 rcases hs with rfl | ⟨b,off,rfl,hc⟩
 · refine wp_loop_rounds 1 ?_
   rw[rounds_succ]
   go_wp2
   go_ret
   exact⟨rfl,hown0,hb0⟩
 · clear hgrow0
   go_loopw [4] (fun i wr=>∃ j:Nat,j≤ls.length∧i=.int .i64 (j:Int)∧wr.ownsRow w.heap.size 9 1 (.slice (some ⟨w.heap.size,0,none⟩) ls.length ls.length) ls.length (laid ls j)∧Below w.heap.size w wr) (fun i _=>ls.length - (intOf i).toNat)
   case atStart=>exact⟨0,Nat.zero_le _,rfl,by simpa [laid,scells] using hown0,hb0⟩
   case round =>
    obtain⟨j,hj,rfl,hown,hbel⟩:=hrel
    by_cases hlt:j<ls.length
    · have hbl:=World.block_lt_of_cell? w _ (hc j hlt)
      have c1:=(hbel.cell (p:=⟨b,off+j,none⟩) hbl).trans (hc j hlt)
      have hc1:∃ o,wr.cell? ⟨w.heap.size,j,none⟩=some o:=by
       rw[hown.cellAt j (by omega)]
       exact⟨_,List.getElem?_eq_getElem (by rw[laid_length ls j (by omega)];exact hlt)⟩
      obtain⟨o,hc1⟩:=hc1
      have hf1:=hown.frozenAt j
      have hst:=(hown.stored j (.string ⟨ls[j].toArray⟩)).1
      rw[laid_step ls j hlt] at hst
      have hbel2:=hbel.setCell (p:=⟨w.heap.size,j,none⟩) (Nat.le_refl _) (.string ⟨ls[j].toArray⟩)
      have hj0:(0:Int)≤(j:Int):=by omega
      have hj1:(j:Int)<(ls.length:Int):=by omega
      obtain⟨x,hx⟩:∃ x,x=ls[j]:=⟨_,rfl⟩
      rw[←hx] at c1 hst hbel2
      clear hc hx hown hbel hown0 hb0
      go_wp2
      go_roundw
      case rel=>exact⟨j+1,by omega,by go_num,hst,hbel2⟩
      case measure=>simp[intOf];omega
    · have hjl:j=ls.length:=by omega
      subst hjl
      rw[laid_all] at hown
      clear hown0 hb0
      go_wp2
      go_ret
      exact⟨rfl,hown,hbel⟩
set_option maxRecDepth 100000 in
set_option maxHeartbeats 400000 in
theorem eqS_same (ls : List (List UInt8)) (u v : Value) (b1 b2 : Nat) (w : World) (hl : ls.length ≤ 16777216) (hu : w.ownsRow b1 9 1 u ls.length (scells ls)) (hv : w.ownsRow b2 9 1 v ls.length (scells ls)) :
 Calls Tryz.prog 14 #[u,v] w fun e w'=>e=.returned (.bool true)∧∃ q,w'=w.drewN q:=by
 rcases own_cases hu with ⟨rfl,hn,hx⟩ | ⟨g,cap,rfl,hg1,hg2,hc,hf⟩
 · rcases own_cases hv with ⟨rfl,_,_⟩ | ⟨g',cap',rfl,hg1',hg2',hc',hf'⟩
   · go_enter Tryz.func14,Tryz.ntmps14
     go_wp2
     refine wp_loop_rounds 1 ?_
     rw[rounds_succ]
     go_wp2
     go_ret
     exact⟨rfl,0,rfl⟩
   · rw[hn]
     go_enter Tryz.func14,Tryz.ntmps14
     go_wp2
     refine wp_loop_rounds 1 ?_
     rw[rounds_succ]
     go_wp2
     go_ret
     exact⟨rfl,0,rfl⟩
 · rcases own_cases hv with ⟨rfl,hn,_⟩ | ⟨g',cap',rfl,hg1',hg2',hc',hf'⟩
   · rw[hn]
     go_enter Tryz.func14,Tryz.ntmps14
     go_wp2
     refine wp_loop_rounds 1 ?_
     rw[rounds_succ]
     go_wp2
     go_ret
     exact⟨rfl,0,rfl⟩
   · clear hu hv hf hf'
     go_enter Tryz.func14,Tryz.ntmps14
     go_wp2
     go_loopw [5] (fun i wr=>∃ j q:Nat,j≤ls.length∧i=.int .i64 (j:Int)∧wr=w.drewN q) (fun i _=>ls.length - (intOf i).toNat)
     case atStart=>exact⟨0,0,Nat.zero_le _,rfl,rfl⟩
     case round =>
      obtain⟨j,q,hj,rfl,rfl⟩:=hrel
      by_cases hlt:j<ls.length
      · have c1:=(hc j hlt).trans (scells_at ls j hlt)
        have c2:=(hc' j hlt).trans (scells_at ls j hlt)
        have hj0:(0:Int)≤(j:Int):=by omega
        have hj1:(j:Int)<(ls.length:Int):=by omega
        obtain⟨x,hx⟩:∃ x,x=ls[j]:=⟨_,rfl⟩
        rw[←hx] at c1 c2
        clear hc hc' hx
        go_wp2
        go_quiet (fail)
        go_wp2
        go_roundw
        case rel=>exact⟨j+1,_,by omega,by go_num,rfl⟩
        case measure=>simp[intOf];omega
      · go_wp2
        go_ret
        exact⟨rfl,q,rfl⟩
set_option maxRecDepth 100000 in
set_option maxHeartbeats 400000 in
theorem markText_any (n:Nat) (w:World) (h0:0<n) (hn:n<1000000000000) :
 Calls Tryz.prog 30 #[.int .i64 n] w fun e w'=>e=.returned (.string ⟨(markT n).toArray⟩)∧Below w.heap.size w w':=by
 have HN:Hid (n<10 ^ 20):=by rw[Hid];omega
 have h0':¬ (n:Int)≤0:=by omega
 go_enter Tryz.func30,Tryz.ntmps30
 go_wp2
 go_loopw [0,3] (fun v t wr=>∃ f m:Nat,∃ l:List UInt8,m≤n∧v=.int .i64 (m:Int)∧t=.string ⟨l.toArray⟩∧Hid (m<10 ^ f)∧Hid (decF f m ++ l=decF 20 n)∧Hid (l.length+f=20)∧Below w.heap.size w wr) (fun v _ _=>(intOf v).toNat)
 case atStart=>exact⟨20,n,[],Nat.le_refl _,rfl,rfl,HN,by rw[Hid];simp,rfl,Below.refl _ _⟩
 case round =>
  obtain⟨f,m,l,hm,rfl,rfl,HF,HL,HZ,hbel⟩:=hrel
  have hsz:=hbel.size
  have hln:l.length≤20:=by have:=HZ.out;omega
  by_cases hlt:0<m
  · obtain⟨f',hf'⟩:∃ f',f=f'+1:=by
     cases f with
     | zero=>have:=HF.out;simp at this;omega
     | succ f'=>exact⟨f',rfl⟩
    subst hf'
    have hst:=decF_step f' m HF.out hlt
    obtain⟨c,hc⟩:∃ c,c=UInt8.ofNat (48+m % 10):=⟨_,rfl⟩
    rw[←hc] at hst
    have HF':Hid (m / 10<10 ^ f'):=hst.2
    have HL':Hid (decF f' (m / 10) ++ (c :: l)=decF 20 n):=by rw[Hid,←HL.out,hst.1];simp
    have HZ':Hid ((c :: l).length+f'=20):=by rw[Hid,←HZ.out];simp;omega
    have hcv:=lit_string [c] #[.int .u8 (48+(m:Int) % 10)] (by simp only[bcells,List.map_cons,List.map_nil];rw[hc,byte_of];congr 2;omega) 1 rfl (by decide)
    clear hst hc
    go_wp2
    go_roundw
    case rel=>exact⟨f',m / 10,c :: l,by omega,by simp,by show Value.string (ByteArray.mk #[c] ++ _)=_;rw[ba_cons],HF',HL',HZ',hbel.alloc hsz _⟩
    case measure=>simp[intOf];omega
  · have hz:m=0:=by omega
    subst hz
    have HR:Hid (l=decF 20 n):=by rw[Hid,←HL.out,decF_zero];rfl
    go_wp2
    go_ret
    exact⟨by rw[markT,←HR.out];exact congrArg (fun x=>Ending.returned (.string x)) (ba_cons 109 l),hbel⟩
theorem grown_of_below {w w':World} (h:Below w.heap.size w w') (row:Option Nat):w.grownBy w' row:=⟨h.os,h.tape,h.output,h.size,fun k hk _=>h.block k hk⟩
theorem grown_undrew {w w':World} {row:Option Nat} (h:w.drew.grownBy w' row):w.grownBy w' row:=⟨h.os,h.tape,h.output,h.size,h.block⟩
set_option maxRecDepth 100000 in
set_option maxHeartbeats 400000 in
theorem markS_any (ls:List (List UInt8)) (v:Value) (b1 k:Nat) (w:World) (hl:ls.length≤16777216) (hk:0<k) (hk2:k≤16777216) (hv:w.ownsRow b1 9 1 v ls.length (scells ls)) :
 Calls Tryz.prog 17 #[v,.int .i64 k] w fun e w'=>e=.returned (.int .i64 ((k:Int)+(ls.length:Int)))∧w'.ownsRow b1 9 1 v ls.length (scells (marks k ls.length))∧w.grownBy w' v.ownBlock:=by
 rcases own_cases hv with ⟨rfl,hn,hx⟩ | ⟨g,cap,rfl,hg1,hg2,hc,hf⟩
 · have hls:ls=[]:=List.length_eq_zero_iff.1 hn
   subst hls
   go_enter Tryz.func17,Tryz.ntmps17
   go_wp2
   refine wp_loop_rounds 1 ?_
   rw[rounds_succ]
   go_wp2
   go_ret
   exact⟨by simp,hv,World.grownBy.refl _ _⟩
 · clear hc hf
   go_enter Tryz.func17,Tryz.ntmps17
   go_wp2
   go_loopw [1,5] (fun m i wr=>∃ j:Nat,j≤ls.length∧i=.int .i64 (j:Int)∧m=.int .i64 ((k+j:Nat):Int)∧wr.ownsRow b1 9 1 (.slice (some ⟨g,0,none⟩) ls.length cap) ls.length (scells (marked k j ls))∧w.grownBy wr (some g)) (fun _ i _=>ls.length - (intOf i).toNat)
   case atStart=>exact⟨0,Nat.zero_le _,rfl,rfl,by rw[marked_zero];exact hv,World.grownBy.refl _ _⟩
   case round =>
    obtain⟨j,hj,rfl,rfl,hown,hgr⟩:=hrel
    by_cases hlt:j<ls.length
    · have hj1:(j:Int)<(ls.length:Int):=by omega
      have hj0:(0:Int)≤(j:Int):=by omega
      go_wp2_with fail
      refine (markText_any (k+j) _ (by omega) (by omega)).mono ?_
      rintro e w1 ⟨rfl,hb1⟩
      have hown1:=hown.kept (grown_of_below hb1 none) (.inr (by simp[Value.ownBlock]))
      have hgr1:=hgr.trans (grown_of_below hb1 (some g))
      have hc1:∃ o,w1.cell? ⟨g,j,none⟩=some o:=by
       rw[hown1.cellAt j (by omega)]
       exact⟨_,List.getElem?_eq_getElem (by rw[scells_length,marked_length k j ls (by omega)];exact hlt)⟩
      obtain⟨o,hc1⟩:=hc1
      have hf1:=hown1.frozenAt j
      have hst:=hown1.stored j (.string ⟨(markT (k+j)).toArray⟩)
      rw[marked_step k j ls hlt] at hst
      have hown2:=hst.1
      have hgr2:=hgr1.trans hst.2
      clear hown hown1 hst hgr hgr1 hb1
      go_wp2
      go_roundw
      case rel=>exact⟨j+1,by omega,by go_num,by go_num,hown2,hgr2⟩
      case measure=>simp[intOf];omega
    · have hjl:j=ls.length:=by omega
      subst hjl
      rw[marked_all] at hown
      go_wp2
      go_ret
      exact⟨by simp,hown,hgr⟩
set_option maxRecDepth 100000 in
set_option maxHeartbeats 400000 in
theorem heldS_any (n:Nat) (v:Value) (b1 k:Nat) (w:World) (hl:n≤16777216) (hk:0<k) (hk2:k≤16777216) (hv:w.ownsRow b1 9 1 v n (scells (marks k n))) :
 Calls Tryz.prog 31 #[v,.int .i64 k] w fun e w'=>e=.returned (.int .i64 ((k:Int)+(n:Int)))∧w.grownBy w' none:=by
 rcases own_cases hv with ⟨rfl,hn,hx⟩ | ⟨g,cap,rfl,hg1,hg2,hc,hf⟩
 · subst hn
   go_enter Tryz.func31,Tryz.ntmps31
   go_wp2
   refine wp_loop_rounds 1 ?_
   rw[rounds_succ]
   go_wp2
   go_ret
   exact⟨by simp,World.grownBy.refl _ _⟩
 · clear hf
   go_enter Tryz.func31,Tryz.ntmps31
   go_wp2
   go_loopw [1,5] (fun m i wr=>∃ j:Nat,j≤n∧i=.int .i64 (j:Int)∧m=.int .i64 ((k+j:Nat):Int)∧w.grownBy wr none) (fun _ i _=>n - (intOf i).toNat)
   case atStart=>exact⟨0,Nat.zero_le _,rfl,rfl,World.grownBy.refl _ _⟩
   case round =>
    obtain⟨j,hj,rfl,rfl,hgr⟩:=hrel
    by_cases hlt:j<n
    · have hj1:(j:Int)<(n:Int):=by omega
      have hj0:(0:Int)≤(j:Int):=by omega
      have hcj:wr.cell? ⟨g,j,none⟩=some (.string ⟨(markT (k+j)).toArray⟩):=by
       rw[hgr.cell_far ⟨g,j,none⟩ hg2 (by simp),hc j hlt,scells,List.getElem?_map,marks_at k n j hlt];rfl
      have hwlt:g<wr.heap.size:=Nat.lt_of_lt_of_le hg2 hgr.size
      have HG:Hid (w.grownBy wr none):=hgr
      clear hc hgr hv
      go_wp2_with fail
      go_region_held3 (fun w'=>w'.cell? ⟨g,j,none⟩=some (.string ⟨(markT (k+j)).toArray⟩))
       (first | go_keep | (rw[hb1.cell (by simp;omega)];assumption))
       ((go_at_call 30;refine (markText_any (k+j) _ (by omega) (by omega)).mono ?_;rintro e w1 ⟨rfl,hb1⟩))
      all_goals
       have hg2:=HG.out.trans (grown_undrew (grown_of_below hb1 none))
       go_wp2
       go_roundw
       case rel=>exact⟨j+1,by omega,by go_num,by go_num,hg2⟩
       case measure=>simp[intOf];omega
    · have hjl:j=n:=by omega
      subst hjl
      go_wp2
      go_ret
      exact⟨by simp,hgr⟩
end Go.Proofs.YtllmclmcncolcaaGreatDoor
