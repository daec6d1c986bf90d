import Derived.Test.YtkagiehbjnfabaaDoorSOnce
import Derived.Test.YtkagiehbjnfabaaDoorStrsAll
namespace Go.Proofs.YtkagiehbjnfabaaDoor
open Go.RowKit
set_option linter.unusedVariables false
theorem below_drewS {b:Nat} {w w1:World} (h:Below b w w1):Below b w w1.drew:=⟨h.os,h.tape,h.output,h.size,h.block⟩
theorem below_undrewS {b:Nat} {w w1:World} (h:Below b w.drew w1):Below b w w1:=⟨h.os,h.tape,h.output,h.size,h.block⟩
set_option maxRecDepth 100000 in
set_option maxHeartbeats 1000000 in
theorem l3Sign_any (seed msg:List UInt8) (w:World) (hs:seed.length=32) (hl:msg.length≤1048576) :
 Calls Tryd.prog 53 #[.string ⟨seed.toArray⟩,.string ⟨msg.toArray⟩] w fun e w'=>∃ g cap:Nat,e=.returned (.slice (some ⟨g,0,none⟩) 19 cap)∧w'.ownsRow w.heap.size 9 1 (.slice (some ⟨g,0,none⟩) 19 cap) 19 (scells (sigL seed msg 19))∧Below w.heap.size w w':=by
 obtain⟨i0,hi0,hz0,hz1,hz2⟩:=info_parts info9t
 have H1:=spec_digits msg w hl
 have hdl:=digitsL_len msg
 have HD3:Hid (∀ j,(digitsL msg).getD j 0≤3):=digitsL_getD msg
 have HN:Hid (∀ j,sigL seed msg (j+1)=sigL seed msg j ++ [chainL j 0 (startL seed j) ((digitsL msg).getD j 0)]):=sigL_snoc seed msg
 obtain⟨ds,hds⟩:∃ ds,ds=digitsL msg:=⟨_,rfl⟩
 rw[←hds] at H1 hdl HD3 HN
 have HZ:Hid (sigL seed msg 0=[]):=rfl
 obtain⟨sg,hsg⟩:∃ sg,sg=sigL seed msg:=⟨_,rfl⟩
 rw[←hsg] at HN HZ ⊢
 clear hds hsg
 go_enter Tryd.func53,Tryd.ntmps53
 go_wp2_with fail
 refine H1.mono ?_
 rintro e w1 ⟨gd,cd,rfl,od,b1⟩
 have hgd:=own_lt od
 have hcd:∀ j (h:j<ds.length),w1.cell? ⟨gd,j,none⟩=some (.int .i64 ((ds.getD j 0:Nat):Int)):=fun j h=>by rw[od.cellAt j (by omega),icells_at ds j h,List.getD_eq_getElem?_getD,List.getElem?_eq_getElem h];rfl
 have hs1:=b1.size
 clear H1 od
 go_wp2
 go_loopw [6,7] (fun v i wr=>∃ j g cap:Nat,j≤19∧i=.int .i64 (j:Int)∧v=.slice (some ⟨g,0,none⟩) j cap∧wr.ownsRow w1.heap.size 9 1 (.slice (some ⟨g,0,none⟩) j cap) j (scells (sg j))∧Below w1.heap.size w1 wr) (fun _ i _=>19 - (intOf i).toNat)
 case atStart=>exact⟨0,w1.heap.size,0,by omega,rfl,rfl,by rw[HZ.out];exact World.ownsRow_lit w1 #[] 0 (Nat.le_refl _) (Nat.zero_le _) rfl,(Below.refl _ _).alloc (Nat.le_refl _) _⟩
 case round =>
  obtain⟨j,g,cap,hj,rfl,rfl,hown,hbel⟩:=hrel
  have hsz:=hbel.size
  have hbw:=b1.trans (hbel.mono hs1)
  by_cases hlt:j<19
  · have hlt' : (j : Int) < 19 := by omega
    have hj0:(0:Int)≤(j:Int):=by omega
    have c1:=(hbel.cell (p:=⟨gd,j,none⟩) hgd).trans (hcd j (by omega))
    have hd3:=HD3.out j
    have HNJ:Hid (sg (j+1)=sg j ++ [chainL j 0 (startL seed j) (ds.getD j 0)]):=HN.out j
    obtain⟨d,hd⟩:∃ d,d=ds.getD j 0:=⟨_,rfl⟩
    rw[←hd] at c1 hd3 HNJ
    have K1:=l3Start_any seed j wr.drew hs (by omega)
    have K2:=fun W=>l3Chain_any j 0 d (startL seed j) W (by omega) (by omega) (startL_len seed j hs)
    obtain⟨y,hy⟩:∃ y,y=chainL j 0 (startL seed j) d:=⟨_,rfl⟩
    rw[←hy] at K2 HNJ
    obtain⟨x,hx⟩:∃ x,x=startL seed j:=⟨_,rfl⟩
    rw[←hx] at K1 K2
    have HO:=hidOwn hown
    have hbg:=own_base hown
    have hgl:=own_lt hown
    have HB:Hid (Below w1.heap.size w1 wr):=hbel
    have hgdw:gd<wr.heap.size:=Nat.lt_of_lt_of_le hgd hsz
    clear hy hx hown hcd hd hbel hbw
    go_wp2_with fail
    go_region_held3 (fun w'=>w'.cell? ⟨gd,j,none⟩=some (.int .i64 (d:Int)))
     (first | assumption | go_keep)
     (first
      | (go_at_call 66
         refine (K2 w2).mono ?_
         rintro e w3 ⟨rfl,b3⟩
         have B3:=B2.trans (b3.mono B2.size)
         have hs3:=B3.size
         have hgd2:gd<w2.heap.size:=Nat.lt_of_lt_of_le hgdw hs2
         have c3:=(b3.cell (p:=⟨gd,j,none⟩) hgd2).trans c2
         have hgd3:gd<w3.heap.size:=Nat.lt_of_lt_of_le hgd2 b3.size
         have O3:=hidOwn (keptS O2.out b3)
         have c3a:(w3.alloc (.cells #[.string ⟨y.toArray⟩] 9)).cell? ⟨gd,j,none⟩=some (.int .i64 (d:Int)):=by rw[World.cell?_alloc_lt _ _ _ (World.block_lt_of_cell? w3 _ c3)];exact c3
         clear b3)
      | (go_at_call 67
         refine K1.mono ?_
         rintro e w2 ⟨rfl,b2⟩
         have b2':=below_undrewS b2
         have hs2:wr.heap.size≤w2.heap.size:=b2'.size
         have B2:=HB.out.trans (b2'.mono hsz)
         have c2:=(b2'.cell (p:=⟨gd,j,none⟩) hgdw).trans c1
         have O2:=hidOwn (keptS HO.out b2')
         clear b2 b2')
      | (refine step_own rfl _ _ 24 rfl w1.heap.size 9 i0 (.string ⟨#[]⟩) 1 16 Tryd.underlying24 hi0 hz0 hz1 hz2 rfl (by decide) (.slice (some ⟨g, 0, none⟩) j cap) j _ rfl (O3.out.alloc _) ⟨w3.heap.size, 0, none⟩ 1 1 [.string ⟨y.toArray⟩] rfl rfl (World.news_of_block (cs := #[.string ⟨y.toArray⟩]) (t := 9) (fr := (0, 0)) (heap_alloc_new w3 _)) (by simp [Value.oneCell']) (by unfold maxLen; omega) (by omega) (by simp; omega) ?_
         intro v4 w4 hown4 hgrow4 hnil4
         have hv4:∃ g4 cap4,v4=.slice (some ⟨g4,0,none⟩) (j+1) cap4:=own_shape hown4 (by rw[Ne,hnil4];simp)
         obtain⟨g4,cap4,rfl⟩:=hv4
         have B4:Below w1.heap.size w1 w4:=(B3.alloc hs3 _).grown hgrow4 (by simp;omega) (fun k hk=>by simp[Value.ownBlock] at hk;omega)
         have O4:Hid (w4.ownsRow w1.heap.size 9 1 (.slice (some ⟨g4,0,none⟩) (j+1) cap4) (j+1) (scells (sg (j+1)))):=by rw[Hid,HNJ.out,scells_snoc];exact hown4
         have c4:w4.cell? ⟨gd,j,none⟩=some (.int .i64 (d:Int)):=by rw[hgrow4.cell_far ⟨gd,j,none⟩ (by simp;omega) (by simp[Value.ownBlock];omega)];exact c3a
         clear hgrow4 hown4 hnil4))
    all_goals
     go_wp2
     go_roundw
     case rel=>exact⟨j+1,g4,cap4,by omega,by go_num,rfl,O4.out,B4⟩
     case measure=>simp[intOf];omega
  · have hj19:j=19:=by omega
    subst hj19
    have HO:=hidOwn (hown.mono hs1)
    clear hown hcd
    go_wp2
    go_ret
    exact⟨g,cap,rfl,HO.out,hbw⟩
set_option maxRecDepth 100000 in
set_option maxHeartbeats 2000000 in
theorem spec_publicOf (msg : List UInt8) (a : Option Addr) (cap : Nat) (ls : List (List UInt8)) (w : World) (hl : msg.length ≤ 1048576) (h19 : ls.length = 19) (h32 : ∀ l ∈ ls, l.length = 32) (hs : IsStrs w a ls) :
 Calls Tryd.prog 56 #[.string ⟨msg.toArray⟩,.slice a ls.length cap] w fun e w'=>e=.returned (.tuple #[.string ⟨(publicOfL msg ls).toArray⟩,.bool true])∧Below w.heap.size w w':=by
 obtain⟨i0,hi0,hz0,hz1,hz2⟩:=info_parts info9t
 have H1:=spec_digits msg w hl
 have hdl:=digitsL_len msg
 have HD3:Hid (∀ j,(digitsL msg).getD j 0≤3):=digitsL_getD msg
 have HP:Hid (publicOfL msg ls=tagL tOnce (leadL msg ls 19)):=rfl
 have HF:Hid ((leadL msg ls 19).flatten.length=32*19):=by rw[Hid,flat32 _ (leadL_32 msg ls h32 19 (by omega)),leadL_length]
 have HLL:Hid ((leadL msg ls 19).length=19):=leadL_length msg ls 19
 have HN:Hid (∀ j,leadL msg ls (j+1)=leadL msg ls j ++ [chainL j ((digitsL msg).getD j 0) (ls.getD j []) (3 - (digitsL msg).getD j 0)]):=leadL_snoc msg ls
 have HZ:Hid (leadL msg ls 0=[]):=rfl
 obtain⟨ds,hds⟩:∃ ds,ds=digitsL msg:=⟨_,rfl⟩
 rw[←hds] at H1 hdl HD3 HN
 obtain⟨out,hout⟩:∃ out,out=publicOfL msg ls:=⟨_,rfl⟩
 rw[←hout] at HP ⊢
 obtain⟨ld,hld⟩:∃ ld,ld=leadL msg ls:=⟨_,rfl⟩
 rw[←hld] at HP HF HLL HN HZ
 rcases hs with rfl | ⟨b,off,rfl,hc⟩
 · simp at h19
 have H32:Hid (∀ j (h:j<ls.length),ls[j].length=32):=fun j h=>h32 _ (List.getElem_mem _)
 have hblt:b<w.heap.size:=World.block_lt_of_cell? w _ (hc 0 (by omega))
 have HC:Hid (∀ j (h:j<ls.length),w.cell? ⟨b,off+j,none⟩=some (.string ⟨ls[j].toArray⟩)):=hc
 rw[h19]
 clear hds hout hld hc h32
 go_enter Tryd.func56,Tryd.ntmps56
 go_wp2
 go_loop [6] (fun i=>∃ j:Nat,j≤19∧i=.int .i64 (j:Int)) (fun i=>19 - (intOf i).toNat)
 case atStart=>exact⟨0,Nat.zero_le _,rfl⟩
 case round =>
  obtain⟨j,hj,rfl⟩:=hrel
  by_cases hlt:j<19
  · have hjl:j<ls.length:=by omega
    have c1:=HC.out j hjl
    have m1:=H32.out j hjl
    have hj0:(0:Int)≤(j:Int):=by omega
    have hj1:(j:Int)<19:=by omega
    obtain⟨x,hx⟩:∃ x,x=ls[j]:=⟨_,rfl⟩
    rw[←hx] at c1 m1
    have m2:(x.length:Int)=32:=by omega
    clear hx
    go_wp2
    go_round
    case rel=>exact⟨j+1,by omega,by go_num⟩
    case measure=>simp[intOf];omega
  · go_wp2_with fail
    refine H1.mono ?_
    rintro e w1 ⟨gd,cd,rfl,od,b1⟩
    have hgd:=own_lt od
    have hcd:∀ j (h:j<ds.length),w1.cell? ⟨gd,j,none⟩=some (.int .i64 ((ds.getD j 0:Nat):Int)):=fun j h=>by rw[od.cellAt j (by omega),icells_at ds j h,List.getD_eq_getElem?_getD,List.getElem?_eq_getElem h];rfl
    have hs1:=b1.size
    clear H1 od
    go_wp2
    go_loopw [8,9] (fun v i wr=>∃ j g cap:Nat,j≤19∧i=.int .i64 (j:Int)∧v=.slice (some ⟨g,0,none⟩) j cap∧wr.ownsRow w1.heap.size 9 1 (.slice (some ⟨g,0,none⟩) j cap) j (scells (ld j))∧Below w1.heap.size w1 wr) (fun _ i _=>19 - (intOf i).toNat)
    case atStart=>exact⟨0,w1.heap.size,0,by omega,rfl,rfl,by rw[HZ.out];exact World.ownsRow_lit w1 #[] 0 (Nat.le_refl _) (Nat.zero_le _) rfl,(Below.refl _ _).alloc (Nat.le_refl _) _⟩
    case round =>
     obtain⟨j,g,cap1,hj,rfl,rfl,hown,hbel⟩:=hrel
     have hsz:=hbel.size
     have hbw:=b1.trans (hbel.mono hs1)
     by_cases hlt:j<19
     · have hlt' : (j : Int) < 19 := by omega
       have hj0:(0:Int)≤(j:Int):=by omega
       have hjl:j<ls.length:=by omega
       have c1:=(hbel.cell (p:=⟨gd,j,none⟩) hgd).trans (hcd j (by omega))
       have c2:=(hbw.cell (p:=⟨b,off+j,none⟩) hblt).trans (HC.out j hjl)
       have hd3:=HD3.out j
       have hgx:ls.getD j []=ls[j]:=by rw[List.getD_eq_getElem?_getD,List.getElem?_eq_getElem hjl];rfl
       have HNJ:Hid (ld (j+1)=ld j ++ [chainL j (ds.getD j 0) (ls.getD j []) (3 - ds.getD j 0)]):=HN.out j
       rw[hgx] at HNJ
       have hx32:=H32.out j hjl
       obtain⟨d,hd⟩:∃ d,d=ds.getD j 0:=⟨_,rfl⟩
       rw[←hd] at c1 hd3 HNJ
       obtain⟨x,hx⟩:∃ x,x=ls[j]:=⟨_,rfl⟩
       rw[←hx] at c2 HNJ hx32
       have K2:=l3Chain_any j d (3 - d) x wr.drew (by omega) (by omega) hx32
       have e3:((3 - d:Nat):Int)=3 - (d:Int):=by omega
       rw[e3] at K2
       obtain⟨y,hy⟩:∃ y,y=chainL j d x (3 - d):=⟨_,rfl⟩
       rw[←hy] at K2 HNJ
       have HO:=hidOwn hown
       have hbg:=own_base hown
       have hgl:=own_lt hown
       have HB:Hid (Below w1.heap.size w1 wr):=hbel
       have hgdw:gd<wr.heap.size:=Nat.lt_of_lt_of_le hgd hsz
       have hbtw:b<wr.heap.size:=Nat.lt_of_lt_of_le hblt hbw.size
       have hb1:b<w1.heap.size:=Nat.lt_of_lt_of_le hblt hs1
       have hd4:(d:Int)≤3:=by omega
       have hd0:(0:Int)≤(d:Int):=by omega
       have hwr:IntKind.i64.wrap (3 - (d:Int))=3 - (d:Int):=i64_wrap_small _ (by omega) (by omega)
       clear hy hx hown hcd hd hbel hbw hgx hx32 e3
       go_wp2_with fail
       go_region_held3 (fun w'=>w'.cell? ⟨gd,j,none⟩=some (.int .i64 (d:Int))∧w'.cell? ⟨b,off+j,none⟩=some (.string ⟨x.toArray⟩))
        (first | (exact⟨by assumption,by assumption⟩) | go_keep)
        (first
         | (go_at_call 66
            refine K2.mono ?_
            rintro e w3 ⟨rfl,b3⟩
            have b3':=below_undrewS b3
            have B3:=HB.out.trans (b3'.mono hsz)
            have hs3:=B3.size
            have hw3:wr.heap.size≤w3.heap.size:=b3'.size
            have hgd3:gd<w3.heap.size:=Nat.lt_of_lt_of_le hgdw hw3
            have hbt3:b<w3.heap.size:=Nat.lt_of_lt_of_le hbtw hw3
            have c3:=(b3'.cell (p:=⟨gd,j,none⟩) hgdw).trans c1
            have d3:=(b3'.cell (p:=⟨b,off+j,none⟩) hbtw).trans c2
            have O3:=hidOwn (keptS HO.out b3')
            have c3a:(w3.alloc (.cells #[.string ⟨y.toArray⟩] 9)).cell? ⟨gd,j,none⟩=some (.int .i64 (d:Int)):=by rw[World.cell?_alloc_lt _ _ _ hgd3];exact c3
            have d3a:(w3.alloc (.cells #[.string ⟨y.toArray⟩] 9)).cell? ⟨b,off+j,none⟩=some (.string ⟨x.toArray⟩):=by rw[World.cell?_alloc_lt _ _ _ hbt3];exact d3
            clear b3 b3')
         | (refine step_own rfl _ _ 24 rfl w1.heap.size 9 i0 (.string ⟨#[]⟩) 1 16 Tryd.underlying24 hi0 hz0 hz1 hz2 rfl (by decide) (.slice (some ⟨g, 0, none⟩) j cap1) j _ rfl (O3.out.alloc _) ⟨w3.heap.size, 0, none⟩ 1 1 [.string ⟨y.toArray⟩] rfl rfl (World.news_of_block (cs := #[.string ⟨y.toArray⟩]) (t := 9) (fr := (0, 0)) (heap_alloc_new w3 _)) (by simp [Value.oneCell']) (by unfold maxLen; omega) (by omega) (by simp; omega) ?_
            intro v4 w4 hown4 hgrow4 hnil4
            have hv4:∃ g4 cap4,v4=.slice (some ⟨g4,0,none⟩) (j+1) cap4:=own_shape hown4 (by rw[Ne,hnil4];simp)
            obtain⟨g4,cap4,rfl⟩:=hv4
            have B4:Below w1.heap.size w1 w4:=(B3.alloc hs3 _).grown hgrow4 (by simp;omega) (fun k hk=>by simp[Value.ownBlock] at hk;omega)
            have O4:Hid (w4.ownsRow w1.heap.size 9 1 (.slice (some ⟨g4,0,none⟩) (j+1) cap4) (j+1) (scells (ld (j+1)))):=by rw[Hid,HNJ.out,scells_snoc];exact hown4
            have c4:w4.cell? ⟨gd,j,none⟩=some (.int .i64 (d:Int)):=by rw[hgrow4.cell_far ⟨gd,j,none⟩ (by simp;omega) (by simp[Value.ownBlock];omega)];exact c3a
            have d4:w4.cell? ⟨b,off+j,none⟩=some (.string ⟨x.toArray⟩):=by rw[hgrow4.cell_far ⟨b,off+j,none⟩ (by simp;omega) (by simp[Value.ownBlock];omega)];exact d3a
            clear hgrow4 hown4 hnil4))
       all_goals
        go_wp2
        go_roundw
        case rel=>exact⟨j+1,g4,cap4,by omega,by go_num,rfl,O4.out,B4⟩
        case measure=>simp[intOf];omega
     · have hj19:j=19:=by omega
       subst hj19
       have K:=spec_tagged tOnce g cap1 (ld 19) w1.heap.size wr (by decide) (by rw[HLL.out,HF.out];omega) (by rw[HLL.out];exact hown)
       rw[←HP.out,HLL.out] at K
       clear hown hcd
       go_wp2_with fail
       refine K.mono ?_
       rintro e w2 ⟨rfl,b2⟩
       have B2:=hbw.trans (b2.mono hbw.size)
       go_wp2
       go_ret2
       exact⟨rfl,B2⟩
set_option maxRecDepth 100000 in
set_option maxHeartbeats 400000 in
theorem spec_publicOf_no (msg : List UInt8) (a : Option Addr) (cap : Nat) (ls : List (List UInt8)) (w : World) (hl : ls.length ≤ 1048576) (hm : ∀ l ∈ ls, l.length ≤ 1048576) (hno : ¬ (ls.length = 19 ∧ ∀ l ∈ ls, l.length = 32)) (hs : IsStrs w a ls) :
 Calls Tryd.prog 56 #[.string ⟨msg.toArray⟩,.slice a ls.length cap] w fun e w'=>e=.returned (.tuple #[.string ⟨#[]⟩,.bool false])∧w'=w:=by
 by_cases h19:ls.length=19
 · have HH : Hid (¬ ∀ l ∈ ls, l.length = 32) := fun h => hno ⟨h19, h⟩
   rcases hs with rfl | ⟨b,off,rfl,hc⟩
   · simp at h19
   have hm':∀ j (h:j<ls.length),ls[j].length≤1048576:=fun j h=>hm _ (List.getElem_mem _)
   have HL:Hid (ls.length=19):=h19
   rw[h19]
   clear hno hm hl h19
   go_enter Tryd.func56,Tryd.ntmps56
   go_wp2
   go_loop [6] (fun i=>∃ j:Nat,j≤19∧i=.int .i64 (j:Int)∧Hid (∀ l∈ls.take j,l.length=32)) (fun i=>19 - (intOf i).toNat)
   case atStart=>exact⟨0,Nat.zero_le _,rfl,by rw[Hid];simp⟩
   case round =>
    obtain⟨j,hj,rfl,HA⟩:=hrel
    by_cases hlt:j<19
    · have hjl:j<ls.length:=by rw[HL.out];exact hlt
      have c1:=hc j hjl
      have m1:=hm' j hjl
      have hj0:(0:Int)≤(j:Int):=by omega
      have hj1:(j:Int)<19:=by omega
      have HS:Hid (ls[j].length=32→∀ l∈ls.take (j+1),l.length=32):=fun h l hl=>by
       rw[List.take_succ_eq_append_getElem hjl,List.mem_append] at hl
       rcases hl with hl | hl
       · exact HA.out l hl
       · simp at hl;rw[hl];exact h
      obtain⟨x,hx⟩:∃ x,x=ls[j]:=⟨_,rfl⟩
      rw[←hx] at c1 m1 HS
      clear hc hm' hx HA
      by_cases hx32:x.length=32
      · have m2:(x.length:Int)=32:=by omega
        go_wp2
        go_round
        case rel=>exact⟨j+1,by omega,by go_num,HS.out hx32⟩
        case measure=>simp[intOf];omega
      · have m2:¬ (x.length:Int)=32:=by omega
        go_wp2
        go_ret2
        exact⟨rfl,rfl⟩
    · have hjl:j=19:=by omega
      subst hjl
      exact absurd (by have:=HA.out;rw[List.take_of_length_le (by rw[HL.out];omega)] at this;exact this) HH.out
 · have h19':¬ (ls.length:Int)=19:=by omega
   clear hno hs hm
   go_enter Tryd.func56,Tryd.ntmps56
   go_wp2
   go_ret2
   exact⟨rfl,rfl⟩
end Go.Proofs.YtkagiehbjnfabaaDoor
