/-
 Texts that are laid as one: Nib, Pre, HexP.
-/
import Derived.Test.YtppljdnbhoeeoaaGreatDoorMath2
namespace Go.Proofs.YtppljdnbhoeeoaaGreatDoor
open Go.RowKit
set_option linter.unusedVariables false
set_option maxHeartbeats 2000000
set_option maxRecDepth 100000
theorem znn (s:ByteArray) (w:World) (hs:s.size≤1048576) :
 Calls Tryz.prog 128 #[.string s] w fun e w'=>e=.returned (.string ⟨(nibs s.data.toList).toArray⟩)∧Below w.heap.size w w':=by
 obtain⟨i0,hi0,hz0,hz1,hz2⟩:=info_parts info5
 go_enter Tryz.func128,Tryz.ntmps128
 go_wp2
 go_loopw [3,4] (fun v i wr=>∃ k g cap:Nat,k≤s.size∧i=.int .i64 k∧v=.slice (some ⟨g,0,none⟩) (2*k) cap∧wr.ownsRow w.heap.size 5 1 (.slice (some ⟨g,0,none⟩) (2*k) cap) (2*k) (ze (nibs (s.data.toList.take k)))∧Below w.heap.size w wr) (fun _ i _=>s.size - (intOf i).toNat)
 case atStart=>exact⟨0,w.heap.size,0,Nat.zero_le _,rfl,rfl,World.ownsRow_lit w #[] 0 (Nat.le_refl _) (Nat.zero_le _) rfl,(Below.refl _ _).alloc (Nat.le_refl _) _⟩
 case round =>
  obtain⟨k,g,cap,hk,rfl,rfl,hown,hbel⟩:=hrel
  have hsz:=hbel.size
  have hbg:=own_base hown
  have hk0:(0:Int)≤(k:Int):=Int.natCast_nonneg _
  by_cases hlt:k<s.size
  · have hk1:(k:Int)<(s.size:Int):=by omega
    go_wp2_with fail
    go_region_held3 (fun _=>True) (trivial)
     ((refine step_append_lies _ (by rfl) _ _ _ (by rfl) w.heap.size 5 i0 _ 1 1 Tryz.underlying150 hi0 hz0 hz1 hz2 rfl (by omega) (.slice (some ⟨g,0,none⟩) (2*k) cap) (2*k) _ (by rfl) ((hown.alloc _).drew) ⟨wr.heap.size,0,none⟩ 2 2 [.int .u8 (IntKind.u8.wrap ((s[k].toNat:Int) / 16)),.int .u8 ((s[k].toNat:Int).tmod 16)] (by rfl) (by rfl) (World.news_of_block (cs:=#[.int .u8 (IntKind.u8.wrap ((s[k].toNat:Int) / 16)),.int .u8 ((s[k].toNat:Int).tmod 16)]) (t:=5) (fr:=(0,0)) (heap_alloc_new wr _)) (by simp[Value.oneCell']) (by omega) (by unfold maxLen;omega) (by omega) (by simp;omega) (wr.heap.size+1) (by simp) ?_;intro g2 cap2 w1 hown1 hgrow hat hlt1))
    all_goals
     have hbel1:=zel hbel hsz hbg hgrow
     go_wp2
     go_roundw
     case rel=>exact⟨k+1,g2,cap2,by omega,by go_num,rfl,by rw[zp0 s k hlt];simpa [ze,zyn,zyp,Nat.mul_add] using hown1,hbel1⟩
     case measure=>simp[intOf];omega
  · have hcv:=zd6 (P:=Tryz.prog) Tryz.underlying150 Tryz.underlying5 Tryz.underlying9 hown
    go_wp2
    go_ret
    exact⟨zcx (by rw[zhp s k hlt]),hbel⟩
theorem zno (s:ByteArray) (w:World) (hs:s.size≤1048576) :
 Calls Tryz.prog 110 #[.string s] w fun e w'=>e=.returned (.string ⟨(nibs s.data.toList).toArray⟩)∧Below w.heap.size w w':=by
 obtain⟨i0,hi0,hz0,hz1,hz2⟩:=info_parts info5
 go_enter Tryz.func110,Tryz.ntmps110
 go_wp2_with (at_make;refine wpList_make_own _ rfl _ _ 150 rfl w.heap.size 5 i0 (.int .u8 0) 1 Tryz.underlying150 hi0 hz0 hz1 _ _ _ (2*s.size) rfl rfl (by omega) (by rw[hz2];omega) (by unfold maxLen;omega) (Nat.le_refl _) ?_;intro w0 hown0 hgrow0)
 go_loopw [3,4,11] (fun v _ i wr=>∃ k g cap:Nat,k≤s.size∧i=.int .i64 k∧v=.slice (some ⟨g,0,none⟩) (2*k) cap∧wr.ownsRow w.heap.size 5 1 (.slice (some ⟨g,0,none⟩) (2*k) cap) (2*k) (ze (nibs (s.data.toList.take k)))∧Below w.heap.size w wr) (fun _ _ i _=>s.size - (intOf i).toNat)
 case atStart=>exact⟨0,w.heap.size,2*s.size,Nat.zero_le _,rfl,rfl,hown0,(Below.refl _ _).grown hgrow0 (Nat.le_refl _) (by simp)⟩
 case round =>
  obtain⟨k,g,cap,hk,rfl,rfl,hown,hbel⟩:=hrel
  have hsz:=hbel.size
  have hbg:=own_base hown
  have hk0:(0:Int)≤(k:Int):=Int.natCast_nonneg _
  by_cases hlt:k<s.size
  · have hk1:(k:Int)<(s.size:Int):=by omega
    go_wp2_with fail
    go_region_held3 (fun _=>True) (trivial)
     ((refine step_append_lies _ (by rfl) _ _ _ (by rfl) w.heap.size 5 i0 _ 1 1 Tryz.underlying150 hi0 hz0 hz1 hz2 rfl (by omega) (.slice (some ⟨g,0,none⟩) (2*k) cap) (2*k) _ (by rfl) ((hown.alloc _).drew) ⟨wr.heap.size,0,none⟩ 2 2 [.int .u8 ((s[k].toNat:Int) / 16),.int .u8 (bits BinOp.and IntKind.u8 (s[k].toNat:Int) 15)] (by rfl) (by rfl) (World.news_of_block (cs:=#[.int .u8 ((s[k].toNat:Int) / 16),.int .u8 (bits BinOp.and IntKind.u8 (s[k].toNat:Int) 15)]) (t:=5) (fr:=(0,0)) (heap_alloc_new wr _)) (by simp[Value.oneCell']) (by omega) (by unfold maxLen;omega) (by omega) (by simp;omega) (wr.heap.size+1) (by simp) ?_;intro g2 cap2 w1 hown1 hgrow hat hlt1))
    all_goals
     have hbel1:=zel hbel hsz hbg hgrow
     go_wp2
     go_roundw
     case rel=>exact⟨k+1,g2,cap2,by omega,by go_num,rfl,by rw[zp0 s k hlt];rw[u8_and15,zyo] at hown1;simpa only[ze,Nat.mul_add,List.map_append,List.map_cons,List.map_nil] using hown1,hbel1⟩
     case measure=>simp[intOf];omega
  · have hcv:=zd6 (P:=Tryz.prog) Tryz.underlying150 Tryz.underlying5 Tryz.underlying9 hown
    go_wp2
    go_ret
    exact⟨zcx (by rw[zhp s k hlt]),hbel⟩
theorem zvm (s:ByteArray) (w:World) (hs:s.size≤1048576) :
 Calls Tryz.prog 158 #[.string s] w fun e w'=>e=.returned (.bool (zq s.data.toList))∧w'=w:=by
 go_enter Tryz.func158,Tryz.ntmps158
 go_wp2
 go_loop [3] (fun i=>∃ k:Nat,k≤s.size∧i=.int .i64 k∧zq (s.data.toList.take k)=true) (fun i=>s.size - (intOf i).toNat)
 case atStart=>exact⟨0,Nat.zero_le _,rfl,rfl⟩
 case round =>
  obtain⟨k,hk,rfl,hn⟩:=hrel
  by_cases hlt:k<s.size
  · by_cases hb:s[k].toNat≤15
    · have HS:=zp1 s k hlt
      rw[hn,Bool.true_and] at HS
      have HT:Hid (zq (s.data.toList.take (k+1))=true):=by rw[Hid,HS];simpa using hb
      clear HS hn
      have hb':(s[k].toNat:Int)≤15:=by omega
      go_wp2
      go_round
      case rel=>exact⟨k+1,by omega,by go_num,HT.out⟩
      case measure=>simp[intOf];omega
    · have HT:Hid _:=zp2 s k hlt hb
      clear hn
      have hb':15<(s[k].toNat:Int):=by omega
      go_wp2
      go_ret
      exact⟨by rw[HT.out];rfl,rfl⟩
  · have HT:Hid (zq s.data.toList=true):=by rw[Hid,←zhp s k hlt];exact hn
    clear hn
    go_wp2
    go_ret
    exact⟨by rw[HT.out];rfl,rfl⟩
theorem zhb (s:ByteArray) (w:World) (hs:s.size≤1048576) :
 Calls Tryz.prog 182 #[.string s] w fun e w'=>e=.returned (.bool (zq s.data.toList))∧w'=w:=by
 go_enter Tryz.func182,Tryz.ntmps182
 go_wp2
 go_loop [6] (fun i=>∃ k:Nat,k≤s.size∧i=.int .i64 k∧zq (s.data.toList.take k)=true) (fun i=>s.size - (intOf i).toNat)
 case atStart=>exact⟨0,Nat.zero_le _,rfl,rfl⟩
 case round =>
  obtain⟨k,hk,rfl,hn⟩:=hrel
  by_cases hlt:k<s.size
  · by_cases hb:s[k].toNat≤15
    · have HS:=zp1 s k hlt
      rw[hn,Bool.true_and] at HS
      have HT:Hid (zq (s.data.toList.take (k+1))=true):=by rw[Hid,HS];simpa using hb
      clear HS hn
      have hb':(s[k].toNat:Int)≤15:=by omega
      go_wp2
      go_round
      case rel=>exact⟨k+1,by omega,by go_num,HT.out⟩
      case measure=>simp[intOf];omega
    · have HT:Hid _:=zp2 s k hlt hb
      clear hn
      have hb':15<(s[k].toNat:Int):=by omega
      go_wp2
      go_ret
      exact⟨by rw[HT.out];rfl,rfl⟩
  · have HT:Hid (zq s.data.toList=true):=by rw[Hid,←zhp s k hlt];exact hn
    clear hn
    go_wp2
    go_ret
    exact⟨by rw[HT.out];rfl,rfl⟩
theorem znp (s:ByteArray) (n:Nat) (w:World) (hs:s.size≤1048576) (hn:s.size=2*n) (hq:zq s.data.toList=true) :
 Calls Tryz.prog 103 #[.string s] w fun e w'=>e=.returned (.string ⟨(pack s.data.toList).toArray⟩)∧Below w.heap.size w w':=by
 obtain⟨i0,hi0,hz0,hz1,hz2⟩:=info_parts info5
 have HQ:Hid _:=hq
 have HN:Hid _:=hn
 have hn1:s.size≤2*n:=by omega
 have hn2:2*n≤s.size:=by omega
 clear hq hn
 go_enter Tryz.func103,Tryz.ntmps103
 go_wp2_with (at_make;refine wpList_make_own _ rfl _ _ 150 rfl w.heap.size 5 i0 (.int .u8 0) 1 Tryz.underlying150 hi0 hz0 hz1 _ _ _ n rfl rfl (by omega) (by rw[hz2];omega) (by unfold maxLen;omega) (Nat.le_refl _) ?_;intro w0 hown0 hgrow0)
 go_loopw [3,4] (fun v i wr=>∃ m k g cap:Nat,Hid (m=2*k)∧k≤n∧i=.int .i64 (m:Int)∧v=.slice (some ⟨g,0,none⟩) k cap∧wr.ownsRow w.heap.size 5 1 (.slice (some ⟨g,0,none⟩) k cap) k (ze (pack (s.data.toList.take (2*k))))∧Below w.heap.size w wr) (fun _ i _=>s.size - (intOf i).toNat)
 case atStart=>exact⟨0,0,w.heap.size,n,rfl,Nat.zero_le _,rfl,rfl,hown0,(Below.refl _ _).grown hgrow0 (Nat.le_refl _) (by simp)⟩
 case round =>
  obtain⟨m,k,g,cap,HM,hk,rfl,rfl,hown,hbel⟩:=hrel
  have hsz:=hbel.size
  have hbg:=own_base hown
  have hm1:m≤2*k:=Nat.le_of_eq HM.out
  have hm2:2*k≤m:=Nat.le_of_eq HM.out.symm
  have hk0:(0:Int)≤(m:Int):=by omega
  have hk2:(0:Int)≤(m:Int)+1:=by omega
  by_cases hlt:k<n
  · have hk1:(m:Int)<(s.size:Int):=by omega
    have hk3:(m:Int)+1<(s.size:Int):=by omega
    have hmn:m<s.size:=by omega
    have hmn1:m+1<s.size:=by omega
    have hwr:IntKind.i64.wrap ((m:Int)+1)=(m:Int)+1:=zag _ (by omega) (by omega)
    go_wp2_with fail
    go_region_held3 (fun _=>True) (trivial)
     ((refine step_append_lies _ (by rfl) _ _ _ (by rfl) w.heap.size 5 i0 _ 1 1 Tryz.underlying150 hi0 hz0 hz1 hz2 rfl (by omega) (.slice (some ⟨g,0,none⟩) k cap) k _ (by rfl) ((hown.alloc _).drew) ⟨wr.heap.size,0,none⟩ 1 1 [.int .u8 (bits BinOp.or IntKind.u8 (IntKind.u8.wrap ((s[m].toNat:Int)*16)) (s[m+1].toNat:Int))] (by rfl) (by rfl) (World.news_of_block (cs:=#[.int .u8 (bits BinOp.or IntKind.u8 (IntKind.u8.wrap ((s[m].toNat:Int)*16)) (s[m+1].toNat:Int))]) (t:=5) (fr:=(0,0)) (heap_alloc_new wr _)) (by simp[Value.oneCell']) (by omega) (by unfold maxLen;omega) (by omega) (by simp;omega) (wr.heap.size+1) (by simp) ?_;intro g2 cap2 w1 hown1 hgrow hat hlt1))
    all_goals
     have hbel1:=zel hbel hsz hbg hgrow
     go_wp2
     go_roundw
     case rel=>exact⟨m+2,k+1,g2,cap2,by rw[Hid,HM.out];omega,by omega,by go_num,rfl,by rw[zp4 s m k HM.out hmn1,zge,←zyu _ _ (zp5 s HQ.out m hmn) (zp5 s HQ.out (m+1) hmn1)];exact hown1,hbel1⟩
     case measure=>simp[intOf];omega
  · have hcv:=zd6 (P:=Tryz.prog) Tryz.underlying150 Tryz.underlying5 Tryz.underlying9 hown
    go_wp2
    go_ret
    exact⟨zcx (by rw[List.take_of_length_le (by simp;omega)]),hbel⟩
theorem zvn (s:ByteArray) (leaf:Bool) (w:World) (hs:s.size≤1048576) (hodd:(s.size:Int) % 2=1) :
 Calls Tryz.prog 160 #[.string s,.bool leaf] w fun e w'=>e=.returned (.string ⟨(pack (za7 s.data.toList leaf)).toArray⟩)∧Below w.heap.size w w':=by
 obtain⟨i0,hi0,hz0,hz1,hz2⟩:=info_parts info5
 have hcv:=fun (W:World)=>run_bytes_of_string (P:=Tryz.prog) W 9 150 5 s Tryz.underlying9 Tryz.underlying150 Tryz.underlying5
 obtain⟨n,hn⟩:∃ n,1+s.size=2*n:=⟨(1+s.size) / 2,by omega⟩
 have hn1:1+s.size≤2*n:=by omega
 have hn2:2*n≤1+s.size:=by omega
 clear hn
 have HL:=zp8 s.data.toList leaf (by simp;omega)
 obtain⟨all,hall⟩:∃ all,all=za7 s.data.toList leaf:=⟨_,rfl⟩
 have HW:Hid _:=hall.symm
 have hlen:all.length=1+s.size:=by rw[hall,HL];simp;omega
 have hal1:all.length≤1+s.size:=by omega
 have hal2:1+s.size≤all.length:=by omega
 have HA:Hid (ze all=[.int .u8 (if leaf then 3 else 1)] ++ ze s.data.toList):=by rw[Hid,hall,HL];cases leaf <;> rfl
 clear hall HL hlen
 cases leaf
 all_goals
  go_enter Tryz.func160,Tryz.ntmps160
  go_wp2_with (at_builtin;refine wpList_append_own _ rfl (.tmp 24) (.tmp 26) 150 rfl w.heap.size 5 i0 (.int .u8 0) 1 1 Tryz.underlying150 hi0 hz0 hz1 hz2 rfl (by decide) (.slice (some ⟨w.heap.size,0,none⟩) 1 1) 1 _ rfl (((World.ownsRow_lit w #[_] 1 (Nat.le_refl _) (by decide) rfl).alloc _).drew) ⟨w.heap.size+1,0,none⟩ s.size _ (ze s.data.toList) rfl (by simp[ze]) (zp6 (w.alloc _) _ (by simp) s _ _ _) (zgf _) (by unfold maxLen;omega) (by omega) (by simp;omega) ?_;intro v1 w1 hown1 hgrow1 hnil1)
  have hbw:Below w.heap.size w w1:=(((Below.refl _ _).alloc (Nat.le_refl _) _).alloc (by simp) _).drew.grown hgrow1 (by simp;omega) (by simp[Value.ownBlock])
  obtain⟨g1,cap1,hv1⟩:=zhq hown1 (fun h=>by simpa using (hnil1.1 h).1)
  subst hv1
  simp only[List.cons_append,List.nil_append] at hown1
  have hown1:w1.ownsRow w.heap.size 5 1 (.slice (some ⟨g1,0,none⟩) (1+s.size) cap1) (1+s.size) (ze all):=by rw[HA.out];exact hown1
  clear hgrow1 hnil1 hcv
 all_goals
  go_wp2
  go_loopw [8,9] (fun v i wr=>∃ m k g cap:Nat,Hid (m=2*k)∧k≤n∧i=.int .i64 (m:Int)∧v=.slice (some ⟨g,0,none⟩) k cap∧wr.ownsRow w1.heap.size 5 1 (.slice (some ⟨g,0,none⟩) k cap) k (ze (pack (all.take (2*k))))∧Below w1.heap.size w1 wr) (fun _ i _=>2*n - (intOf i).toNat)
  case atStart=>exact⟨0,0,w1.heap.size,0,rfl,Nat.zero_le _,rfl,rfl,World.ownsRow_lit w1 #[] 0 (Nat.le_refl _) (Nat.zero_le _) rfl,(Below.refl _ _).alloc (Nat.le_refl _) _⟩
  case round =>
   obtain⟨m,k,g,cap,HM,hk,rfl,rfl,hown,hbel⟩:=hrel
   have hsz:=hbel.size
   have hbg:=own_base hown
   have hm1:m≤2*k:=Nat.le_of_eq HM.out
   have hm2:2*k≤m:=Nat.le_of_eq HM.out.symm
   have hk0:(0:Int)≤(m:Int):=by omega
   have hk2:(0:Int)≤(m:Int)+1:=by omega
   by_cases hlt:k<n
   · have hmn:m<all.length:=by omega
     have hmn1:m+1<all.length:=by omega
     have hwr:IntKind.i64.wrap ((m:Int)+1)=(m:Int)+1:=zag _ (by omega) (by omega)
     have hca:=zhr hown1 hbel m hmn
     have hcb:=zhr hown1 hbel (m+1) hmn1
     obtain⟨x,hx⟩:∃ x,x=all[m]:=⟨_,rfl⟩
     obtain⟨y,hy⟩:∃ y,y=all[m+1]:=⟨_,rfl⟩
     rw[←hx] at hca
     rw[←hy] at hcb
     have hstep:Hid (pack (all.take (2*(k+1)))=pack (all.take (2*k)) ++ [16*x+y]):=by rw[Hid,hx,hy];exact zp7 all m k HM.out hmn1
     have hg1:=zci hown1
     have hne:g1≠g:=by omega
     clear hx hy
     have hB:(m:Int)<1+(s.size:Int):=by omega
     have hB1:(m:Int)+1<1+(s.size:Int):=by omega
     go_wp2_with fail
     go_region_held3 (fun w'=>w'.cell? ⟨g1,m,none⟩=some (.int .u8 (x.toNat:Int))∧w'.cell? ⟨g1,m+1,none⟩=some (.int .u8 (y.toNat:Int)))
      (first | go_keep | (go_split_ands;refine⟨?_,?_⟩ <;> (rw[hgrow.cell_far _ (by simp;omega) (by simp[Value.ownBlock];omega)];assumption)))
      ((refine step_append_lies _ (by rfl) _ _ _ (by rfl) w1.heap.size 5 i0 _ 1 1 Tryz.underlying150 hi0 hz0 hz1 hz2 rfl (by omega) (.slice (some ⟨g,0,none⟩) k cap) k _ (by rfl) ((hown.alloc _).drew) ⟨wr.heap.size,0,none⟩ 1 1 [.int .u8 (IntKind.u8.wrap (IntKind.u8.wrap (16*(x.toNat:Int))+(y.toNat:Int)))] (by rfl) (by rfl) (World.news_of_block (cs:=#[.int .u8 (IntKind.u8.wrap (IntKind.u8.wrap (16*(x.toNat:Int))+(y.toNat:Int)))]) (t:=5) (fr:=(0,0)) (heap_alloc_new wr _)) (by simp[Value.oneCell']) (by omega) (by unfold maxLen;omega) (by omega) (by simp;omega) (wr.heap.size+1) (by simp) ?_;intro g2 cap2 w2 hown2 hgrow hat hlt2))
     all_goals
      have hbel2:=zel hbel hsz hbg hgrow
      go_wp2
      go_roundw
      case rel=>exact⟨m+2,k+1,g2,cap2,by rw[Hid,HM.out];omega,by omega,by go_num,rfl,by rw[hstep.out,zge,←zk4];exact hown2,hbel2⟩
      case measure=>simp[intOf];omega
   · have hcv2:=zd6 (P:=Tryz.prog) Tryz.underlying150 Tryz.underlying5 Tryz.underlying9 hown
     go_wp2
     go_ret
     exact⟨zcx (by rw[HW.out,List.take_of_length_le (by omega)]),hbw.trans (hbel.mono hbw.size)⟩
theorem zvo (s:ByteArray) (leaf:Bool) (w:World) (hs:s.size≤1048576) (hodd:(s.size:Int) % 2=0) :
 Calls Tryz.prog 160 #[.string s,.bool leaf] w fun e w'=>e=.returned (.string ⟨(pack (za7 s.data.toList leaf)).toArray⟩)∧Below w.heap.size w w':=by
 obtain⟨i0,hi0,hz0,hz1,hz2⟩:=info_parts info5
 have hcv:=fun (W:World)=>run_bytes_of_string (P:=Tryz.prog) W 9 150 5 s Tryz.underlying9 Tryz.underlying150 Tryz.underlying5
 obtain⟨n,hn⟩:∃ n,2+s.size=2*n:=⟨(2+s.size) / 2,by omega⟩
 have hn1:2+s.size≤2*n:=by omega
 have hn2:2*n≤2+s.size:=by omega
 clear hn
 have HL:=zp9 s.data.toList leaf (by simp;omega)
 obtain⟨all,hall⟩:∃ all,all=za7 s.data.toList leaf:=⟨_,rfl⟩
 have HW:Hid _:=hall.symm
 have hlen:all.length=2+s.size:=by rw[hall,HL];simp;omega
 have hal1:all.length≤2+s.size:=by omega
 have hal2:2+s.size≤all.length:=by omega
 have HA:Hid (ze all=[.int .u8 (if leaf then 2 else 0),.int .u8 0] ++ ze s.data.toList):=by rw[Hid,hall,HL];cases leaf <;> rfl
 clear hall HL hlen
 cases leaf
 all_goals
  go_enter Tryz.func160,Tryz.ntmps160
  go_wp2_with (first | (at_builtin;refine wpList_append_lies _ rfl (.tmp 21) (.tmp 22) 150 rfl w.heap.size 5 i0 (.int .u8 0) 1 1 Tryz.underlying150 hi0 hz0 hz1 hz2 rfl (by decide) (.slice (some ⟨w.heap.size,0,none⟩) 1 1) 1 _ rfl ((World.ownsRow_lit w #[_] 1 (Nat.le_refl _) (by decide) rfl).alloc _) ⟨w.heap.size+1,0,none⟩ 1 1 [.int .u8 0] rfl rfl (World.news_of_block (cs:=#[.int .u8 0]) (t:=5) (fr:=(0,0)) (zcj _ _ _ (by simp))) (by simp[Value.oneCell']) (by omega) (by unfold maxLen;omega) (by omega) (by simp;omega) (w.heap.size+2) (by simp) ?_;intro g0 cap0 w0 hown0 hgrow0 hat0 hlt0;have hg0:=own_base hown0;have hsz0:w.heap.size≤w0.heap.size:=by omega) | (at_builtin;refine wpList_append_own _ rfl (.tmp 24) (.tmp 26) 150 rfl w.heap.size 5 i0 (.int .u8 0) 1 1 Tryz.underlying150 hi0 hz0 hz1 hz2 rfl (by decide) (.slice (some ⟨g0,0,none⟩) 2 cap0) 2 _ rfl ((hown0.alloc _).drew) ⟨w0.heap.size,0,none⟩ s.size _ (ze s.data.toList) rfl (by simp[ze]) (zp6 w0 _ rfl s _ _ _) (zgf _) (by unfold maxLen;omega) (by omega) (by simp;omega) ?_;intro v1 w1 hown1 hgrow1 hnil1))
  have hb0:Below w.heap.size w w0:=((((Below.refl _ _).alloc (Nat.le_refl _) _).alloc (by simp) _).grown hgrow0 (by simp;omega) (by simp[Value.ownBlock]))
  have hbw:Below w.heap.size w w1:=((hb0.alloc hsz0 _).drew).grown hgrow1 (by simp;omega) (by simp[Value.ownBlock];omega)
  obtain⟨g1,cap1,hv1⟩:=zhq hown1 (fun h=>by simpa using (hnil1.1 h).1)
  subst hv1
  simp only[List.cons_append,List.nil_append] at hown1
  have hown1:w1.ownsRow w.heap.size 5 1 (.slice (some ⟨g1,0,none⟩) (2+s.size) cap1) (2+s.size) (ze all):=by rw[HA.out];exact hown1
  clear hgrow1 hnil1 hcv
 all_goals
  go_wp2
  go_loopw [8,9] (fun v i wr=>∃ m k g cap:Nat,Hid (m=2*k)∧k≤n∧i=.int .i64 (m:Int)∧v=.slice (some ⟨g,0,none⟩) k cap∧wr.ownsRow w1.heap.size 5 1 (.slice (some ⟨g,0,none⟩) k cap) k (ze (pack (all.take (2*k))))∧Below w1.heap.size w1 wr) (fun _ i _=>2*n - (intOf i).toNat)
  case atStart=>exact⟨0,0,w1.heap.size,0,rfl,Nat.zero_le _,rfl,rfl,World.ownsRow_lit w1 #[] 0 (Nat.le_refl _) (Nat.zero_le _) rfl,(Below.refl _ _).alloc (Nat.le_refl _) _⟩
  case round =>
   obtain⟨m,k,g,cap,HM,hk,rfl,rfl,hown,hbel⟩:=hrel
   have hsz:=hbel.size
   have hbg:=own_base hown
   have hm1:m≤2*k:=Nat.le_of_eq HM.out
   have hm2:2*k≤m:=Nat.le_of_eq HM.out.symm
   have hk0:(0:Int)≤(m:Int):=by omega
   have hk2:(0:Int)≤(m:Int)+1:=by omega
   by_cases hlt:k<n
   · have hmn:m<all.length:=by omega
     have hmn1:m+1<all.length:=by omega
     have hwr:IntKind.i64.wrap ((m:Int)+1)=(m:Int)+1:=zag _ (by omega) (by omega)
     have hca:=zhr hown1 hbel m hmn
     have hcb:=zhr hown1 hbel (m+1) hmn1
     obtain⟨x,hx⟩:∃ x,x=all[m]:=⟨_,rfl⟩
     obtain⟨y,hy⟩:∃ y,y=all[m+1]:=⟨_,rfl⟩
     rw[←hx] at hca
     rw[←hy] at hcb
     have hstep:Hid (pack (all.take (2*(k+1)))=pack (all.take (2*k)) ++ [16*x+y]):=by rw[Hid,hx,hy];exact zp7 all m k HM.out hmn1
     have hg1:=zci hown1
     have hne:g1≠g:=by omega
     clear hx hy
     have hB:(m:Int)<2+(s.size:Int):=by omega
     have hB1:(m:Int)+1<2+(s.size:Int):=by omega
     go_wp2_with fail
     go_region_held3 (fun w'=>w'.cell? ⟨g1,m,none⟩=some (.int .u8 (x.toNat:Int))∧w'.cell? ⟨g1,m+1,none⟩=some (.int .u8 (y.toNat:Int)))
      (first | go_keep | (go_split_ands;refine⟨?_,?_⟩ <;> (rw[hgrow.cell_far _ (by simp;omega) (by simp[Value.ownBlock];omega)];assumption)))
      ((refine step_append_lies _ (by rfl) _ _ _ (by rfl) w1.heap.size 5 i0 _ 1 1 Tryz.underlying150 hi0 hz0 hz1 hz2 rfl (by omega) (.slice (some ⟨g,0,none⟩) k cap) k _ (by rfl) ((hown.alloc _).drew) ⟨wr.heap.size,0,none⟩ 1 1 [.int .u8 (IntKind.u8.wrap (IntKind.u8.wrap (16*(x.toNat:Int))+(y.toNat:Int)))] (by rfl) (by rfl) (World.news_of_block (cs:=#[.int .u8 (IntKind.u8.wrap (IntKind.u8.wrap (16*(x.toNat:Int))+(y.toNat:Int)))]) (t:=5) (fr:=(0,0)) (heap_alloc_new wr _)) (by simp[Value.oneCell']) (by omega) (by unfold maxLen;omega) (by omega) (by simp;omega) (wr.heap.size+1) (by simp) ?_;intro g2 cap2 w2 hown2 hgrow hat hlt2))
     all_goals
      have hbel2:=zel hbel hsz hbg hgrow
      go_wp2
      go_roundw
      case rel=>exact⟨m+2,k+1,g2,cap2,by rw[Hid,HM.out];omega,by omega,by go_num,rfl,by rw[hstep.out,zge,←zk4];exact hown2,hbel2⟩
      case measure=>simp[intOf];omega
   · have hcv2:=zd6 (P:=Tryz.prog) Tryz.underlying150 Tryz.underlying5 Tryz.underlying9 hown
     go_wp2
     go_ret
     exact⟨zcx (by rw[HW.out,List.take_of_length_le (by omega)]),hbw.trans (hbel.mono hbw.size)⟩
theorem zvp (s:ByteArray) (leaf:Bool) (w:World) (hs:s.size≤1048576) :
 Calls Tryz.prog 160 #[.string s,.bool leaf] w fun e w'=>e=.returned (.string ⟨(pack (za7 s.data.toList leaf)).toArray⟩)∧Below w.heap.size w w':=by
 by_cases h:(s.size:Int) % 2=1
 · exact zvn s leaf w hs h
 · exact zvo s leaf w hs (by omega)
def zg5 (l:List UInt8) (leaf:Bool):List UInt8:=if l.length≤60000∧zq l=true then pack (za7 l leaf) else []
def zdr (l:List UInt8):Bool:=decide (l.length≤60000) && zq l
theorem znq (a s:ByteArray):(a ++ s).data.toList=a.data.toList ++ s.data.toList:=by simp
theorem znr (a s:ByteArray) (l:List UInt8) (n:Nat) (w:World) (hl:a.data.toList ++ s.data.toList=l) (hn:l.length=2*n) (hs:l.length≤1048576) (hq:zq l=true) :
 Calls Tryz.prog 103 #[.string (a ++ s)] w fun e w'=>e=.returned (.string ⟨(pack l).toArray⟩)∧Below w.heap.size w w':=by
 subst hl
 have hz:(a ++ s).size=(a.data.toList ++ s.data.toList).length:=by simp
 have:=znp (a ++ s) n w (by omega) (by omega) (by rw[znq];exact hq)
 rw[znq] at this
 exact this
theorem zf6 (a b:List UInt8):zq (a ++ b)=(zq a && zq b):=by simp[zq]
theorem zvq (s:ByteArray) (leaf:Bool) (w:World) (hs:s.size≤60000) (hodd:(s.size:Int) % 2=1) (hq:zq s.data.toList=true) :
 Calls Tryz.prog 142 #[.string s,.bool leaf] w fun e w'=>e=.returned (.tuple #[.string ⟨(pack (za7 s.data.toList leaf)).toArray⟩,.bool true])∧Below w.heap.size w w':=by
 have HQ:=zhb s w (by omega)
 rw[hq] at HQ
 have HN:Hid _:=hq
 clear hq
 have c1:=zcv [1] #[.int .u8 1] rfl 1 rfl (by decide)
 have c3:=zcv [3] #[.int .u8 3] rfl 1 rfl (by decide)
 have HW:=zp8 s.data.toList leaf (by simp;omega)
 obtain⟨all,hall⟩:∃ all,all=za7 s.data.toList leaf:=⟨_,rfl⟩
 rw[←hall] at HW ⊢
 have HA:Hid ((if leaf then (⟨#[3]⟩:ByteArray) else ⟨#[1]⟩).data.toList ++ s.data.toList=all):=by rw[Hid,HW];cases leaf <;> rfl
 have HL:Hid (all.length=2*((1+s.size) / 2)):=by rw[Hid,HW];simp;omega
 have HB:Hid (all.length≤1048576):=by rw[Hid,HW];simp;omega
 have HI:Hid (zq all=true):=by rw[Hid,HW];cases leaf <;> simpa [zq] using HN.out
 clear HW hall HN
 cases leaf
 all_goals
  go_enter Tryz.func142,Tryz.ntmps142
  go_wp2_with (go_at_call 182;refine HQ.mono ?_;rintro e w' ⟨rfl,rfl⟩)
  refine (znr _ s all ((1+s.size) / 2) _ (by simpa using HA.out) HL.out HB.out HI.out).mono ?_
  rintro e w1 ⟨rfl,hb1⟩
  go_wp2
  go_ret2
  exact⟨rfl,((Below.refl _ _).alloc (Nat.le_refl _) _).trans (hb1.mono (by simp))⟩
theorem zvr (s:ByteArray) (leaf:Bool) (w:World) (hs:s.size≤60000) (hodd:(s.size:Int) % 2=0) (hq:zq s.data.toList=true) :
 Calls Tryz.prog 142 #[.string s,.bool leaf] w fun e w'=>e=.returned (.tuple #[.string ⟨(pack (za7 s.data.toList leaf)).toArray⟩,.bool true])∧Below w.heap.size w w':=by
 have HQ:=zhb s w (by omega)
 rw[hq] at HQ
 have HN:Hid _:=hq
 clear hq
 have c1:=zcv [0,0] #[.int .u8 0,.int .u8 0] rfl 2 rfl (by decide)
 have c3:=zcv [2,0] #[.int .u8 2,.int .u8 0] rfl 2 rfl (by decide)
 have HW:=zp9 s.data.toList leaf (by simp;omega)
 obtain⟨all,hall⟩:∃ all,all=za7 s.data.toList leaf:=⟨_,rfl⟩
 rw[←hall] at HW ⊢
 have HA:Hid ((if leaf then (⟨#[2,0]⟩:ByteArray) else ⟨#[0,0]⟩).data.toList ++ s.data.toList=all):=by rw[Hid,HW];cases leaf <;> rfl
 have HL:Hid (all.length=2*((2+s.size) / 2)):=by rw[Hid,HW];simp;omega
 have HB:Hid (all.length≤1048576):=by rw[Hid,HW];simp;omega
 have HI:Hid (zq all=true):=by rw[Hid,HW];cases leaf <;> simpa [zq] using HN.out
 clear HW hall HN
 cases leaf
 all_goals
  go_enter Tryz.func142,Tryz.ntmps142
  go_wp2_with (go_at_call 182;refine HQ.mono ?_;rintro e w' ⟨rfl,rfl⟩)
  refine (znr _ s all ((2+s.size) / 2) _ (by simpa using HA.out) HL.out HB.out HI.out).mono ?_
  rintro e w1 ⟨rfl,hb1⟩
  go_wp2
  go_ret2
  exact⟨rfl,((Below.refl _ _).alloc (Nat.le_refl _) _).trans (hb1.mono (by simp))⟩
theorem zvs (s:ByteArray) (leaf:Bool) (w:World) (hs:s.size≤1048576) :
 Calls Tryz.prog 142 #[.string s,.bool leaf] w fun e w'=>e=.returned (.tuple #[.string ⟨(zg5 s.data.toList leaf).toArray⟩,.bool (zdr s.data.toList)])∧Below w.heap.size w w':=by
 by_cases hb:s.size≤60000
 · by_cases hq:zq s.data.toList=true
   · have H1:zg5 s.data.toList leaf=pack (za7 s.data.toList leaf):=if_pos ⟨by simpa using hb,hq⟩
     have H2:zdr s.data.toList=true:=by simp[zdr,hb,hq]
     rw[H1,H2]
     by_cases h:(s.size:Int) % 2=1
     · exact zvq s leaf w hb h hq
     · exact zvr s leaf w hb (by omega) hq
   · have H1:zg5 s.data.toList leaf=[]:=if_neg (fun h=>hq h.2)
     have H2:zdr s.data.toList=false:=by simp[zdr,hq]
     rw[H1,H2]
     clear H1 H2
     have HQ:=zhb s w hs
     rw[Bool.eq_false_iff.2 hq] at HQ
     clear hq
     go_enter Tryz.func142,Tryz.ntmps142
     go_wp2_with (go_at_call 182;refine HQ.mono ?_;rintro e w' ⟨rfl,rfl⟩)
     go_ret2
     exact⟨rfl,Below.refl _ _⟩
 · have H1:zg5 s.data.toList leaf=[]:=if_neg (fun h=>hb (by simpa using h.1))
   have H2:zdr s.data.toList=false:=by simp[zdr,hb]
   rw[H1,H2]
   clear H1 H2
   go_enter Tryz.func142,Tryz.ntmps142
   go_wp2_with fail
   go_ret2
   exact⟨rfl,Below.refl _ _⟩
end Go.Proofs.YtppljdnbhoeeoaaGreatDoor
