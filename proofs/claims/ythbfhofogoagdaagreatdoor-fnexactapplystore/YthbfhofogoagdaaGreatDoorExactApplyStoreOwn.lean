/-
 At every list of nodes, root and batch ApplyStore answers as its model; it writes into no argument, and its answer owns its memory. No condition; the round words are laid as the program's text lays them.
-/
import Derived.Test.YthbfhofogoagdaaGreatDoorApSt
import Derived.Test.YthbfhofogoagdaaGreatDoorBats
import Derived.Test.YthbfhofogoagdaaGreatDoorPairs
import Derived.Test.YthbfhofogoagdaaGreatDoorSeatAll
import Derived.Test.YthbfhofogoagdaaGreatDoorTie
import Derived.Test.YthbfhofogoagdaaGreatDoorCards
import Derived.ProofKit
import Derived.LaidMore
import Derived.OpenShut
import Derived.ShutString
import Derived.ChangeOld
import Derived.Below
import Derived.Stop.Joined
import Derived.Lib.LaidTab
import Derived.SevenTiedAt
import Derived.SliceStrings
namespace Go.Proofs.YthbfhofogoagdaaGreatDoor.fnExactApplyStore
open Go.ChangeShapes Go.WideShapes Go.ChangeAt Go.RowKit
open Go.ChangeMaps (open_string shut_string)
set_option linter.unusedVariables false
theorem own:ownKnob Tryz.prog.godebug=none:=by kernel_rfl
theorem laidOut0:laidOutB Tryz.prog=true:=by kernel_rfl
theorem gTab : Tryz.prog.globalNamed "loop.example/g00226/impl.roundWords" = some 0 := by kernel_rfl
theorem tTab:(Tryz.prog.globals[0]?).map (·.type)=some 185:=by kernel_rfl
theorem door_met (os:Os) (args:Array Value):laidMetH Tryz.prog Rows.fnExactApplyStoreRow.laid ((World.doorLaid Tryz.prog 400 os).forCall (fun _ _=>0) ⟨#[],args,[]⟩).memory :=
 laidMetH_of_parts3 (fuel:=8) (laidMet_of_run' 8 (by kernel_rfl) (by kernel_rfl)) (by kernel_rfl) (by kernel_rfl)
theorem tab_of {W:World} (h:laidMetH Tryz.prog Rows.fnExactApplyStoreRow.laid W):Tab W:=by
 rw[MakeChecks.laidMetH_plain _ _ _ (by kernel_rfl)] at h
 have hT : Lib.TabIs Tryz.prog W "loop.example/g00226/impl.roundWords" .u32 (kL.map fun x => num x) := Lib.tabIs_of_head (rest := []) gTab tTab Tryz.underlying185 Tryz.underlying137 (by kernel_rfl) (by kernel_rfl) h
 have hc:∀ i,i<64→W.cell? ⟨0,i,none⟩=some (.int .u32 (num (kL.getD i 0))):=fun i hi=>by
  have hl:i<kL.length:=hi
  have:=hT.cell gTab i (by rw[List.length_map];exact hl)
  rw[this]
  simp[List.getD,hl]
 exact⟨block_lt_of_cell (hc 0 (by omega)),hc⟩
theorem sizeP_le (ps:List PairL) (j:Nat) (h:j<ps.length):ps[j].1.length+ps[j].2.length≤sizeP ps:=by
 have h1:sizeP ps=sizeP (ps.take (j+1))+sizeP (ps.drop (j+1)):=by
  conv=>lhs;rw[←List.take_append_drop (j+1) ps]
  simp only[sizeP,List.map_append,List.sum_append]
 rw[h1,sizeP_snoc ps j h];omega
theorem sizes_le (ps:List PairL) (L:Nat) (hL:L≤1048576) (h:ps.length+sizeP ps≤L):∀ p∈ps,p.1.length≤1048576∧p.2.length≤1048576:=by
 intro p hp
 obtain⟨j,hj,rfl⟩:=List.getElem_of_mem hp
 have:=sizeP_le ps j hj
 exact⟨by omega,by omega⟩
theorem sizesO_le9 (ps:List OpL) (L:Nat) (hL:L≤1048576) (h:ps.length+sizeO ps≤L):∀ p∈ps,p.1.length≤1048576∧p.2.1.length≤1048576:=sizesO_le ps (by omega)
theorem below_of_grownA {w w':World} (h:w.grownBy w' none):Below w.heap.size w w':=⟨h.os,h.tape,h.output,h.size,fun k hk=>h.block k hk (by simp)⟩
set_option maxRecDepth 100000 in
set_option maxHeartbeats 8000000 in
theorem walk (a : Option Addr) (cap : Nat) (ps : List PairL) (ar : ByteArray) (wr : ar.size ≤ maxLen) (c n : Int) (b : Option Addr) (cb : Nat) (os : List OpL) (w : World) (hl : ps.length ≤ 9223372036854775807) (hm : ∀ p ∈ ps, p.1.length ≤ 9223372036854775807 ∧ p.2.length ≤ 9223372036854775807) (hs : IsPairs w a ps) (hl2 : os.length ≤ 9223372036854775807) (hm2 : ∀ p ∈ os, p.1.length ≤ 9223372036854775807 ∧ p.2.1.length ≤ 9223372036854775807) (hs2 : IsOps w b os) (hT : Tab w) :
 Calls Tryz.prog 3 #[.slice a ps.length cap,.string ar,.agg #[.int .i64 c,.int .i64 n,.slice b os.length cb]] w fun e w'=>e=.returned (.bool true)∧Below w.heap.size w w':=by
 unfold maxLen at wr
 have HT:Hid (Tab w):=hT
 have BA0:Below w.heap.size w (w.alloc (.cells #[.int .i64 c,.int .i64 n,.slice b os.length cb] 25)):=(Below.refl _ _).alloc (Nat.le_refl _) _
 by_cases hbr:ar.size≤1048576
 case neg =>
  have hb':¬ (ar.size:Int)≤1048576:=by omega
  clear hs hm hs2 hm2 hT
  go_enter Tryz.func3,Tryz.ntmps3
  go_wp2
  go_ret
  exact⟨rfl,BA0⟩
 have er:ar=⟨ar.data.toList.toArray⟩:=ba_eq ar
 have hrl:ar.data.toList.length≤1048576:=by rw[Array.length_toList];exact hbr
 obtain⟨root,hhr⟩:∃ s,s=ar.data.toList:=⟨_,rfl⟩
 rw[←hhr] at er hrl
 clear hhr hbr wr BA0
 subst er
 have hri:(root.length:Int)≤1048576:=by omega
 have HS:Hid (∀ W,Below w.heap.size w W→IsPairs W a ps):=fun W hW=>hs.later hW
 have HS2:Hid (∀ W,Below w.heap.size w W→IsOps W b os):=fun W hW=>hs2.later hW
 have Bz:Below w.heap.size w w:=Below.refl _ _
 have Xp:Below w.heap.size w (w.alloc (.cells #[.int .i64 c,.int .i64 n,.slice b os.length cb] 25)):=(Below.refl _ _).alloc (Nat.le_refl _) _
 have Bp:=Bz.trans (Xp.mono Bz.size)
 have HaBp:Hid ((w.alloc (.cells #[.int .i64 c,.int .i64 n,.slice b os.length cb] 25)).heap[w.heap.size]? = some (.cells #[.int .i64 c,.int .i64 n,.slice b os.length cb] 25 (0,0))):=heap_alloc_new w _
 have KZ:=szStoredS_gen 1048576 (Nat.le_refl _) a cap ps (w.alloc (.cells #[.int .i64 c,.int .i64 n,.slice b os.length cb] 25)) hl hm (HS.out _ Bp)
 have HKZ2:Hid (∀ q W,q≤1048576→Below w.heap.size w W→_):=fun q W hq hW=>szBatch_gen q hq c n b cb os W hl2 hm2 (HS2.out W hW)
 clear hs hs2 hm hm2 Xp Bz hT
 go_enter Tryz.func3,Tryz.ntmps3
 go_wp2_with fail
 refine KZ.mono ?_
 rintro e w1 ⟨he,b1⟩
 have B1:=Bp.trans (b1.mono Bp.size)
 have HaB1:Hid (w1.heap[w.heap.size]? = some (.cells #[.int .i64 c,.int .i64 n,.slice b os.length cb] 25 (0,0))):=(b1.block (w.heap.size) (lt_of_block HaBp.out)).trans HaBp.out
 rcases he with rfl | ⟨hsz,n1,hn1,rfl⟩
 · go_wp2
   go_ret
   exact⟨rfl,B1⟩
 have hn10:(0:Int)≤(n1:Int):=by omega
 have KZ2:=HKZ2.out n1 w1 hn1 B1
 have HZ1:Hid (ps.length+sizeP ps≤1048576∧n1≤1048576):=⟨hsz,hn1⟩
 clear KZ HKZ2 b1 hsz hn1 HaBp
 obtain⟨aB0,aB1,aB2,_⟩:=bat_cells HaB1.out
 go_wp2_with fail
 refine KZ2.mono ?_
 rintro e w2 ⟨he,b2⟩
 have B2:=B1.trans (b2.mono B1.size)
 have HaB2:Hid (w2.heap[w.heap.size]? = some (.cells #[.int .i64 c,.int .i64 n,.slice b os.length cb] 25 (0,0))):=(b2.block (w.heap.size) (lt_of_block HaB1.out)).trans HaB1.out
 rcases he with rfl | ⟨hsz2,n2,hn2,rfl⟩
 · go_wp2
   go_ret
   exact⟨rfl,B2⟩
 have hn20:(0:Int)≤(n2:Int):=by omega
 have hln:ps.length≤1048576:=by have:=HZ1.out;omega
 have hln2:os.length≤1048576:=by have:=HZ1.out;omega
 have hmm:=sizes_le ps 1048576 (Nat.le_refl _) HZ1.out.1
 have hmm2:=sizesO_le9 os n1 HZ1.out.2 hsz2
 have HK1':=fun g h W (h1:IsPairs W (some ⟨g,0,none⟩) ps) (h2:IsOps W (some ⟨h,0,none⟩) os)=>spec_applyStore g 0 ps.length ps root c n (some ⟨h,0,none⟩) os.length os W hln hmm h1 hln2 hmm2 h2
 have HK2':=fun g h W (h0:Tab W) (h1:IsPairs W (some ⟨g,0,none⟩) ps) (h2:IsOps W (some ⟨h,0,none⟩) os)=>impl_applyStore (some ⟨g,0,none⟩) ps.length ps root c n (some ⟨h,0,none⟩) os.length os W h0 hln hmm h1 hrl hln2 hmm2 h2
 have hrl9:(((stR ps root c n os).map (·.1)).getD []).length≤2097152:=by have:=st_len ps root c n os;omega
 unfold UPost at HK1' HK2'
 obtain⟨ok,hok⟩:∃ ok,ok=(stR ps root c n os).isSome:=⟨_,rfl⟩
 obtain⟨rs,hrs⟩:∃ rs,rs=((stR ps root c n os).map (·.1)).getD []:=⟨_,rfl⟩
 obtain⟨rg,hrg⟩:∃ rg,rg=((stR ps root c n os).map (·.2)).getD []:=⟨_,rfl⟩
 rw[←hok,←hrs,←hrg] at HK1' HK2'
 rw[←hrs] at hrl9
 have HK1:Hid (∀ g h W,IsPairs W (some ⟨g,0,none⟩) ps→IsOps W (some ⟨h,0,none⟩) os→Calls Tryz.prog 6 #[.slice (some ⟨g,0,none⟩) ps.length ps.length,.string ⟨root.toArray⟩,.agg #[.int .i64 c,.int .i64 n,.slice (some ⟨h,0,none⟩) os.length os.length]] W fun e w'=>∃ (a:Option Addr) (m c:Nat),e=.returned (.tuple #[.slice a m c,.string ⟨rg.toArray⟩,.bool ok])∧w'.ownsRow W.heap.size 50 2 (.slice a m c) rs.length (pcells rs)∧Below W.heap.size W w'):=HK1'
 have HK2:Hid (∀ g h W,Tab W→IsPairs W (some ⟨g,0,none⟩) ps→IsOps W (some ⟨h,0,none⟩) os→Calls Tryz.prog 9 #[.slice (some ⟨g,0,none⟩) ps.length ps.length,.string ⟨root.toArray⟩,.agg #[.int .i64 c,.int .i64 n,.slice (some ⟨h,0,none⟩) os.length os.length]] W fun e w'=>∃ (a:Option Addr) (m c:Nat),e=.returned (.tuple #[.slice a m c,.string ⟨rg.toArray⟩,.bool ok])∧w'.ownsRow W.heap.size 50 2 (.slice a m c) rs.length (pcells rs)∧Below W.heap.size W w'):=HK2'
 have HTP:Hid (∀ W,Below w.heap.size w W→Calls Tryz.prog 7 #[.slice a ps.length cap] W fun e w'=>∃ g:Nat,e=.returned (.slice (some ⟨g,0,none⟩) ps.length ps.length)∧w'.ownsRow W.heap.size 50 2 (Value.slice (some ⟨g,0,none⟩) ps.length ps.length) ps.length (pcells ps)∧Below W.heap.size W w'):=fun W hW=>(toStoredS_any a cap ps W hln (HS.out W hW)).mono fun e w' ⟨h1,h2,h3⟩=>⟨W.heap.size,h1,h2,h3⟩
 have HTB:Hid (∀ W,Below w.heap.size w W→Calls Tryz.prog 8 #[.agg #[.int .i64 c,.int .i64 n,.slice b os.length cb]] W fun e w'=>∃ g:Nat,e=.returned (.agg #[.int .i64 c,.int .i64 n,.slice (some ⟨g,0,none⟩) os.length os.length])∧w'.ownsRow W.heap.size 67 3 (Value.slice (some ⟨g,0,none⟩) os.length os.length) os.length (ocells os)∧Below W.heap.size W w'):=fun W hW=>toBatch_any c n b cb os W hln2 (HS2.out W hW)
 clear HK1' HK2' hok hrs hrg hmm hmm2 hsz2 hn2 KZ2 HS HS2 hl hl2 b2 HZ1 hn10 hri hrl
 clear aB0 aB1 aB2
 clear HaB1
 have SB:Hid (∀ W,Below w2.heap.size w2 W→W.cell? ⟨w.heap.size,0,none⟩=some (.int .i64 c)∧W.cell? ⟨w.heap.size,1,none⟩=some (.int .i64 n)∧W.cell? ⟨w.heap.size,2,none⟩=some (.slice b os.length cb)):=fun W hW=>by
  obtain⟨u0,u1,u2,_⟩:=bat_cells ((hW.block _ (lt_of_block HaB2.out)).trans HaB2.out)
  exact⟨u0,u1,u2⟩
 have BD:Below w2.heap.size w2 w2.drew:=⟨rfl,rfl,rfl,Nat.le_refl _,fun _ _=>rfl⟩
 have WD:Below w.heap.size w w2.drew:=B2.trans (BD.mono B2.size)
 go_wp2
 go_region_held3 (fun w'=>w'.cell? ⟨w.heap.size,0,none⟩=some (.int .i64 c)∧w'.cell? ⟨w.heap.size,1,none⟩=some (.int .i64 n)∧w'.cell? ⟨w.heap.size,2,none⟩=some (.slice b os.length cb)) (first | with_reducible exact SB.out _ BC3.out | with_reducible exact SB.out _ BC2.out | with_reducible exact SB.out _ BC1.out | with_reducible exact SB.out _ BD)
  (first
   | (go_at_call 7
      with_reducible refine (HTP.out w2.drew WD).mono ?_
      rintro e wsi ⟨g3,rfl,o3,b3⟩
      have BC1:Hid (Below w2.heap.size w2 wsi):=BD.trans (b3.mono BD.size)
      have WC1:Hid (Below w.heap.size w wsi):=B2.trans (BC1.out.mono B2.size)
      have O3:Hid (wsi.ownsRow w2.heap.size 50 2 (Value.slice (some ⟨g3,0,none⟩) ps.length ps.length) ps.length (pcells ps)):=o3
      clear o3 b3)
   | (go_at_call 8
      with_reducible refine (HTB.out wsi WC1.out).mono ?_
      rintro e wsj ⟨g4,rfl,o4,b4⟩
      have BC2:Hid (Below w2.heap.size w2 wsj):=BC1.out.trans (b4.mono BC1.out.size)
      have WC2:Hid (Below w.heap.size w wsj):=B2.trans (BC2.out.mono B2.size)
      have I4:Hid (IsPairs wsj (some ⟨g3,0,none⟩) ps∧IsOps wsj (some ⟨g4,0,none⟩) os):=⟨(isPairs_own (kept2 O3.out b4)).2.2,(isOps_own o4).2.2⟩
      clear o4 b4)
   | (go_at_call 6
      with_reducible refine (HK1.out g3 g4 wsj I4.out.1 I4.out.2).mono ?_
      rintro e wsk ⟨aw,mw,cw,rfl,o5,b5⟩
      obtain⟨rfl,_,_⟩:=isPairs_own o5
      have BC3:Hid (Below w2.heap.size w2 wsk):=BC2.out.trans (b5.mono BC2.out.size)
      have Rws:Hid (wsk.ownsRow w2.heap.size 50 2 (Value.slice aw rs.length cw) rs.length (pcells rs)):=o5.mono BC2.out.size
      clear o5 b5))
 all_goals clear SB BD WD BC1 BC2 WC1 WC2 I4 O3
 all_goals
  have b9:=BC3.out
  clear BC3
  have Bs9:=B2.trans (b9.mono B2.size)
  have HaBs9:Hid (wsk.heap[w.heap.size]? = some (.cells #[.int .i64 c,.int .i64 n,.slice b os.length cb] 25 (0,0))):=(b9.block (w.heap.size) (lt_of_block HaB2.out)).trans HaB2.out
  clear b9
  have Lw:Hid (∀ q,(Value.slice aw rs.length cw).ownBlock=some q→w2.heap.size≤q∧q<wsk.heap.size):=fun q hq=>Rws.out.lt q hq
  have S0:Hid (w.heap.size<wsk.heap.size):=lt_of_block HaBs9.out
  go_wp2_with fail
  refine (HTP.out wsk Bs9).mono ?_
  rintro e w4 ⟨gx,rfl,ogx,bgx⟩
  have Bw4:=Bs9.trans (bgx.mono Bs9.size)
  have HaBw4:Hid (w4.heap[w.heap.size]? = some (.cells #[.int .i64 c,.int .i64 n,.slice b os.length cb] 25 (0,0))):=(bgx.block (w.heap.size) (lt_of_block HaBs9.out)).trans HaBs9.out
  have Rww4:=hidOwn (kept2 Rws.out bgx)
  have Rx1w4:Hid (w4.ownsRow wsk.heap.size 50 2 (Value.slice (some ⟨gx,0,none⟩) ps.length ps.length) ps.length (pcells ps)):=ogx
  have Lx1:Hid (wsk.heap.size≤gx∧gx<w4.heap.size):=ogx.lt gx (by simp[Value.ownBlock])
  clear ogx bgx
  obtain⟨aB0,aB1,aB2,_⟩:=bat_cells HaBw4.out
  go_wp2_with fail
  refine (HTB.out w4 Bw4).mono ?_
  rintro e w5 ⟨hx,rfl,ohx,bhx⟩
  have Bw5:=Bw4.trans (bhx.mono Bw4.size)
  have HaBw5:Hid (w5.heap[w.heap.size]? = some (.cells #[.int .i64 c,.int .i64 n,.slice b os.length cb] 25 (0,0))):=(bhx.block (w.heap.size) (lt_of_block HaBw4.out)).trans HaBw4.out
  have Rww5:=hidOwn (kept2 Rww4.out bhx)
  have Rx1w5:=hidOwn (kept2 Rx1w4.out bhx)
  have Rx2w5:Hid (w5.ownsRow w4.heap.size 67 3 (Value.slice (some ⟨hx,0,none⟩) os.length os.length) os.length (ocells os)):=ohx
  have Lx2:Hid (w4.heap.size≤hx∧hx<w5.heap.size):=ohx.lt hx (by simp[Value.ownBlock])
  clear ohx bhx
  clear aB0 aB1 aB2
  have Xw5a:Below w5.heap.size w5 (w5.alloc (.cells #[.int .i64 c,.int .i64 n,.slice (some ⟨hx,0,none⟩) os.length os.length] 34)):=(Below.refl _ _).alloc (Nat.le_refl _) _
  have Bw5a:=Bw5.trans (Xw5a.mono Bw5.size)
  have HaBw5a:Hid ((w5.alloc (.cells #[.int .i64 c,.int .i64 n,.slice (some ⟨hx,0,none⟩) os.length os.length] 34)).heap[w.heap.size]? = some (.cells #[.int .i64 c,.int .i64 n,.slice b os.length cb] 25 (0,0))):=(Xw5a.block (w.heap.size) (lt_of_block HaBw5.out)).trans HaBw5.out
  have Rww5a:=hidOwn (kept2 Rww5.out Xw5a)
  have Rx1w5a:=hidOwn (kept2 Rx1w5.out Xw5a)
  have Rx2w5a:=hidOwn (kept3 Rx2w5.out Xw5a)
  have Hxw5a:Hid ((w5.alloc (.cells #[.int .i64 c,.int .i64 n,.slice (some ⟨hx,0,none⟩) os.length os.length] 34)).heap[w5.heap.size]? = some (.cells #[.int .i64 c,.int .i64 n,.slice (some ⟨hx,0,none⟩) os.length os.length] 34 (0,0))):=heap_alloc_new w5 _
  obtain⟨x0,x1,x2,_⟩:=bat_cells Hxw5a.out
  go_wp2_with fail
  refine (HK2.out gx hx (w5.alloc (.cells #[.int .i64 c,.int .i64 n,.slice (some ⟨hx,0,none⟩) os.length os.length] 34)) (HT.out.later Bw5a) (isPairs_own Rx1w5a.out).2.2 (isOps_own Rx2w5a.out).2.2).mono ?_
  rintro e w6 ⟨ag,mg,cg,rfl,og,bg⟩
  obtain⟨rfl,_,_⟩:=isPairs_own og
  have Bw6:=Bw5a.trans (bg.mono Bw5a.size)
  have HaBw6:Hid (w6.heap[w.heap.size]? = some (.cells #[.int .i64 c,.int .i64 n,.slice b os.length cb] 25 (0,0))):=(bg.block (w.heap.size) (lt_of_block HaBw5a.out)).trans HaBw5a.out
  have Hxw6:Hid (w6.heap[w5.heap.size]? = some (.cells #[.int .i64 c,.int .i64 n,.slice (some ⟨hx,0,none⟩) os.length os.length] 34 (0,0))):=(bg.block (w5.heap.size) (lt_of_block Hxw5a.out)).trans Hxw5a.out
  have Rww6:=hidOwn (kept2 Rww5a.out bg)
  have Rx1w6:=hidOwn (kept2 Rx1w5a.out bg)
  have Rx2w6:=hidOwn (kept3 Rx2w5a.out bg)
  have Rgw6:Hid (w6.ownsRow (w5.alloc (.cells #[.int .i64 c,.int .i64 n,.slice (some ⟨hx,0,none⟩) os.length os.length] 34)).heap.size 50 2 (Value.slice ag rs.length cg) rs.length (pcells rs)):=og
  have Lg:Hid (∀ q,(Value.slice ag rs.length cg).ownBlock=some q→(w5.alloc (.cells #[.int .i64 c,.int .i64 n,.slice (some ⟨hx,0,none⟩) os.length os.length] 34)).heap.size≤q∧q<w6.heap.size):=fun q hq=>og.lt q hq
  have S5:Hid ((w5.alloc (.cells #[.int .i64 c,.int .i64 n,.slice (some ⟨hx,0,none⟩) os.length os.length] 34)).heap.size=w5.heap.size+1):=by rw[Hid];simp
  clear og bg
  clear x0 x1 x2
  go_wp2_with fail
  refine (eqStoredS_same rs ag aw _ _ _ (by omega) (isPairs_own Rgw6.out).2.2 (isPairs_own Rww6.out).2.2).mono ?_
  rintro e w7 ⟨rfl,b9⟩
  have Bw7:=Bw6.trans (b9.mono Bw6.size)
  have HaBw7:Hid (w7.heap[w.heap.size]? = some (.cells #[.int .i64 c,.int .i64 n,.slice b os.length cb] 25 (0,0))):=(b9.block (w.heap.size) (lt_of_block HaBw6.out)).trans HaBw6.out
  have Hxw7:Hid (w7.heap[w5.heap.size]? = some (.cells #[.int .i64 c,.int .i64 n,.slice (some ⟨hx,0,none⟩) os.length os.length] 34 (0,0))):=(b9.block (w5.heap.size) (lt_of_block Hxw6.out)).trans Hxw6.out
  have Rww7:=hidOwn (kept2 Rww6.out b9)
  have Rx1w7:=hidOwn (kept2 Rx1w6.out b9)
  have Rx2w7:=hidOwn (kept3 Rx2w6.out b9)
  have Rgw7:=hidOwn (kept2 Rgw6.out b9)
  clear b9
  go_wp2_with fail
  refine (HTP.out w7 Bw7).mono ?_
  rintro e w8 ⟨gz,rfl,ogz,bgz⟩
  have Bw8:=Bw7.trans (bgz.mono Bw7.size)
  have HaBw8:Hid (w8.heap[w.heap.size]? = some (.cells #[.int .i64 c,.int .i64 n,.slice b os.length cb] 25 (0,0))):=(bgz.block (w.heap.size) (lt_of_block HaBw7.out)).trans HaBw7.out
  have Hxw8:Hid (w8.heap[w5.heap.size]? = some (.cells #[.int .i64 c,.int .i64 n,.slice (some ⟨hx,0,none⟩) os.length os.length] 34 (0,0))):=(bgz.block (w5.heap.size) (lt_of_block Hxw7.out)).trans Hxw7.out
  have Rww8:=hidOwn (kept2 Rww7.out bgz)
  have Rx1w8:=hidOwn (kept2 Rx1w7.out bgz)
  have Rx2w8:=hidOwn (kept3 Rx2w7.out bgz)
  have Rgw8:=hidOwn (kept2 Rgw7.out bgz)
  have Rzw8:Hid (w8.ownsRow w7.heap.size 50 2 (Value.slice (some ⟨gz,0,none⟩) ps.length ps.length) ps.length (pcells ps)):=ogz
  have Lz:Hid (w7.heap.size≤gz∧gz<w8.heap.size):=ogz.lt gz (by simp[Value.ownBlock])
  clear ogz bgz
  go_wp2_with fail
  refine (eqStoredS_same ps (some ⟨gx,0,none⟩) (some ⟨gz,0,none⟩) _ _ _ (by omega) (isPairs_own Rx1w8.out).2.2 (isPairs_own Rzw8.out).2.2).mono ?_
  rintro e w9 ⟨rfl,b9⟩
  have Bw9:=Bw8.trans (b9.mono Bw8.size)
  have HaBw9:Hid (w9.heap[w.heap.size]? = some (.cells #[.int .i64 c,.int .i64 n,.slice b os.length cb] 25 (0,0))):=(b9.block (w.heap.size) (lt_of_block HaBw8.out)).trans HaBw8.out
  have Hxw9:Hid (w9.heap[w5.heap.size]? = some (.cells #[.int .i64 c,.int .i64 n,.slice (some ⟨hx,0,none⟩) os.length os.length] 34 (0,0))):=(b9.block (w5.heap.size) (lt_of_block Hxw8.out)).trans Hxw8.out
  have Rww9:=hidOwn (kept2 Rww8.out b9)
  have Rx1w9:=hidOwn (kept2 Rx1w8.out b9)
  have Rx2w9:=hidOwn (kept3 Rx2w8.out b9)
  have Rgw9:=hidOwn (kept2 Rgw8.out b9)
  have Rzw9:=hidOwn (kept2 Rzw8.out b9)
  clear b9
  have SB:Hid (∀ W,Below w9.heap.size w9 W→W.cell? ⟨w.heap.size,0,none⟩=some (.int .i64 c)∧W.cell? ⟨w.heap.size,1,none⟩=some (.int .i64 n)∧W.cell? ⟨w.heap.size,2,none⟩=some (.slice b os.length cb)∧W.cell? ⟨w5.heap.size,0,none⟩=some (.int .i64 c)∧W.cell? ⟨w5.heap.size,1,none⟩=some (.int .i64 n)∧W.cell? ⟨w5.heap.size,2,none⟩=some ((Value.slice (some ⟨hx,0,none⟩) os.length os.length))):=fun W hW=>by
   obtain⟨u0,u1,u2,_⟩:=bat_cells ((hW.block _ (lt_of_block HaBw9.out)).trans HaBw9.out)
   obtain⟨v0,v1,v2,_⟩:=bat_cells ((hW.block _ (lt_of_block Hxw9.out)).trans Hxw9.out)
   exact⟨u0,u1,u2,v0,v1,v2⟩
  have BD:Below w9.heap.size w9 w9.drew:=⟨rfl,rfl,rfl,Nat.le_refl _,fun _ _=>rfl⟩
  have WD:Below w.heap.size w w9.drew:=Bw9.trans (BD.mono Bw9.size)
  go_wp2
  go_region_held3 (fun w'=>w'.cell? ⟨w.heap.size,0,none⟩=some (.int .i64 c)∧w'.cell? ⟨w.heap.size,1,none⟩=some (.int .i64 n)∧w'.cell? ⟨w.heap.size,2,none⟩=some (.slice b os.length cb)∧w'.cell? ⟨w5.heap.size,0,none⟩=some (.int .i64 c)∧w'.cell? ⟨w5.heap.size,1,none⟩=some (.int .i64 n)∧w'.cell? ⟨w5.heap.size,2,none⟩=some ((Value.slice (some ⟨hx,0,none⟩) os.length os.length))) (first | with_reducible exact SB.out _ BC2 | with_reducible exact SB.out _ BC1 | with_reducible exact SB.out _ BD)
   (first
    | (go_at_call 8
       with_reducible refine (HTB.out w9.drew WD).mono ?_
       rintro e wci ⟨hz,rfl,oz,b7⟩
       have BC1:Below w9.heap.size w9 wci:=BD.trans (b7.mono BD.size)
       have J1:Hid (IsOps wci (some ⟨hx,0,none⟩) os∧IsOps wci (some ⟨hz,0,none⟩) os):=⟨(isOps_own (kept3 Rx2w9.out BC1)).2.2,(isOps_own oz).2.2⟩
       clear oz b7)
    | (go_at_call 11
       with_reducible refine (eqBatch_same c n (some ⟨hx,0,none⟩) (some ⟨hz,0,none⟩) os.length os.length os wci (by omega) J1.out.1 J1.out.2).mono ?_
       rintro e wcj ⟨rfl,b8⟩
       have BC2:Below w9.heap.size w9 wcj:=BC1.trans (b8.mono BC1.size)
       clear b8))
  all_goals clear SB BD WD J1
  all_goals
   have b9:=BC2
   clear BC1 BC2
   have Bc9:=Bw9.trans (b9.mono Bw9.size)
   have HaBc9:Hid (wcj.heap[w.heap.size]? = some (.cells #[.int .i64 c,.int .i64 n,.slice b os.length cb] 25 (0,0))):=(b9.block (w.heap.size) (lt_of_block HaBw9.out)).trans HaBw9.out
   have Hxc9:Hid (wcj.heap[w5.heap.size]? = some (.cells #[.int .i64 c,.int .i64 n,.slice (some ⟨hx,0,none⟩) os.length os.length] 34 (0,0))):=(b9.block (w5.heap.size) (lt_of_block Hxw9.out)).trans Hxw9.out
   have Rwc9:=hidOwn (kept2 Rww9.out b9)
   have Rx1c9:=hidOwn (kept2 Rx1w9.out b9)
   have Rx2c9:=hidOwn (kept3 Rx2w9.out b9)
   have Rgc9:=hidOwn (kept2 Rgw9.out b9)
   clear b9
   have KM:=markStoredS_any ps (some ⟨gx,0,none⟩) ps.length ps.length _ 1 wcj (by omega) (by omega) (by omega) Rx1c9.out
   obtain⟨k1,hk1⟩:∃ k1:Nat,k1=1+2*ps.length:=⟨_,rfl⟩
   have HK9:Hid ((1:Int)+2*(ps.length:Int)=(k1:Int)):=by rw[Hid];omega
   have hk1b:k1≤3000000:=by omega
   have hk1p:0<k1:=by omega
   clear hk1
   go_wp2_with fail
   refine KM.mono ?_
   rintro e wm ⟨he,_,G1⟩
   rw[show ((1:Nat):Int)+2*(ps.length:Int)=(k1:Int) from HK9.out] at he
   subst he
   have HaBm:Hid (wm.heap[w.heap.size]? = some (.cells #[.int .i64 c,.int .i64 n,.slice b os.length cb] 25 (0,0))):=(G1.block (w.heap.size) (lt_of_block HaBc9.out) (fun e=>by have hx1:=Lx1.out;have hx2:=Lx2.out;have hs0:=S0.out;have hs5:=S5.out;simp[Value.ownBlock] at e;omega)).trans HaBc9.out
   have Hxm:Hid (wm.heap[w5.heap.size]? = some (.cells #[.int .i64 c,.int .i64 n,.slice (some ⟨hx,0,none⟩) os.length os.length] 34 (0,0))):=(G1.block (w5.heap.size) (lt_of_block Hxc9.out) (fun e=>by have hx1:=Lx1.out;have hx2:=Lx2.out;have hs0:=S0.out;have hs5:=S5.out;simp[Value.ownBlock] at e;omega)).trans Hxc9.out
   have Rwm:=hidOwn (Rwc9.out.kept G1 (by
    cases hv:(Value.slice aw rs.length cw).ownBlock with
    | none=>exact .inl rfl
    | some q=>exact .inr (fun e=>by have hx1:=Lx1.out;have hx2:=Lx2.out;have hs0:=S0.out;have hs5:=S5.out;simp[Value.ownBlock] at e;have h1:=Lw.out q hv;omega)))
   have Rx2m:=hidOwn (Rx2c9.out.kept G1 (by
    cases hv:(Value.slice (some ⟨hx,0,none⟩) os.length os.length).ownBlock with
    | none=>exact .inl rfl
    | some q=>exact .inr (fun e=>by have hx1:=Lx1.out;have hx2:=Lx2.out;have hs0:=S0.out;have hs5:=S5.out;simp[Value.ownBlock] at e;simp[Value.ownBlock] at hv;omega)))
   have Rgm:=hidOwn (Rgc9.out.kept G1 (by
    cases hv:(Value.slice ag rs.length cg).ownBlock with
    | none=>exact .inl rfl
    | some q=>exact .inr (fun e=>by have hx1:=Lx1.out;have hx2:=Lx2.out;have hs0:=S0.out;have hs5:=S5.out;simp[Value.ownBlock] at e;have h1:=Lg.out q hv;omega)))
   have Bm:Below w.heap.size w wm:=Bc9.grown G1 Bc9.size (fun q hq=>by have hx1:=Lx1.out;have hx2:=Lx2.out;have hs0:=S0.out;have hs5:=S5.out;simp[Value.ownBlock] at hq;omega)
   clear KM G1
   obtain⟨x0,x1,x2,_⟩:=bat_cells Hxm.out
   have KM:=markBatch_gen c n os (some ⟨hx,0,none⟩) os.length os.length _ k1 wm (by omega) hk1p (by omega) Rx2m.out
   have hk0:¬ (k1:Int)+3*(os.length:Int)<0:=by omega
   have hkb:decide ((k1:Int)+3*(os.length:Int)<0)=false:=decide_eq_false hk0
   go_wp2_with fail
   refine KM.mono ?_
   rintro e wn ⟨he,_,G2⟩
   subst he
   have HaBn:Hid (wn.heap[w.heap.size]? = some (.cells #[.int .i64 c,.int .i64 n,.slice b os.length cb] 25 (0,0))):=(G2.block (w.heap.size) (lt_of_block HaBm.out) (fun e=>by have hx1:=Lx1.out;have hx2:=Lx2.out;have hs0:=S0.out;have hs5:=S5.out;simp[Value.ownBlock] at e;omega)).trans HaBm.out
   have Hxn:Hid (wn.heap[w5.heap.size]? = some (.cells #[.int .i64 c,.int .i64 n,.slice (some ⟨hx,0,none⟩) os.length os.length] 34 (0,0))):=(G2.block (w5.heap.size) (lt_of_block Hxm.out) (fun e=>by have hx1:=Lx1.out;have hx2:=Lx2.out;have hs0:=S0.out;have hs5:=S5.out;simp[Value.ownBlock] at e;omega)).trans Hxm.out
   have Rwn:=hidOwn (Rwm.out.kept G2 (by
    cases hv:(Value.slice aw rs.length cw).ownBlock with
    | none=>exact .inl rfl
    | some q=>exact .inr (fun e=>by have hx1:=Lx1.out;have hx2:=Lx2.out;have hs0:=S0.out;have hs5:=S5.out;simp[Value.ownBlock] at e;have h1:=Lw.out q hv;omega)))
   have Rgn:=hidOwn (Rgm.out.kept G2 (by
    cases hv:(Value.slice ag rs.length cg).ownBlock with
    | none=>exact .inl rfl
    | some q=>exact .inr (fun e=>by have hx1:=Lx1.out;have hx2:=Lx2.out;have hs0:=S0.out;have hs5:=S5.out;simp[Value.ownBlock] at e;have h1:=Lg.out q hv;omega)))
   have Bn:Below w.heap.size w wn:=Bm.grown G2 Bm.size (fun q hq=>by have hx1:=Lx1.out;have hx2:=Lx2.out;have hs0:=S0.out;have hs5:=S5.out;simp[Value.ownBlock] at hq;omega)
   clear x0 x1 x2
   clear KM G2
   go_wp2_with fail
   refine (eqStoredS_same rs ag aw _ _ _ (by omega) (isPairs_own Rgn.out).2.2 (isPairs_own Rwn.out).2.2).mono ?_
   rintro e wo ⟨rfl,b9⟩
   have Bwo:=Bn.trans (b9.mono Bn.size)
   have HaBwo:Hid (wo.heap[w.heap.size]? = some (.cells #[.int .i64 c,.int .i64 n,.slice b os.length cb] 25 (0,0))):=(b9.block (w.heap.size) (lt_of_block HaBn.out)).trans HaBn.out
   have Rwwo:=hidOwn (kept2 Rwn.out b9)
   have Rgwo:=hidOwn (kept2 Rgn.out b9)
   clear b9
   have hq0:¬ (1:Int)+2*(rs.length:Int)<0:=by omega
   have KM:=markStoredS_any rs ag rs.length cg _ 1 wo (by omega) (by omega) (by omega) Rgwo.out
   go_wp2_with fail
   refine KM.mono ?_
   rintro e wa ⟨he,om,G⟩
   subst he
   have HaBwa:Hid (wa.heap[w.heap.size]? = some (.cells #[.int .i64 c,.int .i64 n,.slice b os.length cb] 25 (0,0))):=(G.block (w.heap.size) (lt_of_block HaBwo.out) (fun e=>by have hx1:=Lx1.out;have hx2:=Lx2.out;have hs0:=S0.out;have hs5:=S5.out;have h2:=Lg.out _ e.symm;omega)).trans HaBwo.out
   have Rwwa:=hidOwn (Rwwo.out.kept G (by
    cases hv:(Value.slice aw rs.length cw).ownBlock with
    | none=>exact .inl rfl
    | some q=>exact .inr (fun e=>by have hx1:=Lx1.out;have hx2:=Lx2.out;have hs0:=S0.out;have hs5:=S5.out;have h2:=Lg.out _ e.symm;have h1:=Lw.out q hv;omega)))
   have Bwa:Below w.heap.size w wa:=Bwo.grown G Bwo.size (fun q hq=>by have hx1:=Lx1.out;have hx2:=Lx2.out;have hs0:=S0.out;have hs5:=S5.out;have h2:=Lg.out q hq;omega)
   have Rgwa:=hidOwn om
   clear KM G om
   have KM:=heldStoredS_any rs.length ag rs.length cg _ 1 wa (by omega) (by omega) (by omega) Rgwa.out
   go_wp2_with fail
   refine KM.mono ?_
   rintro e wb ⟨rfl,G⟩
   have bh:=below_of_grownA G
   have Bwb:=Bwa.trans (bh.mono Bwa.size)
   have HaBwb:Hid (wb.heap[w.heap.size]? = some (.cells #[.int .i64 c,.int .i64 n,.slice b os.length cb] 25 (0,0))):=(bh.block (w.heap.size) (lt_of_block HaBwa.out)).trans HaBwa.out
   have Rwwb:=hidOwn (kept2 Rwwa.out bh)
   have Rgwb:=hidOwn (kept2 Rgwa.out bh)
   clear KM G bh
   have SB:Hid (∀ W,Below wb.heap.size wb W→W.cell? ⟨w.heap.size,0,none⟩=some (.int .i64 c)∧W.cell? ⟨w.heap.size,1,none⟩=some (.int .i64 n)∧W.cell? ⟨w.heap.size,2,none⟩=some (.slice b os.length cb)):=fun W hW=>by
    obtain⟨u0,u1,u2,_⟩:=bat_cells ((hW.block _ (lt_of_block HaBwb.out)).trans HaBwb.out)
    exact⟨u0,u1,u2⟩
   have BD:Below wb.heap.size wb wb.drew:=⟨rfl,rfl,rfl,Nat.le_refl _,fun _ _=>rfl⟩
   have WD:Below w.heap.size w wb.drew:=Bwb.trans (BD.mono Bwb.size)
   go_wp2
   go_region_held3 (fun w'=>w'.cell? ⟨w.heap.size,0,none⟩=some (.int .i64 c)∧w'.cell? ⟨w.heap.size,1,none⟩=some (.int .i64 n)∧w'.cell? ⟨w.heap.size,2,none⟩=some (.slice b os.length cb)) (first | with_reducible exact SB.out _ BC3.out | with_reducible exact SB.out _ BC2.out | with_reducible exact SB.out _ BC1.out | with_reducible exact SB.out _ BD)
    (first
     | (go_at_call 7
        with_reducible refine (HTP.out wb.drew WD).mono ?_
        rintro e wti ⟨g3,rfl,o3,b3⟩
        have BC1:Hid (Below wb.heap.size wb wti):=BD.trans (b3.mono BD.size)
        have WC1:Hid (Below w.heap.size w wti):=Bwb.trans (BC1.out.mono Bwb.size)
        have O3:Hid (wti.ownsRow wb.heap.size 50 2 (Value.slice (some ⟨g3,0,none⟩) ps.length ps.length) ps.length (pcells ps)):=o3
        clear o3 b3)
     | (go_at_call 8
        with_reducible refine (HTB.out wti WC1.out).mono ?_
        rintro e wtj ⟨g4,rfl,o4,b4⟩
        have BC2:Hid (Below wb.heap.size wb wtj):=BC1.out.trans (b4.mono BC1.out.size)
        have WC2:Hid (Below w.heap.size w wtj):=Bwb.trans (BC2.out.mono Bwb.size)
        have I4:Hid (IsPairs wtj (some ⟨g3,0,none⟩) ps∧IsOps wtj (some ⟨g4,0,none⟩) os):=⟨(isPairs_own (kept2 O3.out b4)).2.2,(isOps_own o4).2.2⟩
        clear o4 b4)
     | (go_at_call 9
        with_reducible refine (HK2.out g3 g4 wtj (HT.out.later WC2.out) I4.out.1 I4.out.2).mono ?_
        rintro e wtk ⟨ah,mh,ch,rfl,o5,b5⟩
        obtain⟨rfl,_,_⟩:=isPairs_own o5
        have BC3:Hid (Below wb.heap.size wb wtk):=BC2.out.trans (b5.mono BC2.out.size)
        have Rht:Hid (wtk.ownsRow wb.heap.size 50 2 (Value.slice ah rs.length ch) rs.length (pcells rs)):=o5.mono BC2.out.size
        clear o5 b5))
   all_goals clear SB BD WD BC1 BC2 WC1 WC2 I4 O3
   all_goals
    have b9:=BC3.out
    clear BC3
    have Bt9:=Bwb.trans (b9.mono Bwb.size)
    have HaBt9:Hid (wtk.heap[w.heap.size]? = some (.cells #[.int .i64 c,.int .i64 n,.slice b os.length cb] 25 (0,0))):=(b9.block (w.heap.size) (lt_of_block HaBwb.out)).trans HaBwb.out
    have Rwt9:=hidOwn (kept2 Rwwb.out b9)
    have Rgt9:=hidOwn (kept2 Rgwb.out b9)
    clear b9
    go_wp2_with fail
    refine (eqStoredS_same rs ah aw _ _ _ (by omega) (isPairs_own Rht.out).2.2 (isPairs_own Rwt9.out).2.2).mono ?_
    rintro e we ⟨rfl,b9⟩
    have Bwe:=Bt9.trans (b9.mono Bt9.size)
    have HaBwe:Hid (we.heap[w.heap.size]? = some (.cells #[.int .i64 c,.int .i64 n,.slice b os.length cb] 25 (0,0))):=(b9.block (w.heap.size) (lt_of_block HaBt9.out)).trans HaBt9.out
    have Rwwe:=hidOwn (kept2 Rwt9.out b9)
    have Rgwe:=hidOwn (kept2 Rgt9.out b9)
    have Rhwe:=hidOwn (kept2 Rht.out b9)
    clear b9
    have KM:=heldStoredS_any rs.length ag rs.length cg _ 1 we (by omega) (by omega) (by omega) Rgwe.out
    go_wp2_with fail
    refine KM.mono ?_
    rintro e wf ⟨rfl,G⟩
    have bh:=below_of_grownA G
    have Bwf:=Bwe.trans (bh.mono Bwe.size)
    have HaBwf:Hid (wf.heap[w.heap.size]? = some (.cells #[.int .i64 c,.int .i64 n,.slice b os.length cb] 25 (0,0))):=(bh.block (w.heap.size) (lt_of_block HaBwe.out)).trans HaBwe.out
    have Rwwf:=hidOwn (kept2 Rwwe.out bh)
    have Rgwf:=hidOwn (kept2 Rgwe.out bh)
    have Rhwf:=hidOwn (kept2 Rhwe.out bh)
    clear KM G bh
    go_wp2
    go_ret
    exact⟨rfl,Bwf⟩
set_option maxRecDepth 100000 in
theorem lifted (os:Os) (started:os.Started) (H:Type) (enc:TypeId × Value→H) :
 ReturnsInHanded {} Tryz.checked os 3 .any (fun w args=>(Rows.fnExactApplyStoreSpec.pre enc Tryz.prog Tryz.f3 [] false w args∧laidMetH Tryz.prog Rows.fnExactApplyStoreRow.laid w)∧sizedMet enc Tryz.prog Tryz.f3 (OpenSpec.ofChange Rows.fnExactApplyStoreSpec) false w args)
  (Rows.fnExactApplyStoreSpec.post enc Tryz.prog Tryz.f3 false true false false):=by
 refine returnsInHanded_of_change_and (C:=Tryz.checked) (X:=fun w _=>laidMetH Tryz.prog Rows.fnExactApplyStoreRow.laid w) (fun _ _ _ hh h=>h.of_heap hh) own started (by kernel_rfl) Tryz.func3
  (ChangeSpec.witness_shaped (enc:=enc) (C:=Tryz.checked) (os:=os) (X:=fun w _=>laidMetH Tryz.prog Rows.fnExactApplyStoreRow.laid w) false (World.doorLaid Tryz.prog 400 os) #[.slice none 0 0,.string ByteArray.empty,.agg #[.int .i64 0,.int .i64 0,.slice none 0 0]] 8 rfl (World.shaped_of_RefB (by kernel_rfl) (by kernel_rfl)) (by kernel_rfl) (by kernel_rfl) (by kernel_rfl) (door_met os _)) ?_
 intro W base args ds gs before hval0 hW _ _ hL _
 have hval:∀ (j:Nat) t v,Tryz.f3.params[j]? = some t→args[j]? = some v→Value.okWide Tryz.prog W .any base t v:=hval0
 have hW':=hW
 obtain⟨p,q,hA0,hV0,rfl,hfz,hnd⟩:=hW
 have hA:DataW.TrodAll enc Tryz.prog W 0 (fun _=>true) true Tryz.f3.params.toList args.toList ds p:=hA0
 have hV : DataW.TrodVars enc Tryz.prog W (fun _ => true) ["loop.example/g00226/impl.roundWords"] gs q := hV0
 rw[Tryz.params3] at hA hval
 obtain⟨v0,vs0,d0,ds0,p0,q0,hargs,rfl,rfl,h0,r0⟩:=trodAll_cons hA
 obtain⟨v1,vs1,d1,ds1,p1,q1,hargs1,rfl,rfl,h1,r1⟩:=trodAll_cons r0
 obtain⟨v2,vs2,d2,ds2,p2,q2,hargs2,rfl,rfl,h2,r2⟩:=trodAll_cons r1
 obtain⟨rfl,rfl,rfl⟩:=trodAll_nil r2
 obtain rfl:args=#[v0,v1,v2]:=by cases args;simp_all
 obtain⟨a1,rfl,rfl,rfl,w1⟩:=open_string Tryz.underlying9 (hval 1 9 v1 rfl rfl) h1
 have k0:=h0
 have k2:=h2
 have lt0:∀ x∈p0,x.block<W.heap.size:=by obtain⟨m,hm⟩:=k0;exact DataW.trod_lt m _ _ _ hm
 have lt2:∀ x∈p2,x.block<W.heap.size:=by obtain⟨m,hm⟩:=k2;exact DataW.trod_lt m _ _ _ hm
 obtain⟨a0,ps,cap0,hv0,hm,hs,hbig⟩:∃ (a:Option Addr) (ps:List PairL) (cap:Nat),v0=.slice a ps.length cap∧(∀ p∈ps,p.1.length≤9223372036854775807∧p.2.length≤9223372036854775807)∧IsPairs W a ps∧ps.length≤9223372036854775807:=by
  obtain⟨a9,len1,cap1,rfl⟩:=okWide_slice Tryz.underlying22 (hval 0 22 v0 rfl rfl)
  obtain⟨fuel,hf⟩:=h0
  exact stored_of (by simpa [Value.cells] using hf)
 obtain⟨cc,nn,b0,cb0,oo,hv2,hs2,hl2,hm2⟩:=batch_of (hval 2 25 v2 rfl rfl) h2
 subst hv0 hv2
 obtain⟨g,t,cs,fuel,d,p',rfl,hg,ht,hvar,hd,rfl⟩:=trodVars_one hV
 obtain rfl:=Option.some.inj (gTab.symm.trans hg)
 obtain rfl:=Option.some.inj (tTab.symm.trans ht)
 have hT:=tab_of hL
 have hltv:∀ x∈p',x.block<W.heap.size:=fun x hx=>hW'.lt x (List.mem_append_right _ (List.mem_append_right _ hx))
 clear hA0 hV0 hval0 hA hV
 refine (walk a0 cap0 ps a1 w1 cc nn b0 cb0 oo W hbig hm hs hl2 hm2 hs2 hT).mono fun e W' ⟨he,hB⟩=>?_
 subst he
 obtain⟨fuel',hd'⟩:=Below.trod laidOut0 (by kernel_rfl) (of_decide_eq_true (by kernel_rfl)) (v:=.agg cs) (⟨fuel,by simpa [Value.cells] using hd⟩:DataW.Trod enc Tryz.prog W 0 (fun _=>true) true 185 (.agg cs) d p') hB hltv
 have hv':=trodVars_mk1 (enc:=enc) (spare:=fun b=>decide (b<W.heap.size)) hg ht (var?_below hB hg hT.1 hvar) (by simpa [Value.cells] using hd')
 exact⟨_,rfl,_,_,_,[],_,_,hW',trodAll_mk1 (shut_bool Tryz.underlying4 _),(trodAll_cons_mk (Below.trod laidOut0 (by kernel_rfl) (of_decide_eq_true (by kernel_rfl)) k0 hB lt0) (trodAll_cons_mk (shut_string Tryz.underlying9 w1) (trodAll_cons_mk (Below.trod laidOut0 (by kernel_rfl) (of_decide_eq_true (by kernel_rfl)) k2 hB lt2) trodAll_mk0))),hv',hB.frame _,fun h=>by cases h⟩
theorem named0 : Tryz.prog.funcNamed "loop.example/g00226/laws.FnExactApplyStore" = some 3 := by kernel_rfl
theorem closed0:joinedFacts Tryz.prog 3 Tryz.f3 Rows.fnExactApplyStoreSpec Rows.fnExactApplyStoreRow=true:=by
 unfold joinedFacts
 rw[seat_may,seat_lifts,seat_make]
 kernel_rfl
theorem inst0:Tryz.f3.isInstance Tryz.prog Rows.fnExactApplyStoreRow.origin Rows.fnExactApplyStoreRow.targs:=of_decide_eq_true (by kernel_rfl)
theorem wrap0:Tryz.f3.isWrapper Tryz.prog Rows.fnExactApplyStoreRow.wrapper Rows.fnExactApplyStoreRow.mainSum:=by unfold Func.isWrapper;first | (rw[if_pos (by decide +kernel)];kernel_rfl) | (rw[if_neg (by decide +kernel)];exact⟨rfl,rfl⟩)
theorem over:Rows.fnExactApplyStoreRow.holds Tryz.pinned (OpenSpec.ofChange Rows.fnExactApplyStoreSpec) :=
 OpenClaim.holds_of_wide 3 Tryz.f3 rfl rfl rfl rfl rfl rfl rfl ⟨rfl,rfl,rfl,rfl,rfl⟩ rfl rfl rfl rfl rfl named0 Tryz.func3 closed0 inst0 wrap0
  (fun os started H enc _=>lifted os started H enc)
theorem text0:Rows.fnExactApplyStoreRow.wfByText (OpenSpec.ofChange Rows.fnExactApplyStoreSpec)=true:=by kernel_rfl
theorem looks0:true=Tryz.prog.looks []:=by kernel_rfl
theorem goes0:false=Rows.fnExactApplyStoreRow.goesBy Tryz.prog:=by kernel_rfl
theorem wants0:([22,9,25].all fun u => !Tryz.prog.wantsStandIn u)=true:=by kernel_rfl
theorem card:Claim7.holds Tryz.pinned (.plain (OpenSpec.ofChange Rows.fnExactApplyStoreSpec)) Rows.fnExactApplyStoreCard :=
 Claim7.holds_tied_plain_at .later [] [.data] true (true,Rows.fnExactApplyStoreCard.stood.harness.2) true
  over (fun _ h=>by cases h) text0 (fun _ h=>by cases h) fnExactApplyStore_row_tie rfl ⟨rfl,rfl⟩ seat_main rfl
  (fun f fn hf hfn => by
   obtain rfl:f=3:=Option.some.inj (named0.symm.trans hf) |>.symm
   obtain rfl:fn=Tryz.f3:=(Option.some.inj (Tryz.func3.symm.trans hfn)).symm
   exact⟨looks0,fun j t ht=>by
    rw[Tryz.params3] at ht
    have hm:t∈[22,9,25]:=by simpa using Array.mem_of_getElem? ht
    exact (show Tryz.prog.wantsStandIn t=false by simpa using List.all_eq_true.1 wants0 t hm)⟩)
  goes0
end Go.Proofs.YthbfhofogoagdaaGreatDoor.fnExactApplyStore
namespace Go.Proofs.YthbfhofogoagdaaGreatDoor
theorem fnExactApplyStore_holds:Rows.FnExactApplyStoreCardSaid:=fnExactApplyStore.card
end Go.Proofs.YthbfhofogoagdaaGreatDoor
