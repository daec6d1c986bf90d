/-
 At every code pairs that come in chunks are imported as their nodes, and what is imported has the root that was asked for: FnImported answers true. No condition; the round words are laid as the program's text lays them.
-/
import Derived.Test.YtahocpjieffbaaaGreatDoorDrawIm
import Derived.Test.YtahocpjieffbaaaGreatDoorMathIm
import Derived.Test.YtahocpjieffbaaaGreatDoorTookGs
import Derived.Test.YtahocpjieffbaaaGreatDoorImpOs
import Derived.Test.YtahocpjieffbaaaGreatDoorBackM
import Derived.Test.YtahocpjieffbaaaGreatDoorPairsAts
import Derived.Test.YtahocpjieffbaaaGreatDoorDrawPs
import Derived.Test.YtahocpjieffbaaaGreatDoorLaidAll
import Derived.Test.YtahocpjieffbaaaGreatDoorSeatAll
import Derived.Test.YtahocpjieffbaaaGreatDoorTie
import Derived.Test.YtahocpjieffbaaaGreatDoorCards
import Derived.ProofKit
import Derived.LaidMore
import Derived.OpenShut
import Derived.ShutString
import Derived.ChangeOld
import Derived.Below
import Derived.Stop.Joined
import Derived.Lib.LaidTab
import Derived.SevenTiedAt
import Derived.SliceStrings
namespace Go.Proofs.YtahocpjieffbaaaGreatDoor.fnImported
open Go.ChangeShapes Go.WideShapes Go.ChangeAt Go.RowKit
open Go.ChangeMaps (open_string shut_string)
set_option linter.unusedVariables false
theorem own:ownKnob Tryz.prog.godebug=none:=by kernel_rfl
theorem laidOut0:laidOutB Tryz.prog=true:=by kernel_rfl
theorem gTab : Tryz.prog.globalNamed "loop.example/g00226/impl.roundWords" = some 1 := by kernel_rfl
theorem tTab:(Tryz.prog.globals[1]?).map (·.type)=some 179:=by kernel_rfl
theorem door_met (os:Os) (args:Array Value):laidMetH Tryz.prog Rows.fnImportedRow.laid ((World.doorLaid Tryz.prog 400 os).forCall (fun _ _=>0) ⟨#[],args,[]⟩).memory :=
 laidMetH_of_parts3 (fuel:=8) (laidMet_of_run' 8 (by kernel_rfl) (by kernel_rfl)) (by kernel_rfl) (by kernel_rfl)
theorem tab_of {W:World} (h:laidMetH Tryz.prog Rows.fnImportedRow.laid W):Tab W:=by
 rw[MakeChecks.laidMetH_plain _ _ _ (by kernel_rfl)] at h
 have hT : Lib.TabIs Tryz.prog W "loop.example/g00226/impl.roundWords" .u32 (kL.map fun x => num x) := Lib.tabIs_of_head (rest := []) gTab tTab Tryz.underlying179 Tryz.underlying132 (by kernel_rfl) (by kernel_rfl) h
 have hc:∀ i,i<64→W.cell? ⟨1,i,none⟩=some (.int .u32 (num (kL.getD i 0))):=fun i hi=>by
  have hl:i<kL.length:=hi
  have:=hT.cell gTab i (by rw[List.length_map];exact hl)
  rw[this]
  simp[List.getD,hl]
 exact⟨block_lt_of_cell (hc 0 (by omega)),hc⟩
theorem took_facts (r:List UInt8) (ps qs:List PairL) (d f l:Bool):(importB r ps d=false→tookB r ps d f l qs=false)∧(importB r ps d=true→tookB r ps d f l qs=false→tookPs r ps d f l qs=ps∧tookD r ps d f l qs=d∧tookRoot r ps d=r)∧(tookB r ps d f l qs=true→importB r ps d=true∧tookPs r ps d f l qs=ps ++ qs∧tookD r ps d f l qs=l∧tookRoot r ps d=r∧(l=true→rootOk (ps ++ qs)=true∧rootR (ps ++ qs)=r)∧importB r (ps ++ qs) l=true):=by
 refine⟨fun h=>by simp[tookB,h],fun h1 h2=>by simp[tookPs,tookD,tookRoot,h1,h2],fun h=>?_⟩
 have h':=h
 unfold tookB at h'
 simp only[Bool.and_eq_true,Bool.or_eq_true,Bool.not_eq_true',decide_eq_true_eq] at h'
 obtain⟨h1,h2,h3,h4,h5⟩:=h'
 have hl:l=true→rootOk (ps ++ qs)=true∧rootR (ps ++ qs)=r:=fun e=>by
  rcases h5 with h5 | h5
  · rw[e] at h5;cases h5
  · exact h5
 refine⟨h1,by simp[tookPs,h1,h],by simp[tookD,h],by simp[tookRoot,h1],hl,?_⟩
 unfold importB at h1 ⊢
 simp only[Bool.and_eq_true,Bool.or_eq_true,Bool.not_eq_true',decide_eq_true_eq] at h1 ⊢
 refine⟨h1.1,h4,?_⟩
 cases l with
 | false=>exact .inl rfl
 | true=>exact .inr (hl rfl)
theorem chunksR_mem9 {ps:List PairL} {m j:Nat} (hm:1≤m):(chunkAt ps m j).2.2.length≤ps.length∧∀ p∈(chunkAt ps m j).2.2,p∈ps:=⟨by rw[chunkAt_len];omega,fun p hp=>List.mem_of_mem_drop (List.mem_of_mem_take hp)⟩
theorem ownC_len {w:World} {lo e:Nat} {v:Value} {cs:List ChL} {vs:List Value} (h:OwnC w lo e v cs vs):∃ (a:Option Addr) (k:Nat),v=.slice a cs.length k:=by
 rcases ownC_form h with ⟨h1,h2⟩ | ⟨g,c,h1,_⟩
 · exact⟨none,0,by rw[h1,h2];rfl⟩
 · exact⟨_,_,h1⟩
theorem impd_back {r:List UInt8} {ps:List PairL} {d:Bool} (h:impdB r ps d=true):pairsAtR (impdR r ps d) r=some ps:=by
 have h':=h
 unfold impdB at h'
 simp only[Bool.and_eq_true] at h'
 obtain⟨h1,rfl⟩:=h'
 have hr:=impd_ok h1
 unfold importB at h1
 simp only[Bool.and_eq_true,Bool.not_true,Bool.false_or,decide_eq_true_eq] at h1
 rw[impdR,if_pos h,←h1.2.2.2]
 exact pairs_back hr
theorem impd_done {ps:List PairL} (h:rootOk ps=true):impdB (rootR ps) ps true=true∧impdR (rootR ps) ps true=nodesR ps:=by
 have h1:impdB (rootR ps) ps true=true:=by unfold impdB;rw[im_done h];rfl
 exact⟨h1,by rw[impdR,if_pos h1]⟩
theorem impd_small (r:List UInt8) (ps:List PairL) (d:Bool):∀ p∈impdR r ps d,p.1.length≤1048576∧p.2.length≤1048576:=by
 unfold impdR
 split
 · exact nodes_small ps
 · intro p hp;simp at hp
set_option maxRecDepth 100000 in
set_option maxHeartbeats 2000000 in
theorem walk (a0 : Option Addr) (len0 cap0 : Nat) (w : World) (w0 : Code w a0 len0) (hT : Tab w) :
 Calls Tryz.prog 3 #[.slice a0 len0 cap0] w fun e w'=>e=.returned (.bool true)∧Below w.heap.size w w':=by
 by_cases hb:len0≤1048576
 · have HB := bigNo len0 cap0 a0 w hb
   have HC:Hid (Code w a0 len0):=w0
   have HT:Hid (∀ W,Below w.heap.size w W→Tab W):=fun W hW=>hT.later hW
   have HLB:Hid (len0≤1048576):=hb
   clear w0 hT
   go_enter Tryz.func3,Tryz.ntmps3
   go_wp2_with fail
   refine HB.mono ?_
   rintro e w ⟨rfl,rfl⟩
   clear HB
   have HD:=drawChunksOf len0 cap0 a0 w hb HC.out
   go_wp2_with fail
   refine HD.mono ?_
   rintro e w1 ⟨ps,g,c,mo,hpl,hsm,rfl,o1,B1⟩
   have hs1:=(isPairs_own o1).2.2
   have hcap:=own_le o1
   have HB1:Hid (Below w.heap.size w w1):=B1
   have HI:Hid (∀ W,Below w1.heap.size w1 W→IsPairs W (some ⟨g,0,none⟩) ps):=fun W hW=>hs1.later hW
   have HSM:Hid (smallP ps∧ps.length≤10∧ps.length≤c):=⟨hsm,hpl,hcap⟩
   have HM:Hid (∀ p∈ps,p.1.length≤1048576∧p.2.length≤1048576):=smallP_le hsm
   have HCS:Hid (chunksOkL ps mo=(pairsOkL ps && (decide (1≤mo) && decide (mo≤8)))∧(chunksOkL ps mo=true→chunksR ps mo=chunksL ps mo.toNat)):=⟨rfl,fun h=>by rw[chunksR,if_pos h]⟩
   have K1:=impl_chunksOf g 0 c ps mo w1 (by omega) hcap (smallP_le hsm) hs1
   have HK2:Hid (∀ W,Below w1.heap.size w1 W→_):=fun W hW=>spec_chunksOf g 0 c ps mo W (by omega) hcap (smallP_le hsm) (hs1.later hW)
   have HKR:Hid (∀ W,Below w1.heap.size w1 W→_):=fun W hW=>impl_rootOf (some ⟨g,0,none⟩) c ps W (by omega) (smallP_le hsm) (hs1.later hW) (HT.out W (B1.trans (hW.mono B1.size)))
   have HKS:Hid (∀ W,Below w1.heap.size w1 W→_):=fun W hW=>spec_rootOf (some ⟨g,0,none⟩) c ps W (by omega) (smallP_le hsm) (hs1.later hW)
   have HKN:Hid (∀ W,Below w1.heap.size w1 W→_):=fun W hW=>impl_nodesOf (some ⟨g,0,none⟩) c ps W (by omega) (smallP_le hsm) (hs1.later hW) (HT.out W (B1.trans (hW.mono B1.size)))
   obtain⟨cs,hcs⟩:∃ z,z=chunksR ps mo:=⟨_,rfl⟩
   obtain⟨ok,hok⟩:∃ z,z=chunksOkL ps mo:=⟨_,rfl⟩
   obtain⟨R,hR⟩:∃ z,z=rootR ps:=⟨_,rfl⟩
   obtain⟨rk,hrk⟩:∃ z,z=rootOk ps:=⟨_,rfl⟩
   have HRR:Hid (R=rootR ps∧rk=rootOk ps):=⟨hR,hrk⟩
   rw[←hcs,←hok] at K1 HK2 HCS
   rw[←hR,←hrk] at HKR HKS
   rw[←hrk] at HKN
   clear HD hpl hsm hcap o1 hs1 hcs hok hR hrk B1 hb
   go_wp2_with fail
   refine K1.mono ?_
   rintro e w2 ⟨v1,vs1,rfl,oc1,b2⟩
   have HX2:Hid (Below w1.heap.size w1 w2):=b2
   have HC2:Hid (OwnC w2 w1.heap.size 38 v1 cs vs1):=oc1
   obtain⟨a1,c1,hv1⟩:=ownC_len oc1
   have K2:=HK2.out w2 b2
   rw[hv1] at HC2
   rw[hv1]
   clear K1 HK2 oc1 b2 hv1
   go_wp2_with fail
   refine K2.mono ?_
   rintro e w3 ⟨v2,vs2,rfl,oc2,b3⟩
   obtain⟨a2,c2,hv2⟩:=ownC_len oc2
   have HX3:Hid (Below w1.heap.size w1 w3):=HX2.out.trans (b3.mono HX2.out.size)
   have HC3:Hid (OwnC w3 w1.heap.size 38 (.slice a1 cs.length c1) cs vs1):=HC2.out.later b3
   obtain⟨cn,hcn⟩:∃ z,z=cs.length:=⟨_,rfl⟩
   have HCN:Hid (cn=cs.length):=hcn
   rw[←hcn] at HC3 hv2 ⊢
   rw[hv2]
   have B3:Below w.heap.size w w3:=HB1.out.trans (HX3.out.mono HB1.out.size)
   clear K2 oc2 hv2 hcn HC2 HX2 b3
   cases ok with
   | false =>
     go_wp2
     go_ret
     exact⟨rfl,B3⟩
   | true =>
     have hcs:=HCS.out.2 rfl
     have hck:=HCS.out.1
     simp only[Bool.true_eq,Bool.and_eq_true,decide_eq_true_eq] at hck
     obtain⟨mx,hmx⟩:∃ m:Nat,(m:Int)=mo∧1≤m∧m≤8:=⟨mo.toNat,by omega,by omega,by omega⟩
     have hmt:mo.toNat=mx:=by omega
     rw[hmt] at hcs
     have HMX:Hid (1≤mx∧mx≤8∧cs=chunksL ps mx∧cn=chunksN ps.length mx):=⟨hmx.2.1,hmx.2.2,hcs,by rw[HCN.out,hcs,chunksL,chunksTo_length]⟩
     have K3:=HKR.out w3 HX3.out
     clear hcs hck hmx hmt HCS HKR
     go_wp2_with fail
     refine K3.mono ?_
     rintro e w4 ⟨rfl,b4⟩
     have HX4:Hid (Below w1.heap.size w1 w4):=HX3.out.trans (b4.mono HX3.out.size)
     have B4:Below w.heap.size w w4:=B3.trans (b4.mono B3.size)
     have HC4:Hid (OwnC w4 w1.heap.size 38 (.slice a1 cn c1) cs vs1):=HC3.out.later b4
     clear K3 b4 HX3 HC3 B3
     cases rk with
     | false =>
       have K4:=HKS.out w4 HX4.out
       go_wp2_with fail
       refine K4.mono ?_
       rintro e w5 ⟨rfl,b5⟩
       have B5:=B4.trans (b5.mono B4.size)
       go_wp2
       go_ret
       exact⟨rfl,B5⟩
     | true =>
       have hrk:rootOk ps=true:=HRR.out.2.symm
       have h32:R.length=32:=by rw[HRR.out.1];exact root_is32 ps hrk
       have K4:=impl_importNew R w4 (by omega)
       rw[if_pos h32,decide_eq_true h32] at K4
       have H32:Hid (R.length=32∧rootOk ps=true):=⟨h32,hrk⟩
       clear hrk h32 HKS
       go_wp2_with fail
       refine K4.mono ?_
       rintro e w6 ⟨rfl,b6⟩
       obtain⟨w5,hw5⟩:∃ W,W=w6.alloc (.cells #[.string ⟨R.toArray⟩,.slice none 0 0,.bool false] 33):=⟨_,rfl⟩
       have X5:Below w4.heap.size w4 w5:=by rw[hw5];exact b6.alloc b6.size _
       have HX5:Hid (Below w1.heap.size w1 w5):=HX4.out.trans (X5.mono HX4.out.size)
       have B5:Hid (Below w.heap.size w w5):=B4.trans (X5.mono B4.size)
       have HX6:Hid (Below w1.heap.size w1 w6):=HX4.out.trans (b6.mono HX4.out.size)
       have B6:Hid (Below w.heap.size w w6):=B4.trans (b6.mono B4.size)
       have HB5:Hid (Below w6.heap.size w6 w5):=by rw[hw5];exact (Below.refl _ _).alloc (Nat.le_refl _) _
       have HM5:Hid (w5.heap[w6.heap.size]? = some (.cells #[.string ⟨R.toArray⟩,.slice none 0 0,.bool false] 33 (0,0))):=by rw[hw5];exact heap_alloc_new w6 _
       have HC5:Hid (OwnC w5 w1.heap.size 38 (.slice a1 cn c1) cs vs1):=HC4.out.later X5
       have HS5:Hid (w1.heap.size≤w6.heap.size∧w6.heap.size<w5.heap.size):=⟨Nat.le_trans HX4.out.size b6.size,by rw[hw5];simp⟩
       have HV:Hid ((∀ q,(Value.slice a1 cn c1).ownBlock=some q→q≠w6.heap.size)∧∀ (i:Nat) (z:Value) (q:Nat),vs1[i]? = some z→z.ownBlock=some q→q≠w6.heap.size):=⟨fun q h1=>by have h2:=(HC4.out.row.lt q h1).2;have:=b6.size;omega,fun i z q h1 h2=>by have:=(HC4.out.lt h1 h2).2;have:=b6.size;omega⟩
       have hcn1:0<cn:=by rw[HMX.out.2.2.2];have:=chunksN_pos ps.length mx;omega
       obtain⟨g1,ha1⟩:∃ g1,a1=some ⟨g1,0,none⟩:=by
        rcases ownC_form HC5.out with ⟨h1,h2⟩ | ⟨g1,k1,h1,_⟩
        · have:=HCN.out;rw[h2] at this;simp at this;omega
        · simp only[Value.slice.injEq] at h1;exact⟨g1,h1.1⟩
       subst ha1
       have hcn0:(0:Int)≤(cn:Int):=by omega
       have HN11:Hid (cn≤11):=by rw[Hid,HMX.out.2.2.2,chunksN];split;omega;have:=HSM.out;have:=Nat.div_le_self (ps.length - 1) mx;omega
       clear K4 b6 X5 HX4 HC4 B4 hcn1
       go_wp2
       rw[←hw5]
       clear hw5
       go_loopw [15] (fun i wr=>∃ (j:Nat) (x:Option Addr) (k0:Nat) (d:Bool) (tp:List PairL),i=.int .i64 (j:Int)∧j≤cn∧Hid (d=decide (j=cn)∧tp=ps.take (j*mx))∧Hid (wr.heap[w6.heap.size]? = some (.cells #[.string ⟨R.toArray⟩,.slice x tp.length k0,.bool d] 33 (0,0)))∧Hid (wr.ownsRow w6.heap.size 56 2 (.slice x tp.length k0) tp.length (pcells tp))∧Hid (OwnC wr w1.heap.size 38 (.slice (some ⟨g1,0,none⟩) cn c1) cs vs1)∧Hid (Below w6.heap.size w6 wr)) (fun i _=>12 - (intOf i).toNat)
       case atStart=>exact⟨0,none,0,false,[],rfl,Nat.zero_le _,⟨by rw[decide_eq_false];have:=chunksN_pos ps.length mx;have:=HMX.out.2.2.2;omega,by simp⟩,HM5,World.ownsRow_nil _ _ _ _,HC5,HB5.out⟩
       case round =>
        obtain⟨j,x,k0,d,tp,rfl,hjk,HDT,HMr,HOr,HCr,HBr⟩:=hrel
        have hj0:(0:Int)≤(j:Int):=by omega
        by_cases hlt:j<cn
        · have hjc:j<cs.length:=by rw[←HCN.out];exact hlt
          have HCr':Hid (OwnC wr w1.heap.size 38 (.slice (some ⟨g1,0,none⟩) cn c1) cs vs1):=HCr.out
          obtain⟨u,ku,e0,e1,e2,ou⟩:=chunk_form HCr.out hjc
          have hcj:cs[j]=chunkAt ps mx j:=by
           have h1:cs=chunksTo ps mx (chunksN ps.length mx):=HMX.out.2.2.1
           simp only[h1,chunksTo,List.getElem_map,List.getElem_range]
          have hst:=im_step (R:=R) (ps:=ps) (m:=mx) (j:=j) HMX.out.1 HMX.out.2.1 H32.out.2 HRR.out.1 (by rw[←HMX.out.2.2.2];exact hlt)
          have hcm:=chunksR_mem9 HMX.out.1 (ps:=ps) (j:=j)
          rw[←hcj] at hst hcm
          obtain⟨⟨f9,l9,qs⟩,h9⟩:∃ y,y=cs[j]:=⟨_,rfl⟩
          rw[←h9] at e0 e1 e2 ou hst hcm
          dsimp only at e0 e1 e2 ou hst hcm
          rw[←HMX.out.2.2.2,←HDT.out.2,←HDT.out.1] at hst
          obtain⟨_,is1,haa,hca⟩:=own_form HOr.out
          obtain⟨_,is2,haa2,hca2⟩:=own_form ou
          have htl:tp.length≤10∧smallP tp:=by rw[HDT.out.2];exact⟨by rw[List.length_take];have:=HSM.out;omega,fun p hp=>HSM.out.1 p (List.mem_of_mem_take hp)⟩
          have hql:qs.length≤10∧smallP qs:=⟨by have:=hcm.1;have:=HSM.out;omega,fun p hp=>HSM.out.1 p (hcm.2 p hp)⟩
          have HKT:Hid (∀ W,Below wr.heap.size wr W→_):=fun W hW=>impl_took R x u k0 ku tp qs d f9 l9 W haa hca haa2 hca2 (by have:=H32.out.1;omega) (by omega) (smallP_le htl.2) (by omega) (smallP_le hql.2) (is1.later hW) (is2.later hW) (HT.out W ((B6.out.trans (HBr.out.mono B6.out.size)).trans (hW.mono (Nat.le_trans B6.out.size HBr.out.size))))
          have htf:=(took_facts R tp qs d f9 l9).2.2 hst.1
          rw[hst.1,htf.2.1,htf.2.2.1,htf.2.2.2.1] at HKT
          obtain⟨al,hal⟩:∃ z,z=tp ++ qs:=⟨_,rfl⟩
          have HAL:Hid (al=ps.take ((j+1)*mx)∧l9=decide (j+1=cn)):=⟨hal.trans hst.2.1,hst.2.2⟩
          rw[←hal] at HKT
          obtain⟨ql,hqle⟩:∃ y,y=qs.length:=⟨_,rfl⟩
          obtain⟨pl,hple⟩:∃ y,y=tp.length:=⟨_,rfl⟩
          rw[←hqle] at HKT e2
          rw[←hple] at HKT HMr
          have HWS:Hid (w6.heap.size<wr.heap.size):=lt_of_block HMr.out
          have hjn:(j:Int)<(cn:Int):=by omega
          have hwj:IntKind.i64.wrap ((j:Int)+1)=(j:Int)+1:=i64_wrap_small _ (by omega) (by have:=HN11.out;omega)
          have SB:Hid (∀ W,Below wr.heap.size wr W→W.cell? ⟨w6.heap.size,0,none⟩=some (.string ⟨R.toArray⟩)∧W.cell? ⟨w6.heap.size,1,none⟩=some (.slice x pl k0)∧W.cell? ⟨w6.heap.size,2,none⟩=some (.bool d)∧W.cell? ⟨g1,j*3,none⟩=some (.bool f9)∧W.cell? ⟨g1,j*3+1,none⟩=some (.bool l9)∧W.cell? ⟨g1,j*3+2,none⟩=some (.slice u ql ku)):=fun W hW=>by
           obtain⟨p0,p1,p2,_⟩:=im_cells ((hW.block _ (lt_of_block HMr.out)).trans HMr.out)
           exact⟨p0,p1,p2,(hW.cell (World.block_lt_of_cell? _ _ e0)).trans e0,(hW.cell (World.block_lt_of_cell? _ _ e1)).trans e1,(hW.cell (World.block_lt_of_cell? _ _ e2)).trans e2⟩
          have BD:Below wr.heap.size wr wr.drew:=⟨rfl,rfl,rfl,Nat.le_refl _,fun _ _=>rfl⟩
          have BDa:Below wr.heap.size wr (wr.alloc (.cells #[.string ⟨#[]⟩,.slice none 0 0,.bool false] 33)).drew:=⟨rfl,rfl,rfl,by show _≤(wr.alloc _).heap.size;simp,fun q hq=>Below.heap_alloc _ _ _ hq⟩
          have ZN:Hid ((wr.alloc (.cells #[.string ⟨#[]⟩,.slice none 0 0,.bool false] 33)).drew.heap[wr.heap.size]? = some (.cells #[.string ⟨#[]⟩,.slice none 0 0,.bool false] 33 (0,0))):=heap_alloc_new wr _
          clear haa haa2 hca hca2 is1 is2 ou h9 hst hcm hcj htl hql htf hal hqle hple e0 e1 e2 hlt hjc
          go_wp2
          go_cut [16,17] from 97 to 106 (fun v16 v17 wx=>∃ (bn:Nat) (x5:Option Addr) (k5:Nat),v16=.pointer (some ⟨bn,0,none⟩)∧v17=.bool true∧Hid (wx.heap[bn]? = some (.cells #[.string ⟨R.toArray⟩,.slice x5 al.length k5,.bool l9] 33 (0,0)))∧Hid (wr.heap.size≤bn∧∀ q,(Value.slice x5 al.length k5).ownBlock=some q→wr.heap.size≤q∧q≠bn)∧Hid (wx.ownsRow wr.heap.size 56 2 (.slice x5 al.length k5) al.length (pcells al))∧Hid (Below wr.heap.size wr wx))
          case first =>
           go_region_held3 (fun w'=>w'.cell? ⟨w6.heap.size,0,none⟩=some (.string ⟨R.toArray⟩)∧w'.cell? ⟨w6.heap.size,1,none⟩=some (.slice x pl k0)∧w'.cell? ⟨w6.heap.size,2,none⟩=some (.bool d)∧w'.cell? ⟨g1,j*3,none⟩=some (.bool f9)∧w'.cell? ⟨g1,j*3+1,none⟩=some (.bool l9)∧w'.cell? ⟨g1,j*3+2,none⟩=some (.slice u ql ku)) (first | with_reducible exact SB.out _ BX | with_reducible exact SB.out _ BXS | with_reducible exact SB.out _ BD | with_reducible exact SB.out _ BDa | with_reducible exact SB.out _ (BX.alloc BX.size _) | go_keep)
            (first
             | (go_at_call 11
                with_reducible refine (HKT.out (wr.alloc (.cells #[.string ⟨#[]⟩,.slice none 0 0,.bool false] 33)).drew BDa).mono ?_
                rintro e w7 ⟨x5,m5,k5,rfl,o5,b5x⟩
                obtain⟨rfl,_⟩:=own_form o5
                have BX:Below wr.heap.size wr w7:=BDa.trans (b5x.mono BDa.size)
                have OX:Hid (w7.ownsRow wr.heap.size 56 2 (.slice x5 al.length k5) al.length (pcells al)):=o5.mono BDa.size
                have XL:Hid (∀ q,(Value.slice x5 al.length k5).ownBlock=some q→wr.heap.size≤q∧q≠wr.heap.size):=fun q hq=>by have h1:=(o5.lt q hq).1;have h2:(wr.alloc (.cells #[.string ⟨#[]⟩,.slice none 0 0,.bool false] 33)).drew.heap.size=wr.heap.size+1:=(by show (wr.alloc _).heap.size=_;simp);omega
                have HN:Hid (w7.heap[wr.heap.size]? = some (.cells #[.string ⟨#[]⟩,.slice none 0 0,.bool false] 33 (0,0))):=(b5x.block _ (lt_of_block ZN.out)).trans ZN.out
                have BXS:Below wr.heap.size wr (((w7.setCell ⟨wr.heap.size,0,none⟩ (.string ⟨R.toArray⟩)).setCell ⟨wr.heap.size,1,none⟩ (.slice x5 al.length k5)).setCell ⟨wr.heap.size,2,none⟩ (.bool l9)):=((BX.setCell (Nat.le_refl _) _).setCell (Nat.le_refl _) _).setCell (Nat.le_refl _) _
                have HBS:Hid (Below wr.heap.size wr (((w7.setCell ⟨wr.heap.size,0,none⟩ (.string ⟨R.toArray⟩)).setCell ⟨wr.heap.size,1,none⟩ (.slice x5 al.length k5)).setCell ⟨wr.heap.size,2,none⟩ (.bool l9))):=BXS
                obtain⟨y0,y1,y2,yf⟩:=im_cells HN.out
                have yf0:=yf 0
                have yf1:=yf 1
                have yf2:=yf 2
                clear yf o5 b5x)
             | (go_at_call 11
                with_reducible refine (HKT.out wr.drew BD).mono ?_
                rintro e w7 ⟨x5,m5,k5,rfl,o5,b5x⟩
                obtain⟨rfl,_⟩:=own_form o5
                have BX:Below wr.heap.size wr w7:=BD.trans (b5x.mono BD.size)
                have HBX:Hid (Below wr.heap.size wr w7):=BX
                have OX:Hid (w7.ownsRow wr.heap.size 56 2 (.slice x5 al.length k5) al.length (pcells al)):=o5.mono BD.size
                clear o5 b5x))
           all_goals go_wp2_with fail
           all_goals go_meet
           all_goals first
            | exact⟨wr.heap.size,x5,k5,rfl,rfl,ck_set (j:=2) (ck_set (j:=1) (ck_set (j:=0) HN.out)),⟨Nat.le_refl _,XL.out⟩,own_three OX.out (fun q hq=>(XL.out q hq).2),HBS.out⟩
            | exact⟨w7.heap.size,x5,k5,rfl,rfl,heap_alloc_new w7 _,⟨HBX.out.size,fun q hq=>⟨(OX.out.lt q hq).1,by have:=(OX.out.lt q hq).2;omega⟩⟩,OX.out.alloc _,HBX.out.alloc HBX.out.size _⟩
          case rest =>
           obtain⟨bn,x5,k5,rfl,rfl,HN8,HX8,HO8,HB8⟩:=hcut
           obtain⟨w8,rfl⟩:∃ W,W=wc:=⟨_,rfl⟩
           have HM8:Hid (w8.heap[w6.heap.size]? = wr.heap[w6.heap.size]?):=HB8.out.block _ HWS.out
           have HC8:Hid (OwnC w8 w1.heap.size 38 (.slice (some ⟨g1,0,none⟩) cn c1) cs vs1):=HCr'.out.later HB8.out
           obtain⟨n0,n1,n2,_⟩:=im_cells HN8.out
           obtain⟨m0,m1,m2,mf⟩:=im_cells (HM8.out.trans HMr.out)
           have mf0:=mf 0
           have mf1:=mf 1
           have mf2:=mf 2
           have HM9:Hid ((((w8.setCell ⟨w6.heap.size,0,none⟩ (.string ⟨R.toArray⟩)).setCell ⟨w6.heap.size,1,none⟩ (.slice x5 al.length k5)).setCell ⟨w6.heap.size,2,none⟩ (.bool l9)).heap[w6.heap.size]? = some (.cells #[.string ⟨R.toArray⟩,.slice x5 al.length k5,.bool l9] 33 (0,0))):=ck_set (j:=2) (ck_set (j:=1) (ck_set (j:=0) (HM8.out.trans HMr.out)))
           have HO9:Hid ((((w8.setCell ⟨w6.heap.size,0,none⟩ (.string ⟨R.toArray⟩)).setCell ⟨w6.heap.size,1,none⟩ (.slice x5 al.length k5)).setCell ⟨w6.heap.size,2,none⟩ (.bool l9)).ownsRow w6.heap.size 56 2 (.slice x5 al.length k5) al.length (pcells al)):=(own_three HO8.out (fun q hq=>by have:=(HX8.out.2 q hq).1;have:=HWS.out;omega)).mono (by have:=HWS.out;omega)
           have HC9:Hid (OwnC (((w8.setCell ⟨w6.heap.size,0,none⟩ (.string ⟨R.toArray⟩)).setCell ⟨w6.heap.size,1,none⟩ (.slice x5 al.length k5)).setCell ⟨w6.heap.size,2,none⟩ (.bool l9)) w1.heap.size 38 (.slice (some ⟨g1,0,none⟩) cn c1) cs vs1):=ownC_set HC8.out (ck_grown _ _ _ _ _) HV.out.1 HV.out.2
           have HB9:Hid (Below w6.heap.size w6 (((w8.setCell ⟨w6.heap.size,0,none⟩ (.string ⟨R.toArray⟩)).setCell ⟨w6.heap.size,1,none⟩ (.slice x5 al.length k5)).setCell ⟨w6.heap.size,2,none⟩ (.bool l9))):=(((HBr.out.trans (HB8.out.mono HBr.out.size)).setCell (Nat.le_refl _) _).setCell (Nat.le_refl _) _).setCell (Nat.le_refl _) _
           clear mf HN8 HO8 HC8 HMr HOr HCr HCr' SB BD BDa ZN HKT
           go_wp2
           go_roundw
           case rel=>exact⟨j+1,x5,k5,l9,al,by go_num,by omega,⟨HAL.out.2,HAL.out.1⟩,HM9,HO9,HC9,HB9⟩
           case measure=>have:=HN11.out;simp[intOf];omega
        · obtain rfl:j=cn:=by omega
          have hjn:¬ (j:Int)<(j:Int):=by omega
          clear hlt
          have htp:ps=tp:=by rw[HDT.out.2];have:=HMX.out.2.2.2;rw[this];exact (im_all HMX.out.1).symm
          have hdt:d=true:=by rw[HDT.out.1];simp
          clear HDT
          subst htp hdt
          have HXr:Hid (Below w1.heap.size w1 wr):=HX6.out.trans (HBr.out.mono HX6.out.size)
          have Br:Below w.heap.size w wr:=B6.out.trans (HBr.out.mono B6.out.size)
          have hsx:=(own_form HOr.out).2.1
          have HSX:Hid (∀ W,Below wr.heap.size wr W→IsPairs W x ps):=fun W hW=>hsx.later hW
          have K5:=HKN.out wr HXr.out
          obtain⟨ns,hns⟩:∃ z,z=nodesR ps:=⟨_,rfl⟩
          have HNS:Hid (ns=nodesR ps∧ns.length≤3600):=⟨hns,by rw[hns];exact nodesR_len ps⟩
          rw[←hns] at K5
          clear hns hsx HOr HCr HM5 HC5 HX5 HB5 HKN
          go_wp2_with fail
          refine K5.mono ?_
          rintro e w10 ⟨a6,m6,k6,rfl,o6,b10⟩
          obtain⟨rfl,_,hs6⟩:=isPairs_own o6
          have HM10:Hid (w10.heap[w6.heap.size]? = some (.cells #[.string ⟨R.toArray⟩,.slice x ps.length k0,.bool true] 33 (0,0))):=(b10.block _ (lt_of_block HMr.out)).trans HMr.out
          have B10:Below w.heap.size w w10:=Br.trans (b10.mono Br.size)
          have HS6:Hid (∀ W,Below w10.heap.size w10 W→IsPairs W a6 ns):=fun W hW=>hs6.later hW
          have hid:=impd_done H32.out.2
          have K6:=impl_imported R x k0 ps true w10 (by have:=H32.out.1;omega) (by have:=HSM.out;omega) HM.out (HSX.out w10 b10) (HT.out w10 B10)
          rw[HRR.out.1,hid.1,hid.2,←HNS.out.1,←HRR.out.1] at K6
          obtain⟨m0,m1,m2,_⟩:=im_cells HM10.out
          clear K5 o6 hs6 b10 HMr Br hid HBr HX6 B6 HXr
          go_wp2_with fail
          refine K6.mono ?_
          rintro e w11 ⟨a7,m7,k7,rfl,o7,b11⟩
          obtain⟨rfl,_,hs7⟩:=isPairs_own o7
          have B11:Below w.heap.size w w11:=B10.trans (b11.mono B10.size)
          have HS7:Hid (∀ W,Below w11.heap.size w11 W→IsPairs W a7 ns):=fun W hW=>hs7.later hW
          have HS6':Hid (∀ W,Below w11.heap.size w11 W→IsPairs W a6 ns):=fun W hW=>HS6.out W (b11.trans (hW.mono b11.size))
          have KY:=drawImported len0 cap0 a0 w11 HLB.out (HC.out.later B11)
          clear K6 o7 hs7 b11 B10 HS6 m0 m1 m2 HM10 HSX
          go_wp2_with fail
          refine KY.mono ?_
          rintro e w12 ⟨ry,py,dy,xy,cy,rfl,hry,hpy,hsy,oy,b12⟩
          obtain⟨_,hsxy,_,_⟩:=own_form oy
          obtain⟨w13,hw13⟩:∃ W,W=w12.alloc (.cells #[.string ⟨ry.toArray⟩,.slice xy py.length cy,.bool dy] 33):=⟨_,rfl⟩
          have X13:Below w12.heap.size w12 w13:=by rw[hw13];exact (Below.refl _ _).alloc (Nat.le_refl _) _
          have HY13:Hid (w13.heap[w12.heap.size]? = some (.cells #[.string ⟨ry.toArray⟩,.slice xy py.length cy,.bool dy] 33 (0,0))):=by rw[hw13];exact heap_alloc_new w12 _
          have X13':Below w11.heap.size w11 w13:=b12.trans (X13.mono b12.size)
          have B13:Below w.heap.size w w13:=B11.trans (X13'.mono B11.size)
          have HS8:Hid (∀ W,Below w13.heap.size w13 W→IsPairs W a7 ns∧IsPairs W a6 ns∧IsPairs W xy py):=fun W hW=>⟨HS7.out W (X13'.trans (hW.mono X13'.size)),HS6'.out W (X13'.trans (hW.mono X13'.size)),(hsxy.later X13).later hW⟩
          have HPY:Hid (ry.length≤1048576∧py.length≤60∧smallP py):=⟨hry,hpy,hsy⟩
          have K7:=impl_imported ry xy cy py dy w13 hry (by omega) (smallP_le hsy) (HS8.out w13 (Below.refl _ _)).2.2 (HT.out w13 B13)
          have HK8:Hid (∀ W,Below w13.heap.size w13 W→_):=fun W hW=>spec_imported ry xy cy py dy W hry (by omega) (smallP_le hsy) (HS8.out W hW).2.2
          have hzl:=impdR_len ry py dy
          have hzs:=impd_small ry py dy
          have hzb:impdB ry py dy=true→pairsAtR (impdR ry py dy) ry=some py:=impd_back
          obtain⟨ib,hib⟩:∃ z,z=impdB ry py dy:=⟨_,rfl⟩
          obtain⟨zn,hzn⟩:∃ z,z=impdR ry py dy:=⟨_,rfl⟩
          rw[←hib,←hzn] at K7 HK8 hzb
          rw[←hzn] at hzl hzs
          have HZ:Hid ((ib=true→pairsAtR zn ry=some py)∧zn.length≤3600∧∀ p∈zn,p.1.length≤1048576∧p.2.length≤1048576):=⟨hzb,hzl,hzs⟩
          obtain⟨y0,y1,y2,_⟩:=im_cells HY13.out
          rw[hw13] at K7 y0 y1 y2
          clear KY hry hpy hsy oy b12 hsxy X13 X13' HS7 HS6' B11 hib hzn hzl hzs hzb
          go_wp2_with fail
          refine K7.mono ?_
          rintro e w14 ⟨a8,m8,k8,rfl,o8,b14⟩
          rw[←hw13] at b14
          obtain⟨rfl,_,hs8⟩:=isPairs_own o8
          have HY14:Hid (w14.heap[w12.heap.size]? = some (.cells #[.string ⟨ry.toArray⟩,.slice xy py.length cy,.bool dy] 33 (0,0))):=(b14.block _ (lt_of_block HY13.out)).trans HY13.out
          have B14:Below w.heap.size w w14:=B13.trans (b14.mono B13.size)
          have HX14:Hid (Below w13.heap.size w13 w14):=b14
          have HSZ:Hid (∀ W,Below w14.heap.size w14 W→IsPairs W a8 zn):=fun W hW=>hs8.later hW
          have K8:=HK8.out w14 b14
          clear K7 y0 y1 y2 o8 hs8 b14 hw13 HY13 HK8
          obtain⟨y0,y1,y2,_⟩:=im_cells HY14.out
          go_wp2_with fail
          refine K8.mono ?_
          rintro e w15 ⟨a9,m9,k9,rfl,o9,b15⟩
          have HY15:Hid (w15.heap[w12.heap.size]? = some (.cells #[.string ⟨ry.toArray⟩,.slice xy py.length cy,.bool dy] 33 (0,0))):=(b15.block _ (lt_of_block HY14.out)).trans HY14.out
          have B15:Below w.heap.size w w15:=B14.trans (b15.mono B14.size)
          have HX15:Hid (Below w13.heap.size w13 w15):=HX14.out.trans (b15.mono HX14.out.size)
          have K9:=impl_pairsAt a8 k8 zn ry w15 (HT.out w15 B15) (by have:=HZ.out.2.1;omega) HZ.out.2.2 (HSZ.out w15 b15) HPY.out.1
          clear K8 y0 y1 y2 o9 b15 HY14 HX14 B14 HSZ B13
          obtain⟨y0,y1,y2,_⟩:=im_cells HY15.out
          obtain⟨pr,hpr⟩:∃ z,z=pairsAtR zn ry:=⟨_,rfl⟩
          rw[←hpr] at K9
          have HPR:Hid (ib=true→pr=some py):=fun h=>hpr.trans (HZ.out.1 h)
          clear hpr
          go_wp2_with fail
          refine K9.mono ?_
          rintro e w16 ⟨ap,mp,kp,rfl,op,b16⟩
          have HY16:Hid (w16.heap[w12.heap.size]? = some (.cells #[.string ⟨ry.toArray⟩,.slice xy py.length cy,.bool dy] 33 (0,0))):=(b16.block _ (lt_of_block HY15.out)).trans HY15.out
          have B16:Below w.heap.size w w16:=B15.trans (b16.mono B15.size)
          have HX16:Hid (Below w13.heap.size w13 w16):=HX15.out.trans (b16.mono HX15.out.size)
          obtain⟨hmp,_,hsp⟩:=isPairs_own op
          have HSP:Hid (mp=(pr.getD []).length∧∀ W,Below w16.heap.size w16 W→IsPairs W ap (pr.getD [])):=⟨hmp,fun W hW=>hsp.later hW⟩
          obtain⟨pk,hpk⟩:∃ z,z=pr.isSome:=⟨_,rfl⟩
          rw[←hpk]
          have KS:=sameStores_same ns a7 a6 k7 k6 w16 (by have:=HNS.out.2;omega) (HS8.out w16 HX16.out).1 (HS8.out w16 HX16.out).2.1
          clear K9 y0 y1 y2 op hsp hmp hpk b16 HY15 HX15 B15
          go_wp2_with fail
          refine KS.mono ?_
          rintro e w17 ⟨rfl,b17⟩
          have HY17:Hid (w17.heap[w12.heap.size]? = some (.cells #[.string ⟨ry.toArray⟩,.slice xy py.length cy,.bool dy] 33 (0,0))):=(b17.block _ (lt_of_block HY16.out)).trans HY16.out
          have B17:Below w.heap.size w w17:=B16.trans (b17.mono B16.size)
          cases ib with
          | false =>
            clear KS b17
            go_wp2
            go_ret
            exact⟨rfl,B17⟩
          | true =>
            have hpp:=HPR.out rfl
            have hm9:=HSP.out.1
            have hi9:=HSP.out.2 w17 b17
            rw[hpp] at hm9 hi9
            simp only[Option.getD_some] at hm9 hi9
            subst hm9
            have KP:=samePairs_same py ap xy kp cy w17 (by have:=HPY.out;omega) hi9 (HS8.out w17 (HX16.out.trans (b17.mono HX16.out.size))).2.2
            obtain⟨y0,y1,y2,_⟩:=im_cells HY17.out
            clear KS b17 hpp hi9 HPR HSP
            go_wp2_with fail
            refine KP.mono ?_
            rintro e w18 ⟨rfl,b18⟩
            have B18:Below w.heap.size w w18:=B17.trans (b18.mono B17.size)
            go_wp2
            go_ret
            exact⟨rfl,B18⟩
 · have HB:=bigYes len0 cap0 a0 w hb
   clear w0 hT
   go_enter Tryz.func3,Tryz.ntmps3
   go_wp2_with fail
   refine HB.mono ?_
   rintro e w ⟨rfl,rfl⟩
   clear HB
   go_wp2
   go_ret
   exact⟨rfl,Below.refl _ _⟩
set_option maxRecDepth 100000 in
theorem lifted (os:Os) (started:os.Started) (H:Type) (enc:TypeId × Value→H) :
 ReturnsInHanded {} Tryz.checked os 3 .any (fun w args=>(Rows.fnImportedSpec.pre enc Tryz.prog Tryz.f3 [] false w args∧laidMetH Tryz.prog Rows.fnImportedRow.laid w)∧sizedMet enc Tryz.prog Tryz.f3 (OpenSpec.ofChange Rows.fnImportedSpec) false w args)
  (Rows.fnImportedSpec.post enc Tryz.prog Tryz.f3 false true false false):=by
 refine returnsInHanded_of_change_and (C:=Tryz.checked) (X:=fun w _=>laidMetH Tryz.prog Rows.fnImportedRow.laid w) (fun _ _ _ hh h=>h.of_heap hh) own started (by kernel_rfl) Tryz.func3
  (ChangeSpec.witness_shaped (enc:=enc) (C:=Tryz.checked) (os:=os) (X:=fun w _=>laidMetH Tryz.prog Rows.fnImportedRow.laid w) false (World.doorLaid Tryz.prog 400 os) #[.slice none 0 0] 8 rfl (World.shaped_of_RefB (by kernel_rfl) (by kernel_rfl)) (by kernel_rfl) (by kernel_rfl) (by kernel_rfl) (door_met os _)) ?_
 intro W base args ds gs before hval0 hW _ _ hL _
 have hval:∀ (j:Nat) t v,Tryz.f3.params[j]? = some t→args[j]? = some v→Value.okWide Tryz.prog W .any base t v:=hval0
 have hW':=hW
 obtain⟨p,q,hA0,hV0,rfl,hfz,hnd⟩:=hW
 have hA:DataW.TrodAll enc Tryz.prog W 0 (fun _=>true) true Tryz.f3.params.toList args.toList ds p:=hA0
 have hV : DataW.TrodVars enc Tryz.prog W (fun _ => true) ["loop.example/g00226/impl.roundWords"] gs q := hV0
 rw[Tryz.params3] at hA hval
 obtain⟨v0,vs0,d0,ds0,p0,q0,hargs,rfl,rfl,h0,r0⟩:=trodAll_cons hA
 obtain⟨rfl,rfl,rfl⟩:=trodAll_nil r0
 obtain rfl:args=#[v0]:=by cases args;simp_all
 obtain⟨a0,len0,cap0,rfl⟩:=okWide_slice Tryz.underlying22 (hval 0 22 v0 rfl rfl)
 have k0:=h0
 have lt0:∀ x∈p0,x.block<W.heap.size:=by obtain⟨m,hm⟩:=k0;exact DataW.trod_lt m _ _ _ hm
 have w0:Code W a0 len0:=by
  obtain⟨fuel,hf⟩:=h0
  rcases open_ints Tryz.underlying22 Tryz.underlying5 (by kernel_rfl) hf with ⟨hcs,_⟩ | ⟨x,l,c,zs,hcs,_,hl,hm,hz,_,hcell,hwz⟩
  · simp[Value.cells] at hcs
    obtain⟨rfl,rfl,rfl⟩:=hcs
    exact .inl rfl
  · simp[Value.cells] at hcs
    obtain⟨rfl,rfl,rfl⟩:=hcs
    exact codeOf W x _ _ zs hl (by simpa using hz) hcell hwz
 obtain⟨g,t,cs,fuel,d,p',rfl,hg,ht,hvar,hd,rfl⟩:=trodVars_one hV
 obtain rfl:=Option.some.inj (gTab.symm.trans hg)
 obtain rfl:=Option.some.inj (tTab.symm.trans ht)
 have hT:=tab_of hL
 have hltv:∀ x∈p',x.block<W.heap.size:=fun x hx=>hW'.lt x (List.mem_append_right _ (List.mem_append_right _ hx))
 clear hA0 hV0 hval0 hA hV
 refine (walk a0 len0 cap0 W w0 hT).mono fun e W' ⟨he,hB⟩=>?_
 subst he
 obtain⟨fuel',hd'⟩:=Below.trod laidOut0 (by kernel_rfl) (of_decide_eq_true (by kernel_rfl)) (v:=.agg cs) (⟨fuel,by simpa [Value.cells] using hd⟩:DataW.Trod enc Tryz.prog W 0 (fun _=>true) true 179 (.agg cs) d p') hB hltv
 have hv':=trodVars_mk1 (enc:=enc) (spare:=fun b=>decide (b<W.heap.size)) hg ht (var?_below hB hg hT.1 hvar) (by simpa [Value.cells] using hd')
 exact⟨_,rfl,_,_,_,[],_,_,hW',trodAll_mk1 (shut_bool Tryz.underlying4 _),(trodAll_cons_mk (Below.trod laidOut0 (by kernel_rfl) (of_decide_eq_true (by kernel_rfl)) k0 hB lt0) trodAll_mk0),hv',hB.frame _,fun h=>by cases h⟩
theorem named0 : Tryz.prog.funcNamed "loop.example/g00226/laws.FnImported" = some 3 := by kernel_rfl
theorem closed0:joinedFacts Tryz.prog 3 Tryz.f3 Rows.fnImportedSpec Rows.fnImportedRow=true:=by
 unfold joinedFacts
 rw[seat_may,seat_lifts,seat_make]
 kernel_rfl
theorem inst0:Tryz.f3.isInstance Tryz.prog Rows.fnImportedRow.origin Rows.fnImportedRow.targs:=of_decide_eq_true (by kernel_rfl)
theorem wrap0:Tryz.f3.isWrapper Tryz.prog Rows.fnImportedRow.wrapper Rows.fnImportedRow.mainSum:=by unfold Func.isWrapper;first | (rw[if_pos (by decide +kernel)];kernel_rfl) | (rw[if_neg (by decide +kernel)];exact⟨rfl,rfl⟩)
theorem over:Rows.fnImportedRow.holds Tryz.pinned (OpenSpec.ofChange Rows.fnImportedSpec) :=
 OpenClaim.holds_of_wide 3 Tryz.f3 rfl rfl rfl rfl rfl rfl rfl ⟨rfl,rfl,rfl,rfl,rfl⟩ rfl rfl rfl rfl rfl named0 Tryz.func3 closed0 inst0 wrap0
  (fun os started H enc _=>lifted os started H enc)
theorem text0:Rows.fnImportedRow.wfByText (OpenSpec.ofChange Rows.fnImportedSpec)=true:=by kernel_rfl
theorem looks0:false=Tryz.prog.looks []:=by kernel_rfl
theorem goes0:false=Rows.fnImportedRow.goesBy Tryz.prog:=by kernel_rfl
theorem wants0:([22].all fun u => !Tryz.prog.wantsStandIn u)=true:=by kernel_rfl
theorem card:Claim7.holds Tryz.pinned (.plain (OpenSpec.ofChange Rows.fnImportedSpec)) Rows.fnImportedCard :=
 Claim7.holds_tied_plain_at .later [] [.data] true (true,Rows.fnImportedCard.stood.harness.2) false
  over (fun _ h=>by cases h) text0 (fun _ h=>by cases h) fnImported_row_tie rfl ⟨rfl,rfl⟩ seat_main rfl
  (fun f fn hf hfn => by
   obtain rfl:f=3:=Option.some.inj (named0.symm.trans hf) |>.symm
   obtain rfl:fn=Tryz.f3:=(Option.some.inj (Tryz.func3.symm.trans hfn)).symm
   exact⟨looks0,fun j t ht=>by
    rw[Tryz.params3] at ht
    have hm:t∈[22]:=by simpa using Array.mem_of_getElem? ht
    exact (show Tryz.prog.wantsStandIn t=false by simpa using List.all_eq_true.1 wants0 t hm)⟩)
  goes0
end Go.Proofs.YtahocpjieffbaaaGreatDoor.fnImported
namespace Go.Proofs.YtahocpjieffbaaaGreatDoor
theorem fnImported_holds:Rows.FnImportedCardSaid:=fnImported.card
end Go.Proofs.YtahocpjieffbaaaGreatDoor
