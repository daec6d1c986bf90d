/-
 At every code a chunk that is taken stands behind the others, one that is not changes nothing, and an import that is done has its root: FnTook answers true. No condition; the round words are laid as the program's text lays them.
-/
import Derived.Test.YtcoahmldmodmlaaGreatDoorDrawCk
import Derived.Test.YtcoahmldmodmlaaGreatDoorTookG
import Derived.Test.YtcoahmldmodmlaaGreatDoorImpO
import Derived.Test.YtcoahmldmodmlaaGreatDoorDrawPs
import Derived.Test.YtcoahmldmodmlaaGreatDoorLaidAll
import Derived.Test.YtcoahmldmodmlaaGreatDoorSeatAll
import Derived.Test.YtcoahmldmodmlaaGreatDoorTie
import Derived.Test.YtcoahmldmodmlaaGreatDoorCards
import Derived.ProofKit
import Derived.LaidMore
import Derived.OpenShut
import Derived.ShutString
import Derived.ChangeOld
import Derived.Below
import Derived.Stop.Joined
import Derived.Lib.LaidTab
import Derived.SevenTiedAt
import Derived.SliceStrings
namespace Go.Proofs.YtcoahmldmodmlaaGreatDoor.fnTook
open Go.ChangeShapes Go.WideShapes Go.ChangeAt Go.RowKit
open Go.ChangeMaps (open_string shut_string)
set_option linter.unusedVariables false
theorem own:ownKnob Tryz.prog.godebug=none:=by kernel_rfl
theorem laidOut0:laidOutB Tryz.prog=true:=by kernel_rfl
theorem gTab : Tryz.prog.globalNamed "loop.example/g00226/impl.roundWords" = some 1 := by kernel_rfl
theorem tTab:(Tryz.prog.globals[1]?).map (·.type)=some 136:=by kernel_rfl
theorem door_met (os:Os) (args:Array Value):laidMetH Tryz.prog Rows.fnTookRow.laid ((World.doorLaid Tryz.prog 400 os).forCall (fun _ _=>0) ⟨#[],args,[]⟩).memory :=
 laidMetH_of_parts3 (fuel:=8) (laidMet_of_run' 8 (by kernel_rfl) (by kernel_rfl)) (by kernel_rfl) (by kernel_rfl)
theorem tab_of {W:World} (h:laidMetH Tryz.prog Rows.fnTookRow.laid W):Tab W:=by
 rw[MakeChecks.laidMetH_plain _ _ _ (by kernel_rfl)] at h
 have hT : Lib.TabIs Tryz.prog W "loop.example/g00226/impl.roundWords" .u32 (kL.map fun x => num x) := Lib.tabIs_of_head (rest := []) gTab tTab Tryz.underlying136 Tryz.underlying99 (by kernel_rfl) (by kernel_rfl) h
 have hc:∀ i,i<64→W.cell? ⟨1,i,none⟩=some (.int .u32 (num (kL.getD i 0))):=fun i hi=>by
  have hl:i<kL.length:=hi
  have:=hT.cell gTab i (by rw[List.length_map];exact hl)
  rw[this]
  simp[List.getD,hl]
 exact⟨block_lt_of_cell (hc 0 (by omega)),hc⟩
theorem took_facts (r:List UInt8) (ps qs:List PairL) (d f l:Bool):(importB r ps d=false→tookB r ps d f l qs=false)∧(importB r ps d=true→tookB r ps d f l qs=false→tookPs r ps d f l qs=ps∧tookD r ps d f l qs=d∧tookRoot r ps d=r)∧(tookB r ps d f l qs=true→importB r ps d=true∧tookPs r ps d f l qs=ps ++ qs∧tookD r ps d f l qs=l∧tookRoot r ps d=r∧(l=true→rootOk (ps ++ qs)=true∧rootR (ps ++ qs)=r)∧importB r (ps ++ qs) l=true):=by
 refine⟨fun h=>by simp[tookB,h],fun h1 h2=>by simp[tookPs,tookD,tookRoot,h1,h2],fun h=>?_⟩
 have h':=h
 unfold tookB at h'
 simp only[Bool.and_eq_true,Bool.or_eq_true,Bool.not_eq_true',decide_eq_true_eq] at h'
 obtain⟨h1,h2,h3,h4,h5⟩:=h'
 have hl:l=true→rootOk (ps ++ qs)=true∧rootR (ps ++ qs)=r:=fun e=>by
  rcases h5 with h5 | h5
  · rw[e] at h5;cases h5
  · exact h5
 refine⟨h1,by simp[tookPs,h1,h],by simp[tookD,h],by simp[tookRoot,h1],hl,?_⟩
 unfold importB at h1 ⊢
 simp only[Bool.and_eq_true,Bool.or_eq_true,Bool.not_eq_true',decide_eq_true_eq] at h1 ⊢
 refine⟨h1.1,h4,?_⟩
 cases l with
 | false=>exact .inl rfl
 | true=>exact .inr (hl rfl)
theorem wp_app_prs {P:Program} {w:World} {o:Oper} {a:Act} {K:Act→World→Prop} {Q:Exit→Act→World→Prop} (s x:Operand) (t:TypeId)
 (ho:o.op=.call { callee:=.builtin .append,args:=#[s,x],argTypes:=#[t,t] })
 (base:Nat) (e:TypeId) (i:TypeInfo) (z:Value) (bytes:Nat) (ht:P.underlying t=some (.slice e)) (hi:P.info? e=some i) (hz:i.zero=some z)
 (hsize:i.size=2) (hby:i.bytes=bytes) (hzs:z.cells.size=2)
 (v:Value) (n:Nat) (xs:List Value) (hs:a.eval s=v) (hown:w.ownsRow base e 2 v n xs)
 (a2:Option Addr) (qs:List PairL) (m c:Nat) (hm:m=qs.length) (hx:a.eval x=.slice a2 m c) (hc:a2=none→c=0) (hp:IsPairs w a2 qs)
 (h63:n+m≤maxLen) (hbytes:(n+m)*bytes≤140737488355328) (hbase:base≤w.heap.size)
 (h:∀ v' w',w'.ownsRow base e 2 v' (n+m) (xs ++ pcells qs)→w.grownBy w' v.ownBlock→K (a.put o.dst v') w'):o.wp P a w K Q:=by
 subst hm
 cases a2 with
 | none =>
   have hq:qs=[]:=by
    rcases hp with h | ⟨b,off,h,_⟩
    · exact h
    · cases h
   subst hq
   obtain rfl:=hc rfl
   have hrun:=run_append_owned_none (P:=P) (w:=w) base t o.type e i 2 ht hi v n xs hown
   unfold Oper.wp
   simp[execOp,ho,resolve,invoke,builtin,hs,hx,hrun,Result.andThen]
   exact h v w (by simpa [pcells] using hown) (World.grownBy.refl _ _)
 | some ad=>exact wp_append_own w s x t ho base e i z 2 bytes ht hi hz hsize hby hzs (by decide) v n xs hs hown ad qs.length c (pcells qs) hx (pcells_length qs) (flat_prs hp rfl) (one_prs qs) h63 hbytes hbase (fun v' w' h1 h2 _=>h v' w' h1 h2)
theorem step_app_prs {P:Program} {w:World} {ops:Array Oper} {o:Oper} {a:Act} {K:Act→World→Prop} {Q:Exit→Act→World→Prop} {E:Prop} (hgd:o.guard=none) (s x:Operand) (t:TypeId)
 (ho:o.op=.call { callee:=.builtin .append,args:=#[s,x],argTypes:=#[t,t] })
 (base:Nat) (e:TypeId) (i:TypeInfo) (z:Value) (bytes:Nat) (ht:P.underlying t=some (.slice e)) (hi:P.info? e=some i) (hz:i.zero=some z)
 (hsize:i.size=2) (hby:i.bytes=bytes) (hzs:z.cells.size=2)
 (v:Value) (n:Nat) (xs:List Value) (hs:a.eval s=v) (hown:w.ownsRow base e 2 v n xs)
 (a2:Option Addr) (qs:List PairL) (m c:Nat) (hm:m=qs.length) (hx:a.eval x=.slice a2 m c) (hc:a2=none→c=0) (hp:IsPairs w a2 qs)
 (h63:n+m≤maxLen) (hbytes:(n+m)*bytes≤140737488355328) (hbase:base≤w.heap.size)
 (h:∀ v' w',w'.ownsRow base e 2 v' (n+m) (xs ++ pcells qs)→w.grownBy w' v.ownBlock→K (a.put o.dst v') w') :
 if Region.wanted o (yielded ops a.tmps)=true then Oper.wp P o a w K Q else E:=by
 rw[if_pos (by simp[Region.wanted,hgd])]
 exact wp_app_prs s x t ho base e i z bytes ht hi hz hsize hby hzs v n xs hs hown a2 qs m c hm hx hc hp h63 hbytes hbase h
set_option maxRecDepth 100000 in
set_option maxHeartbeats 2000000 in
theorem walk (a0 : Option Addr) (len0 cap0 : Nat) (w : World) (w0 : Code w a0 len0) (hT : Tab w) :
 Calls Tryz.prog 3 #[.slice a0 len0 cap0] w fun e w'=>e=.returned (.bool true)∧Below w.heap.size w w':=by
 by_cases hb:len0≤1048576
 · have HB := bigNo len0 cap0 a0 w hb
   have HC:Hid (Code w a0 len0):=w0
   have HT:Hid (Tab w):=hT
   clear w0 hT
   go_enter Tryz.func3,Tryz.ntmps3
   go_wp2_with fail
   refine HB.mono ?_
   rintro e w ⟨rfl,rfl⟩
   clear HB
   have HD:=drawTook len0 cap0 a0 w hb HC.out
   go_wp2_with fail
   refine HD.mono ?_
   rintro e w1 ⟨r,ps,d,x,c,f,l,u,qs,ku,rfl,hr,hpl,hsm,hql,hsq,o1,o2,B1⟩
   obtain⟨_,hs1,haa,hca⟩:=own_form o1
   obtain⟨_,hs2,haa2,hca2⟩:=own_form o2
   have hf1:=fun q hq=>(o1.lt q hq).2
   obtain⟨w2,hw2⟩:∃ W,W=(w1.alloc (.cells #[.string ⟨r.toArray⟩,.slice x ps.length c,.bool d] 26)).alloc (.cells #[.bool f,.bool l,.slice u qs.length ku] 28):=⟨_,rfl⟩
   have X2:Below w1.heap.size w1 w2:=by rw[hw2];exact ((Below.refl _ _).alloc (Nat.le_refl _) _).alloc (by simp) _
   have B2:Below w.heap.size w w2:=B1.trans (X2.mono B1.size)
   have Hm2:Hid (w2.heap[w1.heap.size]? = some (.cells #[.string ⟨r.toArray⟩,.slice x ps.length c,.bool d] 26 (0,0))):=by rw[hw2,Hid,Below.heap_alloc _ _ _ (by simp)];exact heap_alloc_new w1 _
   have Hc2:Hid (w2.heap[(w1.heap.size+1)]? = some (.cells #[.bool f,.bool l,.slice u qs.length ku] 28 (0,0))):=by
    rw[hw2,Hid]
    have:=heap_alloc_new (w1.alloc (.cells #[.string ⟨r.toArray⟩,.slice x ps.length c,.bool d] 26)) (.cells #[.bool f,.bool l,.slice u qs.length ku] 28)
    simpa using this
   have K1:=impl_took r x u c ku ps qs d f l w2 haa hca haa2 hca2 hr (by omega) (smallP_le hsm) (by omega) (smallP_le hsq) (hs1.later X2) (hs2.later X2) (HT.out.later B2)
   have HK2:Hid (∀ W,Below w1.heap.size w1 W→_):=fun W hW=>spec_took r x u c ku ps qs ps.length qs.length haa hca haa2 hca2 rfl rfl d f l W hr (by omega) (smallP_le hsm) (by omega) (smallP_le hsq) (hs1.later hW) (hs2.later hW)
   have HK3:Hid (∀ W,Below w1.heap.size w1 W→_):=fun W hW=>spec_importOk r x c ps d W hr (by omega) (smallP_le hsm) (hs1.later hW)
   have HI:Hid (∀ W,Below w1.heap.size w1 W→IsPairs W x ps∧IsPairs W u qs):=fun W hW=>⟨hs1.later hW,hs2.later hW⟩
   have HAA:Hid ((x=none∨∃ b off,x=some ⟨b,off,none⟩)∧(x=none→c=0)∧(u=none∨∃ b off,u=some ⟨b,off,none⟩)∧(u=none→ku=0)):=⟨haa,hca,haa2,hca2⟩
   have HSZ:Hid (r.length≤1048576∧ps.length≤60∧smallP ps∧qs.length≤10∧smallP qs):=⟨hr,hpl,hsm,hql,hsq⟩
   obtain⟨hF0,hF1,hF2⟩:=took_facts r ps qs d f l
   obtain⟨tr,htr⟩:∃ z,z=tookRoot r ps d:=⟨_,rfl⟩
   obtain⟨tp,htp⟩:∃ z,z=tookPs r ps d f l qs:=⟨_,rfl⟩
   obtain⟨td,htd⟩:∃ z,z=tookD r ps d f l qs:=⟨_,rfl⟩
   obtain⟨tb,htb⟩:∃ z,z=tookB r ps d f l qs:=⟨_,rfl⟩
   obtain⟨ib,hib⟩:∃ z,z=importB r ps d:=⟨_,rfl⟩
   rw[←htr,←htp,←htd,←htb] at K1 HK2
   rw[←hib] at HK3
   rw[←htb,←hib] at hF0
   rw[←htb,←hib,←htp,←htd,←htr] at hF1 hF2
   have HF0:Hid (ib=false→tb=false):=hF0
   have HF1:Hid (ib=true→tb=false→tp=ps∧td=d∧tr=r):=hF1
   have HF2:Hid (tb=true→ib=true∧tp=ps ++ qs∧td=l∧tr=r∧(l=true→rootOk (ps ++ qs)=true∧rootR (ps ++ qs)=r)∧importB r (ps ++ qs) l=true):=hF2
   have HX2:Hid (Below w1.heap.size w1 w2):=X2
   clear HD hr hpl hsm hql hsq o1 o2 hs1 hs2 haa hca haa2 hca2 htr htp htd htb hib hF0 hF1 hF2 hf1 X2
   obtain⟨m0,m1,m2,_⟩:=im_cells Hm2.out
   obtain⟨c0,c1,c2,_⟩:=im_cells Hc2.out
   rw[hw2] at K1 m0 m1 m2 c0 c1 c2
   go_wp2_with fail
   refine K1.mono ?_
   rintro e w3 ⟨a5,m5,k5,rfl,o3,b3⟩
   rw[←hw2] at b3
   obtain⟨rfl,hs3,_,_⟩:=own_form o3
   have B3:Below w.heap.size w w3:=B2.trans (b3.mono B2.size)
   have HX3:Hid (Below w1.heap.size w1 w3):=HX2.out.trans (b3.mono HX2.out.size)
   have Hm3:Hid (w3.heap[w1.heap.size]? = some (.cells #[.string ⟨r.toArray⟩,.slice x ps.length c,.bool d] 26 (0,0))):=(b3.block _ (lt_of_block Hm2.out)).trans Hm2.out
   have Hc3:Hid (w3.heap[(w1.heap.size+1)]? = some (.cells #[.bool f,.bool l,.slice u qs.length ku] 28 (0,0))):=(b3.block _ (lt_of_block Hc2.out)).trans Hc2.out
   clear K1 m0 m1 m2 c0 c1 c2 Hm2 Hc2 HX2 hw2 o3
   obtain⟨w4,hw4⟩:∃ W,W=w3.alloc (.cells #[.string ⟨tr.toArray⟩,.slice a5 tp.length k5,.bool td] 26):=⟨_,rfl⟩
   have X4:Below w3.heap.size w3 w4:=by rw[hw4];exact (Below.refl _ _).alloc (Nat.le_refl _) _
   have Hx4:Hid (w4.heap[w3.heap.size]? = some (.cells #[.string ⟨tr.toArray⟩,.slice a5 tp.length k5,.bool td] 26 (0,0))):=by rw[hw4];exact heap_alloc_new w3 _
   have HS4:Hid (∀ W,Below w4.heap.size w4 W→IsPairs W a5 tp):=fun W hW=>(hs3.later X4).later hW
   have B4:Below w.heap.size w w4:=B3.trans (X4.mono B3.size)
   have HX4:Hid (Below w1.heap.size w1 w4):=HX3.out.trans (X4.mono HX3.out.size)
   have Hm4:Hid (w4.heap[w1.heap.size]? = some (.cells #[.string ⟨r.toArray⟩,.slice x ps.length c,.bool d] 26 (0,0))):=(X4.block _ (lt_of_block Hm3.out)).trans Hm3.out
   have Hc4:Hid (w4.heap[(w1.heap.size+1)]? = some (.cells #[.bool f,.bool l,.slice u qs.length ku] 28 (0,0))):=(X4.block _ (lt_of_block Hc3.out)).trans Hc3.out
   have K2:=HK2.out w4 HX4.out
   obtain⟨m0,m1,m2,_⟩:=im_cells Hm4.out
   obtain⟨c0,c1,c2,_⟩:=im_cells Hc4.out
   clear HK2 hs3 X4 Hm3 Hc3 HX3 b3 B3
   rw[hw4] at K2 m0 m1 m2 c0 c1 c2
   go_wp2_with fail
   refine K2.mono ?_
   rintro e w5 ⟨a6,m6,k6,rfl,o5,b5⟩
   rw[←hw4] at b5
   obtain⟨w6,hw6⟩:∃ W,W=w5.alloc (.cells #[.string ⟨tr.toArray⟩,.slice a6 m6 k6,.bool td] 26):=⟨_,rfl⟩
   have b6:Below w4.heap.size w4 w6:=by rw[hw6];exact b5.alloc b5.size _
   have B6:Below w.heap.size w w6:=B4.trans (b6.mono B4.size)
   have HX6:Hid (Below w1.heap.size w1 w6):=HX4.out.trans (b6.mono HX4.out.size)
   have HS6:Hid (∀ W,Below w6.heap.size w6 W→IsPairs W a5 tp):=fun W hW=>HS4.out W (b6.trans (hW.mono b6.size))
   have Hm6:Hid (w6.heap[w1.heap.size]? = some (.cells #[.string ⟨r.toArray⟩,.slice x ps.length c,.bool d] 26 (0,0))):=(b6.block _ (lt_of_block Hm4.out)).trans Hm4.out
   have Hc6:Hid (w6.heap[(w1.heap.size+1)]? = some (.cells #[.bool f,.bool l,.slice u qs.length ku] 28 (0,0))):=(b6.block _ (lt_of_block Hc4.out)).trans Hc4.out
   have Hx6:Hid (w6.heap[w3.heap.size]? = some (.cells #[.string ⟨tr.toArray⟩,.slice a5 tp.length k5,.bool td] 26 (0,0))):=(b6.block _ (lt_of_block Hx4.out)).trans Hx4.out
   have K3:=HK3.out w6 HX6.out
   clear K2 m0 m1 m2 c0 c1 c2 Hm4 Hc4 Hx4 HX4 HS4 o5 b5 b6 B4 HK3 hw4
   obtain⟨m0,m1,m2,_⟩:=im_cells Hm6.out
   rw[hw6] at K3 m0 m1 m2
   cases tb with
   | false =>
     have HF3:Hid (ib=true→tp=ps∧td=d∧tr=r):=fun h=>HF1.out h rfl
     clear HF0 HF1 HF2
     go_wp2_with fail
     refine K3.mono ?_
     rintro e w7 ⟨rfl,b7⟩
     rw[←hw6] at b7
     have B7:Below w.heap.size w w7:=B6.trans (b7.mono B6.size)
     cases ib with
     | false =>
       clear K3 m0 m1 m2 hw6
       go_wp2
       go_ret
       exact⟨rfl,B7⟩
     | true =>
       obtain⟨h1,h2,h3⟩:=HF3.out rfl
       have g1:=h1.symm
       have g2:=h2.symm
       have g3:=h3.symm
       clear h1 h2 h3 HF3
       subst g1 g2 g3
       have KS:=samePairs_same ps a5 x k5 c w7 (by have:=HSZ.out;omega) (HS6.out _ b7) (HI.out _ (HX6.out.trans (b7.mono HX6.out.size))).1
       have Hm7:Hid (w7.heap[w1.heap.size]? = some (.cells #[.string ⟨r.toArray⟩,.slice x ps.length c,.bool d] 26 (0,0))):=(b7.block _ (lt_of_block Hm6.out)).trans Hm6.out
       have Hx7:Hid (w7.heap[w3.heap.size]? = some (.cells #[.string ⟨r.toArray⟩,.slice a5 ps.length k5,.bool d] 26 (0,0))):=(b7.block _ (lt_of_block Hx6.out)).trans Hx6.out
       clear K3 m0 m1 m2 hw6 Hm6 Hc6 Hx6 HS6 HI b7
       obtain⟨m0,m1,m2,_⟩:=im_cells Hm7.out
       obtain⟨x0,x1,x2,_⟩:=im_cells Hx7.out
       go_wp2_with fail
       refine KS.mono ?_
       rintro e w8 ⟨rfl,b8⟩
       have B8:Below w.heap.size w w8:=B7.trans (b8.mono B7.size)
       have Hm8:Hid (w8.heap[w1.heap.size]? = some (.cells #[.string ⟨r.toArray⟩,.slice x ps.length c,.bool d] 26 (0,0))):=(b8.block _ (lt_of_block Hm7.out)).trans Hm7.out
       have Hx8:Hid (w8.heap[w3.heap.size]? = some (.cells #[.string ⟨r.toArray⟩,.slice a5 ps.length k5,.bool d] 26 (0,0))):=(b8.block _ (lt_of_block Hx7.out)).trans Hx7.out
       clear KS m0 m1 m2 x0 x1 x2 Hm7 Hx7 b8
       obtain⟨m0,m1,m2,_⟩:=im_cells Hm8.out
       obtain⟨x0,x1,x2,_⟩:=im_cells Hx8.out
       go_wp2
       go_ret
       exact⟨rfl,B8⟩
   | true =>
     obtain⟨h0,h1,h2,h3,hroot,hiok⟩:=HF2.out rfl
     have g2:=h2.symm
     have g3:=h3.symm
     clear HF0 HF1 HF2 h2 h3
     subst h0 h1 g2 g3
     go_wp2_with fail
     refine K3.mono ?_
     rintro e w7 ⟨rfl,b7⟩
     rw[←hw6] at b7
     have B7:Below w.heap.size w w7:=B6.trans (b7.mono B6.size)
     have HX7:Hid (Below w1.heap.size w1 w7):=HX6.out.trans (b7.mono HX6.out.size)
     have HSQ:smallP (ps ++ qs):=smallP_app HSZ.out.2.2.1 HSZ.out.2.2.2.2
     have HLL:(ps ++ qs).length≤70:=by have:=HSZ.out;rw[List.length_append];omega
     have K4:=impl_rootOf a5 k5 (ps ++ qs) w7 (by omega) (smallP_le HSQ) (HS6.out _ b7) (HT.out.later B7)
     have HK5:Hid (∀ W,Below w6.heap.size w6 W→Tab W→_):=fun W hW hT=>impl_importOk r a5 k5 (ps ++ qs) l W HSZ.out.1 (by omega) (smallP_le HSQ) (HS6.out W hW) hT
     rw[hiok] at HK5
     obtain⟨rr,hrr⟩:∃ z,z=rootR (ps ++ qs):=⟨_,rfl⟩
     obtain⟨rk,hrk⟩:∃ z,z=rootOk (ps ++ qs):=⟨_,rfl⟩
     rw[←hrr,←hrk] at K4 hroot
     have HRT:Hid (l=true→rk=true∧rr=r):=hroot
     obtain⟨al,hal⟩:∃ z,z=ps ++ qs:=⟨_,rfl⟩
     rw[←hal] at K4 HK5 HS6 Hx6
     have HAL:Hid (al=ps ++ qs):=hal
     have HLA:Hid (al.length≤70∧al.length=ps.length+qs.length):=by rw[Hid,hal];exact⟨HLL,List.length_append⟩
     have Hm7:Hid (w7.heap[w1.heap.size]? = some (.cells #[.string ⟨r.toArray⟩,.slice x ps.length c,.bool d] 26 (0,0))):=(b7.block _ (lt_of_block Hm6.out)).trans Hm6.out
     have Hc7:Hid (w7.heap[(w1.heap.size+1)]? = some (.cells #[.bool f,.bool l,.slice u qs.length ku] 28 (0,0))):=(b7.block _ (lt_of_block Hc6.out)).trans Hc6.out
     have Hx7:Hid (w7.heap[w3.heap.size]? = some (.cells #[.string ⟨r.toArray⟩,.slice a5 al.length k5,.bool l] 26 (0,0))):=(b7.block _ (lt_of_block Hx6.out)).trans Hx6.out
     have HB7:Hid (Below w6.heap.size w6 w7):=b7
     clear K3 m0 m1 m2 hw6 Hm6 Hc6 Hx6 b7 hroot hiok HSQ HLL hrr hrk hal HX6 B6
     obtain⟨x0,x1,x2,_⟩:=im_cells Hx7.out
     go_wp2_with fail
     refine K4.mono ?_
     rintro e w8 ⟨rfl,b8⟩
     have B8:Below w.heap.size w w8:=B7.trans (b8.mono B7.size)
     have HX8:Hid (Below w1.heap.size w1 w8):=HX7.out.trans (b8.mono HX7.out.size)
     have HB8:Hid (Below w6.heap.size w6 w8):=HB7.out.trans (b8.mono HB7.out.size)
     have Hm8:Hid (w8.heap[w1.heap.size]? = some (.cells #[.string ⟨r.toArray⟩,.slice x ps.length c,.bool d] 26 (0,0))):=(b8.block _ (lt_of_block Hm7.out)).trans Hm7.out
     have Hc8:Hid (w8.heap[(w1.heap.size+1)]? = some (.cells #[.bool f,.bool l,.slice u qs.length ku] 28 (0,0))):=(b8.block _ (lt_of_block Hc7.out)).trans Hc7.out
     have Hx8:Hid (w8.heap[w3.heap.size]? = some (.cells #[.string ⟨r.toArray⟩,.slice a5 al.length k5,.bool l] 26 (0,0))):=(b8.block _ (lt_of_block Hx7.out)).trans Hx7.out
     clear K4 x0 x1 x2 Hm7 Hc7 Hx7 b8 HX7 HB7 B7
     cases l with
     | true =>
       obtain⟨h1,h2⟩:=HRT.out rfl
       have h3:=h2.symm
       clear HRT h2
       subst h1 h3
       obtain⟨i0,hi0,hz0,hz1,hz2⟩:=info_parts infoPair
       have SB:Hid (∀ W,Below w8.heap.size w8 W→W.cell? ⟨w3.heap.size,0,none⟩=some (.string ⟨r.toArray⟩)∧W.cell? ⟨w3.heap.size,1,none⟩=some (.slice a5 al.length k5)∧W.cell? ⟨w3.heap.size,2,none⟩=some (.bool true)∧W.cell? ⟨w1.heap.size,0,none⟩=some (.string ⟨r.toArray⟩)∧W.cell? ⟨w1.heap.size,1,none⟩=some (.slice x ps.length c)∧W.cell? ⟨(w1.heap.size+1),1,none⟩=some (.bool true)∧W.cell? ⟨(w1.heap.size+1),2,none⟩=some (.slice u qs.length ku)):=fun W hW=>by
        obtain⟨x0,x1,x2,_⟩:=im_cells ((hW.block _ (lt_of_block Hx8.out)).trans Hx8.out)
        obtain⟨m0,m1,m2,_⟩:=im_cells ((hW.block _ (lt_of_block Hm8.out)).trans Hm8.out)
        obtain⟨c0,c1,c2,_⟩:=im_cells ((hW.block _ (lt_of_block Hc8.out)).trans Hc8.out)
        exact⟨x0,x1,x2,m0,m1,c1,c2⟩
       have BD:Below w8.heap.size w8 w8.drew:=⟨rfl,rfl,rfl,Nat.le_refl _,fun _ _=>rfl⟩
       have B9:Hid (Below w8.heap.size w8 (w8.drew.alloc (.cells #[] 46))):=BD.alloc (Nat.le_refl _) _
       have HZ9:Hid (w8.heap.size≤(w8.drew.alloc (.cells #[] 46)).heap.size):=B9.out.size
       have O9:Hid ((w8.drew.alloc (.cells #[] 46)).ownsRow w8.heap.size 46 2 (.slice (some ⟨w8.heap.size,0,none⟩) 0 0) 0 []):=World.ownsRow_lit w8.drew #[] 0 (Nat.le_refl _) (Nat.zero_le _) rfl
       clear Hm8 Hc8 Hx8
       go_wp2
       refine wp_region_held_drew (S:=fun w'=>w'.cell? ⟨w3.heap.size,0,none⟩=some (.string ⟨r.toArray⟩)∧w'.cell? ⟨w3.heap.size,1,none⟩=some (.slice a5 al.length k5)∧w'.cell? ⟨w3.heap.size,2,none⟩=some (.bool true)∧w'.cell? ⟨w1.heap.size,0,none⟩=some (.string ⟨r.toArray⟩)∧w'.cell? ⟨w1.heap.size,1,none⟩=some (.slice x ps.length c)∧w'.cell? ⟨(w1.heap.size+1),1,none⟩=some (.bool true)∧w'.cell? ⟨(w1.heap.size+1),2,none⟩=some (.slice u qs.length ku)) (by kernel_rfl) (SB.out _ BD) (fun hHeld=>?_)
       refine wpAnyH_take (i := 0) (oi := { dst := some 68, op := Op.fieldAddr 26 (Operand.tmp 5) 1, type := 0, pos := "laws.go:1006", after := #[], guard := none }) (v := ?vb0) rfl (by kernel_rfl) (by kernel_rfl) (by kernel_rfl) (fun _ _ _ h => h) (Or.inl ⟨by rfl, ?yb0⟩) (by assumption) ?rb0
       case yb0=>(intro w hSw;(try dsimp only at hSw);go_simp;(try with_reducible rfl))
       try simp only[Act.put,List.setIfInBounds_toArray,List.set_cons_zero,List.set_cons_succ]
       refine wpAnyH_take (i := 1) (oi := { dst := some 69, op := Op.load 24 (Operand.tmp 68), type := 24, pos := "laws.go:1006", after := #[{ on := 0, ground := Ground.data }], guard := none }) (v := ?vb1) rfl (by kernel_rfl) (by kernel_rfl) (by kernel_rfl) (fun _ _ _ h => h) (Or.inl ⟨by rfl, ?yb1⟩) (by assumption) ?rb1
       case yb1=>(intro w hSw;(try dsimp only at hSw);go_simp;(try with_reducible rfl))
       try simp only[Act.put,List.setIfInBounds_toArray,List.set_cons_zero,List.set_cons_succ]
       refine wpAnyH_take (i := 3) (oi := { dst := some 71, op := Op.fieldAddr 26 (Operand.tmp 3) 1, type := 0, pos := "laws.go:1006", after := #[], guard := none }) (v := ?vb3) rfl (by kernel_rfl) (by kernel_rfl) (by kernel_rfl) (fun _ _ _ h => h) (Or.inl ⟨by rfl, ?yb3⟩) (by assumption) ?rb3
       case yb3=>(intro w hSw;(try dsimp only at hSw);go_simp;(try with_reducible rfl))
       try simp only[Act.put,List.setIfInBounds_toArray,List.set_cons_zero,List.set_cons_succ]
       refine wpAnyH_take (i := 4) (oi := { dst := some 72, op := Op.load 24 (Operand.tmp 71), type := 24, pos := "laws.go:1006", after := #[{ on := 3, ground := Ground.data }], guard := none }) (v := ?vb4) rfl (by kernel_rfl) (by kernel_rfl) (by kernel_rfl) (fun _ _ _ h => h) (Or.inl ⟨by rfl, ?yb4⟩) (by assumption) ?rb4
       case yb4=>(intro w hSw;(try dsimp only at hSw);go_simp;(try with_reducible rfl))
       try simp only[Act.put,List.setIfInBounds_toArray,List.set_cons_zero,List.set_cons_succ]
       refine wpAnyH_take (i := 6) (oi := { dst := some 74, op := Op.fieldAddr 28 (Operand.tmp 4) 2, type := 0, pos := "laws.go:1006", after := #[], guard := none }) (v := ?vb6) rfl (by kernel_rfl) (by kernel_rfl) (by kernel_rfl) (fun _ _ _ h => h) (Or.inl ⟨by rfl, ?yb6⟩) (by assumption) ?rb6
       case yb6=>(intro w hSw;(try dsimp only at hSw);go_simp;(try with_reducible rfl))
       try simp only[Act.put,List.setIfInBounds_toArray,List.set_cons_zero,List.set_cons_succ]
       refine wpAnyH_take (i := 7) (oi := { dst := some 75, op := Op.load 24 (Operand.tmp 74), type := 24, pos := "laws.go:1006", after := #[{ on := 6, ground := Ground.data }], guard := none }) (v := ?vb7) rfl (by kernel_rfl) (by kernel_rfl) (by kernel_rfl) (fun _ _ _ h => h) (Or.inl ⟨by rfl, ?yb7⟩) (by assumption) ?rb7
       case yb7=>(intro w hSw;(try dsimp only at hSw);go_simp;(try with_reducible rfl))
       try simp only[Act.put,List.setIfInBounds_toArray,List.set_cons_zero,List.set_cons_succ]
       refine wpAnyH_ready (rs:=[2]) (by kernel_rfl) (by simp) ?_
       refine AllReadyH.cons (o := { dst := some 70, op := Op.buildSlice 24 0 #[], type := 24, pos := "laws.go:1006", after := #[], guard := none }) rfl (fun K hK => ?_) AllReadyH.nil
       go_simp
       clear hHeld
       refine hK.out _ _ (SB.out _ B9.out) (fun hHeld=>?_)
       clear hK K
       try simp only[Act.put,List.setIfInBounds_toArray,List.set_cons_zero,List.set_cons_succ]
       refine wpAnyH_ready (rs:=[5]) (by kernel_rfl) (by simp) ?_
       refine AllReadyH.cons (o := { dst := some 73, op := Op.call { callee := Callee.builtin Builtin.append, args := #[Operand.tmp 70, Operand.tmp 72], argTypes := #[24, 24] }, type := 24, pos := "laws.go:1006", after := #[{ on := 2, ground := Ground.data }, { on := 4, ground := Ground.data }], guard := none }) rfl (fun K hK => ?_) AllReadyH.nil
       refine step_app_prs rfl (.tmp 70) (.tmp 72) 24 rfl w8.heap.size 46 i0 (.agg #[.string ⟨#[]⟩,.string ⟨#[]⟩]) 32 Tryz.underlying24 hi0 hz0 hz1 hz2 rfl (.slice (some ⟨w8.heap.size,0,none⟩) 0 0) 0 [] (by rfl) O9.out x ps ps.length c rfl (by rfl) HAA.out.2.1 (HI.out _ (HX8.out.trans (B9.out.mono HX8.out.size))).1 (by have:=HSZ.out;unfold maxLen;omega) (by have:=HSZ.out;omega) HZ9.out ?_
       intro v1 w10 o10 g10
       have O10:Hid (w10.ownsRow w8.heap.size 46 2 v1 (0+ps.length) ([] ++ pcells ps)):=o10
       have B10:Hid (Below w8.heap.size w8 w10):=B9.out.grown g10 B9.out.size (fun k hk=>by simp[Value.ownBlock] at hk;omega)
       obtain⟨a1,m1,c1,rfl⟩:=own_slice2 o10
       clear o10 g10
       clear hHeld
       refine hK.out _ _ (SB.out _ B10.out) (fun hHeld=>?_)
       clear hK K
       try simp only[Act.put,List.setIfInBounds_toArray,List.set_cons_zero,List.set_cons_succ]
       refine wpAnyH_ready (rs:=[8]) (by kernel_rfl) (by simp) ?_
       refine AllReadyH.cons (o := { dst := some 76, op := Op.call { callee := Callee.builtin Builtin.append, args := #[Operand.tmp 73, Operand.tmp 75], argTypes := #[24, 24] }, type := 24, pos := "laws.go:1006", after := #[{ on := 5, ground := Ground.data }, { on := 7, ground := Ground.data }, { on := 5, ground := Ground.chain }], guard := none }) rfl (fun K hK => ?_) AllReadyH.nil
       refine step_app_prs rfl (.tmp 73) (.tmp 75) 24 rfl w8.heap.size 46 i0 (.agg #[.string ⟨#[]⟩,.string ⟨#[]⟩]) 32 Tryz.underlying24 hi0 hz0 hz1 hz2 rfl (.slice a1 m1 c1) (0+ps.length) ([] ++ pcells ps) (by rfl) O10.out u qs qs.length ku rfl (by rfl) HAA.out.2.2.2 (HI.out _ (HX8.out.trans (B10.out.mono HX8.out.size))).2 (by have:=HSZ.out;unfold maxLen;omega) (by have:=HSZ.out;omega) B10.out.size ?_
       intro v2 w11 o11 g11
       have B11:Hid (Below w8.heap.size w8 w11):=B10.out.grown g11 B10.out.size (fun k hk=>(O10.out.lt k hk).1)
       have o11a:w11.ownsRow w8.heap.size 46 2 v2 al.length (pcells al):=by rw[HAL.out,pcells_two,List.length_append];simpa using o11
       obtain⟨a2,m2,c2,rfl⟩:=own_slice2 o11a
       obtain⟨rfl,is2,_,_⟩:=own_form o11a
       have KS:=samePairs_same al a5 a2 k5 c2 w11 (by have:=HLA.out;omega) (HS6.out _ (HB8.out.trans (B11.out.mono HB8.out.size))) is2
       clear o11 g11 o11a is2
       clear hHeld
       refine hK.out _ _ (SB.out _ B11.out) (fun hHeld=>?_)
       clear hK K
       try simp only[Act.put,List.setIfInBounds_toArray,List.set_cons_zero,List.set_cons_succ]
       refine wpAnyH_ready (rs:=[9]) (by kernel_rfl) (by simp) ?_
       refine AllReadyH.cons (o := { dst := some 77, op := Op.call { callee := Callee.value (Operand.func 9), args := #[Operand.tmp 69, Operand.tmp 76], argTypes := #[24, 24] }, type := 4, pos := "laws.go:1006", after := #[{ on := 1, ground := Ground.data }, { on := 8, ground := Ground.data }, { on := 8, ground := Ground.chain }], guard := none }) rfl (fun K hK => ?_) AllReadyH.nil
       go_simp
       go_at_call 9
       with_reducible refine KS.mono ?_
       rintro e w12 ⟨rfl,b12⟩
       have B12:Hid (Below w8.heap.size w8 w12):=B11.out.trans (b12.mono B11.out.size)
       have K13:=HK5.out w12 (HB8.out.trans (B12.out.mono HB8.out.size)) (HT.out.later (B8.trans (B12.out.mono B8.size)))
       clear KS b12
       clear hHeld
       refine hK.out _ _ (SB.out _ B12.out) (fun hHeld=>?_)
       clear hK K
       try simp only[Act.put,List.setIfInBounds_toArray,List.set_cons_zero,List.set_cons_succ]
       refine wpAnyH_take (i := 10) (oi := { dst := some 78, op := Op.move (Operand.tmp 77), type := 4, pos := "laws.go:1006", after := #[{ on := 9, ground := Ground.data }, { on := 9, ground := Ground.chain }], guard := none }) (v := ?vb10) rfl (by kernel_rfl) (by kernel_rfl) (by kernel_rfl) (fun _ _ _ h => h) (Or.inl ⟨by rfl, ?yb10⟩) (by assumption) ?rb10
       case yb10=>(intro w hSw;(try dsimp only at hSw);go_simp;(try with_reducible rfl))
       try simp only[Act.put,List.setIfInBounds_toArray,List.set_cons_zero,List.set_cons_succ]
       refine wpAnyH_take (i := 11) (oi := { dst := some 79, op := Op.fieldAddr 26 (Operand.tmp 5) 2, type := 0, pos := "laws.go:1006", after := #[{ on := 10, ground := Ground.guard }], guard := some (10, true) }) (v := ?vb11) rfl (by kernel_rfl) (by kernel_rfl) (by kernel_rfl) (fun _ _ _ h => h) (Or.inl ⟨by rfl, ?yb11⟩) (by assumption) ?rb11
       case yb11=>(intro w hSw;(try dsimp only at hSw);go_simp;(try with_reducible rfl))
       try simp only[Act.put,List.setIfInBounds_toArray,List.set_cons_zero,List.set_cons_succ]
       refine wpAnyH_take (i := 12) (oi := { dst := some 80, op := Op.load 4 (Operand.tmp 79), type := 4, pos := "laws.go:1006", after := #[{ on := 11, ground := Ground.data }, { on := 10, ground := Ground.guard }], guard := some (10, true) }) (v := ?vb12) rfl (by kernel_rfl) (by kernel_rfl) (by kernel_rfl) (fun _ _ _ h => h) (Or.inl ⟨by rfl, ?yb12⟩) (by assumption) ?rb12
       case yb12=>(intro w hSw;(try dsimp only at hSw);go_simp;(try with_reducible rfl))
       try simp only[Act.put,List.setIfInBounds_toArray,List.set_cons_zero,List.set_cons_succ]
       refine wpAnyH_take (i := 13) (oi := { dst := some 81, op := Op.fieldAddr 28 (Operand.tmp 4) 1, type := 0, pos := "laws.go:1006", after := #[{ on := 10, ground := Ground.guard }], guard := some (10, true) }) (v := ?vb13) rfl (by kernel_rfl) (by kernel_rfl) (by kernel_rfl) (fun _ _ _ h => h) (Or.inl ⟨by rfl, ?yb13⟩) (by assumption) ?rb13
       case yb13=>(intro w hSw;(try dsimp only at hSw);go_simp;(try with_reducible rfl))
       try simp only[Act.put,List.setIfInBounds_toArray,List.set_cons_zero,List.set_cons_succ]
       refine wpAnyH_take (i := 14) (oi := { dst := some 82, op := Op.load 4 (Operand.tmp 81), type := 4, pos := "laws.go:1006", after := #[{ on := 13, ground := Ground.data }, { on := 10, ground := Ground.guard }], guard := some (10, true) }) (v := ?vb14) rfl (by kernel_rfl) (by kernel_rfl) (by kernel_rfl) (fun _ _ _ h => h) (Or.inl ⟨by rfl, ?yb14⟩) (by assumption) ?rb14
       case yb14=>(intro w hSw;(try dsimp only at hSw);go_simp;(try with_reducible rfl))
       try simp only[Act.put,List.setIfInBounds_toArray,List.set_cons_zero,List.set_cons_succ]
       refine wpAnyH_take (i := 15) (oi := { dst := some 83, op := Op.binOp BinOp.eql 4 (Operand.tmp 80) (Operand.tmp 82) 4, type := 4, pos := "laws.go:1006", after := #[{ on := 12, ground := Ground.data }, { on := 14, ground := Ground.data }, { on := 10, ground := Ground.guard }], guard := some (10, true) }) (v := ?vb15) rfl (by kernel_rfl) (by kernel_rfl) (by kernel_rfl) (fun _ _ _ h => h) (Or.inl ⟨by rfl, ?yb15⟩) (by assumption) ?rb15
       case yb15=>(intro w hSw;(try dsimp only at hSw);go_simp;(try with_reducible rfl))
       try simp only[Act.put,List.setIfInBounds_toArray,List.set_cons_zero,List.set_cons_succ]
       refine wpAnyH_take (i := 16) (oi := { dst := some 84, op := Op.pick (Operand.tmp 78) (Operand.tmp 83) (Operand.const (Value.bool false)), type := 4, pos := "laws.go:1006", after := #[{ on := 10, ground := Ground.data }, { on := 15, ground := Ground.data }], guard := none }) (v := ?vb16) rfl (by kernel_rfl) (by kernel_rfl) (by kernel_rfl) (fun _ _ _ h => h) (Or.inl ⟨by rfl, ?yb16⟩) (by assumption) ?rb16
       case yb16=>(intro w hSw;(try dsimp only at hSw);go_simp;(try with_reducible rfl))
       try simp only[Act.put,List.setIfInBounds_toArray,List.set_cons_zero,List.set_cons_succ]
       refine wpAnyH_take (i := 17) (oi := { dst := some 85, op := Op.move (Operand.tmp 84), type := 4, pos := "laws.go:1006", after := #[{ on := 16, ground := Ground.data }, { on := 10, ground := Ground.chain }], guard := none }) (v := ?vb17) rfl (by kernel_rfl) (by kernel_rfl) (by kernel_rfl) (fun _ _ _ h => h) (Or.inl ⟨by rfl, ?yb17⟩) (by assumption) ?rb17
       case yb17=>(intro w hSw;(try dsimp only at hSw);go_simp;(try with_reducible rfl))
       try simp only[Act.put,List.setIfInBounds_toArray,List.set_cons_zero,List.set_cons_succ]
       refine wpAnyH_take (i := 18) (oi := { dst := some 86, op := Op.fieldAddr 26 (Operand.tmp 5) 2, type := 0, pos := "laws.go:1006", after := #[{ on := 17, ground := Ground.guard }], guard := some (17, true) }) (v := ?vb18) rfl (by kernel_rfl) (by kernel_rfl) (by kernel_rfl) (fun _ _ _ h => h) (Or.inl ⟨by rfl, ?yb18⟩) (by assumption) ?rb18
       case yb18=>(intro w hSw;(try dsimp only at hSw);go_simp;(try with_reducible rfl))
       try simp only[Act.put,List.setIfInBounds_toArray,List.set_cons_zero,List.set_cons_succ]
       refine wpAnyH_take (i := 19) (oi := { dst := some 87, op := Op.load 4 (Operand.tmp 86), type := 4, pos := "laws.go:1006", after := #[{ on := 18, ground := Ground.data }, { on := 17, ground := Ground.guard }], guard := some (17, true) }) (v := ?vb19) rfl (by kernel_rfl) (by kernel_rfl) (by kernel_rfl) (fun _ _ _ h => h) (Or.inl ⟨by rfl, ?yb19⟩) (by assumption) ?rb19
       case yb19=>(intro w hSw;(try dsimp only at hSw);go_simp;(try with_reducible rfl))
       try simp only[Act.put,List.setIfInBounds_toArray,List.set_cons_zero,List.set_cons_succ]
       refine wpAnyH_take (i := 20) (oi := { dst := some 88, op := Op.unOp UnOp.not 4 (Operand.tmp 87), type := 4, pos := "laws.go:1006", after := #[{ on := 19, ground := Ground.data }, { on := 17, ground := Ground.guard }], guard := some (17, true) }) (v := ?vb20) rfl (by kernel_rfl) (by kernel_rfl) (by kernel_rfl) (fun _ _ _ h => h) (Or.inl ⟨by rfl, ?yb20⟩) (by assumption) ?rb20
       case yb20=>(intro w hSw;(try dsimp only at hSw);go_simp;(try with_reducible rfl))
       try simp only[Act.put,List.setIfInBounds_toArray,List.set_cons_zero,List.set_cons_succ]
       refine wpAnyH_take (i := 21) (oi := { dst := some 89, op := Op.move (Operand.tmp 88), type := 4, pos := "laws.go:1006", after := #[{ on := 20, ground := Ground.data }, { on := 17, ground := Ground.chain }, { on := 17, ground := Ground.guard }], guard := some (17, true) }) (v := ?vb21) rfl (by kernel_rfl) (by kernel_rfl) (by kernel_rfl) (fun _ _ _ h => h) (Or.inl ⟨by rfl, ?yb21⟩) (by assumption) ?rb21
       case yb21=>(intro w hSw;(try dsimp only at hSw);go_simp;(try with_reducible rfl))
       try simp only[Act.put,List.setIfInBounds_toArray,List.set_cons_zero,List.set_cons_succ]
       refine wpAnyH_take (i := 22) (oi := { dst := some 90, op := Op.move (Operand.tmp 10), type := 4, pos := "laws.go:1006", after := #[{ on := 21, ground := Ground.guard }], guard := some (21, false) }) (v := ?vb22) rfl (by kernel_rfl) (by kernel_rfl) (by kernel_rfl) (fun _ _ _ h => h) (Or.inl ⟨by rfl, ?yb22⟩) (by assumption) ?rb22
       case yb22=>(intro w hSw;(try dsimp only at hSw);go_simp;(try with_reducible rfl))
       try simp only[Act.put,List.setIfInBounds_toArray,List.set_cons_zero,List.set_cons_succ]
       refine wpAnyH_take (i := 23) (oi := { dst := some 91, op := Op.move (Operand.tmp 90), type := 4, pos := "laws.go:1006", after := #[{ on := 22, ground := Ground.data }, { on := 21, ground := Ground.chain }, { on := 21, ground := Ground.guard }], guard := some (21, false) }) (v := ?vb23) rfl (by kernel_rfl) (by kernel_rfl) (by kernel_rfl) (fun _ _ _ h => h) (Or.inl ⟨by rfl, ?yb23⟩) (by assumption) ?rb23
       case yb23=>(intro w hSw;(try dsimp only at hSw);go_simp;(try with_reducible rfl))
       try simp only[Act.put,List.setIfInBounds_toArray,List.set_cons_zero,List.set_cons_succ]
       refine wpAnyH_take (i := 24) (oi := { dst := some 92, op := Op.move (Operand.tmp 9), type := 9, pos := "laws.go:1006", after := #[{ on := 23, ground := Ground.guard }], guard := some (23, true) }) (v := ?vb24) rfl (by kernel_rfl) (by kernel_rfl) (by kernel_rfl) (fun _ _ _ h => h) (Or.inl ⟨by rfl, ?yb24⟩) (by assumption) ?rb24
       case yb24=>(intro w hSw;(try dsimp only at hSw);go_simp;(try with_reducible rfl))
       try simp only[Act.put,List.setIfInBounds_toArray,List.set_cons_zero,List.set_cons_succ]
       refine wpAnyH_take (i := 25) (oi := { dst := some 93, op := Op.fieldAddr 26 (Operand.tmp 3) 0, type := 0, pos := "laws.go:1006", after := #[{ on := 23, ground := Ground.guard }], guard := some (23, true) }) (v := ?vb25) rfl (by kernel_rfl) (by kernel_rfl) (by kernel_rfl) (fun _ _ _ h => h) (Or.inl ⟨by rfl, ?yb25⟩) (by assumption) ?rb25
       case yb25=>(intro w hSw;(try dsimp only at hSw);go_simp;(try with_reducible rfl))
       try simp only[Act.put,List.setIfInBounds_toArray,List.set_cons_zero,List.set_cons_succ]
       refine wpAnyH_take (i := 26) (oi := { dst := some 94, op := Op.load 9 (Operand.tmp 93), type := 9, pos := "laws.go:1006", after := #[{ on := 25, ground := Ground.data }, { on := 23, ground := Ground.guard }], guard := some (23, true) }) (v := ?vb26) rfl (by kernel_rfl) (by kernel_rfl) (by kernel_rfl) (fun _ _ _ h => h) (Or.inl ⟨by rfl, ?yb26⟩) (by assumption) ?rb26
       case yb26=>(intro w hSw;(try dsimp only at hSw);go_simp;(try with_reducible rfl))
       try simp only[Act.put,List.setIfInBounds_toArray,List.set_cons_zero,List.set_cons_succ]
       refine wpAnyH_take (i := 27) (oi := { dst := some 95, op := Op.binOp BinOp.eql 9 (Operand.tmp 92) (Operand.tmp 94) 9, type := 4, pos := "laws.go:1006", after := #[{ on := 24, ground := Ground.data }, { on := 26, ground := Ground.data }, { on := 23, ground := Ground.guard }], guard := some (23, true) }) (v := ?vb27) rfl (by kernel_rfl) (by kernel_rfl) (by kernel_rfl) (fun _ _ _ h => h) (Or.inl ⟨by rfl, ?yb27⟩) (by assumption) ?rb27
       case yb27=>(intro w hSw;(try dsimp only at hSw);go_simp;(try with_reducible rfl))
       try simp only[Act.put,List.setIfInBounds_toArray,List.set_cons_zero,List.set_cons_succ]
       refine wpAnyH_take (i := 28) (oi := { dst := some 96, op := Op.pick (Operand.tmp 91) (Operand.tmp 95) (Operand.const (Value.bool false)), type := 4, pos := "laws.go:1006", after := #[{ on := 23, ground := Ground.data }, { on := 27, ground := Ground.data }, { on := 21, ground := Ground.guard }], guard := some (21, false) }) (v := ?vb28) rfl (by kernel_rfl) (by kernel_rfl) (by kernel_rfl) (fun _ _ _ h => h) (Or.inl ⟨by rfl, ?yb28⟩) (by assumption) ?rb28
       case yb28=>(intro w hSw;(try dsimp only at hSw);go_simp;(try with_reducible rfl))
       try simp only[Act.put,List.setIfInBounds_toArray,List.set_cons_zero,List.set_cons_succ]
       refine wpAnyH_take (i := 29) (oi := { dst := some 97, op := Op.pick (Operand.tmp 89) (Operand.const (Value.bool true)) (Operand.tmp 96), type := 4, pos := "laws.go:1006", after := #[{ on := 21, ground := Ground.data }, { on := 28, ground := Ground.data }, { on := 17, ground := Ground.guard }], guard := some (17, true) }) (v := ?vb29) rfl (by kernel_rfl) (by kernel_rfl) (by kernel_rfl) (fun _ _ _ h => h) (Or.inl ⟨by rfl, ?yb29⟩) (by assumption) ?rb29
       case yb29=>(intro w hSw;(try dsimp only at hSw);go_simp;(try with_reducible rfl))
       try simp only[Act.put,List.setIfInBounds_toArray,List.set_cons_zero,List.set_cons_succ]
       refine wpAnyH_take (i := 30) (oi := { dst := some 98, op := Op.pick (Operand.tmp 85) (Operand.tmp 97) (Operand.const (Value.bool false)), type := 4, pos := "laws.go:1006", after := #[{ on := 17, ground := Ground.data }, { on := 29, ground := Ground.data }], guard := none }) (v := ?vb30) rfl (by kernel_rfl) (by kernel_rfl) (by kernel_rfl) (fun _ _ _ h => h) (Or.inl ⟨by rfl, ?yb30⟩) (by assumption) ?rb30
       case yb30=>(intro w hSw;(try dsimp only at hSw);go_simp;(try with_reducible rfl))
       try simp only[Act.put,List.setIfInBounds_toArray,List.set_cons_zero,List.set_cons_succ]
       refine wpAnyH_take (i := 31) (oi := { dst := some 99, op := Op.move (Operand.tmp 98), type := 4, pos := "laws.go:1006", after := #[{ on := 30, ground := Ground.data }, { on := 23, ground := Ground.chain }], guard := none }) (v := ?vb31) rfl (by kernel_rfl) (by kernel_rfl) (by kernel_rfl) (fun _ _ _ h => h) (Or.inl ⟨by rfl, ?yb31⟩) (by assumption) ?rb31
       case yb31=>(intro w hSw;(try dsimp only at hSw);go_simp;(try with_reducible rfl))
       try simp only[Act.put,List.setIfInBounds_toArray,List.set_cons_zero,List.set_cons_succ]
       refine wpAnyH_take (i := 32) (oi := { dst := some 100, op := Op.load 26 (Operand.tmp 5), type := 26, pos := "laws.go:1006", after := #[{ on := 31, ground := Ground.guard }], guard := some (31, true) }) (v := ?vb32) rfl (by kernel_rfl) (by kernel_rfl) (by kernel_rfl) (fun _ _ _ h => h) (Or.inl ⟨by rfl, ?yb32⟩) (by assumption) ?rb32
       case yb32=>(intro w hSw;(try dsimp only at hSw);go_simp;(try with_reducible rfl))
       try simp only[Act.put,List.setIfInBounds_toArray,List.set_cons_zero,List.set_cons_succ]
       refine wpAnyH_ready (rs:=[33]) (by kernel_rfl) (by simp) ?_
       refine AllReadyH.cons (o := { dst := some 101, op := Op.call { callee := Callee.value (Operand.func 11), args := #[Operand.tmp 100], argTypes := #[26] }, type := 4, pos := "laws.go:1006", after := #[{ on := 32, ground := Ground.data }, { on := 31, ground := Ground.chain }, { on := 31, ground := Ground.guard }], guard := some (31, true) }) rfl (fun K hK => ?_) AllReadyH.nil
       go_simp
       go_at_call 11
       with_reducible refine K13.mono ?_
       rintro e w13 ⟨rfl,b13⟩
       have B13:Hid (Below w8.heap.size w8 w13):=B12.out.trans (b13.mono B12.out.size)
       clear K13 b13
       clear hHeld
       refine hK.out _ _ (SB.out _ B13.out) (fun hHeld=>?_)
       clear hK K
       try simp only[Act.put,List.setIfInBounds_toArray,List.set_cons_zero,List.set_cons_succ]
       refine wpAnyH_take (i := 34) (oi := { dst := some 102, op := Op.pick (Operand.tmp 99) (Operand.tmp 101) (Operand.const (Value.bool false)), type := 4, pos := "laws.go:1006", after := #[{ on := 31, ground := Ground.data }, { on := 33, ground := Ground.data }], guard := none }) (v := ?vb34) rfl (by kernel_rfl) (by kernel_rfl) (by kernel_rfl) (fun _ _ _ h => h) (Or.inl ⟨by rfl, ?yb34⟩) (by assumption) ?rb34
       case yb34=>(intro w hSw;(try dsimp only at hSw);go_simp;(try with_reducible rfl))
       try simp only[Act.put,List.setIfInBounds_toArray,List.set_cons_zero,List.set_cons_succ]
       refine wpAnyH_take (i := 35) (oi := { dst := some 2, op := Op.assign (Operand.tmp 102), type := 4, pos := "laws.go:1006", after := #[{ on := 34, ground := Ground.data }, { on := 33, ground := Ground.chain }, { on := 0, ground := Ground.phase }, { on := 1, ground := Ground.phase }, { on := 2, ground := Ground.phase }, { on := 3, ground := Ground.phase }, { on := 4, ground := Ground.phase }, { on := 5, ground := Ground.phase }, { on := 6, ground := Ground.phase }, { on := 7, ground := Ground.phase }, { on := 8, ground := Ground.phase }, { on := 9, ground := Ground.phase }, { on := 10, ground := Ground.phase }, { on := 11, ground := Ground.phase }, { on := 12, ground := Ground.phase }, { on := 13, ground := Ground.phase }, { on := 14, ground := Ground.phase }, { on := 15, ground := Ground.phase }, { on := 16, ground := Ground.phase }, { on := 17, ground := Ground.phase }, { on := 18, ground := Ground.phase }, { on := 19, ground := Ground.phase }, { on := 20, ground := Ground.phase }, { on := 21, ground := Ground.phase }, { on := 22, ground := Ground.phase }, { on := 23, ground := Ground.phase }, { on := 24, ground := Ground.phase }, { on := 25, ground := Ground.phase }, { on := 26, ground := Ground.phase }, { on := 27, ground := Ground.phase }, { on := 28, ground := Ground.phase }, { on := 29, ground := Ground.phase }, { on := 30, ground := Ground.phase }, { on := 31, ground := Ground.phase }, { on := 32, ground := Ground.phase }, { on := 33, ground := Ground.phase }, { on := 34, ground := Ground.phase }], guard := none }) (v := ?vb35) rfl (by kernel_rfl) (by kernel_rfl) (by kernel_rfl) (fun _ _ _ h => h) (Or.inl ⟨by rfl, ?yb35⟩) (by assumption) ?rb35
       case yb35=>(intro w hSw;(try dsimp only at hSw);go_simp;(try with_reducible rfl))
       try simp only[Act.put,List.setIfInBounds_toArray,List.set_cons_zero,List.set_cons_succ]
       refine wpAnyH_done (by kernel_rfl) ?_ _
       go_wp2
       go_ret
       exact⟨rfl,B8.trans (B13.out.mono B8.size)⟩
     | false =>
       obtain⟨i0,hi0,hz0,hz1,hz2⟩:=info_parts infoPair
       have SB:Hid (∀ W,Below w8.heap.size w8 W→W.cell? ⟨w3.heap.size,0,none⟩=some (.string ⟨r.toArray⟩)∧W.cell? ⟨w3.heap.size,1,none⟩=some (.slice a5 al.length k5)∧W.cell? ⟨w3.heap.size,2,none⟩=some (.bool false)∧W.cell? ⟨w1.heap.size,0,none⟩=some (.string ⟨r.toArray⟩)∧W.cell? ⟨w1.heap.size,1,none⟩=some (.slice x ps.length c)∧W.cell? ⟨(w1.heap.size+1),1,none⟩=some (.bool false)∧W.cell? ⟨(w1.heap.size+1),2,none⟩=some (.slice u qs.length ku)):=fun W hW=>by
        obtain⟨x0,x1,x2,_⟩:=im_cells ((hW.block _ (lt_of_block Hx8.out)).trans Hx8.out)
        obtain⟨m0,m1,m2,_⟩:=im_cells ((hW.block _ (lt_of_block Hm8.out)).trans Hm8.out)
        obtain⟨c0,c1,c2,_⟩:=im_cells ((hW.block _ (lt_of_block Hc8.out)).trans Hc8.out)
        exact⟨x0,x1,x2,m0,m1,c1,c2⟩
       have BD:Below w8.heap.size w8 w8.drew:=⟨rfl,rfl,rfl,Nat.le_refl _,fun _ _=>rfl⟩
       have B9:Hid (Below w8.heap.size w8 (w8.drew.alloc (.cells #[] 46))):=BD.alloc (Nat.le_refl _) _
       have HZ9:Hid (w8.heap.size≤(w8.drew.alloc (.cells #[] 46)).heap.size):=B9.out.size
       have O9:Hid ((w8.drew.alloc (.cells #[] 46)).ownsRow w8.heap.size 46 2 (.slice (some ⟨w8.heap.size,0,none⟩) 0 0) 0 []):=World.ownsRow_lit w8.drew #[] 0 (Nat.le_refl _) (Nat.zero_le _) rfl
       clear Hm8 Hc8 Hx8
       go_wp2
       refine wp_region_held_drew (S:=fun w'=>w'.cell? ⟨w3.heap.size,0,none⟩=some (.string ⟨r.toArray⟩)∧w'.cell? ⟨w3.heap.size,1,none⟩=some (.slice a5 al.length k5)∧w'.cell? ⟨w3.heap.size,2,none⟩=some (.bool false)∧w'.cell? ⟨w1.heap.size,0,none⟩=some (.string ⟨r.toArray⟩)∧w'.cell? ⟨w1.heap.size,1,none⟩=some (.slice x ps.length c)∧w'.cell? ⟨(w1.heap.size+1),1,none⟩=some (.bool false)∧w'.cell? ⟨(w1.heap.size+1),2,none⟩=some (.slice u qs.length ku)) (by kernel_rfl) (SB.out _ BD) (fun hHeld=>?_)
       refine wpAnyH_take (i := 0) (oi := { dst := some 68, op := Op.fieldAddr 26 (Operand.tmp 5) 1, type := 0, pos := "laws.go:1006", after := #[], guard := none }) (v := ?vc0) rfl (by kernel_rfl) (by kernel_rfl) (by kernel_rfl) (fun _ _ _ h => h) (Or.inl ⟨by rfl, ?yc0⟩) (by assumption) ?rc0
       case yc0=>(intro w hSw;(try dsimp only at hSw);go_simp;(try with_reducible rfl))
       try simp only[Act.put,List.setIfInBounds_toArray,List.set_cons_zero,List.set_cons_succ]
       refine wpAnyH_take (i := 1) (oi := { dst := some 69, op := Op.load 24 (Operand.tmp 68), type := 24, pos := "laws.go:1006", after := #[{ on := 0, ground := Ground.data }], guard := none }) (v := ?vc1) rfl (by kernel_rfl) (by kernel_rfl) (by kernel_rfl) (fun _ _ _ h => h) (Or.inl ⟨by rfl, ?yc1⟩) (by assumption) ?rc1
       case yc1=>(intro w hSw;(try dsimp only at hSw);go_simp;(try with_reducible rfl))
       try simp only[Act.put,List.setIfInBounds_toArray,List.set_cons_zero,List.set_cons_succ]
       refine wpAnyH_take (i := 3) (oi := { dst := some 71, op := Op.fieldAddr 26 (Operand.tmp 3) 1, type := 0, pos := "laws.go:1006", after := #[], guard := none }) (v := ?vc3) rfl (by kernel_rfl) (by kernel_rfl) (by kernel_rfl) (fun _ _ _ h => h) (Or.inl ⟨by rfl, ?yc3⟩) (by assumption) ?rc3
       case yc3=>(intro w hSw;(try dsimp only at hSw);go_simp;(try with_reducible rfl))
       try simp only[Act.put,List.setIfInBounds_toArray,List.set_cons_zero,List.set_cons_succ]
       refine wpAnyH_take (i := 4) (oi := { dst := some 72, op := Op.load 24 (Operand.tmp 71), type := 24, pos := "laws.go:1006", after := #[{ on := 3, ground := Ground.data }], guard := none }) (v := ?vc4) rfl (by kernel_rfl) (by kernel_rfl) (by kernel_rfl) (fun _ _ _ h => h) (Or.inl ⟨by rfl, ?yc4⟩) (by assumption) ?rc4
       case yc4=>(intro w hSw;(try dsimp only at hSw);go_simp;(try with_reducible rfl))
       try simp only[Act.put,List.setIfInBounds_toArray,List.set_cons_zero,List.set_cons_succ]
       refine wpAnyH_take (i := 6) (oi := { dst := some 74, op := Op.fieldAddr 28 (Operand.tmp 4) 2, type := 0, pos := "laws.go:1006", after := #[], guard := none }) (v := ?vc6) rfl (by kernel_rfl) (by kernel_rfl) (by kernel_rfl) (fun _ _ _ h => h) (Or.inl ⟨by rfl, ?yc6⟩) (by assumption) ?rc6
       case yc6=>(intro w hSw;(try dsimp only at hSw);go_simp;(try with_reducible rfl))
       try simp only[Act.put,List.setIfInBounds_toArray,List.set_cons_zero,List.set_cons_succ]
       refine wpAnyH_take (i := 7) (oi := { dst := some 75, op := Op.load 24 (Operand.tmp 74), type := 24, pos := "laws.go:1006", after := #[{ on := 6, ground := Ground.data }], guard := none }) (v := ?vc7) rfl (by kernel_rfl) (by kernel_rfl) (by kernel_rfl) (fun _ _ _ h => h) (Or.inl ⟨by rfl, ?yc7⟩) (by assumption) ?rc7
       case yc7=>(intro w hSw;(try dsimp only at hSw);go_simp;(try with_reducible rfl))
       try simp only[Act.put,List.setIfInBounds_toArray,List.set_cons_zero,List.set_cons_succ]
       refine wpAnyH_ready (rs:=[2]) (by kernel_rfl) (by simp) ?_
       refine AllReadyH.cons (o := { dst := some 70, op := Op.buildSlice 24 0 #[], type := 24, pos := "laws.go:1006", after := #[], guard := none }) rfl (fun K hK => ?_) AllReadyH.nil
       go_simp
       clear hHeld
       refine hK.out _ _ (SB.out _ B9.out) (fun hHeld=>?_)
       clear hK K
       try simp only[Act.put,List.setIfInBounds_toArray,List.set_cons_zero,List.set_cons_succ]
       refine wpAnyH_ready (rs:=[5]) (by kernel_rfl) (by simp) ?_
       refine AllReadyH.cons (o := { dst := some 73, op := Op.call { callee := Callee.builtin Builtin.append, args := #[Operand.tmp 70, Operand.tmp 72], argTypes := #[24, 24] }, type := 24, pos := "laws.go:1006", after := #[{ on := 2, ground := Ground.data }, { on := 4, ground := Ground.data }], guard := none }) rfl (fun K hK => ?_) AllReadyH.nil
       refine step_app_prs rfl (.tmp 70) (.tmp 72) 24 rfl w8.heap.size 46 i0 (.agg #[.string ⟨#[]⟩,.string ⟨#[]⟩]) 32 Tryz.underlying24 hi0 hz0 hz1 hz2 rfl (.slice (some ⟨w8.heap.size,0,none⟩) 0 0) 0 [] (by rfl) O9.out x ps ps.length c rfl (by rfl) HAA.out.2.1 (HI.out _ (HX8.out.trans (B9.out.mono HX8.out.size))).1 (by have:=HSZ.out;unfold maxLen;omega) (by have:=HSZ.out;omega) HZ9.out ?_
       intro v1 w10 o10 g10
       have O10:Hid (w10.ownsRow w8.heap.size 46 2 v1 (0+ps.length) ([] ++ pcells ps)):=o10
       have B10:Hid (Below w8.heap.size w8 w10):=B9.out.grown g10 B9.out.size (fun k hk=>by simp[Value.ownBlock] at hk;omega)
       obtain⟨a1,m1,c1,rfl⟩:=own_slice2 o10
       clear o10 g10
       clear hHeld
       refine hK.out _ _ (SB.out _ B10.out) (fun hHeld=>?_)
       clear hK K
       try simp only[Act.put,List.setIfInBounds_toArray,List.set_cons_zero,List.set_cons_succ]
       refine wpAnyH_ready (rs:=[8]) (by kernel_rfl) (by simp) ?_
       refine AllReadyH.cons (o := { dst := some 76, op := Op.call { callee := Callee.builtin Builtin.append, args := #[Operand.tmp 73, Operand.tmp 75], argTypes := #[24, 24] }, type := 24, pos := "laws.go:1006", after := #[{ on := 5, ground := Ground.data }, { on := 7, ground := Ground.data }, { on := 5, ground := Ground.chain }], guard := none }) rfl (fun K hK => ?_) AllReadyH.nil
       refine step_app_prs rfl (.tmp 73) (.tmp 75) 24 rfl w8.heap.size 46 i0 (.agg #[.string ⟨#[]⟩,.string ⟨#[]⟩]) 32 Tryz.underlying24 hi0 hz0 hz1 hz2 rfl (.slice a1 m1 c1) (0+ps.length) ([] ++ pcells ps) (by rfl) O10.out u qs qs.length ku rfl (by rfl) HAA.out.2.2.2 (HI.out _ (HX8.out.trans (B10.out.mono HX8.out.size))).2 (by have:=HSZ.out;unfold maxLen;omega) (by have:=HSZ.out;omega) B10.out.size ?_
       intro v2 w11 o11 g11
       have B11:Hid (Below w8.heap.size w8 w11):=B10.out.grown g11 B10.out.size (fun k hk=>(O10.out.lt k hk).1)
       have o11a:w11.ownsRow w8.heap.size 46 2 v2 al.length (pcells al):=by rw[HAL.out,pcells_two,List.length_append];simpa using o11
       obtain⟨a2,m2,c2,rfl⟩:=own_slice2 o11a
       obtain⟨rfl,is2,_,_⟩:=own_form o11a
       have KS:=samePairs_same al a5 a2 k5 c2 w11 (by have:=HLA.out;omega) (HS6.out _ (HB8.out.trans (B11.out.mono HB8.out.size))) is2
       clear o11 g11 o11a is2
       clear hHeld
       refine hK.out _ _ (SB.out _ B11.out) (fun hHeld=>?_)
       clear hK K
       try simp only[Act.put,List.setIfInBounds_toArray,List.set_cons_zero,List.set_cons_succ]
       refine wpAnyH_ready (rs:=[9]) (by kernel_rfl) (by simp) ?_
       refine AllReadyH.cons (o := { dst := some 77, op := Op.call { callee := Callee.value (Operand.func 9), args := #[Operand.tmp 69, Operand.tmp 76], argTypes := #[24, 24] }, type := 4, pos := "laws.go:1006", after := #[{ on := 1, ground := Ground.data }, { on := 8, ground := Ground.data }, { on := 8, ground := Ground.chain }], guard := none }) rfl (fun K hK => ?_) AllReadyH.nil
       go_simp
       go_at_call 9
       with_reducible refine KS.mono ?_
       rintro e w12 ⟨rfl,b12⟩
       have B12:Hid (Below w8.heap.size w8 w12):=B11.out.trans (b12.mono B11.out.size)
       have K13:=HK5.out w12 (HB8.out.trans (B12.out.mono HB8.out.size)) (HT.out.later (B8.trans (B12.out.mono B8.size)))
       clear KS b12
       clear hHeld
       refine hK.out _ _ (SB.out _ B12.out) (fun hHeld=>?_)
       clear hK K
       try simp only[Act.put,List.setIfInBounds_toArray,List.set_cons_zero,List.set_cons_succ]
       refine wpAnyH_take (i := 10) (oi := { dst := some 78, op := Op.move (Operand.tmp 77), type := 4, pos := "laws.go:1006", after := #[{ on := 9, ground := Ground.data }, { on := 9, ground := Ground.chain }], guard := none }) (v := ?vc10) rfl (by kernel_rfl) (by kernel_rfl) (by kernel_rfl) (fun _ _ _ h => h) (Or.inl ⟨by rfl, ?yc10⟩) (by assumption) ?rc10
       case yc10=>(intro w hSw;(try dsimp only at hSw);go_simp;(try with_reducible rfl))
       try simp only[Act.put,List.setIfInBounds_toArray,List.set_cons_zero,List.set_cons_succ]
       refine wpAnyH_take (i := 11) (oi := { dst := some 79, op := Op.fieldAddr 26 (Operand.tmp 5) 2, type := 0, pos := "laws.go:1006", after := #[{ on := 10, ground := Ground.guard }], guard := some (10, true) }) (v := ?vc11) rfl (by kernel_rfl) (by kernel_rfl) (by kernel_rfl) (fun _ _ _ h => h) (Or.inl ⟨by rfl, ?yc11⟩) (by assumption) ?rc11
       case yc11=>(intro w hSw;(try dsimp only at hSw);go_simp;(try with_reducible rfl))
       try simp only[Act.put,List.setIfInBounds_toArray,List.set_cons_zero,List.set_cons_succ]
       refine wpAnyH_take (i := 12) (oi := { dst := some 80, op := Op.load 4 (Operand.tmp 79), type := 4, pos := "laws.go:1006", after := #[{ on := 11, ground := Ground.data }, { on := 10, ground := Ground.guard }], guard := some (10, true) }) (v := ?vc12) rfl (by kernel_rfl) (by kernel_rfl) (by kernel_rfl) (fun _ _ _ h => h) (Or.inl ⟨by rfl, ?yc12⟩) (by assumption) ?rc12
       case yc12=>(intro w hSw;(try dsimp only at hSw);go_simp;(try with_reducible rfl))
       try simp only[Act.put,List.setIfInBounds_toArray,List.set_cons_zero,List.set_cons_succ]
       refine wpAnyH_take (i := 13) (oi := { dst := some 81, op := Op.fieldAddr 28 (Operand.tmp 4) 1, type := 0, pos := "laws.go:1006", after := #[{ on := 10, ground := Ground.guard }], guard := some (10, true) }) (v := ?vc13) rfl (by kernel_rfl) (by kernel_rfl) (by kernel_rfl) (fun _ _ _ h => h) (Or.inl ⟨by rfl, ?yc13⟩) (by assumption) ?rc13
       case yc13=>(intro w hSw;(try dsimp only at hSw);go_simp;(try with_reducible rfl))
       try simp only[Act.put,List.setIfInBounds_toArray,List.set_cons_zero,List.set_cons_succ]
       refine wpAnyH_take (i := 14) (oi := { dst := some 82, op := Op.load 4 (Operand.tmp 81), type := 4, pos := "laws.go:1006", after := #[{ on := 13, ground := Ground.data }, { on := 10, ground := Ground.guard }], guard := some (10, true) }) (v := ?vc14) rfl (by kernel_rfl) (by kernel_rfl) (by kernel_rfl) (fun _ _ _ h => h) (Or.inl ⟨by rfl, ?yc14⟩) (by assumption) ?rc14
       case yc14=>(intro w hSw;(try dsimp only at hSw);go_simp;(try with_reducible rfl))
       try simp only[Act.put,List.setIfInBounds_toArray,List.set_cons_zero,List.set_cons_succ]
       refine wpAnyH_take (i := 15) (oi := { dst := some 83, op := Op.binOp BinOp.eql 4 (Operand.tmp 80) (Operand.tmp 82) 4, type := 4, pos := "laws.go:1006", after := #[{ on := 12, ground := Ground.data }, { on := 14, ground := Ground.data }, { on := 10, ground := Ground.guard }], guard := some (10, true) }) (v := ?vc15) rfl (by kernel_rfl) (by kernel_rfl) (by kernel_rfl) (fun _ _ _ h => h) (Or.inl ⟨by rfl, ?yc15⟩) (by assumption) ?rc15
       case yc15=>(intro w hSw;(try dsimp only at hSw);go_simp;(try with_reducible rfl))
       try simp only[Act.put,List.setIfInBounds_toArray,List.set_cons_zero,List.set_cons_succ]
       refine wpAnyH_take (i := 16) (oi := { dst := some 84, op := Op.pick (Operand.tmp 78) (Operand.tmp 83) (Operand.const (Value.bool false)), type := 4, pos := "laws.go:1006", after := #[{ on := 10, ground := Ground.data }, { on := 15, ground := Ground.data }], guard := none }) (v := ?vc16) rfl (by kernel_rfl) (by kernel_rfl) (by kernel_rfl) (fun _ _ _ h => h) (Or.inl ⟨by rfl, ?yc16⟩) (by assumption) ?rc16
       case yc16=>(intro w hSw;(try dsimp only at hSw);go_simp;(try with_reducible rfl))
       try simp only[Act.put,List.setIfInBounds_toArray,List.set_cons_zero,List.set_cons_succ]
       refine wpAnyH_take (i := 17) (oi := { dst := some 85, op := Op.move (Operand.tmp 84), type := 4, pos := "laws.go:1006", after := #[{ on := 16, ground := Ground.data }, { on := 10, ground := Ground.chain }], guard := none }) (v := ?vc17) rfl (by kernel_rfl) (by kernel_rfl) (by kernel_rfl) (fun _ _ _ h => h) (Or.inl ⟨by rfl, ?yc17⟩) (by assumption) ?rc17
       case yc17=>(intro w hSw;(try dsimp only at hSw);go_simp;(try with_reducible rfl))
       try simp only[Act.put,List.setIfInBounds_toArray,List.set_cons_zero,List.set_cons_succ]
       refine wpAnyH_take (i := 18) (oi := { dst := some 86, op := Op.fieldAddr 26 (Operand.tmp 5) 2, type := 0, pos := "laws.go:1006", after := #[{ on := 17, ground := Ground.guard }], guard := some (17, true) }) (v := ?vc18) rfl (by kernel_rfl) (by kernel_rfl) (by kernel_rfl) (fun _ _ _ h => h) (Or.inl ⟨by rfl, ?yc18⟩) (by assumption) ?rc18
       case yc18=>(intro w hSw;(try dsimp only at hSw);go_simp;(try with_reducible rfl))
       try simp only[Act.put,List.setIfInBounds_toArray,List.set_cons_zero,List.set_cons_succ]
       refine wpAnyH_take (i := 19) (oi := { dst := some 87, op := Op.load 4 (Operand.tmp 86), type := 4, pos := "laws.go:1006", after := #[{ on := 18, ground := Ground.data }, { on := 17, ground := Ground.guard }], guard := some (17, true) }) (v := ?vc19) rfl (by kernel_rfl) (by kernel_rfl) (by kernel_rfl) (fun _ _ _ h => h) (Or.inl ⟨by rfl, ?yc19⟩) (by assumption) ?rc19
       case yc19=>(intro w hSw;(try dsimp only at hSw);go_simp;(try with_reducible rfl))
       try simp only[Act.put,List.setIfInBounds_toArray,List.set_cons_zero,List.set_cons_succ]
       refine wpAnyH_take (i := 20) (oi := { dst := some 88, op := Op.unOp UnOp.not 4 (Operand.tmp 87), type := 4, pos := "laws.go:1006", after := #[{ on := 19, ground := Ground.data }, { on := 17, ground := Ground.guard }], guard := some (17, true) }) (v := ?vc20) rfl (by kernel_rfl) (by kernel_rfl) (by kernel_rfl) (fun _ _ _ h => h) (Or.inl ⟨by rfl, ?yc20⟩) (by assumption) ?rc20
       case yc20=>(intro w hSw;(try dsimp only at hSw);go_simp;(try with_reducible rfl))
       try simp only[Act.put,List.setIfInBounds_toArray,List.set_cons_zero,List.set_cons_succ]
       refine wpAnyH_take (i := 21) (oi := { dst := some 89, op := Op.move (Operand.tmp 88), type := 4, pos := "laws.go:1006", after := #[{ on := 20, ground := Ground.data }, { on := 17, ground := Ground.chain }, { on := 17, ground := Ground.guard }], guard := some (17, true) }) (v := ?vc21) rfl (by kernel_rfl) (by kernel_rfl) (by kernel_rfl) (fun _ _ _ h => h) (Or.inl ⟨by rfl, ?yc21⟩) (by assumption) ?rc21
       case yc21=>(intro w hSw;(try dsimp only at hSw);go_simp;(try with_reducible rfl))
       try simp only[Act.put,List.setIfInBounds_toArray,List.set_cons_zero,List.set_cons_succ]
       refine wpAnyH_take (i := 22) (oi := { dst := some 90, op := Op.move (Operand.tmp 10), type := 4, pos := "laws.go:1006", after := #[{ on := 21, ground := Ground.guard }], guard := some (21, false) }) (v := undef) rfl (by kernel_rfl) (by kernel_rfl) (by kernel_rfl) (fun _ _ _ h => h) (Or.inr ⟨by rfl, rfl⟩) (by assumption) ?_
       try simp only[Act.put,List.setIfInBounds_toArray,List.set_cons_zero,List.set_cons_succ]
       refine wpAnyH_take (i := 23) (oi := { dst := some 91, op := Op.move (Operand.tmp 90), type := 4, pos := "laws.go:1006", after := #[{ on := 22, ground := Ground.data }, { on := 21, ground := Ground.chain }, { on := 21, ground := Ground.guard }], guard := some (21, false) }) (v := undef) rfl (by kernel_rfl) (by kernel_rfl) (by kernel_rfl) (fun _ _ _ h => h) (Or.inr ⟨by rfl, rfl⟩) (by assumption) ?_
       try simp only[Act.put,List.setIfInBounds_toArray,List.set_cons_zero,List.set_cons_succ]
       refine wpAnyH_take (i := 24) (oi := { dst := some 92, op := Op.move (Operand.tmp 9), type := 9, pos := "laws.go:1006", after := #[{ on := 23, ground := Ground.guard }], guard := some (23, true) }) (v := undef) rfl (by kernel_rfl) (by kernel_rfl) (by kernel_rfl) (fun _ _ _ h => h) (Or.inr ⟨by rfl, rfl⟩) (by assumption) ?_
       try simp only[Act.put,List.setIfInBounds_toArray,List.set_cons_zero,List.set_cons_succ]
       refine wpAnyH_take (i := 25) (oi := { dst := some 93, op := Op.fieldAddr 26 (Operand.tmp 3) 0, type := 0, pos := "laws.go:1006", after := #[{ on := 23, ground := Ground.guard }], guard := some (23, true) }) (v := undef) rfl (by kernel_rfl) (by kernel_rfl) (by kernel_rfl) (fun _ _ _ h => h) (Or.inr ⟨by rfl, rfl⟩) (by assumption) ?_
       try simp only[Act.put,List.setIfInBounds_toArray,List.set_cons_zero,List.set_cons_succ]
       refine wpAnyH_take (i := 26) (oi := { dst := some 94, op := Op.load 9 (Operand.tmp 93), type := 9, pos := "laws.go:1006", after := #[{ on := 25, ground := Ground.data }, { on := 23, ground := Ground.guard }], guard := some (23, true) }) (v := undef) rfl (by kernel_rfl) (by kernel_rfl) (by kernel_rfl) (fun _ _ _ h => h) (Or.inr ⟨by rfl, rfl⟩) (by assumption) ?_
       try simp only[Act.put,List.setIfInBounds_toArray,List.set_cons_zero,List.set_cons_succ]
       refine wpAnyH_take (i := 27) (oi := { dst := some 95, op := Op.binOp BinOp.eql 9 (Operand.tmp 92) (Operand.tmp 94) 9, type := 4, pos := "laws.go:1006", after := #[{ on := 24, ground := Ground.data }, { on := 26, ground := Ground.data }, { on := 23, ground := Ground.guard }], guard := some (23, true) }) (v := undef) rfl (by kernel_rfl) (by kernel_rfl) (by kernel_rfl) (fun _ _ _ h => h) (Or.inr ⟨by rfl, rfl⟩) (by assumption) ?_
       try simp only[Act.put,List.setIfInBounds_toArray,List.set_cons_zero,List.set_cons_succ]
       refine wpAnyH_take (i := 28) (oi := { dst := some 96, op := Op.pick (Operand.tmp 91) (Operand.tmp 95) (Operand.const (Value.bool false)), type := 4, pos := "laws.go:1006", after := #[{ on := 23, ground := Ground.data }, { on := 27, ground := Ground.data }, { on := 21, ground := Ground.guard }], guard := some (21, false) }) (v := undef) rfl (by kernel_rfl) (by kernel_rfl) (by kernel_rfl) (fun _ _ _ h => h) (Or.inr ⟨by rfl, rfl⟩) (by assumption) ?_
       try simp only[Act.put,List.setIfInBounds_toArray,List.set_cons_zero,List.set_cons_succ]
       refine wpAnyH_take (i := 29) (oi := { dst := some 97, op := Op.pick (Operand.tmp 89) (Operand.const (Value.bool true)) (Operand.tmp 96), type := 4, pos := "laws.go:1006", after := #[{ on := 21, ground := Ground.data }, { on := 28, ground := Ground.data }, { on := 17, ground := Ground.guard }], guard := some (17, true) }) (v := ?vc29) rfl (by kernel_rfl) (by kernel_rfl) (by kernel_rfl) (fun _ _ _ h => h) (Or.inl ⟨by rfl, ?yc29⟩) (by assumption) ?rc29
       case yc29=>(intro w hSw;(try dsimp only at hSw);go_simp;(try with_reducible rfl))
       try simp only[Act.put,List.setIfInBounds_toArray,List.set_cons_zero,List.set_cons_succ]
       refine wpAnyH_take (i := 30) (oi := { dst := some 98, op := Op.pick (Operand.tmp 85) (Operand.tmp 97) (Operand.const (Value.bool false)), type := 4, pos := "laws.go:1006", after := #[{ on := 17, ground := Ground.data }, { on := 29, ground := Ground.data }], guard := none }) (v := ?vc30) rfl (by kernel_rfl) (by kernel_rfl) (by kernel_rfl) (fun _ _ _ h => h) (Or.inl ⟨by rfl, ?yc30⟩) (by assumption) ?rc30
       case yc30=>(intro w hSw;(try dsimp only at hSw);go_simp;(try with_reducible rfl))
       try simp only[Act.put,List.setIfInBounds_toArray,List.set_cons_zero,List.set_cons_succ]
       refine wpAnyH_take (i := 31) (oi := { dst := some 99, op := Op.move (Operand.tmp 98), type := 4, pos := "laws.go:1006", after := #[{ on := 30, ground := Ground.data }, { on := 23, ground := Ground.chain }], guard := none }) (v := ?vc31) rfl (by kernel_rfl) (by kernel_rfl) (by kernel_rfl) (fun _ _ _ h => h) (Or.inl ⟨by rfl, ?yc31⟩) (by assumption) ?rc31
       case yc31=>(intro w hSw;(try dsimp only at hSw);go_simp;(try with_reducible rfl))
       try simp only[Act.put,List.setIfInBounds_toArray,List.set_cons_zero,List.set_cons_succ]
       refine wpAnyH_take (i := 32) (oi := { dst := some 100, op := Op.load 26 (Operand.tmp 5), type := 26, pos := "laws.go:1006", after := #[{ on := 31, ground := Ground.guard }], guard := some (31, true) }) (v := ?vc32) rfl (by kernel_rfl) (by kernel_rfl) (by kernel_rfl) (fun _ _ _ h => h) (Or.inl ⟨by rfl, ?yc32⟩) (by assumption) ?rc32
       case yc32=>(intro w hSw;(try dsimp only at hSw);go_simp;(try with_reducible rfl))
       try simp only[Act.put,List.setIfInBounds_toArray,List.set_cons_zero,List.set_cons_succ]
       refine wpAnyH_ready (rs:=[33]) (by kernel_rfl) (by simp) ?_
       refine AllReadyH.cons (o := { dst := some 101, op := Op.call { callee := Callee.value (Operand.func 11), args := #[Operand.tmp 100], argTypes := #[26] }, type := 4, pos := "laws.go:1006", after := #[{ on := 32, ground := Ground.data }, { on := 31, ground := Ground.chain }, { on := 31, ground := Ground.guard }], guard := some (31, true) }) rfl (fun K hK => ?_) AllReadyH.nil
       go_simp
       go_at_call 11
       with_reducible refine K13.mono ?_
       rintro e w13 ⟨rfl,b13⟩
       have B13:Hid (Below w8.heap.size w8 w13):=B12.out.trans (b13.mono B12.out.size)
       clear K13 b13
       clear hHeld
       refine hK.out _ _ (SB.out _ B13.out) (fun hHeld=>?_)
       clear hK K
       try simp only[Act.put,List.setIfInBounds_toArray,List.set_cons_zero,List.set_cons_succ]
       refine wpAnyH_take (i := 34) (oi := { dst := some 102, op := Op.pick (Operand.tmp 99) (Operand.tmp 101) (Operand.const (Value.bool false)), type := 4, pos := "laws.go:1006", after := #[{ on := 31, ground := Ground.data }, { on := 33, ground := Ground.data }], guard := none }) (v := ?vc34) rfl (by kernel_rfl) (by kernel_rfl) (by kernel_rfl) (fun _ _ _ h => h) (Or.inl ⟨by rfl, ?yc34⟩) (by assumption) ?rc34
       case yc34=>(intro w hSw;(try dsimp only at hSw);go_simp;(try with_reducible rfl))
       try simp only[Act.put,List.setIfInBounds_toArray,List.set_cons_zero,List.set_cons_succ]
       refine wpAnyH_take (i := 35) (oi := { dst := some 2, op := Op.assign (Operand.tmp 102), type := 4, pos := "laws.go:1006", after := #[{ on := 34, ground := Ground.data }, { on := 33, ground := Ground.chain }, { on := 0, ground := Ground.phase }, { on := 1, ground := Ground.phase }, { on := 2, ground := Ground.phase }, { on := 3, ground := Ground.phase }, { on := 4, ground := Ground.phase }, { on := 5, ground := Ground.phase }, { on := 6, ground := Ground.phase }, { on := 7, ground := Ground.phase }, { on := 8, ground := Ground.phase }, { on := 9, ground := Ground.phase }, { on := 10, ground := Ground.phase }, { on := 11, ground := Ground.phase }, { on := 12, ground := Ground.phase }, { on := 13, ground := Ground.phase }, { on := 14, ground := Ground.phase }, { on := 15, ground := Ground.phase }, { on := 16, ground := Ground.phase }, { on := 17, ground := Ground.phase }, { on := 18, ground := Ground.phase }, { on := 19, ground := Ground.phase }, { on := 20, ground := Ground.phase }, { on := 21, ground := Ground.phase }, { on := 22, ground := Ground.phase }, { on := 23, ground := Ground.phase }, { on := 24, ground := Ground.phase }, { on := 25, ground := Ground.phase }, { on := 26, ground := Ground.phase }, { on := 27, ground := Ground.phase }, { on := 28, ground := Ground.phase }, { on := 29, ground := Ground.phase }, { on := 30, ground := Ground.phase }, { on := 31, ground := Ground.phase }, { on := 32, ground := Ground.phase }, { on := 33, ground := Ground.phase }, { on := 34, ground := Ground.phase }], guard := none }) (v := ?vc35) rfl (by kernel_rfl) (by kernel_rfl) (by kernel_rfl) (fun _ _ _ h => h) (Or.inl ⟨by rfl, ?yc35⟩) (by assumption) ?rc35
       case yc35=>(intro w hSw;(try dsimp only at hSw);go_simp;(try with_reducible rfl))
       try simp only[Act.put,List.setIfInBounds_toArray,List.set_cons_zero,List.set_cons_succ]
       refine wpAnyH_done (by kernel_rfl) ?_ _
       go_wp2
       go_ret
       exact⟨rfl,B8.trans (B13.out.mono B8.size)⟩
 · have HB:=bigYes len0 cap0 a0 w hb
   clear w0 hT
   go_enter Tryz.func3,Tryz.ntmps3
   go_wp2_with fail
   refine HB.mono ?_
   rintro e w ⟨rfl,rfl⟩
   clear HB
   go_wp2
   go_ret
   exact⟨rfl,Below.refl _ _⟩
set_option maxRecDepth 100000 in
theorem lifted (os:Os) (started:os.Started) (H:Type) (enc:TypeId × Value→H) :
 ReturnsInHanded {} Tryz.checked os 3 .any (fun w args=>(Rows.fnTookSpec.pre enc Tryz.prog Tryz.f3 [] false w args∧laidMetH Tryz.prog Rows.fnTookRow.laid w)∧sizedMet enc Tryz.prog Tryz.f3 (OpenSpec.ofChange Rows.fnTookSpec) false w args)
  (Rows.fnTookSpec.post enc Tryz.prog Tryz.f3 false true false false):=by
 refine returnsInHanded_of_change_and (C:=Tryz.checked) (X:=fun w _=>laidMetH Tryz.prog Rows.fnTookRow.laid w) (fun _ _ _ hh h=>h.of_heap hh) own started (by kernel_rfl) Tryz.func3
  (ChangeSpec.witness_shaped (enc:=enc) (C:=Tryz.checked) (os:=os) (X:=fun w _=>laidMetH Tryz.prog Rows.fnTookRow.laid w) false (World.doorLaid Tryz.prog 400 os) #[.slice none 0 0] 8 rfl (World.shaped_of_RefB (by kernel_rfl) (by kernel_rfl)) (by kernel_rfl) (by kernel_rfl) (by kernel_rfl) (door_met os _)) ?_
 intro W base args ds gs before hval0 hW _ _ hL _
 have hval:∀ (j:Nat) t v,Tryz.f3.params[j]? = some t→args[j]? = some v→Value.okWide Tryz.prog W .any base t v:=hval0
 have hW':=hW
 obtain⟨p,q,hA0,hV0,rfl,hfz,hnd⟩:=hW
 have hA:DataW.TrodAll enc Tryz.prog W 0 (fun _=>true) true Tryz.f3.params.toList args.toList ds p:=hA0
 have hV : DataW.TrodVars enc Tryz.prog W (fun _ => true) ["loop.example/g00226/impl.roundWords"] gs q := hV0
 rw[Tryz.params3] at hA hval
 obtain⟨v0,vs0,d0,ds0,p0,q0,hargs,rfl,rfl,h0,r0⟩:=trodAll_cons hA
 obtain⟨rfl,rfl,rfl⟩:=trodAll_nil r0
 obtain rfl:args=#[v0]:=by cases args;simp_all
 obtain⟨a0,len0,cap0,rfl⟩:=okWide_slice Tryz.underlying22 (hval 0 22 v0 rfl rfl)
 have k0:=h0
 have lt0:∀ x∈p0,x.block<W.heap.size:=by obtain⟨m,hm⟩:=k0;exact DataW.trod_lt m _ _ _ hm
 have w0:Code W a0 len0:=by
  obtain⟨fuel,hf⟩:=h0
  rcases open_ints Tryz.underlying22 Tryz.underlying5 (by kernel_rfl) hf with ⟨hcs,_⟩ | ⟨x,l,c,zs,hcs,_,hl,hm,hz,_,hcell,hwz⟩
  · simp[Value.cells] at hcs
    obtain⟨rfl,rfl,rfl⟩:=hcs
    exact .inl rfl
  · simp[Value.cells] at hcs
    obtain⟨rfl,rfl,rfl⟩:=hcs
    exact codeOf W x _ _ zs hl (by simpa using hz) hcell hwz
 obtain⟨g,t,cs,fuel,d,p',rfl,hg,ht,hvar,hd,rfl⟩:=trodVars_one hV
 obtain rfl:=Option.some.inj (gTab.symm.trans hg)
 obtain rfl:=Option.some.inj (tTab.symm.trans ht)
 have hT:=tab_of hL
 have hltv:∀ x∈p',x.block<W.heap.size:=fun x hx=>hW'.lt x (List.mem_append_right _ (List.mem_append_right _ hx))
 clear hA0 hV0 hval0 hA hV
 refine (walk a0 len0 cap0 W w0 hT).mono fun e W' ⟨he,hB⟩=>?_
 subst he
 obtain⟨fuel',hd'⟩:=Below.trod laidOut0 (by kernel_rfl) (of_decide_eq_true (by kernel_rfl)) (v:=.agg cs) (⟨fuel,by simpa [Value.cells] using hd⟩:DataW.Trod enc Tryz.prog W 0 (fun _=>true) true 136 (.agg cs) d p') hB hltv
 have hv':=trodVars_mk1 (enc:=enc) (spare:=fun b=>decide (b<W.heap.size)) hg ht (var?_below hB hg hT.1 hvar) (by simpa [Value.cells] using hd')
 exact⟨_,rfl,_,_,_,[],_,_,hW',trodAll_mk1 (shut_bool Tryz.underlying4 _),(trodAll_cons_mk (Below.trod laidOut0 (by kernel_rfl) (of_decide_eq_true (by kernel_rfl)) k0 hB lt0) trodAll_mk0),hv',hB.frame _,fun h=>by cases h⟩
theorem named0 : Tryz.prog.funcNamed "loop.example/g00226/laws.FnTook" = some 3 := by kernel_rfl
theorem closed0:joinedFacts Tryz.prog 3 Tryz.f3 Rows.fnTookSpec Rows.fnTookRow=true:=by
 unfold joinedFacts
 rw[seat_may,seat_lifts,seat_make]
 kernel_rfl
theorem inst0:Tryz.f3.isInstance Tryz.prog Rows.fnTookRow.origin Rows.fnTookRow.targs:=of_decide_eq_true (by kernel_rfl)
theorem wrap0:Tryz.f3.isWrapper Tryz.prog Rows.fnTookRow.wrapper Rows.fnTookRow.mainSum:=by unfold Func.isWrapper;first | (rw[if_pos (by decide +kernel)];kernel_rfl) | (rw[if_neg (by decide +kernel)];exact⟨rfl,rfl⟩)
theorem over:Rows.fnTookRow.holds Tryz.pinned (OpenSpec.ofChange Rows.fnTookSpec) :=
 OpenClaim.holds_of_wide 3 Tryz.f3 rfl rfl rfl rfl rfl rfl rfl ⟨rfl,rfl,rfl,rfl,rfl⟩ rfl rfl rfl rfl rfl named0 Tryz.func3 closed0 inst0 wrap0
  (fun os started H enc _=>lifted os started H enc)
theorem text0:Rows.fnTookRow.wfByText (OpenSpec.ofChange Rows.fnTookSpec)=true:=by kernel_rfl
theorem looks0:false=Tryz.prog.looks []:=by kernel_rfl
theorem goes0:false=Rows.fnTookRow.goesBy Tryz.prog:=by kernel_rfl
theorem wants0:([22].all fun u => !Tryz.prog.wantsStandIn u)=true:=by kernel_rfl
theorem card:Claim7.holds Tryz.pinned (.plain (OpenSpec.ofChange Rows.fnTookSpec)) Rows.fnTookCard :=
 Claim7.holds_tied_plain_at .later [] [.data] true (true,Rows.fnTookCard.stood.harness.2) false
  over (fun _ h=>by cases h) text0 (fun _ h=>by cases h) fnTook_row_tie rfl ⟨rfl,rfl⟩ seat_main rfl
  (fun f fn hf hfn => by
   obtain rfl:f=3:=Option.some.inj (named0.symm.trans hf) |>.symm
   obtain rfl:fn=Tryz.f3:=(Option.some.inj (Tryz.func3.symm.trans hfn)).symm
   exact⟨looks0,fun j t ht=>by
    rw[Tryz.params3] at ht
    have hm:t∈[22]:=by simpa using Array.mem_of_getElem? ht
    exact (show Tryz.prog.wantsStandIn t=false by simpa using List.all_eq_true.1 wants0 t hm)⟩)
  goes0
end Go.Proofs.YtcoahmldmodmlaaGreatDoor.fnTook
namespace Go.Proofs.YtcoahmldmodmlaaGreatDoor
theorem fnTook_holds:Rows.FnTookCardSaid:=fnTook.card
end Go.Proofs.YtcoahmldmodmlaaGreatDoor
