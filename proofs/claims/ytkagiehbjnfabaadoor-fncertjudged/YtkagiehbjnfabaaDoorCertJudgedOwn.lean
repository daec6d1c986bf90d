/-
 At every code a certificate is right just if its votes are of more than half of the keys, each of another one, rising, and each holds: FnCertJudged answers true. No condition; the round words are laid as the program's text lays them.
-/
import Derived.Test.YtkagiehbjnfabaaDoorDrawCe
import Derived.Test.YtkagiehbjnfabaaDoorCertAll
import Derived.Test.YtkagiehbjnfabaaDoorVOkAll
import Derived.Test.YtkagiehbjnfabaaDoorSeatAll
import Derived.Test.YtkagiehbjnfabaaDoorTie
import Derived.Test.YtkagiehbjnfabaaDoorCards
import Derived.ProofKit
import Derived.LaidMore
import Derived.OpenShut
import Derived.ShutString
import Derived.ChangeOld
import Derived.Below
import Derived.Stop.Joined
import Derived.Lib.LaidTab
import Derived.SevenTiedAt
import Derived.SliceStrings
namespace Go.Proofs.YtkagiehbjnfabaaDoor.fnCertJudged
open Go.ChangeShapes Go.WideShapes Go.ChangeAt Go.RowKit
open Go.ChangeMaps (open_string shut_string)
set_option linter.unusedVariables false
theorem own:ownKnob Tryd.prog.godebug=none:=by kernel_rfl
theorem laidOut0:laidOutB Tryd.prog=true:=by kernel_rfl
theorem gTab : Tryd.prog.globalNamed "loop.example/g00226/impl.roundWords" = some 0 := by kernel_rfl
theorem tTab:(Tryd.prog.globals[0]?).map (·.type)=some 110:=by kernel_rfl
theorem door_met (os:Os) (args:Array Value):laidMetH Tryd.prog Rows.fnCertJudgedRow.laid ((World.doorLaid Tryd.prog 400 os).forCall (fun _ _=>0) ⟨#[],args,[]⟩).memory :=
 laidMetH_of_parts3 (fuel:=8) (laidMet_of_run' 8 (by kernel_rfl) (by kernel_rfl)) (by kernel_rfl) (by kernel_rfl)
theorem tab_of {W:World} (h:laidMetH Tryd.prog Rows.fnCertJudgedRow.laid W):Tab W:=by
 rw[MakeChecks.laidMetH_plain _ _ _ (by kernel_rfl)] at h
 have hT : Lib.TabIs Tryd.prog W "loop.example/g00226/impl.roundWords" .u32 (kL.map fun x => num x) := Lib.tabIs_of_head (rest := []) gTab tTab Tryd.underlying110 Tryd.underlying55 (by kernel_rfl) (by kernel_rfl) h
 have hc:∀ i,i<64→W.cell? ⟨0,i,none⟩=some (.int .u32 (num (kL.getD i 0))):=fun i hi=>by
  have hl:i<kL.length:=hi
  have:=hT.cell gTab i (by rw[List.length_map];exact hl)
  rw[this]
  simp[List.getD,hl]
 exact⟨block_lt_of_cell (hc 0 (by omega)),hc⟩
def judOk (ks:List (List UInt8)) (n:Int) (root:List UInt8) (vs:List VoteV) (j:Nat):Prop:=3<2*vs.length∧∀ q (h:q<vs.length),q<j→holdV ks n root vs[q]=true∧∀ p (hp:p+1=q),(vs[p]'(by omega)).nd<vs[q].nd
theorem jud_step {ks:List (List UInt8)} {n:Int} {root:List UInt8} {vs:List VoteV} {j:Nat} (hj:j<vs.length):judOk ks n root vs (j+1)↔judOk ks n root vs j∧holdV ks n root vs[j]=true∧∀ p (hp:p+1=j),(vs[p]'(by omega)).nd<vs[j].nd:=by
 constructor
 · intro h
   exact⟨⟨h.1,fun q hq hqj=>h.2 q hq (by omega)⟩,(h.2 j hj (by omega)).1,(h.2 j hj (by omega)).2⟩
 · rintro⟨h1,h2,h3⟩
   refine⟨h1.1,fun q hq hqj=>?_⟩
   by_cases e:q=j
   · subst e;exact⟨h2,h3⟩
   · exact h1.2 q hq (by omega)
theorem jud_cert {ks:List (List UInt8)} {n:Int} {root:List UInt8} {vs:List VoteV} (h3:ks.length=3) (h32:∀ l∈ks,l.length=32) (hv:vs.length≤3):certOk ks n root vs=true↔judOk ks n root vs vs.length:=by
 have hk:keysOk ks=true:=keysOk_yes ks (by omega) (by omega) h32
 constructor
 · intro h
   simp only[certOk,hk,Bool.true_and,Bool.and_eq_true,decide_eq_true_eq,List.all_eq_true] at h
   obtain⟨h1,h2,h4,h5⟩:=h
   have hr:RiseV vs:=by
    by_cases hr:RiseV vs
    · exact hr
    · rw[riseB_no vs hr] at h4;cases h4
   refine⟨by omega,fun q hq _=>⟨h5 _ (List.getElem_mem _),fun p hp=>?_⟩⟩
   subst hp
   exact hr p hq
 · intro h
   refine certOk_yes ks n root vs hk (by have:=h.1;omega) (by omega) (fun q h2=>(h.2 (q+1) h2 h2).2 q rfl) (fun v hv=>?_)
   obtain⟨q,hq,rfl⟩:=List.mem_iff_getElem.1 hv
   exact (h.2 q hq hq).1
set_option maxRecDepth 100000 in
set_option maxHeartbeats 4000000 in
theorem walk (a0 : Option Addr) (len0 cap0 : Nat) (w : World) (w0 : Code w a0 len0) (hT : Tab w) :
 Calls Tryd.prog 3 #[.slice a0 len0 cap0] w fun e w'=>e=.returned (.bool true)∧Below w.heap.size w w':=by
 by_cases hb:len0≤1048576
 · have HB := bigNo len0 cap0 a0 w hb
   have HC:Hid (Code w a0 len0):=w0
   have HT:Hid (Tab w):=hT
   clear w0 hT
   go_enter Tryd.func3,Tryd.ntmps3
   go_wp2_with fail
   refine HB.mono ?_
   rintro e w ⟨rfl,rfl⟩
   clear HB
   have HD:=drawCertOk len0 cap0 a0 w hb HC.out
   go_wp2_with fail
   refine HD.mono ?_
   rintro e w1 ⟨ks,gk,ck,k,root,vs,g,c,rfl,hk3,hk32,hk4,hrl,hvl,hvg,i1,v1,b1⟩
   clear HD HC
   have hkm:∀ l∈ks,l.length≤1048576:=fun l hl=>by rw[hk32 l hl];omega
   have hvm:∀ v∈vs,smallV v∧(∀ l∈v.os,l.length≤1048576)∧∀ l∈v.ps,l.length≤1048576:=fun v hv=>by
    obtain⟨h1,h2,h3,h4⟩:=hvg v hv
    exact⟨⟨by omega,by omega⟩,h3,h4⟩
   obtain⟨wa,hwa⟩:∃ W,W=w1.alloc (.cells #[.int .i64 (k:Int),.string ⟨root.toArray⟩,.slice (some ⟨g,0,none⟩) vs.length c] 27):=⟨_,rfl⟩
   have A:Below w1.heap.size w1 wa:=by rw[hwa];exact (Below.refl _ _).alloc (Nat.le_refl _) _
   have Ba:=b1.trans (A.mono b1.size)
   have Ha:Hid (wa.heap[w1.heap.size]? = some (.cells #[.int .i64 (k:Int),.string ⟨root.toArray⟩,.slice (some ⟨g,0,none⟩) vs.length c] 27 (0,0))):=by rw[hwa];exact heap_alloc_new w1 _
   have HI:Hid (∀ W,Below wa.heap.size wa W→IsStrs W (some ⟨gk,0,none⟩) ks∧IsVotes W (some ⟨g,0,none⟩) vs):=fun W hW=>⟨strs_later (strs_later i1 A) hW,(v1.later A).later hW⟩
   have HJ:Hid (certOk ks (k:Int) root vs=true↔judOk ks (k:Int) root vs vs.length):=jud_cert hk3 hk32 hvl
   have HVO:Hid (∀ W (v:VoteV) (ao ap:Option Addr) (co cp:Nat),v∈vs→Below wa.heap.size wa W→IsStrs W ao v.os→IsStrs W ap v.ps→Calls Tryd.prog 8 #[.slice (some ⟨gk,0,none⟩) 3 ck,.int .i64 (k:Int),.string ⟨root.toArray⟩,.agg #[.int .i64 v.nd,.int .i64 v.i,.slice ao v.os.length co,.slice ap v.ps.length cp]] W fun e w'=>e=.returned (.bool (holdV ks (k:Int) root v))∧Below W.heap.size W w'):=fun W v ao ap co cp hv hW h1 h2=>by
    have hq:=hvm v hv
    have:=impl_voteOk (some ⟨gk,0,none⟩) ck ks (k:Int) root v.nd v.i ao ap co cp v.os v.ps W (by omega) hkm (by omega) hq.1.1 hq.2.1 hq.1.2 hq.2.2 (HI.out W hW).1 h1 h2 (HT.out.later (Ba.trans (hW.mono Ba.size))) _ _ (rtV_is (k:Int) root v)
    rw[hk3] at this
    exact this
   have K1:=impl_certOk (some ⟨gk,0,none⟩) ck ks (k:Int) root (some ⟨g,0,none⟩) c vs wa (by omega) hkm (by omega) (by omega) hvm (HI.out wa (Below.refl _ _)).1 (HI.out wa (Below.refl _ _)).2 (HT.out.later Ba)
   have K2:=fun W hW=>spec_certOk (some ⟨gk,0,none⟩) ck ks (k:Int) root (some ⟨g,0,none⟩) c vs W (by omega) hkm (by omega) (by omega) hvm (HI.out W hW).1 (HI.out W hW).2
   obtain⟨ok,hok⟩:∃ ok,ok=certOk ks (k:Int) root vs:=⟨_,rfl⟩
   rw[←hok] at K1 K2 HJ
   rw[hk3] at K1 K2 ⊢
   have HVL:Hid (vs.length≤3):=hvl
   obtain⟨m,hm⟩:∃ m,m=vs.length:=⟨_,rfl⟩
   have HM:Hid (m=vs.length):=hm
   rw[←hm] at K1 K2 hwa Ha ⊢
   obtain⟨c0,c1,c2,_⟩:=ce_cells Ha.out
   rw[hwa] at K1 c0 c1 c2
   have hm3:m≤3:=by rw[hm];exact hvl
   clear hok hm hvl hkm hvm hvg hk3 hk32 hrl i1 v1 b1 A
   go_wp2_with fail
   refine K1.mono ?_
   rintro e w2 ⟨rfl,b2⟩
   rw[←hwa] at b2
   clear K1 hwa c0 c1 c2
   have B2:=Ba.trans (b2.mono Ba.size)
   have H2:Hid (w2.heap[w1.heap.size]? = some (.cells #[.int .i64 (k:Int),.string ⟨root.toArray⟩,.slice (some ⟨g,0,none⟩) m c] 27 (0,0))):=(b2.block _ (lt_of_block Ha.out)).trans Ha.out
   have K3:=K2 w2 b2
   obtain⟨c0,c1,c2,_⟩:=ce_cells H2.out
   have HA2:Hid (Below wa.heap.size wa w2):=b2
   clear b2 K2 Ba Ha
   go_wp2_with fail
   refine K3.mono ?_
   rintro e w3 ⟨rfl,b3⟩
   have B3:=B2.trans (b3.mono B2.size)
   have H3:Hid (w3.heap[w1.heap.size]? = some (.cells #[.int .i64 (k:Int),.string ⟨root.toArray⟩,.slice (some ⟨g,0,none⟩) m c] 27 (0,0))):=(b3.block _ (lt_of_block H2.out)).trans H2.out
   have HA3:Hid (Below wa.heap.size wa w3):=HA2.out.trans (b3.mono HA2.out.size)
   clear c0 c1 c2
   obtain⟨c0,c1,c2,_⟩:=ce_cells H3.out
   have HSA:Hid (w1.heap.size<w3.heap.size):=lt_of_block H3.out
   clear K3 b3 H2 HA2 B2
   obtain⟨b0,hb0⟩:∃ b:Bool,b=decide ((3:Int)<2*(m:Int)):=⟨_,rfl⟩
   have HB0:Hid (b0=true↔judOk ks (k:Int) root vs 0):=by
    rw[Hid,hb0,decide_eq_true_eq]
    constructor
    · intro h;exact⟨by rw[←HM.out];omega,fun q _ h=>by omega⟩
    · intro h;have h1:=h.1;rw[←HM.out] at h1;omega
   have hw2:IntKind.i64.wrap (2*(m:Int))=2*(m:Int):=i64_wrap_small _ (by omega) (by omega)
   have hmod:Int.tmod 3 2=1:=by decide
   go_wp2
   go_loopw [6,7] (fun v6 v7 wr=>∃ (j:Nat) (b:Bool),j≤m∧v7=.int .i64 (j:Int)∧v6=.bool b∧Hid (b=true↔judOk ks (k:Int) root vs j)∧Hid (Below w3.heap.size w3 wr)) (fun _ v7 _=>m - (intOf v7).toNat)
   case atStart=>exact⟨0,b0,Nat.zero_le _,rfl,by rw[hb0],HB0,Below.refl _ _⟩
   case round =>
    obtain⟨j,b,hj,rfl,rfl,HB,HBW⟩:=hrel
    clear c0 c1 c2
    have H4:Hid (wr.heap[w1.heap.size]? = some (.cells #[.int .i64 (k:Int),.string ⟨root.toArray⟩,.slice (some ⟨g,0,none⟩) m c] 27 (0,0))):=(HBW.out.block _ HSA.out).trans H3.out
    obtain⟨c0,c1,c2,_⟩:=ce_cells H4.out
    by_cases hlt:j<m
    · have hjv : j < vs.length := by rw [← HM.out]; exact hlt
      have hj0:(0:Int)≤(j:Int):=by omega
      have hjm:(j:Int)<(m:Int):=by omega
      cases b with
      | false =>
        have HN:Hid (false=true↔judOk ks (k:Int) root vs (j+1)):=⟨fun h=>(by cases h),fun h=>HB.out.2 ((jud_step hjv).1 h).1⟩
        clear HB
        go_wp2
        go_quiet (fail)
        go_wp2
        go_roundw
        case rel=>exact⟨j+1,false,by omega,by go_num,rfl,HN,⟨HBW.out.os,HBW.out.tape,HBW.out.output,HBW.out.size,HBW.out.block⟩⟩
        case measure=>simp[intOf];omega
      | true =>
        have hw4:Below wa.heap.size wa wr:=HA3.out.trans (HBW.out.mono HA3.out.size)
        obtain⟨ao,co,ap,cp,d0,d1,d2,d3,s1,s2⟩:∃ ao co ap cp,wr.cell? ⟨g,j*4,none⟩=some (.int .i64 vs[j].nd)∧wr.cell? ⟨g,j*4+1,none⟩=some (.int .i64 vs[j].i)∧wr.cell? ⟨g,j*4+2,none⟩=some (.slice ao vs[j].os.length co)∧wr.cell? ⟨g,j*4+3,none⟩=some (.slice ap vs[j].ps.length cp)∧IsStrs wr ao vs[j].os∧IsStrs wr ap vs[j].ps:=by
         rcases (HI.out wr hw4).2 with h | ⟨b',off',e,h⟩
         · rw[h] at hjv;simp at hjv
         · cases e
           simpa using h j hjv
        have BD:Below wr.heap.size wr wr.drew:=⟨rfl,rfl,rfl,Nat.le_refl _,fun _ _=>rfl⟩
        have KV:=HVO.out wr.drew vs[j] ao ap co cp (List.getElem_mem _) (hw4.trans (BD.mono hw4.size)) (strs_later s1 BD) (strs_later s2 BD)
        have HST:Hid (judOk ks (k:Int) root vs (j+1)↔holdV ks (k:Int) root vs[j]=true∧∀ p (hp:p+1=j),(vs[p]'(by omega)).nd<vs[j].nd):=(jud_step hjv).trans ⟨fun h=>h.2,fun h=>⟨HB.out.1 rfl,h⟩⟩
        obtain⟨hv,hhv⟩:∃ b,b=holdV ks (k:Int) root vs[j]:=⟨_,rfl⟩
        rw[←hhv] at KV HST
        by_cases hj1:j=0
        · subst hj1
          have HS1:Hid (hv=true↔judOk ks (k:Int) root vs (0+1)):=HST.out.symm.trans ⟨fun h=>h,fun h=>h⟩ |> fun h=>⟨fun e=>HST.out.2 ⟨e,fun p hp=>by omega⟩,fun e=>(HST.out.1 e).1⟩
          obtain⟨⟨nd,i,os,ps⟩,hx⟩:∃ x,x=vs[0]:=⟨_,rfl⟩
          rw[←hx] at KV d0 d1 d2 d3
          simp only[Nat.zero_mul,Nat.zero_add] at KV d0 d1 d2 d3
          have SX:Hid (∀ W,Below wr.heap.size wr W→W.cell? ⟨w1.heap.size,0,none⟩=some (.int .i64 (k:Int))∧W.cell? ⟨w1.heap.size,1,none⟩=some (.string ⟨root.toArray⟩)∧W.cell? ⟨w1.heap.size,2,none⟩=some (.slice (some ⟨g,0,none⟩) m c)∧W.cell? ⟨g,0,none⟩=some (.int .i64 nd)∧W.cell? ⟨g,1,none⟩=some (.int .i64 i)∧W.cell? ⟨g,2,none⟩=some (.slice ao os.length co)∧W.cell? ⟨g,3,none⟩=some (.slice ap ps.length cp)):=fun W hW=>⟨(hW.cell (p:=⟨w1.heap.size,0,none⟩) (World.block_lt_of_cell? wr _ c0)).trans c0,(hW.cell (p:=⟨w1.heap.size,1,none⟩) (World.block_lt_of_cell? wr _ c1)).trans c1,(hW.cell (p:=⟨w1.heap.size,2,none⟩) (World.block_lt_of_cell? wr _ c2)).trans c2,(hW.cell (p:=⟨g,0,none⟩) (World.block_lt_of_cell? wr _ d0)).trans d0,(hW.cell (p:=⟨g,1,none⟩) (World.block_lt_of_cell? wr _ d1)).trans d1,(hW.cell (p:=⟨g,2,none⟩) (World.block_lt_of_cell? wr _ d2)).trans d2,(hW.cell (p:=⟨g,3,none⟩) (World.block_lt_of_cell? wr _ d3)).trans d3⟩
          clear HST hhv hx s1 s2 HB hw4
          cases hv with
          | false =>
            have HS2:Hid (false=true↔judOk ks (k:Int) root vs (0+1)):=HS1
            go_wp2_with fail
            refine wp_region_held_drew (S:=fun w'=>w'.cell? ⟨w1.heap.size,0,none⟩=some (.int .i64 (k:Int))∧w'.cell? ⟨w1.heap.size,1,none⟩=some (.string ⟨root.toArray⟩)∧w'.cell? ⟨w1.heap.size,2,none⟩=some (.slice (some ⟨g,0,none⟩) m c)∧w'.cell? ⟨g,0,none⟩=some (.int .i64 nd)∧w'.cell? ⟨g,1,none⟩=some (.int .i64 i)∧w'.cell? ⟨g,2,none⟩=some (.slice ao os.length co)∧w'.cell? ⟨g,3,none⟩=some (.slice ap ps.length cp)) (by kernel_rfl) (SX.out _ BD) (fun hHeld=>?_)
            refine wpAnyH_take (i := 0) (oi := { dst := some 43, op := Op.move (Operand.tmp 6), type := 4, pos := "laws.go:877", after := #[], guard := none }) (v := ?vb0) rfl (by kernel_rfl) (by kernel_rfl) (by kernel_rfl) (fun _ _ _ h => h) (Or.inl ⟨by rfl, ?yb0⟩) (by assumption) ?rb0
            case yb0=>(intro w hSw;(try dsimp only at hSw);go_simp;(try with_reducible rfl))
            try simp only[Act.put,List.setIfInBounds_toArray,List.set_cons_zero,List.set_cons_succ]
            refine wpAnyH_take (i := 1) (oi := { dst := some 44, op := Op.move (Operand.tmp 43), type := 4, pos := "laws.go:877", after := #[{ on := 0, ground := Ground.data }], guard := none }) (v := ?vb1) rfl (by kernel_rfl) (by kernel_rfl) (by kernel_rfl) (fun _ _ _ h => h) (Or.inl ⟨by rfl, ?yb1⟩) (by assumption) ?rb1
            case yb1=>(intro w hSw;(try dsimp only at hSw);go_simp;(try with_reducible rfl))
            try simp only[Act.put,List.setIfInBounds_toArray,List.set_cons_zero,List.set_cons_succ]
            refine wpAnyH_take (i := 2) (oi := { dst := some 45, op := Op.move (Operand.tmp 3), type := 24, pos := "laws.go:877", after := #[{ on := 1, ground := Ground.guard }], guard := some (1, true) }) (v := ?vb2) rfl (by kernel_rfl) (by kernel_rfl) (by kernel_rfl) (fun _ _ _ h => h) (Or.inl ⟨by rfl, ?yb2⟩) (by assumption) ?rb2
            case yb2=>(intro w hSw;(try dsimp only at hSw);go_simp;(try with_reducible rfl))
            try simp only[Act.put,List.setIfInBounds_toArray,List.set_cons_zero,List.set_cons_succ]
            refine wpAnyH_take (i := 3) (oi := { dst := some 46, op := Op.fieldAddr 27 (Operand.tmp 4) 0, type := 0, pos := "laws.go:877", after := #[{ on := 1, ground := Ground.guard }], guard := some (1, true) }) (v := ?vb3) rfl (by kernel_rfl) (by kernel_rfl) (by kernel_rfl) (fun _ _ _ h => h) (Or.inl ⟨by rfl, ?yb3⟩) (by assumption) ?rb3
            case yb3=>(intro w hSw;(try dsimp only at hSw);go_simp;(try with_reducible rfl))
            try simp only[Act.put,List.setIfInBounds_toArray,List.set_cons_zero,List.set_cons_succ]
            refine wpAnyH_take (i := 4) (oi := { dst := some 47, op := Op.load 2 (Operand.tmp 46), type := 2, pos := "laws.go:877", after := #[{ on := 3, ground := Ground.data }, { on := 1, ground := Ground.guard }], guard := some (1, true) }) (v := ?vb4) rfl (by kernel_rfl) (by kernel_rfl) (by kernel_rfl) (fun _ _ _ h => h) (Or.inl ⟨by rfl, ?yb4⟩) (by assumption) ?rb4
            case yb4=>(intro w hSw;(try dsimp only at hSw);go_simp;(try with_reducible rfl))
            try simp only[Act.put,List.setIfInBounds_toArray,List.set_cons_zero,List.set_cons_succ]
            refine wpAnyH_take (i := 5) (oi := { dst := some 48, op := Op.fieldAddr 27 (Operand.tmp 4) 1, type := 0, pos := "laws.go:877", after := #[{ on := 1, ground := Ground.guard }], guard := some (1, true) }) (v := ?vb5) rfl (by kernel_rfl) (by kernel_rfl) (by kernel_rfl) (fun _ _ _ h => h) (Or.inl ⟨by rfl, ?yb5⟩) (by assumption) ?rb5
            case yb5=>(intro w hSw;(try dsimp only at hSw);go_simp;(try with_reducible rfl))
            try simp only[Act.put,List.setIfInBounds_toArray,List.set_cons_zero,List.set_cons_succ]
            refine wpAnyH_take (i := 6) (oi := { dst := some 49, op := Op.load 9 (Operand.tmp 48), type := 9, pos := "laws.go:877", after := #[{ on := 5, ground := Ground.data }, { on := 1, ground := Ground.guard }], guard := some (1, true) }) (v := ?vb6) rfl (by kernel_rfl) (by kernel_rfl) (by kernel_rfl) (fun _ _ _ h => h) (Or.inl ⟨by rfl, ?yb6⟩) (by assumption) ?rb6
            case yb6=>(intro w hSw;(try dsimp only at hSw);go_simp;(try with_reducible rfl))
            try simp only[Act.put,List.setIfInBounds_toArray,List.set_cons_zero,List.set_cons_succ]
            refine wpAnyH_take (i := 7) (oi := { dst := some 50, op := Op.fieldAddr 27 (Operand.tmp 4) 2, type := 0, pos := "laws.go:877", after := #[{ on := 1, ground := Ground.guard }], guard := some (1, true) }) (v := ?vb7) rfl (by kernel_rfl) (by kernel_rfl) (by kernel_rfl) (fun _ _ _ h => h) (Or.inl ⟨by rfl, ?yb7⟩) (by assumption) ?rb7
            case yb7=>(intro w hSw;(try dsimp only at hSw);go_simp;(try with_reducible rfl))
            try simp only[Act.put,List.setIfInBounds_toArray,List.set_cons_zero,List.set_cons_succ]
            refine wpAnyH_take (i := 8) (oi := { dst := some 51, op := Op.load 25 (Operand.tmp 50), type := 25, pos := "laws.go:877", after := #[{ on := 7, ground := Ground.data }, { on := 1, ground := Ground.guard }], guard := some (1, true) }) (v := ?vb8) rfl (by kernel_rfl) (by kernel_rfl) (by kernel_rfl) (fun _ _ _ h => h) (Or.inl ⟨by rfl, ?yb8⟩) (by assumption) ?rb8
            case yb8=>(intro w hSw;(try dsimp only at hSw);go_simp;(try with_reducible rfl))
            try simp only[Act.put,List.setIfInBounds_toArray,List.set_cons_zero,List.set_cons_succ]
            refine wpAnyH_take (i := 9) (oi := { dst := some 52, op := Op.move (Operand.tmp 7), type := 3, pos := "laws.go:877", after := #[{ on := 1, ground := Ground.guard }], guard := some (1, true) }) (v := ?vb9) rfl (by kernel_rfl) (by kernel_rfl) (by kernel_rfl) (fun _ _ _ h => h) (Or.inl ⟨by rfl, ?yb9⟩) (by assumption) ?rb9
            case yb9=>(intro w hSw;(try dsimp only at hSw);go_simp;(try with_reducible rfl))
            try simp only[Act.put,List.setIfInBounds_toArray,List.set_cons_zero,List.set_cons_succ]
            refine wpAnyH_take (i := 10) (oi := { dst := some 53, op := Op.indexAddr 25 (Operand.tmp 51) (Operand.tmp 52), type := 0, pos := "laws.go:877", after := #[{ on := 8, ground := Ground.data }, { on := 9, ground := Ground.data }, { on := 1, ground := Ground.guard }], guard := some (1, true) }) (v := ?vb10) rfl (by kernel_rfl) (by kernel_rfl) (by kernel_rfl) (fun _ _ _ h => h) (Or.inl ⟨by rfl, ?yb10⟩) (by assumption) ?rb10
            case yb10=>(intro w hSw;(try dsimp only at hSw);go_simp;(try with_reducible rfl))
            try simp only[Act.put,List.setIfInBounds_toArray,List.set_cons_zero,List.set_cons_succ]
            refine wpAnyH_take (i := 11) (oi := { dst := some 54, op := Op.load 35 (Operand.tmp 53), type := 35, pos := "laws.go:877", after := #[{ on := 10, ground := Ground.data }, { on := 1, ground := Ground.guard }], guard := some (1, true) }) (v := ?vb11) rfl (by kernel_rfl) (by kernel_rfl) (by kernel_rfl) (fun _ _ _ h => h) (Or.inl ⟨by rfl, ?yb11⟩) (by assumption) ?rb11
            case yb11=>(intro w hSw;(try dsimp only at hSw);go_simp;(try with_reducible rfl))
            try simp only[Act.put,List.setIfInBounds_toArray,List.set_cons_zero,List.set_cons_succ]
            refine wpAnyH_ready (rs:=[12]) (by kernel_rfl) (by simp) ?_
            refine AllReadyH.cons (o := { dst := some 55, op := Op.call { callee := Callee.value (Operand.func 8), args := #[Operand.tmp 45, Operand.tmp 47, Operand.tmp 49, Operand.tmp 54], argTypes := #[24, 2, 9, 35] }, type := 4, pos := "laws.go:877", after := #[{ on := 2, ground := Ground.data }, { on := 4, ground := Ground.data }, { on := 6, ground := Ground.data }, { on := 11, ground := Ground.data }, { on := 1, ground := Ground.chain }, { on := 1, ground := Ground.guard }], guard := some (1, true) }) rfl (fun K hK => ?_) AllReadyH.nil
            go_simp
            go_at_call 8
            with_reducible refine KV.mono ?_
            rintro e w5 ⟨rfl,b5⟩
            have B5:=BD.trans (b5.mono BD.size)
            clear b5
            clear hHeld
            refine hK.out _ _ (SX.out _ B5) (fun hHeld=>?_)
            clear hK K
            try simp only[Act.put,List.setIfInBounds_toArray,List.set_cons_zero,List.set_cons_succ]
            refine wpAnyH_take (i := 13) (oi := { dst := some 56, op := Op.pick (Operand.tmp 44) (Operand.tmp 55) (Operand.const (Value.bool false)), type := 4, pos := "laws.go:877", after := #[{ on := 1, ground := Ground.data }, { on := 12, ground := Ground.data }], guard := none }) (v := ?vb13) rfl (by kernel_rfl) (by kernel_rfl) (by kernel_rfl) (fun _ _ _ h => h) (Or.inl ⟨by rfl, ?yb13⟩) (by assumption) ?rb13
            case yb13=>(intro w hSw;(try dsimp only at hSw);go_simp;(try with_reducible rfl))
            try simp only[Act.put,List.setIfInBounds_toArray,List.set_cons_zero,List.set_cons_succ]
            refine wpAnyH_take (i := 14) (oi := { dst := some 57, op := Op.move (Operand.tmp 56), type := 4, pos := "laws.go:877", after := #[{ on := 13, ground := Ground.data }, { on := 12, ground := Ground.chain }], guard := none }) (v := ?vb14) rfl (by kernel_rfl) (by kernel_rfl) (by kernel_rfl) (fun _ _ _ h => h) (Or.inl ⟨by rfl, ?yb14⟩) (by assumption) ?rb14
            case yb14=>(intro w hSw;(try dsimp only at hSw);go_simp;(try with_reducible rfl))
            try simp only[Act.put,List.setIfInBounds_toArray,List.set_cons_zero,List.set_cons_succ]
            refine wpAnyH_take (i := 15) (oi := { dst := some 58, op := Op.move (Operand.tmp 7), type := 3, pos := "laws.go:877", after := #[{ on := 14, ground := Ground.guard }], guard := some (14, true) }) (v := undef) rfl (by kernel_rfl) (by kernel_rfl) (by kernel_rfl) (fun _ _ _ h => h) (Or.inr ⟨by rfl, rfl⟩) (by assumption) ?_
            try simp only[Act.put,List.setIfInBounds_toArray,List.set_cons_zero,List.set_cons_succ]
            refine wpAnyH_take (i := 16) (oi := { dst := some 59, op := Op.binOp BinOp.eql 3 (Operand.tmp 58) (Operand.const (Value.int IntKind.i64 0)) 3, type := 4, pos := "laws.go:877", after := #[{ on := 15, ground := Ground.data }, { on := 14, ground := Ground.guard }], guard := some (14, true) }) (v := undef) rfl (by kernel_rfl) (by kernel_rfl) (by kernel_rfl) (fun _ _ _ h => h) (Or.inr ⟨by rfl, rfl⟩) (by assumption) ?_
            try simp only[Act.put,List.setIfInBounds_toArray,List.set_cons_zero,List.set_cons_succ]
            refine wpAnyH_take (i := 17) (oi := { dst := some 60, op := Op.move (Operand.tmp 59), type := 4, pos := "laws.go:877", after := #[{ on := 16, ground := Ground.data }, { on := 14, ground := Ground.chain }, { on := 14, ground := Ground.guard }], guard := some (14, true) }) (v := undef) rfl (by kernel_rfl) (by kernel_rfl) (by kernel_rfl) (fun _ _ _ h => h) (Or.inr ⟨by rfl, rfl⟩) (by assumption) ?_
            try simp only[Act.put,List.setIfInBounds_toArray,List.set_cons_zero,List.set_cons_succ]
            refine wpAnyH_take (i := 18) (oi := { dst := some 61, op := Op.fieldAddr 27 (Operand.tmp 4) 2, type := 0, pos := "laws.go:877", after := #[{ on := 17, ground := Ground.guard }], guard := some (17, false) }) (v := undef) rfl (by kernel_rfl) (by kernel_rfl) (by kernel_rfl) (fun _ _ _ h => h) (Or.inr ⟨by rfl, rfl⟩) (by assumption) ?_
            try simp only[Act.put,List.setIfInBounds_toArray,List.set_cons_zero,List.set_cons_succ]
            refine wpAnyH_take (i := 19) (oi := { dst := some 62, op := Op.load 25 (Operand.tmp 61), type := 25, pos := "laws.go:877", after := #[{ on := 18, ground := Ground.data }, { on := 17, ground := Ground.guard }], guard := some (17, false) }) (v := undef) rfl (by kernel_rfl) (by kernel_rfl) (by kernel_rfl) (fun _ _ _ h => h) (Or.inr ⟨by rfl, rfl⟩) (by assumption) ?_
            try simp only[Act.put,List.setIfInBounds_toArray,List.set_cons_zero,List.set_cons_succ]
            refine wpAnyH_take (i := 20) (oi := { dst := some 63, op := Op.move (Operand.tmp 7), type := 3, pos := "laws.go:877", after := #[{ on := 17, ground := Ground.guard }], guard := some (17, false) }) (v := undef) rfl (by kernel_rfl) (by kernel_rfl) (by kernel_rfl) (fun _ _ _ h => h) (Or.inr ⟨by rfl, rfl⟩) (by assumption) ?_
            try simp only[Act.put,List.setIfInBounds_toArray,List.set_cons_zero,List.set_cons_succ]
            refine wpAnyH_take (i := 21) (oi := { dst := some 64, op := Op.binOp BinOp.sub 3 (Operand.tmp 63) (Operand.const (Value.int IntKind.i64 1)) 3, type := 3, pos := "laws.go:877", after := #[{ on := 20, ground := Ground.data }, { on := 17, ground := Ground.guard }], guard := some (17, false) }) (v := undef) rfl (by kernel_rfl) (by kernel_rfl) (by kernel_rfl) (fun _ _ _ h => h) (Or.inr ⟨by rfl, rfl⟩) (by assumption) ?_
            try simp only[Act.put,List.setIfInBounds_toArray,List.set_cons_zero,List.set_cons_succ]
            refine wpAnyH_take (i := 22) (oi := { dst := some 65, op := Op.indexAddr 25 (Operand.tmp 62) (Operand.tmp 64), type := 0, pos := "laws.go:877", after := #[{ on := 19, ground := Ground.data }, { on := 21, ground := Ground.data }, { on := 17, ground := Ground.guard }], guard := some (17, false) }) (v := undef) rfl (by kernel_rfl) (by kernel_rfl) (by kernel_rfl) (fun _ _ _ h => h) (Or.inr ⟨by rfl, rfl⟩) (by assumption) ?_
            try simp only[Act.put,List.setIfInBounds_toArray,List.set_cons_zero,List.set_cons_succ]
            refine wpAnyH_take (i := 23) (oi := { dst := some 66, op := Op.fieldAddr 35 (Operand.tmp 65) 0, type := 0, pos := "laws.go:877", after := #[{ on := 22, ground := Ground.data }, { on := 17, ground := Ground.guard }], guard := some (17, false) }) (v := undef) rfl (by kernel_rfl) (by kernel_rfl) (by kernel_rfl) (fun _ _ _ h => h) (Or.inr ⟨by rfl, rfl⟩) (by assumption) ?_
            try simp only[Act.put,List.setIfInBounds_toArray,List.set_cons_zero,List.set_cons_succ]
            refine wpAnyH_take (i := 24) (oi := { dst := some 67, op := Op.load 2 (Operand.tmp 66), type := 2, pos := "laws.go:877", after := #[{ on := 23, ground := Ground.data }, { on := 17, ground := Ground.guard }], guard := some (17, false) }) (v := undef) rfl (by kernel_rfl) (by kernel_rfl) (by kernel_rfl) (fun _ _ _ h => h) (Or.inr ⟨by rfl, rfl⟩) (by assumption) ?_
            try simp only[Act.put,List.setIfInBounds_toArray,List.set_cons_zero,List.set_cons_succ]
            refine wpAnyH_take (i := 25) (oi := { dst := some 68, op := Op.fieldAddr 27 (Operand.tmp 4) 2, type := 0, pos := "laws.go:877", after := #[{ on := 17, ground := Ground.guard }], guard := some (17, false) }) (v := undef) rfl (by kernel_rfl) (by kernel_rfl) (by kernel_rfl) (fun _ _ _ h => h) (Or.inr ⟨by rfl, rfl⟩) (by assumption) ?_
            try simp only[Act.put,List.setIfInBounds_toArray,List.set_cons_zero,List.set_cons_succ]
            refine wpAnyH_take (i := 26) (oi := { dst := some 69, op := Op.load 25 (Operand.tmp 68), type := 25, pos := "laws.go:877", after := #[{ on := 25, ground := Ground.data }, { on := 17, ground := Ground.guard }], guard := some (17, false) }) (v := undef) rfl (by kernel_rfl) (by kernel_rfl) (by kernel_rfl) (fun _ _ _ h => h) (Or.inr ⟨by rfl, rfl⟩) (by assumption) ?_
            try simp only[Act.put,List.setIfInBounds_toArray,List.set_cons_zero,List.set_cons_succ]
            refine wpAnyH_take (i := 27) (oi := { dst := some 70, op := Op.move (Operand.tmp 7), type := 3, pos := "laws.go:877", after := #[{ on := 17, ground := Ground.guard }], guard := some (17, false) }) (v := undef) rfl (by kernel_rfl) (by kernel_rfl) (by kernel_rfl) (fun _ _ _ h => h) (Or.inr ⟨by rfl, rfl⟩) (by assumption) ?_
            try simp only[Act.put,List.setIfInBounds_toArray,List.set_cons_zero,List.set_cons_succ]
            refine wpAnyH_take (i := 28) (oi := { dst := some 71, op := Op.indexAddr 25 (Operand.tmp 69) (Operand.tmp 70), type := 0, pos := "laws.go:877", after := #[{ on := 26, ground := Ground.data }, { on := 27, ground := Ground.data }, { on := 17, ground := Ground.guard }], guard := some (17, false) }) (v := undef) rfl (by kernel_rfl) (by kernel_rfl) (by kernel_rfl) (fun _ _ _ h => h) (Or.inr ⟨by rfl, rfl⟩) (by assumption) ?_
            try simp only[Act.put,List.setIfInBounds_toArray,List.set_cons_zero,List.set_cons_succ]
            refine wpAnyH_take (i := 29) (oi := { dst := some 72, op := Op.fieldAddr 35 (Operand.tmp 71) 0, type := 0, pos := "laws.go:877", after := #[{ on := 28, ground := Ground.data }, { on := 17, ground := Ground.guard }], guard := some (17, false) }) (v := undef) rfl (by kernel_rfl) (by kernel_rfl) (by kernel_rfl) (fun _ _ _ h => h) (Or.inr ⟨by rfl, rfl⟩) (by assumption) ?_
            try simp only[Act.put,List.setIfInBounds_toArray,List.set_cons_zero,List.set_cons_succ]
            refine wpAnyH_take (i := 30) (oi := { dst := some 73, op := Op.load 2 (Operand.tmp 72), type := 2, pos := "laws.go:877", after := #[{ on := 29, ground := Ground.data }, { on := 17, ground := Ground.guard }], guard := some (17, false) }) (v := undef) rfl (by kernel_rfl) (by kernel_rfl) (by kernel_rfl) (fun _ _ _ h => h) (Or.inr ⟨by rfl, rfl⟩) (by assumption) ?_
            try simp only[Act.put,List.setIfInBounds_toArray,List.set_cons_zero,List.set_cons_succ]
            refine wpAnyH_take (i := 31) (oi := { dst := some 74, op := Op.binOp BinOp.lss 2 (Operand.tmp 67) (Operand.tmp 73) 2, type := 4, pos := "laws.go:877", after := #[{ on := 24, ground := Ground.data }, { on := 30, ground := Ground.data }, { on := 17, ground := Ground.guard }], guard := some (17, false) }) (v := undef) rfl (by kernel_rfl) (by kernel_rfl) (by kernel_rfl) (fun _ _ _ h => h) (Or.inr ⟨by rfl, rfl⟩) (by assumption) ?_
            try simp only[Act.put,List.setIfInBounds_toArray,List.set_cons_zero,List.set_cons_succ]
            refine wpAnyH_take (i := 32) (oi := { dst := some 75, op := Op.pick (Operand.tmp 60) (Operand.const (Value.bool true)) (Operand.tmp 74), type := 4, pos := "laws.go:877", after := #[{ on := 17, ground := Ground.data }, { on := 31, ground := Ground.data }, { on := 14, ground := Ground.guard }], guard := some (14, true) }) (v := undef) rfl (by kernel_rfl) (by kernel_rfl) (by kernel_rfl) (fun _ _ _ h => h) (Or.inr ⟨by rfl, rfl⟩) (by assumption) ?_
            try simp only[Act.put,List.setIfInBounds_toArray,List.set_cons_zero,List.set_cons_succ]
            refine wpAnyH_take (i := 33) (oi := { dst := some 76, op := Op.pick (Operand.tmp 57) (Operand.tmp 75) (Operand.const (Value.bool false)), type := 4, pos := "laws.go:877", after := #[{ on := 14, ground := Ground.data }, { on := 32, ground := Ground.data }], guard := none }) (v := ?vb33) rfl (by kernel_rfl) (by kernel_rfl) (by kernel_rfl) (fun _ _ _ h => h) (Or.inl ⟨by rfl, ?yb33⟩) (by assumption) ?rb33
            case yb33=>(intro w hSw;(try dsimp only at hSw);go_simp;(try with_reducible rfl))
            try simp only[Act.put,List.setIfInBounds_toArray,List.set_cons_zero,List.set_cons_succ]
            refine wpAnyH_take (i := 34) (oi := { dst := some 6, op := Op.assign (Operand.tmp 76), type := 4, pos := "laws.go:877", after := #[{ on := 33, ground := Ground.data }, { on := 17, ground := Ground.chain }, { on := 0, ground := Ground.phase }, { on := 1, ground := Ground.phase }, { on := 2, ground := Ground.phase }, { on := 3, ground := Ground.phase }, { on := 4, ground := Ground.phase }, { on := 5, ground := Ground.phase }, { on := 6, ground := Ground.phase }, { on := 7, ground := Ground.phase }, { on := 8, ground := Ground.phase }, { on := 9, ground := Ground.phase }, { on := 10, ground := Ground.phase }, { on := 11, ground := Ground.phase }, { on := 12, ground := Ground.phase }, { on := 13, ground := Ground.phase }, { on := 14, ground := Ground.phase }, { on := 15, ground := Ground.phase }, { on := 16, ground := Ground.phase }, { on := 17, ground := Ground.phase }, { on := 18, ground := Ground.phase }, { on := 19, ground := Ground.phase }, { on := 20, ground := Ground.phase }, { on := 21, ground := Ground.phase }, { on := 22, ground := Ground.phase }, { on := 23, ground := Ground.phase }, { on := 24, ground := Ground.phase }, { on := 25, ground := Ground.phase }, { on := 26, ground := Ground.phase }, { on := 27, ground := Ground.phase }, { on := 28, ground := Ground.phase }, { on := 29, ground := Ground.phase }, { on := 30, ground := Ground.phase }, { on := 31, ground := Ground.phase }, { on := 32, ground := Ground.phase }, { on := 33, ground := Ground.phase }], guard := none }) (v := ?vb34) rfl (by kernel_rfl) (by kernel_rfl) (by kernel_rfl) (fun _ _ _ h => h) (Or.inl ⟨by rfl, ?yb34⟩) (by assumption) ?rb34
            case yb34=>(intro w hSw;(try dsimp only at hSw);go_simp;(try with_reducible rfl))
            try simp only[Act.put,List.setIfInBounds_toArray,List.set_cons_zero,List.set_cons_succ]
            refine wpAnyH_done (by kernel_rfl) ?_ _
            have B6:Hid (Below w3.heap.size w3 w5):=HBW.out.trans (B5.mono HBW.out.size)
            go_wp2
            go_roundw
            case rel=>exact⟨0+1,false,by omega,by go_num,rfl,HS2,B6⟩
            case measure=>simp[intOf];omega
          | true =>
            go_wp2_with fail
            refine wp_region_held_drew (S:=fun w'=>w'.cell? ⟨w1.heap.size,0,none⟩=some (.int .i64 (k:Int))∧w'.cell? ⟨w1.heap.size,1,none⟩=some (.string ⟨root.toArray⟩)∧w'.cell? ⟨w1.heap.size,2,none⟩=some (.slice (some ⟨g,0,none⟩) m c)∧w'.cell? ⟨g,0,none⟩=some (.int .i64 nd)∧w'.cell? ⟨g,1,none⟩=some (.int .i64 i)∧w'.cell? ⟨g,2,none⟩=some (.slice ao os.length co)∧w'.cell? ⟨g,3,none⟩=some (.slice ap ps.length cp)) (by kernel_rfl) (SX.out _ BD) (fun hHeld=>?_)
            refine wpAnyH_take (i := 0) (oi := { dst := some 43, op := Op.move (Operand.tmp 6), type := 4, pos := "laws.go:877", after := #[], guard := none }) (v := ?vc0) rfl (by kernel_rfl) (by kernel_rfl) (by kernel_rfl) (fun _ _ _ h => h) (Or.inl ⟨by rfl, ?yc0⟩) (by assumption) ?rc0
            case yc0=>(intro w hSw;(try dsimp only at hSw);go_simp;(try with_reducible rfl))
            try simp only[Act.put,List.setIfInBounds_toArray,List.set_cons_zero,List.set_cons_succ]
            refine wpAnyH_take (i := 1) (oi := { dst := some 44, op := Op.move (Operand.tmp 43), type := 4, pos := "laws.go:877", after := #[{ on := 0, ground := Ground.data }], guard := none }) (v := ?vc1) rfl (by kernel_rfl) (by kernel_rfl) (by kernel_rfl) (fun _ _ _ h => h) (Or.inl ⟨by rfl, ?yc1⟩) (by assumption) ?rc1
            case yc1=>(intro w hSw;(try dsimp only at hSw);go_simp;(try with_reducible rfl))
            try simp only[Act.put,List.setIfInBounds_toArray,List.set_cons_zero,List.set_cons_succ]
            refine wpAnyH_take (i := 2) (oi := { dst := some 45, op := Op.move (Operand.tmp 3), type := 24, pos := "laws.go:877", after := #[{ on := 1, ground := Ground.guard }], guard := some (1, true) }) (v := ?vc2) rfl (by kernel_rfl) (by kernel_rfl) (by kernel_rfl) (fun _ _ _ h => h) (Or.inl ⟨by rfl, ?yc2⟩) (by assumption) ?rc2
            case yc2=>(intro w hSw;(try dsimp only at hSw);go_simp;(try with_reducible rfl))
            try simp only[Act.put,List.setIfInBounds_toArray,List.set_cons_zero,List.set_cons_succ]
            refine wpAnyH_take (i := 3) (oi := { dst := some 46, op := Op.fieldAddr 27 (Operand.tmp 4) 0, type := 0, pos := "laws.go:877", after := #[{ on := 1, ground := Ground.guard }], guard := some (1, true) }) (v := ?vc3) rfl (by kernel_rfl) (by kernel_rfl) (by kernel_rfl) (fun _ _ _ h => h) (Or.inl ⟨by rfl, ?yc3⟩) (by assumption) ?rc3
            case yc3=>(intro w hSw;(try dsimp only at hSw);go_simp;(try with_reducible rfl))
            try simp only[Act.put,List.setIfInBounds_toArray,List.set_cons_zero,List.set_cons_succ]
            refine wpAnyH_take (i := 4) (oi := { dst := some 47, op := Op.load 2 (Operand.tmp 46), type := 2, pos := "laws.go:877", after := #[{ on := 3, ground := Ground.data }, { on := 1, ground := Ground.guard }], guard := some (1, true) }) (v := ?vc4) rfl (by kernel_rfl) (by kernel_rfl) (by kernel_rfl) (fun _ _ _ h => h) (Or.inl ⟨by rfl, ?yc4⟩) (by assumption) ?rc4
            case yc4=>(intro w hSw;(try dsimp only at hSw);go_simp;(try with_reducible rfl))
            try simp only[Act.put,List.setIfInBounds_toArray,List.set_cons_zero,List.set_cons_succ]
            refine wpAnyH_take (i := 5) (oi := { dst := some 48, op := Op.fieldAddr 27 (Operand.tmp 4) 1, type := 0, pos := "laws.go:877", after := #[{ on := 1, ground := Ground.guard }], guard := some (1, true) }) (v := ?vc5) rfl (by kernel_rfl) (by kernel_rfl) (by kernel_rfl) (fun _ _ _ h => h) (Or.inl ⟨by rfl, ?yc5⟩) (by assumption) ?rc5
            case yc5=>(intro w hSw;(try dsimp only at hSw);go_simp;(try with_reducible rfl))
            try simp only[Act.put,List.setIfInBounds_toArray,List.set_cons_zero,List.set_cons_succ]
            refine wpAnyH_take (i := 6) (oi := { dst := some 49, op := Op.load 9 (Operand.tmp 48), type := 9, pos := "laws.go:877", after := #[{ on := 5, ground := Ground.data }, { on := 1, ground := Ground.guard }], guard := some (1, true) }) (v := ?vc6) rfl (by kernel_rfl) (by kernel_rfl) (by kernel_rfl) (fun _ _ _ h => h) (Or.inl ⟨by rfl, ?yc6⟩) (by assumption) ?rc6
            case yc6=>(intro w hSw;(try dsimp only at hSw);go_simp;(try with_reducible rfl))
            try simp only[Act.put,List.setIfInBounds_toArray,List.set_cons_zero,List.set_cons_succ]
            refine wpAnyH_take (i := 7) (oi := { dst := some 50, op := Op.fieldAddr 27 (Operand.tmp 4) 2, type := 0, pos := "laws.go:877", after := #[{ on := 1, ground := Ground.guard }], guard := some (1, true) }) (v := ?vc7) rfl (by kernel_rfl) (by kernel_rfl) (by kernel_rfl) (fun _ _ _ h => h) (Or.inl ⟨by rfl, ?yc7⟩) (by assumption) ?rc7
            case yc7=>(intro w hSw;(try dsimp only at hSw);go_simp;(try with_reducible rfl))
            try simp only[Act.put,List.setIfInBounds_toArray,List.set_cons_zero,List.set_cons_succ]
            refine wpAnyH_take (i := 8) (oi := { dst := some 51, op := Op.load 25 (Operand.tmp 50), type := 25, pos := "laws.go:877", after := #[{ on := 7, ground := Ground.data }, { on := 1, ground := Ground.guard }], guard := some (1, true) }) (v := ?vc8) rfl (by kernel_rfl) (by kernel_rfl) (by kernel_rfl) (fun _ _ _ h => h) (Or.inl ⟨by rfl, ?yc8⟩) (by assumption) ?rc8
            case yc8=>(intro w hSw;(try dsimp only at hSw);go_simp;(try with_reducible rfl))
            try simp only[Act.put,List.setIfInBounds_toArray,List.set_cons_zero,List.set_cons_succ]
            refine wpAnyH_take (i := 9) (oi := { dst := some 52, op := Op.move (Operand.tmp 7), type := 3, pos := "laws.go:877", after := #[{ on := 1, ground := Ground.guard }], guard := some (1, true) }) (v := ?vc9) rfl (by kernel_rfl) (by kernel_rfl) (by kernel_rfl) (fun _ _ _ h => h) (Or.inl ⟨by rfl, ?yc9⟩) (by assumption) ?rc9
            case yc9=>(intro w hSw;(try dsimp only at hSw);go_simp;(try with_reducible rfl))
            try simp only[Act.put,List.setIfInBounds_toArray,List.set_cons_zero,List.set_cons_succ]
            refine wpAnyH_take (i := 10) (oi := { dst := some 53, op := Op.indexAddr 25 (Operand.tmp 51) (Operand.tmp 52), type := 0, pos := "laws.go:877", after := #[{ on := 8, ground := Ground.data }, { on := 9, ground := Ground.data }, { on := 1, ground := Ground.guard }], guard := some (1, true) }) (v := ?vc10) rfl (by kernel_rfl) (by kernel_rfl) (by kernel_rfl) (fun _ _ _ h => h) (Or.inl ⟨by rfl, ?yc10⟩) (by assumption) ?rc10
            case yc10=>(intro w hSw;(try dsimp only at hSw);go_simp;(try with_reducible rfl))
            try simp only[Act.put,List.setIfInBounds_toArray,List.set_cons_zero,List.set_cons_succ]
            refine wpAnyH_take (i := 11) (oi := { dst := some 54, op := Op.load 35 (Operand.tmp 53), type := 35, pos := "laws.go:877", after := #[{ on := 10, ground := Ground.data }, { on := 1, ground := Ground.guard }], guard := some (1, true) }) (v := ?vc11) rfl (by kernel_rfl) (by kernel_rfl) (by kernel_rfl) (fun _ _ _ h => h) (Or.inl ⟨by rfl, ?yc11⟩) (by assumption) ?rc11
            case yc11=>(intro w hSw;(try dsimp only at hSw);go_simp;(try with_reducible rfl))
            try simp only[Act.put,List.setIfInBounds_toArray,List.set_cons_zero,List.set_cons_succ]
            refine wpAnyH_ready (rs:=[12]) (by kernel_rfl) (by simp) ?_
            refine AllReadyH.cons (o := { dst := some 55, op := Op.call { callee := Callee.value (Operand.func 8), args := #[Operand.tmp 45, Operand.tmp 47, Operand.tmp 49, Operand.tmp 54], argTypes := #[24, 2, 9, 35] }, type := 4, pos := "laws.go:877", after := #[{ on := 2, ground := Ground.data }, { on := 4, ground := Ground.data }, { on := 6, ground := Ground.data }, { on := 11, ground := Ground.data }, { on := 1, ground := Ground.chain }, { on := 1, ground := Ground.guard }], guard := some (1, true) }) rfl (fun K hK => ?_) AllReadyH.nil
            go_simp
            go_at_call 8
            with_reducible refine KV.mono ?_
            rintro e w5 ⟨rfl,b5⟩
            have B5:=BD.trans (b5.mono BD.size)
            clear b5
            clear hHeld
            refine hK.out _ _ (SX.out _ B5) (fun hHeld=>?_)
            clear hK K
            try simp only[Act.put,List.setIfInBounds_toArray,List.set_cons_zero,List.set_cons_succ]
            refine wpAnyH_take (i := 13) (oi := { dst := some 56, op := Op.pick (Operand.tmp 44) (Operand.tmp 55) (Operand.const (Value.bool false)), type := 4, pos := "laws.go:877", after := #[{ on := 1, ground := Ground.data }, { on := 12, ground := Ground.data }], guard := none }) (v := ?vc13) rfl (by kernel_rfl) (by kernel_rfl) (by kernel_rfl) (fun _ _ _ h => h) (Or.inl ⟨by rfl, ?yc13⟩) (by assumption) ?rc13
            case yc13=>(intro w hSw;(try dsimp only at hSw);go_simp;(try with_reducible rfl))
            try simp only[Act.put,List.setIfInBounds_toArray,List.set_cons_zero,List.set_cons_succ]
            refine wpAnyH_take (i := 14) (oi := { dst := some 57, op := Op.move (Operand.tmp 56), type := 4, pos := "laws.go:877", after := #[{ on := 13, ground := Ground.data }, { on := 12, ground := Ground.chain }], guard := none }) (v := ?vc14) rfl (by kernel_rfl) (by kernel_rfl) (by kernel_rfl) (fun _ _ _ h => h) (Or.inl ⟨by rfl, ?yc14⟩) (by assumption) ?rc14
            case yc14=>(intro w hSw;(try dsimp only at hSw);go_simp;(try with_reducible rfl))
            try simp only[Act.put,List.setIfInBounds_toArray,List.set_cons_zero,List.set_cons_succ]
            refine wpAnyH_take (i := 15) (oi := { dst := some 58, op := Op.move (Operand.tmp 7), type := 3, pos := "laws.go:877", after := #[{ on := 14, ground := Ground.guard }], guard := some (14, true) }) (v := ?vc15) rfl (by kernel_rfl) (by kernel_rfl) (by kernel_rfl) (fun _ _ _ h => h) (Or.inl ⟨by rfl, ?yc15⟩) (by assumption) ?rc15
            case yc15=>(intro w hSw;(try dsimp only at hSw);go_simp;(try with_reducible rfl))
            try simp only[Act.put,List.setIfInBounds_toArray,List.set_cons_zero,List.set_cons_succ]
            refine wpAnyH_take (i := 16) (oi := { dst := some 59, op := Op.binOp BinOp.eql 3 (Operand.tmp 58) (Operand.const (Value.int IntKind.i64 0)) 3, type := 4, pos := "laws.go:877", after := #[{ on := 15, ground := Ground.data }, { on := 14, ground := Ground.guard }], guard := some (14, true) }) (v := ?vc16) rfl (by kernel_rfl) (by kernel_rfl) (by kernel_rfl) (fun _ _ _ h => h) (Or.inl ⟨by rfl, ?yc16⟩) (by assumption) ?rc16
            case yc16=>(intro w hSw;(try dsimp only at hSw);go_simp;(try with_reducible rfl))
            try simp only[Act.put,List.setIfInBounds_toArray,List.set_cons_zero,List.set_cons_succ]
            refine wpAnyH_take (i := 17) (oi := { dst := some 60, op := Op.move (Operand.tmp 59), type := 4, pos := "laws.go:877", after := #[{ on := 16, ground := Ground.data }, { on := 14, ground := Ground.chain }, { on := 14, ground := Ground.guard }], guard := some (14, true) }) (v := ?vc17) rfl (by kernel_rfl) (by kernel_rfl) (by kernel_rfl) (fun _ _ _ h => h) (Or.inl ⟨by rfl, ?yc17⟩) (by assumption) ?rc17
            case yc17=>(intro w hSw;(try dsimp only at hSw);go_simp;(try with_reducible rfl))
            try simp only[Act.put,List.setIfInBounds_toArray,List.set_cons_zero,List.set_cons_succ]
            refine wpAnyH_take (i := 18) (oi := { dst := some 61, op := Op.fieldAddr 27 (Operand.tmp 4) 2, type := 0, pos := "laws.go:877", after := #[{ on := 17, ground := Ground.guard }], guard := some (17, false) }) (v := undef) rfl (by kernel_rfl) (by kernel_rfl) (by kernel_rfl) (fun _ _ _ h => h) (Or.inr ⟨by rfl, rfl⟩) (by assumption) ?_
            try simp only[Act.put,List.setIfInBounds_toArray,List.set_cons_zero,List.set_cons_succ]
            refine wpAnyH_take (i := 19) (oi := { dst := some 62, op := Op.load 25 (Operand.tmp 61), type := 25, pos := "laws.go:877", after := #[{ on := 18, ground := Ground.data }, { on := 17, ground := Ground.guard }], guard := some (17, false) }) (v := undef) rfl (by kernel_rfl) (by kernel_rfl) (by kernel_rfl) (fun _ _ _ h => h) (Or.inr ⟨by rfl, rfl⟩) (by assumption) ?_
            try simp only[Act.put,List.setIfInBounds_toArray,List.set_cons_zero,List.set_cons_succ]
            refine wpAnyH_take (i := 20) (oi := { dst := some 63, op := Op.move (Operand.tmp 7), type := 3, pos := "laws.go:877", after := #[{ on := 17, ground := Ground.guard }], guard := some (17, false) }) (v := undef) rfl (by kernel_rfl) (by kernel_rfl) (by kernel_rfl) (fun _ _ _ h => h) (Or.inr ⟨by rfl, rfl⟩) (by assumption) ?_
            try simp only[Act.put,List.setIfInBounds_toArray,List.set_cons_zero,List.set_cons_succ]
            refine wpAnyH_take (i := 21) (oi := { dst := some 64, op := Op.binOp BinOp.sub 3 (Operand.tmp 63) (Operand.const (Value.int IntKind.i64 1)) 3, type := 3, pos := "laws.go:877", after := #[{ on := 20, ground := Ground.data }, { on := 17, ground := Ground.guard }], guard := some (17, false) }) (v := undef) rfl (by kernel_rfl) (by kernel_rfl) (by kernel_rfl) (fun _ _ _ h => h) (Or.inr ⟨by rfl, rfl⟩) (by assumption) ?_
            try simp only[Act.put,List.setIfInBounds_toArray,List.set_cons_zero,List.set_cons_succ]
            refine wpAnyH_take (i := 22) (oi := { dst := some 65, op := Op.indexAddr 25 (Operand.tmp 62) (Operand.tmp 64), type := 0, pos := "laws.go:877", after := #[{ on := 19, ground := Ground.data }, { on := 21, ground := Ground.data }, { on := 17, ground := Ground.guard }], guard := some (17, false) }) (v := undef) rfl (by kernel_rfl) (by kernel_rfl) (by kernel_rfl) (fun _ _ _ h => h) (Or.inr ⟨by rfl, rfl⟩) (by assumption) ?_
            try simp only[Act.put,List.setIfInBounds_toArray,List.set_cons_zero,List.set_cons_succ]
            refine wpAnyH_take (i := 23) (oi := { dst := some 66, op := Op.fieldAddr 35 (Operand.tmp 65) 0, type := 0, pos := "laws.go:877", after := #[{ on := 22, ground := Ground.data }, { on := 17, ground := Ground.guard }], guard := some (17, false) }) (v := undef) rfl (by kernel_rfl) (by kernel_rfl) (by kernel_rfl) (fun _ _ _ h => h) (Or.inr ⟨by rfl, rfl⟩) (by assumption) ?_
            try simp only[Act.put,List.setIfInBounds_toArray,List.set_cons_zero,List.set_cons_succ]
            refine wpAnyH_take (i := 24) (oi := { dst := some 67, op := Op.load 2 (Operand.tmp 66), type := 2, pos := "laws.go:877", after := #[{ on := 23, ground := Ground.data }, { on := 17, ground := Ground.guard }], guard := some (17, false) }) (v := undef) rfl (by kernel_rfl) (by kernel_rfl) (by kernel_rfl) (fun _ _ _ h => h) (Or.inr ⟨by rfl, rfl⟩) (by assumption) ?_
            try simp only[Act.put,List.setIfInBounds_toArray,List.set_cons_zero,List.set_cons_succ]
            refine wpAnyH_take (i := 25) (oi := { dst := some 68, op := Op.fieldAddr 27 (Operand.tmp 4) 2, type := 0, pos := "laws.go:877", after := #[{ on := 17, ground := Ground.guard }], guard := some (17, false) }) (v := undef) rfl (by kernel_rfl) (by kernel_rfl) (by kernel_rfl) (fun _ _ _ h => h) (Or.inr ⟨by rfl, rfl⟩) (by assumption) ?_
            try simp only[Act.put,List.setIfInBounds_toArray,List.set_cons_zero,List.set_cons_succ]
            refine wpAnyH_take (i := 26) (oi := { dst := some 69, op := Op.load 25 (Operand.tmp 68), type := 25, pos := "laws.go:877", after := #[{ on := 25, ground := Ground.data }, { on := 17, ground := Ground.guard }], guard := some (17, false) }) (v := undef) rfl (by kernel_rfl) (by kernel_rfl) (by kernel_rfl) (fun _ _ _ h => h) (Or.inr ⟨by rfl, rfl⟩) (by assumption) ?_
            try simp only[Act.put,List.setIfInBounds_toArray,List.set_cons_zero,List.set_cons_succ]
            refine wpAnyH_take (i := 27) (oi := { dst := some 70, op := Op.move (Operand.tmp 7), type := 3, pos := "laws.go:877", after := #[{ on := 17, ground := Ground.guard }], guard := some (17, false) }) (v := undef) rfl (by kernel_rfl) (by kernel_rfl) (by kernel_rfl) (fun _ _ _ h => h) (Or.inr ⟨by rfl, rfl⟩) (by assumption) ?_
            try simp only[Act.put,List.setIfInBounds_toArray,List.set_cons_zero,List.set_cons_succ]
            refine wpAnyH_take (i := 28) (oi := { dst := some 71, op := Op.indexAddr 25 (Operand.tmp 69) (Operand.tmp 70), type := 0, pos := "laws.go:877", after := #[{ on := 26, ground := Ground.data }, { on := 27, ground := Ground.data }, { on := 17, ground := Ground.guard }], guard := some (17, false) }) (v := undef) rfl (by kernel_rfl) (by kernel_rfl) (by kernel_rfl) (fun _ _ _ h => h) (Or.inr ⟨by rfl, rfl⟩) (by assumption) ?_
            try simp only[Act.put,List.setIfInBounds_toArray,List.set_cons_zero,List.set_cons_succ]
            refine wpAnyH_take (i := 29) (oi := { dst := some 72, op := Op.fieldAddr 35 (Operand.tmp 71) 0, type := 0, pos := "laws.go:877", after := #[{ on := 28, ground := Ground.data }, { on := 17, ground := Ground.guard }], guard := some (17, false) }) (v := undef) rfl (by kernel_rfl) (by kernel_rfl) (by kernel_rfl) (fun _ _ _ h => h) (Or.inr ⟨by rfl, rfl⟩) (by assumption) ?_
            try simp only[Act.put,List.setIfInBounds_toArray,List.set_cons_zero,List.set_cons_succ]
            refine wpAnyH_take (i := 30) (oi := { dst := some 73, op := Op.load 2 (Operand.tmp 72), type := 2, pos := "laws.go:877", after := #[{ on := 29, ground := Ground.data }, { on := 17, ground := Ground.guard }], guard := some (17, false) }) (v := undef) rfl (by kernel_rfl) (by kernel_rfl) (by kernel_rfl) (fun _ _ _ h => h) (Or.inr ⟨by rfl, rfl⟩) (by assumption) ?_
            try simp only[Act.put,List.setIfInBounds_toArray,List.set_cons_zero,List.set_cons_succ]
            refine wpAnyH_take (i := 31) (oi := { dst := some 74, op := Op.binOp BinOp.lss 2 (Operand.tmp 67) (Operand.tmp 73) 2, type := 4, pos := "laws.go:877", after := #[{ on := 24, ground := Ground.data }, { on := 30, ground := Ground.data }, { on := 17, ground := Ground.guard }], guard := some (17, false) }) (v := undef) rfl (by kernel_rfl) (by kernel_rfl) (by kernel_rfl) (fun _ _ _ h => h) (Or.inr ⟨by rfl, rfl⟩) (by assumption) ?_
            try simp only[Act.put,List.setIfInBounds_toArray,List.set_cons_zero,List.set_cons_succ]
            refine wpAnyH_take (i := 32) (oi := { dst := some 75, op := Op.pick (Operand.tmp 60) (Operand.const (Value.bool true)) (Operand.tmp 74), type := 4, pos := "laws.go:877", after := #[{ on := 17, ground := Ground.data }, { on := 31, ground := Ground.data }, { on := 14, ground := Ground.guard }], guard := some (14, true) }) (v := ?vc32) rfl (by kernel_rfl) (by kernel_rfl) (by kernel_rfl) (fun _ _ _ h => h) (Or.inl ⟨by rfl, ?yc32⟩) (by assumption) ?rc32
            case yc32=>(intro w hSw;(try dsimp only at hSw);go_simp;(try with_reducible rfl))
            try simp only[Act.put,List.setIfInBounds_toArray,List.set_cons_zero,List.set_cons_succ]
            refine wpAnyH_take (i := 33) (oi := { dst := some 76, op := Op.pick (Operand.tmp 57) (Operand.tmp 75) (Operand.const (Value.bool false)), type := 4, pos := "laws.go:877", after := #[{ on := 14, ground := Ground.data }, { on := 32, ground := Ground.data }], guard := none }) (v := ?vc33) rfl (by kernel_rfl) (by kernel_rfl) (by kernel_rfl) (fun _ _ _ h => h) (Or.inl ⟨by rfl, ?yc33⟩) (by assumption) ?rc33
            case yc33=>(intro w hSw;(try dsimp only at hSw);go_simp;(try with_reducible rfl))
            try simp only[Act.put,List.setIfInBounds_toArray,List.set_cons_zero,List.set_cons_succ]
            refine wpAnyH_take (i := 34) (oi := { dst := some 6, op := Op.assign (Operand.tmp 76), type := 4, pos := "laws.go:877", after := #[{ on := 33, ground := Ground.data }, { on := 17, ground := Ground.chain }, { on := 0, ground := Ground.phase }, { on := 1, ground := Ground.phase }, { on := 2, ground := Ground.phase }, { on := 3, ground := Ground.phase }, { on := 4, ground := Ground.phase }, { on := 5, ground := Ground.phase }, { on := 6, ground := Ground.phase }, { on := 7, ground := Ground.phase }, { on := 8, ground := Ground.phase }, { on := 9, ground := Ground.phase }, { on := 10, ground := Ground.phase }, { on := 11, ground := Ground.phase }, { on := 12, ground := Ground.phase }, { on := 13, ground := Ground.phase }, { on := 14, ground := Ground.phase }, { on := 15, ground := Ground.phase }, { on := 16, ground := Ground.phase }, { on := 17, ground := Ground.phase }, { on := 18, ground := Ground.phase }, { on := 19, ground := Ground.phase }, { on := 20, ground := Ground.phase }, { on := 21, ground := Ground.phase }, { on := 22, ground := Ground.phase }, { on := 23, ground := Ground.phase }, { on := 24, ground := Ground.phase }, { on := 25, ground := Ground.phase }, { on := 26, ground := Ground.phase }, { on := 27, ground := Ground.phase }, { on := 28, ground := Ground.phase }, { on := 29, ground := Ground.phase }, { on := 30, ground := Ground.phase }, { on := 31, ground := Ground.phase }, { on := 32, ground := Ground.phase }, { on := 33, ground := Ground.phase }], guard := none }) (v := ?vc34) rfl (by kernel_rfl) (by kernel_rfl) (by kernel_rfl) (fun _ _ _ h => h) (Or.inl ⟨by rfl, ?yc34⟩) (by assumption) ?rc34
            case yc34=>(intro w hSw;(try dsimp only at hSw);go_simp;(try with_reducible rfl))
            try simp only[Act.put,List.setIfInBounds_toArray,List.set_cons_zero,List.set_cons_succ]
            refine wpAnyH_done (by kernel_rfl) ?_ _
            have B6:Hid (Below w3.heap.size w3 w5):=HBW.out.trans (B5.mono HBW.out.size)
            go_wp2
            go_roundw
            case rel=>exact⟨0+1,true,by omega,by go_num,rfl,⟨fun _=>HS1.out.1 trivial,fun _=>rfl⟩,B6⟩
            case measure=>simp[intOf];omega
        · obtain⟨q,rfl⟩:∃ q,j=q+1:=⟨j - 1,by omega⟩
          have hqv:q<vs.length:=by omega
          have HS1:Hid (judOk ks (k:Int) root vs (q+1+1)↔hv=true∧(vs[q]'hqv).nd<vs[q+1].nd):=⟨fun e=>⟨(HST.out.1 e).1,(HST.out.1 e).2 q rfl⟩,fun e=>HST.out.2 ⟨e.1,fun p hp=>by
           obtain rfl:p=q:=(by omega)
           exact e.2⟩⟩
          obtain⟨p0,hp0⟩:∃ pn:Int,wr.cell? ⟨g,q*4,none⟩=some (.int .i64 pn)∧pn=(vs[q]'hqv).nd:=by
           rcases (HI.out wr hw4).2 with h | ⟨b',off',e,h⟩
           · rw[h] at hjv;simp at hjv
           · cases e
             obtain⟨_,_,_,_,h0,_⟩:=h q hqv
             exact⟨_,by simpa using h0,rfl⟩
          obtain⟨e0,hpn⟩:=hp0
          rw[←hpn] at HS1
          obtain⟨⟨nd,i,os,ps⟩,hx⟩:∃ x,x=vs[q+1]:=⟨_,rfl⟩
          rw[←hx] at KV d0 d1 d2 d3 HS1
          simp only at KV d0 d1 d2 d3 HS1
          obtain⟨fj,hfj⟩:∃ fj,fj=(q+1)*4:=⟨_,rfl⟩
          rw[←hfj] at d0 d1 d2 d3
          have SX:Hid (∀ W,Below wr.heap.size wr W→W.cell? ⟨w1.heap.size,0,none⟩=some (.int .i64 (k:Int))∧W.cell? ⟨w1.heap.size,1,none⟩=some (.string ⟨root.toArray⟩)∧W.cell? ⟨w1.heap.size,2,none⟩=some (.slice (some ⟨g,0,none⟩) m c)∧W.cell? ⟨g,fj,none⟩=some (.int .i64 nd)∧W.cell? ⟨g,fj+1,none⟩=some (.int .i64 i)∧W.cell? ⟨g,fj+2,none⟩=some (.slice ao os.length co)∧W.cell? ⟨g,fj+3,none⟩=some (.slice ap ps.length cp)∧W.cell? ⟨g,q*4,none⟩=some (.int .i64 p0)):=fun W hW=>⟨(hW.cell (p:=⟨w1.heap.size,0,none⟩) (World.block_lt_of_cell? wr _ c0)).trans c0,(hW.cell (p:=⟨w1.heap.size,1,none⟩) (World.block_lt_of_cell? wr _ c1)).trans c1,(hW.cell (p:=⟨w1.heap.size,2,none⟩) (World.block_lt_of_cell? wr _ c2)).trans c2,(hW.cell (p:=⟨g,fj,none⟩) (World.block_lt_of_cell? wr _ d0)).trans d0,(hW.cell (p:=⟨g,fj+1,none⟩) (World.block_lt_of_cell? wr _ d1)).trans d1,(hW.cell (p:=⟨g,fj+2,none⟩) (World.block_lt_of_cell? wr _ d2)).trans d2,(hW.cell (p:=⟨g,fj+3,none⟩) (World.block_lt_of_cell? wr _ d3)).trans d3,(hW.cell (p:=⟨g,q*4,none⟩) (World.block_lt_of_cell? wr _ e0)).trans e0⟩
          rw[hfj] at SX d0 d1 d2 d3
          clear HST hhv hx s1 s2 HB hw4 hpn hfj
          have hq0:(0:Int)≤(q:Int):=by omega
          have hq1:(q:Int)<(m:Int):=by omega
          have hqj0:(0:Int)≤(q:Int)+1:=by omega
          have hqjm:(q:Int)+1<(m:Int):=by omega
          have hwq:IntKind.i64.wrap (q:Int)=(q:Int):=i64_wrap_small _ (by omega) (by omega)
          have hqz:((q:Int)+1 == 0)=false:=by rw[beq_eq_false_iff_ne];omega
          cases hv with
          | false =>
            have HS2:Hid (false=true↔judOk ks (k:Int) root vs (q+1+1)):=⟨fun h=>(by cases h),fun h=>(HS1.out.1 h).1⟩
            go_wp2_with fail
            refine wp_region_held_drew (S:=fun w'=>w'.cell? ⟨w1.heap.size,0,none⟩=some (.int .i64 (k:Int))∧w'.cell? ⟨w1.heap.size,1,none⟩=some (.string ⟨root.toArray⟩)∧w'.cell? ⟨w1.heap.size,2,none⟩=some (.slice (some ⟨g,0,none⟩) m c)∧w'.cell? ⟨g,(q+1)*4,none⟩=some (.int .i64 nd)∧w'.cell? ⟨g,(q+1)*4+1,none⟩=some (.int .i64 i)∧w'.cell? ⟨g,(q+1)*4+2,none⟩=some (.slice ao os.length co)∧w'.cell? ⟨g,(q+1)*4+3,none⟩=some (.slice ap ps.length cp)∧w'.cell? ⟨g,q*4,none⟩=some (.int .i64 p0)) (by kernel_rfl) (SX.out _ BD) (fun hHeld=>?_)
            refine wpAnyH_take (i := 0) (oi := { dst := some 43, op := Op.move (Operand.tmp 6), type := 4, pos := "laws.go:877", after := #[], guard := none }) (v := ?vd0) rfl (by kernel_rfl) (by kernel_rfl) (by kernel_rfl) (fun _ _ _ h => h) (Or.inl ⟨by rfl, ?yd0⟩) (by assumption) ?rd0
            case yd0=>(intro w hSw;(try dsimp only at hSw);go_simp;(try with_reducible rfl))
            try simp only[Act.put,List.setIfInBounds_toArray,List.set_cons_zero,List.set_cons_succ]
            refine wpAnyH_take (i := 1) (oi := { dst := some 44, op := Op.move (Operand.tmp 43), type := 4, pos := "laws.go:877", after := #[{ on := 0, ground := Ground.data }], guard := none }) (v := ?vd1) rfl (by kernel_rfl) (by kernel_rfl) (by kernel_rfl) (fun _ _ _ h => h) (Or.inl ⟨by rfl, ?yd1⟩) (by assumption) ?rd1
            case yd1=>(intro w hSw;(try dsimp only at hSw);go_simp;(try with_reducible rfl))
            try simp only[Act.put,List.setIfInBounds_toArray,List.set_cons_zero,List.set_cons_succ]
            refine wpAnyH_take (i := 2) (oi := { dst := some 45, op := Op.move (Operand.tmp 3), type := 24, pos := "laws.go:877", after := #[{ on := 1, ground := Ground.guard }], guard := some (1, true) }) (v := ?vd2) rfl (by kernel_rfl) (by kernel_rfl) (by kernel_rfl) (fun _ _ _ h => h) (Or.inl ⟨by rfl, ?yd2⟩) (by assumption) ?rd2
            case yd2=>(intro w hSw;(try dsimp only at hSw);go_simp;(try with_reducible rfl))
            try simp only[Act.put,List.setIfInBounds_toArray,List.set_cons_zero,List.set_cons_succ]
            refine wpAnyH_take (i := 3) (oi := { dst := some 46, op := Op.fieldAddr 27 (Operand.tmp 4) 0, type := 0, pos := "laws.go:877", after := #[{ on := 1, ground := Ground.guard }], guard := some (1, true) }) (v := ?vd3) rfl (by kernel_rfl) (by kernel_rfl) (by kernel_rfl) (fun _ _ _ h => h) (Or.inl ⟨by rfl, ?yd3⟩) (by assumption) ?rd3
            case yd3=>(intro w hSw;(try dsimp only at hSw);go_simp;(try with_reducible rfl))
            try simp only[Act.put,List.setIfInBounds_toArray,List.set_cons_zero,List.set_cons_succ]
            refine wpAnyH_take (i := 4) (oi := { dst := some 47, op := Op.load 2 (Operand.tmp 46), type := 2, pos := "laws.go:877", after := #[{ on := 3, ground := Ground.data }, { on := 1, ground := Ground.guard }], guard := some (1, true) }) (v := ?vd4) rfl (by kernel_rfl) (by kernel_rfl) (by kernel_rfl) (fun _ _ _ h => h) (Or.inl ⟨by rfl, ?yd4⟩) (by assumption) ?rd4
            case yd4=>(intro w hSw;(try dsimp only at hSw);go_simp;(try with_reducible rfl))
            try simp only[Act.put,List.setIfInBounds_toArray,List.set_cons_zero,List.set_cons_succ]
            refine wpAnyH_take (i := 5) (oi := { dst := some 48, op := Op.fieldAddr 27 (Operand.tmp 4) 1, type := 0, pos := "laws.go:877", after := #[{ on := 1, ground := Ground.guard }], guard := some (1, true) }) (v := ?vd5) rfl (by kernel_rfl) (by kernel_rfl) (by kernel_rfl) (fun _ _ _ h => h) (Or.inl ⟨by rfl, ?yd5⟩) (by assumption) ?rd5
            case yd5=>(intro w hSw;(try dsimp only at hSw);go_simp;(try with_reducible rfl))
            try simp only[Act.put,List.setIfInBounds_toArray,List.set_cons_zero,List.set_cons_succ]
            refine wpAnyH_take (i := 6) (oi := { dst := some 49, op := Op.load 9 (Operand.tmp 48), type := 9, pos := "laws.go:877", after := #[{ on := 5, ground := Ground.data }, { on := 1, ground := Ground.guard }], guard := some (1, true) }) (v := ?vd6) rfl (by kernel_rfl) (by kernel_rfl) (by kernel_rfl) (fun _ _ _ h => h) (Or.inl ⟨by rfl, ?yd6⟩) (by assumption) ?rd6
            case yd6=>(intro w hSw;(try dsimp only at hSw);go_simp;(try with_reducible rfl))
            try simp only[Act.put,List.setIfInBounds_toArray,List.set_cons_zero,List.set_cons_succ]
            refine wpAnyH_take (i := 7) (oi := { dst := some 50, op := Op.fieldAddr 27 (Operand.tmp 4) 2, type := 0, pos := "laws.go:877", after := #[{ on := 1, ground := Ground.guard }], guard := some (1, true) }) (v := ?vd7) rfl (by kernel_rfl) (by kernel_rfl) (by kernel_rfl) (fun _ _ _ h => h) (Or.inl ⟨by rfl, ?yd7⟩) (by assumption) ?rd7
            case yd7=>(intro w hSw;(try dsimp only at hSw);go_simp;(try with_reducible rfl))
            try simp only[Act.put,List.setIfInBounds_toArray,List.set_cons_zero,List.set_cons_succ]
            refine wpAnyH_take (i := 8) (oi := { dst := some 51, op := Op.load 25 (Operand.tmp 50), type := 25, pos := "laws.go:877", after := #[{ on := 7, ground := Ground.data }, { on := 1, ground := Ground.guard }], guard := some (1, true) }) (v := ?vd8) rfl (by kernel_rfl) (by kernel_rfl) (by kernel_rfl) (fun _ _ _ h => h) (Or.inl ⟨by rfl, ?yd8⟩) (by assumption) ?rd8
            case yd8=>(intro w hSw;(try dsimp only at hSw);go_simp;(try with_reducible rfl))
            try simp only[Act.put,List.setIfInBounds_toArray,List.set_cons_zero,List.set_cons_succ]
            refine wpAnyH_take (i := 9) (oi := { dst := some 52, op := Op.move (Operand.tmp 7), type := 3, pos := "laws.go:877", after := #[{ on := 1, ground := Ground.guard }], guard := some (1, true) }) (v := ?vd9) rfl (by kernel_rfl) (by kernel_rfl) (by kernel_rfl) (fun _ _ _ h => h) (Or.inl ⟨by rfl, ?yd9⟩) (by assumption) ?rd9
            case yd9=>(intro w hSw;(try dsimp only at hSw);go_simp;(try with_reducible rfl))
            try simp only[Act.put,List.setIfInBounds_toArray,List.set_cons_zero,List.set_cons_succ]
            refine wpAnyH_take (i := 10) (oi := { dst := some 53, op := Op.indexAddr 25 (Operand.tmp 51) (Operand.tmp 52), type := 0, pos := "laws.go:877", after := #[{ on := 8, ground := Ground.data }, { on := 9, ground := Ground.data }, { on := 1, ground := Ground.guard }], guard := some (1, true) }) (v := ?vd10) rfl (by kernel_rfl) (by kernel_rfl) (by kernel_rfl) (fun _ _ _ h => h) (Or.inl ⟨by rfl, ?yd10⟩) (by assumption) ?rd10
            case yd10=>(intro w hSw;(try dsimp only at hSw);go_simp;(try with_reducible rfl))
            try simp only[Act.put,List.setIfInBounds_toArray,List.set_cons_zero,List.set_cons_succ]
            refine wpAnyH_take (i := 11) (oi := { dst := some 54, op := Op.load 35 (Operand.tmp 53), type := 35, pos := "laws.go:877", after := #[{ on := 10, ground := Ground.data }, { on := 1, ground := Ground.guard }], guard := some (1, true) }) (v := ?vd11) rfl (by kernel_rfl) (by kernel_rfl) (by kernel_rfl) (fun _ _ _ h => h) (Or.inl ⟨by rfl, ?yd11⟩) (by assumption) ?rd11
            case yd11=>(intro w hSw;(try dsimp only at hSw);go_simp;(try with_reducible rfl))
            try simp only[Act.put,List.setIfInBounds_toArray,List.set_cons_zero,List.set_cons_succ]
            refine wpAnyH_ready (rs:=[12]) (by kernel_rfl) (by simp) ?_
            refine AllReadyH.cons (o := { dst := some 55, op := Op.call { callee := Callee.value (Operand.func 8), args := #[Operand.tmp 45, Operand.tmp 47, Operand.tmp 49, Operand.tmp 54], argTypes := #[24, 2, 9, 35] }, type := 4, pos := "laws.go:877", after := #[{ on := 2, ground := Ground.data }, { on := 4, ground := Ground.data }, { on := 6, ground := Ground.data }, { on := 11, ground := Ground.data }, { on := 1, ground := Ground.chain }, { on := 1, ground := Ground.guard }], guard := some (1, true) }) rfl (fun K hK => ?_) AllReadyH.nil
            go_simp
            go_at_call 8
            with_reducible refine KV.mono ?_
            rintro e w5 ⟨rfl,b5⟩
            have B5:=BD.trans (b5.mono BD.size)
            clear b5
            clear hHeld
            refine hK.out _ _ (SX.out _ B5) (fun hHeld=>?_)
            clear hK K
            try simp only[Act.put,List.setIfInBounds_toArray,List.set_cons_zero,List.set_cons_succ]
            refine wpAnyH_take (i := 13) (oi := { dst := some 56, op := Op.pick (Operand.tmp 44) (Operand.tmp 55) (Operand.const (Value.bool false)), type := 4, pos := "laws.go:877", after := #[{ on := 1, ground := Ground.data }, { on := 12, ground := Ground.data }], guard := none }) (v := ?vd13) rfl (by kernel_rfl) (by kernel_rfl) (by kernel_rfl) (fun _ _ _ h => h) (Or.inl ⟨by rfl, ?yd13⟩) (by assumption) ?rd13
            case yd13=>(intro w hSw;(try dsimp only at hSw);go_simp;(try with_reducible rfl))
            try simp only[Act.put,List.setIfInBounds_toArray,List.set_cons_zero,List.set_cons_succ]
            refine wpAnyH_take (i := 14) (oi := { dst := some 57, op := Op.move (Operand.tmp 56), type := 4, pos := "laws.go:877", after := #[{ on := 13, ground := Ground.data }, { on := 12, ground := Ground.chain }], guard := none }) (v := ?vd14) rfl (by kernel_rfl) (by kernel_rfl) (by kernel_rfl) (fun _ _ _ h => h) (Or.inl ⟨by rfl, ?yd14⟩) (by assumption) ?rd14
            case yd14=>(intro w hSw;(try dsimp only at hSw);go_simp;(try with_reducible rfl))
            try simp only[Act.put,List.setIfInBounds_toArray,List.set_cons_zero,List.set_cons_succ]
            refine wpAnyH_take (i := 15) (oi := { dst := some 58, op := Op.move (Operand.tmp 7), type := 3, pos := "laws.go:877", after := #[{ on := 14, ground := Ground.guard }], guard := some (14, true) }) (v := undef) rfl (by kernel_rfl) (by kernel_rfl) (by kernel_rfl) (fun _ _ _ h => h) (Or.inr ⟨by rfl, rfl⟩) (by assumption) ?_
            try simp only[Act.put,List.setIfInBounds_toArray,List.set_cons_zero,List.set_cons_succ]
            refine wpAnyH_take (i := 16) (oi := { dst := some 59, op := Op.binOp BinOp.eql 3 (Operand.tmp 58) (Operand.const (Value.int IntKind.i64 0)) 3, type := 4, pos := "laws.go:877", after := #[{ on := 15, ground := Ground.data }, { on := 14, ground := Ground.guard }], guard := some (14, true) }) (v := undef) rfl (by kernel_rfl) (by kernel_rfl) (by kernel_rfl) (fun _ _ _ h => h) (Or.inr ⟨by rfl, rfl⟩) (by assumption) ?_
            try simp only[Act.put,List.setIfInBounds_toArray,List.set_cons_zero,List.set_cons_succ]
            refine wpAnyH_take (i := 17) (oi := { dst := some 60, op := Op.move (Operand.tmp 59), type := 4, pos := "laws.go:877", after := #[{ on := 16, ground := Ground.data }, { on := 14, ground := Ground.chain }, { on := 14, ground := Ground.guard }], guard := some (14, true) }) (v := undef) rfl (by kernel_rfl) (by kernel_rfl) (by kernel_rfl) (fun _ _ _ h => h) (Or.inr ⟨by rfl, rfl⟩) (by assumption) ?_
            try simp only[Act.put,List.setIfInBounds_toArray,List.set_cons_zero,List.set_cons_succ]
            refine wpAnyH_take (i := 18) (oi := { dst := some 61, op := Op.fieldAddr 27 (Operand.tmp 4) 2, type := 0, pos := "laws.go:877", after := #[{ on := 17, ground := Ground.guard }], guard := some (17, false) }) (v := undef) rfl (by kernel_rfl) (by kernel_rfl) (by kernel_rfl) (fun _ _ _ h => h) (Or.inr ⟨by rfl, rfl⟩) (by assumption) ?_
            try simp only[Act.put,List.setIfInBounds_toArray,List.set_cons_zero,List.set_cons_succ]
            refine wpAnyH_take (i := 19) (oi := { dst := some 62, op := Op.load 25 (Operand.tmp 61), type := 25, pos := "laws.go:877", after := #[{ on := 18, ground := Ground.data }, { on := 17, ground := Ground.guard }], guard := some (17, false) }) (v := undef) rfl (by kernel_rfl) (by kernel_rfl) (by kernel_rfl) (fun _ _ _ h => h) (Or.inr ⟨by rfl, rfl⟩) (by assumption) ?_
            try simp only[Act.put,List.setIfInBounds_toArray,List.set_cons_zero,List.set_cons_succ]
            refine wpAnyH_take (i := 20) (oi := { dst := some 63, op := Op.move (Operand.tmp 7), type := 3, pos := "laws.go:877", after := #[{ on := 17, ground := Ground.guard }], guard := some (17, false) }) (v := undef) rfl (by kernel_rfl) (by kernel_rfl) (by kernel_rfl) (fun _ _ _ h => h) (Or.inr ⟨by rfl, rfl⟩) (by assumption) ?_
            try simp only[Act.put,List.setIfInBounds_toArray,List.set_cons_zero,List.set_cons_succ]
            refine wpAnyH_take (i := 21) (oi := { dst := some 64, op := Op.binOp BinOp.sub 3 (Operand.tmp 63) (Operand.const (Value.int IntKind.i64 1)) 3, type := 3, pos := "laws.go:877", after := #[{ on := 20, ground := Ground.data }, { on := 17, ground := Ground.guard }], guard := some (17, false) }) (v := undef) rfl (by kernel_rfl) (by kernel_rfl) (by kernel_rfl) (fun _ _ _ h => h) (Or.inr ⟨by rfl, rfl⟩) (by assumption) ?_
            try simp only[Act.put,List.setIfInBounds_toArray,List.set_cons_zero,List.set_cons_succ]
            refine wpAnyH_take (i := 22) (oi := { dst := some 65, op := Op.indexAddr 25 (Operand.tmp 62) (Operand.tmp 64), type := 0, pos := "laws.go:877", after := #[{ on := 19, ground := Ground.data }, { on := 21, ground := Ground.data }, { on := 17, ground := Ground.guard }], guard := some (17, false) }) (v := undef) rfl (by kernel_rfl) (by kernel_rfl) (by kernel_rfl) (fun _ _ _ h => h) (Or.inr ⟨by rfl, rfl⟩) (by assumption) ?_
            try simp only[Act.put,List.setIfInBounds_toArray,List.set_cons_zero,List.set_cons_succ]
            refine wpAnyH_take (i := 23) (oi := { dst := some 66, op := Op.fieldAddr 35 (Operand.tmp 65) 0, type := 0, pos := "laws.go:877", after := #[{ on := 22, ground := Ground.data }, { on := 17, ground := Ground.guard }], guard := some (17, false) }) (v := undef) rfl (by kernel_rfl) (by kernel_rfl) (by kernel_rfl) (fun _ _ _ h => h) (Or.inr ⟨by rfl, rfl⟩) (by assumption) ?_
            try simp only[Act.put,List.setIfInBounds_toArray,List.set_cons_zero,List.set_cons_succ]
            refine wpAnyH_take (i := 24) (oi := { dst := some 67, op := Op.load 2 (Operand.tmp 66), type := 2, pos := "laws.go:877", after := #[{ on := 23, ground := Ground.data }, { on := 17, ground := Ground.guard }], guard := some (17, false) }) (v := undef) rfl (by kernel_rfl) (by kernel_rfl) (by kernel_rfl) (fun _ _ _ h => h) (Or.inr ⟨by rfl, rfl⟩) (by assumption) ?_
            try simp only[Act.put,List.setIfInBounds_toArray,List.set_cons_zero,List.set_cons_succ]
            refine wpAnyH_take (i := 25) (oi := { dst := some 68, op := Op.fieldAddr 27 (Operand.tmp 4) 2, type := 0, pos := "laws.go:877", after := #[{ on := 17, ground := Ground.guard }], guard := some (17, false) }) (v := undef) rfl (by kernel_rfl) (by kernel_rfl) (by kernel_rfl) (fun _ _ _ h => h) (Or.inr ⟨by rfl, rfl⟩) (by assumption) ?_
            try simp only[Act.put,List.setIfInBounds_toArray,List.set_cons_zero,List.set_cons_succ]
            refine wpAnyH_take (i := 26) (oi := { dst := some 69, op := Op.load 25 (Operand.tmp 68), type := 25, pos := "laws.go:877", after := #[{ on := 25, ground := Ground.data }, { on := 17, ground := Ground.guard }], guard := some (17, false) }) (v := undef) rfl (by kernel_rfl) (by kernel_rfl) (by kernel_rfl) (fun _ _ _ h => h) (Or.inr ⟨by rfl, rfl⟩) (by assumption) ?_
            try simp only[Act.put,List.setIfInBounds_toArray,List.set_cons_zero,List.set_cons_succ]
            refine wpAnyH_take (i := 27) (oi := { dst := some 70, op := Op.move (Operand.tmp 7), type := 3, pos := "laws.go:877", after := #[{ on := 17, ground := Ground.guard }], guard := some (17, false) }) (v := undef) rfl (by kernel_rfl) (by kernel_rfl) (by kernel_rfl) (fun _ _ _ h => h) (Or.inr ⟨by rfl, rfl⟩) (by assumption) ?_
            try simp only[Act.put,List.setIfInBounds_toArray,List.set_cons_zero,List.set_cons_succ]
            refine wpAnyH_take (i := 28) (oi := { dst := some 71, op := Op.indexAddr 25 (Operand.tmp 69) (Operand.tmp 70), type := 0, pos := "laws.go:877", after := #[{ on := 26, ground := Ground.data }, { on := 27, ground := Ground.data }, { on := 17, ground := Ground.guard }], guard := some (17, false) }) (v := undef) rfl (by kernel_rfl) (by kernel_rfl) (by kernel_rfl) (fun _ _ _ h => h) (Or.inr ⟨by rfl, rfl⟩) (by assumption) ?_
            try simp only[Act.put,List.setIfInBounds_toArray,List.set_cons_zero,List.set_cons_succ]
            refine wpAnyH_take (i := 29) (oi := { dst := some 72, op := Op.fieldAddr 35 (Operand.tmp 71) 0, type := 0, pos := "laws.go:877", after := #[{ on := 28, ground := Ground.data }, { on := 17, ground := Ground.guard }], guard := some (17, false) }) (v := undef) rfl (by kernel_rfl) (by kernel_rfl) (by kernel_rfl) (fun _ _ _ h => h) (Or.inr ⟨by rfl, rfl⟩) (by assumption) ?_
            try simp only[Act.put,List.setIfInBounds_toArray,List.set_cons_zero,List.set_cons_succ]
            refine wpAnyH_take (i := 30) (oi := { dst := some 73, op := Op.load 2 (Operand.tmp 72), type := 2, pos := "laws.go:877", after := #[{ on := 29, ground := Ground.data }, { on := 17, ground := Ground.guard }], guard := some (17, false) }) (v := undef) rfl (by kernel_rfl) (by kernel_rfl) (by kernel_rfl) (fun _ _ _ h => h) (Or.inr ⟨by rfl, rfl⟩) (by assumption) ?_
            try simp only[Act.put,List.setIfInBounds_toArray,List.set_cons_zero,List.set_cons_succ]
            refine wpAnyH_take (i := 31) (oi := { dst := some 74, op := Op.binOp BinOp.lss 2 (Operand.tmp 67) (Operand.tmp 73) 2, type := 4, pos := "laws.go:877", after := #[{ on := 24, ground := Ground.data }, { on := 30, ground := Ground.data }, { on := 17, ground := Ground.guard }], guard := some (17, false) }) (v := undef) rfl (by kernel_rfl) (by kernel_rfl) (by kernel_rfl) (fun _ _ _ h => h) (Or.inr ⟨by rfl, rfl⟩) (by assumption) ?_
            try simp only[Act.put,List.setIfInBounds_toArray,List.set_cons_zero,List.set_cons_succ]
            refine wpAnyH_take (i := 32) (oi := { dst := some 75, op := Op.pick (Operand.tmp 60) (Operand.const (Value.bool true)) (Operand.tmp 74), type := 4, pos := "laws.go:877", after := #[{ on := 17, ground := Ground.data }, { on := 31, ground := Ground.data }, { on := 14, ground := Ground.guard }], guard := some (14, true) }) (v := undef) rfl (by kernel_rfl) (by kernel_rfl) (by kernel_rfl) (fun _ _ _ h => h) (Or.inr ⟨by rfl, rfl⟩) (by assumption) ?_
            try simp only[Act.put,List.setIfInBounds_toArray,List.set_cons_zero,List.set_cons_succ]
            refine wpAnyH_take (i := 33) (oi := { dst := some 76, op := Op.pick (Operand.tmp 57) (Operand.tmp 75) (Operand.const (Value.bool false)), type := 4, pos := "laws.go:877", after := #[{ on := 14, ground := Ground.data }, { on := 32, ground := Ground.data }], guard := none }) (v := ?vd33) rfl (by kernel_rfl) (by kernel_rfl) (by kernel_rfl) (fun _ _ _ h => h) (Or.inl ⟨by rfl, ?yd33⟩) (by assumption) ?rd33
            case yd33=>(intro w hSw;(try dsimp only at hSw);go_simp;(try with_reducible rfl))
            try simp only[Act.put,List.setIfInBounds_toArray,List.set_cons_zero,List.set_cons_succ]
            refine wpAnyH_take (i := 34) (oi := { dst := some 6, op := Op.assign (Operand.tmp 76), type := 4, pos := "laws.go:877", after := #[{ on := 33, ground := Ground.data }, { on := 17, ground := Ground.chain }, { on := 0, ground := Ground.phase }, { on := 1, ground := Ground.phase }, { on := 2, ground := Ground.phase }, { on := 3, ground := Ground.phase }, { on := 4, ground := Ground.phase }, { on := 5, ground := Ground.phase }, { on := 6, ground := Ground.phase }, { on := 7, ground := Ground.phase }, { on := 8, ground := Ground.phase }, { on := 9, ground := Ground.phase }, { on := 10, ground := Ground.phase }, { on := 11, ground := Ground.phase }, { on := 12, ground := Ground.phase }, { on := 13, ground := Ground.phase }, { on := 14, ground := Ground.phase }, { on := 15, ground := Ground.phase }, { on := 16, ground := Ground.phase }, { on := 17, ground := Ground.phase }, { on := 18, ground := Ground.phase }, { on := 19, ground := Ground.phase }, { on := 20, ground := Ground.phase }, { on := 21, ground := Ground.phase }, { on := 22, ground := Ground.phase }, { on := 23, ground := Ground.phase }, { on := 24, ground := Ground.phase }, { on := 25, ground := Ground.phase }, { on := 26, ground := Ground.phase }, { on := 27, ground := Ground.phase }, { on := 28, ground := Ground.phase }, { on := 29, ground := Ground.phase }, { on := 30, ground := Ground.phase }, { on := 31, ground := Ground.phase }, { on := 32, ground := Ground.phase }, { on := 33, ground := Ground.phase }], guard := none }) (v := ?vd34) rfl (by kernel_rfl) (by kernel_rfl) (by kernel_rfl) (fun _ _ _ h => h) (Or.inl ⟨by rfl, ?yd34⟩) (by assumption) ?rd34
            case yd34=>(intro w hSw;(try dsimp only at hSw);go_simp;(try with_reducible rfl))
            try simp only[Act.put,List.setIfInBounds_toArray,List.set_cons_zero,List.set_cons_succ]
            refine wpAnyH_done (by kernel_rfl) ?_ _
            have B6:Hid (Below w3.heap.size w3 w5):=HBW.out.trans (B5.mono HBW.out.size)
            go_wp2
            go_roundw
            case rel=>exact⟨q+1+1,false,by omega,by go_num,rfl,HS2,B6⟩
            case measure=>simp[intOf];omega
          | true =>
            by_cases hr:p0<nd
            · have HS2:Hid (true=true↔judOk ks (k:Int) root vs (q+1+1)):=⟨fun _=>HS1.out.2 ⟨rfl,hr⟩,fun _=>rfl⟩
              have hrb:decide (p0<nd)=true:=decide_eq_true hr
              go_wp2_with fail
              refine wp_region_held_drew (S:=fun w'=>w'.cell? ⟨w1.heap.size,0,none⟩=some (.int .i64 (k:Int))∧w'.cell? ⟨w1.heap.size,1,none⟩=some (.string ⟨root.toArray⟩)∧w'.cell? ⟨w1.heap.size,2,none⟩=some (.slice (some ⟨g,0,none⟩) m c)∧w'.cell? ⟨g,(q+1)*4,none⟩=some (.int .i64 nd)∧w'.cell? ⟨g,(q+1)*4+1,none⟩=some (.int .i64 i)∧w'.cell? ⟨g,(q+1)*4+2,none⟩=some (.slice ao os.length co)∧w'.cell? ⟨g,(q+1)*4+3,none⟩=some (.slice ap ps.length cp)∧w'.cell? ⟨g,q*4,none⟩=some (.int .i64 p0)) (by kernel_rfl) (SX.out _ BD) (fun hHeld=>?_)
              refine wpAnyH_take (i := 0) (oi := { dst := some 43, op := Op.move (Operand.tmp 6), type := 4, pos := "laws.go:877", after := #[], guard := none }) (v := ?ve0) rfl (by kernel_rfl) (by kernel_rfl) (by kernel_rfl) (fun _ _ _ h => h) (Or.inl ⟨by rfl, ?ye0⟩) (by assumption) ?re0
              case ye0=>(intro w hSw;(try dsimp only at hSw);go_simp;(try with_reducible rfl))
              try simp only[Act.put,List.setIfInBounds_toArray,List.set_cons_zero,List.set_cons_succ]
              refine wpAnyH_take (i := 1) (oi := { dst := some 44, op := Op.move (Operand.tmp 43), type := 4, pos := "laws.go:877", after := #[{ on := 0, ground := Ground.data }], guard := none }) (v := ?ve1) rfl (by kernel_rfl) (by kernel_rfl) (by kernel_rfl) (fun _ _ _ h => h) (Or.inl ⟨by rfl, ?ye1⟩) (by assumption) ?re1
              case ye1=>(intro w hSw;(try dsimp only at hSw);go_simp;(try with_reducible rfl))
              try simp only[Act.put,List.setIfInBounds_toArray,List.set_cons_zero,List.set_cons_succ]
              refine wpAnyH_take (i := 2) (oi := { dst := some 45, op := Op.move (Operand.tmp 3), type := 24, pos := "laws.go:877", after := #[{ on := 1, ground := Ground.guard }], guard := some (1, true) }) (v := ?ve2) rfl (by kernel_rfl) (by kernel_rfl) (by kernel_rfl) (fun _ _ _ h => h) (Or.inl ⟨by rfl, ?ye2⟩) (by assumption) ?re2
              case ye2=>(intro w hSw;(try dsimp only at hSw);go_simp;(try with_reducible rfl))
              try simp only[Act.put,List.setIfInBounds_toArray,List.set_cons_zero,List.set_cons_succ]
              refine wpAnyH_take (i := 3) (oi := { dst := some 46, op := Op.fieldAddr 27 (Operand.tmp 4) 0, type := 0, pos := "laws.go:877", after := #[{ on := 1, ground := Ground.guard }], guard := some (1, true) }) (v := ?ve3) rfl (by kernel_rfl) (by kernel_rfl) (by kernel_rfl) (fun _ _ _ h => h) (Or.inl ⟨by rfl, ?ye3⟩) (by assumption) ?re3
              case ye3=>(intro w hSw;(try dsimp only at hSw);go_simp;(try with_reducible rfl))
              try simp only[Act.put,List.setIfInBounds_toArray,List.set_cons_zero,List.set_cons_succ]
              refine wpAnyH_take (i := 4) (oi := { dst := some 47, op := Op.load 2 (Operand.tmp 46), type := 2, pos := "laws.go:877", after := #[{ on := 3, ground := Ground.data }, { on := 1, ground := Ground.guard }], guard := some (1, true) }) (v := ?ve4) rfl (by kernel_rfl) (by kernel_rfl) (by kernel_rfl) (fun _ _ _ h => h) (Or.inl ⟨by rfl, ?ye4⟩) (by assumption) ?re4
              case ye4=>(intro w hSw;(try dsimp only at hSw);go_simp;(try with_reducible rfl))
              try simp only[Act.put,List.setIfInBounds_toArray,List.set_cons_zero,List.set_cons_succ]
              refine wpAnyH_take (i := 5) (oi := { dst := some 48, op := Op.fieldAddr 27 (Operand.tmp 4) 1, type := 0, pos := "laws.go:877", after := #[{ on := 1, ground := Ground.guard }], guard := some (1, true) }) (v := ?ve5) rfl (by kernel_rfl) (by kernel_rfl) (by kernel_rfl) (fun _ _ _ h => h) (Or.inl ⟨by rfl, ?ye5⟩) (by assumption) ?re5
              case ye5=>(intro w hSw;(try dsimp only at hSw);go_simp;(try with_reducible rfl))
              try simp only[Act.put,List.setIfInBounds_toArray,List.set_cons_zero,List.set_cons_succ]
              refine wpAnyH_take (i := 6) (oi := { dst := some 49, op := Op.load 9 (Operand.tmp 48), type := 9, pos := "laws.go:877", after := #[{ on := 5, ground := Ground.data }, { on := 1, ground := Ground.guard }], guard := some (1, true) }) (v := ?ve6) rfl (by kernel_rfl) (by kernel_rfl) (by kernel_rfl) (fun _ _ _ h => h) (Or.inl ⟨by rfl, ?ye6⟩) (by assumption) ?re6
              case ye6=>(intro w hSw;(try dsimp only at hSw);go_simp;(try with_reducible rfl))
              try simp only[Act.put,List.setIfInBounds_toArray,List.set_cons_zero,List.set_cons_succ]
              refine wpAnyH_take (i := 7) (oi := { dst := some 50, op := Op.fieldAddr 27 (Operand.tmp 4) 2, type := 0, pos := "laws.go:877", after := #[{ on := 1, ground := Ground.guard }], guard := some (1, true) }) (v := ?ve7) rfl (by kernel_rfl) (by kernel_rfl) (by kernel_rfl) (fun _ _ _ h => h) (Or.inl ⟨by rfl, ?ye7⟩) (by assumption) ?re7
              case ye7=>(intro w hSw;(try dsimp only at hSw);go_simp;(try with_reducible rfl))
              try simp only[Act.put,List.setIfInBounds_toArray,List.set_cons_zero,List.set_cons_succ]
              refine wpAnyH_take (i := 8) (oi := { dst := some 51, op := Op.load 25 (Operand.tmp 50), type := 25, pos := "laws.go:877", after := #[{ on := 7, ground := Ground.data }, { on := 1, ground := Ground.guard }], guard := some (1, true) }) (v := ?ve8) rfl (by kernel_rfl) (by kernel_rfl) (by kernel_rfl) (fun _ _ _ h => h) (Or.inl ⟨by rfl, ?ye8⟩) (by assumption) ?re8
              case ye8=>(intro w hSw;(try dsimp only at hSw);go_simp;(try with_reducible rfl))
              try simp only[Act.put,List.setIfInBounds_toArray,List.set_cons_zero,List.set_cons_succ]
              refine wpAnyH_take (i := 9) (oi := { dst := some 52, op := Op.move (Operand.tmp 7), type := 3, pos := "laws.go:877", after := #[{ on := 1, ground := Ground.guard }], guard := some (1, true) }) (v := ?ve9) rfl (by kernel_rfl) (by kernel_rfl) (by kernel_rfl) (fun _ _ _ h => h) (Or.inl ⟨by rfl, ?ye9⟩) (by assumption) ?re9
              case ye9=>(intro w hSw;(try dsimp only at hSw);go_simp;(try with_reducible rfl))
              try simp only[Act.put,List.setIfInBounds_toArray,List.set_cons_zero,List.set_cons_succ]
              refine wpAnyH_take (i := 10) (oi := { dst := some 53, op := Op.indexAddr 25 (Operand.tmp 51) (Operand.tmp 52), type := 0, pos := "laws.go:877", after := #[{ on := 8, ground := Ground.data }, { on := 9, ground := Ground.data }, { on := 1, ground := Ground.guard }], guard := some (1, true) }) (v := ?ve10) rfl (by kernel_rfl) (by kernel_rfl) (by kernel_rfl) (fun _ _ _ h => h) (Or.inl ⟨by rfl, ?ye10⟩) (by assumption) ?re10
              case ye10=>(intro w hSw;(try dsimp only at hSw);go_simp;(try with_reducible rfl))
              try simp only[Act.put,List.setIfInBounds_toArray,List.set_cons_zero,List.set_cons_succ]
              refine wpAnyH_take (i := 11) (oi := { dst := some 54, op := Op.load 35 (Operand.tmp 53), type := 35, pos := "laws.go:877", after := #[{ on := 10, ground := Ground.data }, { on := 1, ground := Ground.guard }], guard := some (1, true) }) (v := ?ve11) rfl (by kernel_rfl) (by kernel_rfl) (by kernel_rfl) (fun _ _ _ h => h) (Or.inl ⟨by rfl, ?ye11⟩) (by assumption) ?re11
              case ye11=>(intro w hSw;(try dsimp only at hSw);go_simp;(try with_reducible rfl))
              try simp only[Act.put,List.setIfInBounds_toArray,List.set_cons_zero,List.set_cons_succ]
              refine wpAnyH_ready (rs:=[12]) (by kernel_rfl) (by simp) ?_
              refine AllReadyH.cons (o := { dst := some 55, op := Op.call { callee := Callee.value (Operand.func 8), args := #[Operand.tmp 45, Operand.tmp 47, Operand.tmp 49, Operand.tmp 54], argTypes := #[24, 2, 9, 35] }, type := 4, pos := "laws.go:877", after := #[{ on := 2, ground := Ground.data }, { on := 4, ground := Ground.data }, { on := 6, ground := Ground.data }, { on := 11, ground := Ground.data }, { on := 1, ground := Ground.chain }, { on := 1, ground := Ground.guard }], guard := some (1, true) }) rfl (fun K hK => ?_) AllReadyH.nil
              go_simp
              go_at_call 8
              with_reducible refine KV.mono ?_
              rintro e w5 ⟨rfl,b5⟩
              have B5:=BD.trans (b5.mono BD.size)
              clear b5
              clear hHeld
              refine hK.out _ _ (SX.out _ B5) (fun hHeld=>?_)
              clear hK K
              try simp only[Act.put,List.setIfInBounds_toArray,List.set_cons_zero,List.set_cons_succ]
              refine wpAnyH_take (i := 13) (oi := { dst := some 56, op := Op.pick (Operand.tmp 44) (Operand.tmp 55) (Operand.const (Value.bool false)), type := 4, pos := "laws.go:877", after := #[{ on := 1, ground := Ground.data }, { on := 12, ground := Ground.data }], guard := none }) (v := ?ve13) rfl (by kernel_rfl) (by kernel_rfl) (by kernel_rfl) (fun _ _ _ h => h) (Or.inl ⟨by rfl, ?ye13⟩) (by assumption) ?re13
              case ye13=>(intro w hSw;(try dsimp only at hSw);go_simp;(try with_reducible rfl))
              try simp only[Act.put,List.setIfInBounds_toArray,List.set_cons_zero,List.set_cons_succ]
              refine wpAnyH_take (i := 14) (oi := { dst := some 57, op := Op.move (Operand.tmp 56), type := 4, pos := "laws.go:877", after := #[{ on := 13, ground := Ground.data }, { on := 12, ground := Ground.chain }], guard := none }) (v := ?ve14) rfl (by kernel_rfl) (by kernel_rfl) (by kernel_rfl) (fun _ _ _ h => h) (Or.inl ⟨by rfl, ?ye14⟩) (by assumption) ?re14
              case ye14=>(intro w hSw;(try dsimp only at hSw);go_simp;(try with_reducible rfl))
              try simp only[Act.put,List.setIfInBounds_toArray,List.set_cons_zero,List.set_cons_succ]
              refine wpAnyH_take (i := 15) (oi := { dst := some 58, op := Op.move (Operand.tmp 7), type := 3, pos := "laws.go:877", after := #[{ on := 14, ground := Ground.guard }], guard := some (14, true) }) (v := ?ve15) rfl (by kernel_rfl) (by kernel_rfl) (by kernel_rfl) (fun _ _ _ h => h) (Or.inl ⟨by rfl, ?ye15⟩) (by assumption) ?re15
              case ye15=>(intro w hSw;(try dsimp only at hSw);go_simp;(try with_reducible rfl))
              try simp only[Act.put,List.setIfInBounds_toArray,List.set_cons_zero,List.set_cons_succ]
              refine wpAnyH_take (i := 16) (oi := { dst := some 59, op := Op.binOp BinOp.eql 3 (Operand.tmp 58) (Operand.const (Value.int IntKind.i64 0)) 3, type := 4, pos := "laws.go:877", after := #[{ on := 15, ground := Ground.data }, { on := 14, ground := Ground.guard }], guard := some (14, true) }) (v := ?ve16) rfl (by kernel_rfl) (by kernel_rfl) (by kernel_rfl) (fun _ _ _ h => h) (Or.inl ⟨by rfl, ?ye16⟩) (by assumption) ?re16
              case ye16=>(intro w hSw;(try dsimp only at hSw);go_simp;(try with_reducible rfl))
              try simp only[Act.put,List.setIfInBounds_toArray,List.set_cons_zero,List.set_cons_succ]
              refine wpAnyH_take (i := 17) (oi := { dst := some 60, op := Op.move (Operand.tmp 59), type := 4, pos := "laws.go:877", after := #[{ on := 16, ground := Ground.data }, { on := 14, ground := Ground.chain }, { on := 14, ground := Ground.guard }], guard := some (14, true) }) (v := ?ve17) rfl (by kernel_rfl) (by kernel_rfl) (by kernel_rfl) (fun _ _ _ h => h) (Or.inl ⟨by rfl, ?ye17⟩) (by assumption) ?re17
              case ye17=>(intro w hSw;(try dsimp only at hSw);go_simp;(try with_reducible rfl))
              try simp only[Act.put,List.setIfInBounds_toArray,List.set_cons_zero,List.set_cons_succ]
              refine wpAnyH_take (i := 18) (oi := { dst := some 61, op := Op.fieldAddr 27 (Operand.tmp 4) 2, type := 0, pos := "laws.go:877", after := #[{ on := 17, ground := Ground.guard }], guard := some (17, false) }) (v := ?ve18) rfl (by kernel_rfl) (by kernel_rfl) (by kernel_rfl) (fun _ _ _ h => h) (Or.inl ⟨by rfl, ?ye18⟩) (by assumption) ?re18
              case ye18=>(intro w hSw;(try dsimp only at hSw);go_simp;(try with_reducible rfl))
              try simp only[Act.put,List.setIfInBounds_toArray,List.set_cons_zero,List.set_cons_succ]
              refine wpAnyH_take (i := 19) (oi := { dst := some 62, op := Op.load 25 (Operand.tmp 61), type := 25, pos := "laws.go:877", after := #[{ on := 18, ground := Ground.data }, { on := 17, ground := Ground.guard }], guard := some (17, false) }) (v := ?ve19) rfl (by kernel_rfl) (by kernel_rfl) (by kernel_rfl) (fun _ _ _ h => h) (Or.inl ⟨by rfl, ?ye19⟩) (by assumption) ?re19
              case ye19=>(intro w hSw;(try dsimp only at hSw);go_simp;(try with_reducible rfl))
              try simp only[Act.put,List.setIfInBounds_toArray,List.set_cons_zero,List.set_cons_succ]
              refine wpAnyH_take (i := 20) (oi := { dst := some 63, op := Op.move (Operand.tmp 7), type := 3, pos := "laws.go:877", after := #[{ on := 17, ground := Ground.guard }], guard := some (17, false) }) (v := ?ve20) rfl (by kernel_rfl) (by kernel_rfl) (by kernel_rfl) (fun _ _ _ h => h) (Or.inl ⟨by rfl, ?ye20⟩) (by assumption) ?re20
              case ye20=>(intro w hSw;(try dsimp only at hSw);go_simp;(try with_reducible rfl))
              try simp only[Act.put,List.setIfInBounds_toArray,List.set_cons_zero,List.set_cons_succ]
              refine wpAnyH_take (i := 21) (oi := { dst := some 64, op := Op.binOp BinOp.sub 3 (Operand.tmp 63) (Operand.const (Value.int IntKind.i64 1)) 3, type := 3, pos := "laws.go:877", after := #[{ on := 20, ground := Ground.data }, { on := 17, ground := Ground.guard }], guard := some (17, false) }) (v := ?ve21) rfl (by kernel_rfl) (by kernel_rfl) (by kernel_rfl) (fun _ _ _ h => h) (Or.inl ⟨by rfl, ?ye21⟩) (by assumption) ?re21
              case ye21=>(intro w hSw;(try dsimp only at hSw);go_simp;(try with_reducible rfl))
              try simp only[Act.put,List.setIfInBounds_toArray,List.set_cons_zero,List.set_cons_succ]
              refine wpAnyH_take (i := 22) (oi := { dst := some 65, op := Op.indexAddr 25 (Operand.tmp 62) (Operand.tmp 64), type := 0, pos := "laws.go:877", after := #[{ on := 19, ground := Ground.data }, { on := 21, ground := Ground.data }, { on := 17, ground := Ground.guard }], guard := some (17, false) }) (v := ?ve22) rfl (by kernel_rfl) (by kernel_rfl) (by kernel_rfl) (fun _ _ _ h => h) (Or.inl ⟨by rfl, ?ye22⟩) (by assumption) ?re22
              case ye22=>(intro w hSw;(try dsimp only at hSw);go_simp;(try with_reducible rfl))
              try simp only[Act.put,List.setIfInBounds_toArray,List.set_cons_zero,List.set_cons_succ]
              refine wpAnyH_take (i := 23) (oi := { dst := some 66, op := Op.fieldAddr 35 (Operand.tmp 65) 0, type := 0, pos := "laws.go:877", after := #[{ on := 22, ground := Ground.data }, { on := 17, ground := Ground.guard }], guard := some (17, false) }) (v := ?ve23) rfl (by kernel_rfl) (by kernel_rfl) (by kernel_rfl) (fun _ _ _ h => h) (Or.inl ⟨by rfl, ?ye23⟩) (by assumption) ?re23
              case ye23=>(intro w hSw;(try dsimp only at hSw);go_simp;(try with_reducible rfl))
              try simp only[Act.put,List.setIfInBounds_toArray,List.set_cons_zero,List.set_cons_succ]
              refine wpAnyH_take (i := 24) (oi := { dst := some 67, op := Op.load 2 (Operand.tmp 66), type := 2, pos := "laws.go:877", after := #[{ on := 23, ground := Ground.data }, { on := 17, ground := Ground.guard }], guard := some (17, false) }) (v := ?ve24) rfl (by kernel_rfl) (by kernel_rfl) (by kernel_rfl) (fun _ _ _ h => h) (Or.inl ⟨by rfl, ?ye24⟩) (by assumption) ?re24
              case ye24=>(intro w hSw;(try dsimp only at hSw);go_simp;(try with_reducible rfl))
              try simp only[Act.put,List.setIfInBounds_toArray,List.set_cons_zero,List.set_cons_succ]
              refine wpAnyH_take (i := 25) (oi := { dst := some 68, op := Op.fieldAddr 27 (Operand.tmp 4) 2, type := 0, pos := "laws.go:877", after := #[{ on := 17, ground := Ground.guard }], guard := some (17, false) }) (v := ?ve25) rfl (by kernel_rfl) (by kernel_rfl) (by kernel_rfl) (fun _ _ _ h => h) (Or.inl ⟨by rfl, ?ye25⟩) (by assumption) ?re25
              case ye25=>(intro w hSw;(try dsimp only at hSw);go_simp;(try with_reducible rfl))
              try simp only[Act.put,List.setIfInBounds_toArray,List.set_cons_zero,List.set_cons_succ]
              refine wpAnyH_take (i := 26) (oi := { dst := some 69, op := Op.load 25 (Operand.tmp 68), type := 25, pos := "laws.go:877", after := #[{ on := 25, ground := Ground.data }, { on := 17, ground := Ground.guard }], guard := some (17, false) }) (v := ?ve26) rfl (by kernel_rfl) (by kernel_rfl) (by kernel_rfl) (fun _ _ _ h => h) (Or.inl ⟨by rfl, ?ye26⟩) (by assumption) ?re26
              case ye26=>(intro w hSw;(try dsimp only at hSw);go_simp;(try with_reducible rfl))
              try simp only[Act.put,List.setIfInBounds_toArray,List.set_cons_zero,List.set_cons_succ]
              refine wpAnyH_take (i := 27) (oi := { dst := some 70, op := Op.move (Operand.tmp 7), type := 3, pos := "laws.go:877", after := #[{ on := 17, ground := Ground.guard }], guard := some (17, false) }) (v := ?ve27) rfl (by kernel_rfl) (by kernel_rfl) (by kernel_rfl) (fun _ _ _ h => h) (Or.inl ⟨by rfl, ?ye27⟩) (by assumption) ?re27
              case ye27=>(intro w hSw;(try dsimp only at hSw);go_simp;(try with_reducible rfl))
              try simp only[Act.put,List.setIfInBounds_toArray,List.set_cons_zero,List.set_cons_succ]
              refine wpAnyH_take (i := 28) (oi := { dst := some 71, op := Op.indexAddr 25 (Operand.tmp 69) (Operand.tmp 70), type := 0, pos := "laws.go:877", after := #[{ on := 26, ground := Ground.data }, { on := 27, ground := Ground.data }, { on := 17, ground := Ground.guard }], guard := some (17, false) }) (v := ?ve28) rfl (by kernel_rfl) (by kernel_rfl) (by kernel_rfl) (fun _ _ _ h => h) (Or.inl ⟨by rfl, ?ye28⟩) (by assumption) ?re28
              case ye28=>(intro w hSw;(try dsimp only at hSw);go_simp;(try with_reducible rfl))
              try simp only[Act.put,List.setIfInBounds_toArray,List.set_cons_zero,List.set_cons_succ]
              refine wpAnyH_take (i := 29) (oi := { dst := some 72, op := Op.fieldAddr 35 (Operand.tmp 71) 0, type := 0, pos := "laws.go:877", after := #[{ on := 28, ground := Ground.data }, { on := 17, ground := Ground.guard }], guard := some (17, false) }) (v := ?ve29) rfl (by kernel_rfl) (by kernel_rfl) (by kernel_rfl) (fun _ _ _ h => h) (Or.inl ⟨by rfl, ?ye29⟩) (by assumption) ?re29
              case ye29=>(intro w hSw;(try dsimp only at hSw);go_simp;(try with_reducible rfl))
              try simp only[Act.put,List.setIfInBounds_toArray,List.set_cons_zero,List.set_cons_succ]
              refine wpAnyH_take (i := 30) (oi := { dst := some 73, op := Op.load 2 (Operand.tmp 72), type := 2, pos := "laws.go:877", after := #[{ on := 29, ground := Ground.data }, { on := 17, ground := Ground.guard }], guard := some (17, false) }) (v := ?ve30) rfl (by kernel_rfl) (by kernel_rfl) (by kernel_rfl) (fun _ _ _ h => h) (Or.inl ⟨by rfl, ?ye30⟩) (by assumption) ?re30
              case ye30=>(intro w hSw;(try dsimp only at hSw);go_simp;(try with_reducible rfl))
              try simp only[Act.put,List.setIfInBounds_toArray,List.set_cons_zero,List.set_cons_succ]
              refine wpAnyH_take (i := 31) (oi := { dst := some 74, op := Op.binOp BinOp.lss 2 (Operand.tmp 67) (Operand.tmp 73) 2, type := 4, pos := "laws.go:877", after := #[{ on := 24, ground := Ground.data }, { on := 30, ground := Ground.data }, { on := 17, ground := Ground.guard }], guard := some (17, false) }) (v := ?ve31) rfl (by kernel_rfl) (by kernel_rfl) (by kernel_rfl) (fun _ _ _ h => h) (Or.inl ⟨by rfl, ?ye31⟩) (by assumption) ?re31
              case ye31=>(intro w hSw;(try dsimp only at hSw);go_simp;(try with_reducible rfl))
              try simp only[Act.put,List.setIfInBounds_toArray,List.set_cons_zero,List.set_cons_succ]
              refine wpAnyH_take (i := 32) (oi := { dst := some 75, op := Op.pick (Operand.tmp 60) (Operand.const (Value.bool true)) (Operand.tmp 74), type := 4, pos := "laws.go:877", after := #[{ on := 17, ground := Ground.data }, { on := 31, ground := Ground.data }, { on := 14, ground := Ground.guard }], guard := some (14, true) }) (v := ?ve32) rfl (by kernel_rfl) (by kernel_rfl) (by kernel_rfl) (fun _ _ _ h => h) (Or.inl ⟨by rfl, ?ye32⟩) (by assumption) ?re32
              case ye32=>(intro w hSw;(try dsimp only at hSw);go_simp;(try with_reducible rfl))
              try simp only[Act.put,List.setIfInBounds_toArray,List.set_cons_zero,List.set_cons_succ]
              refine wpAnyH_take (i := 33) (oi := { dst := some 76, op := Op.pick (Operand.tmp 57) (Operand.tmp 75) (Operand.const (Value.bool false)), type := 4, pos := "laws.go:877", after := #[{ on := 14, ground := Ground.data }, { on := 32, ground := Ground.data }], guard := none }) (v := ?ve33) rfl (by kernel_rfl) (by kernel_rfl) (by kernel_rfl) (fun _ _ _ h => h) (Or.inl ⟨by rfl, ?ye33⟩) (by assumption) ?re33
              case ye33=>(intro w hSw;(try dsimp only at hSw);go_simp;(try with_reducible rfl))
              try simp only[Act.put,List.setIfInBounds_toArray,List.set_cons_zero,List.set_cons_succ]
              refine wpAnyH_take (i := 34) (oi := { dst := some 6, op := Op.assign (Operand.tmp 76), type := 4, pos := "laws.go:877", after := #[{ on := 33, ground := Ground.data }, { on := 17, ground := Ground.chain }, { on := 0, ground := Ground.phase }, { on := 1, ground := Ground.phase }, { on := 2, ground := Ground.phase }, { on := 3, ground := Ground.phase }, { on := 4, ground := Ground.phase }, { on := 5, ground := Ground.phase }, { on := 6, ground := Ground.phase }, { on := 7, ground := Ground.phase }, { on := 8, ground := Ground.phase }, { on := 9, ground := Ground.phase }, { on := 10, ground := Ground.phase }, { on := 11, ground := Ground.phase }, { on := 12, ground := Ground.phase }, { on := 13, ground := Ground.phase }, { on := 14, ground := Ground.phase }, { on := 15, ground := Ground.phase }, { on := 16, ground := Ground.phase }, { on := 17, ground := Ground.phase }, { on := 18, ground := Ground.phase }, { on := 19, ground := Ground.phase }, { on := 20, ground := Ground.phase }, { on := 21, ground := Ground.phase }, { on := 22, ground := Ground.phase }, { on := 23, ground := Ground.phase }, { on := 24, ground := Ground.phase }, { on := 25, ground := Ground.phase }, { on := 26, ground := Ground.phase }, { on := 27, ground := Ground.phase }, { on := 28, ground := Ground.phase }, { on := 29, ground := Ground.phase }, { on := 30, ground := Ground.phase }, { on := 31, ground := Ground.phase }, { on := 32, ground := Ground.phase }, { on := 33, ground := Ground.phase }], guard := none }) (v := ?ve34) rfl (by kernel_rfl) (by kernel_rfl) (by kernel_rfl) (fun _ _ _ h => h) (Or.inl ⟨by rfl, ?ye34⟩) (by assumption) ?re34
              case ye34=>(intro w hSw;(try dsimp only at hSw);go_simp;(try with_reducible rfl))
              try simp only[Act.put,List.setIfInBounds_toArray,List.set_cons_zero,List.set_cons_succ]
              refine wpAnyH_done (by kernel_rfl) ?_ _
              have B6:Hid (Below w3.heap.size w3 w5):=HBW.out.trans (B5.mono HBW.out.size)
              go_wp2
              go_roundw
              case rel=>exact⟨q+1+1,true,by omega,by go_num,rfl,⟨fun _=>HS2.out.1 trivial,fun _=>rfl⟩,B6⟩
              case measure=>simp[intOf];omega
            · have HS2:Hid (false=true↔judOk ks (k:Int) root vs (q+1+1)):=⟨fun h=>(by cases h),fun h=>absurd (HS1.out.1 h).2 hr⟩
              have hrb:decide (p0<nd)=false:=decide_eq_false hr
              go_wp2_with fail
              refine wp_region_held_drew (S:=fun w'=>w'.cell? ⟨w1.heap.size,0,none⟩=some (.int .i64 (k:Int))∧w'.cell? ⟨w1.heap.size,1,none⟩=some (.string ⟨root.toArray⟩)∧w'.cell? ⟨w1.heap.size,2,none⟩=some (.slice (some ⟨g,0,none⟩) m c)∧w'.cell? ⟨g,(q+1)*4,none⟩=some (.int .i64 nd)∧w'.cell? ⟨g,(q+1)*4+1,none⟩=some (.int .i64 i)∧w'.cell? ⟨g,(q+1)*4+2,none⟩=some (.slice ao os.length co)∧w'.cell? ⟨g,(q+1)*4+3,none⟩=some (.slice ap ps.length cp)∧w'.cell? ⟨g,q*4,none⟩=some (.int .i64 p0)) (by kernel_rfl) (SX.out _ BD) (fun hHeld=>?_)
              refine wpAnyH_take (i := 0) (oi := { dst := some 43, op := Op.move (Operand.tmp 6), type := 4, pos := "laws.go:877", after := #[], guard := none }) (v := ?vf0) rfl (by kernel_rfl) (by kernel_rfl) (by kernel_rfl) (fun _ _ _ h => h) (Or.inl ⟨by rfl, ?yf0⟩) (by assumption) ?rf0
              case yf0=>(intro w hSw;(try dsimp only at hSw);go_simp;(try with_reducible rfl))
              try simp only[Act.put,List.setIfInBounds_toArray,List.set_cons_zero,List.set_cons_succ]
              refine wpAnyH_take (i := 1) (oi := { dst := some 44, op := Op.move (Operand.tmp 43), type := 4, pos := "laws.go:877", after := #[{ on := 0, ground := Ground.data }], guard := none }) (v := ?vf1) rfl (by kernel_rfl) (by kernel_rfl) (by kernel_rfl) (fun _ _ _ h => h) (Or.inl ⟨by rfl, ?yf1⟩) (by assumption) ?rf1
              case yf1=>(intro w hSw;(try dsimp only at hSw);go_simp;(try with_reducible rfl))
              try simp only[Act.put,List.setIfInBounds_toArray,List.set_cons_zero,List.set_cons_succ]
              refine wpAnyH_take (i := 2) (oi := { dst := some 45, op := Op.move (Operand.tmp 3), type := 24, pos := "laws.go:877", after := #[{ on := 1, ground := Ground.guard }], guard := some (1, true) }) (v := ?vf2) rfl (by kernel_rfl) (by kernel_rfl) (by kernel_rfl) (fun _ _ _ h => h) (Or.inl ⟨by rfl, ?yf2⟩) (by assumption) ?rf2
              case yf2=>(intro w hSw;(try dsimp only at hSw);go_simp;(try with_reducible rfl))
              try simp only[Act.put,List.setIfInBounds_toArray,List.set_cons_zero,List.set_cons_succ]
              refine wpAnyH_take (i := 3) (oi := { dst := some 46, op := Op.fieldAddr 27 (Operand.tmp 4) 0, type := 0, pos := "laws.go:877", after := #[{ on := 1, ground := Ground.guard }], guard := some (1, true) }) (v := ?vf3) rfl (by kernel_rfl) (by kernel_rfl) (by kernel_rfl) (fun _ _ _ h => h) (Or.inl ⟨by rfl, ?yf3⟩) (by assumption) ?rf3
              case yf3=>(intro w hSw;(try dsimp only at hSw);go_simp;(try with_reducible rfl))
              try simp only[Act.put,List.setIfInBounds_toArray,List.set_cons_zero,List.set_cons_succ]
              refine wpAnyH_take (i := 4) (oi := { dst := some 47, op := Op.load 2 (Operand.tmp 46), type := 2, pos := "laws.go:877", after := #[{ on := 3, ground := Ground.data }, { on := 1, ground := Ground.guard }], guard := some (1, true) }) (v := ?vf4) rfl (by kernel_rfl) (by kernel_rfl) (by kernel_rfl) (fun _ _ _ h => h) (Or.inl ⟨by rfl, ?yf4⟩) (by assumption) ?rf4
              case yf4=>(intro w hSw;(try dsimp only at hSw);go_simp;(try with_reducible rfl))
              try simp only[Act.put,List.setIfInBounds_toArray,List.set_cons_zero,List.set_cons_succ]
              refine wpAnyH_take (i := 5) (oi := { dst := some 48, op := Op.fieldAddr 27 (Operand.tmp 4) 1, type := 0, pos := "laws.go:877", after := #[{ on := 1, ground := Ground.guard }], guard := some (1, true) }) (v := ?vf5) rfl (by kernel_rfl) (by kernel_rfl) (by kernel_rfl) (fun _ _ _ h => h) (Or.inl ⟨by rfl, ?yf5⟩) (by assumption) ?rf5
              case yf5=>(intro w hSw;(try dsimp only at hSw);go_simp;(try with_reducible rfl))
              try simp only[Act.put,List.setIfInBounds_toArray,List.set_cons_zero,List.set_cons_succ]
              refine wpAnyH_take (i := 6) (oi := { dst := some 49, op := Op.load 9 (Operand.tmp 48), type := 9, pos := "laws.go:877", after := #[{ on := 5, ground := Ground.data }, { on := 1, ground := Ground.guard }], guard := some (1, true) }) (v := ?vf6) rfl (by kernel_rfl) (by kernel_rfl) (by kernel_rfl) (fun _ _ _ h => h) (Or.inl ⟨by rfl, ?yf6⟩) (by assumption) ?rf6
              case yf6=>(intro w hSw;(try dsimp only at hSw);go_simp;(try with_reducible rfl))
              try simp only[Act.put,List.setIfInBounds_toArray,List.set_cons_zero,List.set_cons_succ]
              refine wpAnyH_take (i := 7) (oi := { dst := some 50, op := Op.fieldAddr 27 (Operand.tmp 4) 2, type := 0, pos := "laws.go:877", after := #[{ on := 1, ground := Ground.guard }], guard := some (1, true) }) (v := ?vf7) rfl (by kernel_rfl) (by kernel_rfl) (by kernel_rfl) (fun _ _ _ h => h) (Or.inl ⟨by rfl, ?yf7⟩) (by assumption) ?rf7
              case yf7=>(intro w hSw;(try dsimp only at hSw);go_simp;(try with_reducible rfl))
              try simp only[Act.put,List.setIfInBounds_toArray,List.set_cons_zero,List.set_cons_succ]
              refine wpAnyH_take (i := 8) (oi := { dst := some 51, op := Op.load 25 (Operand.tmp 50), type := 25, pos := "laws.go:877", after := #[{ on := 7, ground := Ground.data }, { on := 1, ground := Ground.guard }], guard := some (1, true) }) (v := ?vf8) rfl (by kernel_rfl) (by kernel_rfl) (by kernel_rfl) (fun _ _ _ h => h) (Or.inl ⟨by rfl, ?yf8⟩) (by assumption) ?rf8
              case yf8=>(intro w hSw;(try dsimp only at hSw);go_simp;(try with_reducible rfl))
              try simp only[Act.put,List.setIfInBounds_toArray,List.set_cons_zero,List.set_cons_succ]
              refine wpAnyH_take (i := 9) (oi := { dst := some 52, op := Op.move (Operand.tmp 7), type := 3, pos := "laws.go:877", after := #[{ on := 1, ground := Ground.guard }], guard := some (1, true) }) (v := ?vf9) rfl (by kernel_rfl) (by kernel_rfl) (by kernel_rfl) (fun _ _ _ h => h) (Or.inl ⟨by rfl, ?yf9⟩) (by assumption) ?rf9
              case yf9=>(intro w hSw;(try dsimp only at hSw);go_simp;(try with_reducible rfl))
              try simp only[Act.put,List.setIfInBounds_toArray,List.set_cons_zero,List.set_cons_succ]
              refine wpAnyH_take (i := 10) (oi := { dst := some 53, op := Op.indexAddr 25 (Operand.tmp 51) (Operand.tmp 52), type := 0, pos := "laws.go:877", after := #[{ on := 8, ground := Ground.data }, { on := 9, ground := Ground.data }, { on := 1, ground := Ground.guard }], guard := some (1, true) }) (v := ?vf10) rfl (by kernel_rfl) (by kernel_rfl) (by kernel_rfl) (fun _ _ _ h => h) (Or.inl ⟨by rfl, ?yf10⟩) (by assumption) ?rf10
              case yf10=>(intro w hSw;(try dsimp only at hSw);go_simp;(try with_reducible rfl))
              try simp only[Act.put,List.setIfInBounds_toArray,List.set_cons_zero,List.set_cons_succ]
              refine wpAnyH_take (i := 11) (oi := { dst := some 54, op := Op.load 35 (Operand.tmp 53), type := 35, pos := "laws.go:877", after := #[{ on := 10, ground := Ground.data }, { on := 1, ground := Ground.guard }], guard := some (1, true) }) (v := ?vf11) rfl (by kernel_rfl) (by kernel_rfl) (by kernel_rfl) (fun _ _ _ h => h) (Or.inl ⟨by rfl, ?yf11⟩) (by assumption) ?rf11
              case yf11=>(intro w hSw;(try dsimp only at hSw);go_simp;(try with_reducible rfl))
              try simp only[Act.put,List.setIfInBounds_toArray,List.set_cons_zero,List.set_cons_succ]
              refine wpAnyH_ready (rs:=[12]) (by kernel_rfl) (by simp) ?_
              refine AllReadyH.cons (o := { dst := some 55, op := Op.call { callee := Callee.value (Operand.func 8), args := #[Operand.tmp 45, Operand.tmp 47, Operand.tmp 49, Operand.tmp 54], argTypes := #[24, 2, 9, 35] }, type := 4, pos := "laws.go:877", after := #[{ on := 2, ground := Ground.data }, { on := 4, ground := Ground.data }, { on := 6, ground := Ground.data }, { on := 11, ground := Ground.data }, { on := 1, ground := Ground.chain }, { on := 1, ground := Ground.guard }], guard := some (1, true) }) rfl (fun K hK => ?_) AllReadyH.nil
              go_simp
              go_at_call 8
              with_reducible refine KV.mono ?_
              rintro e w5 ⟨rfl,b5⟩
              have B5:=BD.trans (b5.mono BD.size)
              clear b5
              clear hHeld
              refine hK.out _ _ (SX.out _ B5) (fun hHeld=>?_)
              clear hK K
              try simp only[Act.put,List.setIfInBounds_toArray,List.set_cons_zero,List.set_cons_succ]
              refine wpAnyH_take (i := 13) (oi := { dst := some 56, op := Op.pick (Operand.tmp 44) (Operand.tmp 55) (Operand.const (Value.bool false)), type := 4, pos := "laws.go:877", after := #[{ on := 1, ground := Ground.data }, { on := 12, ground := Ground.data }], guard := none }) (v := ?vf13) rfl (by kernel_rfl) (by kernel_rfl) (by kernel_rfl) (fun _ _ _ h => h) (Or.inl ⟨by rfl, ?yf13⟩) (by assumption) ?rf13
              case yf13=>(intro w hSw;(try dsimp only at hSw);go_simp;(try with_reducible rfl))
              try simp only[Act.put,List.setIfInBounds_toArray,List.set_cons_zero,List.set_cons_succ]
              refine wpAnyH_take (i := 14) (oi := { dst := some 57, op := Op.move (Operand.tmp 56), type := 4, pos := "laws.go:877", after := #[{ on := 13, ground := Ground.data }, { on := 12, ground := Ground.chain }], guard := none }) (v := ?vf14) rfl (by kernel_rfl) (by kernel_rfl) (by kernel_rfl) (fun _ _ _ h => h) (Or.inl ⟨by rfl, ?yf14⟩) (by assumption) ?rf14
              case yf14=>(intro w hSw;(try dsimp only at hSw);go_simp;(try with_reducible rfl))
              try simp only[Act.put,List.setIfInBounds_toArray,List.set_cons_zero,List.set_cons_succ]
              refine wpAnyH_take (i := 15) (oi := { dst := some 58, op := Op.move (Operand.tmp 7), type := 3, pos := "laws.go:877", after := #[{ on := 14, ground := Ground.guard }], guard := some (14, true) }) (v := ?vf15) rfl (by kernel_rfl) (by kernel_rfl) (by kernel_rfl) (fun _ _ _ h => h) (Or.inl ⟨by rfl, ?yf15⟩) (by assumption) ?rf15
              case yf15=>(intro w hSw;(try dsimp only at hSw);go_simp;(try with_reducible rfl))
              try simp only[Act.put,List.setIfInBounds_toArray,List.set_cons_zero,List.set_cons_succ]
              refine wpAnyH_take (i := 16) (oi := { dst := some 59, op := Op.binOp BinOp.eql 3 (Operand.tmp 58) (Operand.const (Value.int IntKind.i64 0)) 3, type := 4, pos := "laws.go:877", after := #[{ on := 15, ground := Ground.data }, { on := 14, ground := Ground.guard }], guard := some (14, true) }) (v := ?vf16) rfl (by kernel_rfl) (by kernel_rfl) (by kernel_rfl) (fun _ _ _ h => h) (Or.inl ⟨by rfl, ?yf16⟩) (by assumption) ?rf16
              case yf16=>(intro w hSw;(try dsimp only at hSw);go_simp;(try with_reducible rfl))
              try simp only[Act.put,List.setIfInBounds_toArray,List.set_cons_zero,List.set_cons_succ]
              refine wpAnyH_take (i := 17) (oi := { dst := some 60, op := Op.move (Operand.tmp 59), type := 4, pos := "laws.go:877", after := #[{ on := 16, ground := Ground.data }, { on := 14, ground := Ground.chain }, { on := 14, ground := Ground.guard }], guard := some (14, true) }) (v := ?vf17) rfl (by kernel_rfl) (by kernel_rfl) (by kernel_rfl) (fun _ _ _ h => h) (Or.inl ⟨by rfl, ?yf17⟩) (by assumption) ?rf17
              case yf17=>(intro w hSw;(try dsimp only at hSw);go_simp;(try with_reducible rfl))
              try simp only[Act.put,List.setIfInBounds_toArray,List.set_cons_zero,List.set_cons_succ]
              refine wpAnyH_take (i := 18) (oi := { dst := some 61, op := Op.fieldAddr 27 (Operand.tmp 4) 2, type := 0, pos := "laws.go:877", after := #[{ on := 17, ground := Ground.guard }], guard := some (17, false) }) (v := ?vf18) rfl (by kernel_rfl) (by kernel_rfl) (by kernel_rfl) (fun _ _ _ h => h) (Or.inl ⟨by rfl, ?yf18⟩) (by assumption) ?rf18
              case yf18=>(intro w hSw;(try dsimp only at hSw);go_simp;(try with_reducible rfl))
              try simp only[Act.put,List.setIfInBounds_toArray,List.set_cons_zero,List.set_cons_succ]
              refine wpAnyH_take (i := 19) (oi := { dst := some 62, op := Op.load 25 (Operand.tmp 61), type := 25, pos := "laws.go:877", after := #[{ on := 18, ground := Ground.data }, { on := 17, ground := Ground.guard }], guard := some (17, false) }) (v := ?vf19) rfl (by kernel_rfl) (by kernel_rfl) (by kernel_rfl) (fun _ _ _ h => h) (Or.inl ⟨by rfl, ?yf19⟩) (by assumption) ?rf19
              case yf19=>(intro w hSw;(try dsimp only at hSw);go_simp;(try with_reducible rfl))
              try simp only[Act.put,List.setIfInBounds_toArray,List.set_cons_zero,List.set_cons_succ]
              refine wpAnyH_take (i := 20) (oi := { dst := some 63, op := Op.move (Operand.tmp 7), type := 3, pos := "laws.go:877", after := #[{ on := 17, ground := Ground.guard }], guard := some (17, false) }) (v := ?vf20) rfl (by kernel_rfl) (by kernel_rfl) (by kernel_rfl) (fun _ _ _ h => h) (Or.inl ⟨by rfl, ?yf20⟩) (by assumption) ?rf20
              case yf20=>(intro w hSw;(try dsimp only at hSw);go_simp;(try with_reducible rfl))
              try simp only[Act.put,List.setIfInBounds_toArray,List.set_cons_zero,List.set_cons_succ]
              refine wpAnyH_take (i := 21) (oi := { dst := some 64, op := Op.binOp BinOp.sub 3 (Operand.tmp 63) (Operand.const (Value.int IntKind.i64 1)) 3, type := 3, pos := "laws.go:877", after := #[{ on := 20, ground := Ground.data }, { on := 17, ground := Ground.guard }], guard := some (17, false) }) (v := ?vf21) rfl (by kernel_rfl) (by kernel_rfl) (by kernel_rfl) (fun _ _ _ h => h) (Or.inl ⟨by rfl, ?yf21⟩) (by assumption) ?rf21
              case yf21=>(intro w hSw;(try dsimp only at hSw);go_simp;(try with_reducible rfl))
              try simp only[Act.put,List.setIfInBounds_toArray,List.set_cons_zero,List.set_cons_succ]
              refine wpAnyH_take (i := 22) (oi := { dst := some 65, op := Op.indexAddr 25 (Operand.tmp 62) (Operand.tmp 64), type := 0, pos := "laws.go:877", after := #[{ on := 19, ground := Ground.data }, { on := 21, ground := Ground.data }, { on := 17, ground := Ground.guard }], guard := some (17, false) }) (v := ?vf22) rfl (by kernel_rfl) (by kernel_rfl) (by kernel_rfl) (fun _ _ _ h => h) (Or.inl ⟨by rfl, ?yf22⟩) (by assumption) ?rf22
              case yf22=>(intro w hSw;(try dsimp only at hSw);go_simp;(try with_reducible rfl))
              try simp only[Act.put,List.setIfInBounds_toArray,List.set_cons_zero,List.set_cons_succ]
              refine wpAnyH_take (i := 23) (oi := { dst := some 66, op := Op.fieldAddr 35 (Operand.tmp 65) 0, type := 0, pos := "laws.go:877", after := #[{ on := 22, ground := Ground.data }, { on := 17, ground := Ground.guard }], guard := some (17, false) }) (v := ?vf23) rfl (by kernel_rfl) (by kernel_rfl) (by kernel_rfl) (fun _ _ _ h => h) (Or.inl ⟨by rfl, ?yf23⟩) (by assumption) ?rf23
              case yf23=>(intro w hSw;(try dsimp only at hSw);go_simp;(try with_reducible rfl))
              try simp only[Act.put,List.setIfInBounds_toArray,List.set_cons_zero,List.set_cons_succ]
              refine wpAnyH_take (i := 24) (oi := { dst := some 67, op := Op.load 2 (Operand.tmp 66), type := 2, pos := "laws.go:877", after := #[{ on := 23, ground := Ground.data }, { on := 17, ground := Ground.guard }], guard := some (17, false) }) (v := ?vf24) rfl (by kernel_rfl) (by kernel_rfl) (by kernel_rfl) (fun _ _ _ h => h) (Or.inl ⟨by rfl, ?yf24⟩) (by assumption) ?rf24
              case yf24=>(intro w hSw;(try dsimp only at hSw);go_simp;(try with_reducible rfl))
              try simp only[Act.put,List.setIfInBounds_toArray,List.set_cons_zero,List.set_cons_succ]
              refine wpAnyH_take (i := 25) (oi := { dst := some 68, op := Op.fieldAddr 27 (Operand.tmp 4) 2, type := 0, pos := "laws.go:877", after := #[{ on := 17, ground := Ground.guard }], guard := some (17, false) }) (v := ?vf25) rfl (by kernel_rfl) (by kernel_rfl) (by kernel_rfl) (fun _ _ _ h => h) (Or.inl ⟨by rfl, ?yf25⟩) (by assumption) ?rf25
              case yf25=>(intro w hSw;(try dsimp only at hSw);go_simp;(try with_reducible rfl))
              try simp only[Act.put,List.setIfInBounds_toArray,List.set_cons_zero,List.set_cons_succ]
              refine wpAnyH_take (i := 26) (oi := { dst := some 69, op := Op.load 25 (Operand.tmp 68), type := 25, pos := "laws.go:877", after := #[{ on := 25, ground := Ground.data }, { on := 17, ground := Ground.guard }], guard := some (17, false) }) (v := ?vf26) rfl (by kernel_rfl) (by kernel_rfl) (by kernel_rfl) (fun _ _ _ h => h) (Or.inl ⟨by rfl, ?yf26⟩) (by assumption) ?rf26
              case yf26=>(intro w hSw;(try dsimp only at hSw);go_simp;(try with_reducible rfl))
              try simp only[Act.put,List.setIfInBounds_toArray,List.set_cons_zero,List.set_cons_succ]
              refine wpAnyH_take (i := 27) (oi := { dst := some 70, op := Op.move (Operand.tmp 7), type := 3, pos := "laws.go:877", after := #[{ on := 17, ground := Ground.guard }], guard := some (17, false) }) (v := ?vf27) rfl (by kernel_rfl) (by kernel_rfl) (by kernel_rfl) (fun _ _ _ h => h) (Or.inl ⟨by rfl, ?yf27⟩) (by assumption) ?rf27
              case yf27=>(intro w hSw;(try dsimp only at hSw);go_simp;(try with_reducible rfl))
              try simp only[Act.put,List.setIfInBounds_toArray,List.set_cons_zero,List.set_cons_succ]
              refine wpAnyH_take (i := 28) (oi := { dst := some 71, op := Op.indexAddr 25 (Operand.tmp 69) (Operand.tmp 70), type := 0, pos := "laws.go:877", after := #[{ on := 26, ground := Ground.data }, { on := 27, ground := Ground.data }, { on := 17, ground := Ground.guard }], guard := some (17, false) }) (v := ?vf28) rfl (by kernel_rfl) (by kernel_rfl) (by kernel_rfl) (fun _ _ _ h => h) (Or.inl ⟨by rfl, ?yf28⟩) (by assumption) ?rf28
              case yf28=>(intro w hSw;(try dsimp only at hSw);go_simp;(try with_reducible rfl))
              try simp only[Act.put,List.setIfInBounds_toArray,List.set_cons_zero,List.set_cons_succ]
              refine wpAnyH_take (i := 29) (oi := { dst := some 72, op := Op.fieldAddr 35 (Operand.tmp 71) 0, type := 0, pos := "laws.go:877", after := #[{ on := 28, ground := Ground.data }, { on := 17, ground := Ground.guard }], guard := some (17, false) }) (v := ?vf29) rfl (by kernel_rfl) (by kernel_rfl) (by kernel_rfl) (fun _ _ _ h => h) (Or.inl ⟨by rfl, ?yf29⟩) (by assumption) ?rf29
              case yf29=>(intro w hSw;(try dsimp only at hSw);go_simp;(try with_reducible rfl))
              try simp only[Act.put,List.setIfInBounds_toArray,List.set_cons_zero,List.set_cons_succ]
              refine wpAnyH_take (i := 30) (oi := { dst := some 73, op := Op.load 2 (Operand.tmp 72), type := 2, pos := "laws.go:877", after := #[{ on := 29, ground := Ground.data }, { on := 17, ground := Ground.guard }], guard := some (17, false) }) (v := ?vf30) rfl (by kernel_rfl) (by kernel_rfl) (by kernel_rfl) (fun _ _ _ h => h) (Or.inl ⟨by rfl, ?yf30⟩) (by assumption) ?rf30
              case yf30=>(intro w hSw;(try dsimp only at hSw);go_simp;(try with_reducible rfl))
              try simp only[Act.put,List.setIfInBounds_toArray,List.set_cons_zero,List.set_cons_succ]
              refine wpAnyH_take (i := 31) (oi := { dst := some 74, op := Op.binOp BinOp.lss 2 (Operand.tmp 67) (Operand.tmp 73) 2, type := 4, pos := "laws.go:877", after := #[{ on := 24, ground := Ground.data }, { on := 30, ground := Ground.data }, { on := 17, ground := Ground.guard }], guard := some (17, false) }) (v := ?vf31) rfl (by kernel_rfl) (by kernel_rfl) (by kernel_rfl) (fun _ _ _ h => h) (Or.inl ⟨by rfl, ?yf31⟩) (by assumption) ?rf31
              case yf31=>(intro w hSw;(try dsimp only at hSw);go_simp;(try with_reducible rfl))
              try simp only[Act.put,List.setIfInBounds_toArray,List.set_cons_zero,List.set_cons_succ]
              refine wpAnyH_take (i := 32) (oi := { dst := some 75, op := Op.pick (Operand.tmp 60) (Operand.const (Value.bool true)) (Operand.tmp 74), type := 4, pos := "laws.go:877", after := #[{ on := 17, ground := Ground.data }, { on := 31, ground := Ground.data }, { on := 14, ground := Ground.guard }], guard := some (14, true) }) (v := ?vf32) rfl (by kernel_rfl) (by kernel_rfl) (by kernel_rfl) (fun _ _ _ h => h) (Or.inl ⟨by rfl, ?yf32⟩) (by assumption) ?rf32
              case yf32=>(intro w hSw;(try dsimp only at hSw);go_simp;(try with_reducible rfl))
              try simp only[Act.put,List.setIfInBounds_toArray,List.set_cons_zero,List.set_cons_succ]
              refine wpAnyH_take (i := 33) (oi := { dst := some 76, op := Op.pick (Operand.tmp 57) (Operand.tmp 75) (Operand.const (Value.bool false)), type := 4, pos := "laws.go:877", after := #[{ on := 14, ground := Ground.data }, { on := 32, ground := Ground.data }], guard := none }) (v := ?vf33) rfl (by kernel_rfl) (by kernel_rfl) (by kernel_rfl) (fun _ _ _ h => h) (Or.inl ⟨by rfl, ?yf33⟩) (by assumption) ?rf33
              case yf33=>(intro w hSw;(try dsimp only at hSw);go_simp;(try with_reducible rfl))
              try simp only[Act.put,List.setIfInBounds_toArray,List.set_cons_zero,List.set_cons_succ]
              refine wpAnyH_take (i := 34) (oi := { dst := some 6, op := Op.assign (Operand.tmp 76), type := 4, pos := "laws.go:877", after := #[{ on := 33, ground := Ground.data }, { on := 17, ground := Ground.chain }, { on := 0, ground := Ground.phase }, { on := 1, ground := Ground.phase }, { on := 2, ground := Ground.phase }, { on := 3, ground := Ground.phase }, { on := 4, ground := Ground.phase }, { on := 5, ground := Ground.phase }, { on := 6, ground := Ground.phase }, { on := 7, ground := Ground.phase }, { on := 8, ground := Ground.phase }, { on := 9, ground := Ground.phase }, { on := 10, ground := Ground.phase }, { on := 11, ground := Ground.phase }, { on := 12, ground := Ground.phase }, { on := 13, ground := Ground.phase }, { on := 14, ground := Ground.phase }, { on := 15, ground := Ground.phase }, { on := 16, ground := Ground.phase }, { on := 17, ground := Ground.phase }, { on := 18, ground := Ground.phase }, { on := 19, ground := Ground.phase }, { on := 20, ground := Ground.phase }, { on := 21, ground := Ground.phase }, { on := 22, ground := Ground.phase }, { on := 23, ground := Ground.phase }, { on := 24, ground := Ground.phase }, { on := 25, ground := Ground.phase }, { on := 26, ground := Ground.phase }, { on := 27, ground := Ground.phase }, { on := 28, ground := Ground.phase }, { on := 29, ground := Ground.phase }, { on := 30, ground := Ground.phase }, { on := 31, ground := Ground.phase }, { on := 32, ground := Ground.phase }, { on := 33, ground := Ground.phase }], guard := none }) (v := ?vf34) rfl (by kernel_rfl) (by kernel_rfl) (by kernel_rfl) (fun _ _ _ h => h) (Or.inl ⟨by rfl, ?yf34⟩) (by assumption) ?rf34
              case yf34=>(intro w hSw;(try dsimp only at hSw);go_simp;(try with_reducible rfl))
              try simp only[Act.put,List.setIfInBounds_toArray,List.set_cons_zero,List.set_cons_succ]
              refine wpAnyH_done (by kernel_rfl) ?_ _
              have B6:Hid (Below w3.heap.size w3 w5):=HBW.out.trans (B5.mono HBW.out.size)
              go_wp2
              go_roundw
              case rel=>exact⟨q+1+1,false,by omega,by go_num,rfl,HS2,B6⟩
              case measure=>simp[intOf];omega
    · have hjm:j=m:=by omega
      subst hjm
      have HF:Hid (b=ok):=by
       rw[Hid,Bool.eq_iff_iff]
       exact HB.out.trans (by rw[HM.out];exact HJ.out.symm)
      have HE:=HF.out
      subst HE
      have BE:=B3.trans (HBW.out.mono B3.size)
      clear HB HF HJ
      go_wp2
      go_ret
      exact⟨by simp,BE⟩
 · have HB:=bigYes len0 cap0 a0 w hb
   clear w0 hT
   go_enter Tryd.func3,Tryd.ntmps3
   go_wp2_with fail
   refine HB.mono ?_
   rintro e w1 ⟨rfl,rfl⟩
   clear HB
   go_wp2
   go_ret
   exact⟨rfl,Below.refl _ _⟩
set_option maxRecDepth 100000 in
theorem lifted (os:Os) (started:os.Started) (H:Type) (enc:TypeId × Value→H) :
 ReturnsInHanded {} Tryd.checked os 3 .any (fun w args=>(Rows.fnCertJudgedSpec.pre enc Tryd.prog Tryd.f3 [] false w args∧laidMetH Tryd.prog Rows.fnCertJudgedRow.laid w)∧sizedMet enc Tryd.prog Tryd.f3 (OpenSpec.ofChange Rows.fnCertJudgedSpec) false w args)
  (Rows.fnCertJudgedSpec.post enc Tryd.prog Tryd.f3 false true false false):=by
 refine returnsInHanded_of_change_and (C:=Tryd.checked) (X:=fun w _=>laidMetH Tryd.prog Rows.fnCertJudgedRow.laid w) (fun _ _ _ hh h=>h.of_heap hh) own started (by kernel_rfl) Tryd.func3
  (ChangeSpec.witness_shaped (enc:=enc) (C:=Tryd.checked) (os:=os) (X:=fun w _=>laidMetH Tryd.prog Rows.fnCertJudgedRow.laid w) false (World.doorLaid Tryd.prog 400 os) #[.slice none 0 0] 8 rfl (World.shaped_of_RefB (by kernel_rfl) (by kernel_rfl)) (by kernel_rfl) (by kernel_rfl) (by kernel_rfl) (door_met os _)) ?_
 intro W base args ds gs before hval0 hW _ _ hL _
 have hval:∀ (j:Nat) t v,Tryd.f3.params[j]? = some t→args[j]? = some v→Value.okWide Tryd.prog W .any base t v:=hval0
 have hW':=hW
 obtain⟨p,q,hA0,hV0,rfl,hfz,hnd⟩:=hW
 have hA:DataW.TrodAll enc Tryd.prog W 0 (fun _=>true) true Tryd.f3.params.toList args.toList ds p:=hA0
 have hV : DataW.TrodVars enc Tryd.prog W (fun _ => true) ["loop.example/g00226/impl.roundWords"] gs q := hV0
 rw[Tryd.params3] at hA hval
 obtain⟨v0,vs0,d0,ds0,p0,q0,hargs,rfl,rfl,h0,r0⟩:=trodAll_cons hA
 obtain⟨rfl,rfl,rfl⟩:=trodAll_nil r0
 obtain rfl:args=#[v0]:=by cases args;simp_all
 obtain⟨a0,len0,cap0,rfl⟩:=okWide_slice Tryd.underlying22 (hval 0 22 v0 rfl rfl)
 have k0:=h0
 have lt0:∀ x∈p0,x.block<W.heap.size:=by obtain⟨m,hm⟩:=k0;exact DataW.trod_lt m _ _ _ hm
 have w0:Code W a0 len0:=by
  obtain⟨fuel,hf⟩:=h0
  rcases open_ints Tryd.underlying22 Tryd.underlying5 (by kernel_rfl) hf with ⟨hcs,_⟩ | ⟨x,l,c,zs,hcs,_,hl,hm,hz,_,hcell,hwz⟩
  · simp[Value.cells] at hcs
    obtain⟨rfl,rfl,rfl⟩:=hcs
    exact .inl rfl
  · simp[Value.cells] at hcs
    obtain⟨rfl,rfl,rfl⟩:=hcs
    exact codeOf W x _ _ zs hl (by simpa using hz) hcell hwz
 obtain⟨g,t,cs,fuel,d,p',rfl,hg,ht,hvar,hd,rfl⟩:=trodVars_one hV
 obtain rfl:=Option.some.inj (gTab.symm.trans hg)
 obtain rfl:=Option.some.inj (tTab.symm.trans ht)
 have hT:=tab_of hL
 have hltv:∀ x∈p',x.block<W.heap.size:=fun x hx=>hW'.lt x (List.mem_append_right _ (List.mem_append_right _ hx))
 clear hA0 hV0 hval0 hA hV
 refine (walk a0 len0 cap0 W w0 hT).mono fun e W' ⟨he,hB⟩=>?_
 subst he
 obtain⟨fuel',hd'⟩:=Below.trod laidOut0 (by kernel_rfl) (of_decide_eq_true (by kernel_rfl)) (v:=.agg cs) (⟨fuel,by simpa [Value.cells] using hd⟩:DataW.Trod enc Tryd.prog W 0 (fun _=>true) true 110 (.agg cs) d p') hB hltv
 have hv':=trodVars_mk1 (enc:=enc) (spare:=fun b=>decide (b<W.heap.size)) hg ht (var?_below hB hg hT.1 hvar) (by simpa [Value.cells] using hd')
 exact⟨_,rfl,_,_,_,[],_,_,hW',trodAll_mk1 (shut_bool Tryd.underlying4 _),(trodAll_cons_mk (Below.trod laidOut0 (by kernel_rfl) (of_decide_eq_true (by kernel_rfl)) k0 hB lt0) trodAll_mk0),hv',hB.frame _,fun h=>by cases h⟩
theorem named0 : Tryd.prog.funcNamed "loop.example/g00226/laws.FnCertJudged" = some 3 := by kernel_rfl
theorem closed0:joinedFacts Tryd.prog 3 Tryd.f3 Rows.fnCertJudgedSpec Rows.fnCertJudgedRow=true:=by
 unfold joinedFacts
 rw[seat_may,seat_lifts,seat_make]
 kernel_rfl
theorem inst0:Tryd.f3.isInstance Tryd.prog Rows.fnCertJudgedRow.origin Rows.fnCertJudgedRow.targs:=of_decide_eq_true (by kernel_rfl)
theorem wrap0:Tryd.f3.isWrapper Tryd.prog Rows.fnCertJudgedRow.wrapper Rows.fnCertJudgedRow.mainSum:=by unfold Func.isWrapper;first | (rw[if_pos (by decide +kernel)];kernel_rfl) | (rw[if_neg (by decide +kernel)];exact⟨rfl,rfl⟩)
theorem over:Rows.fnCertJudgedRow.holds Tryd.pinned (OpenSpec.ofChange Rows.fnCertJudgedSpec) :=
 OpenClaim.holds_of_wide 3 Tryd.f3 rfl rfl rfl rfl rfl rfl rfl ⟨rfl,rfl,rfl,rfl,rfl⟩ rfl rfl rfl rfl rfl named0 Tryd.func3 closed0 inst0 wrap0
  (fun os started H enc _=>lifted os started H enc)
theorem text0:Rows.fnCertJudgedRow.wfByText (OpenSpec.ofChange Rows.fnCertJudgedSpec)=true:=by kernel_rfl
theorem looks0:false=Tryd.prog.looks []:=by kernel_rfl
theorem goes0:false=Rows.fnCertJudgedRow.goesBy Tryd.prog:=by kernel_rfl
theorem wants0:([22].all fun u => !Tryd.prog.wantsStandIn u)=true:=by kernel_rfl
theorem card:Claim7.holds Tryd.pinned (.plain (OpenSpec.ofChange Rows.fnCertJudgedSpec)) Rows.fnCertJudgedCard :=
 Claim7.holds_tied_plain_at .later [] [.data] true (true,Rows.fnCertJudgedCard.stood.harness.2) false
  over (fun _ h=>by cases h) text0 (fun _ h=>by cases h) fnCertJudged_row_tie rfl ⟨rfl,rfl⟩ seat_main rfl
  (fun f fn hf hfn => by
   obtain rfl:f=3:=Option.some.inj (named0.symm.trans hf) |>.symm
   obtain rfl:fn=Tryd.f3:=(Option.some.inj (Tryd.func3.symm.trans hfn)).symm
   exact⟨looks0,fun j t ht=>by
    rw[Tryd.params3] at ht
    have hm:t∈[22]:=by simpa using Array.mem_of_getElem? ht
    exact (show Tryd.prog.wantsStandIn t=false by simpa using List.all_eq_true.1 wants0 t hm)⟩)
  goes0
end Go.Proofs.YtkagiehbjnfabaaDoor.fnCertJudged
namespace Go.Proofs.YtkagiehbjnfabaaDoor
theorem fnCertJudged_holds:Rows.FnCertJudgedCardSaid:=fnCertJudged.card
end Go.Proofs.YtkagiehbjnfabaaDoor
