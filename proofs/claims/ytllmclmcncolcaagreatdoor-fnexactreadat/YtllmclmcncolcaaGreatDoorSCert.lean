/-
 Contract: CertOk of the model (written by mkcert.py).
-/
import Derived.Test.YtllmclmcncolcaaGreatDoorCert
namespace Go.Proofs.YtllmclmcncolcaaGreatDoor
open Go.RowKit
set_option linter.unusedVariables false
set_option maxRecDepth 100000 in
set_option maxHeartbeats 4000000 in
theorem spec_certOk (a : Option Addr) (cap : Nat) (ks : List (List UInt8)) (n : Int) (root : List UInt8) (b : Option Addr) (cb : Nat) (vs : List VoteV) (w : World) (hkl : ks.length ≤ 1048576) (hkm : ∀ l ∈ ks, l.length ≤ 1048576) (hl : root.length ≤ 1048576) (hvl : vs.length ≤ 1048576) (hvm : ∀ v ∈ vs, smallV v ∧ (∀ l ∈ v.os, l.length ≤ 1048576) ∧ (∀ l ∈ v.ps, l.length ≤ 1048576)) (hk : IsStrs w a ks) (hs : IsVotes w b vs) :
 Calls Tryz.prog 22 #[.slice a ks.length cap,.agg #[.int .i64 n,.string ⟨root.toArray⟩,.slice b vs.length cb]] w fun e w'=>e=.returned (.bool (certOk ks n root vs))∧Below w.heap.size w w':=by
 have Ba:Below w.heap.size w (w.alloc (.cells #[.int .i64 n,.string ⟨root.toArray⟩,.slice b vs.length cb] 37)):=(Below.refl _ _).alloc (Nat.le_refl _) _
 have KK:=spec_l11Keys a cap ks (w.alloc (.cells #[.int .i64 n,.string ⟨root.toArray⟩,.slice b vs.length cb] 37)) hkl hkm (strs_later hk Ba)
 have H0:=certOk_keys ks n root vs
 have H1:=certOk_few ks n root vs
 have H2:=certOk_many ks n root vs
 have HFALL:Hid (∀ q (h2:q+1<vs.length),¬ (vs[q]'(by omega)).nd<vs[q+1].nd→certOk ks n root vs=false):=certOk_fall ks n root vs
 have HBAD:Hid (∀ q (hq:q<vs.length),holdV ks n root vs[q]=false→certOk ks n root vs=false):=certOk_bad ks n root vs
 have HYES:=certOk_yes ks n root vs
 obtain⟨out,hout⟩:∃ out,out=certOk ks n root vs:=⟨_,rfl⟩
 rw[←hout] at H0 H1 H2 HFALL HBAD HYES ⊢
 clear hout
 obtain⟨wd,hwd⟩:∃ wd,wd=w.alloc (.cells #[.int .i64 n,.string ⟨root.toArray⟩,.slice b vs.length cb] 37):=⟨_,rfl⟩
 have XD:wd.heap[w.heap.size]? = some (.cells #[.int .i64 n,.string ⟨root.toArray⟩,.slice b vs.length cb] 37 (0,0)):=by rw[hwd];exact heap_alloc_new w _
 have SD:Hid (wd.cell? ⟨w.heap.size,0,none⟩=some (.int .i64 n)∧wd.cell? ⟨w.heap.size,1,none⟩=some (.string ⟨root.toArray⟩)∧wd.cell? ⟨w.heap.size,2,none⟩=some (.slice b vs.length cb)):=by obtain⟨x0,x1,x2,_⟩:=tri_cells XD;exact⟨x0,x1,x2⟩
 have hxd:=lt_of_block XD
 obtain⟨z0,z1,z2⟩:=SD.out
 cases hkb:keysOk ks with
 | false =>
   rw[hkb] at KK
   have HZ:Hid (out=false):=H0 hkb
   clear hkb H0 H1 H2 HFALL HBAD HYES hs hk hvm hkm
   go_enter Tryz.func22,Tryz.ntmps22
   go_wp2_with fail
   refine KK.mono ?_
   rintro e w1 ⟨rfl,rfl⟩
   go_wp2
   go_ret
   exact⟨by rw[HZ.out];rfl,Ba⟩
 | true =>
   rw[hkb] at KK
   by_cases hfew:vs.length≤ks.length / 2
   · have HZ:Hid (out=false):=H1 hfew
     have hf':(vs.length:Int)≤(ks.length:Int) / 2:=by omega
     clear hkb H0 H1 H2 HFALL HBAD HYES hs hk hvm hkm
     go_enter Tryz.func22,Tryz.ntmps22
     go_wp2_with fail
     refine KK.mono ?_
     rintro e w1 ⟨rfl,rfl⟩
     rw[←hwd]
     go_wp2
     go_ret
     exact⟨by rw[HZ.out];rfl,by first | exact Ba | (rw[hwd];exact Ba)⟩
   · have hf' : ¬ (vs.length : Int) ≤ (ks.length : Int) / 2 := by omega
     by_cases hmany:ks.length<vs.length
     · have HZ:Hid (out=false):=H2 hmany
       have hm':(ks.length:Int)<(vs.length:Int):=by omega
       clear hkb H0 H1 H2 HFALL HBAD HYES hs hk hvm hkm
       go_enter Tryz.func22,Tryz.ntmps22
       go_wp2_with fail
       refine KK.mono ?_
       rintro e w1 ⟨rfl,rfl⟩
       rw[←hwd]
       go_wp2
       go_ret
       exact⟨by rw[HZ.out];rfl,by first | exact Ba | (rw[hwd];exact Ba)⟩
     · have hm' : ¬ (ks.length : Int) < (vs.length : Int) := by omega
       go_enter Tryz.func22,Tryz.ntmps22
       go_wp2_with fail
       refine KK.mono ?_
       rintro e w1 ⟨rfl,rfl⟩
       rw[←hwd]
       rw[←hwd] at Ba
       have HVS:Hid (∀ W,Below w.heap.size w W→IsVotes W b vs):=fun W hW=>hs.later hW
       have HVM:Hid (∀ v∈vs,smallV v∧(∀ l∈v.os,l.length≤1048576)∧(∀ l∈v.ps,l.length≤1048576)):=hvm
       have HKB:Hid (keysOk ks=true∧ks.length / 2<vs.length∧vs.length≤ks.length):=⟨hkb,by omega,by omega⟩
       have HKS:Hid (∀ W,Below w.heap.size w W→IsStrs W a ks):=fun W hW=>strs_later hk hW
       have HKM:Hid (∀ l∈ks,l.length≤1048576):=hkm
       clear hwd hs hvm hkb hk hkm H0 H1 H2 KK XD
       go_wp2
       clear hfew hmany hf' hm'
       have ZW:Hid (∀ W,Below wd.heap.size wd W→W.cell? ⟨w.heap.size,0,none⟩=some (.int .i64 n)∧W.cell? ⟨w.heap.size,1,none⟩=some (.string ⟨root.toArray⟩)∧W.cell? ⟨w.heap.size,2,none⟩=some (.slice b vs.length cb)):=fun W hW=>⟨(hW.cell (p:=⟨w.heap.size,0,none⟩) hxd).trans SD.out.1,(hW.cell (p:=⟨w.heap.size,1,none⟩) hxd).trans SD.out.2.1,(hW.cell (p:=⟨w.heap.size,2,none⟩) hxd).trans SD.out.2.2⟩
       go_loopw [5] (fun i wr=>∃ j:Nat,j≤vs.length∧i=.int .i64 (j:Int)∧Hid (∀ q (h2:q+1<vs.length),q+1<j→(vs[q]'(by omega)).nd<vs[q+1].nd)∧Hid (∀ v∈vs.take j,holdV ks n root v=true)∧Below wd.heap.size wd wr) (fun i _=>vs.length - (intOf i).toNat)
       case atStart=>exact⟨0,Nat.zero_le _,rfl,by rw[Hid];intro q h2 h;omega,by rw[Hid];simp,Below.refl _ _⟩
       case round =>
        obtain⟨j,hj,rfl,HA,HH,hbel⟩:=hrel
        have hsz:=hbel.size
        have BW:=Ba.trans (hbel.mono Ba.size)
        clear z0 z1 z2
        obtain⟨z0,z1,z2⟩:=ZW.out wr hbel
        by_cases hlt:j<vs.length
        · obtain⟨bb,off,rfl,hc⟩:∃ bb off,b=some ⟨bb,off,none⟩∧∀ j (h:j<vs.length),∃ ao co ap cp,wr.cell? ⟨bb,off+j*4,none⟩=some (.int .i64 vs[j].nd)∧wr.cell? ⟨bb,off+j*4+1,none⟩=some (.int .i64 vs[j].i)∧wr.cell? ⟨bb,off+j*4+2,none⟩=some (.slice ao vs[j].os.length co)∧wr.cell? ⟨bb,off+j*4+3,none⟩=some (.slice ap vs[j].ps.length cp)∧IsStrs wr ao vs[j].os∧IsStrs wr ap vs[j].ps:=by
           rcases HVS.out wr BW with h | h
           · rw[h] at hlt;simp at hlt
           · exact h
          obtain⟨ao,co,ap,cp,c0,c1,c2,c3,s1,s2⟩:=hc j hlt
          have hj0:(0:Int)≤(j:Int):=by omega
          have hj1:(j:Int)<(vs.length:Int):=by omega
          have HB1:Hid (∀ q (h2:q+1<vs.length),q+1=j→¬ (vs[q]'(by omega)).nd<vs[j].nd→out=false):=fun q h2 e h=>HFALL.out q h2 (by subst e;first | exact h | exact Int.not_lt.1 h)
          have HG1:Hid (∀ q (h2:q+1<vs.length),q+1=j→(vs[q]'(by omega)).nd<vs[j].nd→∀ q (h2:q+1<vs.length),q+1<j+1→(vs[q]'(by omega)).nd<vs[q+1].nd):=fun q0 h0 e0 h q h2 hq=>by
           by_cases e:q+1=j
           · subst e
             have:q0=q:=by omega
             subst this
             exact h
           · exact HA.out q h2 (by omega)
          have hlw:w.heap.size<wr.heap.size:=Nat.lt_of_lt_of_le hxd hsz
          have hlb:bb<wr.heap.size:=World.block_lt_of_cell? wr _ c0
          cases j with
          | zero =>
            have HG0:Hid (∀ q (h2:q+1<vs.length),q+1<0+1→(vs[q]'(by omega)).nd<vs[q+1].nd):=fun q h2 h=>by omega
            obtain⟨⟨m1,m2⟩,m3,m4⟩:=HVM.out vs[0] (List.getElem_mem hlt)
            have HB5:Hid (holdV ks n root vs[0]=false→out=false):=HBAD.out (0) hlt
            have HG5:Hid (holdV ks n root vs[0]=true→∀ v∈vs.take (0+1),holdV ks n root v=true):=fun h v hv=>by
             rw[List.take_succ_eq_append_getElem hlt,List.mem_append] at hv
             rcases hv with hv | hv
             · exact HH.out v hv
             · simp at hv;rw[hv];exact h
            obtain⟨⟨nd,i,os,ps⟩,hx⟩:∃ x,x=vs[0]:=⟨_,rfl⟩
            rw[←hx] at c0 c1 c2 c3 s1 s2 m1 m2 m3 m4 HB5 HG5
            simp only at c0 c1 c2 c3 m1 m2 m3 m4
            simp only[Nat.zero_mul,Nat.add_zero] at c0 c1 c2 c3
            have hd:Below wr.heap.size wr wr.drew:=⟨rfl,rfl,rfl,Nat.le_refl _,fun _ _=>rfl⟩
            have KV:=spec_voteOk a cap ks n root nd i ao ap co cp os ps wr.drew hkl HKM.out hl m1 m3 m2 m4 (strs_later (HKS.out _ BW) hd) (strs_later s1 hd) (strs_later s2 hd) (rtV n root ⟨nd,i,os,ps⟩) (okV n root ⟨nd,i,os,ps⟩) (rtV_is n root ⟨nd,i,os,ps⟩)
            rw[show vOk ks n root nd (rtV n root ⟨nd,i,os,ps⟩) (okV n root ⟨nd,i,os,ps⟩)=holdV ks n root ⟨nd,i,os,ps⟩ from rfl] at KV
            obtain⟨hb,hhb⟩:∃ hb,hb=holdV ks n root ⟨nd,i,os,ps⟩:=⟨_,rfl⟩
            rw[←hhb] at KV HB5 HG5
            have SX:Hid (wr.cell? ⟨w.heap.size,0,none⟩=some (.int .i64 n)∧wr.cell? ⟨w.heap.size,1,none⟩=some (.string ⟨root.toArray⟩)∧wr.cell? ⟨w.heap.size,2,none⟩=some (.slice (some ⟨bb,off,none⟩) vs.length cb)∧wr.cell? ⟨bb,off,none⟩=some (.int .i64 nd)∧wr.cell? ⟨bb,off+1,none⟩=some (.int .i64 i)∧wr.cell? ⟨bb,off+2,none⟩=some (.slice ao os.length co)∧wr.cell? ⟨bb,off+3,none⟩=some (.slice ap ps.length cp)):=⟨z0,z1,z2,c0,c1,c2,c3⟩
            clear hc hx hhb HA HH HB1 HG1 s1 s2 m3 m4 hd
            go_wp2_with fail
            refine wp_region_held_drew (S:=fun w'=>w'.cell? ⟨w.heap.size,0,none⟩=some (.int .i64 n)∧w'.cell? ⟨w.heap.size,1,none⟩=some (.string ⟨root.toArray⟩)∧w'.cell? ⟨w.heap.size,2,none⟩=some (.slice (some ⟨bb,off,none⟩) vs.length cb)∧w'.cell? ⟨bb,off,none⟩=some (.int .i64 nd)∧w'.cell? ⟨bb,off+1,none⟩=some (.int .i64 i)∧w'.cell? ⟨bb,off+2,none⟩=some (.slice ao os.length co)∧w'.cell? ⟨bb,off+3,none⟩=some (.slice ap ps.length cp)) (by kernel_rfl) SX.out (fun hHeld=>?_)
            refine wpAnyH_take (i := 0) (oi := { dst := some 33, op := Op.move (Operand.tmp 5), type := 3, pos := "l11_checkpoints.go:47", after := #[], guard := none }) (v := ?vi0) rfl (by kernel_rfl) (by kernel_rfl) (by kernel_rfl) (fun _ _ _ h => h) (Or.inl ⟨by rfl, ?yi0⟩) (by assumption) ?ri0
            case yi0=>(intro w hSw;(try dsimp only at hSw);go_simp;(try with_reducible rfl))
            try simp only[Act.put,List.setIfInBounds_toArray,List.set_cons_zero,List.set_cons_succ]
            refine wpAnyH_take (i := 1) (oi := { dst := some 34, op := Op.binOp BinOp.gtr 3 (Operand.tmp 33) (Operand.const (Value.int IntKind.i64 0)) 3, type := 4, pos := "l11_checkpoints.go:47", after := #[{ on := 0, ground := Ground.data }], guard := none }) (v := ?vi1) rfl (by kernel_rfl) (by kernel_rfl) (by kernel_rfl) (fun _ _ _ h => h) (Or.inl ⟨by rfl, ?yi1⟩) (by assumption) ?ri1
            case yi1=>(intro w hSw;(try dsimp only at hSw);go_simp;(try with_reducible rfl))
            try simp only[Act.put,List.setIfInBounds_toArray,List.set_cons_zero,List.set_cons_succ]
            refine wpAnyH_take (i := 2) (oi := { dst := some 35, op := Op.move (Operand.tmp 34), type := 4, pos := "l11_checkpoints.go:47", after := #[{ on := 1, ground := Ground.data }], guard := none }) (v := ?vi2) rfl (by kernel_rfl) (by kernel_rfl) (by kernel_rfl) (fun _ _ _ h => h) (Or.inl ⟨by rfl, ?yi2⟩) (by assumption) ?ri2
            case yi2=>(intro w hSw;(try dsimp only at hSw);go_simp;(try with_reducible rfl))
            try simp only[Act.put,List.setIfInBounds_toArray,List.set_cons_zero,List.set_cons_succ]
            refine wpAnyH_take (i := 3) (oi := { dst := some 36, op := Op.fieldAddr 37 (Operand.tmp 3) 2, type := 0, pos := "l11_checkpoints.go:47", after := #[{ on := 2, ground := Ground.guard }], guard := some (2, true) }) (v := undef) rfl (by kernel_rfl) (by kernel_rfl) (by kernel_rfl) (fun _ _ _ h => h) (Or.inr ⟨by rfl, rfl⟩) (by assumption) ?_
            try simp only[Act.put,List.setIfInBounds_toArray,List.set_cons_zero,List.set_cons_succ]
            refine wpAnyH_take (i := 4) (oi := { dst := some 37, op := Op.load 35 (Operand.tmp 36), type := 35, pos := "l11_checkpoints.go:47", after := #[{ on := 3, ground := Ground.data }, { on := 2, ground := Ground.guard }], guard := some (2, true) }) (v := undef) rfl (by kernel_rfl) (by kernel_rfl) (by kernel_rfl) (fun _ _ _ h => h) (Or.inr ⟨by rfl, rfl⟩) (by assumption) ?_
            try simp only[Act.put,List.setIfInBounds_toArray,List.set_cons_zero,List.set_cons_succ]
            refine wpAnyH_take (i := 5) (oi := { dst := some 38, op := Op.move (Operand.tmp 5), type := 3, pos := "l11_checkpoints.go:47", after := #[{ on := 2, ground := Ground.guard }], guard := some (2, true) }) (v := undef) rfl (by kernel_rfl) (by kernel_rfl) (by kernel_rfl) (fun _ _ _ h => h) (Or.inr ⟨by rfl, rfl⟩) (by assumption) ?_
            try simp only[Act.put,List.setIfInBounds_toArray,List.set_cons_zero,List.set_cons_succ]
            refine wpAnyH_take (i := 6) (oi := { dst := some 39, op := Op.binOp BinOp.sub 3 (Operand.tmp 38) (Operand.const (Value.int IntKind.i64 1)) 3, type := 3, pos := "l11_checkpoints.go:47", after := #[{ on := 5, ground := Ground.data }, { on := 2, ground := Ground.guard }], guard := some (2, true) }) (v := undef) rfl (by kernel_rfl) (by kernel_rfl) (by kernel_rfl) (fun _ _ _ h => h) (Or.inr ⟨by rfl, rfl⟩) (by assumption) ?_
            try simp only[Act.put,List.setIfInBounds_toArray,List.set_cons_zero,List.set_cons_succ]
            refine wpAnyH_take (i := 7) (oi := { dst := some 40, op := Op.indexAddr 35 (Operand.tmp 37) (Operand.tmp 39), type := 0, pos := "l11_checkpoints.go:47", after := #[{ on := 4, ground := Ground.data }, { on := 6, ground := Ground.data }, { on := 2, ground := Ground.guard }], guard := some (2, true) }) (v := undef) rfl (by kernel_rfl) (by kernel_rfl) (by kernel_rfl) (fun _ _ _ h => h) (Or.inr ⟨by rfl, rfl⟩) (by assumption) ?_
            try simp only[Act.put,List.setIfInBounds_toArray,List.set_cons_zero,List.set_cons_succ]
            refine wpAnyH_take (i := 8) (oi := { dst := some 41, op := Op.fieldAddr 74 (Operand.tmp 40) 0, type := 0, pos := "l11_checkpoints.go:47", after := #[{ on := 7, ground := Ground.data }, { on := 2, ground := Ground.guard }], guard := some (2, true) }) (v := undef) rfl (by kernel_rfl) (by kernel_rfl) (by kernel_rfl) (fun _ _ _ h => h) (Or.inr ⟨by rfl, rfl⟩) (by assumption) ?_
            try simp only[Act.put,List.setIfInBounds_toArray,List.set_cons_zero,List.set_cons_succ]
            refine wpAnyH_take (i := 9) (oi := { dst := some 42, op := Op.load 2 (Operand.tmp 41), type := 2, pos := "l11_checkpoints.go:47", after := #[{ on := 8, ground := Ground.data }, { on := 2, ground := Ground.guard }], guard := some (2, true) }) (v := undef) rfl (by kernel_rfl) (by kernel_rfl) (by kernel_rfl) (fun _ _ _ h => h) (Or.inr ⟨by rfl, rfl⟩) (by assumption) ?_
            try simp only[Act.put,List.setIfInBounds_toArray,List.set_cons_zero,List.set_cons_succ]
            refine wpAnyH_take (i := 10) (oi := { dst := some 43, op := Op.fieldAddr 37 (Operand.tmp 3) 2, type := 0, pos := "l11_checkpoints.go:47", after := #[{ on := 2, ground := Ground.guard }], guard := some (2, true) }) (v := undef) rfl (by kernel_rfl) (by kernel_rfl) (by kernel_rfl) (fun _ _ _ h => h) (Or.inr ⟨by rfl, rfl⟩) (by assumption) ?_
            try simp only[Act.put,List.setIfInBounds_toArray,List.set_cons_zero,List.set_cons_succ]
            refine wpAnyH_take (i := 11) (oi := { dst := some 44, op := Op.load 35 (Operand.tmp 43), type := 35, pos := "l11_checkpoints.go:47", after := #[{ on := 10, ground := Ground.data }, { on := 2, ground := Ground.guard }], guard := some (2, true) }) (v := undef) rfl (by kernel_rfl) (by kernel_rfl) (by kernel_rfl) (fun _ _ _ h => h) (Or.inr ⟨by rfl, rfl⟩) (by assumption) ?_
            try simp only[Act.put,List.setIfInBounds_toArray,List.set_cons_zero,List.set_cons_succ]
            refine wpAnyH_take (i := 12) (oi := { dst := some 45, op := Op.move (Operand.tmp 5), type := 3, pos := "l11_checkpoints.go:47", after := #[{ on := 2, ground := Ground.guard }], guard := some (2, true) }) (v := undef) rfl (by kernel_rfl) (by kernel_rfl) (by kernel_rfl) (fun _ _ _ h => h) (Or.inr ⟨by rfl, rfl⟩) (by assumption) ?_
            try simp only[Act.put,List.setIfInBounds_toArray,List.set_cons_zero,List.set_cons_succ]
            refine wpAnyH_take (i := 13) (oi := { dst := some 46, op := Op.indexAddr 35 (Operand.tmp 44) (Operand.tmp 45), type := 0, pos := "l11_checkpoints.go:47", after := #[{ on := 11, ground := Ground.data }, { on := 12, ground := Ground.data }, { on := 2, ground := Ground.guard }], guard := some (2, true) }) (v := undef) rfl (by kernel_rfl) (by kernel_rfl) (by kernel_rfl) (fun _ _ _ h => h) (Or.inr ⟨by rfl, rfl⟩) (by assumption) ?_
            try simp only[Act.put,List.setIfInBounds_toArray,List.set_cons_zero,List.set_cons_succ]
            refine wpAnyH_take (i := 14) (oi := { dst := some 47, op := Op.fieldAddr 74 (Operand.tmp 46) 0, type := 0, pos := "l11_checkpoints.go:47", after := #[{ on := 13, ground := Ground.data }, { on := 2, ground := Ground.guard }], guard := some (2, true) }) (v := undef) rfl (by kernel_rfl) (by kernel_rfl) (by kernel_rfl) (fun _ _ _ h => h) (Or.inr ⟨by rfl, rfl⟩) (by assumption) ?_
            try simp only[Act.put,List.setIfInBounds_toArray,List.set_cons_zero,List.set_cons_succ]
            refine wpAnyH_take (i := 15) (oi := { dst := some 48, op := Op.load 2 (Operand.tmp 47), type := 2, pos := "l11_checkpoints.go:47", after := #[{ on := 14, ground := Ground.data }, { on := 2, ground := Ground.guard }], guard := some (2, true) }) (v := undef) rfl (by kernel_rfl) (by kernel_rfl) (by kernel_rfl) (fun _ _ _ h => h) (Or.inr ⟨by rfl, rfl⟩) (by assumption) ?_
            try simp only[Act.put,List.setIfInBounds_toArray,List.set_cons_zero,List.set_cons_succ]
            refine wpAnyH_take (i := 16) (oi := { dst := some 49, op := Op.binOp BinOp.geq 2 (Operand.tmp 42) (Operand.tmp 48) 2, type := 4, pos := "l11_checkpoints.go:47", after := #[{ on := 9, ground := Ground.data }, { on := 15, ground := Ground.data }, { on := 2, ground := Ground.guard }], guard := some (2, true) }) (v := undef) rfl (by kernel_rfl) (by kernel_rfl) (by kernel_rfl) (fun _ _ _ h => h) (Or.inr ⟨by rfl, rfl⟩) (by assumption) ?_
            try simp only[Act.put,List.setIfInBounds_toArray,List.set_cons_zero,List.set_cons_succ]
            refine wpAnyH_take (i := 17) (oi := { dst := some 50, op := Op.pick (Operand.tmp 35) (Operand.tmp 49) (Operand.const (Value.bool false)), type := 4, pos := "l11_checkpoints.go:47", after := #[{ on := 2, ground := Ground.data }, { on := 16, ground := Ground.data }], guard := none }) (v := ?vi17) rfl (by kernel_rfl) (by kernel_rfl) (by kernel_rfl) (fun _ _ _ h => h) (Or.inl ⟨by rfl, ?yi17⟩) (by assumption) ?ri17
            case yi17=>(intro w hSw;(try dsimp only at hSw);go_simp;(try with_reducible rfl))
            try simp only[Act.put,List.setIfInBounds_toArray,List.set_cons_zero,List.set_cons_succ]
            refine wpAnyH_take (i := 18) (oi := { dst := some 51, op := Op.move (Operand.tmp 50), type := 4, pos := "l11_checkpoints.go:47", after := #[{ on := 17, ground := Ground.data }, { on := 2, ground := Ground.chain }], guard := none }) (v := ?vi18) rfl (by kernel_rfl) (by kernel_rfl) (by kernel_rfl) (fun _ _ _ h => h) (Or.inl ⟨by rfl, ?yi18⟩) (by assumption) ?ri18
            case yi18=>(intro w hSw;(try dsimp only at hSw);go_simp;(try with_reducible rfl))
            try simp only[Act.put,List.setIfInBounds_toArray,List.set_cons_zero,List.set_cons_succ]
            refine wpAnyH_take (i := 19) (oi := { dst := some 52, op := Op.move (Operand.tmp 0), type := 22, pos := "l11_checkpoints.go:47", after := #[{ on := 18, ground := Ground.guard }], guard := some (18, false) }) (v := ?vi19) rfl (by kernel_rfl) (by kernel_rfl) (by kernel_rfl) (fun _ _ _ h => h) (Or.inl ⟨by rfl, ?yi19⟩) (by assumption) ?ri19
            case yi19=>(intro w hSw;(try dsimp only at hSw);go_simp;(try with_reducible rfl))
            try simp only[Act.put,List.setIfInBounds_toArray,List.set_cons_zero,List.set_cons_succ]
            refine wpAnyH_take (i := 20) (oi := { dst := some 53, op := Op.fieldAddr 37 (Operand.tmp 3) 0, type := 0, pos := "l11_checkpoints.go:47", after := #[{ on := 18, ground := Ground.guard }], guard := some (18, false) }) (v := ?vi20) rfl (by kernel_rfl) (by kernel_rfl) (by kernel_rfl) (fun _ _ _ h => h) (Or.inl ⟨by rfl, ?yi20⟩) (by assumption) ?ri20
            case yi20=>(intro w hSw;(try dsimp only at hSw);go_simp;(try with_reducible rfl))
            try simp only[Act.put,List.setIfInBounds_toArray,List.set_cons_zero,List.set_cons_succ]
            refine wpAnyH_take (i := 21) (oi := { dst := some 54, op := Op.load 2 (Operand.tmp 53), type := 2, pos := "l11_checkpoints.go:47", after := #[{ on := 20, ground := Ground.data }, { on := 18, ground := Ground.guard }], guard := some (18, false) }) (v := ?vi21) rfl (by kernel_rfl) (by kernel_rfl) (by kernel_rfl) (fun _ _ _ h => h) (Or.inl ⟨by rfl, ?yi21⟩) (by assumption) ?ri21
            case yi21=>(intro w hSw;(try dsimp only at hSw);go_simp;(try with_reducible rfl))
            try simp only[Act.put,List.setIfInBounds_toArray,List.set_cons_zero,List.set_cons_succ]
            refine wpAnyH_take (i := 22) (oi := { dst := some 55, op := Op.fieldAddr 37 (Operand.tmp 3) 1, type := 0, pos := "l11_checkpoints.go:47", after := #[{ on := 18, ground := Ground.guard }], guard := some (18, false) }) (v := ?vi22) rfl (by kernel_rfl) (by kernel_rfl) (by kernel_rfl) (fun _ _ _ h => h) (Or.inl ⟨by rfl, ?yi22⟩) (by assumption) ?ri22
            case yi22=>(intro w hSw;(try dsimp only at hSw);go_simp;(try with_reducible rfl))
            try simp only[Act.put,List.setIfInBounds_toArray,List.set_cons_zero,List.set_cons_succ]
            refine wpAnyH_take (i := 23) (oi := { dst := some 56, op := Op.load 9 (Operand.tmp 55), type := 9, pos := "l11_checkpoints.go:47", after := #[{ on := 22, ground := Ground.data }, { on := 18, ground := Ground.guard }], guard := some (18, false) }) (v := ?vi23) rfl (by kernel_rfl) (by kernel_rfl) (by kernel_rfl) (fun _ _ _ h => h) (Or.inl ⟨by rfl, ?yi23⟩) (by assumption) ?ri23
            case yi23=>(intro w hSw;(try dsimp only at hSw);go_simp;(try with_reducible rfl))
            try simp only[Act.put,List.setIfInBounds_toArray,List.set_cons_zero,List.set_cons_succ]
            refine wpAnyH_take (i := 24) (oi := { dst := some 57, op := Op.fieldAddr 37 (Operand.tmp 3) 2, type := 0, pos := "l11_checkpoints.go:47", after := #[{ on := 18, ground := Ground.guard }], guard := some (18, false) }) (v := ?vi24) rfl (by kernel_rfl) (by kernel_rfl) (by kernel_rfl) (fun _ _ _ h => h) (Or.inl ⟨by rfl, ?yi24⟩) (by assumption) ?ri24
            case yi24=>(intro w hSw;(try dsimp only at hSw);go_simp;(try with_reducible rfl))
            try simp only[Act.put,List.setIfInBounds_toArray,List.set_cons_zero,List.set_cons_succ]
            refine wpAnyH_take (i := 25) (oi := { dst := some 58, op := Op.load 35 (Operand.tmp 57), type := 35, pos := "l11_checkpoints.go:47", after := #[{ on := 24, ground := Ground.data }, { on := 18, ground := Ground.guard }], guard := some (18, false) }) (v := ?vi25) rfl (by kernel_rfl) (by kernel_rfl) (by kernel_rfl) (fun _ _ _ h => h) (Or.inl ⟨by rfl, ?yi25⟩) (by assumption) ?ri25
            case yi25=>(intro w hSw;(try dsimp only at hSw);go_simp;(try with_reducible rfl))
            try simp only[Act.put,List.setIfInBounds_toArray,List.set_cons_zero,List.set_cons_succ]
            refine wpAnyH_take (i := 26) (oi := { dst := some 59, op := Op.move (Operand.tmp 5), type := 3, pos := "l11_checkpoints.go:47", after := #[{ on := 18, ground := Ground.guard }], guard := some (18, false) }) (v := ?vi26) rfl (by kernel_rfl) (by kernel_rfl) (by kernel_rfl) (fun _ _ _ h => h) (Or.inl ⟨by rfl, ?yi26⟩) (by assumption) ?ri26
            case yi26=>(intro w hSw;(try dsimp only at hSw);go_simp;(try with_reducible rfl))
            try simp only[Act.put,List.setIfInBounds_toArray,List.set_cons_zero,List.set_cons_succ]
            refine wpAnyH_take (i := 27) (oi := { dst := some 60, op := Op.indexAddr 35 (Operand.tmp 58) (Operand.tmp 59), type := 0, pos := "l11_checkpoints.go:47", after := #[{ on := 25, ground := Ground.data }, { on := 26, ground := Ground.data }, { on := 18, ground := Ground.guard }], guard := some (18, false) }) (v := ?vi27) rfl (by kernel_rfl) (by kernel_rfl) (by kernel_rfl) (fun _ _ _ h => h) (Or.inl ⟨by rfl, ?yi27⟩) (by assumption) ?ri27
            case yi27=>(intro w hSw;(try dsimp only at hSw);go_simp;(try with_reducible rfl))
            try simp only[Act.put,List.setIfInBounds_toArray,List.set_cons_zero,List.set_cons_succ]
            refine wpAnyH_take (i := 28) (oi := { dst := some 61, op := Op.load 74 (Operand.tmp 60), type := 74, pos := "l11_checkpoints.go:47", after := #[{ on := 27, ground := Ground.data }, { on := 18, ground := Ground.guard }], guard := some (18, false) }) (v := ?vi28) rfl (by kernel_rfl) (by kernel_rfl) (by kernel_rfl) (fun _ _ _ h => h) (Or.inl ⟨by rfl, ?yi28⟩) (by assumption) ?ri28
            case yi28=>(intro w hSw;(try dsimp only at hSw);go_simp;(try with_reducible rfl))
            try simp only[Act.put,List.setIfInBounds_toArray,List.set_cons_zero,List.set_cons_succ]
            refine wpAnyH_ready (rs:=[29]) (by kernel_rfl) (by simp) ?_
            refine AllReadyH.cons (o := { dst := some 62, op := Op.call { callee := Callee.value (Operand.func 35), args := #[Operand.tmp 52, Operand.tmp 54, Operand.tmp 56, Operand.tmp 61], argTypes := #[22, 2, 9, 74] }, type := 4, pos := "l11_checkpoints.go:47", after := #[{ on := 19, ground := Ground.data }, { on := 21, ground := Ground.data }, { on := 23, ground := Ground.data }, { on := 28, ground := Ground.data }, { on := 18, ground := Ground.chain }, { on := 18, ground := Ground.guard }], guard := some (18, false) }) rfl (fun K hK => ?_) AllReadyH.nil
            go_simp
            go_at_call 35
            with_reducible refine KV.mono ?_
            rintro e w5 ⟨rfl,b5⟩
            have b5':Below wr.heap.size wr w5:=⟨b5.os,b5.tape,b5.output,b5.size,b5.block⟩
            have D5:=hbel.trans (b5'.mono hsz)
            have S5:Hid (w5.cell? ⟨w.heap.size,0,none⟩=some (.int .i64 n)∧w5.cell? ⟨w.heap.size,1,none⟩=some (.string ⟨root.toArray⟩)∧w5.cell? ⟨w.heap.size,2,none⟩=some (.slice (some ⟨bb,off,none⟩) vs.length cb)∧w5.cell? ⟨bb,off,none⟩=some (.int .i64 nd)∧w5.cell? ⟨bb,off+1,none⟩=some (.int .i64 i)∧w5.cell? ⟨bb,off+2,none⟩=some (.slice ao os.length co)∧w5.cell? ⟨bb,off+3,none⟩=some (.slice ap ps.length cp)):=⟨(b5'.cell (p:=⟨w.heap.size,0,none⟩) hlw).trans SX.out.1,(b5'.cell (p:=⟨w.heap.size,1,none⟩) hlw).trans SX.out.2.1,(b5'.cell (p:=⟨w.heap.size,2,none⟩) hlw).trans SX.out.2.2.1,(b5'.cell (p:=⟨bb,off,none⟩) hlb).trans SX.out.2.2.2.1,(b5'.cell (p:=⟨bb,off+1,none⟩) hlb).trans SX.out.2.2.2.2.1,(b5'.cell (p:=⟨bb,off+2,none⟩) hlb).trans SX.out.2.2.2.2.2.1,(b5'.cell (p:=⟨bb,off+3,none⟩) hlb).trans SX.out.2.2.2.2.2.2⟩
            clear b5 b5'
            clear hHeld
            refine hK.out _ _ S5.out (fun hHeld=>?_)
            clear hK K
            try simp only[Act.put,List.setIfInBounds_toArray,List.set_cons_zero,List.set_cons_succ]
            refine wpAnyH_take (i := 30) (oi := { dst := some 63, op := Op.unOp UnOp.not 4 (Operand.tmp 62), type := 4, pos := "l11_checkpoints.go:47", after := #[{ on := 29, ground := Ground.data }, { on := 18, ground := Ground.guard }], guard := some (18, false) }) (v := ?vi30) rfl (by kernel_rfl) (by kernel_rfl) (by kernel_rfl) (fun _ _ _ h => h) (Or.inl ⟨by rfl, ?yi30⟩) (by assumption) ?ri30
            case yi30=>(intro w hSw;(try dsimp only at hSw);go_simp;(try with_reducible rfl))
            try simp only[Act.put,List.setIfInBounds_toArray,List.set_cons_zero,List.set_cons_succ]
            refine wpAnyH_take (i := 31) (oi := { dst := some 64, op := Op.pick (Operand.tmp 51) (Operand.const (Value.bool true)) (Operand.tmp 63), type := 4, pos := "l11_checkpoints.go:47", after := #[{ on := 18, ground := Ground.data }, { on := 30, ground := Ground.data }], guard := none }) (v := ?vi31) rfl (by kernel_rfl) (by kernel_rfl) (by kernel_rfl) (fun _ _ _ h => h) (Or.inl ⟨by rfl, ?yi31⟩) (by assumption) ?ri31
            case yi31=>(intro w hSw;(try dsimp only at hSw);go_simp;(try with_reducible rfl))
            try simp only[Act.put,List.setIfInBounds_toArray,List.set_cons_zero,List.set_cons_succ]
            refine wpAnyH_done (by kernel_rfl) ?_ _
            cases hb with
            | true =>
              have HN:=HG5.out rfl
              go_wp2
              go_roundw
              case rel=>exact⟨0+1,by omega,by go_num,HG0.out,HN,D5⟩
              case measure=>simp[intOf];omega
            | false =>
              have HZ:Hid (out=false):=HB5.out rfl
              go_wp2
              go_ret
              exact⟨by rw[HZ.out];rfl,Ba.trans (D5.mono Ba.size)⟩
          | succ j' =>
            obtain⟨_,_,_,_,p0,_⟩:=hc j' (by omega)
            have hB:=HB1.out j' hlt rfl
            have hG:=HG1.out j' hlt rfl
            obtain⟨⟨m1,m2⟩,m3,m4⟩:=HVM.out vs[j'+1] (List.getElem_mem hlt)
            have HB5:Hid (holdV ks n root vs[j'+1]=false→out=false):=HBAD.out (j'+1) hlt
            have HG5:Hid (holdV ks n root vs[j'+1]=true→∀ v∈vs.take (j'+1+1),holdV ks n root v=true):=fun h v hv=>by
             rw[List.take_succ_eq_append_getElem hlt,List.mem_append] at hv
             rcases hv with hv | hv
             · exact HH.out v hv
             · simp at hv;rw[hv];exact h
            obtain⟨pn,hpn⟩:∃ pn,pn=(vs[j']'(by omega)).nd:=⟨_,rfl⟩
            rw[←hpn] at p0 hB hG
            obtain⟨⟨nd,i,os,ps⟩,hx⟩:∃ x,x=vs[j'+1]:=⟨_,rfl⟩
            rw[←hx] at c0 c1 c2 c3 hB hG s1 s2 m1 m2 m3 m4 HB5 HG5
            simp only at c0 c1 c2 c3 hB hG m1 m2 m3 m4
            have HB2:Hid (¬ pn<nd→out=false):=hB
            have HG2:Hid (pn<nd→∀ q (h2:q+1<vs.length),q+1<j'+1+1→(vs[q]'(by omega)).nd<vs[q+1].nd):=hG
            have hd:Below wr.heap.size wr wr.drew:=⟨rfl,rfl,rfl,Nat.le_refl _,fun _ _=>rfl⟩
            have KV:=spec_voteOk a cap ks n root nd i ao ap co cp os ps wr.drew hkl HKM.out hl m1 m3 m2 m4 (strs_later (HKS.out _ BW) hd) (strs_later s1 hd) (strs_later s2 hd) (rtV n root ⟨nd,i,os,ps⟩) (okV n root ⟨nd,i,os,ps⟩) (rtV_is n root ⟨nd,i,os,ps⟩)
            rw[show vOk ks n root nd (rtV n root ⟨nd,i,os,ps⟩) (okV n root ⟨nd,i,os,ps⟩)=holdV ks n root ⟨nd,i,os,ps⟩ from rfl] at KV
            obtain⟨hb,hhb⟩:∃ hb,hb=holdV ks n root ⟨nd,i,os,ps⟩:=⟨_,rfl⟩
            rw[←hhb] at KV HB5 HG5
            have SX:Hid (wr.cell? ⟨w.heap.size,0,none⟩=some (.int .i64 n)∧wr.cell? ⟨w.heap.size,1,none⟩=some (.string ⟨root.toArray⟩)∧wr.cell? ⟨w.heap.size,2,none⟩=some (.slice (some ⟨bb,off,none⟩) vs.length cb)∧wr.cell? ⟨bb,off+(j'+1)*4,none⟩=some (.int .i64 nd)∧wr.cell? ⟨bb,off+(j'+1)*4+1,none⟩=some (.int .i64 i)∧wr.cell? ⟨bb,off+(j'+1)*4+2,none⟩=some (.slice ao os.length co)∧wr.cell? ⟨bb,off+(j'+1)*4+3,none⟩=some (.slice ap ps.length cp)∧wr.cell? ⟨bb,off+j'*4,none⟩=some (.int .i64 pn)):=⟨z0,z1,z2,c0,c1,c2,c3,p0⟩
            have hq0:(0:Int)≤(j':Int):=by omega
            have hq1:(j':Int)<(vs.length:Int):=by omega
            have hq2:(0:Int)<(j':Int)+1:=by omega
            have hq3:(0:Int)≤(j':Int)+1:=by omega
            have hq4:(j':Int)+1<(vs.length:Int):=by omega
            have hwj:IntKind.i64.wrap (j':Int)=(j':Int):=by simp[IntKind.wrap,IntKind.signed,IntKind.bits];omega
            clear hc hx hhb hpn HA HH HB1 HG1 hB hG s1 s2 m3 m4 hd p0
            by_cases hr:pn<nd
            · have hr1:¬ nd≤pn:=by omega
              have hr2:decide (nd≤pn)=false:=decide_eq_false hr1
              have HR2:Hid (∀ q (h2:q+1<vs.length),q+1<j'+1+1→(vs[q]'(by omega)).nd<vs[q+1].nd):=HG2.out hr
              go_wp2_with fail
              refine wp_region_held_drew (S:=fun w'=>w'.cell? ⟨w.heap.size,0,none⟩=some (.int .i64 n)∧w'.cell? ⟨w.heap.size,1,none⟩=some (.string ⟨root.toArray⟩)∧w'.cell? ⟨w.heap.size,2,none⟩=some (.slice (some ⟨bb,off,none⟩) vs.length cb)∧w'.cell? ⟨bb,off+(j'+1)*4,none⟩=some (.int .i64 nd)∧w'.cell? ⟨bb,off+(j'+1)*4+1,none⟩=some (.int .i64 i)∧w'.cell? ⟨bb,off+(j'+1)*4+2,none⟩=some (.slice ao os.length co)∧w'.cell? ⟨bb,off+(j'+1)*4+3,none⟩=some (.slice ap ps.length cp)∧w'.cell? ⟨bb,off+j'*4,none⟩=some (.int .i64 pn)) (by kernel_rfl) SX.out (fun hHeld=>?_)
              refine wpAnyH_take (i := 0) (oi := { dst := some 33, op := Op.move (Operand.tmp 5), type := 3, pos := "l11_checkpoints.go:47", after := #[], guard := none }) (v := ?vj0) rfl (by kernel_rfl) (by kernel_rfl) (by kernel_rfl) (fun _ _ _ h => h) (Or.inl ⟨by rfl, ?yj0⟩) (by assumption) ?rj0
              case yj0=>(intro w hSw;(try dsimp only at hSw);go_simp;(try with_reducible rfl))
              try simp only[Act.put,List.setIfInBounds_toArray,List.set_cons_zero,List.set_cons_succ]
              refine wpAnyH_take (i := 1) (oi := { dst := some 34, op := Op.binOp BinOp.gtr 3 (Operand.tmp 33) (Operand.const (Value.int IntKind.i64 0)) 3, type := 4, pos := "l11_checkpoints.go:47", after := #[{ on := 0, ground := Ground.data }], guard := none }) (v := ?vj1) rfl (by kernel_rfl) (by kernel_rfl) (by kernel_rfl) (fun _ _ _ h => h) (Or.inl ⟨by rfl, ?yj1⟩) (by assumption) ?rj1
              case yj1=>(intro w hSw;(try dsimp only at hSw);go_simp;(try with_reducible rfl))
              try simp only[Act.put,List.setIfInBounds_toArray,List.set_cons_zero,List.set_cons_succ]
              refine wpAnyH_take (i := 2) (oi := { dst := some 35, op := Op.move (Operand.tmp 34), type := 4, pos := "l11_checkpoints.go:47", after := #[{ on := 1, ground := Ground.data }], guard := none }) (v := ?vj2) rfl (by kernel_rfl) (by kernel_rfl) (by kernel_rfl) (fun _ _ _ h => h) (Or.inl ⟨by rfl, ?yj2⟩) (by assumption) ?rj2
              case yj2=>(intro w hSw;(try dsimp only at hSw);go_simp;(try with_reducible rfl))
              try simp only[Act.put,List.setIfInBounds_toArray,List.set_cons_zero,List.set_cons_succ]
              refine wpAnyH_take (i := 3) (oi := { dst := some 36, op := Op.fieldAddr 37 (Operand.tmp 3) 2, type := 0, pos := "l11_checkpoints.go:47", after := #[{ on := 2, ground := Ground.guard }], guard := some (2, true) }) (v := ?vj3) rfl (by kernel_rfl) (by kernel_rfl) (by kernel_rfl) (fun _ _ _ h => h) (Or.inl ⟨by rfl, ?yj3⟩) (by assumption) ?rj3
              case yj3=>(intro w hSw;(try dsimp only at hSw);go_simp;(try with_reducible rfl))
              try simp only[Act.put,List.setIfInBounds_toArray,List.set_cons_zero,List.set_cons_succ]
              refine wpAnyH_take (i := 4) (oi := { dst := some 37, op := Op.load 35 (Operand.tmp 36), type := 35, pos := "l11_checkpoints.go:47", after := #[{ on := 3, ground := Ground.data }, { on := 2, ground := Ground.guard }], guard := some (2, true) }) (v := ?vj4) rfl (by kernel_rfl) (by kernel_rfl) (by kernel_rfl) (fun _ _ _ h => h) (Or.inl ⟨by rfl, ?yj4⟩) (by assumption) ?rj4
              case yj4=>(intro w hSw;(try dsimp only at hSw);go_simp;(try with_reducible rfl))
              try simp only[Act.put,List.setIfInBounds_toArray,List.set_cons_zero,List.set_cons_succ]
              refine wpAnyH_take (i := 5) (oi := { dst := some 38, op := Op.move (Operand.tmp 5), type := 3, pos := "l11_checkpoints.go:47", after := #[{ on := 2, ground := Ground.guard }], guard := some (2, true) }) (v := ?vj5) rfl (by kernel_rfl) (by kernel_rfl) (by kernel_rfl) (fun _ _ _ h => h) (Or.inl ⟨by rfl, ?yj5⟩) (by assumption) ?rj5
              case yj5=>(intro w hSw;(try dsimp only at hSw);go_simp;(try with_reducible rfl))
              try simp only[Act.put,List.setIfInBounds_toArray,List.set_cons_zero,List.set_cons_succ]
              refine wpAnyH_take (i := 6) (oi := { dst := some 39, op := Op.binOp BinOp.sub 3 (Operand.tmp 38) (Operand.const (Value.int IntKind.i64 1)) 3, type := 3, pos := "l11_checkpoints.go:47", after := #[{ on := 5, ground := Ground.data }, { on := 2, ground := Ground.guard }], guard := some (2, true) }) (v := ?vj6) rfl (by kernel_rfl) (by kernel_rfl) (by kernel_rfl) (fun _ _ _ h => h) (Or.inl ⟨by rfl, ?yj6⟩) (by assumption) ?rj6
              case yj6=>(intro w hSw;(try dsimp only at hSw);go_simp;(try with_reducible rfl))
              try simp only[Act.put,List.setIfInBounds_toArray,List.set_cons_zero,List.set_cons_succ]
              refine wpAnyH_take (i := 7) (oi := { dst := some 40, op := Op.indexAddr 35 (Operand.tmp 37) (Operand.tmp 39), type := 0, pos := "l11_checkpoints.go:47", after := #[{ on := 4, ground := Ground.data }, { on := 6, ground := Ground.data }, { on := 2, ground := Ground.guard }], guard := some (2, true) }) (v := ?vj7) rfl (by kernel_rfl) (by kernel_rfl) (by kernel_rfl) (fun _ _ _ h => h) (Or.inl ⟨by rfl, ?yj7⟩) (by assumption) ?rj7
              case yj7=>(intro w hSw;(try dsimp only at hSw);go_simp;(try with_reducible rfl))
              try simp only[Act.put,List.setIfInBounds_toArray,List.set_cons_zero,List.set_cons_succ]
              refine wpAnyH_take (i := 8) (oi := { dst := some 41, op := Op.fieldAddr 74 (Operand.tmp 40) 0, type := 0, pos := "l11_checkpoints.go:47", after := #[{ on := 7, ground := Ground.data }, { on := 2, ground := Ground.guard }], guard := some (2, true) }) (v := ?vj8) rfl (by kernel_rfl) (by kernel_rfl) (by kernel_rfl) (fun _ _ _ h => h) (Or.inl ⟨by rfl, ?yj8⟩) (by assumption) ?rj8
              case yj8=>(intro w hSw;(try dsimp only at hSw);go_simp;(try with_reducible rfl))
              try simp only[Act.put,List.setIfInBounds_toArray,List.set_cons_zero,List.set_cons_succ]
              refine wpAnyH_take (i := 9) (oi := { dst := some 42, op := Op.load 2 (Operand.tmp 41), type := 2, pos := "l11_checkpoints.go:47", after := #[{ on := 8, ground := Ground.data }, { on := 2, ground := Ground.guard }], guard := some (2, true) }) (v := ?vj9) rfl (by kernel_rfl) (by kernel_rfl) (by kernel_rfl) (fun _ _ _ h => h) (Or.inl ⟨by rfl, ?yj9⟩) (by assumption) ?rj9
              case yj9=>(intro w hSw;(try dsimp only at hSw);go_simp;(try with_reducible rfl))
              try simp only[Act.put,List.setIfInBounds_toArray,List.set_cons_zero,List.set_cons_succ]
              refine wpAnyH_take (i := 10) (oi := { dst := some 43, op := Op.fieldAddr 37 (Operand.tmp 3) 2, type := 0, pos := "l11_checkpoints.go:47", after := #[{ on := 2, ground := Ground.guard }], guard := some (2, true) }) (v := ?vj10) rfl (by kernel_rfl) (by kernel_rfl) (by kernel_rfl) (fun _ _ _ h => h) (Or.inl ⟨by rfl, ?yj10⟩) (by assumption) ?rj10
              case yj10=>(intro w hSw;(try dsimp only at hSw);go_simp;(try with_reducible rfl))
              try simp only[Act.put,List.setIfInBounds_toArray,List.set_cons_zero,List.set_cons_succ]
              refine wpAnyH_take (i := 11) (oi := { dst := some 44, op := Op.load 35 (Operand.tmp 43), type := 35, pos := "l11_checkpoints.go:47", after := #[{ on := 10, ground := Ground.data }, { on := 2, ground := Ground.guard }], guard := some (2, true) }) (v := ?vj11) rfl (by kernel_rfl) (by kernel_rfl) (by kernel_rfl) (fun _ _ _ h => h) (Or.inl ⟨by rfl, ?yj11⟩) (by assumption) ?rj11
              case yj11=>(intro w hSw;(try dsimp only at hSw);go_simp;(try with_reducible rfl))
              try simp only[Act.put,List.setIfInBounds_toArray,List.set_cons_zero,List.set_cons_succ]
              refine wpAnyH_take (i := 12) (oi := { dst := some 45, op := Op.move (Operand.tmp 5), type := 3, pos := "l11_checkpoints.go:47", after := #[{ on := 2, ground := Ground.guard }], guard := some (2, true) }) (v := ?vj12) rfl (by kernel_rfl) (by kernel_rfl) (by kernel_rfl) (fun _ _ _ h => h) (Or.inl ⟨by rfl, ?yj12⟩) (by assumption) ?rj12
              case yj12=>(intro w hSw;(try dsimp only at hSw);go_simp;(try with_reducible rfl))
              try simp only[Act.put,List.setIfInBounds_toArray,List.set_cons_zero,List.set_cons_succ]
              refine wpAnyH_take (i := 13) (oi := { dst := some 46, op := Op.indexAddr 35 (Operand.tmp 44) (Operand.tmp 45), type := 0, pos := "l11_checkpoints.go:47", after := #[{ on := 11, ground := Ground.data }, { on := 12, ground := Ground.data }, { on := 2, ground := Ground.guard }], guard := some (2, true) }) (v := ?vj13) rfl (by kernel_rfl) (by kernel_rfl) (by kernel_rfl) (fun _ _ _ h => h) (Or.inl ⟨by rfl, ?yj13⟩) (by assumption) ?rj13
              case yj13=>(intro w hSw;(try dsimp only at hSw);go_simp;(try with_reducible rfl))
              try simp only[Act.put,List.setIfInBounds_toArray,List.set_cons_zero,List.set_cons_succ]
              refine wpAnyH_take (i := 14) (oi := { dst := some 47, op := Op.fieldAddr 74 (Operand.tmp 46) 0, type := 0, pos := "l11_checkpoints.go:47", after := #[{ on := 13, ground := Ground.data }, { on := 2, ground := Ground.guard }], guard := some (2, true) }) (v := ?vj14) rfl (by kernel_rfl) (by kernel_rfl) (by kernel_rfl) (fun _ _ _ h => h) (Or.inl ⟨by rfl, ?yj14⟩) (by assumption) ?rj14
              case yj14=>(intro w hSw;(try dsimp only at hSw);go_simp;(try with_reducible rfl))
              try simp only[Act.put,List.setIfInBounds_toArray,List.set_cons_zero,List.set_cons_succ]
              refine wpAnyH_take (i := 15) (oi := { dst := some 48, op := Op.load 2 (Operand.tmp 47), type := 2, pos := "l11_checkpoints.go:47", after := #[{ on := 14, ground := Ground.data }, { on := 2, ground := Ground.guard }], guard := some (2, true) }) (v := ?vj15) rfl (by kernel_rfl) (by kernel_rfl) (by kernel_rfl) (fun _ _ _ h => h) (Or.inl ⟨by rfl, ?yj15⟩) (by assumption) ?rj15
              case yj15=>(intro w hSw;(try dsimp only at hSw);go_simp;(try with_reducible rfl))
              try simp only[Act.put,List.setIfInBounds_toArray,List.set_cons_zero,List.set_cons_succ]
              refine wpAnyH_take (i := 16) (oi := { dst := some 49, op := Op.binOp BinOp.geq 2 (Operand.tmp 42) (Operand.tmp 48) 2, type := 4, pos := "l11_checkpoints.go:47", after := #[{ on := 9, ground := Ground.data }, { on := 15, ground := Ground.data }, { on := 2, ground := Ground.guard }], guard := some (2, true) }) (v := ?vj16) rfl (by kernel_rfl) (by kernel_rfl) (by kernel_rfl) (fun _ _ _ h => h) (Or.inl ⟨by rfl, ?yj16⟩) (by assumption) ?rj16
              case yj16=>(intro w hSw;(try dsimp only at hSw);go_simp;(try with_reducible rfl))
              try simp only[Act.put,List.setIfInBounds_toArray,List.set_cons_zero,List.set_cons_succ]
              refine wpAnyH_take (i := 17) (oi := { dst := some 50, op := Op.pick (Operand.tmp 35) (Operand.tmp 49) (Operand.const (Value.bool false)), type := 4, pos := "l11_checkpoints.go:47", after := #[{ on := 2, ground := Ground.data }, { on := 16, ground := Ground.data }], guard := none }) (v := ?vj17) rfl (by kernel_rfl) (by kernel_rfl) (by kernel_rfl) (fun _ _ _ h => h) (Or.inl ⟨by rfl, ?yj17⟩) (by assumption) ?rj17
              case yj17=>(intro w hSw;(try dsimp only at hSw);go_simp;(try with_reducible rfl))
              try simp only[Act.put,List.setIfInBounds_toArray,List.set_cons_zero,List.set_cons_succ]
              refine wpAnyH_take (i := 18) (oi := { dst := some 51, op := Op.move (Operand.tmp 50), type := 4, pos := "l11_checkpoints.go:47", after := #[{ on := 17, ground := Ground.data }, { on := 2, ground := Ground.chain }], guard := none }) (v := ?vj18) rfl (by kernel_rfl) (by kernel_rfl) (by kernel_rfl) (fun _ _ _ h => h) (Or.inl ⟨by rfl, ?yj18⟩) (by assumption) ?rj18
              case yj18=>(intro w hSw;(try dsimp only at hSw);go_simp;(try with_reducible rfl))
              try simp only[Act.put,List.setIfInBounds_toArray,List.set_cons_zero,List.set_cons_succ]
              refine wpAnyH_take (i := 19) (oi := { dst := some 52, op := Op.move (Operand.tmp 0), type := 22, pos := "l11_checkpoints.go:47", after := #[{ on := 18, ground := Ground.guard }], guard := some (18, false) }) (v := ?vj19) rfl (by kernel_rfl) (by kernel_rfl) (by kernel_rfl) (fun _ _ _ h => h) (Or.inl ⟨by rfl, ?yj19⟩) (by assumption) ?rj19
              case yj19=>(intro w hSw;(try dsimp only at hSw);go_simp;(try with_reducible rfl))
              try simp only[Act.put,List.setIfInBounds_toArray,List.set_cons_zero,List.set_cons_succ]
              refine wpAnyH_take (i := 20) (oi := { dst := some 53, op := Op.fieldAddr 37 (Operand.tmp 3) 0, type := 0, pos := "l11_checkpoints.go:47", after := #[{ on := 18, ground := Ground.guard }], guard := some (18, false) }) (v := ?vj20) rfl (by kernel_rfl) (by kernel_rfl) (by kernel_rfl) (fun _ _ _ h => h) (Or.inl ⟨by rfl, ?yj20⟩) (by assumption) ?rj20
              case yj20=>(intro w hSw;(try dsimp only at hSw);go_simp;(try with_reducible rfl))
              try simp only[Act.put,List.setIfInBounds_toArray,List.set_cons_zero,List.set_cons_succ]
              refine wpAnyH_take (i := 21) (oi := { dst := some 54, op := Op.load 2 (Operand.tmp 53), type := 2, pos := "l11_checkpoints.go:47", after := #[{ on := 20, ground := Ground.data }, { on := 18, ground := Ground.guard }], guard := some (18, false) }) (v := ?vj21) rfl (by kernel_rfl) (by kernel_rfl) (by kernel_rfl) (fun _ _ _ h => h) (Or.inl ⟨by rfl, ?yj21⟩) (by assumption) ?rj21
              case yj21=>(intro w hSw;(try dsimp only at hSw);go_simp;(try with_reducible rfl))
              try simp only[Act.put,List.setIfInBounds_toArray,List.set_cons_zero,List.set_cons_succ]
              refine wpAnyH_take (i := 22) (oi := { dst := some 55, op := Op.fieldAddr 37 (Operand.tmp 3) 1, type := 0, pos := "l11_checkpoints.go:47", after := #[{ on := 18, ground := Ground.guard }], guard := some (18, false) }) (v := ?vj22) rfl (by kernel_rfl) (by kernel_rfl) (by kernel_rfl) (fun _ _ _ h => h) (Or.inl ⟨by rfl, ?yj22⟩) (by assumption) ?rj22
              case yj22=>(intro w hSw;(try dsimp only at hSw);go_simp;(try with_reducible rfl))
              try simp only[Act.put,List.setIfInBounds_toArray,List.set_cons_zero,List.set_cons_succ]
              refine wpAnyH_take (i := 23) (oi := { dst := some 56, op := Op.load 9 (Operand.tmp 55), type := 9, pos := "l11_checkpoints.go:47", after := #[{ on := 22, ground := Ground.data }, { on := 18, ground := Ground.guard }], guard := some (18, false) }) (v := ?vj23) rfl (by kernel_rfl) (by kernel_rfl) (by kernel_rfl) (fun _ _ _ h => h) (Or.inl ⟨by rfl, ?yj23⟩) (by assumption) ?rj23
              case yj23=>(intro w hSw;(try dsimp only at hSw);go_simp;(try with_reducible rfl))
              try simp only[Act.put,List.setIfInBounds_toArray,List.set_cons_zero,List.set_cons_succ]
              refine wpAnyH_take (i := 24) (oi := { dst := some 57, op := Op.fieldAddr 37 (Operand.tmp 3) 2, type := 0, pos := "l11_checkpoints.go:47", after := #[{ on := 18, ground := Ground.guard }], guard := some (18, false) }) (v := ?vj24) rfl (by kernel_rfl) (by kernel_rfl) (by kernel_rfl) (fun _ _ _ h => h) (Or.inl ⟨by rfl, ?yj24⟩) (by assumption) ?rj24
              case yj24=>(intro w hSw;(try dsimp only at hSw);go_simp;(try with_reducible rfl))
              try simp only[Act.put,List.setIfInBounds_toArray,List.set_cons_zero,List.set_cons_succ]
              refine wpAnyH_take (i := 25) (oi := { dst := some 58, op := Op.load 35 (Operand.tmp 57), type := 35, pos := "l11_checkpoints.go:47", after := #[{ on := 24, ground := Ground.data }, { on := 18, ground := Ground.guard }], guard := some (18, false) }) (v := ?vj25) rfl (by kernel_rfl) (by kernel_rfl) (by kernel_rfl) (fun _ _ _ h => h) (Or.inl ⟨by rfl, ?yj25⟩) (by assumption) ?rj25
              case yj25=>(intro w hSw;(try dsimp only at hSw);go_simp;(try with_reducible rfl))
              try simp only[Act.put,List.setIfInBounds_toArray,List.set_cons_zero,List.set_cons_succ]
              refine wpAnyH_take (i := 26) (oi := { dst := some 59, op := Op.move (Operand.tmp 5), type := 3, pos := "l11_checkpoints.go:47", after := #[{ on := 18, ground := Ground.guard }], guard := some (18, false) }) (v := ?vj26) rfl (by kernel_rfl) (by kernel_rfl) (by kernel_rfl) (fun _ _ _ h => h) (Or.inl ⟨by rfl, ?yj26⟩) (by assumption) ?rj26
              case yj26=>(intro w hSw;(try dsimp only at hSw);go_simp;(try with_reducible rfl))
              try simp only[Act.put,List.setIfInBounds_toArray,List.set_cons_zero,List.set_cons_succ]
              refine wpAnyH_take (i := 27) (oi := { dst := some 60, op := Op.indexAddr 35 (Operand.tmp 58) (Operand.tmp 59), type := 0, pos := "l11_checkpoints.go:47", after := #[{ on := 25, ground := Ground.data }, { on := 26, ground := Ground.data }, { on := 18, ground := Ground.guard }], guard := some (18, false) }) (v := ?vj27) rfl (by kernel_rfl) (by kernel_rfl) (by kernel_rfl) (fun _ _ _ h => h) (Or.inl ⟨by rfl, ?yj27⟩) (by assumption) ?rj27
              case yj27=>(intro w hSw;(try dsimp only at hSw);go_simp;(try with_reducible rfl))
              try simp only[Act.put,List.setIfInBounds_toArray,List.set_cons_zero,List.set_cons_succ]
              refine wpAnyH_take (i := 28) (oi := { dst := some 61, op := Op.load 74 (Operand.tmp 60), type := 74, pos := "l11_checkpoints.go:47", after := #[{ on := 27, ground := Ground.data }, { on := 18, ground := Ground.guard }], guard := some (18, false) }) (v := ?vj28) rfl (by kernel_rfl) (by kernel_rfl) (by kernel_rfl) (fun _ _ _ h => h) (Or.inl ⟨by rfl, ?yj28⟩) (by assumption) ?rj28
              case yj28=>(intro w hSw;(try dsimp only at hSw);go_simp;(try with_reducible rfl))
              try simp only[Act.put,List.setIfInBounds_toArray,List.set_cons_zero,List.set_cons_succ]
              refine wpAnyH_ready (rs:=[29]) (by kernel_rfl) (by simp) ?_
              refine AllReadyH.cons (o := { dst := some 62, op := Op.call { callee := Callee.value (Operand.func 35), args := #[Operand.tmp 52, Operand.tmp 54, Operand.tmp 56, Operand.tmp 61], argTypes := #[22, 2, 9, 74] }, type := 4, pos := "l11_checkpoints.go:47", after := #[{ on := 19, ground := Ground.data }, { on := 21, ground := Ground.data }, { on := 23, ground := Ground.data }, { on := 28, ground := Ground.data }, { on := 18, ground := Ground.chain }, { on := 18, ground := Ground.guard }], guard := some (18, false) }) rfl (fun K hK => ?_) AllReadyH.nil
              go_simp
              go_at_call 35
              with_reducible refine KV.mono ?_
              rintro e w5 ⟨rfl,b5⟩
              have b5':Below wr.heap.size wr w5:=⟨b5.os,b5.tape,b5.output,b5.size,b5.block⟩
              have D5:=hbel.trans (b5'.mono hsz)
              have S5:Hid (w5.cell? ⟨w.heap.size,0,none⟩=some (.int .i64 n)∧w5.cell? ⟨w.heap.size,1,none⟩=some (.string ⟨root.toArray⟩)∧w5.cell? ⟨w.heap.size,2,none⟩=some (.slice (some ⟨bb,off,none⟩) vs.length cb)∧w5.cell? ⟨bb,off+(j'+1)*4,none⟩=some (.int .i64 nd)∧w5.cell? ⟨bb,off+(j'+1)*4+1,none⟩=some (.int .i64 i)∧w5.cell? ⟨bb,off+(j'+1)*4+2,none⟩=some (.slice ao os.length co)∧w5.cell? ⟨bb,off+(j'+1)*4+3,none⟩=some (.slice ap ps.length cp)∧w5.cell? ⟨bb,off+j'*4,none⟩=some (.int .i64 pn)):=⟨(b5'.cell (p:=⟨w.heap.size,0,none⟩) hlw).trans SX.out.1,(b5'.cell (p:=⟨w.heap.size,1,none⟩) hlw).trans SX.out.2.1,(b5'.cell (p:=⟨w.heap.size,2,none⟩) hlw).trans SX.out.2.2.1,(b5'.cell (p:=⟨bb,off+(j'+1)*4,none⟩) hlb).trans SX.out.2.2.2.1,(b5'.cell (p:=⟨bb,off+(j'+1)*4+1,none⟩) hlb).trans SX.out.2.2.2.2.1,(b5'.cell (p:=⟨bb,off+(j'+1)*4+2,none⟩) hlb).trans SX.out.2.2.2.2.2.1,(b5'.cell (p:=⟨bb,off+(j'+1)*4+3,none⟩) hlb).trans SX.out.2.2.2.2.2.2.1,(b5'.cell (p:=⟨bb,off+j'*4,none⟩) hlb).trans SX.out.2.2.2.2.2.2.2⟩
              clear b5 b5'
              clear hHeld
              refine hK.out _ _ S5.out (fun hHeld=>?_)
              clear hK K
              try simp only[Act.put,List.setIfInBounds_toArray,List.set_cons_zero,List.set_cons_succ]
              refine wpAnyH_take (i := 30) (oi := { dst := some 63, op := Op.unOp UnOp.not 4 (Operand.tmp 62), type := 4, pos := "l11_checkpoints.go:47", after := #[{ on := 29, ground := Ground.data }, { on := 18, ground := Ground.guard }], guard := some (18, false) }) (v := ?vj30) rfl (by kernel_rfl) (by kernel_rfl) (by kernel_rfl) (fun _ _ _ h => h) (Or.inl ⟨by rfl, ?yj30⟩) (by assumption) ?rj30
              case yj30=>(intro w hSw;(try dsimp only at hSw);go_simp;(try with_reducible rfl))
              try simp only[Act.put,List.setIfInBounds_toArray,List.set_cons_zero,List.set_cons_succ]
              refine wpAnyH_take (i := 31) (oi := { dst := some 64, op := Op.pick (Operand.tmp 51) (Operand.const (Value.bool true)) (Operand.tmp 63), type := 4, pos := "l11_checkpoints.go:47", after := #[{ on := 18, ground := Ground.data }, { on := 30, ground := Ground.data }], guard := none }) (v := ?vj31) rfl (by kernel_rfl) (by kernel_rfl) (by kernel_rfl) (fun _ _ _ h => h) (Or.inl ⟨by rfl, ?yj31⟩) (by assumption) ?rj31
              case yj31=>(intro w hSw;(try dsimp only at hSw);go_simp;(try with_reducible rfl))
              try simp only[Act.put,List.setIfInBounds_toArray,List.set_cons_zero,List.set_cons_succ]
              refine wpAnyH_done (by kernel_rfl) ?_ _
              cases hb with
              | true =>
                have HN:=HG5.out rfl
                go_wp2
                go_roundw
                case rel=>exact⟨j'+1+1,by omega,by go_num,HR2.out,HN,D5⟩
                case measure=>simp[intOf];omega
              | false =>
                have HZ:Hid (out=false):=HB5.out rfl
                go_wp2
                go_ret
                exact⟨by rw[HZ.out];rfl,Ba.trans (D5.mono Ba.size)⟩
            · have hr1:nd≤pn:=by omega
              have hr2:decide (nd≤pn)=true:=decide_eq_true hr1
              have HZ:Hid (out=false):=HB2.out hr
              have BWd:Below w.heap.size w wr.drew:=⟨BW.os,BW.tape,BW.output,BW.size,BW.block⟩
              clear KV HB5 HG5
              go_wp2_with fail
              refine wp_region_held_drew (S:=fun w'=>w'.cell? ⟨w.heap.size,0,none⟩=some (.int .i64 n)∧w'.cell? ⟨w.heap.size,1,none⟩=some (.string ⟨root.toArray⟩)∧w'.cell? ⟨w.heap.size,2,none⟩=some (.slice (some ⟨bb,off,none⟩) vs.length cb)∧w'.cell? ⟨bb,off+(j'+1)*4,none⟩=some (.int .i64 nd)∧w'.cell? ⟨bb,off+(j'+1)*4+1,none⟩=some (.int .i64 i)∧w'.cell? ⟨bb,off+(j'+1)*4+2,none⟩=some (.slice ao os.length co)∧w'.cell? ⟨bb,off+(j'+1)*4+3,none⟩=some (.slice ap ps.length cp)∧w'.cell? ⟨bb,off+j'*4,none⟩=some (.int .i64 pn)) (by kernel_rfl) SX.out (fun hHeld=>?_)
              refine wpAnyH_take (i := 0) (oi := { dst := some 33, op := Op.move (Operand.tmp 5), type := 3, pos := "l11_checkpoints.go:47", after := #[], guard := none }) (v := ?vk0) rfl (by kernel_rfl) (by kernel_rfl) (by kernel_rfl) (fun _ _ _ h => h) (Or.inl ⟨by rfl, ?yk0⟩) (by assumption) ?rk0
              case yk0=>(intro w hSw;(try dsimp only at hSw);go_simp;(try with_reducible rfl))
              try simp only[Act.put,List.setIfInBounds_toArray,List.set_cons_zero,List.set_cons_succ]
              refine wpAnyH_take (i := 1) (oi := { dst := some 34, op := Op.binOp BinOp.gtr 3 (Operand.tmp 33) (Operand.const (Value.int IntKind.i64 0)) 3, type := 4, pos := "l11_checkpoints.go:47", after := #[{ on := 0, ground := Ground.data }], guard := none }) (v := ?vk1) rfl (by kernel_rfl) (by kernel_rfl) (by kernel_rfl) (fun _ _ _ h => h) (Or.inl ⟨by rfl, ?yk1⟩) (by assumption) ?rk1
              case yk1=>(intro w hSw;(try dsimp only at hSw);go_simp;(try with_reducible rfl))
              try simp only[Act.put,List.setIfInBounds_toArray,List.set_cons_zero,List.set_cons_succ]
              refine wpAnyH_take (i := 2) (oi := { dst := some 35, op := Op.move (Operand.tmp 34), type := 4, pos := "l11_checkpoints.go:47", after := #[{ on := 1, ground := Ground.data }], guard := none }) (v := ?vk2) rfl (by kernel_rfl) (by kernel_rfl) (by kernel_rfl) (fun _ _ _ h => h) (Or.inl ⟨by rfl, ?yk2⟩) (by assumption) ?rk2
              case yk2=>(intro w hSw;(try dsimp only at hSw);go_simp;(try with_reducible rfl))
              try simp only[Act.put,List.setIfInBounds_toArray,List.set_cons_zero,List.set_cons_succ]
              refine wpAnyH_take (i := 3) (oi := { dst := some 36, op := Op.fieldAddr 37 (Operand.tmp 3) 2, type := 0, pos := "l11_checkpoints.go:47", after := #[{ on := 2, ground := Ground.guard }], guard := some (2, true) }) (v := ?vk3) rfl (by kernel_rfl) (by kernel_rfl) (by kernel_rfl) (fun _ _ _ h => h) (Or.inl ⟨by rfl, ?yk3⟩) (by assumption) ?rk3
              case yk3=>(intro w hSw;(try dsimp only at hSw);go_simp;(try with_reducible rfl))
              try simp only[Act.put,List.setIfInBounds_toArray,List.set_cons_zero,List.set_cons_succ]
              refine wpAnyH_take (i := 4) (oi := { dst := some 37, op := Op.load 35 (Operand.tmp 36), type := 35, pos := "l11_checkpoints.go:47", after := #[{ on := 3, ground := Ground.data }, { on := 2, ground := Ground.guard }], guard := some (2, true) }) (v := ?vk4) rfl (by kernel_rfl) (by kernel_rfl) (by kernel_rfl) (fun _ _ _ h => h) (Or.inl ⟨by rfl, ?yk4⟩) (by assumption) ?rk4
              case yk4=>(intro w hSw;(try dsimp only at hSw);go_simp;(try with_reducible rfl))
              try simp only[Act.put,List.setIfInBounds_toArray,List.set_cons_zero,List.set_cons_succ]
              refine wpAnyH_take (i := 5) (oi := { dst := some 38, op := Op.move (Operand.tmp 5), type := 3, pos := "l11_checkpoints.go:47", after := #[{ on := 2, ground := Ground.guard }], guard := some (2, true) }) (v := ?vk5) rfl (by kernel_rfl) (by kernel_rfl) (by kernel_rfl) (fun _ _ _ h => h) (Or.inl ⟨by rfl, ?yk5⟩) (by assumption) ?rk5
              case yk5=>(intro w hSw;(try dsimp only at hSw);go_simp;(try with_reducible rfl))
              try simp only[Act.put,List.setIfInBounds_toArray,List.set_cons_zero,List.set_cons_succ]
              refine wpAnyH_take (i := 6) (oi := { dst := some 39, op := Op.binOp BinOp.sub 3 (Operand.tmp 38) (Operand.const (Value.int IntKind.i64 1)) 3, type := 3, pos := "l11_checkpoints.go:47", after := #[{ on := 5, ground := Ground.data }, { on := 2, ground := Ground.guard }], guard := some (2, true) }) (v := ?vk6) rfl (by kernel_rfl) (by kernel_rfl) (by kernel_rfl) (fun _ _ _ h => h) (Or.inl ⟨by rfl, ?yk6⟩) (by assumption) ?rk6
              case yk6=>(intro w hSw;(try dsimp only at hSw);go_simp;(try with_reducible rfl))
              try simp only[Act.put,List.setIfInBounds_toArray,List.set_cons_zero,List.set_cons_succ]
              refine wpAnyH_take (i := 7) (oi := { dst := some 40, op := Op.indexAddr 35 (Operand.tmp 37) (Operand.tmp 39), type := 0, pos := "l11_checkpoints.go:47", after := #[{ on := 4, ground := Ground.data }, { on := 6, ground := Ground.data }, { on := 2, ground := Ground.guard }], guard := some (2, true) }) (v := ?vk7) rfl (by kernel_rfl) (by kernel_rfl) (by kernel_rfl) (fun _ _ _ h => h) (Or.inl ⟨by rfl, ?yk7⟩) (by assumption) ?rk7
              case yk7=>(intro w hSw;(try dsimp only at hSw);go_simp;(try with_reducible rfl))
              try simp only[Act.put,List.setIfInBounds_toArray,List.set_cons_zero,List.set_cons_succ]
              refine wpAnyH_take (i := 8) (oi := { dst := some 41, op := Op.fieldAddr 74 (Operand.tmp 40) 0, type := 0, pos := "l11_checkpoints.go:47", after := #[{ on := 7, ground := Ground.data }, { on := 2, ground := Ground.guard }], guard := some (2, true) }) (v := ?vk8) rfl (by kernel_rfl) (by kernel_rfl) (by kernel_rfl) (fun _ _ _ h => h) (Or.inl ⟨by rfl, ?yk8⟩) (by assumption) ?rk8
              case yk8=>(intro w hSw;(try dsimp only at hSw);go_simp;(try with_reducible rfl))
              try simp only[Act.put,List.setIfInBounds_toArray,List.set_cons_zero,List.set_cons_succ]
              refine wpAnyH_take (i := 9) (oi := { dst := some 42, op := Op.load 2 (Operand.tmp 41), type := 2, pos := "l11_checkpoints.go:47", after := #[{ on := 8, ground := Ground.data }, { on := 2, ground := Ground.guard }], guard := some (2, true) }) (v := ?vk9) rfl (by kernel_rfl) (by kernel_rfl) (by kernel_rfl) (fun _ _ _ h => h) (Or.inl ⟨by rfl, ?yk9⟩) (by assumption) ?rk9
              case yk9=>(intro w hSw;(try dsimp only at hSw);go_simp;(try with_reducible rfl))
              try simp only[Act.put,List.setIfInBounds_toArray,List.set_cons_zero,List.set_cons_succ]
              refine wpAnyH_take (i := 10) (oi := { dst := some 43, op := Op.fieldAddr 37 (Operand.tmp 3) 2, type := 0, pos := "l11_checkpoints.go:47", after := #[{ on := 2, ground := Ground.guard }], guard := some (2, true) }) (v := ?vk10) rfl (by kernel_rfl) (by kernel_rfl) (by kernel_rfl) (fun _ _ _ h => h) (Or.inl ⟨by rfl, ?yk10⟩) (by assumption) ?rk10
              case yk10=>(intro w hSw;(try dsimp only at hSw);go_simp;(try with_reducible rfl))
              try simp only[Act.put,List.setIfInBounds_toArray,List.set_cons_zero,List.set_cons_succ]
              refine wpAnyH_take (i := 11) (oi := { dst := some 44, op := Op.load 35 (Operand.tmp 43), type := 35, pos := "l11_checkpoints.go:47", after := #[{ on := 10, ground := Ground.data }, { on := 2, ground := Ground.guard }], guard := some (2, true) }) (v := ?vk11) rfl (by kernel_rfl) (by kernel_rfl) (by kernel_rfl) (fun _ _ _ h => h) (Or.inl ⟨by rfl, ?yk11⟩) (by assumption) ?rk11
              case yk11=>(intro w hSw;(try dsimp only at hSw);go_simp;(try with_reducible rfl))
              try simp only[Act.put,List.setIfInBounds_toArray,List.set_cons_zero,List.set_cons_succ]
              refine wpAnyH_take (i := 12) (oi := { dst := some 45, op := Op.move (Operand.tmp 5), type := 3, pos := "l11_checkpoints.go:47", after := #[{ on := 2, ground := Ground.guard }], guard := some (2, true) }) (v := ?vk12) rfl (by kernel_rfl) (by kernel_rfl) (by kernel_rfl) (fun _ _ _ h => h) (Or.inl ⟨by rfl, ?yk12⟩) (by assumption) ?rk12
              case yk12=>(intro w hSw;(try dsimp only at hSw);go_simp;(try with_reducible rfl))
              try simp only[Act.put,List.setIfInBounds_toArray,List.set_cons_zero,List.set_cons_succ]
              refine wpAnyH_take (i := 13) (oi := { dst := some 46, op := Op.indexAddr 35 (Operand.tmp 44) (Operand.tmp 45), type := 0, pos := "l11_checkpoints.go:47", after := #[{ on := 11, ground := Ground.data }, { on := 12, ground := Ground.data }, { on := 2, ground := Ground.guard }], guard := some (2, true) }) (v := ?vk13) rfl (by kernel_rfl) (by kernel_rfl) (by kernel_rfl) (fun _ _ _ h => h) (Or.inl ⟨by rfl, ?yk13⟩) (by assumption) ?rk13
              case yk13=>(intro w hSw;(try dsimp only at hSw);go_simp;(try with_reducible rfl))
              try simp only[Act.put,List.setIfInBounds_toArray,List.set_cons_zero,List.set_cons_succ]
              refine wpAnyH_take (i := 14) (oi := { dst := some 47, op := Op.fieldAddr 74 (Operand.tmp 46) 0, type := 0, pos := "l11_checkpoints.go:47", after := #[{ on := 13, ground := Ground.data }, { on := 2, ground := Ground.guard }], guard := some (2, true) }) (v := ?vk14) rfl (by kernel_rfl) (by kernel_rfl) (by kernel_rfl) (fun _ _ _ h => h) (Or.inl ⟨by rfl, ?yk14⟩) (by assumption) ?rk14
              case yk14=>(intro w hSw;(try dsimp only at hSw);go_simp;(try with_reducible rfl))
              try simp only[Act.put,List.setIfInBounds_toArray,List.set_cons_zero,List.set_cons_succ]
              refine wpAnyH_take (i := 15) (oi := { dst := some 48, op := Op.load 2 (Operand.tmp 47), type := 2, pos := "l11_checkpoints.go:47", after := #[{ on := 14, ground := Ground.data }, { on := 2, ground := Ground.guard }], guard := some (2, true) }) (v := ?vk15) rfl (by kernel_rfl) (by kernel_rfl) (by kernel_rfl) (fun _ _ _ h => h) (Or.inl ⟨by rfl, ?yk15⟩) (by assumption) ?rk15
              case yk15=>(intro w hSw;(try dsimp only at hSw);go_simp;(try with_reducible rfl))
              try simp only[Act.put,List.setIfInBounds_toArray,List.set_cons_zero,List.set_cons_succ]
              refine wpAnyH_take (i := 16) (oi := { dst := some 49, op := Op.binOp BinOp.geq 2 (Operand.tmp 42) (Operand.tmp 48) 2, type := 4, pos := "l11_checkpoints.go:47", after := #[{ on := 9, ground := Ground.data }, { on := 15, ground := Ground.data }, { on := 2, ground := Ground.guard }], guard := some (2, true) }) (v := ?vk16) rfl (by kernel_rfl) (by kernel_rfl) (by kernel_rfl) (fun _ _ _ h => h) (Or.inl ⟨by rfl, ?yk16⟩) (by assumption) ?rk16
              case yk16=>(intro w hSw;(try dsimp only at hSw);go_simp;(try with_reducible rfl))
              try simp only[Act.put,List.setIfInBounds_toArray,List.set_cons_zero,List.set_cons_succ]
              refine wpAnyH_take (i := 17) (oi := { dst := some 50, op := Op.pick (Operand.tmp 35) (Operand.tmp 49) (Operand.const (Value.bool false)), type := 4, pos := "l11_checkpoints.go:47", after := #[{ on := 2, ground := Ground.data }, { on := 16, ground := Ground.data }], guard := none }) (v := ?vk17) rfl (by kernel_rfl) (by kernel_rfl) (by kernel_rfl) (fun _ _ _ h => h) (Or.inl ⟨by rfl, ?yk17⟩) (by assumption) ?rk17
              case yk17=>(intro w hSw;(try dsimp only at hSw);go_simp;(try with_reducible rfl))
              try simp only[Act.put,List.setIfInBounds_toArray,List.set_cons_zero,List.set_cons_succ]
              refine wpAnyH_take (i := 18) (oi := { dst := some 51, op := Op.move (Operand.tmp 50), type := 4, pos := "l11_checkpoints.go:47", after := #[{ on := 17, ground := Ground.data }, { on := 2, ground := Ground.chain }], guard := none }) (v := ?vk18) rfl (by kernel_rfl) (by kernel_rfl) (by kernel_rfl) (fun _ _ _ h => h) (Or.inl ⟨by rfl, ?yk18⟩) (by assumption) ?rk18
              case yk18=>(intro w hSw;(try dsimp only at hSw);go_simp;(try with_reducible rfl))
              try simp only[Act.put,List.setIfInBounds_toArray,List.set_cons_zero,List.set_cons_succ]
              refine wpAnyH_take (i := 19) (oi := { dst := some 52, op := Op.move (Operand.tmp 0), type := 22, pos := "l11_checkpoints.go:47", after := #[{ on := 18, ground := Ground.guard }], guard := some (18, false) }) (v := undef) rfl (by kernel_rfl) (by kernel_rfl) (by kernel_rfl) (fun _ _ _ h => h) (Or.inr ⟨by rfl, rfl⟩) (by assumption) ?_
              try simp only[Act.put,List.setIfInBounds_toArray,List.set_cons_zero,List.set_cons_succ]
              refine wpAnyH_take (i := 20) (oi := { dst := some 53, op := Op.fieldAddr 37 (Operand.tmp 3) 0, type := 0, pos := "l11_checkpoints.go:47", after := #[{ on := 18, ground := Ground.guard }], guard := some (18, false) }) (v := undef) rfl (by kernel_rfl) (by kernel_rfl) (by kernel_rfl) (fun _ _ _ h => h) (Or.inr ⟨by rfl, rfl⟩) (by assumption) ?_
              try simp only[Act.put,List.setIfInBounds_toArray,List.set_cons_zero,List.set_cons_succ]
              refine wpAnyH_take (i := 21) (oi := { dst := some 54, op := Op.load 2 (Operand.tmp 53), type := 2, pos := "l11_checkpoints.go:47", after := #[{ on := 20, ground := Ground.data }, { on := 18, ground := Ground.guard }], guard := some (18, false) }) (v := undef) rfl (by kernel_rfl) (by kernel_rfl) (by kernel_rfl) (fun _ _ _ h => h) (Or.inr ⟨by rfl, rfl⟩) (by assumption) ?_
              try simp only[Act.put,List.setIfInBounds_toArray,List.set_cons_zero,List.set_cons_succ]
              refine wpAnyH_take (i := 22) (oi := { dst := some 55, op := Op.fieldAddr 37 (Operand.tmp 3) 1, type := 0, pos := "l11_checkpoints.go:47", after := #[{ on := 18, ground := Ground.guard }], guard := some (18, false) }) (v := undef) rfl (by kernel_rfl) (by kernel_rfl) (by kernel_rfl) (fun _ _ _ h => h) (Or.inr ⟨by rfl, rfl⟩) (by assumption) ?_
              try simp only[Act.put,List.setIfInBounds_toArray,List.set_cons_zero,List.set_cons_succ]
              refine wpAnyH_take (i := 23) (oi := { dst := some 56, op := Op.load 9 (Operand.tmp 55), type := 9, pos := "l11_checkpoints.go:47", after := #[{ on := 22, ground := Ground.data }, { on := 18, ground := Ground.guard }], guard := some (18, false) }) (v := undef) rfl (by kernel_rfl) (by kernel_rfl) (by kernel_rfl) (fun _ _ _ h => h) (Or.inr ⟨by rfl, rfl⟩) (by assumption) ?_
              try simp only[Act.put,List.setIfInBounds_toArray,List.set_cons_zero,List.set_cons_succ]
              refine wpAnyH_take (i := 24) (oi := { dst := some 57, op := Op.fieldAddr 37 (Operand.tmp 3) 2, type := 0, pos := "l11_checkpoints.go:47", after := #[{ on := 18, ground := Ground.guard }], guard := some (18, false) }) (v := undef) rfl (by kernel_rfl) (by kernel_rfl) (by kernel_rfl) (fun _ _ _ h => h) (Or.inr ⟨by rfl, rfl⟩) (by assumption) ?_
              try simp only[Act.put,List.setIfInBounds_toArray,List.set_cons_zero,List.set_cons_succ]
              refine wpAnyH_take (i := 25) (oi := { dst := some 58, op := Op.load 35 (Operand.tmp 57), type := 35, pos := "l11_checkpoints.go:47", after := #[{ on := 24, ground := Ground.data }, { on := 18, ground := Ground.guard }], guard := some (18, false) }) (v := undef) rfl (by kernel_rfl) (by kernel_rfl) (by kernel_rfl) (fun _ _ _ h => h) (Or.inr ⟨by rfl, rfl⟩) (by assumption) ?_
              try simp only[Act.put,List.setIfInBounds_toArray,List.set_cons_zero,List.set_cons_succ]
              refine wpAnyH_take (i := 26) (oi := { dst := some 59, op := Op.move (Operand.tmp 5), type := 3, pos := "l11_checkpoints.go:47", after := #[{ on := 18, ground := Ground.guard }], guard := some (18, false) }) (v := undef) rfl (by kernel_rfl) (by kernel_rfl) (by kernel_rfl) (fun _ _ _ h => h) (Or.inr ⟨by rfl, rfl⟩) (by assumption) ?_
              try simp only[Act.put,List.setIfInBounds_toArray,List.set_cons_zero,List.set_cons_succ]
              refine wpAnyH_take (i := 27) (oi := { dst := some 60, op := Op.indexAddr 35 (Operand.tmp 58) (Operand.tmp 59), type := 0, pos := "l11_checkpoints.go:47", after := #[{ on := 25, ground := Ground.data }, { on := 26, ground := Ground.data }, { on := 18, ground := Ground.guard }], guard := some (18, false) }) (v := undef) rfl (by kernel_rfl) (by kernel_rfl) (by kernel_rfl) (fun _ _ _ h => h) (Or.inr ⟨by rfl, rfl⟩) (by assumption) ?_
              try simp only[Act.put,List.setIfInBounds_toArray,List.set_cons_zero,List.set_cons_succ]
              refine wpAnyH_take (i := 28) (oi := { dst := some 61, op := Op.load 74 (Operand.tmp 60), type := 74, pos := "l11_checkpoints.go:47", after := #[{ on := 27, ground := Ground.data }, { on := 18, ground := Ground.guard }], guard := some (18, false) }) (v := undef) rfl (by kernel_rfl) (by kernel_rfl) (by kernel_rfl) (fun _ _ _ h => h) (Or.inr ⟨by rfl, rfl⟩) (by assumption) ?_
              try simp only[Act.put,List.setIfInBounds_toArray,List.set_cons_zero,List.set_cons_succ]
              refine wpAnyH_take (i := 29) (oi := { dst := some 62, op := Op.call { callee := Callee.value (Operand.func 35), args := #[Operand.tmp 52, Operand.tmp 54, Operand.tmp 56, Operand.tmp 61], argTypes := #[22, 2, 9, 74] }, type := 4, pos := "l11_checkpoints.go:47", after := #[{ on := 19, ground := Ground.data }, { on := 21, ground := Ground.data }, { on := 23, ground := Ground.data }, { on := 28, ground := Ground.data }, { on := 18, ground := Ground.chain }, { on := 18, ground := Ground.guard }], guard := some (18, false) }) (v := undef) rfl (by kernel_rfl) (by kernel_rfl) (by kernel_rfl) (fun _ _ _ h => h) (Or.inr ⟨by rfl, rfl⟩) (by assumption) ?_
              try simp only[Act.put,List.setIfInBounds_toArray,List.set_cons_zero,List.set_cons_succ]
              refine wpAnyH_take (i := 30) (oi := { dst := some 63, op := Op.unOp UnOp.not 4 (Operand.tmp 62), type := 4, pos := "l11_checkpoints.go:47", after := #[{ on := 29, ground := Ground.data }, { on := 18, ground := Ground.guard }], guard := some (18, false) }) (v := undef) rfl (by kernel_rfl) (by kernel_rfl) (by kernel_rfl) (fun _ _ _ h => h) (Or.inr ⟨by rfl, rfl⟩) (by assumption) ?_
              try simp only[Act.put,List.setIfInBounds_toArray,List.set_cons_zero,List.set_cons_succ]
              refine wpAnyH_take (i := 31) (oi := { dst := some 64, op := Op.pick (Operand.tmp 51) (Operand.const (Value.bool true)) (Operand.tmp 63), type := 4, pos := "l11_checkpoints.go:47", after := #[{ on := 18, ground := Ground.data }, { on := 30, ground := Ground.data }], guard := none }) (v := ?vk31) rfl (by kernel_rfl) (by kernel_rfl) (by kernel_rfl) (fun _ _ _ h => h) (Or.inl ⟨by rfl, ?yk31⟩) (by assumption) ?rk31
              case yk31=>(intro w hSw;(try dsimp only at hSw);go_simp;(try with_reducible rfl))
              try simp only[Act.put,List.setIfInBounds_toArray,List.set_cons_zero,List.set_cons_succ]
              refine wpAnyH_done (by kernel_rfl) ?_ _
              go_wp2
              go_ret
              exact⟨by rw[HZ.out];rfl,BWd⟩
        · have hjl:j=vs.length:=by omega
          subst hjl
          have HZ:Hid (out=true):=HYES HKB.out.1 HKB.out.2.1 HKB.out.2.2 (fun q h2=>HA.out q h2 h2) (by have:=HH.out;rw[List.take_length] at this;exact this)
          go_wp2
          go_ret
          exact⟨by rw[HZ.out];rfl,BW⟩
end Go.Proofs.YtllmclmcncolcaaGreatDoor
