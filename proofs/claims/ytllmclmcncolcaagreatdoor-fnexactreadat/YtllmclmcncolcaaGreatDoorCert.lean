/-
 Contracts: CertOk, of the program and of the model (written by mkcert.py).
-/
import Derived.Test.YtllmclmcncolcaaGreatDoorVotes2
import Derived.Test.YtllmclmcncolcaaGreatDoorSVOk
namespace Go.Proofs.YtllmclmcncolcaaGreatDoor
open Go.RowKit
set_option linter.unusedVariables false
noncomputable def rtV (n:Int) (root:List UInt8) (v:VoteV):List UInt8:=(rootIs_some (chkL n.toNat root) v.i v.os v.ps).choose
noncomputable def okV (n:Int) (root:List UInt8) (v:VoteV):Bool:=(rootIs_some (chkL n.toNat root) v.i v.os v.ps).choose_spec.choose
theorem rtV_is (n:Int) (root:List UInt8) (v:VoteV):RootIs (chkL n.toNat root) v.i v.os v.ps (rtV n root v) (okV n root v):=(rootIs_some (chkL n.toNat root) v.i v.os v.ps).choose_spec.choose_spec
noncomputable def holdV (ks:List (List UInt8)) (n:Int) (root:List UInt8) (v:VoteV):Bool:=vOk ks n root v.nd (rtV n root v) (okV n root v)
def RiseV (vs:List VoteV):Prop:=∀ q (h2:q+1<vs.length),(vs[q]'(by omega)).nd<vs[q+1].nd
noncomputable def riseB (vs:List VoteV):Bool:=@decide (RiseV vs) (Classical.propDecidable _)
theorem riseB_yes (vs:List VoteV) (h:RiseV vs):riseB vs=true:=@decide_eq_true _ (Classical.propDecidable _) h
theorem riseB_no (vs:List VoteV) (h:¬ RiseV vs):riseB vs=false:=@decide_eq_false _ (Classical.propDecidable _) h
noncomputable def certOk (ks:List (List UInt8)) (n:Int) (root:List UInt8) (vs:List VoteV):Bool :=
 keysOk ks && (decide (ks.length / 2<vs.length) && (decide (vs.length≤ks.length) && (riseB vs && vs.all (holdV ks n root))))
theorem certOk_keys (ks:List (List UInt8)) (n:Int) (root:List UInt8) (vs:List VoteV) (h:keysOk ks=false):certOk ks n root vs=false:=by rw[certOk,h];rfl
theorem certOk_few (ks:List (List UInt8)) (n:Int) (root:List UInt8) (vs:List VoteV) (h:vs.length≤ks.length / 2):certOk ks n root vs=false:=by rw[certOk,decide_eq_false (by omega)];simp
theorem certOk_many (ks:List (List UInt8)) (n:Int) (root:List UInt8) (vs:List VoteV) (h:ks.length<vs.length):certOk ks n root vs=false:=by
 have e:decide (vs.length≤ks.length)=false:=decide_eq_false (by omega)
 rw[certOk,e];simp
theorem certOk_fall (ks:List (List UInt8)) (n:Int) (root:List UInt8) (vs:List VoteV) (q:Nat) (h2:q+1<vs.length) (h:¬ (vs[q]'(by omega)).nd<vs[q+1].nd):certOk ks n root vs=false:=by
 have e:riseB vs=false:=riseB_no vs fun hh=>h (hh q h2)
 rw[certOk,e];simp
theorem certOk_bad (ks:List (List UInt8)) (n:Int) (root:List UInt8) (vs:List VoteV) (q:Nat) (hq:q<vs.length) (h:holdV ks n root vs[q]=false):certOk ks n root vs=false:=by
 have e:vs.all (holdV ks n root)=false:=by
  rw[List.all_eq_false]
  exact⟨vs[q],List.getElem_mem _,by simp[h]⟩
 rw[certOk,e];simp
theorem certOk_yes (ks:List (List UInt8)) (n:Int) (root:List UInt8) (vs:List VoteV) (h1:keysOk ks=true) (h2:ks.length / 2<vs.length) (h3:vs.length≤ks.length) (h4:RiseV vs) (h5:∀ v∈vs,holdV ks n root v=true):certOk ks n root vs=true:=by
 rw[certOk,h1,decide_eq_true h2,decide_eq_true h3,riseB_yes vs h4,List.all_eq_true.2 h5];rfl
set_option maxRecDepth 100000 in
theorem impl_enough (a:Option Addr) (cap n:Nat) (w:World) (hn:n≤1048576) :
 Calls Tryz.prog 65 #[.slice a n cap] w fun e w'=>e=.returned (.int .i64 (((n / 2:Nat):Int)+1))∧w'=w:=by
 have hw:IntKind.i64.wrap ((n:Int) / 2+1)=(n:Int) / 2+1:=by simp[IntKind.wrap,IntKind.signed,IntKind.bits];omega
 go_enter Tryz.func65,Tryz.ntmps65
 go_wp2
 go_ret
 exact⟨by simp,rfl⟩
set_option maxRecDepth 100000 in
set_option maxHeartbeats 2000000 in
theorem impl_certOk (a : Option Addr) (cap : Nat) (ks : List (List UInt8)) (n : Int) (root : List UInt8) (b : Option Addr) (cb : Nat) (vs : List VoteV) (w : World) (hkl : ks.length ≤ 1048576) (hkm : ∀ l ∈ ks, l.length ≤ 1048576) (hl : root.length ≤ 1048576) (hvl : vs.length ≤ 1048576) (hvm : ∀ v ∈ vs, smallV v ∧ (∀ l ∈ v.os, l.length ≤ 1048576) ∧ (∀ l ∈ v.ps, l.length ≤ 1048576)) (hk : IsStrs w a ks) (hs : IsVotes w b vs) (hT : Tab w) :
 Calls Tryz.prog 44 #[.slice a ks.length cap,.agg #[.int .i64 n,.string ⟨root.toArray⟩,.slice b vs.length cb]] w fun e w'=>e=.returned (.bool (certOk ks n root vs))∧Below w.heap.size w w':=by
 have Ba:Below w.heap.size w (w.alloc (.cells #[.int .i64 n,.string ⟨root.toArray⟩,.slice b vs.length cb] 37)):=(Below.refl _ _).alloc (Nat.le_refl _) _
 have Bd:Below w.heap.size w (w.alloc (.cells #[.int .i64 n,.string ⟨root.toArray⟩,.slice b vs.length cb] 37)).drew:=⟨Ba.os,Ba.tape,Ba.output,Ba.size,Ba.block⟩
 have KK:=impl_areKeys a cap ks (w.alloc (.cells #[.int .i64 n,.string ⟨root.toArray⟩,.slice b vs.length cb] 37)).drew hkl hkm (strs_later hk Bd)
 have KE:=impl_enough a cap ks.length (w.alloc (.cells #[.int .i64 n,.string ⟨root.toArray⟩,.slice b vs.length cb] 37)).drew hkl
 obtain⟨md,hmd⟩:∃ md,md=ks.length / 2:=⟨_,rfl⟩
 rw[←hmd] at KE
 have HMD:Hid (md=ks.length / 2):=hmd
 clear hmd
 obtain⟨x0,x1,x2,_⟩:=tri_cells (heap_alloc_new w (.cells #[.int .i64 n,.string ⟨root.toArray⟩,.slice b vs.length cb] 37))
 have SX:Hid ((w.alloc (.cells #[.int .i64 n,.string ⟨root.toArray⟩,.slice b vs.length cb] 37)).cell? ⟨w.heap.size,2,none⟩=some (.slice b vs.length cb)):=x2
 have H0:=certOk_keys ks n root vs
 have H1:=certOk_few ks n root vs
 have H2:=certOk_many ks n root vs
 have HFALL:Hid (∀ q (h2:q+1<vs.length),¬ (vs[q]'(by omega)).nd<vs[q+1].nd→certOk ks n root vs=false):=certOk_fall ks n root vs
 have HBAD:Hid (∀ q (hq:q<vs.length),holdV ks n root vs[q]=false→certOk ks n root vs=false):=certOk_bad ks n root vs
 have HYES:=certOk_yes ks n root vs
 obtain⟨out,hout⟩:∃ out,out=certOk ks n root vs:=⟨_,rfl⟩
 rw[←hout] at H0 H1 H2 HFALL HBAD HYES ⊢
 clear hout
 cases hkb:keysOk ks with
 | false =>
   rw[hkb] at KK
   have HZ:Hid (out=false):=H0 hkb
   clear hkb H0 H1 H2 HFALL HBAD HYES hs hk hvm hkm x0 x1 x2
   go_enter Tryz.func44,Tryz.ntmps44
   go_wp2_with fail
   refine wp_region_held_drew (S:=fun w'=>w'.cell? ⟨w.heap.size,2,none⟩=some (.slice b vs.length cb)) (by kernel_rfl) SX.out (fun hHeld=>?_)
   refine wpAnyH_take (i := 0) (oi := { dst := some 9, op := Op.move (Operand.tmp 0), type := 22, pos := "l11_checkpoints.go:49", after := #[], guard := none }) (v := ?vb0) rfl (by kernel_rfl) (by kernel_rfl) (by kernel_rfl) (fun _ _ _ h => h) (Or.inl ⟨by rfl, ?yb0⟩) (by assumption) ?rb0
   case yb0=>(intro w hSw;(try dsimp only at hSw);go_simp;(try with_reducible rfl))
   try simp only[Act.put,List.setIfInBounds_toArray,List.set_cons_zero,List.set_cons_succ]
   refine wpAnyH_ready (rs:=[1]) (by kernel_rfl) (by simp) ?_
   refine AllReadyH.cons (o := { dst := some 10, op := Op.call { callee := Callee.value (Operand.func 64), args := #[Operand.tmp 9], argTypes := #[22] }, type := 4, pos := "l11_checkpoints.go:49", after := #[{ on := 0, ground := Ground.data }], guard := none }) rfl (fun K hK => ?_) AllReadyH.nil
   go_simp
   go_at_call 64
   with_reducible refine KK.mono ?_
   rintro e w2 ⟨rfl,rfl⟩
   clear hHeld
   refine hK.out _ _ SX.out (fun hHeld=>?_)
   clear hK K
   try simp only[Act.put,List.setIfInBounds_toArray,List.set_cons_zero,List.set_cons_succ]
   refine wpAnyH_take (i := 2) (oi := { dst := some 11, op := Op.unOp UnOp.not 4 (Operand.tmp 10), type := 4, pos := "l11_checkpoints.go:49", after := #[{ on := 1, ground := Ground.data }], guard := none }) (v := ?vb2) rfl (by kernel_rfl) (by kernel_rfl) (by kernel_rfl) (fun _ _ _ h => h) (Or.inl ⟨by rfl, ?yb2⟩) (by assumption) ?rb2
   case yb2=>(intro w hSw;(try dsimp only at hSw);go_simp;(try with_reducible rfl))
   try simp only[Act.put,List.setIfInBounds_toArray,List.set_cons_zero,List.set_cons_succ]
   refine wpAnyH_take (i := 3) (oi := { dst := some 12, op := Op.move (Operand.tmp 11), type := 4, pos := "l11_checkpoints.go:49", after := #[{ on := 2, ground := Ground.data }, { on := 1, ground := Ground.chain }], guard := none }) (v := ?vb3) rfl (by kernel_rfl) (by kernel_rfl) (by kernel_rfl) (fun _ _ _ h => h) (Or.inl ⟨by rfl, ?yb3⟩) (by assumption) ?rb3
   case yb3=>(intro w hSw;(try dsimp only at hSw);go_simp;(try with_reducible rfl))
   try simp only[Act.put,List.setIfInBounds_toArray,List.set_cons_zero,List.set_cons_succ]
   refine wpAnyH_take (i := 4) (oi := { dst := some 13, op := Op.fieldAddr 37 (Operand.tmp 3) 2, type := 0, pos := "l11_checkpoints.go:49", after := #[{ on := 3, ground := Ground.guard }], guard := some (3, false) }) (v := undef) rfl (by kernel_rfl) (by kernel_rfl) (by kernel_rfl) (fun _ _ _ h => h) (Or.inr ⟨by rfl, rfl⟩) (by assumption) ?_
   try simp only[Act.put,List.setIfInBounds_toArray,List.set_cons_zero,List.set_cons_succ]
   refine wpAnyH_take (i := 5) (oi := { dst := some 14, op := Op.load 35 (Operand.tmp 13), type := 35, pos := "l11_checkpoints.go:49", after := #[{ on := 4, ground := Ground.data }, { on := 3, ground := Ground.guard }], guard := some (3, false) }) (v := undef) rfl (by kernel_rfl) (by kernel_rfl) (by kernel_rfl) (fun _ _ _ h => h) (Or.inr ⟨by rfl, rfl⟩) (by assumption) ?_
   try simp only[Act.put,List.setIfInBounds_toArray,List.set_cons_zero,List.set_cons_succ]
   refine wpAnyH_take (i := 6) (oi := { dst := some 15, op := Op.call { callee := Callee.builtin Builtin.len, args := #[Operand.tmp 14], argTypes := #[35] }, type := 3, pos := "l11_checkpoints.go:49", after := #[{ on := 5, ground := Ground.data }, { on := 3, ground := Ground.guard }], guard := some (3, false) }) (v := undef) rfl (by kernel_rfl) (by kernel_rfl) (by kernel_rfl) (fun _ _ _ h => h) (Or.inr ⟨by rfl, rfl⟩) (by assumption) ?_
   try simp only[Act.put,List.setIfInBounds_toArray,List.set_cons_zero,List.set_cons_succ]
   refine wpAnyH_take (i := 7) (oi := { dst := some 16, op := Op.move (Operand.tmp 0), type := 22, pos := "l11_checkpoints.go:49", after := #[{ on := 3, ground := Ground.guard }], guard := some (3, false) }) (v := undef) rfl (by kernel_rfl) (by kernel_rfl) (by kernel_rfl) (fun _ _ _ h => h) (Or.inr ⟨by rfl, rfl⟩) (by assumption) ?_
   try simp only[Act.put,List.setIfInBounds_toArray,List.set_cons_zero,List.set_cons_succ]
   refine wpAnyH_take (i := 8) (oi := { dst := some 17, op := Op.call { callee := Callee.value (Operand.func 65), args := #[Operand.tmp 16], argTypes := #[22] }, type := 3, pos := "l11_checkpoints.go:49", after := #[{ on := 7, ground := Ground.data }, { on := 3, ground := Ground.chain }, { on := 3, ground := Ground.guard }], guard := some (3, false) }) (v := undef) rfl (by kernel_rfl) (by kernel_rfl) (by kernel_rfl) (fun _ _ _ h => h) (Or.inr ⟨by rfl, rfl⟩) (by assumption) ?_
   try simp only[Act.put,List.setIfInBounds_toArray,List.set_cons_zero,List.set_cons_succ]
   refine wpAnyH_take (i := 9) (oi := { dst := some 18, op := Op.binOp BinOp.lss 3 (Operand.tmp 15) (Operand.tmp 17) 3, type := 4, pos := "l11_checkpoints.go:49", after := #[{ on := 6, ground := Ground.data }, { on := 8, ground := Ground.data }, { on := 3, ground := Ground.guard }], guard := some (3, false) }) (v := undef) rfl (by kernel_rfl) (by kernel_rfl) (by kernel_rfl) (fun _ _ _ h => h) (Or.inr ⟨by rfl, rfl⟩) (by assumption) ?_
   try simp only[Act.put,List.setIfInBounds_toArray,List.set_cons_zero,List.set_cons_succ]
   refine wpAnyH_take (i := 10) (oi := { dst := some 19, op := Op.pick (Operand.tmp 12) (Operand.const (Value.bool true)) (Operand.tmp 18), type := 4, pos := "l11_checkpoints.go:49", after := #[{ on := 3, ground := Ground.data }, { on := 9, ground := Ground.data }], guard := none }) (v := ?vb10) rfl (by kernel_rfl) (by kernel_rfl) (by kernel_rfl) (fun _ _ _ h => h) (Or.inl ⟨by rfl, ?yb10⟩) (by assumption) ?rb10
   case yb10=>(intro w hSw;(try dsimp only at hSw);go_simp;(try with_reducible rfl))
   try simp only[Act.put,List.setIfInBounds_toArray,List.set_cons_zero,List.set_cons_succ]
   refine wpAnyH_take (i := 11) (oi := { dst := some 20, op := Op.move (Operand.tmp 19), type := 4, pos := "l11_checkpoints.go:49", after := #[{ on := 10, ground := Ground.data }, { on := 8, ground := Ground.chain }], guard := none }) (v := ?vb11) rfl (by kernel_rfl) (by kernel_rfl) (by kernel_rfl) (fun _ _ _ h => h) (Or.inl ⟨by rfl, ?yb11⟩) (by assumption) ?rb11
   case yb11=>(intro w hSw;(try dsimp only at hSw);go_simp;(try with_reducible rfl))
   try simp only[Act.put,List.setIfInBounds_toArray,List.set_cons_zero,List.set_cons_succ]
   refine wpAnyH_take (i := 12) (oi := { dst := some 21, op := Op.fieldAddr 37 (Operand.tmp 3) 2, type := 0, pos := "l11_checkpoints.go:49", after := #[{ on := 11, ground := Ground.guard }], guard := some (11, false) }) (v := undef) rfl (by kernel_rfl) (by kernel_rfl) (by kernel_rfl) (fun _ _ _ h => h) (Or.inr ⟨by rfl, rfl⟩) (by assumption) ?_
   try simp only[Act.put,List.setIfInBounds_toArray,List.set_cons_zero,List.set_cons_succ]
   refine wpAnyH_take (i := 13) (oi := { dst := some 22, op := Op.load 35 (Operand.tmp 21), type := 35, pos := "l11_checkpoints.go:49", after := #[{ on := 12, ground := Ground.data }, { on := 11, ground := Ground.guard }], guard := some (11, false) }) (v := undef) rfl (by kernel_rfl) (by kernel_rfl) (by kernel_rfl) (fun _ _ _ h => h) (Or.inr ⟨by rfl, rfl⟩) (by assumption) ?_
   try simp only[Act.put,List.setIfInBounds_toArray,List.set_cons_zero,List.set_cons_succ]
   refine wpAnyH_take (i := 14) (oi := { dst := some 23, op := Op.call { callee := Callee.builtin Builtin.len, args := #[Operand.tmp 22], argTypes := #[35] }, type := 3, pos := "l11_checkpoints.go:49", after := #[{ on := 13, ground := Ground.data }, { on := 11, ground := Ground.guard }], guard := some (11, false) }) (v := undef) rfl (by kernel_rfl) (by kernel_rfl) (by kernel_rfl) (fun _ _ _ h => h) (Or.inr ⟨by rfl, rfl⟩) (by assumption) ?_
   try simp only[Act.put,List.setIfInBounds_toArray,List.set_cons_zero,List.set_cons_succ]
   refine wpAnyH_take (i := 15) (oi := { dst := some 24, op := Op.move (Operand.tmp 0), type := 22, pos := "l11_checkpoints.go:49", after := #[{ on := 11, ground := Ground.guard }], guard := some (11, false) }) (v := undef) rfl (by kernel_rfl) (by kernel_rfl) (by kernel_rfl) (fun _ _ _ h => h) (Or.inr ⟨by rfl, rfl⟩) (by assumption) ?_
   try simp only[Act.put,List.setIfInBounds_toArray,List.set_cons_zero,List.set_cons_succ]
   refine wpAnyH_take (i := 16) (oi := { dst := some 25, op := Op.call { callee := Callee.builtin Builtin.len, args := #[Operand.tmp 24], argTypes := #[22] }, type := 3, pos := "l11_checkpoints.go:49", after := #[{ on := 15, ground := Ground.data }, { on := 11, ground := Ground.guard }], guard := some (11, false) }) (v := undef) rfl (by kernel_rfl) (by kernel_rfl) (by kernel_rfl) (fun _ _ _ h => h) (Or.inr ⟨by rfl, rfl⟩) (by assumption) ?_
   try simp only[Act.put,List.setIfInBounds_toArray,List.set_cons_zero,List.set_cons_succ]
   refine wpAnyH_take (i := 17) (oi := { dst := some 26, op := Op.binOp BinOp.gtr 3 (Operand.tmp 23) (Operand.tmp 25) 3, type := 4, pos := "l11_checkpoints.go:49", after := #[{ on := 14, ground := Ground.data }, { on := 16, ground := Ground.data }, { on := 11, ground := Ground.guard }], guard := some (11, false) }) (v := undef) rfl (by kernel_rfl) (by kernel_rfl) (by kernel_rfl) (fun _ _ _ h => h) (Or.inr ⟨by rfl, rfl⟩) (by assumption) ?_
   try simp only[Act.put,List.setIfInBounds_toArray,List.set_cons_zero,List.set_cons_succ]
   refine wpAnyH_take (i := 18) (oi := { dst := some 27, op := Op.pick (Operand.tmp 20) (Operand.const (Value.bool true)) (Operand.tmp 26), type := 4, pos := "l11_checkpoints.go:49", after := #[{ on := 11, ground := Ground.data }, { on := 17, ground := Ground.data }], guard := none }) (v := ?vb18) rfl (by kernel_rfl) (by kernel_rfl) (by kernel_rfl) (fun _ _ _ h => h) (Or.inl ⟨by rfl, ?yb18⟩) (by assumption) ?rb18
   case yb18=>(intro w hSw;(try dsimp only at hSw);go_simp;(try with_reducible rfl))
   try simp only[Act.put,List.setIfInBounds_toArray,List.set_cons_zero,List.set_cons_succ]
   refine wpAnyH_done (by kernel_rfl) ?_ _
   go_wp2
   go_ret
   exact⟨by rw[HZ.out];rfl,Bd⟩
 | true =>
   rw[hkb] at KK
   by_cases hfew:vs.length≤ks.length / 2
   · have HZ:Hid (out=false):=H1 hfew
     have hf':(vs.length:Int)<(md:Int)+1:=by have:=HMD.out;omega
     have hf3:vs.length≤md:=by have:=HMD.out;omega
     clear hkb H0 H1 H2 HFALL HBAD HYES hs hk hvm hkm x0 x1 x2
     go_enter Tryz.func44,Tryz.ntmps44
     go_wp2_with fail
     refine wp_region_held_drew (S:=fun w'=>w'.cell? ⟨w.heap.size,2,none⟩=some (.slice b vs.length cb)) (by kernel_rfl) SX.out (fun hHeld=>?_)
     refine wpAnyH_take (i := 0) (oi := { dst := some 9, op := Op.move (Operand.tmp 0), type := 22, pos := "l11_checkpoints.go:49", after := #[], guard := none }) (v := ?vc0) rfl (by kernel_rfl) (by kernel_rfl) (by kernel_rfl) (fun _ _ _ h => h) (Or.inl ⟨by rfl, ?yc0⟩) (by assumption) ?rc0
     case yc0=>(intro w hSw;(try dsimp only at hSw);go_simp;(try with_reducible rfl))
     try simp only[Act.put,List.setIfInBounds_toArray,List.set_cons_zero,List.set_cons_succ]
     refine wpAnyH_ready (rs:=[1]) (by kernel_rfl) (by simp) ?_
     refine AllReadyH.cons (o := { dst := some 10, op := Op.call { callee := Callee.value (Operand.func 64), args := #[Operand.tmp 9], argTypes := #[22] }, type := 4, pos := "l11_checkpoints.go:49", after := #[{ on := 0, ground := Ground.data }], guard := none }) rfl (fun K hK => ?_) AllReadyH.nil
     go_simp
     go_at_call 64
     with_reducible refine KK.mono ?_
     rintro e w2 ⟨rfl,rfl⟩
     clear hHeld
     refine hK.out _ _ SX.out (fun hHeld=>?_)
     clear hK K
     try simp only[Act.put,List.setIfInBounds_toArray,List.set_cons_zero,List.set_cons_succ]
     refine wpAnyH_take (i := 2) (oi := { dst := some 11, op := Op.unOp UnOp.not 4 (Operand.tmp 10), type := 4, pos := "l11_checkpoints.go:49", after := #[{ on := 1, ground := Ground.data }], guard := none }) (v := ?vc2) rfl (by kernel_rfl) (by kernel_rfl) (by kernel_rfl) (fun _ _ _ h => h) (Or.inl ⟨by rfl, ?yc2⟩) (by assumption) ?rc2
     case yc2=>(intro w hSw;(try dsimp only at hSw);go_simp;(try with_reducible rfl))
     try simp only[Act.put,List.setIfInBounds_toArray,List.set_cons_zero,List.set_cons_succ]
     refine wpAnyH_take (i := 3) (oi := { dst := some 12, op := Op.move (Operand.tmp 11), type := 4, pos := "l11_checkpoints.go:49", after := #[{ on := 2, ground := Ground.data }, { on := 1, ground := Ground.chain }], guard := none }) (v := ?vc3) rfl (by kernel_rfl) (by kernel_rfl) (by kernel_rfl) (fun _ _ _ h => h) (Or.inl ⟨by rfl, ?yc3⟩) (by assumption) ?rc3
     case yc3=>(intro w hSw;(try dsimp only at hSw);go_simp;(try with_reducible rfl))
     try simp only[Act.put,List.setIfInBounds_toArray,List.set_cons_zero,List.set_cons_succ]
     refine wpAnyH_take (i := 4) (oi := { dst := some 13, op := Op.fieldAddr 37 (Operand.tmp 3) 2, type := 0, pos := "l11_checkpoints.go:49", after := #[{ on := 3, ground := Ground.guard }], guard := some (3, false) }) (v := ?vc4) rfl (by kernel_rfl) (by kernel_rfl) (by kernel_rfl) (fun _ _ _ h => h) (Or.inl ⟨by rfl, ?yc4⟩) (by assumption) ?rc4
     case yc4=>(intro w hSw;(try dsimp only at hSw);go_simp;(try with_reducible rfl))
     try simp only[Act.put,List.setIfInBounds_toArray,List.set_cons_zero,List.set_cons_succ]
     refine wpAnyH_take (i := 5) (oi := { dst := some 14, op := Op.load 35 (Operand.tmp 13), type := 35, pos := "l11_checkpoints.go:49", after := #[{ on := 4, ground := Ground.data }, { on := 3, ground := Ground.guard }], guard := some (3, false) }) (v := ?vc5) rfl (by kernel_rfl) (by kernel_rfl) (by kernel_rfl) (fun _ _ _ h => h) (Or.inl ⟨by rfl, ?yc5⟩) (by assumption) ?rc5
     case yc5=>(intro w hSw;(try dsimp only at hSw);go_simp;(try with_reducible rfl))
     try simp only[Act.put,List.setIfInBounds_toArray,List.set_cons_zero,List.set_cons_succ]
     refine wpAnyH_take (i := 6) (oi := { dst := some 15, op := Op.call { callee := Callee.builtin Builtin.len, args := #[Operand.tmp 14], argTypes := #[35] }, type := 3, pos := "l11_checkpoints.go:49", after := #[{ on := 5, ground := Ground.data }, { on := 3, ground := Ground.guard }], guard := some (3, false) }) (v := ?vc6) rfl (by kernel_rfl) (by kernel_rfl) (by kernel_rfl) (fun _ _ _ h => h) (Or.inl ⟨by rfl, ?yc6⟩) (by assumption) ?rc6
     case yc6=>(intro w hSw;(try dsimp only at hSw);go_simp;(try with_reducible rfl))
     try simp only[Act.put,List.setIfInBounds_toArray,List.set_cons_zero,List.set_cons_succ]
     refine wpAnyH_take (i := 7) (oi := { dst := some 16, op := Op.move (Operand.tmp 0), type := 22, pos := "l11_checkpoints.go:49", after := #[{ on := 3, ground := Ground.guard }], guard := some (3, false) }) (v := ?vc7) rfl (by kernel_rfl) (by kernel_rfl) (by kernel_rfl) (fun _ _ _ h => h) (Or.inl ⟨by rfl, ?yc7⟩) (by assumption) ?rc7
     case yc7=>(intro w hSw;(try dsimp only at hSw);go_simp;(try with_reducible rfl))
     try simp only[Act.put,List.setIfInBounds_toArray,List.set_cons_zero,List.set_cons_succ]
     refine wpAnyH_ready (rs:=[8]) (by kernel_rfl) (by simp) ?_
     refine AllReadyH.cons (o := { dst := some 17, op := Op.call { callee := Callee.value (Operand.func 65), args := #[Operand.tmp 16], argTypes := #[22] }, type := 3, pos := "l11_checkpoints.go:49", after := #[{ on := 7, ground := Ground.data }, { on := 3, ground := Ground.chain }, { on := 3, ground := Ground.guard }], guard := some (3, false) }) rfl (fun K hK => ?_) AllReadyH.nil
     go_simp
     go_at_call 65
     with_reducible refine KE.mono ?_
     rintro e w2 ⟨rfl,rfl⟩
     clear hHeld
     refine hK.out _ _ SX.out (fun hHeld=>?_)
     clear hK K
     try simp only[Act.put,List.setIfInBounds_toArray,List.set_cons_zero,List.set_cons_succ]
     refine wpAnyH_take (i := 9) (oi := { dst := some 18, op := Op.binOp BinOp.lss 3 (Operand.tmp 15) (Operand.tmp 17) 3, type := 4, pos := "l11_checkpoints.go:49", after := #[{ on := 6, ground := Ground.data }, { on := 8, ground := Ground.data }, { on := 3, ground := Ground.guard }], guard := some (3, false) }) (v := ?vc9) rfl (by kernel_rfl) (by kernel_rfl) (by kernel_rfl) (fun _ _ _ h => h) (Or.inl ⟨by rfl, ?yc9⟩) (by assumption) ?rc9
     case yc9=>(intro w hSw;(try dsimp only at hSw);go_simp;(try with_reducible rfl))
     try simp only[Act.put,List.setIfInBounds_toArray,List.set_cons_zero,List.set_cons_succ]
     refine wpAnyH_take (i := 10) (oi := { dst := some 19, op := Op.pick (Operand.tmp 12) (Operand.const (Value.bool true)) (Operand.tmp 18), type := 4, pos := "l11_checkpoints.go:49", after := #[{ on := 3, ground := Ground.data }, { on := 9, ground := Ground.data }], guard := none }) (v := ?vc10) rfl (by kernel_rfl) (by kernel_rfl) (by kernel_rfl) (fun _ _ _ h => h) (Or.inl ⟨by rfl, ?yc10⟩) (by assumption) ?rc10
     case yc10=>(intro w hSw;(try dsimp only at hSw);go_simp;(try with_reducible rfl))
     try simp only[Act.put,List.setIfInBounds_toArray,List.set_cons_zero,List.set_cons_succ]
     refine wpAnyH_take (i := 11) (oi := { dst := some 20, op := Op.move (Operand.tmp 19), type := 4, pos := "l11_checkpoints.go:49", after := #[{ on := 10, ground := Ground.data }, { on := 8, ground := Ground.chain }], guard := none }) (v := ?vc11) rfl (by kernel_rfl) (by kernel_rfl) (by kernel_rfl) (fun _ _ _ h => h) (Or.inl ⟨by rfl, ?yc11⟩) (by assumption) ?rc11
     case yc11=>(intro w hSw;(try dsimp only at hSw);go_simp;(try with_reducible rfl))
     try simp only[Act.put,List.setIfInBounds_toArray,List.set_cons_zero,List.set_cons_succ]
     refine wpAnyH_take (i := 12) (oi := { dst := some 21, op := Op.fieldAddr 37 (Operand.tmp 3) 2, type := 0, pos := "l11_checkpoints.go:49", after := #[{ on := 11, ground := Ground.guard }], guard := some (11, false) }) (v := undef) rfl (by kernel_rfl) (by kernel_rfl) (by kernel_rfl) (fun _ _ _ h => h) (Or.inr ⟨by rfl, rfl⟩) (by assumption) ?_
     try simp only[Act.put,List.setIfInBounds_toArray,List.set_cons_zero,List.set_cons_succ]
     refine wpAnyH_take (i := 13) (oi := { dst := some 22, op := Op.load 35 (Operand.tmp 21), type := 35, pos := "l11_checkpoints.go:49", after := #[{ on := 12, ground := Ground.data }, { on := 11, ground := Ground.guard }], guard := some (11, false) }) (v := undef) rfl (by kernel_rfl) (by kernel_rfl) (by kernel_rfl) (fun _ _ _ h => h) (Or.inr ⟨by rfl, rfl⟩) (by assumption) ?_
     try simp only[Act.put,List.setIfInBounds_toArray,List.set_cons_zero,List.set_cons_succ]
     refine wpAnyH_take (i := 14) (oi := { dst := some 23, op := Op.call { callee := Callee.builtin Builtin.len, args := #[Operand.tmp 22], argTypes := #[35] }, type := 3, pos := "l11_checkpoints.go:49", after := #[{ on := 13, ground := Ground.data }, { on := 11, ground := Ground.guard }], guard := some (11, false) }) (v := undef) rfl (by kernel_rfl) (by kernel_rfl) (by kernel_rfl) (fun _ _ _ h => h) (Or.inr ⟨by rfl, rfl⟩) (by assumption) ?_
     try simp only[Act.put,List.setIfInBounds_toArray,List.set_cons_zero,List.set_cons_succ]
     refine wpAnyH_take (i := 15) (oi := { dst := some 24, op := Op.move (Operand.tmp 0), type := 22, pos := "l11_checkpoints.go:49", after := #[{ on := 11, ground := Ground.guard }], guard := some (11, false) }) (v := undef) rfl (by kernel_rfl) (by kernel_rfl) (by kernel_rfl) (fun _ _ _ h => h) (Or.inr ⟨by rfl, rfl⟩) (by assumption) ?_
     try simp only[Act.put,List.setIfInBounds_toArray,List.set_cons_zero,List.set_cons_succ]
     refine wpAnyH_take (i := 16) (oi := { dst := some 25, op := Op.call { callee := Callee.builtin Builtin.len, args := #[Operand.tmp 24], argTypes := #[22] }, type := 3, pos := "l11_checkpoints.go:49", after := #[{ on := 15, ground := Ground.data }, { on := 11, ground := Ground.guard }], guard := some (11, false) }) (v := undef) rfl (by kernel_rfl) (by kernel_rfl) (by kernel_rfl) (fun _ _ _ h => h) (Or.inr ⟨by rfl, rfl⟩) (by assumption) ?_
     try simp only[Act.put,List.setIfInBounds_toArray,List.set_cons_zero,List.set_cons_succ]
     refine wpAnyH_take (i := 17) (oi := { dst := some 26, op := Op.binOp BinOp.gtr 3 (Operand.tmp 23) (Operand.tmp 25) 3, type := 4, pos := "l11_checkpoints.go:49", after := #[{ on := 14, ground := Ground.data }, { on := 16, ground := Ground.data }, { on := 11, ground := Ground.guard }], guard := some (11, false) }) (v := undef) rfl (by kernel_rfl) (by kernel_rfl) (by kernel_rfl) (fun _ _ _ h => h) (Or.inr ⟨by rfl, rfl⟩) (by assumption) ?_
     try simp only[Act.put,List.setIfInBounds_toArray,List.set_cons_zero,List.set_cons_succ]
     refine wpAnyH_take (i := 18) (oi := { dst := some 27, op := Op.pick (Operand.tmp 20) (Operand.const (Value.bool true)) (Operand.tmp 26), type := 4, pos := "l11_checkpoints.go:49", after := #[{ on := 11, ground := Ground.data }, { on := 17, ground := Ground.data }], guard := none }) (v := ?vc18) rfl (by kernel_rfl) (by kernel_rfl) (by kernel_rfl) (fun _ _ _ h => h) (Or.inl ⟨by rfl, ?yc18⟩) (by assumption) ?rc18
     case yc18=>(intro w hSw;(try dsimp only at hSw);go_simp;(try with_reducible rfl))
     try simp only[Act.put,List.setIfInBounds_toArray,List.set_cons_zero,List.set_cons_succ]
     refine wpAnyH_done (by kernel_rfl) ?_ _
     go_wp2
     go_ret
     exact⟨by rw[HZ.out];rfl,Bd⟩
   · have hf2 : ¬ (vs.length : Int) < (md : Int) + 1 := by have := HMD.out; omega
     have hf3:¬ vs.length≤md:=by have:=HMD.out;omega
     have hf4:decide ((vs.length:Int)<(md:Int)+1)=false:=decide_eq_false hf2
     by_cases hmany:ks.length<vs.length
     · have HZ:Hid (out=false):=H2 hmany
       have hm':(ks.length:Int)<(vs.length:Int):=by omega
       clear hkb H0 H1 H2 HFALL HBAD HYES hs hk hvm hkm x0 x1 x2
       go_enter Tryz.func44,Tryz.ntmps44
       go_wp2_with fail
       refine wp_region_held_drew (S:=fun w'=>w'.cell? ⟨w.heap.size,2,none⟩=some (.slice b vs.length cb)) (by kernel_rfl) SX.out (fun hHeld=>?_)
       refine wpAnyH_take (i := 0) (oi := { dst := some 9, op := Op.move (Operand.tmp 0), type := 22, pos := "l11_checkpoints.go:49", after := #[], guard := none }) (v := ?vd0) rfl (by kernel_rfl) (by kernel_rfl) (by kernel_rfl) (fun _ _ _ h => h) (Or.inl ⟨by rfl, ?yd0⟩) (by assumption) ?rd0
       case yd0=>(intro w hSw;(try dsimp only at hSw);go_simp;(try with_reducible rfl))
       try simp only[Act.put,List.setIfInBounds_toArray,List.set_cons_zero,List.set_cons_succ]
       refine wpAnyH_ready (rs:=[1]) (by kernel_rfl) (by simp) ?_
       refine AllReadyH.cons (o := { dst := some 10, op := Op.call { callee := Callee.value (Operand.func 64), args := #[Operand.tmp 9], argTypes := #[22] }, type := 4, pos := "l11_checkpoints.go:49", after := #[{ on := 0, ground := Ground.data }], guard := none }) rfl (fun K hK => ?_) AllReadyH.nil
       go_simp
       go_at_call 64
       with_reducible refine KK.mono ?_
       rintro e w2 ⟨rfl,rfl⟩
       clear hHeld
       refine hK.out _ _ SX.out (fun hHeld=>?_)
       clear hK K
       try simp only[Act.put,List.setIfInBounds_toArray,List.set_cons_zero,List.set_cons_succ]
       refine wpAnyH_take (i := 2) (oi := { dst := some 11, op := Op.unOp UnOp.not 4 (Operand.tmp 10), type := 4, pos := "l11_checkpoints.go:49", after := #[{ on := 1, ground := Ground.data }], guard := none }) (v := ?vd2) rfl (by kernel_rfl) (by kernel_rfl) (by kernel_rfl) (fun _ _ _ h => h) (Or.inl ⟨by rfl, ?yd2⟩) (by assumption) ?rd2
       case yd2=>(intro w hSw;(try dsimp only at hSw);go_simp;(try with_reducible rfl))
       try simp only[Act.put,List.setIfInBounds_toArray,List.set_cons_zero,List.set_cons_succ]
       refine wpAnyH_take (i := 3) (oi := { dst := some 12, op := Op.move (Operand.tmp 11), type := 4, pos := "l11_checkpoints.go:49", after := #[{ on := 2, ground := Ground.data }, { on := 1, ground := Ground.chain }], guard := none }) (v := ?vd3) rfl (by kernel_rfl) (by kernel_rfl) (by kernel_rfl) (fun _ _ _ h => h) (Or.inl ⟨by rfl, ?yd3⟩) (by assumption) ?rd3
       case yd3=>(intro w hSw;(try dsimp only at hSw);go_simp;(try with_reducible rfl))
       try simp only[Act.put,List.setIfInBounds_toArray,List.set_cons_zero,List.set_cons_succ]
       refine wpAnyH_take (i := 4) (oi := { dst := some 13, op := Op.fieldAddr 37 (Operand.tmp 3) 2, type := 0, pos := "l11_checkpoints.go:49", after := #[{ on := 3, ground := Ground.guard }], guard := some (3, false) }) (v := ?vd4) rfl (by kernel_rfl) (by kernel_rfl) (by kernel_rfl) (fun _ _ _ h => h) (Or.inl ⟨by rfl, ?yd4⟩) (by assumption) ?rd4
       case yd4=>(intro w hSw;(try dsimp only at hSw);go_simp;(try with_reducible rfl))
       try simp only[Act.put,List.setIfInBounds_toArray,List.set_cons_zero,List.set_cons_succ]
       refine wpAnyH_take (i := 5) (oi := { dst := some 14, op := Op.load 35 (Operand.tmp 13), type := 35, pos := "l11_checkpoints.go:49", after := #[{ on := 4, ground := Ground.data }, { on := 3, ground := Ground.guard }], guard := some (3, false) }) (v := ?vd5) rfl (by kernel_rfl) (by kernel_rfl) (by kernel_rfl) (fun _ _ _ h => h) (Or.inl ⟨by rfl, ?yd5⟩) (by assumption) ?rd5
       case yd5=>(intro w hSw;(try dsimp only at hSw);go_simp;(try with_reducible rfl))
       try simp only[Act.put,List.setIfInBounds_toArray,List.set_cons_zero,List.set_cons_succ]
       refine wpAnyH_take (i := 6) (oi := { dst := some 15, op := Op.call { callee := Callee.builtin Builtin.len, args := #[Operand.tmp 14], argTypes := #[35] }, type := 3, pos := "l11_checkpoints.go:49", after := #[{ on := 5, ground := Ground.data }, { on := 3, ground := Ground.guard }], guard := some (3, false) }) (v := ?vd6) rfl (by kernel_rfl) (by kernel_rfl) (by kernel_rfl) (fun _ _ _ h => h) (Or.inl ⟨by rfl, ?yd6⟩) (by assumption) ?rd6
       case yd6=>(intro w hSw;(try dsimp only at hSw);go_simp;(try with_reducible rfl))
       try simp only[Act.put,List.setIfInBounds_toArray,List.set_cons_zero,List.set_cons_succ]
       refine wpAnyH_take (i := 7) (oi := { dst := some 16, op := Op.move (Operand.tmp 0), type := 22, pos := "l11_checkpoints.go:49", after := #[{ on := 3, ground := Ground.guard }], guard := some (3, false) }) (v := ?vd7) rfl (by kernel_rfl) (by kernel_rfl) (by kernel_rfl) (fun _ _ _ h => h) (Or.inl ⟨by rfl, ?yd7⟩) (by assumption) ?rd7
       case yd7=>(intro w hSw;(try dsimp only at hSw);go_simp;(try with_reducible rfl))
       try simp only[Act.put,List.setIfInBounds_toArray,List.set_cons_zero,List.set_cons_succ]
       refine wpAnyH_ready (rs:=[8]) (by kernel_rfl) (by simp) ?_
       refine AllReadyH.cons (o := { dst := some 17, op := Op.call { callee := Callee.value (Operand.func 65), args := #[Operand.tmp 16], argTypes := #[22] }, type := 3, pos := "l11_checkpoints.go:49", after := #[{ on := 7, ground := Ground.data }, { on := 3, ground := Ground.chain }, { on := 3, ground := Ground.guard }], guard := some (3, false) }) rfl (fun K hK => ?_) AllReadyH.nil
       go_simp
       go_at_call 65
       with_reducible refine KE.mono ?_
       rintro e w2 ⟨rfl,rfl⟩
       clear hHeld
       refine hK.out _ _ SX.out (fun hHeld=>?_)
       clear hK K
       try simp only[Act.put,List.setIfInBounds_toArray,List.set_cons_zero,List.set_cons_succ]
       refine wpAnyH_take (i := 9) (oi := { dst := some 18, op := Op.binOp BinOp.lss 3 (Operand.tmp 15) (Operand.tmp 17) 3, type := 4, pos := "l11_checkpoints.go:49", after := #[{ on := 6, ground := Ground.data }, { on := 8, ground := Ground.data }, { on := 3, ground := Ground.guard }], guard := some (3, false) }) (v := ?vd9) rfl (by kernel_rfl) (by kernel_rfl) (by kernel_rfl) (fun _ _ _ h => h) (Or.inl ⟨by rfl, ?yd9⟩) (by assumption) ?rd9
       case yd9=>(intro w hSw;(try dsimp only at hSw);go_simp;(try with_reducible rfl))
       try simp only[Act.put,List.setIfInBounds_toArray,List.set_cons_zero,List.set_cons_succ]
       refine wpAnyH_take (i := 10) (oi := { dst := some 19, op := Op.pick (Operand.tmp 12) (Operand.const (Value.bool true)) (Operand.tmp 18), type := 4, pos := "l11_checkpoints.go:49", after := #[{ on := 3, ground := Ground.data }, { on := 9, ground := Ground.data }], guard := none }) (v := ?vd10) rfl (by kernel_rfl) (by kernel_rfl) (by kernel_rfl) (fun _ _ _ h => h) (Or.inl ⟨by rfl, ?yd10⟩) (by assumption) ?rd10
       case yd10=>(intro w hSw;(try dsimp only at hSw);go_simp;(try with_reducible rfl))
       try simp only[Act.put,List.setIfInBounds_toArray,List.set_cons_zero,List.set_cons_succ]
       refine wpAnyH_take (i := 11) (oi := { dst := some 20, op := Op.move (Operand.tmp 19), type := 4, pos := "l11_checkpoints.go:49", after := #[{ on := 10, ground := Ground.data }, { on := 8, ground := Ground.chain }], guard := none }) (v := ?vd11) rfl (by kernel_rfl) (by kernel_rfl) (by kernel_rfl) (fun _ _ _ h => h) (Or.inl ⟨by rfl, ?yd11⟩) (by assumption) ?rd11
       case yd11=>(intro w hSw;(try dsimp only at hSw);go_simp;(try with_reducible rfl))
       try simp only[Act.put,List.setIfInBounds_toArray,List.set_cons_zero,List.set_cons_succ]
       refine wpAnyH_take (i := 12) (oi := { dst := some 21, op := Op.fieldAddr 37 (Operand.tmp 3) 2, type := 0, pos := "l11_checkpoints.go:49", after := #[{ on := 11, ground := Ground.guard }], guard := some (11, false) }) (v := ?vd12) rfl (by kernel_rfl) (by kernel_rfl) (by kernel_rfl) (fun _ _ _ h => h) (Or.inl ⟨by rfl, ?yd12⟩) (by assumption) ?rd12
       case yd12=>(intro w hSw;(try dsimp only at hSw);go_simp;(try with_reducible rfl))
       try simp only[Act.put,List.setIfInBounds_toArray,List.set_cons_zero,List.set_cons_succ]
       refine wpAnyH_take (i := 13) (oi := { dst := some 22, op := Op.load 35 (Operand.tmp 21), type := 35, pos := "l11_checkpoints.go:49", after := #[{ on := 12, ground := Ground.data }, { on := 11, ground := Ground.guard }], guard := some (11, false) }) (v := ?vd13) rfl (by kernel_rfl) (by kernel_rfl) (by kernel_rfl) (fun _ _ _ h => h) (Or.inl ⟨by rfl, ?yd13⟩) (by assumption) ?rd13
       case yd13=>(intro w hSw;(try dsimp only at hSw);go_simp;(try with_reducible rfl))
       try simp only[Act.put,List.setIfInBounds_toArray,List.set_cons_zero,List.set_cons_succ]
       refine wpAnyH_take (i := 14) (oi := { dst := some 23, op := Op.call { callee := Callee.builtin Builtin.len, args := #[Operand.tmp 22], argTypes := #[35] }, type := 3, pos := "l11_checkpoints.go:49", after := #[{ on := 13, ground := Ground.data }, { on := 11, ground := Ground.guard }], guard := some (11, false) }) (v := ?vd14) rfl (by kernel_rfl) (by kernel_rfl) (by kernel_rfl) (fun _ _ _ h => h) (Or.inl ⟨by rfl, ?yd14⟩) (by assumption) ?rd14
       case yd14=>(intro w hSw;(try dsimp only at hSw);go_simp;(try with_reducible rfl))
       try simp only[Act.put,List.setIfInBounds_toArray,List.set_cons_zero,List.set_cons_succ]
       refine wpAnyH_take (i := 15) (oi := { dst := some 24, op := Op.move (Operand.tmp 0), type := 22, pos := "l11_checkpoints.go:49", after := #[{ on := 11, ground := Ground.guard }], guard := some (11, false) }) (v := ?vd15) rfl (by kernel_rfl) (by kernel_rfl) (by kernel_rfl) (fun _ _ _ h => h) (Or.inl ⟨by rfl, ?yd15⟩) (by assumption) ?rd15
       case yd15=>(intro w hSw;(try dsimp only at hSw);go_simp;(try with_reducible rfl))
       try simp only[Act.put,List.setIfInBounds_toArray,List.set_cons_zero,List.set_cons_succ]
       refine wpAnyH_take (i := 16) (oi := { dst := some 25, op := Op.call { callee := Callee.builtin Builtin.len, args := #[Operand.tmp 24], argTypes := #[22] }, type := 3, pos := "l11_checkpoints.go:49", after := #[{ on := 15, ground := Ground.data }, { on := 11, ground := Ground.guard }], guard := some (11, false) }) (v := ?vd16) rfl (by kernel_rfl) (by kernel_rfl) (by kernel_rfl) (fun _ _ _ h => h) (Or.inl ⟨by rfl, ?yd16⟩) (by assumption) ?rd16
       case yd16=>(intro w hSw;(try dsimp only at hSw);go_simp;(try with_reducible rfl))
       try simp only[Act.put,List.setIfInBounds_toArray,List.set_cons_zero,List.set_cons_succ]
       refine wpAnyH_take (i := 17) (oi := { dst := some 26, op := Op.binOp BinOp.gtr 3 (Operand.tmp 23) (Operand.tmp 25) 3, type := 4, pos := "l11_checkpoints.go:49", after := #[{ on := 14, ground := Ground.data }, { on := 16, ground := Ground.data }, { on := 11, ground := Ground.guard }], guard := some (11, false) }) (v := ?vd17) rfl (by kernel_rfl) (by kernel_rfl) (by kernel_rfl) (fun _ _ _ h => h) (Or.inl ⟨by rfl, ?yd17⟩) (by assumption) ?rd17
       case yd17=>(intro w hSw;(try dsimp only at hSw);go_simp;(try with_reducible rfl))
       try simp only[Act.put,List.setIfInBounds_toArray,List.set_cons_zero,List.set_cons_succ]
       refine wpAnyH_take (i := 18) (oi := { dst := some 27, op := Op.pick (Operand.tmp 20) (Operand.const (Value.bool true)) (Operand.tmp 26), type := 4, pos := "l11_checkpoints.go:49", after := #[{ on := 11, ground := Ground.data }, { on := 17, ground := Ground.data }], guard := none }) (v := ?vd18) rfl (by kernel_rfl) (by kernel_rfl) (by kernel_rfl) (fun _ _ _ h => h) (Or.inl ⟨by rfl, ?yd18⟩) (by assumption) ?rd18
       case yd18=>(intro w hSw;(try dsimp only at hSw);go_simp;(try with_reducible rfl))
       try simp only[Act.put,List.setIfInBounds_toArray,List.set_cons_zero,List.set_cons_succ]
       refine wpAnyH_done (by kernel_rfl) ?_ _
       go_wp2
       go_ret
       exact⟨by rw[HZ.out];rfl,Bd⟩
     · have hm' : ¬ (ks.length : Int) < (vs.length : Int) := by omega
       go_enter Tryz.func44,Tryz.ntmps44
       go_wp2_with fail
       refine wp_region_held_drew (S:=fun w'=>w'.cell? ⟨w.heap.size,2,none⟩=some (.slice b vs.length cb)) (by kernel_rfl) SX.out (fun hHeld=>?_)
       refine wpAnyH_take (i := 0) (oi := { dst := some 9, op := Op.move (Operand.tmp 0), type := 22, pos := "l11_checkpoints.go:49", after := #[], guard := none }) (v := ?ve0) rfl (by kernel_rfl) (by kernel_rfl) (by kernel_rfl) (fun _ _ _ h => h) (Or.inl ⟨by rfl, ?ye0⟩) (by assumption) ?re0
       case ye0=>(intro w hSw;(try dsimp only at hSw);go_simp;(try with_reducible rfl))
       try simp only[Act.put,List.setIfInBounds_toArray,List.set_cons_zero,List.set_cons_succ]
       refine wpAnyH_ready (rs:=[1]) (by kernel_rfl) (by simp) ?_
       refine AllReadyH.cons (o := { dst := some 10, op := Op.call { callee := Callee.value (Operand.func 64), args := #[Operand.tmp 9], argTypes := #[22] }, type := 4, pos := "l11_checkpoints.go:49", after := #[{ on := 0, ground := Ground.data }], guard := none }) rfl (fun K hK => ?_) AllReadyH.nil
       go_simp
       go_at_call 64
       with_reducible refine KK.mono ?_
       rintro e w2 ⟨rfl,rfl⟩
       clear hHeld
       refine hK.out _ _ SX.out (fun hHeld=>?_)
       clear hK K
       try simp only[Act.put,List.setIfInBounds_toArray,List.set_cons_zero,List.set_cons_succ]
       refine wpAnyH_take (i := 2) (oi := { dst := some 11, op := Op.unOp UnOp.not 4 (Operand.tmp 10), type := 4, pos := "l11_checkpoints.go:49", after := #[{ on := 1, ground := Ground.data }], guard := none }) (v := ?ve2) rfl (by kernel_rfl) (by kernel_rfl) (by kernel_rfl) (fun _ _ _ h => h) (Or.inl ⟨by rfl, ?ye2⟩) (by assumption) ?re2
       case ye2=>(intro w hSw;(try dsimp only at hSw);go_simp;(try with_reducible rfl))
       try simp only[Act.put,List.setIfInBounds_toArray,List.set_cons_zero,List.set_cons_succ]
       refine wpAnyH_take (i := 3) (oi := { dst := some 12, op := Op.move (Operand.tmp 11), type := 4, pos := "l11_checkpoints.go:49", after := #[{ on := 2, ground := Ground.data }, { on := 1, ground := Ground.chain }], guard := none }) (v := ?ve3) rfl (by kernel_rfl) (by kernel_rfl) (by kernel_rfl) (fun _ _ _ h => h) (Or.inl ⟨by rfl, ?ye3⟩) (by assumption) ?re3
       case ye3=>(intro w hSw;(try dsimp only at hSw);go_simp;(try with_reducible rfl))
       try simp only[Act.put,List.setIfInBounds_toArray,List.set_cons_zero,List.set_cons_succ]
       refine wpAnyH_take (i := 4) (oi := { dst := some 13, op := Op.fieldAddr 37 (Operand.tmp 3) 2, type := 0, pos := "l11_checkpoints.go:49", after := #[{ on := 3, ground := Ground.guard }], guard := some (3, false) }) (v := ?ve4) rfl (by kernel_rfl) (by kernel_rfl) (by kernel_rfl) (fun _ _ _ h => h) (Or.inl ⟨by rfl, ?ye4⟩) (by assumption) ?re4
       case ye4=>(intro w hSw;(try dsimp only at hSw);go_simp;(try with_reducible rfl))
       try simp only[Act.put,List.setIfInBounds_toArray,List.set_cons_zero,List.set_cons_succ]
       refine wpAnyH_take (i := 5) (oi := { dst := some 14, op := Op.load 35 (Operand.tmp 13), type := 35, pos := "l11_checkpoints.go:49", after := #[{ on := 4, ground := Ground.data }, { on := 3, ground := Ground.guard }], guard := some (3, false) }) (v := ?ve5) rfl (by kernel_rfl) (by kernel_rfl) (by kernel_rfl) (fun _ _ _ h => h) (Or.inl ⟨by rfl, ?ye5⟩) (by assumption) ?re5
       case ye5=>(intro w hSw;(try dsimp only at hSw);go_simp;(try with_reducible rfl))
       try simp only[Act.put,List.setIfInBounds_toArray,List.set_cons_zero,List.set_cons_succ]
       refine wpAnyH_take (i := 6) (oi := { dst := some 15, op := Op.call { callee := Callee.builtin Builtin.len, args := #[Operand.tmp 14], argTypes := #[35] }, type := 3, pos := "l11_checkpoints.go:49", after := #[{ on := 5, ground := Ground.data }, { on := 3, ground := Ground.guard }], guard := some (3, false) }) (v := ?ve6) rfl (by kernel_rfl) (by kernel_rfl) (by kernel_rfl) (fun _ _ _ h => h) (Or.inl ⟨by rfl, ?ye6⟩) (by assumption) ?re6
       case ye6=>(intro w hSw;(try dsimp only at hSw);go_simp;(try with_reducible rfl))
       try simp only[Act.put,List.setIfInBounds_toArray,List.set_cons_zero,List.set_cons_succ]
       refine wpAnyH_take (i := 7) (oi := { dst := some 16, op := Op.move (Operand.tmp 0), type := 22, pos := "l11_checkpoints.go:49", after := #[{ on := 3, ground := Ground.guard }], guard := some (3, false) }) (v := ?ve7) rfl (by kernel_rfl) (by kernel_rfl) (by kernel_rfl) (fun _ _ _ h => h) (Or.inl ⟨by rfl, ?ye7⟩) (by assumption) ?re7
       case ye7=>(intro w hSw;(try dsimp only at hSw);go_simp;(try with_reducible rfl))
       try simp only[Act.put,List.setIfInBounds_toArray,List.set_cons_zero,List.set_cons_succ]
       refine wpAnyH_ready (rs:=[8]) (by kernel_rfl) (by simp) ?_
       refine AllReadyH.cons (o := { dst := some 17, op := Op.call { callee := Callee.value (Operand.func 65), args := #[Operand.tmp 16], argTypes := #[22] }, type := 3, pos := "l11_checkpoints.go:49", after := #[{ on := 7, ground := Ground.data }, { on := 3, ground := Ground.chain }, { on := 3, ground := Ground.guard }], guard := some (3, false) }) rfl (fun K hK => ?_) AllReadyH.nil
       go_simp
       go_at_call 65
       with_reducible refine KE.mono ?_
       rintro e w2 ⟨rfl,rfl⟩
       clear hHeld
       refine hK.out _ _ SX.out (fun hHeld=>?_)
       clear hK K
       try simp only[Act.put,List.setIfInBounds_toArray,List.set_cons_zero,List.set_cons_succ]
       refine wpAnyH_take (i := 9) (oi := { dst := some 18, op := Op.binOp BinOp.lss 3 (Operand.tmp 15) (Operand.tmp 17) 3, type := 4, pos := "l11_checkpoints.go:49", after := #[{ on := 6, ground := Ground.data }, { on := 8, ground := Ground.data }, { on := 3, ground := Ground.guard }], guard := some (3, false) }) (v := ?ve9) rfl (by kernel_rfl) (by kernel_rfl) (by kernel_rfl) (fun _ _ _ h => h) (Or.inl ⟨by rfl, ?ye9⟩) (by assumption) ?re9
       case ye9=>(intro w hSw;(try dsimp only at hSw);go_simp;(try with_reducible rfl))
       try simp only[Act.put,List.setIfInBounds_toArray,List.set_cons_zero,List.set_cons_succ]
       refine wpAnyH_take (i := 10) (oi := { dst := some 19, op := Op.pick (Operand.tmp 12) (Operand.const (Value.bool true)) (Operand.tmp 18), type := 4, pos := "l11_checkpoints.go:49", after := #[{ on := 3, ground := Ground.data }, { on := 9, ground := Ground.data }], guard := none }) (v := ?ve10) rfl (by kernel_rfl) (by kernel_rfl) (by kernel_rfl) (fun _ _ _ h => h) (Or.inl ⟨by rfl, ?ye10⟩) (by assumption) ?re10
       case ye10=>(intro w hSw;(try dsimp only at hSw);go_simp;(try with_reducible rfl))
       try simp only[Act.put,List.setIfInBounds_toArray,List.set_cons_zero,List.set_cons_succ]
       refine wpAnyH_take (i := 11) (oi := { dst := some 20, op := Op.move (Operand.tmp 19), type := 4, pos := "l11_checkpoints.go:49", after := #[{ on := 10, ground := Ground.data }, { on := 8, ground := Ground.chain }], guard := none }) (v := ?ve11) rfl (by kernel_rfl) (by kernel_rfl) (by kernel_rfl) (fun _ _ _ h => h) (Or.inl ⟨by rfl, ?ye11⟩) (by assumption) ?re11
       case ye11=>(intro w hSw;(try dsimp only at hSw);go_simp;(try with_reducible rfl))
       try simp only[Act.put,List.setIfInBounds_toArray,List.set_cons_zero,List.set_cons_succ]
       refine wpAnyH_take (i := 12) (oi := { dst := some 21, op := Op.fieldAddr 37 (Operand.tmp 3) 2, type := 0, pos := "l11_checkpoints.go:49", after := #[{ on := 11, ground := Ground.guard }], guard := some (11, false) }) (v := ?ve12) rfl (by kernel_rfl) (by kernel_rfl) (by kernel_rfl) (fun _ _ _ h => h) (Or.inl ⟨by rfl, ?ye12⟩) (by assumption) ?re12
       case ye12=>(intro w hSw;(try dsimp only at hSw);go_simp;(try with_reducible rfl))
       try simp only[Act.put,List.setIfInBounds_toArray,List.set_cons_zero,List.set_cons_succ]
       refine wpAnyH_take (i := 13) (oi := { dst := some 22, op := Op.load 35 (Operand.tmp 21), type := 35, pos := "l11_checkpoints.go:49", after := #[{ on := 12, ground := Ground.data }, { on := 11, ground := Ground.guard }], guard := some (11, false) }) (v := ?ve13) rfl (by kernel_rfl) (by kernel_rfl) (by kernel_rfl) (fun _ _ _ h => h) (Or.inl ⟨by rfl, ?ye13⟩) (by assumption) ?re13
       case ye13=>(intro w hSw;(try dsimp only at hSw);go_simp;(try with_reducible rfl))
       try simp only[Act.put,List.setIfInBounds_toArray,List.set_cons_zero,List.set_cons_succ]
       refine wpAnyH_take (i := 14) (oi := { dst := some 23, op := Op.call { callee := Callee.builtin Builtin.len, args := #[Operand.tmp 22], argTypes := #[35] }, type := 3, pos := "l11_checkpoints.go:49", after := #[{ on := 13, ground := Ground.data }, { on := 11, ground := Ground.guard }], guard := some (11, false) }) (v := ?ve14) rfl (by kernel_rfl) (by kernel_rfl) (by kernel_rfl) (fun _ _ _ h => h) (Or.inl ⟨by rfl, ?ye14⟩) (by assumption) ?re14
       case ye14=>(intro w hSw;(try dsimp only at hSw);go_simp;(try with_reducible rfl))
       try simp only[Act.put,List.setIfInBounds_toArray,List.set_cons_zero,List.set_cons_succ]
       refine wpAnyH_take (i := 15) (oi := { dst := some 24, op := Op.move (Operand.tmp 0), type := 22, pos := "l11_checkpoints.go:49", after := #[{ on := 11, ground := Ground.guard }], guard := some (11, false) }) (v := ?ve15) rfl (by kernel_rfl) (by kernel_rfl) (by kernel_rfl) (fun _ _ _ h => h) (Or.inl ⟨by rfl, ?ye15⟩) (by assumption) ?re15
       case ye15=>(intro w hSw;(try dsimp only at hSw);go_simp;(try with_reducible rfl))
       try simp only[Act.put,List.setIfInBounds_toArray,List.set_cons_zero,List.set_cons_succ]
       refine wpAnyH_take (i := 16) (oi := { dst := some 25, op := Op.call { callee := Callee.builtin Builtin.len, args := #[Operand.tmp 24], argTypes := #[22] }, type := 3, pos := "l11_checkpoints.go:49", after := #[{ on := 15, ground := Ground.data }, { on := 11, ground := Ground.guard }], guard := some (11, false) }) (v := ?ve16) rfl (by kernel_rfl) (by kernel_rfl) (by kernel_rfl) (fun _ _ _ h => h) (Or.inl ⟨by rfl, ?ye16⟩) (by assumption) ?re16
       case ye16=>(intro w hSw;(try dsimp only at hSw);go_simp;(try with_reducible rfl))
       try simp only[Act.put,List.setIfInBounds_toArray,List.set_cons_zero,List.set_cons_succ]
       refine wpAnyH_take (i := 17) (oi := { dst := some 26, op := Op.binOp BinOp.gtr 3 (Operand.tmp 23) (Operand.tmp 25) 3, type := 4, pos := "l11_checkpoints.go:49", after := #[{ on := 14, ground := Ground.data }, { on := 16, ground := Ground.data }, { on := 11, ground := Ground.guard }], guard := some (11, false) }) (v := ?ve17) rfl (by kernel_rfl) (by kernel_rfl) (by kernel_rfl) (fun _ _ _ h => h) (Or.inl ⟨by rfl, ?ye17⟩) (by assumption) ?re17
       case ye17=>(intro w hSw;(try dsimp only at hSw);go_simp;(try with_reducible rfl))
       try simp only[Act.put,List.setIfInBounds_toArray,List.set_cons_zero,List.set_cons_succ]
       refine wpAnyH_take (i := 18) (oi := { dst := some 27, op := Op.pick (Operand.tmp 20) (Operand.const (Value.bool true)) (Operand.tmp 26), type := 4, pos := "l11_checkpoints.go:49", after := #[{ on := 11, ground := Ground.data }, { on := 17, ground := Ground.data }], guard := none }) (v := ?ve18) rfl (by kernel_rfl) (by kernel_rfl) (by kernel_rfl) (fun _ _ _ h => h) (Or.inl ⟨by rfl, ?ye18⟩) (by assumption) ?re18
       case ye18=>(intro w hSw;(try dsimp only at hSw);go_simp;(try with_reducible rfl))
       try simp only[Act.put,List.setIfInBounds_toArray,List.set_cons_zero,List.set_cons_succ]
       refine wpAnyH_done (by kernel_rfl) ?_ _
       have HVS:Hid (∀ W,Below w.heap.size w W→IsVotes W b vs):=fun W hW=>hs.later hW
       have HVM:Hid (∀ v∈vs,smallV v∧(∀ l∈v.os,l.length≤1048576)∧(∀ l∈v.ps,l.length≤1048576)):=hvm
       have HKB:Hid (keysOk ks=true∧ks.length / 2<vs.length∧vs.length≤ks.length):=⟨hkb,by omega,by omega⟩
       have HKS:Hid (∀ W,Below w.heap.size w W→IsStrs W a ks):=fun W hW=>strs_later hk hW
       have HKM:Hid (∀ l∈ks,l.length≤1048576):=hkm
       have HT:Hid (Tab w):=hT
       obtain⟨wd,hwd⟩:∃ wd,wd=(w.alloc (.cells #[.int .i64 n,.string ⟨root.toArray⟩,.slice b vs.length cb] 37)).drew:=⟨_,rfl⟩
       have XD:wd.heap[w.heap.size]? = some (.cells #[.int .i64 n,.string ⟨root.toArray⟩,.slice b vs.length cb] 37 (0,0)):=by rw[hwd];exact heap_alloc_new w _
       rw[←hwd] at Bd ⊢
       have SD:Hid (wd.cell? ⟨w.heap.size,0,none⟩=some (.int .i64 n)∧wd.cell? ⟨w.heap.size,1,none⟩=some (.string ⟨root.toArray⟩)∧wd.cell? ⟨w.heap.size,2,none⟩=some (.slice b vs.length cb)):=by obtain⟨x0,x1,x2,_⟩:=tri_cells XD;exact⟨x0,x1,x2⟩
       have hxd:=lt_of_block XD
       obtain⟨z0,z1,z2⟩:=SD.out
       clear hwd hs hvm hkb hk hkm hT H0 H1 H2 x0 x1 x2 SX KK KE Ba XD hf2 hf3 hf4 hm' hfew hmany HMD
       go_wp2
       go_loopw [31] (fun i wr=>∃ j:Nat,j≤vs.length∧i=.int .i64 (j:Int)∧Hid (∀ q (h2:q+1<vs.length),q+1<j→(vs[q]'(by omega)).nd<vs[q+1].nd)∧Below wd.heap.size wd wr) (fun i _=>vs.length - (intOf i).toNat)
       case atStart=>exact⟨0,Nat.zero_le _,rfl,by rw[Hid];intro q h2 h;omega,Below.refl _ _⟩
       case round =>
        obtain⟨j,hj,rfl,HA,hbel⟩:=hrel
        have hsz:=hbel.size
        have BW:=Bd.trans (hbel.mono Bd.size)
        clear z0 z1 z2
        by_cases hlt:j<vs.length
        · obtain⟨bb,off,rfl,hc⟩:∃ bb off,b=some ⟨bb,off,none⟩∧∀ j (h:j<vs.length),∃ ao co ap cp,wr.cell? ⟨bb,off+j*4,none⟩=some (.int .i64 vs[j].nd)∧wr.cell? ⟨bb,off+j*4+1,none⟩=some (.int .i64 vs[j].i)∧wr.cell? ⟨bb,off+j*4+2,none⟩=some (.slice ao vs[j].os.length co)∧wr.cell? ⟨bb,off+j*4+3,none⟩=some (.slice ap vs[j].ps.length cp)∧IsStrs wr ao vs[j].os∧IsStrs wr ap vs[j].ps:=by
           rcases HVS.out wr BW with h | h
           · rw[h] at hlt;simp at hlt
           · exact h
          obtain⟨ao,co,ap,cp,c0,c1,c2,c3,s1,s2⟩:=hc j hlt
          have hj0:(0:Int)≤(j:Int):=by omega
          have hj1:(j:Int)<(vs.length:Int):=by omega
          have HB1:Hid (∀ q (h2:q+1<vs.length),q+1=j→¬ (vs[q]'(by omega)).nd<vs[j].nd→out=false):=fun q h2 e h=>HFALL.out q h2 (by subst e;first | exact h | exact Int.not_lt.1 h)
          have HG1:Hid (∀ q (h2:q+1<vs.length),q+1=j→(vs[q]'(by omega)).nd<vs[j].nd→∀ q (h2:q+1<vs.length),q+1<j+1→(vs[q]'(by omega)).nd<vs[q+1].nd):=fun q0 h0 e0 h q h2 hq=>by
           by_cases e:q+1=j
           · subst e
             have:q0=q:=by omega
             subst this
             exact h
           · exact HA.out q h2 (by omega)
          have Z2:Hid (wr.cell? ⟨w.heap.size,2,none⟩=some (.slice (some ⟨bb,off,none⟩) vs.length cb)):=(hbel.cell (p:=⟨w.heap.size,2,none⟩) hxd).trans SD.out.2.2
          have hlw:w.heap.size<wr.heap.size:=Nat.lt_of_lt_of_le hxd hsz
          have hlb:=World.block_lt_of_cell? wr _ c0
          cases j with
          | zero =>
            have HG0:Hid (∀ q (h2:q+1<vs.length),q+1<0+1→(vs[q]'(by omega)).nd<vs[q+1].nd):=fun q h2 h=>by omega
            obtain⟨⟨nd,i,os,ps⟩,hx⟩:∃ x,x=vs[0]:=⟨_,rfl⟩
            rw[←hx] at c0 c1 c2 c3
            simp only at c0 c1 c2 c3
            have SX:Hid ((wr.alloc (.cells #[.int .i64 nd,.int .i64 i,.slice ao os.length co,.slice ap ps.length cp] 74)).cell? ⟨w.heap.size,2,none⟩=some (.slice (some ⟨bb,off,none⟩) vs.length cb)):=(World.cell?_alloc_lt _ _ _ hlw).trans Z2.out
            have D2:Below wd.heap.size wd (wr.alloc (.cells #[.int .i64 nd,.int .i64 i,.slice ao os.length co,.slice ap ps.length cp] 74)).drew:=by have:=hbel.alloc hsz (.cells #[.int .i64 nd,.int .i64 i,.slice ao os.length co,.slice ap ps.length cp] 74);exact⟨this.os,this.tape,this.output,this.size,this.block⟩
            simp only[Nat.zero_mul,Nat.add_zero] at c0 c1 c2 c3
            clear hc hx HA HB1 HG1 s1 s2 Z2 hbel
            go_wp2_with fail
            refine wp_region_held_drew (S:=fun w'=>w'.cell? ⟨w.heap.size,2,none⟩=some (.slice (some ⟨bb,off,none⟩) vs.length cb)) (by kernel_rfl) SX.out (fun hHeld=>?_)
            refine wpAnyH_take (i := 0) (oi := { dst := some 36, op := Op.move (Operand.tmp 5), type := 3, pos := "l11_checkpoints.go:53", after := #[], guard := none }) (v := ?vf0) rfl (by kernel_rfl) (by kernel_rfl) (by kernel_rfl) (fun _ _ _ h => h) (Or.inl ⟨by rfl, ?yf0⟩) (by assumption) ?rf0
            case yf0=>(intro w hSw;(try dsimp only at hSw);go_simp;(try with_reducible rfl))
            try simp only[Act.put,List.setIfInBounds_toArray,List.set_cons_zero,List.set_cons_succ]
            refine wpAnyH_take (i := 1) (oi := { dst := some 37, op := Op.binOp BinOp.gtr 3 (Operand.tmp 36) (Operand.const (Value.int IntKind.i64 0)) 3, type := 4, pos := "l11_checkpoints.go:53", after := #[{ on := 0, ground := Ground.data }], guard := none }) (v := ?vf1) rfl (by kernel_rfl) (by kernel_rfl) (by kernel_rfl) (fun _ _ _ h => h) (Or.inl ⟨by rfl, ?yf1⟩) (by assumption) ?rf1
            case yf1=>(intro w hSw;(try dsimp only at hSw);go_simp;(try with_reducible rfl))
            try simp only[Act.put,List.setIfInBounds_toArray,List.set_cons_zero,List.set_cons_succ]
            refine wpAnyH_take (i := 2) (oi := { dst := some 38, op := Op.move (Operand.tmp 37), type := 4, pos := "l11_checkpoints.go:53", after := #[{ on := 1, ground := Ground.data }], guard := none }) (v := ?vf2) rfl (by kernel_rfl) (by kernel_rfl) (by kernel_rfl) (fun _ _ _ h => h) (Or.inl ⟨by rfl, ?yf2⟩) (by assumption) ?rf2
            case yf2=>(intro w hSw;(try dsimp only at hSw);go_simp;(try with_reducible rfl))
            try simp only[Act.put,List.setIfInBounds_toArray,List.set_cons_zero,List.set_cons_succ]
            refine wpAnyH_take (i := 3) (oi := { dst := some 39, op := Op.fieldAddr 37 (Operand.tmp 3) 2, type := 0, pos := "l11_checkpoints.go:53", after := #[{ on := 2, ground := Ground.guard }], guard := some (2, true) }) (v := undef) rfl (by kernel_rfl) (by kernel_rfl) (by kernel_rfl) (fun _ _ _ h => h) (Or.inr ⟨by rfl, rfl⟩) (by assumption) ?_
            try simp only[Act.put,List.setIfInBounds_toArray,List.set_cons_zero,List.set_cons_succ]
            refine wpAnyH_take (i := 4) (oi := { dst := some 40, op := Op.load 35 (Operand.tmp 39), type := 35, pos := "l11_checkpoints.go:53", after := #[{ on := 3, ground := Ground.data }, { on := 2, ground := Ground.guard }], guard := some (2, true) }) (v := undef) rfl (by kernel_rfl) (by kernel_rfl) (by kernel_rfl) (fun _ _ _ h => h) (Or.inr ⟨by rfl, rfl⟩) (by assumption) ?_
            try simp only[Act.put,List.setIfInBounds_toArray,List.set_cons_zero,List.set_cons_succ]
            refine wpAnyH_take (i := 5) (oi := { dst := some 41, op := Op.move (Operand.tmp 5), type := 3, pos := "l11_checkpoints.go:53", after := #[{ on := 2, ground := Ground.guard }], guard := some (2, true) }) (v := undef) rfl (by kernel_rfl) (by kernel_rfl) (by kernel_rfl) (fun _ _ _ h => h) (Or.inr ⟨by rfl, rfl⟩) (by assumption) ?_
            try simp only[Act.put,List.setIfInBounds_toArray,List.set_cons_zero,List.set_cons_succ]
            refine wpAnyH_take (i := 6) (oi := { dst := some 42, op := Op.binOp BinOp.sub 3 (Operand.tmp 41) (Operand.const (Value.int IntKind.i64 1)) 3, type := 3, pos := "l11_checkpoints.go:53", after := #[{ on := 5, ground := Ground.data }, { on := 2, ground := Ground.guard }], guard := some (2, true) }) (v := undef) rfl (by kernel_rfl) (by kernel_rfl) (by kernel_rfl) (fun _ _ _ h => h) (Or.inr ⟨by rfl, rfl⟩) (by assumption) ?_
            try simp only[Act.put,List.setIfInBounds_toArray,List.set_cons_zero,List.set_cons_succ]
            refine wpAnyH_take (i := 7) (oi := { dst := some 43, op := Op.indexAddr 35 (Operand.tmp 40) (Operand.tmp 42), type := 0, pos := "l11_checkpoints.go:53", after := #[{ on := 4, ground := Ground.data }, { on := 6, ground := Ground.data }, { on := 2, ground := Ground.guard }], guard := some (2, true) }) (v := undef) rfl (by kernel_rfl) (by kernel_rfl) (by kernel_rfl) (fun _ _ _ h => h) (Or.inr ⟨by rfl, rfl⟩) (by assumption) ?_
            try simp only[Act.put,List.setIfInBounds_toArray,List.set_cons_zero,List.set_cons_succ]
            refine wpAnyH_take (i := 8) (oi := { dst := some 44, op := Op.fieldAddr 74 (Operand.tmp 43) 0, type := 0, pos := "l11_checkpoints.go:53", after := #[{ on := 7, ground := Ground.data }, { on := 2, ground := Ground.guard }], guard := some (2, true) }) (v := undef) rfl (by kernel_rfl) (by kernel_rfl) (by kernel_rfl) (fun _ _ _ h => h) (Or.inr ⟨by rfl, rfl⟩) (by assumption) ?_
            try simp only[Act.put,List.setIfInBounds_toArray,List.set_cons_zero,List.set_cons_succ]
            refine wpAnyH_take (i := 9) (oi := { dst := some 45, op := Op.load 2 (Operand.tmp 44), type := 2, pos := "l11_checkpoints.go:53", after := #[{ on := 8, ground := Ground.data }, { on := 2, ground := Ground.guard }], guard := some (2, true) }) (v := undef) rfl (by kernel_rfl) (by kernel_rfl) (by kernel_rfl) (fun _ _ _ h => h) (Or.inr ⟨by rfl, rfl⟩) (by assumption) ?_
            try simp only[Act.put,List.setIfInBounds_toArray,List.set_cons_zero,List.set_cons_succ]
            refine wpAnyH_take (i := 10) (oi := { dst := some 46, op := Op.fieldAddr 74 (Operand.tmp 6) 0, type := 0, pos := "l11_checkpoints.go:53", after := #[{ on := 2, ground := Ground.guard }], guard := some (2, true) }) (v := undef) rfl (by kernel_rfl) (by kernel_rfl) (by kernel_rfl) (fun _ _ _ h => h) (Or.inr ⟨by rfl, rfl⟩) (by assumption) ?_
            try simp only[Act.put,List.setIfInBounds_toArray,List.set_cons_zero,List.set_cons_succ]
            refine wpAnyH_take (i := 11) (oi := { dst := some 47, op := Op.load 2 (Operand.tmp 46), type := 2, pos := "l11_checkpoints.go:53", after := #[{ on := 10, ground := Ground.data }, { on := 2, ground := Ground.guard }], guard := some (2, true) }) (v := undef) rfl (by kernel_rfl) (by kernel_rfl) (by kernel_rfl) (fun _ _ _ h => h) (Or.inr ⟨by rfl, rfl⟩) (by assumption) ?_
            try simp only[Act.put,List.setIfInBounds_toArray,List.set_cons_zero,List.set_cons_succ]
            refine wpAnyH_take (i := 12) (oi := { dst := some 48, op := Op.binOp BinOp.geq 2 (Operand.tmp 45) (Operand.tmp 47) 2, type := 4, pos := "l11_checkpoints.go:53", after := #[{ on := 9, ground := Ground.data }, { on := 11, ground := Ground.data }, { on := 2, ground := Ground.guard }], guard := some (2, true) }) (v := undef) rfl (by kernel_rfl) (by kernel_rfl) (by kernel_rfl) (fun _ _ _ h => h) (Or.inr ⟨by rfl, rfl⟩) (by assumption) ?_
            try simp only[Act.put,List.setIfInBounds_toArray,List.set_cons_zero,List.set_cons_succ]
            refine wpAnyH_take (i := 13) (oi := { dst := some 49, op := Op.pick (Operand.tmp 38) (Operand.tmp 48) (Operand.const (Value.bool false)), type := 4, pos := "l11_checkpoints.go:53", after := #[{ on := 2, ground := Ground.data }, { on := 12, ground := Ground.data }], guard := none }) (v := ?vf13) rfl (by kernel_rfl) (by kernel_rfl) (by kernel_rfl) (fun _ _ _ h => h) (Or.inl ⟨by rfl, ?yf13⟩) (by assumption) ?rf13
            case yf13=>(intro w hSw;(try dsimp only at hSw);go_simp;(try with_reducible rfl))
            try simp only[Act.put,List.setIfInBounds_toArray,List.set_cons_zero,List.set_cons_succ]
            refine wpAnyH_done (by kernel_rfl) ?_ _
            go_wp2
            go_roundw
            case rel=>exact⟨0+1,by omega,by go_num,HG0.out,D2⟩
            case measure=>simp[intOf];omega
          | succ j' =>
            obtain⟨_,_,_,_,p0,_⟩:=hc j' (by omega)
            have hpl:bb<wr.heap.size:=World.block_lt_of_cell? wr _ p0
            have hB:=HB1.out j' hlt rfl
            have hG:=HG1.out j' hlt rfl
            obtain⟨pn,hpn⟩:∃ pn,pn=(vs[j']'(by omega)).nd:=⟨_,rfl⟩
            rw[←hpn] at p0 hB hG
            obtain⟨⟨nd,i,os,ps⟩,hx⟩:∃ x,x=vs[j'+1]:=⟨_,rfl⟩
            rw[←hx] at c0 c1 c2 c3 hB hG
            simp only at c0 c1 c2 c3 hB hG
            have hpc:(wr.alloc (.cells #[.int .i64 nd,.int .i64 i,.slice ao os.length co,.slice ap ps.length cp] 74)).cell? ⟨bb,off+j'*4,none⟩=some (.int .i64 pn):=(World.cell?_alloc_lt _ _ _ (by exact hpl)).trans p0
            have HB2:Hid (¬ pn<nd→out=false):=hB
            have HG2:Hid (pn<nd→∀ q (h2:q+1<vs.length),q+1<j'+1+1→(vs[q]'(by omega)).nd<vs[q+1].nd):=hG
            have SX:Hid ((wr.alloc (.cells #[.int .i64 nd,.int .i64 i,.slice ao os.length co,.slice ap ps.length cp] 74)).cell? ⟨w.heap.size,2,none⟩=some (.slice (some ⟨bb,off,none⟩) vs.length cb)∧(wr.alloc (.cells #[.int .i64 nd,.int .i64 i,.slice ao os.length co,.slice ap ps.length cp] 74)).cell? ⟨wr.heap.size,0,none⟩=some (.int .i64 nd)∧(wr.alloc (.cells #[.int .i64 nd,.int .i64 i,.slice ao os.length co,.slice ap ps.length cp] 74)).cell? ⟨bb,off+j'*4,none⟩=some (.int .i64 pn)):=⟨(World.cell?_alloc_lt _ _ _ hlw).trans Z2.out,(vq_cells (heap_alloc_new wr (.cells #[.int .i64 nd,.int .i64 i,.slice ao os.length co,.slice ap ps.length cp] 74))).1,hpc⟩
            have D2:Below wd.heap.size wd (wr.alloc (.cells #[.int .i64 nd,.int .i64 i,.slice ao os.length co,.slice ap ps.length cp] 74)).drew:=by have:=hbel.alloc hsz (.cells #[.int .i64 nd,.int .i64 i,.slice ao os.length co,.slice ap ps.length cp] 74);exact⟨this.os,this.tape,this.output,this.size,this.block⟩
            have hq0:(0:Int)≤(j':Int):=by omega
            have hq1:(j':Int)<(vs.length:Int):=by omega
            have hq2:(0:Int)<(j':Int)+1:=by omega
            have hwj:IntKind.i64.wrap (j':Int)=(j':Int):=by simp[IntKind.wrap,IntKind.signed,IntKind.bits];omega
            clear hc hx hpn HA HB1 HG1 hB hG s1 s2 Z2 p0
            by_cases hr:pn<nd
            · have hr1:¬ nd≤pn:=by omega
              have HN:=HG2.out hr
              go_wp2_with fail
              refine wp_region_held_drew (S:=fun w'=>w'.cell? ⟨w.heap.size,2,none⟩=some (.slice (some ⟨bb,off,none⟩) vs.length cb)∧w'.cell? ⟨wr.heap.size,0,none⟩=some (.int .i64 nd)∧w'.cell? ⟨bb,off+j'*4,none⟩=some (.int .i64 pn)) (by kernel_rfl) SX.out (fun hHeld=>?_)
              refine wpAnyH_take (i := 0) (oi := { dst := some 36, op := Op.move (Operand.tmp 5), type := 3, pos := "l11_checkpoints.go:53", after := #[], guard := none }) (v := ?vg0) rfl (by kernel_rfl) (by kernel_rfl) (by kernel_rfl) (fun _ _ _ h => h) (Or.inl ⟨by rfl, ?yg0⟩) (by assumption) ?rg0
              case yg0=>(intro w hSw;(try dsimp only at hSw);go_simp;(try with_reducible rfl))
              try simp only[Act.put,List.setIfInBounds_toArray,List.set_cons_zero,List.set_cons_succ]
              refine wpAnyH_take (i := 1) (oi := { dst := some 37, op := Op.binOp BinOp.gtr 3 (Operand.tmp 36) (Operand.const (Value.int IntKind.i64 0)) 3, type := 4, pos := "l11_checkpoints.go:53", after := #[{ on := 0, ground := Ground.data }], guard := none }) (v := ?vg1) rfl (by kernel_rfl) (by kernel_rfl) (by kernel_rfl) (fun _ _ _ h => h) (Or.inl ⟨by rfl, ?yg1⟩) (by assumption) ?rg1
              case yg1=>(intro w hSw;(try dsimp only at hSw);go_simp;(try with_reducible rfl))
              try simp only[Act.put,List.setIfInBounds_toArray,List.set_cons_zero,List.set_cons_succ]
              refine wpAnyH_take (i := 2) (oi := { dst := some 38, op := Op.move (Operand.tmp 37), type := 4, pos := "l11_checkpoints.go:53", after := #[{ on := 1, ground := Ground.data }], guard := none }) (v := ?vg2) rfl (by kernel_rfl) (by kernel_rfl) (by kernel_rfl) (fun _ _ _ h => h) (Or.inl ⟨by rfl, ?yg2⟩) (by assumption) ?rg2
              case yg2=>(intro w hSw;(try dsimp only at hSw);go_simp;(try with_reducible rfl))
              try simp only[Act.put,List.setIfInBounds_toArray,List.set_cons_zero,List.set_cons_succ]
              refine wpAnyH_take (i := 3) (oi := { dst := some 39, op := Op.fieldAddr 37 (Operand.tmp 3) 2, type := 0, pos := "l11_checkpoints.go:53", after := #[{ on := 2, ground := Ground.guard }], guard := some (2, true) }) (v := ?vg3) rfl (by kernel_rfl) (by kernel_rfl) (by kernel_rfl) (fun _ _ _ h => h) (Or.inl ⟨by rfl, ?yg3⟩) (by assumption) ?rg3
              case yg3=>(intro w hSw;(try dsimp only at hSw);go_simp;(try with_reducible rfl))
              try simp only[Act.put,List.setIfInBounds_toArray,List.set_cons_zero,List.set_cons_succ]
              refine wpAnyH_take (i := 4) (oi := { dst := some 40, op := Op.load 35 (Operand.tmp 39), type := 35, pos := "l11_checkpoints.go:53", after := #[{ on := 3, ground := Ground.data }, { on := 2, ground := Ground.guard }], guard := some (2, true) }) (v := ?vg4) rfl (by kernel_rfl) (by kernel_rfl) (by kernel_rfl) (fun _ _ _ h => h) (Or.inl ⟨by rfl, ?yg4⟩) (by assumption) ?rg4
              case yg4=>(intro w hSw;(try dsimp only at hSw);go_simp;(try with_reducible rfl))
              try simp only[Act.put,List.setIfInBounds_toArray,List.set_cons_zero,List.set_cons_succ]
              refine wpAnyH_take (i := 5) (oi := { dst := some 41, op := Op.move (Operand.tmp 5), type := 3, pos := "l11_checkpoints.go:53", after := #[{ on := 2, ground := Ground.guard }], guard := some (2, true) }) (v := ?vg5) rfl (by kernel_rfl) (by kernel_rfl) (by kernel_rfl) (fun _ _ _ h => h) (Or.inl ⟨by rfl, ?yg5⟩) (by assumption) ?rg5
              case yg5=>(intro w hSw;(try dsimp only at hSw);go_simp;(try with_reducible rfl))
              try simp only[Act.put,List.setIfInBounds_toArray,List.set_cons_zero,List.set_cons_succ]
              refine wpAnyH_take (i := 6) (oi := { dst := some 42, op := Op.binOp BinOp.sub 3 (Operand.tmp 41) (Operand.const (Value.int IntKind.i64 1)) 3, type := 3, pos := "l11_checkpoints.go:53", after := #[{ on := 5, ground := Ground.data }, { on := 2, ground := Ground.guard }], guard := some (2, true) }) (v := ?vg6) rfl (by kernel_rfl) (by kernel_rfl) (by kernel_rfl) (fun _ _ _ h => h) (Or.inl ⟨by rfl, ?yg6⟩) (by assumption) ?rg6
              case yg6=>(intro w hSw;(try dsimp only at hSw);go_simp;(try with_reducible rfl))
              try simp only[Act.put,List.setIfInBounds_toArray,List.set_cons_zero,List.set_cons_succ]
              refine wpAnyH_take (i := 7) (oi := { dst := some 43, op := Op.indexAddr 35 (Operand.tmp 40) (Operand.tmp 42), type := 0, pos := "l11_checkpoints.go:53", after := #[{ on := 4, ground := Ground.data }, { on := 6, ground := Ground.data }, { on := 2, ground := Ground.guard }], guard := some (2, true) }) (v := ?vg7) rfl (by kernel_rfl) (by kernel_rfl) (by kernel_rfl) (fun _ _ _ h => h) (Or.inl ⟨by rfl, ?yg7⟩) (by assumption) ?rg7
              case yg7=>(intro w hSw;(try dsimp only at hSw);go_simp;(try with_reducible rfl))
              try simp only[Act.put,List.setIfInBounds_toArray,List.set_cons_zero,List.set_cons_succ]
              refine wpAnyH_take (i := 8) (oi := { dst := some 44, op := Op.fieldAddr 74 (Operand.tmp 43) 0, type := 0, pos := "l11_checkpoints.go:53", after := #[{ on := 7, ground := Ground.data }, { on := 2, ground := Ground.guard }], guard := some (2, true) }) (v := ?vg8) rfl (by kernel_rfl) (by kernel_rfl) (by kernel_rfl) (fun _ _ _ h => h) (Or.inl ⟨by rfl, ?yg8⟩) (by assumption) ?rg8
              case yg8=>(intro w hSw;(try dsimp only at hSw);go_simp;(try with_reducible rfl))
              try simp only[Act.put,List.setIfInBounds_toArray,List.set_cons_zero,List.set_cons_succ]
              refine wpAnyH_take (i := 9) (oi := { dst := some 45, op := Op.load 2 (Operand.tmp 44), type := 2, pos := "l11_checkpoints.go:53", after := #[{ on := 8, ground := Ground.data }, { on := 2, ground := Ground.guard }], guard := some (2, true) }) (v := ?vg9) rfl (by kernel_rfl) (by kernel_rfl) (by kernel_rfl) (fun _ _ _ h => h) (Or.inl ⟨by rfl, ?yg9⟩) (by assumption) ?rg9
              case yg9=>(intro w hSw;(try dsimp only at hSw);go_simp;(try with_reducible rfl))
              try simp only[Act.put,List.setIfInBounds_toArray,List.set_cons_zero,List.set_cons_succ]
              refine wpAnyH_take (i := 10) (oi := { dst := some 46, op := Op.fieldAddr 74 (Operand.tmp 6) 0, type := 0, pos := "l11_checkpoints.go:53", after := #[{ on := 2, ground := Ground.guard }], guard := some (2, true) }) (v := ?vg10) rfl (by kernel_rfl) (by kernel_rfl) (by kernel_rfl) (fun _ _ _ h => h) (Or.inl ⟨by rfl, ?yg10⟩) (by assumption) ?rg10
              case yg10=>(intro w hSw;(try dsimp only at hSw);go_simp;(try with_reducible rfl))
              try simp only[Act.put,List.setIfInBounds_toArray,List.set_cons_zero,List.set_cons_succ]
              refine wpAnyH_take (i := 11) (oi := { dst := some 47, op := Op.load 2 (Operand.tmp 46), type := 2, pos := "l11_checkpoints.go:53", after := #[{ on := 10, ground := Ground.data }, { on := 2, ground := Ground.guard }], guard := some (2, true) }) (v := ?vg11) rfl (by kernel_rfl) (by kernel_rfl) (by kernel_rfl) (fun _ _ _ h => h) (Or.inl ⟨by rfl, ?yg11⟩) (by assumption) ?rg11
              case yg11=>(intro w hSw;(try dsimp only at hSw);go_simp;(try with_reducible rfl))
              try simp only[Act.put,List.setIfInBounds_toArray,List.set_cons_zero,List.set_cons_succ]
              refine wpAnyH_take (i := 12) (oi := { dst := some 48, op := Op.binOp BinOp.geq 2 (Operand.tmp 45) (Operand.tmp 47) 2, type := 4, pos := "l11_checkpoints.go:53", after := #[{ on := 9, ground := Ground.data }, { on := 11, ground := Ground.data }, { on := 2, ground := Ground.guard }], guard := some (2, true) }) (v := ?vg12) rfl (by kernel_rfl) (by kernel_rfl) (by kernel_rfl) (fun _ _ _ h => h) (Or.inl ⟨by rfl, ?yg12⟩) (by assumption) ?rg12
              case yg12=>(intro w hSw;(try dsimp only at hSw);go_simp;(try with_reducible rfl))
              try simp only[Act.put,List.setIfInBounds_toArray,List.set_cons_zero,List.set_cons_succ]
              refine wpAnyH_take (i := 13) (oi := { dst := some 49, op := Op.pick (Operand.tmp 38) (Operand.tmp 48) (Operand.const (Value.bool false)), type := 4, pos := "l11_checkpoints.go:53", after := #[{ on := 2, ground := Ground.data }, { on := 12, ground := Ground.data }], guard := none }) (v := ?vg13) rfl (by kernel_rfl) (by kernel_rfl) (by kernel_rfl) (fun _ _ _ h => h) (Or.inl ⟨by rfl, ?yg13⟩) (by assumption) ?rg13
              case yg13=>(intro w hSw;(try dsimp only at hSw);go_simp;(try with_reducible rfl))
              try simp only[Act.put,List.setIfInBounds_toArray,List.set_cons_zero,List.set_cons_succ]
              refine wpAnyH_done (by kernel_rfl) ?_ _
              go_wp2
              go_roundw
              case rel=>exact⟨j'+1+1,by omega,by go_num,HN,D2⟩
              case measure=>simp[intOf];omega
            · have hr1:nd≤pn:=by omega
              have HZ:Hid (out=false):=HB2.out hr
              go_wp2_with fail
              refine wp_region_held_drew (S:=fun w'=>w'.cell? ⟨w.heap.size,2,none⟩=some (.slice (some ⟨bb,off,none⟩) vs.length cb)∧w'.cell? ⟨wr.heap.size,0,none⟩=some (.int .i64 nd)∧w'.cell? ⟨bb,off+j'*4,none⟩=some (.int .i64 pn)) (by kernel_rfl) SX.out (fun hHeld=>?_)
              refine wpAnyH_take (i := 0) (oi := { dst := some 36, op := Op.move (Operand.tmp 5), type := 3, pos := "l11_checkpoints.go:53", after := #[], guard := none }) (v := ?vh0) rfl (by kernel_rfl) (by kernel_rfl) (by kernel_rfl) (fun _ _ _ h => h) (Or.inl ⟨by rfl, ?yh0⟩) (by assumption) ?rh0
              case yh0=>(intro w hSw;(try dsimp only at hSw);go_simp;(try with_reducible rfl))
              try simp only[Act.put,List.setIfInBounds_toArray,List.set_cons_zero,List.set_cons_succ]
              refine wpAnyH_take (i := 1) (oi := { dst := some 37, op := Op.binOp BinOp.gtr 3 (Operand.tmp 36) (Operand.const (Value.int IntKind.i64 0)) 3, type := 4, pos := "l11_checkpoints.go:53", after := #[{ on := 0, ground := Ground.data }], guard := none }) (v := ?vh1) rfl (by kernel_rfl) (by kernel_rfl) (by kernel_rfl) (fun _ _ _ h => h) (Or.inl ⟨by rfl, ?yh1⟩) (by assumption) ?rh1
              case yh1=>(intro w hSw;(try dsimp only at hSw);go_simp;(try with_reducible rfl))
              try simp only[Act.put,List.setIfInBounds_toArray,List.set_cons_zero,List.set_cons_succ]
              refine wpAnyH_take (i := 2) (oi := { dst := some 38, op := Op.move (Operand.tmp 37), type := 4, pos := "l11_checkpoints.go:53", after := #[{ on := 1, ground := Ground.data }], guard := none }) (v := ?vh2) rfl (by kernel_rfl) (by kernel_rfl) (by kernel_rfl) (fun _ _ _ h => h) (Or.inl ⟨by rfl, ?yh2⟩) (by assumption) ?rh2
              case yh2=>(intro w hSw;(try dsimp only at hSw);go_simp;(try with_reducible rfl))
              try simp only[Act.put,List.setIfInBounds_toArray,List.set_cons_zero,List.set_cons_succ]
              refine wpAnyH_take (i := 3) (oi := { dst := some 39, op := Op.fieldAddr 37 (Operand.tmp 3) 2, type := 0, pos := "l11_checkpoints.go:53", after := #[{ on := 2, ground := Ground.guard }], guard := some (2, true) }) (v := ?vh3) rfl (by kernel_rfl) (by kernel_rfl) (by kernel_rfl) (fun _ _ _ h => h) (Or.inl ⟨by rfl, ?yh3⟩) (by assumption) ?rh3
              case yh3=>(intro w hSw;(try dsimp only at hSw);go_simp;(try with_reducible rfl))
              try simp only[Act.put,List.setIfInBounds_toArray,List.set_cons_zero,List.set_cons_succ]
              refine wpAnyH_take (i := 4) (oi := { dst := some 40, op := Op.load 35 (Operand.tmp 39), type := 35, pos := "l11_checkpoints.go:53", after := #[{ on := 3, ground := Ground.data }, { on := 2, ground := Ground.guard }], guard := some (2, true) }) (v := ?vh4) rfl (by kernel_rfl) (by kernel_rfl) (by kernel_rfl) (fun _ _ _ h => h) (Or.inl ⟨by rfl, ?yh4⟩) (by assumption) ?rh4
              case yh4=>(intro w hSw;(try dsimp only at hSw);go_simp;(try with_reducible rfl))
              try simp only[Act.put,List.setIfInBounds_toArray,List.set_cons_zero,List.set_cons_succ]
              refine wpAnyH_take (i := 5) (oi := { dst := some 41, op := Op.move (Operand.tmp 5), type := 3, pos := "l11_checkpoints.go:53", after := #[{ on := 2, ground := Ground.guard }], guard := some (2, true) }) (v := ?vh5) rfl (by kernel_rfl) (by kernel_rfl) (by kernel_rfl) (fun _ _ _ h => h) (Or.inl ⟨by rfl, ?yh5⟩) (by assumption) ?rh5
              case yh5=>(intro w hSw;(try dsimp only at hSw);go_simp;(try with_reducible rfl))
              try simp only[Act.put,List.setIfInBounds_toArray,List.set_cons_zero,List.set_cons_succ]
              refine wpAnyH_take (i := 6) (oi := { dst := some 42, op := Op.binOp BinOp.sub 3 (Operand.tmp 41) (Operand.const (Value.int IntKind.i64 1)) 3, type := 3, pos := "l11_checkpoints.go:53", after := #[{ on := 5, ground := Ground.data }, { on := 2, ground := Ground.guard }], guard := some (2, true) }) (v := ?vh6) rfl (by kernel_rfl) (by kernel_rfl) (by kernel_rfl) (fun _ _ _ h => h) (Or.inl ⟨by rfl, ?yh6⟩) (by assumption) ?rh6
              case yh6=>(intro w hSw;(try dsimp only at hSw);go_simp;(try with_reducible rfl))
              try simp only[Act.put,List.setIfInBounds_toArray,List.set_cons_zero,List.set_cons_succ]
              refine wpAnyH_take (i := 7) (oi := { dst := some 43, op := Op.indexAddr 35 (Operand.tmp 40) (Operand.tmp 42), type := 0, pos := "l11_checkpoints.go:53", after := #[{ on := 4, ground := Ground.data }, { on := 6, ground := Ground.data }, { on := 2, ground := Ground.guard }], guard := some (2, true) }) (v := ?vh7) rfl (by kernel_rfl) (by kernel_rfl) (by kernel_rfl) (fun _ _ _ h => h) (Or.inl ⟨by rfl, ?yh7⟩) (by assumption) ?rh7
              case yh7=>(intro w hSw;(try dsimp only at hSw);go_simp;(try with_reducible rfl))
              try simp only[Act.put,List.setIfInBounds_toArray,List.set_cons_zero,List.set_cons_succ]
              refine wpAnyH_take (i := 8) (oi := { dst := some 44, op := Op.fieldAddr 74 (Operand.tmp 43) 0, type := 0, pos := "l11_checkpoints.go:53", after := #[{ on := 7, ground := Ground.data }, { on := 2, ground := Ground.guard }], guard := some (2, true) }) (v := ?vh8) rfl (by kernel_rfl) (by kernel_rfl) (by kernel_rfl) (fun _ _ _ h => h) (Or.inl ⟨by rfl, ?yh8⟩) (by assumption) ?rh8
              case yh8=>(intro w hSw;(try dsimp only at hSw);go_simp;(try with_reducible rfl))
              try simp only[Act.put,List.setIfInBounds_toArray,List.set_cons_zero,List.set_cons_succ]
              refine wpAnyH_take (i := 9) (oi := { dst := some 45, op := Op.load 2 (Operand.tmp 44), type := 2, pos := "l11_checkpoints.go:53", after := #[{ on := 8, ground := Ground.data }, { on := 2, ground := Ground.guard }], guard := some (2, true) }) (v := ?vh9) rfl (by kernel_rfl) (by kernel_rfl) (by kernel_rfl) (fun _ _ _ h => h) (Or.inl ⟨by rfl, ?yh9⟩) (by assumption) ?rh9
              case yh9=>(intro w hSw;(try dsimp only at hSw);go_simp;(try with_reducible rfl))
              try simp only[Act.put,List.setIfInBounds_toArray,List.set_cons_zero,List.set_cons_succ]
              refine wpAnyH_take (i := 10) (oi := { dst := some 46, op := Op.fieldAddr 74 (Operand.tmp 6) 0, type := 0, pos := "l11_checkpoints.go:53", after := #[{ on := 2, ground := Ground.guard }], guard := some (2, true) }) (v := ?vh10) rfl (by kernel_rfl) (by kernel_rfl) (by kernel_rfl) (fun _ _ _ h => h) (Or.inl ⟨by rfl, ?yh10⟩) (by assumption) ?rh10
              case yh10=>(intro w hSw;(try dsimp only at hSw);go_simp;(try with_reducible rfl))
              try simp only[Act.put,List.setIfInBounds_toArray,List.set_cons_zero,List.set_cons_succ]
              refine wpAnyH_take (i := 11) (oi := { dst := some 47, op := Op.load 2 (Operand.tmp 46), type := 2, pos := "l11_checkpoints.go:53", after := #[{ on := 10, ground := Ground.data }, { on := 2, ground := Ground.guard }], guard := some (2, true) }) (v := ?vh11) rfl (by kernel_rfl) (by kernel_rfl) (by kernel_rfl) (fun _ _ _ h => h) (Or.inl ⟨by rfl, ?yh11⟩) (by assumption) ?rh11
              case yh11=>(intro w hSw;(try dsimp only at hSw);go_simp;(try with_reducible rfl))
              try simp only[Act.put,List.setIfInBounds_toArray,List.set_cons_zero,List.set_cons_succ]
              refine wpAnyH_take (i := 12) (oi := { dst := some 48, op := Op.binOp BinOp.geq 2 (Operand.tmp 45) (Operand.tmp 47) 2, type := 4, pos := "l11_checkpoints.go:53", after := #[{ on := 9, ground := Ground.data }, { on := 11, ground := Ground.data }, { on := 2, ground := Ground.guard }], guard := some (2, true) }) (v := ?vh12) rfl (by kernel_rfl) (by kernel_rfl) (by kernel_rfl) (fun _ _ _ h => h) (Or.inl ⟨by rfl, ?yh12⟩) (by assumption) ?rh12
              case yh12=>(intro w hSw;(try dsimp only at hSw);go_simp;(try with_reducible rfl))
              try simp only[Act.put,List.setIfInBounds_toArray,List.set_cons_zero,List.set_cons_succ]
              refine wpAnyH_take (i := 13) (oi := { dst := some 49, op := Op.pick (Operand.tmp 38) (Operand.tmp 48) (Operand.const (Value.bool false)), type := 4, pos := "l11_checkpoints.go:53", after := #[{ on := 2, ground := Ground.data }, { on := 12, ground := Ground.data }], guard := none }) (v := ?vh13) rfl (by kernel_rfl) (by kernel_rfl) (by kernel_rfl) (fun _ _ _ h => h) (Or.inl ⟨by rfl, ?yh13⟩) (by assumption) ?rh13
              case yh13=>(intro w hSw;(try dsimp only at hSw);go_simp;(try with_reducible rfl))
              try simp only[Act.put,List.setIfInBounds_toArray,List.set_cons_zero,List.set_cons_succ]
              refine wpAnyH_done (by kernel_rfl) ?_ _
              go_wp2
              go_ret
              exact⟨by rw[HZ.out];rfl,Bd.trans (D2.mono Bd.size)⟩
        · have hjl : j = vs.length := by omega
          subst hjl
          have HRISE:Hid (RiseV vs):=fun q h2=>HA.out q h2 h2
          have ZW:Hid (∀ W,Below wd.heap.size wd W→W.cell? ⟨w.heap.size,0,none⟩=some (.int .i64 n)∧W.cell? ⟨w.heap.size,1,none⟩=some (.string ⟨root.toArray⟩)∧W.cell? ⟨w.heap.size,2,none⟩=some (.slice b vs.length cb)):=fun W hW=>⟨(hW.cell (p:=⟨w.heap.size,0,none⟩) hxd).trans SD.out.1,(hW.cell (p:=⟨w.heap.size,1,none⟩) hxd).trans SD.out.2.1,(hW.cell (p:=⟨w.heap.size,2,none⟩) hxd).trans SD.out.2.2⟩
          obtain⟨z0,z1,z2⟩:=ZW.out wr hbel
          have hnl:¬ (vs.length:Int)<(vs.length:Int):=by omega
          clear HA SD HFALL
          go_wp2
          go_loopw [54] (fun i wr=>∃ j:Nat,j≤vs.length∧i=.int .i64 (j:Int)∧Hid (∀ v∈vs.take j,holdV ks n root v=true)∧Below wd.heap.size wd wr) (fun i _=>vs.length - (intOf i).toNat)
          case atStart=>exact⟨0,Nat.zero_le _,rfl,by rw[Hid];simp,hbel⟩
          case round =>
           obtain⟨j,hj,rfl,HA,hbelx⟩:=hrel
           have hszx:=hbelx.size
           have BX:=Bd.trans (hbelx.mono Bd.size)
           clear z0 z1 z2
           by_cases hltx:j<vs.length
           · obtain⟨bb,off,rfl,hc⟩:∃ bb off,b=some ⟨bb,off,none⟩∧∀ j (h:j<vs.length),∃ ao co ap cp,wr.cell? ⟨bb,off+j*4,none⟩=some (.int .i64 vs[j].nd)∧wr.cell? ⟨bb,off+j*4+1,none⟩=some (.int .i64 vs[j].i)∧wr.cell? ⟨bb,off+j*4+2,none⟩=some (.slice ao vs[j].os.length co)∧wr.cell? ⟨bb,off+j*4+3,none⟩=some (.slice ap vs[j].ps.length cp)∧IsStrs wr ao vs[j].os∧IsStrs wr ap vs[j].ps:=by
              rcases HVS.out wr BX with h | h
              · rw[h] at hltx;simp at hltx
              · exact h
             obtain⟨ao,co,ap,cp,c0,c1,c2,c3,s1,s2⟩:=hc j hltx
             have hj0:(0:Int)≤(j:Int):=by omega
             have hj1:(j:Int)<(vs.length:Int):=by omega
             obtain⟨⟨m1,m2⟩,m3,m4⟩:=HVM.out vs[j] (List.getElem_mem hltx)
             have HB1:Hid (holdV ks n root vs[j]=false→out=false):=HBAD.out j hltx
             have HG1:Hid (holdV ks n root vs[j]=true→∀ v∈vs.take (j+1),holdV ks n root v=true):=fun h v hv=>by
              rw[List.take_succ_eq_append_getElem hltx,List.mem_append] at hv
              rcases hv with hv | hv
              · exact HA.out v hv
              · simp at hv;rw[hv];exact h
             obtain⟨⟨nd,i,os,ps⟩,hx⟩:∃ x,x=vs[j]:=⟨_,rfl⟩
             rw[←hx] at c0 c1 c2 c3 s1 s2 m1 m2 m3 m4 HB1 HG1
             simp only at c0 c1 c2 c3 m1 m2 m3 m4
             have hba:Below wr.heap.size wr (wr.alloc (.cells #[.int .i64 nd,.int .i64 i,.slice ao os.length co,.slice ap ps.length cp] 74)):=(Below.refl _ _).alloc (Nat.le_refl _) _
             have D2:=hbelx.trans (hba.mono hszx)
             have B2:=Bd.trans (D2.mono Bd.size)
             have KV:=impl_voteOk a cap ks n root nd i ao ap co cp os ps (wr.alloc (.cells #[.int .i64 nd,.int .i64 i,.slice ao os.length co,.slice ap ps.length cp] 74)) hkl HKM.out hl m1 m3 m2 m4 (HKS.out _ B2) (strs_later s1 hba) (strs_later s2 hba) (HT.out.later B2) (rtV n root ⟨nd,i,os,ps⟩) (okV n root ⟨nd,i,os,ps⟩) (rtV_is n root ⟨nd,i,os,ps⟩)
             rw[show vOk ks n root nd (rtV n root ⟨nd,i,os,ps⟩) (okV n root ⟨nd,i,os,ps⟩)=holdV ks n root ⟨nd,i,os,ps⟩ from rfl] at KV
             obtain⟨z0,z1,z2⟩:=ZW.out _ D2
             obtain⟨y0,y1,y2,y3,_⟩:=vq_cells (heap_alloc_new wr (.cells #[.int .i64 nd,.int .i64 i,.slice ao os.length co,.slice ap ps.length cp] 74))
             obtain⟨hb,hhb⟩:∃ hb,hb=holdV ks n root ⟨nd,i,os,ps⟩:=⟨_,rfl⟩
             rw[←hhb] at KV HB1 HG1
             clear hc hx hhb s1 s2 m3 m4 HA hba
             go_wp2_with fail
             refine KV.mono ?_
             rintro e w5 ⟨rfl,b5⟩
             have D5:=D2.trans (b5.mono D2.size)
             clear KV b5 y0 y1 y2 y3 z0 z1 z2
             cases hb with
             | true =>
               have HN:=HG1.out rfl
               go_wp2
               go_roundw
               case rel=>exact⟨j+1,by omega,by go_num,HN,D5⟩
               case measure=>simp[intOf];omega
             | false =>
               have HZ:Hid (out=false):=HB1.out rfl
               go_wp2
               go_ret
               exact⟨by rw[HZ.out];rfl,Bd.trans (D5.mono Bd.size)⟩
           · have hjl:j=vs.length:=by omega
             subst hjl
             have HZ:Hid (out=true):=HYES HKB.out.1 HKB.out.2.1 HKB.out.2.2 HRISE.out (by have:=HA.out;rw[List.take_length] at this;exact this)
             obtain⟨z0,z1,z2⟩:=ZW.out wr hbelx
             go_wp2
             go_ret
             exact⟨by rw[HZ.out];rfl,BX⟩
end Go.Proofs.YtllmclmcncolcaaGreatDoor
