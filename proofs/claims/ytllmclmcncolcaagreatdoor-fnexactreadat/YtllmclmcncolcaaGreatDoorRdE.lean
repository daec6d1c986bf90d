/-
 What 'laid' gives at FnExactReadAt: the handle of the type 'error', the round words, the four errors in their variables.
-/
import Derived.Test.YtllmclmcncolcaaGreatDoorRdI
import Derived.Test.YtllmclmcncolcaaGreatDoorRows
import Derived.Stop.LaidTwo
import Derived.LaidSub
import Derived.LaidHandle
import Derived.ProofKit
import Derived.LaidMore
import Derived.OpenShut
import Derived.Stop.Joined
import Derived.Lib.LaidTab
import Derived.RowKitTokens
import Derived.ChangeVars
import Derived.Carry
import Derived.ChangeOld
namespace Go.Proofs.YtllmclmcncolcaaGreatDoor
open Go.ChangeShapes Go.WideShapes Go.ChangeAt Go.RowKit
set_option linter.unusedVariables false
theorem starErr : "*" ++ "errors.errorString" = "*errors.errorString" := by decide
theorem rowErr (u : TypeId) (h : Tryz.prog.typeName? 3 u = some "*errors.errorString") : u = 203 :=
 typeName_ptr_named (nm := "errors.errorString") (by rw [starErr]; kernel_rfl) (by kernel_rfl) (by decide) u (by rw [starErr]; exact h)
theorem et0 : Tryz.prog.globalNamed "errors.errorType" = some 4 := by kernel_rfl
theorem rt0 : (Tryz.prog.cutTypes.find? (·.1 == "internal/reflectlite.rtype")).map (·.2) = some 132 := by kernel_rfl
theorem oneRow0:((List.range (334 - 100)).filter fun t=>Tryz.prog.rowNamed t [101,114,114,111,114])=[54]:=by kernel_rfl
theorem size0:Tryz.prog.types.size=334 - 100:=by kernel_rfl
theorem gTab : Tryz.prog.globalNamed "loop.example/g00226/impl.roundWords" = some 5 := by kernel_rfl
theorem tTab:(Tryz.prog.globals[5]?).map (·.type)=some 186:=by kernel_rfl
theorem errs4_of {W : World} (h : laidMetH Tryz.prog Rows.fnExactReadAtRow.laid W) : ∃ e0 e1 e2 e3, Errs4 W e0 e1 e2 e3 ∧ Tab W ∧ W.var? Tryz.prog "loop.example/g00226/impl.errClient" = some #[.iface 203 (.pointer (some e0))] ∧ W.var? Tryz.prog "loop.example/g00226/impl.errCert" = some #[.iface 203 (.pointer (some e1))] ∧ W.var? Tryz.prog "loop.example/g00226/impl.errOld" = some #[.iface 203 (.pointer (some e2))] ∧ W.var? Tryz.prog "loop.example/g00226/impl.errProof" = some #[.iface 203 (.pointer (some e3))] := by
 obtain⟨hd,hh⟩:=laidMetH_iff.1 h
 have gt:W.cell? ⟨4,0,none⟩=some (.iface 132 (.agg #[.pointer (some ⟨7,54,none⟩)])):=by
  obtain ⟨name, u, ty, e1, e2, e3, e4, e5⟩ := hh ("errors.errorType", Rows.laid_errors_errorType) (List.mem_filter.2 ⟨List.mem_cons_self, by kernel_rfl⟩)
  have en:name=[101,114,114,111,114]:=(Option.some.inj e1).symm
  subst en
  obtain rfl:=Option.some.inj (rt0.symm.trans e2)
  have hm:ty∈(List.range (334 - 100)).filter fun t=>Tryz.prog.rowNamed t [101,114,114,111,114]:=List.mem_filter.2 ⟨List.mem_range.2 (by rw[←size0];exact e3),e4⟩
  rw[oneRow0] at hm
  obtain rfl:=List.mem_singleton.1 hm
  have hq:typeHandle Tryz.prog 54=.pointer (some ⟨7,54,none⟩):=by kernel_rfl
  rw[hq] at e5
  simpa using World.var?_cell et0 e5 0
 have hd' : laidMet Tryz.prog (("loop.example/g00226/impl.roundWords", Rows.laid_loop_example_g00226_impl_roundWords) :: ("loop.example/g00226/impl.errClient", Rows.laid_loop_example_g00226_impl_errClient) :: ("loop.example/g00226/impl.errCert", Rows.laid_loop_example_g00226_impl_errCert) :: ("loop.example/g00226/impl.errOld", Rows.laid_loop_example_g00226_impl_errOld) :: ("loop.example/g00226/impl.errProof", Rows.laid_loop_example_g00226_impl_errProof) :: []) W := hd
 have hT : Lib.TabIs Tryz.prog W "loop.example/g00226/impl.roundWords" .u32 (kL.map fun x => num x) := Lib.tabIs_of_head gTab tTab Tryz.underlying186 Tryz.underlying115 (by kernel_rfl) (by kernel_rfl) hd'
 have hc:∀ i,i<64→W.cell? ⟨5,i,none⟩=some (.int .u32 (num (kL.getD i 0))):=fun i hi=>by
  have hl:i<kL.length:=hi
  have:=hT.cell gTab i (by rw[List.length_map];exact hl)
  rw[this]
  simp[List.getD,hl]
 have HTab:Tab W:=⟨block_lt_of_cell (hc 0 (by omega)),hc⟩
 have s1:=hd'.tail
 have s2:=s1.tail
 have s3:=s2.tail
 obtain⟨a0,a1,t0,t1,c0,c1,u0,u1,v0,v1,k0,x0,_,k1,x1,_,ne1,b0,b1⟩:=laid_sentinels2 (g0:=0) (g1:=1) (ti:=54) (tp:=203) (te:=222) (ts:=9) s1 (by kernel_rfl) (by kernel_rfl) (by kernel_rfl) (by kernel_rfl) Tryz.underlying54 rowErr Tryz.underlying203 Tryz.underlying222 rfl rfl Tryz.underlying9 (by kernel_rfl) (by kernel_rfl)
 obtain⟨_,a2,_,t2,_,c2,_,u2,_,v2,_,_,_,k2,x2,_,_,_,b2⟩:=laid_sentinels2 (g0:=1) (g1:=2) (ti:=54) (tp:=203) (te:=222) (ts:=9) s2 (by kernel_rfl) (by kernel_rfl) (by kernel_rfl) (by kernel_rfl) Tryz.underlying54 rowErr Tryz.underlying203 Tryz.underlying222 rfl rfl Tryz.underlying9 (by kernel_rfl) (by kernel_rfl)
 obtain⟨_,a3,_,t3,_,c3,_,u3,_,v3,_,_,_,k3,x3,_,_,_,b3⟩:=laid_sentinels2 (g0:=2) (g1:=3) (ti:=54) (tp:=203) (te:=222) (ts:=9) s3 (by kernel_rfl) (by kernel_rfl) (by kernel_rfl) (by kernel_rfl) Tryz.underlying54 rowErr Tryz.underlying203 Tryz.underlying222 rfl rfl Tryz.underlying9 (by kernel_rfl) (by kernel_rfl)
 refine⟨a0,a1,a2,a3,⟨?_,?_,?_,?_,⟨c0,u0,b0⟩,⟨c1,u1,b1⟩,⟨c2,u2,b2⟩,⟨c3,u3,b3⟩,fun e=>ne1 e.symm,fun e=>?_,fun e=>?_,gt⟩,HTab,v0,v1,v2,v3⟩
 · simpa using World.var?_cell (by kernel_rfl) v0 0
 · simpa using World.var?_cell (by kernel_rfl) v1 0
 · simpa using World.var?_cell (by kernel_rfl) v2 0
 · simpa using World.var?_cell (by kernel_rfl) v3 0
 · rw[e,k0] at k2
   simp only[Option.some.injEq,Value.string.injEq] at k2
   rw[←k2,x0] at x2
   exact absurd x2 (by decide)
 · rw[e,k0] at k3
   simp only[Option.some.injEq,Value.string.injEq] at k3
   rw[←k3,x0] at x3
   exact absurd x3 (by decide)
theorem var?_belowN {g:Nat} {W W':World} {n:String} {cs:Array Value} (h:Below W.heap.size W W') (hg:Tryz.prog.globalNamed n=some g) (hv:W.var? Tryz.prog n=some cs) (hgB:g<W.heap.size):W'.var? Tryz.prog n=some cs:=by
 unfold World.var? at hv ⊢
 simp only[hg,Option.bind_some] at hv ⊢
 rw[h.block g hgB]
 exact hv
theorem vars_step {H:Type} {enc:TypeId × Value→H} {W W':World} {n:String} {ns:List String} {g:Nat} {x:Value} {gs:List (DataW H)} {ps:List MemPlace} {s s':Nat→Bool}
 (hg:Tryz.prog.globalNamed n=some g) (ht:(Tryz.prog.globals[g]?).map (·.type)=some 54) (hx:IsIface x) (hv:W.var? Tryz.prog n=some #[x]) (hv':W'.var? Tryz.prog n=some #[x])
 (h:DataW.TrodVars enc Tryz.prog W s (n :: ns) gs ps) (k:∀ gs' ps',(∀ y∈ps',y∈ps)→DataW.TrodVars enc Tryz.prog W s ns gs' ps'→DataW.TrodVars enc Tryz.prog W' s' ns gs' ps'):DataW.TrodVars enc Tryz.prog W' s' (n :: ns) gs ps:=by
 cases gs with
 | nil=>simp[DataW.TrodVars] at h
 | cons d ds =>
   obtain⟨g1,t1,cs,fuel,p,q,h1,h2,h3,h4,hs,rfl⟩:=h
   obtain rfl:=Option.some.inj (hg.symm.trans h1)
   obtain rfl:=Option.some.inj (ht.symm.trans h2)
   obtain rfl:=Option.some.inj (hv.symm.trans h3)
   cases fuel with
   | zero=>simp[DataW.trod] at h4
   | succ m =>
     have h5:=(trod_held (enc:=enc) (W:=W) (base:=0) (sp:=s) Tryz.underlying54 hx m).symm.trans h4
     simp only[Option.some.injEq,Prod.mk.injEq] at h5
     obtain⟨rfl,rfl⟩:=h5
     exact⟨g,54,#[x],1,[],q,hg,ht,hv',trod_held Tryz.underlying54 hx 0,k _ _ (fun y hy=>by simp[hy]) hs,rfl⟩
theorem laidOut1:laidOutB Tryz.prog=true:=by kernel_rfl
theorem vars_tab {H:Type} {enc:TypeId × Value→H} {W W':World} {gs:List (DataW H)} {ps:List MemPlace} (hT:Tab W) (hB:Below W.heap.size W W') (hlt:∀ x∈ps,x.block<W.heap.size)
 (h : DataW.TrodVars enc Tryz.prog W (fun _ => true) ["loop.example/g00226/impl.roundWords"] gs ps) : DataW.TrodVars enc Tryz.prog W' (fun b => decide (b < W.heap.size)) ["loop.example/g00226/impl.roundWords"] gs ps := by
 obtain⟨g,t,cs,fuel,d,p',rfl,hg,ht,hvar,hd,rfl⟩:=trodVars_one h
 obtain rfl:=Option.some.inj (gTab.symm.trans hg)
 obtain rfl:=Option.some.inj (tTab.symm.trans ht)
 obtain⟨fuel',hd'⟩:=Below.trod laidOut1 (by kernel_rfl) (of_decide_eq_true (by kernel_rfl)) (v:=.agg cs) (⟨fuel,by simpa [Value.cells] using hd⟩:DataW.Trod enc Tryz.prog W 0 (fun _=>true) true 186 (.agg cs) d p') hB (fun x hx=>hlt x (List.mem_append_right _ hx))
 exact trodVars_mk1 (enc:=enc) (spare:=fun b=>decide (b<W.heap.size)) hg ht (var?_belowN hB hg hvar hT.1) (by simpa [Value.cells] using hd')
end Go.Proofs.YtllmclmcncolcaaGreatDoor
