/-
 Texts that are laid as one: RfRaw, IChk, IChk2, IChk3.
-/
import Derived.RangeFuncNested
import Derived.RangeFuncLeaves
import Derived.Test.YtllmclmcncolcaaGreatDoorSChk
import Derived.BigQuiet
import Derived.RangeFuncBound
import Derived.RangeFuncCalls
import Derived.Shelf.Abstract
import Derived.Shelf.RegionOpen
import Derived.WalkKit
import Derived.OwnWalkIn
import Derived.TacticsInMore
import Derived.LoopNIn
import Derived.LoopIn
namespace Go.Proofs.YtllmclmcncolcaaGreatDoor
open Go.RowKit
set_option linter.unusedVariables false
def rawPost (I:World→Prop) (Ix:Code→World→Prop) (W:World):Exit→Act→World→Prop
 | .normal,_,W'=>KeepsOthers W W'∧I W'
 | .ret,_,W'=>KeepsOthers W W'∧Ix .ret W'
 | .exit id,_,W'=>KeepsOthers W W'∧Ix (.exit id) W'
 | .goto t,_,W'=>KeepsOthers W W'∧Ix (.goto t) W'
 | .panic _,_,_=>False
 | .outgrown,_,_=>False
def AbidesB (B:Nat) (I:World→Prop):Prop:=∀ W l o o',I W→B≤l→W.heap[l]? = some o→o.isCells=false→I (W.putObj l o')
theorem raw_below {B n0:Nat} {w:World} (h:n0≤B):AbidesB B (Below n0 w):=fun W l o o' hI hl ho _=>hI.trans ((Below.refl n0 W).grown (grownBy_putObj' W l o') (by have:=hI.size;have:=(Array.getElem?_eq_some_iff.1 ho).1;omega) (fun k e=>by cases e;omega))
theorem raw_cell {W:World} {l:Nat} {o o':Obj} {p:Addr} {v:Value} (h:W.cell? p=some v) (ho:W.heap[l]? = some o) (hc:o.isCells=false):(W.putObj l o').cell? p=some v:=_root_.Go.cell_kept h (grownBy_putObj' W l o') (fun r e=>by cases e;exact⟨o,ho,hc⟩)
variable {F:Fence} {n:Nat} {P:Program}
theorem wpIn_rangeFunc_raw {α:Type} {g:Operand} {ps:Array Tmp} {assign body:Code} {Q:Exit→Act→World→Prop} {a:Act} {w:World}
 (hro:F.round=none) (h1:1≤n) {gf:Nat} {lb:Array Value} (hg:a.eval g=.func (.func gf) #[] lb) (hFg:F.fn gf) (eg:∀ args w,(callFunc gf args).run P w=.ok (.enter gf args) w)
 {encs:α→Array Value} (hps:∀ x,(encs x).size=ps.size)
 (Y I:α→World→Prop) (Ix:Code→World→Prop) (J0 Z:World→Prop)
 (hI:∀ x,AbidesB w.heap.size (I x)) (hIx:∀ c,AbidesB w.heap.size (Ix c)) (hZ:AbidesB w.heap.size Z)
 (hJ:∀ o o',J0 ((w.alloc o).alloc o'))
 (hseq : ∀ (l : Nat) (BK : World → Prop) (BX : Code → World → Prop) (W : World), (∀ A B, KeepsOthers A B → BK A → BK B) → (∀ c A B, KeepsOthers A B → BX c A → BX c B) →
  (∀ x W1,Y x W1→BK W1→YieldAt F (n - 1 - 1) P l (encs x) W1 fun e W'=>(e=.returned (.bool true)∧I x W'∧BK W')∨(e=.returned (.bool false)∧∃ c,Ix c W'∧BX c W')) →
  J0 W→BK W→CallsIn F (n - 1) P gf (#[.func (.yield l) #[] #[]] ++ lb) W fun e W'=>(∃ v,e=.returned v)∧((Z W'∧BK W')∨(∃ c,Ix c W'∧BX c W')))
 (A:α→Act→World→Prop) (hA:∀ x a₁,AbidesB w.heap.size (A x a₁))
 (hassign : ∀ (l : Nat) (x : α) (W : World) (K : Act → World → Prop), Y x W → (∀ a₁ W₁, KeepsOthers W W₁ → A x a₁ W₁ → K a₁ W₁) →
  assign.wpIn (F.inRound l) (n - 1 - 1) P (Exit.then K (fun _ _ _=>False)) { tmps:=(ps.zip (encs x)).foldl (fun t (p,v)=>t.setIfInBounds p v) a.tmps,defers:=[] } W)
 (hbody:∀ (l:Nat) (x:α) (a₁:Act) (W:World),A x a₁ W→body.wpIn (F.inRound l) (n - 1 - 1) P (rawPost (I x) Ix W) a₁ W)
 (hdone:∀ (D:Nat) (W:World),w.heap.size≤D→Z W→W.heap[D]? = some (.deferred (some []))→Q .normal { a with defers:={ target:=.collected D,args:=#[] } :: a.defers } W)
 (hstop:∀ (D:Nat) (c:Code) (W:World),w.heap.size≤D→Ix c W→W.heap[D]? = some (.deferred (some []))→c.wpIn F n P Q { a with defers:={ target:=.collected D,args:=#[] } :: a.defers } W) :
 (Code.rangeFunc g ps assign body).wpIn F n P Q a w:=by
 refine wpIn_rangeFunc ?_
 intro fn hfn
 rw[hro]
 obtain⟨rec,hrec⟩:∃ rec:LoopState→Option Code→Loop,rec=fun st pe => { state:=st,pending:=pe,fn,tmps:=a.tmps,params:=ps,assign,body,defers:=w.heap.size }:=⟨_,rfl⟩
 obtain⟨W1,hW1⟩:∃ W1,(w.alloc (.deferred (some []))).alloc (.loop (rec .ready none))=W1:=⟨_,rfl⟩
 have hL1:W1.heap[w.heap.size+1]? = some (.loop (rec .ready none)):=by
  rw[←hW1];have:=World.alloc_heap_new (w.alloc (.deferred (some []))) (.loop (rec .ready none));rwa [World.size_alloc] at this
 have hK1:W1.heap[w.heap.size]? = some (.deferred (some [])):=by
  rw[←hW1];exact (Below.heap_alloc _ _ _ (by simp)).trans (World.alloc_heap_new w _)
 have hJ1:J0 W1:=by rw[←hW1];exact hJ _ _
 refine⟨w.heap.size+1,[{ target:=.collected w.heap.size,args:=#[] }],W1,{ target:=.fn (.func gf) lb,args:=#[.func (.yield (w.heap.size+1)) #[] #[]] },W1,gf,
  #[.func (.yield (w.heap.size+1)) #[] #[]] ++ lb,W1,?_,?_,?_,?_,fun _=>h1,?_⟩
 · rw[←hW1,hrec];exact run_enterLoop_outer _ _ _ _ _
 · simp only[resolve,hg]
   simp[go_sem]
 · intro f' hf';simp[Target.leads] at hf';subst hf';exact hFg
 · simp[invoke,go_sem,eg]
 · refine (hseq (w.heap.size+1)
    (fun W=>W.heap[w.heap.size+1]? = some (.loop (rec .ready none))∧W.heap[w.heap.size]? = some (.deferred (some [])))
    (fun c W=>W.heap[w.heap.size+1]? = some (.loop (rec .done (some c)))∧W.heap[w.heap.size]? = some (.deferred (some [])))
    W1 (fun A B hk hb=>⟨hk.same _ _ hb.1 rfl,hk.same _ _ hb.2 rfl⟩) (fun c A B hk hb=>⟨hk.same _ _ hb.1 rfl,hk.same _ _ hb.2 rfl⟩) ?_ hJ1 ⟨hL1,hK1⟩).mono ?_
   · rintro x W hy0 ⟨hl,hk⟩
     have hy:=run_yield (P:=P) (args:=encs x) hl (by rw[hrec];exact hps x)
     rw[hrec] at hy
     refine⟨fn,_,assign,body,hy,roundIn_of_wpIn hfn (hassign _ x W _ hy0 fun a₁ WA hkA hA0=>?_)⟩
     replace hl:=hkA.same _ _ hl rfl
     replace hk:=hkA.same _ _ hk rfl
     clear hkA hy0 hy
     revert hl hk hA0
     generalize WA=W
     intro hA0 hl hk
     refine⟨_,run_beginRound hl (by rw[hrec]),?_⟩
     have hlt:w.heap.size+1<W.heap.size:=(Array.getElem?_eq_some_iff.1 hl).1
     have hl2:(W.putObj (w.heap.size+1) (.loop { rec .ready none with state:=.busy })).heap[w.heap.size+1]? = some (.loop { rec .ready none with state:=.busy }):=World.putObj_heap_same hlt
     have hk2:(W.putObj (w.heap.size+1) (.loop { rec .ready none with state:=.busy })).heap[w.heap.size]? = some (.deferred (some [])):=(World.putObj_heap_other (by omega)).trans hk
     refine wpIn_mono (hbody _ x _ _ (hA x _ W _ _ _ hA0 (by omega) hl rfl)) ?_
     have fin:∀ (jump:Option Code) (W3:World),KeepsOthers (W.putObj (w.heap.size+1) (.loop { rec .ready none with state:=.busy })) W3 →
      (Instr.endRound (w.heap.size+1) jump).run P W3=.ok (.bool jump.isNone) (W3.putObj (w.heap.size+1) (.loop (rec (if jump.isNone then .ready else .done) jump))) ∧
      W3.heap[w.heap.size+1]? = some (.loop { rec .ready none with state:=.busy }) ∧
      (W3.putObj (w.heap.size+1) (.loop (rec (if jump.isNone then .ready else .done) jump))).heap[w.heap.size+1]? = some (.loop (rec (if jump.isNone then .ready else .done) jump)) ∧
      (W3.putObj (w.heap.size+1) (.loop (rec (if jump.isNone then .ready else .done) jump))).heap[w.heap.size]? = some (.deferred (some [])):=fun jump W3 hk3=>by
      have hl3:=hk3.same _ _ hl2 rfl
      have:=run_endRound (P:=P) jump hl3
      rw[hrec] at this ⊢
      exact⟨this,by rw[hrec] at hl3;exact hl3,World.putObj_heap_same (Array.getElem?_eq_some_iff.1 hl3).1,(World.putObj_heap_other (by omega)).trans (hk3.same _ _ hk2 rfl)⟩
     rintro e a3 W3 hp
     cases e with
     | normal =>
       obtain⟨hk3,hi3⟩:=hp
       obtain⟨hr,hl3,hl4,hk4⟩:=fin none W3 hk3
       exact⟨_,_,hr,.inl ⟨rfl,hI x _ _ _ _ hi3 (by omega) hl3 rfl,hl4,hk4⟩⟩
     | ret =>
       obtain⟨hk3,hi3⟩:=hp
       obtain⟨hr,hl3,hl4,hk4⟩:=fin (some .ret) W3 hk3
       exact⟨_,_,hr,.inr ⟨rfl,.ret,hIx _ _ _ _ _ hi3 (by omega) hl3 rfl,hl4,hk4⟩⟩
     | exit id =>
       obtain⟨hk3,hi3⟩:=hp
       obtain⟨hr,hl3,hl4,hk4⟩:=fin (some (.exit id)) W3 hk3
       exact⟨_,_,hr,.inr ⟨rfl,.exit id,hIx _ _ _ _ _ hi3 (by omega) hl3 rfl,hl4,hk4⟩⟩
     | goto t =>
       obtain⟨hk3,hi3⟩:=hp
       obtain⟨hr,hl3,hl4,hk4⟩:=fin (some (.goto t)) W3 hk3
       exact⟨_,_,hr,.inr ⟨rfl,.goto t,hIx _ _ _ _ _ hi3 (by omega) hl3 rfl,hl4,hk4⟩⟩
     | panic ch=>exact hp.elim
     | outgrown=>exact hp.elim
   · rintro e W2 ⟨⟨v,rfl⟩,(⟨hz,hl,hk⟩ | ⟨c,hi,hl,hk⟩)⟩
     · exact⟨none,_,by have:=run_endLoop (P:=P) hl (by rw[hrec];simp);rw[hrec] at this;exact this,hdone _ _ (Nat.le_refl _) (hZ _ _ _ _ hz (by omega) hl rfl) ((World.putObj_heap_other (by omega)).trans hk)⟩
     · exact⟨some c,_,by have:=run_endLoop (P:=P) hl (by rw[hrec];simp);rw[hrec] at this;exact this,hstop _ c _ (Nat.le_refl _) (hIx c _ _ _ _ hi (by omega) hl rfl) ((World.putObj_heap_other (by omega)).trans hk)⟩
set_option maxRecDepth 100000 in
set_option maxHeartbeats 400000 in
theorem impl_shownBy (nx pa:List UInt8) (c:Int) (v:List UInt8) (w:World) :
 Calls Tryz.prog 72 #[.agg #[.string ⟨nx.toArray⟩,.string ⟨pa.toArray⟩,.int .i64 c,.string ⟨v.toArray⟩]] w fun e w'=>e=.returned (.tuple #[.int .i64 (if c=1 then 2 else 1),.string ⟨(if c=1 then v else []).toArray⟩])∧Below w.heap.size w w':=by
 by_cases hc:c=1
 · rw[if_pos hc,if_pos hc]
   subst hc
   go_enter Tryz.func72,Tryz.ntmps72
   go_wp2
   go_quiet (fail)
   go_wp2
   go_ret2
   exact⟨rfl,by first | exact (Below.refl _ _).alloc (Nat.le_refl _) _ | exact⟨rfl,rfl,rfl,by simp,fun k hk=>Below.heap_alloc _ _ _ hk⟩⟩
 · rw[if_neg hc,if_neg hc]
   have hcb:(c == 1)=false:=by rw[beq_eq_false_iff_ne];exact hc
   clear hc
   go_enter Tryz.func72,Tryz.ntmps72
   go_wp2
   go_ret2
   exact⟨rfl,(Below.refl _ _).alloc (Nat.le_refl _) _⟩
def LeftB (w0 w:World) (L:Nat) (xs:List (List UInt8)):Prop:=∃ (ao:Option Addr) (c:Nat),w.heap[L]? = some (.cells #[.slice ao xs.length c] 22 (0,0))∧xs.length≤c∧IsStrs w0 ao xs
structure KeptN (w w':World) (L:Nat):Prop where
 os:w'.os=w.os
 tape:w'.tape=w.tape
 output:w'.output=w.output
 size:w.heap.size≤w'.heap.size
 block:∀ k,k<w.heap.size→k≠L→w'.heap[k]? = w.heap[k]?
theorem KeptN.of_below {w w':World} {L:Nat} (h:Below w.heap.size w w'):KeptN w w' L:=⟨h.os,h.tape,h.output,h.size,fun k hk _=>h.block k hk⟩
theorem KeptN.below {w0 w w':World} {L:Nat} (h:KeptN w w' L) (hb:Below w0.heap.size w0 w) (hl:w0.heap.size≤L):Below w0.heap.size w0 w' :=
 ⟨h.os.trans hb.os,h.tape.trans hb.tape,h.output.trans hb.output,Nat.le_trans hb.size h.size,fun k hk=>(h.block k (Nat.lt_of_lt_of_le hk hb.size) (by omega)).trans (hb.block k hk)⟩
theorem KeptN.trans {w w1 w2:World} {L:Nat} (h:KeptN w w1 L) (h2:KeptN w1 w2 L):KeptN w w2 L :=
 ⟨h2.os.trans h.os,h2.tape.trans h.tape,h2.output.trans h.output,Nat.le_trans h.size h2.size,fun k hk hne=>(h2.block k (Nat.lt_of_lt_of_le hk h.size) hne).trans (h.block k hk hne)⟩
theorem new_setC (w:World) (p:Addr) (v:Value) (o:Obj):((w.setCell p v).alloc o).heap[w.heap.size]? = some o:=by
 have:=heap_alloc_new (w.setCell p v) o
 have hs:(w.setCell p v).heap.size=w.heap.size:=by simp
 rwa [hs] at this
theorem one_setC {w:World} {L:Nat} {u:Value} {t:TypeId} (h:w.heap[L]? = some (.cells #[u] t (0,0))) (v:Value) (o:Obj):((w.setCell ⟨L,0,none⟩ v).alloc o).heap[L]? = some (.cells #[v] t (0,0)):=by
 have hL:L<w.heap.size:=(Array.getElem?_eq_some_iff.1 h).1
 refine (Below.heap_alloc _ _ _ (by simp;exact hL)).trans ?_
 have h1:w.heap[L]=.cells #[u] t (0,0):=by rw[Array.getElem?_eq_getElem hL] at h;exact Option.some.inj h
 show (w.heap.modify L _)[L]? = _
 rw[Array.getElem?_eq_getElem (by rw[Array.size_modify];exact hL),Array.getElem_modify_self,h1]
 rfl
theorem kept_setC (w:World) (L:Nat) (v:Value) (o:Obj):KeptN w ((w.setCell ⟨L,0,none⟩ v).alloc o) L :=
 ⟨rfl,rfl,rfl,by simp,fun k hk hne=>(Below.heap_alloc _ _ _ (by simp;exact hk)).trans (Below.heap_setCell w ⟨L,0,none⟩ v k hne)⟩
theorem Tab.keptN {w w':World} {L:Nat} (h:Tab w) (hk:KeptN w w' L) (hL:5≠L):Tab w':=⟨Nat.lt_of_lt_of_le h.1 hk.size,fun i hi=>(World.cell?_of_block (a:=⟨5,i,none⟩) (hk.block _ h.1 hL)).trans (h.2 i hi)⟩
def nextOk (t h:List UInt8):Bool:=(readNode t).isSome && (sumL t == h)
def NextPost (w0 w:World) (L:Nat) (h:List UInt8) (xs:List (List UInt8)) (e:Ending) (w':World):Prop:=match xs with
 | []=>e=.returned (.tuple #[.agg #[.string ⟨#[]⟩,.int .i64 0,.string ⟨#[]⟩,.slice none 0 0,.string ⟨#[]⟩],.bool false])∧Below w.heap.size w w'
 | t :: r=>∃ (k:Int) (p:List UInt8) (a:Option Addr) (m c:Nat) (v:List UInt8),e=.returned (.tuple #[.agg #[.string ⟨t.toArray⟩,.int .i64 k,.string ⟨p.toArray⟩,.slice a m c,.string ⟨v.toArray⟩],.bool (nextOk t h)])∧k=(nodeAt t).k∧p=(nodeAt t).p∧m=(nodeAt t).ls.length∧v=(nodeAt t).v∧IsStrs w' a (nodeAt t).ls∧LeftB w0 w' L r∧KeptN w w' L
theorem five_far (w:World) (H k:Nat) (hk:k≠H) (z0 z1 z2 z3 z4:Value):(((((w.setCell ⟨H,0,none⟩ z0).setCell ⟨H,1,none⟩ z1).setCell ⟨H,2,none⟩ z2).setCell ⟨H,3,none⟩ z3).setCell ⟨H,4,none⟩ z4).heap[k]? = w.heap[k]? :=
 ((((Below.heap_setCell _ ⟨H,4,none⟩ z4 k hk).trans (Below.heap_setCell _ ⟨H,3,none⟩ z3 k hk)).trans (Below.heap_setCell _ ⟨H,2,none⟩ z2 k hk)).trans (Below.heap_setCell _ ⟨H,1,none⟩ z1 k hk)).trans (Below.heap_setCell _ ⟨H,0,none⟩ z0 k hk)
theorem far_below {w1 w2:World} {H:Nat} (b:Below w1.heap.size w1 w2):KeptN w1 w2 H:=KeptN.of_below b
theorem far_five (w:World) (H:Nat) (z0 z1 z2 z3 z4:Value):KeptN w (((((w.setCell ⟨H,0,none⟩ z0).setCell ⟨H,1,none⟩ z1).setCell ⟨H,2,none⟩ z2).setCell ⟨H,3,none⟩ z3).setCell ⟨H,4,none⟩ z4) H:=by
 have bf:=fiveS_below (Below.refl H w) (Nat.le_refl _) z0 z1 z2 z3 z4
 exact⟨bf.os,bf.tape,bf.output,bf.size,fun k _ hne=>five_far w H k hne z0 z1 z2 z3 z4⟩
theorem next_fin {w0 w W0 w1 Wf:World} {L rl cp m1 c1:Nat} {ad a1:Option Addr} {r ls:List (List UInt8)} (kf:KeptN w1 Wf w.heap.size) (b1:Below W0.heap.size W0 w1) (hs0:W0.heap.size=w.heap.size+1) (HQL:W0.heap[L]? = some (.cells #[.slice ad rl cp] 22 (0,0))) (HLF:rl≤cp∧IsStrs w0 ad r) (hrl:rl=r.length) (HK0:KeptN w W0 L) (hLs:L<w.heap.size) (o1:w1.ownsRow W0.heap.size 9 1 (.slice a1 m1 c1) ls.length (scells ls)) :
 IsStrs Wf a1 ls∧LeftB w0 Wf L r∧KeptN w Wf L:=by
 have h1:=b1.size
 have h2:=kf.size
 subst hrl
 refine⟨?_,⟨ad,cp,?_,HLF.1,HLF.2⟩,?_⟩
 · rcases (strs_own o1).2.2 with h | ⟨b,off,rfl,hc⟩
   · exact .inl h
   · have hge:W0.heap.size≤b∧b<w1.heap.size:=o1.lt b rfl
     refine .inr ⟨b,off,rfl,fun j hj=>?_⟩
     rw[World.cell?_of_block (a:=⟨b,off+j,none⟩) (kf.block b hge.2 (by omega))]
     exact hc j hj
 · rw[kf.block L (by omega) (by omega),b1.block L (by omega)]
   exact HQL
 · refine⟨kf.os.trans (b1.os.trans HK0.os),kf.tape.trans (b1.tape.trans HK0.tape),kf.output.trans (b1.output.trans HK0.output),by omega,fun k hk hne=>?_⟩
   rw[kf.block k (by omega) (by omega),b1.block k (by omega)]
   exact HK0.block k hk hne
theorem five_setC1 {w:World} {b j:Nat} {u v x y z q:Value} {t:TypeId} (h:w.heap[b]? = some (.cells #[u,v,x,y,z] t (0,0))):(w.setCell ⟨b,j,none⟩ q).heap[b]? = some (.cells (#[u,v,x,y,z].setIfInBounds j q) t (0,0)):=by
 have hlt:=(Array.getElem?_eq_some_iff.1 h).1
 have h':w.heap[b]=.cells #[u,v,x,y,z] t (0,0):=by simpa [Array.getElem?_eq_getElem hlt] using h
 show (w.heap.modify b _)[b]? = _
 rw[Array.getElem?_eq_getElem (by simpa using hlt),Array.getElem_modify_self,h']
 rfl
theorem five_setC {w:World} {b:Nat} {u0 u1 u2 u3 u4:Value} {t:TypeId} (z0 z1 z2 z3 z4:Value) (h:w.heap[b]? = some (.cells #[u0,u1,u2,u3,u4] t (0,0))) :
 (((((w.setCell ⟨b,0,none⟩ z0).setCell ⟨b,1,none⟩ z1).setCell ⟨b,2,none⟩ z2).setCell ⟨b,3,none⟩ z3).setCell ⟨b,4,none⟩ z4).heap[b]? = some (.cells #[z0,z1,z2,z3,z4] t (0,0)) :=
 five_setC1 (j:=4) (q:=z4) (five_setC1 (j:=3) (q:=z3) (five_setC1 (j:=2) (q:=z2) (five_setC1 (j:=1) (q:=z1) (five_setC1 (j:=0) (q:=z0) h))))
theorem KeptN.dr {w w':World} {L:Nat} (h:KeptN w w' L):KeptN w w'.drew L:=⟨h.os,h.tape,h.output,h.size,h.block⟩
theorem drew_heapC (w:World) (k:Nat):w.drew.heap[k]? = w.heap[k]? := rfl
theorem five_setCD {w:World} {b:Nat} {u0 u1 u2 u3 u4:Value} {t:TypeId} (z0 z1 z2 z3 z4:Value) (h:w.heap[b]? = some (.cells #[u0,u1,u2,u3,u4] t (0,0))) :
 (((((w.setCell ⟨b,0,none⟩ z0).setCell ⟨b,1,none⟩ z1).setCell ⟨b,2,none⟩ z2).setCell ⟨b,3,none⟩ z3).setCell ⟨b,4,none⟩ z4).drew.heap[b]? = some (.cells #[z0,z1,z2,z3,z4] t (0,0)):=(drew_heapC _ _).trans (five_setC z0 z1 z2 z3 z4 h)
theorem far_fiveD {w1 w:World} {H:Nat} (h:Below w1.heap.size w1 w) (z0 z1 z2 z3 z4:Value):KeptN w1 (((((w.setCell ⟨H,0,none⟩ z0).setCell ⟨H,1,none⟩ z1).setCell ⟨H,2,none⟩ z2).setCell ⟨H,3,none⟩ z3).setCell ⟨H,4,none⟩ z4).drew H:=((far_below h).trans (far_five w H z0 z1 z2 z3 z4)).dr
theorem below_drC {b:Nat} {w w1:World} (h:Below b w w1):Below b w w1.drew:=⟨h.os,h.tape,h.output,h.size,h.block⟩
theorem four_new (w:World) (u v x y:Value) (t:TypeId):(w.alloc (.cells #[u,v,x,y] t)).drew.cell? ⟨w.heap.size,0,none⟩=some u∧(w.alloc (.cells #[u,v,x,y] t)).drew.cell? ⟨w.heap.size,1,none⟩=some v∧(w.alloc (.cells #[u,v,x,y] t)).drew.cell? ⟨w.heap.size,2,none⟩=some x∧(w.alloc (.cells #[u,v,x,y] t)).drew.cell? ⟨w.heap.size,3,none⟩=some y:=by
 have h:(w.alloc (.cells #[u,v,x,y] t)).drew.heap[w.heap.size]? = some (.cells #[u,v,x,y] t):=heap_alloc_new w _
 refine⟨?_,?_,?_,?_⟩ <;> simp only[World.cell?,h] <;> rfl
theorem zeroHc (w:World):(zeroValue 121).run Tryz.prog w=.ok (.agg #[.string ⟨#[]⟩,.int .i64 0,.string ⟨#[]⟩,.slice none 0 0,.string ⟨#[]⟩]) w:=by kernel_rfl
set_option maxRecDepth 100000 in
set_option maxHeartbeats 1000000 in
theorem impl_nextText (L : Nat) (h : List UInt8) (xs : List (List UInt8)) (w0 w : World) (hT : Tab w) (hx : ∀ l ∈ xs, l.length ≤ 1048576) (hxl : xs.length ≤ 1048576) (hB : Below w0.heap.size w0 w) (hL : w0.heap.size ≤ L) (hlf : LeftB w0 w L xs) (hGL : 5 ≠ L) :
 Calls Tryz.prog 68 #[.string ⟨h.toArray⟩,.pointer (some ⟨L,0,none⟩)] w fun e w'=>NextPost w0 w L h xs e w':=by
 obtain⟨ao,c,hbk,hcap,his⟩:=hlf
 have hLs:L<w.heap.size:=(Array.getElem?_eq_some_iff.1 hbk).1
 have hc0:w.cell? ⟨L,0,none⟩=some (.slice ao xs.length c):=by simp[World.cell?,hbk]
 have hf0:w.frozen? ⟨L,0,none⟩=false:=by simp[World.frozen?,hbk]
 have HBK:Hid (w.heap[L]? = some (.cells #[.slice ao xs.length c] 22 (0,0))):=hbk
 have HT:Hid (Tab w):=hT
 clear hT hbk
 cases xs with
 | nil =>
   have hz:=zeroHc
   go_enter Tryz.func68,Tryz.ntmps68
   go_wp2
   exact bodyPost_ret (v:=.tuple #[.agg #[.string ⟨#[]⟩,.int .i64 0,.string ⟨#[]⟩,.slice none 0 0,.string ⟨#[]⟩],.bool false]) (results_csN rfl _ _ w.heap.size 121 _ _ rfl (heap_alloc_new w _) Tryz.underlying121 rfl (by kernel_rfl) _ rfl) rfl ⟨rfl,(Below.refl _ _).alloc (Nat.le_refl _) _⟩
 | cons t r =>
   obtain⟨b,off,rfl,hct⟩:∃ b off,ao=some ⟨b,off,none⟩∧w.cell? ⟨b,off,none⟩=some (.string ⟨t.toArray⟩):=by
    rcases his with h | ⟨b,off,h,hc⟩
    · cases h
    · have h0:=hc 0 (by simp)
      refine⟨b,off,h,?_⟩
      have hlt:=World.block_lt_of_cell? w0 _ h0
      have:=(hB.cell (p:=⟨b,off+0,none⟩) hlt).trans h0
      simpa using this
   have hbl:b<w.heap.size:=World.block_lt_of_cell? w _ hct
   have htl:t.length≤1048576:=hx t (by simp)
   have HIS:Hid (∀ b' off':Nat,IsStrs w0 (some ⟨b,off,none⟩) (t :: r)→IsStrs w0 (some ⟨b,off+1,none⟩) r):=fun _ _ h=>by
    rcases h with h | ⟨b1,off1,h,hc⟩
    · cases h
    · cases h
      refine .inr ⟨b,off+1,rfl,fun j hj=>?_⟩
      have:=hc (j+1) (by simpa using hj)
      rw[show off+(j+1)=off+1+j by omega] at this
      simpa using this
   have K1:=fun W=>impl_readNode t W htl
   have K2:=fun W hW=>impl_sum t W htl hW
   have hz:=zeroHc
   have hlen:(t :: r).length=r.length+1:=rfl
   rw[hlen] at hc0 hcap HBK
   have hrl:r.length≤1048576:=by simp at hxl;omega
   have hne:((r.length:Int)+1 == 0)=false:=by rw[beq_eq_false_iff_ne];omega
   clear hx hxl hlen
   by_cases hc1:c=1
   · subst hc1
     obtain rfl:r=[]:=List.length_eq_zero_iff.1 (by omega)
     have HLF:Hid (0≤0∧IsStrs w0 (some ⟨b,off,none⟩) []):=⟨Nat.le_refl _,.inl rfl⟩
     rw[List.length_nil] at hc0 HBK hne
     clear his HIS
     go_enter Tryz.func68,Tryz.ntmps68
     go_wp2_with fail
     obtain⟨W0,hW0⟩:∃ W0,W0=(w.setCell ⟨L,0,none⟩ (.slice (some ⟨b,off,none⟩) 0 0)).alloc (.cells #[.string ⟨#[]⟩,.int .i64 0,.string ⟨#[]⟩,.slice none 0 0,.string ⟨#[]⟩] 121):=⟨_,rfl⟩
     have hs0:W0.heap.size=w.heap.size+1:=by rw[hW0];simp
     have HQ0:Hid (W0.heap[w.heap.size]? = some (.cells #[.string ⟨#[]⟩,.int .i64 0,.string ⟨#[]⟩,.slice none 0 0,.string ⟨#[]⟩] 121 (0,0))):=by rw[Hid,hW0];exact new_setC w _ _ _
     have HQL:Hid (W0.heap[L]? = some (.cells #[.slice (some ⟨b,off,none⟩) 0 0] 22 (0,0))):=by rw[Hid,hW0];exact one_setC HBK.out _ _
     have HK0:Hid (KeptN w W0 L):=by rw[Hid,hW0];exact kept_setC w L _ _
     have HT0:Hid (Tab W0):=Tab.keptN HT.out HK0.out hGL
     rw[←hW0]
     clear hW0 hc0 hf0 HBK hct HT
     refine (K1 W0).mono ?_
     rintro e w1 ⟨a1,m1,c1,rfl,o1,b1⟩
     obtain⟨rfl,_,_⟩:=strs_own o1
     have HO1:=hidOwn o1
     obtain⟨k,hk⟩:∃ k,k=((readNode t).getD zeroN).k:=⟨_,rfl⟩
     obtain⟨p,hp⟩:∃ p,p=((readNode t).getD zeroN).p:=⟨_,rfl⟩
     obtain⟨ls,hls⟩:∃ ls,ls=((readNode t).getD zeroN).ls:=⟨_,rfl⟩
     obtain⟨v,hv⟩:∃ v,v=((readNode t).getD zeroN).v:=⟨_,rfl⟩
     obtain⟨ro,hro⟩:∃ ro,ro=(readNode t).isSome:=⟨_,rfl⟩
     rw[←hls] at HO1
     rw[←hk,←hp,←hv,←hls,←hro]
     have HN:Hid (k=(nodeAt t).k∧p=(nodeAt t).p∧ls=(nodeAt t).ls∧v=(nodeAt t).v):=⟨hk,hp,hls,hv⟩
     have HRO:Hid (nextOk t h=(ro && (sumL t == h))):=by rw[Hid,nextOk,←hro]
     have Q1:Hid (w1.heap[w.heap.size]? = some (.cells #[.string ⟨#[]⟩,.int .i64 0,.string ⟨#[]⟩,.slice none 0 0,.string ⟨#[]⟩] 121 (0,0))):=(b1.block _ (by omega)).trans HQ0.out
     have hs1:=b1.size
     have HB1:Hid (Below W0.heap.size W0 w1):=b1
     have HT1:Hid (Tab w1):=HT0.out.later b1
     clear o1 b1 HT0 HQ0 hk hp hls hv hro K1
     have Q2:Hid ((w1.alloc (.cells #[.int .i64 k,.string ⟨p.toArray⟩,.slice a1 ls.length c1,.string ⟨v.toArray⟩] 79)).heap[w.heap.size]? = some (.cells #[.string ⟨#[]⟩,.int .i64 0,.string ⟨#[]⟩,.slice none 0 0,.string ⟨#[]⟩] 121 (0,0))):=(Below.heap_alloc _ _ _ (by omega)).trans Q1.out
     have HB2:Hid (Below w1.heap.size w1 (w1.alloc (.cells #[.int .i64 k,.string ⟨p.toArray⟩,.slice a1 ls.length c1,.string ⟨v.toArray⟩] 79))):=(Below.refl _ _).alloc (Nat.le_refl _) _
     have FIN:Hid (∀ Wf,KeptN w1 Wf w.heap.size→NextPost w0 w L h (t :: []) (.returned (.tuple #[.agg #[.string ⟨t.toArray⟩,.int .i64 k,.string ⟨p.toArray⟩,.slice a1 ls.length c1,.string ⟨v.toArray⟩],.bool (nextOk t h)])) Wf):=fun Wf kf=>by
      obtain⟨f1,f2,f3⟩:=next_fin kf HB1.out hs0 HQL.out HLF.out rfl HK0.out hLs HO1.out
      obtain⟨e1,e2,e3,e4⟩:=HN.out
      rw[e3] at f1
      exact⟨k,p,a1,ls.length,c1,v,rfl,e1,e2,by rw[e3],e4,f1,f2,f3⟩
     clear HN HO1 HQL HK0 HB1 HLF
     cases ro with
     | false =>
       have HE:Hid (nextOk t h=false):=HRO.out
       rw[HE.out] at FIN
       obtain⟨q0,q1,q2,q3,q4,qf⟩:=five_cells Q2.out
       have qf0:=qf 0
       have qf1:=qf 1
       have qf2:=qf 2
       have qf3:=qf 3
       have qf4:=qf 4
       clear qf HRO K2 HE
       go_wp2
       go_region
       all_goals go_wp2
       exact bodyPost_ret (v:=.tuple #[.agg #[.string ⟨t.toArray⟩,.int .i64 k,.string ⟨p.toArray⟩,.slice a1 ls.length c1,.string ⟨v.toArray⟩],.bool false]) (results_csN rfl _ _ w.heap.size 121 _ _ rfl (five_setCD _ _ _ _ _ Q2.out) Tryz.underlying121 rfl (by kernel_rfl) _ rfl) rfl (FIN.out _ (far_fiveD HB2.out _ _ _ _ _))
     | true =>
       obtain⟨bq,hbq⟩:∃ bq,(sumL t == h)=bq:=⟨_,rfl⟩
       have HE:Hid (nextOk t h=bq):=by rw[Hid,HRO.out,hbq];rfl
       rw[HE.out] at FIN
       have KS1:=K2 _ (HT1.out.later (below_drC HB2.out))
       obtain⟨sm,hsm⟩:∃ sm,sm=sumL t:=⟨_,rfl⟩
       rw[←hsm] at KS1 hbq
       obtain⟨q0,q1,q2,q3,q4,qf⟩:=five_cells Q2.out
       have qf0:=qf 0
       have qf1:=qf 1
       have qf2:=qf 2
       have qf3:=qf 3
       have qf4:=qf 4
       clear qf HRO K2 HE hsm
       go_wp2_with fail
       go_region_with (first
        | (go_at_call 70
           refine KS1.mono ?_
           rintro e w3 ⟨rfl,b3⟩
           have HB3:Hid (Below w1.heap.size w1 w3):=(below_drC HB2.out).trans (b3.mono (below_drC HB2.out).size)
           have Q3:Hid (w3.heap[w.heap.size]? = some (.cells #[.string ⟨#[]⟩,.int .i64 0,.string ⟨#[]⟩,.slice none 0 0,.string ⟨#[]⟩] 121 (0,0))):=(HB3.out.block _ (by omega)).trans Q1.out
           obtain⟨r0,r1,r2,r3,r4,rf⟩:=five_cells Q3.out
           have rf0:=rf 0
           have rf1:=rf 1
           have rf2:=rf 2
           have rf3:=rf 3
           have rf4:=rf 4
           obtain⟨n0,n1,n2,n3⟩:=four_new w1 (.int .i64 k) (.string ⟨p.toArray⟩) (.slice a1 ls.length c1) (.string ⟨v.toArray⟩) 79
           have m0:=(b3.cell (p:=⟨w1.heap.size,0,none⟩) (by simp)).trans n0
           have m1:=(b3.cell (p:=⟨w1.heap.size,1,none⟩) (by simp)).trans n1
           have m2:=(b3.cell (p:=⟨w1.heap.size,2,none⟩) (by simp)).trans n2
           have m3:=(b3.cell (p:=⟨w1.heap.size,3,none⟩) (by simp)).trans n3
           clear rf n0 n1 n2 n3 b3)
        | (go_at_call 70
           fail))
       all_goals go_wp2
       all_goals exact bodyPost_ret (v:=.tuple #[.agg #[.string ⟨t.toArray⟩,.int .i64 k,.string ⟨p.toArray⟩,.slice a1 ls.length c1,.string ⟨v.toArray⟩],.bool bq]) (results_csN rfl _ _ w.heap.size 121 _ _ rfl (five_setC _ _ _ _ _ Q3.out) Tryz.underlying121 rfl (by kernel_rfl) _ rfl) rfl (FIN.out _ ((far_below HB3.out).trans (far_five _ _ _ _ _ _ _)))
   · have HLF:Hid (r.length≤c - 1∧IsStrs w0 (some ⟨b,off+1,none⟩) r):=⟨by omega,HIS.out 0 0 his⟩
     clear his HIS
     go_enter Tryz.func68,Tryz.ntmps68
     go_wp2_with fail
     obtain⟨W0,hW0⟩:∃ W0,W0=(w.setCell ⟨L,0,none⟩ (.slice (some ⟨b,off+1,none⟩) r.length (c - 1))).alloc (.cells #[.string ⟨#[]⟩,.int .i64 0,.string ⟨#[]⟩,.slice none 0 0,.string ⟨#[]⟩] 121):=⟨_,rfl⟩
     have hs0:W0.heap.size=w.heap.size+1:=by rw[hW0];simp
     have HQ0:Hid (W0.heap[w.heap.size]? = some (.cells #[.string ⟨#[]⟩,.int .i64 0,.string ⟨#[]⟩,.slice none 0 0,.string ⟨#[]⟩] 121 (0,0))):=by rw[Hid,hW0];exact new_setC w _ _ _
     have HQL:Hid (W0.heap[L]? = some (.cells #[.slice (some ⟨b,off+1,none⟩) r.length (c - 1)] 22 (0,0))):=by rw[Hid,hW0];exact one_setC HBK.out _ _
     have HK0:Hid (KeptN w W0 L):=by rw[Hid,hW0];exact kept_setC w L _ _
     have HT0:Hid (Tab W0):=Tab.keptN HT.out HK0.out hGL
     rw[←hW0]
     clear hW0 hc0 hf0 HBK hct HT
     refine (K1 W0).mono ?_
     rintro e w1 ⟨a1,m1,c1,rfl,o1,b1⟩
     obtain⟨rfl,_,_⟩:=strs_own o1
     have HO1:=hidOwn o1
     obtain⟨k,hk⟩:∃ k,k=((readNode t).getD zeroN).k:=⟨_,rfl⟩
     obtain⟨p,hp⟩:∃ p,p=((readNode t).getD zeroN).p:=⟨_,rfl⟩
     obtain⟨ls,hls⟩:∃ ls,ls=((readNode t).getD zeroN).ls:=⟨_,rfl⟩
     obtain⟨v,hv⟩:∃ v,v=((readNode t).getD zeroN).v:=⟨_,rfl⟩
     obtain⟨ro,hro⟩:∃ ro,ro=(readNode t).isSome:=⟨_,rfl⟩
     rw[←hls] at HO1
     rw[←hk,←hp,←hv,←hls,←hro]
     have HN:Hid (k=(nodeAt t).k∧p=(nodeAt t).p∧ls=(nodeAt t).ls∧v=(nodeAt t).v):=⟨hk,hp,hls,hv⟩
     have HRO:Hid (nextOk t h=(ro && (sumL t == h))):=by rw[Hid,nextOk,←hro]
     have Q1:Hid (w1.heap[w.heap.size]? = some (.cells #[.string ⟨#[]⟩,.int .i64 0,.string ⟨#[]⟩,.slice none 0 0,.string ⟨#[]⟩] 121 (0,0))):=(b1.block _ (by omega)).trans HQ0.out
     have hs1:=b1.size
     have HB1:Hid (Below W0.heap.size W0 w1):=b1
     have HT1:Hid (Tab w1):=HT0.out.later b1
     clear o1 b1 HT0 HQ0 hk hp hls hv hro K1
     have Q2:Hid ((w1.alloc (.cells #[.int .i64 k,.string ⟨p.toArray⟩,.slice a1 ls.length c1,.string ⟨v.toArray⟩] 79)).heap[w.heap.size]? = some (.cells #[.string ⟨#[]⟩,.int .i64 0,.string ⟨#[]⟩,.slice none 0 0,.string ⟨#[]⟩] 121 (0,0))):=(Below.heap_alloc _ _ _ (by omega)).trans Q1.out
     have HB2:Hid (Below w1.heap.size w1 (w1.alloc (.cells #[.int .i64 k,.string ⟨p.toArray⟩,.slice a1 ls.length c1,.string ⟨v.toArray⟩] 79))):=(Below.refl _ _).alloc (Nat.le_refl _) _
     have FIN:Hid (∀ Wf,KeptN w1 Wf w.heap.size→NextPost w0 w L h (t :: r) (.returned (.tuple #[.agg #[.string ⟨t.toArray⟩,.int .i64 k,.string ⟨p.toArray⟩,.slice a1 ls.length c1,.string ⟨v.toArray⟩],.bool (nextOk t h)])) Wf):=fun Wf kf=>by
      obtain⟨f1,f2,f3⟩:=next_fin kf HB1.out hs0 HQL.out HLF.out rfl HK0.out hLs HO1.out
      obtain⟨e1,e2,e3,e4⟩:=HN.out
      rw[e3] at f1
      exact⟨k,p,a1,ls.length,c1,v,rfl,e1,e2,by rw[e3],e4,f1,f2,f3⟩
     clear HN HO1 HQL HK0 HB1 HLF
     cases ro with
     | false =>
       have HE:Hid (nextOk t h=false):=HRO.out
       rw[HE.out] at FIN
       obtain⟨q0,q1,q2,q3,q4,qf⟩:=five_cells Q2.out
       have qf0:=qf 0
       have qf1:=qf 1
       have qf2:=qf 2
       have qf3:=qf 3
       have qf4:=qf 4
       clear qf HRO K2 HE
       go_wp2
       go_region
       all_goals go_wp2
       exact bodyPost_ret (v:=.tuple #[.agg #[.string ⟨t.toArray⟩,.int .i64 k,.string ⟨p.toArray⟩,.slice a1 ls.length c1,.string ⟨v.toArray⟩],.bool false]) (results_csN rfl _ _ w.heap.size 121 _ _ rfl (five_setCD _ _ _ _ _ Q2.out) Tryz.underlying121 rfl (by kernel_rfl) _ rfl) rfl (FIN.out _ (far_fiveD HB2.out _ _ _ _ _))
     | true =>
       obtain⟨bq,hbq⟩:∃ bq,(sumL t == h)=bq:=⟨_,rfl⟩
       have HE:Hid (nextOk t h=bq):=by rw[Hid,HRO.out,hbq];rfl
       rw[HE.out] at FIN
       have KS1:=K2 _ (HT1.out.later (below_drC HB2.out))
       obtain⟨sm,hsm⟩:∃ sm,sm=sumL t:=⟨_,rfl⟩
       rw[←hsm] at KS1 hbq
       obtain⟨q0,q1,q2,q3,q4,qf⟩:=five_cells Q2.out
       have qf0:=qf 0
       have qf1:=qf 1
       have qf2:=qf 2
       have qf3:=qf 3
       have qf4:=qf 4
       clear qf HRO K2 HE hsm
       go_wp2_with fail
       go_region_with (first
        | (go_at_call 70
           refine KS1.mono ?_
           rintro e w3 ⟨rfl,b3⟩
           have HB3:Hid (Below w1.heap.size w1 w3):=(below_drC HB2.out).trans (b3.mono (below_drC HB2.out).size)
           have Q3:Hid (w3.heap[w.heap.size]? = some (.cells #[.string ⟨#[]⟩,.int .i64 0,.string ⟨#[]⟩,.slice none 0 0,.string ⟨#[]⟩] 121 (0,0))):=(HB3.out.block _ (by omega)).trans Q1.out
           obtain⟨r0,r1,r2,r3,r4,rf⟩:=five_cells Q3.out
           have rf0:=rf 0
           have rf1:=rf 1
           have rf2:=rf 2
           have rf3:=rf 3
           have rf4:=rf 4
           obtain⟨n0,n1,n2,n3⟩:=four_new w1 (.int .i64 k) (.string ⟨p.toArray⟩) (.slice a1 ls.length c1) (.string ⟨v.toArray⟩) 79
           have m0:=(b3.cell (p:=⟨w1.heap.size,0,none⟩) (by simp)).trans n0
           have m1:=(b3.cell (p:=⟨w1.heap.size,1,none⟩) (by simp)).trans n1
           have m2:=(b3.cell (p:=⟨w1.heap.size,2,none⟩) (by simp)).trans n2
           have m3:=(b3.cell (p:=⟨w1.heap.size,3,none⟩) (by simp)).trans n3
           clear rf n0 n1 n2 n3 b3)
        | (go_at_call 70
           fail))
       all_goals go_wp2
       all_goals exact bodyPost_ret (v:=.tuple #[.agg #[.string ⟨t.toArray⟩,.int .i64 k,.string ⟨p.toArray⟩,.slice a1 ls.length c1,.string ⟨v.toArray⟩],.bool bq]) (results_csN rfl _ _ w.heap.size 121 _ _ rfl (five_setC _ _ _ _ _ Q3.out) Tryz.underlying121 rfl (by kernel_rfl) _ rfl) rfl (FIN.out _ ((far_below HB3.out).trans (far_five _ _ _ _ _ _ _)))
open Go.RowKit Go.Shelf
structure CkS (w0:World) (R L b:Nat) (root key:List UInt8) (xs:List (List UInt8)) (W:World):Prop where
 below:Below w0.heap.size w0 W
 ord:w0.heap.size≤R∧R+1<L∧L<b∧b+2<W.heap.size
 r0:W.heap[R]? = some (.cells #[.int .i64 0] 2 (0,0))
 r1:W.heap[R+1]? = some (.cells #[.string ⟨#[]⟩] 9 (0,0))
 left:LeftB w0 W L xs
 box0:W.cell? ⟨b,0,none⟩=some (.string ⟨root.toArray⟩)
 box1:W.cell? ⟨b+1,0,none⟩=some (.string ⟨key.toArray⟩)
 box2:W.cell? ⟨b+2,0,none⟩=some (.func (.func 68) #[] #[.pointer (some ⟨L,0,none⟩)])
theorem CkS.next {w0:World} {R L b:Nat} {root key:List UInt8} {xs r:List (List UInt8)} {W W':World} (h:CkS w0 R L b root key xs W) (k:KeptN W W' L) (lf:LeftB w0 W' L r):CkS w0 R L b root key r W':=by
 obtain⟨o1,o2,o3,o4⟩:=h.ord
 have hs:=k.size
 exact⟨k.below h.below (by omega),⟨o1,o2,o3,by omega⟩,(k.block R (by omega) (by omega)).trans h.r0,(k.block (R+1) (by omega) (by omega)).trans h.r1,lf,
  (World.cell?_of_block (a:=⟨b,0,none⟩) (k.block b (by omega) (by omega))).trans h.box0,(World.cell?_of_block (a:=⟨b+1,0,none⟩) (k.block (b+1) (by omega) (by omega))).trans h.box1,(World.cell?_of_block (a:=⟨b+2,0,none⟩) (k.block (b+2) (by omega) (by omega))).trans h.box2⟩
theorem CkS.later {w0:World} {R L b:Nat} {root key:List UInt8} {xs:List (List UInt8)} {W W':World} (h:CkS w0 R L b root key xs W) (k:Below W.heap.size W W'):CkS w0 R L b root key xs W':=by
 obtain⟨o1,o2,o3,o4⟩:=h.ord
 obtain⟨ao,c,l1,l2,l3⟩:=h.left
 exact h.next (KeptN.of_below k) ⟨ao,c,(k.block L (by omega)).trans l1,l2,l3⟩
theorem put_far {W:World} {l k:Nat} {o o':Obj} {cs:Array Value} {t:TypeId} {f:Nat × Nat} (ho:W.heap[l]? = some o) (hc:o.isCells=false) (h:W.heap[k]? = some (.cells cs t f)):(W.putObj l o').heap[k]? = some (.cells cs t f):=by
 refine (World.putObj_heap_other (fun e=>?_)).trans h
 subst e
 rw[h] at ho
 cases ho
 cases hc
theorem CkS.put {w0:World} {R L b B:Nat} {root key:List UInt8} {xs:List (List UInt8)} (hB:w0.heap.size≤B):AbidesB B (CkS w0 R L b root key xs):=fun W l o o' h hl ho hc=>by
 obtain⟨o1,o2,o3,o4⟩:=h.ord
 obtain⟨ao,c,l1,l2,l3⟩:=h.left
 exact⟨raw_below hB W l o o' h.below hl ho hc,⟨o1,o2,o3,by simpa using o4⟩,put_far ho hc h.r0,put_far ho hc h.r1,⟨ao,c,put_far ho hc l1,l2,l3⟩,raw_cell h.box0 ho hc,raw_cell h.box1 ho hc,raw_cell h.box2 ho hc⟩
theorem undrewC {W w1:World} (h:Below W.drew.heap.size W.drew w1):Below W.heap.size W w1:=⟨h.os,h.tape,h.output,h.size,h.block⟩
theorem four_rowC {w:World} {b:Nat} {u v x y:Value} {t:TypeId} (h:w.heap[b]? = some (.cells #[u,v,x,y] t (0,0))):w.cell? ⟨b,0,none⟩=some u∧w.cell? ⟨b,1,none⟩=some v∧w.cell? ⟨b,2,none⟩=some x∧w.cell? ⟨b,3,none⟩=some y:=by
 refine⟨?_,?_,?_,?_⟩ <;> simp only[World.cell?,h] <;> rfl
theorem drewC (w:World) (q:Nat):Below w.heap.size w (w.drewN q):=⟨rfl,rfl,rfl,Nat.le_refl _,fun _ _=>rfl⟩
theorem keepsC {W W':World} (b:Below W.heap.size W W'):KeepsOthers W W':=⟨b.size,fun k o hk _=>(b.block k (Array.getElem?_eq_some_iff.1 hk).1).trans hk⟩
theorem keepsN {W W':World} {L:Nat} {cs:Array Value} {t:TypeId} {f:Nat × Nat} (k:KeptN W W' L) (h:W.heap[L]? = some (.cells cs t f)):KeepsOthers W W':=⟨k.size,fun j o hj ho=>(k.block j (Array.getElem?_eq_some_iff.1 hj).1 (fun e=>by
 subst e
 rw[h] at hj
 cases hj
 cases ho)).trans hj⟩
structure CkX where
 hv:Value
 nx:List UInt8
 pa:List UInt8
 c:Int
 v:List UInt8
 xs:List (List UInt8)
 sb:Nat
def ckE (x:CkX):Array Value:=#[x.hv,.agg #[.string ⟨x.nx.toArray⟩,.string ⟨x.pa.toArray⟩,.int .i64 x.c,.string ⟨x.v.toArray⟩]]
def StepC (x:CkX) (W:World):Prop:=W.heap[x.sb]? = some (.cells #[.string ⟨x.nx.toArray⟩,.string ⟨x.pa.toArray⟩,.int .i64 x.c,.string ⟨x.v.toArray⟩] 127 (0,0))
def CkY (w0:World) (R L b:Nat) (root key:List UInt8) (Q:Int × List UInt8) (x:CkX) (W:World):Prop:=CkS w0 R L b root key x.xs W∧(b+2<x.sb∧StepC x W)∧(x.nx=[]→x.xs=[]→Q=if x.c=1 then (2,x.v) else (1,[]))
def CkI (w0:World) (R L b:Nat) (root key:List UInt8) (x:CkX) (W:World):Prop:=CkS w0 R L b root key x.xs W∧StepC x W∧¬ (x.nx=[]∧x.xs=[])
def CkO (w0:World) (R:Nat) (Q:Int × List UInt8) (c:Code) (W:World):Prop:=c=.ret∧Below w0.heap.size w0 W∧W.cell? ⟨R,0,none⟩=some (.int .i64 Q.1)∧W.cell? ⟨R+1,0,none⟩=some (.string ⟨Q.2.toArray⟩)
def CkZ (w0:World) (R L b:Nat) (root key:List UInt8) (Q:Int × List UInt8) (W:World):Prop:=Q=(0,[])∧∃ xs,CkS w0 R L b root key xs W
set_option maxRecDepth 100000 in
set_option maxHeartbeats 2000000 in
theorem ck_iter (w0 : World) (R L b : Nat) (root key : List UInt8) (ts : List (List UInt8)) (Q : Int × List UInt8) (hT : Tab w0) (hGL : 5 ≠ L) (hroot : root.length ≤ 1048576) (hkey : key.length ≤ 12) (htm : ∀ t ∈ ts, t.length ≤ 1048576) (htl : ts.length ≤ 30) (hQ : chkP ts root (nibs key) = Q)
 (l:Nat) (BK:World→Prop) (BX:Code→World→Prop) (W:World) (hBK:∀ A B,KeepsOthers A B→BK A→BK B) (hBX:∀ c A B,KeepsOthers A B→BX c A→BX c B)
 (hY:∀ x W1,CkY w0 R L b root key Q x W1→BK W1→YieldAt Fence.wide 1 Tryz.prog l (ckE x) W1 fun e W'=>(e=.returned (.bool true)∧CkI w0 R L b root key x W'∧BK W')∨(e=.returned (.bool false)∧∃ c,CkO w0 R Q c W'∧BX c W'))
 (hJ:CkS w0 R L b root key ts W) (hB:BK W) :
 CallsIn Fence.wide 2 Tryz.prog 98 (#[.func (.yield l) #[] #[]] ++ #[.pointer (some ⟨b,0,none⟩),.pointer (some ⟨b+1,0,none⟩),.pointer (some ⟨b+2,0,none⟩)]) W fun e W'=>(∃ v,e=.returned v)∧((CkZ w0 R L b root key Q W'∧BK W')∨(∃ c,CkO w0 R Q c W'∧BX c W')):=by
 have KN:∀ W,Calls Tryz.prog 99 #[.string ⟨key.toArray⟩] W fun e w'=>e=.returned (.string ⟨(nibs key).toArray⟩)∧Below W.heap.size W w':=fun W=>impl_nibbles ⟨key.toArray⟩ W (by simp[ByteArray.size];omega)
 have hnn:isNibs (nibs key)=true:=nibs_nibs key
 have hnl:(nibs key).length≤24:=by rw[nibs_length];omega
 obtain⟨np,hnp⟩:∃ np,np=nibs key:=⟨_,rfl⟩
 rw[←hnp] at KN hnn hnl hQ
 have HJ:Hid (CkS w0 R L b root key ts W):=hJ
 have c0:=hJ.box0
 have c1:=hJ.box1
 clear hnp hJ
 refine callsIn_of_wp Tryz.func98 rfl trivial ?_ rfl
 simp only[Tryz.ntmps98,List.size_toArray,List.length_cons,List.length_nil,Nat.reduceAdd,Nat.reduceSub,Array.replicate_succ,Array.replicate_zero,List.push_toArray,List.append_toArray,List.nil_append,List.cons_append]
 gi_wp2
 refine wpIn_wide.2 ?_
 have S0:W.drew.cell? ⟨b,0,none⟩=some (.string ⟨root.toArray⟩)∧W.drew.cell? ⟨b+1,0,none⟩=some (.string ⟨key.toArray⟩):=⟨c0,c1⟩
 have hb0:=World.block_lt_of_cell? W _ c0
 have hb1:=World.block_lt_of_cell? W _ c1
 go_region_held3 (fun w'=>w'.cell? ⟨b,0,none⟩=some (.string ⟨root.toArray⟩)∧w'.cell? ⟨b+1,0,none⟩=some (.string ⟨key.toArray⟩))
  (first | with_reducible exact S0 | with_reducible exact S1 | go_keep)
  ((go_at_call 99
    refine (KN _).mono ?_
    rintro e w1 ⟨rfl,b1⟩
    have S1:w1.cell? ⟨b,0,none⟩=some (.string ⟨root.toArray⟩)∧w1.cell? ⟨b+1,0,none⟩=some (.string ⟨key.toArray⟩):=⟨(b1.cell (p:=⟨b,0,none⟩) hb0).trans c0,(b1.cell (p:=⟨b+1,0,none⟩) hb1).trans c1⟩
    have HJ1:Hid (CkS w0 R L b root key ts w1):=HJ.out.later (undrewC b1)
    have HB1:Hid (BK w1):=hBK _ _ (keepsC (undrewC b1)) hB
    clear b1))
 clear c0 c1 S0 S1 hb0 hb1 HJ hB KN
 have HQ:Hid (chkP ts root np=Q):=hQ
 have HTM:Hid (∀ t∈ts,t.length≤1048576):=htm
 have HT:Hid (Tab w0):=hT
 have HBK:Hid (∀ A B,KeepsOthers A B→BK A→BK B):=hBK
 have HYY:Hid (∀ x W1,CkY w0 R L b root key Q x W1→BK W1→YieldAt Fence.wide 1 Tryz.prog l (ckE x) W1 fun e W'=>(e=.returned (.bool true)∧CkI w0 R L b root key x W'∧BK W')∨(e=.returned (.bool false)∧∃ c,CkO w0 R Q c W'∧BX c W')):=hY
 clear hQ htm hT hBK hY
 gi_wp2
 gi_loopw [5,6,7,8,9,13] (fun u5 u6 _ _ _ u13 wr=>∃ (j:Nat) (h p:List UInt8) (xs:List (List UInt8)),u5=.string ⟨h.toArray⟩∧u6=.string ⟨p.toArray⟩∧u13=.int .i64 (j:Int)∧j+xs.length≤30∧h.length≤1048576∧p.length≤1048576∧isNibs p=true∧Hid (∀ t∈xs,t.length≤1048576)∧Hid (chkP xs h p=Q)∧Hid (CkS w0 R L b root key xs wr)∧Hid (BK wr)) (fun _ _ _ _ _ u13 _=>30 - (intOf u13).toNat)
 case atStart=>exact⟨0,root,np,ts,rfl,rfl,rfl,by omega,hroot,by omega,hnn,HTM,HQ,HJ1,HB1⟩
 case round =>
  obtain⟨j,h,p,xs,rfl,rfl,rfl,hjx,hhl,hpl,hpn,HXM,HQX,HS,HB⟩:=hrel
  clear HJ1 HB1 HQ HTM hnn hnl hroot hkey htl
  by_cases hj:j<30
  · have hj1 : (j : Int) < 30 := by omega
    have c2:=HS.out.box2
    have K1:=callsIn_wide (n:=1).2 (impl_nextText L h xs w0 wr (HT.out.later HS.out.below) HXM.out (by omega) HS.out.below (by have:=HS.out.ord;omega) HS.out.left hGL)
    cases xs with
    | nil =>
      simp only[NextPost] at K1
      have HQ0:Hid (Q=(0,[])):=HQX.out.symm
      gi_wp2
      refine⟨trivial,K1.mono ?_⟩
      rintro e w1 ⟨rfl,b1⟩
      have FIN:Hid (∀ o,CkZ w0 R L b root key Q (w1.alloc o)∧BK (w1.alloc o)):=fun o=>⟨⟨HQ0.out,[],(HS.out.later b1).later ((Below.refl _ _).alloc (Nat.le_refl _) _)⟩,HBK.out _ _ ((keepsC b1).trans (KeepsOthers.alloc _ _)) HB.out⟩
      clear K1 b1 HS HB HQ0 HQX HXM c2
      gi_wp2
      refine bodyPost_ret (results_none rfl _ _ _) rfl ?_
      exact⟨⟨_,rfl⟩,.inl (FIN.out _)⟩
    | cons t r =>
      simp only[NextPost] at K1
      have hLC:∃ ao c,wr.heap[L]? = some (.cells #[.slice ao (t :: r).length c] 22 (0,0)):=by obtain⟨ao,c,l1,_⟩:=HS.out.left;exact⟨ao,c,l1⟩
      have HLC:Hid (∃ ao c,wr.heap[L]? = some (.cells #[.slice ao (t :: r).length c] 22 (0,0))):=hLC
      obtain⟨bq,hbq⟩:∃ bq,bq=nextOk t h:=⟨_,rfl⟩
      rw[←hbq] at K1
      have HBQ:Hid (bq=nextOk t h):=hbq
      clear hbq hLC
      gi_wp2
      refine⟨trivial,K1.mono ?_⟩
      rintro e w1 ⟨k,q,a1,m1,c1,v,rfl,hk,hq,hm,hv,i1,lf1,kn1⟩
      have HS1:Hid (CkS w0 R L b root key r w1):=HS.out.next kn1 lf1
      have HB1:Hid (BK w1):=by
       obtain⟨ao,c,l1⟩:=HLC.out
       exact HBK.out _ _ (keepsN kn1 l1) HB.out
      have HND:Hid (k=(nodeAt t).k∧q=(nodeAt t).p∧m1=(nodeAt t).ls.length∧v=(nodeAt t).v∧IsStrs w1 a1 (nodeAt t).ls):=⟨hk,hq,hm,hv,i1⟩
      clear K1 HS HB HLC c2 kn1 lf1 i1 hk hq hm hv
      cases bq with
      | false =>
        have HQ0:Hid (Q=(0,[])):=by
         rw[Hid,←HQX.out]
         refine chkP_bad t r h p (fun hh=>?_)
         have:=HBQ.out
         rw[nextOk,hh.1,hh.2] at this
         simp at this
        have FIN:Hid (∀ o,CkZ w0 R L b root key Q (w1.alloc o)∧BK (w1.alloc o)):=fun o=>⟨⟨HQ0.out,r,HS1.out.later ((Below.refl _ _).alloc (Nat.le_refl _) _)⟩,HBK.out _ _ (KeepsOthers.alloc _ _) HB1.out⟩
        clear HS1 HB1 HQ0 HQX HXM HBQ HND
        gi_wp2
        refine bodyPost_ret (results_none rfl _ _ _) rfl ?_
        exact⟨⟨_,rfl⟩,.inl (FIN.out _)⟩
      | true =>
        obtain⟨hrd,hsm⟩:(readNode t).isSome=true∧sumL t=h:=by
         have:=HBQ.out
         simp only[nextOk,Bool.true_eq,Bool.and_eq_true,beq_iff_eq] at this
         exact this
        obtain⟨e1,e2,e3,e4,i1⟩:=HND.out
        have hok:=nodeAt_ok t hrd
        have HOK:Hid (NodeL.ok ⟨k,q,(nodeAt t).ls,v⟩=true∧nodeAt t=⟨k,q,(nodeAt t).ls,v⟩):=by
         have e:nodeAt t=⟨k,q,(nodeAt t).ls,v⟩:=by rw[e1,e2,e4]
         exact⟨by rw[←e];exact hok,e⟩
        have HIS:Hid (IsStrs w1 a1 (nodeAt t).ls):=i1
        obtain⟨ls,hls⟩:∃ ls,ls=(nodeAt t).ls:=⟨_,rfl⟩
        rw[←hls] at HOK HIS e3
        subst e3
        have K2:=fun W (hW:Below w1.heap.size w1 W)=>callsIn_wide (n:=1).2 (impl_stepAt k q ls v HOK.out.1 a1 c1 p W hpl hpn (strs_later HIS.out hW))
        have HST:Hid (stepL (nodeAt t) p=stepL ⟨k,q,ls,v⟩ p):=by rw[Hid,HOK.out.2]
        obtain⟨st,hst⟩:∃ st,st=stepL ⟨k,q,ls,v⟩ p:=⟨_,rfl⟩
        rw[←hst] at K2 HST
        have HRS:Hid ((readNode t).isSome=true∧sumL t=h):=⟨hrd,hsm⟩
        have K3:=K2 _ ((Below.refl _ _).alloc (Nat.le_refl _) (.cells #[.string ⟨t.toArray⟩,.int .i64 k,.string ⟨q.toArray⟩,.slice a1 ls.length c1,.string ⟨v.toArray⟩] 121))
        have HQ1:Hid ((w1.alloc (.cells #[.string ⟨t.toArray⟩,.int .i64 k,.string ⟨q.toArray⟩,.slice a1 ls.length c1,.string ⟨v.toArray⟩] 121)).heap[w1.heap.size]? = some (.cells #[.string ⟨t.toArray⟩,.int .i64 k,.string ⟨q.toArray⟩,.slice a1 ls.length c1,.string ⟨v.toArray⟩] 121 (0,0))):=heap_alloc_new w1 _
        have HS2:Hid (CkS w0 R L b root key r (w1.alloc (.cells #[.string ⟨t.toArray⟩,.int .i64 k,.string ⟨q.toArray⟩,.slice a1 ls.length c1,.string ⟨v.toArray⟩] 121))):=HS1.out.later ((Below.refl _ _).alloc (Nat.le_refl _) _)
        have HB2:Hid (BK (w1.alloc (.cells #[.string ⟨t.toArray⟩,.int .i64 k,.string ⟨q.toArray⟩,.slice a1 ls.length c1,.string ⟨v.toArray⟩] 121))):=HBK.out _ _ (KeepsOthers.alloc _ _) HB1.out
        clear hrd hsm e1 e2 e4 i1 hok HND HOK HIS hls hst K2 HBQ HS1 HB1
        gi_wp2
        refine⟨trivial,K3.mono ?_⟩
        rintro e w2 ⟨hse,b2⟩
        have HS3:Hid (CkS w0 R L b root key r w2):=HS2.out.later b2
        have HB3:Hid (BK w2):=HBK.out _ _ (keepsC b2) HB2.out
        have hs2:w1.heap.size<w2.heap.size:=by have:=b2.size;simp at this;omega
        have HQ2:Hid (w2.heap[w1.heap.size]? = some (.cells #[.string ⟨t.toArray⟩,.int .i64 k,.string ⟨q.toArray⟩,.slice a1 ls.length c1,.string ⟨v.toArray⟩] 121 (0,0))):=(b2.block _ (by simp)).trans HQ1.out
        clear K3 HS2 HB2 HQ1 b2
        cases st with
        | ends c x =>
          obtain⟨qq,rfl⟩:∃ q:List UInt8,e=.returned (.agg #[.string ⟨#[]⟩,.string ⟨q.toArray⟩,.int .i64 c,.string ⟨x.toArray⟩]):=hse
          obtain⟨g0,g1,g2,g3,g4,_⟩:=five_cells HQ2.out
          have HQE:Hid (Q=if r=[] then (if c=1 then (2,x) else (1,[])) else (0,[])):=by
           rw[Hid,←HQX.out];exact chkP_ends t r h p HRS.out.1 HRS.out.2 c x HST.out
          have hord:=HS3.out.ord
          obtain⟨fn,tm,asg,bo,hy,hR⟩:=HYY.out ⟨(.agg #[.string ⟨t.toArray⟩,.int .i64 k,.string ⟨q.toArray⟩,.slice a1 ls.length c1,.string ⟨v.toArray⟩]),[],qq,c,x,r,w2.heap.size⟩ (w2.alloc (.cells #[.string ⟨#[]⟩,.string ⟨qq.toArray⟩,.int .i64 c,.string ⟨x.toArray⟩] 127)) ⟨HS3.out.later ((Below.refl _ _).alloc (Nat.le_refl _) _),⟨by show b+2<w2.heap.size;omega,heap_alloc_new w2 _⟩,fun _ hr=>by rw[HQE.out];exact if_pos hr⟩ (HBK.out _ _ (KeepsOthers.alloc _ _) HB3.out)
          dsimp only[ckE] at hy
          clear HS3 HB3 HQ2 HQX HXM HYY hord HST HRS
          gi_wp2
          refine hR.mono ?_
          rintro e W4 (⟨rfl,hI,hB4⟩ | ⟨rfl,c9,hO,hX⟩)
          · obtain⟨s4,st4,hne⟩:=hI
            obtain⟨n0,n1,n2,n3⟩:=four_rowC st4
            have HS4:Hid (CkS w0 R L b root key r W4):=s4
            have HB4:Hid (BK W4):=hB4
            have HQ4:Hid (Q=(0,[])):=by rw[Hid,HQE.out];exact if_neg (fun hr=>hne ⟨rfl,hr⟩)
            dsimp only at n0 n1 n2 n3
            clear s4 st4 hne hB4 hy hR
            gi_wp2
            refine bodyPost_ret (results_none rfl _ _ _) rfl ?_
            exact⟨⟨_,rfl⟩,.inl ⟨⟨HQ4.out,r,HS4.out⟩,HB4.out⟩⟩
          · have HO:Hid (CkO w0 R Q c9 W4∧BX c9 W4):=⟨hO,hX⟩
            clear hO hX hy hR
            gi_wp2
            refine bodyPost_ret (results_none rfl _ _ _) rfl ?_
            exact⟨⟨_,rfl⟩,.inr ⟨c9,HO.out⟩⟩
        | on h' p' =>
          obtain rfl:e=.returned (.agg #[.string ⟨h'.toArray⟩,.string ⟨p'.toArray⟩,.int .i64 0,.string ⟨#[]⟩]):=hse
          obtain⟨g0,g1,g2,g3,g4,_⟩:=five_cells HQ2.out
          obtain⟨u1,u2,u3⟩:=stepL_used (nodeAt t) (nodeAt_ok t HRS.out.1) p h' p' HST.out
          have hhe:h'.isEmpty=false:=by cases h' with | nil=>simp at u3 | cons _ _=>rfl
          have hhb:(h' == [])=false:=by rw[beq_eq_false_iff_ne];intro e;rw[e] at u3;simp at u3
          have hp1:p'.length≤1048576:=by rw[u1,List.length_drop];omega
          have hp2:isNibs p'=true:=by rw[u1];exact isNibs_drop _ _ hpn
          have hh1:h'.length≤1048576:=by omega
          have HQE:Hid (chkP r h' p'=Q):=by
           rw[Hid,←HQX.out];exact (chkP_on t r h p HRS.out.1 HRS.out.2 h' p' HST.out).symm
          have hord:=HS3.out.ord
          obtain⟨fn,tm,asg,bo,hy,hR⟩:=HYY.out ⟨(.agg #[.string ⟨t.toArray⟩,.int .i64 k,.string ⟨q.toArray⟩,.slice a1 ls.length c1,.string ⟨v.toArray⟩]),h',p',0,[],r,w2.heap.size⟩ (w2.alloc (.cells #[.string ⟨h'.toArray⟩,.string ⟨p'.toArray⟩,.int .i64 0,.string ⟨#[]⟩] 127)) ⟨HS3.out.later ((Below.refl _ _).alloc (Nat.le_refl _) _),⟨by show b+2<w2.heap.size;omega,heap_alloc_new w2 _⟩,fun hn=>by dsimp only at hn;rw[hn] at u3;simp at u3⟩ (HBK.out _ _ (KeepsOthers.alloc _ _) HB3.out)
          dsimp only[ckE] at hy
          have HXR:Hid (∀ t∈r,t.length≤1048576):=fun y hy=>HXM.out y (List.mem_cons_of_mem _ hy)
          have hjr:j+1+r.length≤30:=by simp at hjx;omega
          clear HS3 HB3 HQ2 HQX HXM HYY hord HST HRS u1 u2 u3 hjx
          gi_wp2
          refine hR.mono ?_
          rintro e W4 (⟨rfl,hI,hB4⟩ | ⟨rfl,c9,hO,hX⟩)
          · obtain⟨s4,st4,hne⟩:=hI
            obtain⟨n0,n1,n2,n3⟩:=four_rowC st4
            have HS4:Hid (CkS w0 R L b root key r W4):=s4
            have HB4:Hid (BK W4):=hB4
            dsimp only at n0 n1 n2 n3
            clear s4 st4 hne hB4 hy hR
            gi_wp2
            refine wpIn_wide.2 ?_
            go_quiet (fail)
            gi_wp2
            go_roundw
            case rel=>exact⟨j+1,h',p',r,rfl,rfl,by go_num,hjr,hh1,hp1,hp2,HXR,HQE,HS4.out.later (drewC _ _),HBK.out _ _ (keepsC (drewC _ _)) HB4.out⟩
            case measure=>simp[intOf];omega
          · have HO:Hid (CkO w0 R Q c9 W4∧BX c9 W4):=⟨hO,hX⟩
            clear hO hX hy hR
            gi_wp2
            refine bodyPost_ret (results_none rfl _ _ _) rfl ?_
            exact⟨⟨_,rfl⟩,.inr ⟨c9,HO.out⟩⟩
  · have hxs:xs=[]:=List.length_eq_zero_iff.1 (by omega)
    subst hxs
    have hj1:¬ (j:Int)<30:=by omega
    have HQ0:Hid (Q=(0,[])):=HQX.out.symm
    gi_wp2
    go_end0
    exact⟨⟨_,rfl⟩,.inl ⟨⟨HQ0.out,[],HS.out⟩,HB.out⟩⟩
open Go.RowKit Go.Shelf
attribute [local go_sem] Oper.semAt_some
theorem cell_boxC {w:World} {b:Nat} {v:Value} {t:TypeId} {f:Nat × Nat} (h:w.heap[b]? = some (.cells #[v] t f)):w.cell? ⟨b,0,none⟩=some v:=by
 simp only[World.cell?,h];rfl
theorem new_atC {w:World} {n:Nat} (h:w.heap.size=n) (o:Obj):(w.alloc o).heap[n]? = some o:=by rw[←h];exact heap_alloc_new w o
theorem Below.heap_allocC {w:World} {k:Nat} {o o':Obj} (h:w.heap[k]? = some o):(w.alloc o').heap[k]? = some o:=(_root_.Go.RowKit.Below.heap_alloc _ _ _ (Array.getElem?_eq_some_iff.1 h).1).trans h
theorem frozen_boxC {w:World} {b:Nat} {v:Value} {t:TypeId} (h:w.heap[b]? = some (.cells #[v] t (0,0))):w.frozen? ⟨b,0,none⟩=false:=by
 simp[World.frozen?,h]
set_option maxRecDepth 100000 in
set_option maxHeartbeats 400000 in
theorem impl_wayOf (root key:List UInt8) (L:Nat) (w:World) :
 Calls Tryz.prog 71 #[.string ⟨root.toArray⟩,.string ⟨key.toArray⟩,.func (.func 68) #[] #[.pointer (some ⟨L,0,none⟩)]] w fun e w'=>e=.returned (.func (.func 98) #[] #[.pointer (some ⟨w.heap.size,0,none⟩),.pointer (some ⟨w.heap.size+1,0,none⟩),.pointer (some ⟨w.heap.size+2,0,none⟩)])∧Below w.heap.size w w'∧w.heap.size+2<w'.heap.size∧w'.cell? ⟨w.heap.size,0,none⟩=some (.string ⟨root.toArray⟩)∧w'.cell? ⟨w.heap.size+1,0,none⟩=some (.string ⟨key.toArray⟩)∧w'.cell? ⟨w.heap.size+2,0,none⟩=some (.func (.func 68) #[] #[.pointer (some ⟨L,0,none⟩)]):=by
 have hmf:∀ (fn:Fn) (first cap:Array Value) (w:World),(Instr.makeFunc fn first cap).run Tryz.prog w=.ok (.func fn first cap) w:=fun _ _ _ _=>rfl
 go_enter Tryz.func71,Tryz.ntmps71
 go_wp2
 go_ret
 exact⟨rfl,(((Below.refl _ _).alloc (Nat.le_refl _) _).alloc (by simp) _).alloc (by simp;omega) _,by simp,cell_boxC (Below.heap_allocC (Below.heap_allocC (heap_alloc_new w _))),cell_boxC (Below.heap_allocC (new_atC (by simp) _)),cell_boxC (new_atC (by simp) _)⟩
theorem two_setC (w:World) (R:Nat) (x y:Value) {u v:Value} (h0:w.cell? ⟨R,0,none⟩=some u) (h1:w.cell? ⟨R+1,0,none⟩=some v):((w.setCell ⟨R,0,none⟩ x).setCell ⟨R+1,0,none⟩ y).cell? ⟨R,0,none⟩=some x∧((w.setCell ⟨R,0,none⟩ x).setCell ⟨R+1,0,none⟩ y).cell? ⟨R+1,0,none⟩=some y :=
 ⟨(World.cell?_of_block (a := ⟨R, 0, none⟩) (_root_.Go.RowKit.Below.heap_setCell _ ⟨R + 1, 0, none⟩ y R (by simp))).trans (World.cell?_setCell_same' w ⟨R, 0, none⟩ x (by rw [h0]; rfl)),
   World.cell?_setCell_same' _ _ _ (by rw[World.cell?_of_block (a:=⟨R+1,0,none⟩) (_root_.Go.RowKit.Below.heap_setCell w ⟨R,0,none⟩ x (R+1) (by simp)),h1];rfl)⟩
theorem ck_two {w w1:World} (b1:Below ((w.alloc (.cells #[.int .i64 0] 2)).alloc (.cells #[.string ⟨#[]⟩] 9)).heap.size ((w.alloc (.cells #[.int .i64 0] 2)).alloc (.cells #[.string ⟨#[]⟩] 9)) w1):w1.cell? ⟨w.heap.size,0,none⟩=some (.int .i64 0)∧w1.cell? ⟨w.heap.size+1,0,none⟩=some (.string ⟨#[]⟩)∧w1.frozen? ⟨w.heap.size,0,none⟩=false∧w1.frozen? ⟨w.heap.size+1,0,none⟩=false∧Below w.heap.size w w1:=by
 have hb:Below w.heap.size w ((w.alloc (.cells #[.int .i64 0] 2)).alloc (.cells #[.string ⟨#[]⟩] 9)):=((Below.refl _ _).alloc (Nat.le_refl _) _).alloc (by simp) _
 have h0:w1.heap[w.heap.size]? = some (.cells #[.int .i64 0] 2 (0,0)):=(b1.block _ (by simp;omega)).trans (Below.heap_allocC (heap_alloc_new w _))
 have h1:w1.heap[w.heap.size+1]? = some (.cells #[.string ⟨#[]⟩] 9 (0,0)):=(b1.block _ (by simp)).trans (new_atC (by simp) _)
 exact⟨cell_boxC h0,cell_boxC h1,frozen_boxC h0,frozen_boxC h1,hb.trans (b1.mono hb.size)⟩
theorem step_put {B:Nat} (x:CkX):AbidesB B (StepC x):=fun W l o o' h hl ho hc=>put_far ho hc h
theorem ckI_put {w0:World} {R L b B:Nat} {root key:List UInt8} {x:CkX} (hB:w0.heap.size≤B):AbidesB B (CkI w0 R L b root key x):=fun W l o o' h hl ho hc=>⟨CkS.put hB W l o o' h.1 hl ho hc,step_put x W l o o' h.2.1 hl ho hc,h.2.2⟩
theorem ckY_put {w0:World} {R L b B:Nat} {root key:List UInt8} {Q:Int × List UInt8} {x:CkX} (hB:w0.heap.size≤B):AbidesB B (CkY w0 R L b root key Q x):=fun W l o o' h hl ho hc=>⟨CkS.put hB W l o o' h.1 hl ho hc,⟨h.2.1.1,step_put x W l o o' h.2.1.2 hl ho hc⟩,h.2.2⟩
theorem ckY_later {w0:World} {R L b:Nat} {root key:List UInt8} {Q:Int × List UInt8} {x:CkX} {W W':World} (h:CkY w0 R L b root key Q x W) (hb:Below W.heap.size W W'):CkY w0 R L b root key Q x W':=⟨h.1.later hb,⟨h.2.1.1,(hb.block _ (Array.getElem?_eq_some_iff.1 h.2.1.2).1).trans h.2.1.2⟩,h.2.2⟩
theorem ckO_put {w0:World} {R B:Nat} {Q:Int × List UInt8} {c:Code} (hB:w0.heap.size≤B):AbidesB B (CkO w0 R Q c):=fun W l o o' h hl ho hc=>⟨h.1,raw_below hB W l o o' h.2.1 hl ho hc,raw_cell h.2.2.1 ho hc,raw_cell h.2.2.2 ho hc⟩
theorem ckZ_put {w0:World} {R L b B:Nat} {root key:List UInt8} {Q:Int × List UInt8} (hB:w0.heap.size≤B):AbidesB B (CkZ w0 R L b root key Q):=fun W l o o' h hl ho hc=>by
 obtain⟨hq,xs,hs⟩:=h
 exact⟨hq,xs,CkS.put hB W l o o' hs hl ho hc⟩
set_option maxRecDepth 100000 in
set_option maxHeartbeats 4000000 in
theorem ck_loop (root key:List UInt8) (bp:Option Addr) (cb:Nat) (ts:List (List UInt8)) (w:World) (hT:Tab w) (hcap:ts.length≤cb) (hr:root.length=32) (hk:key.length≤12) (htl:ts.length≤30) (htm:∀ l∈ts,l.length≤1048576) (hts:IsStrs w bp ts) (hne:¬ root=emptyL) (Q:Int × List UInt8) (hQ:chkP ts root (nibs key)=Q) :
 Calls Tryz.prog 45 #[.string ⟨root.toArray⟩,.string ⟨key.toArray⟩,.slice bp ts.length cb] w fun e w'=>e=.returned (.tuple #[.int .i64 Q.1,.string ⟨Q.2.toArray⟩])∧Below w.heap.size w w':=by
 have hzr:(ByteArray.mk root.toArray).size=root.length:=by simp[ByteArray.size]
 have hzk:(ByteArray.mk key.toArray).size=key.length:=by simp[ByteArray.size]
 have h1':((root.length:Int) != 32)=false:=by rw[bne_eq_false_iff_eq];omega
 have h1'':(root.length:Int)=32:=by omega
 have h2':(key.length:Int)≤12:=by omega
 have h3':(ts.length:Int)≤30:=by omega
 have h2b:decide ((12:Int)<(key.length:Int))=false:=decide_eq_false (by omega)
 have h3b:decide ((30:Int)<(ts.length:Int))=false:=decide_eq_false (by omega)
 have KE:=fun W hW=>callsIn_wide (n:=2).2 (impl_empty W hW)
 obtain⟨em,hem⟩:∃ em,em=emptyL:=⟨_,rfl⟩
 rw[←hem] at KE hne
 have heb:(root == em)=false:=by rw[beq_eq_false_iff_ne];exact hne
 have HT:Hid (Tab w):=hT
 have HTS:Hid (IsStrs w bp ts):=hts
 have hmf:∀ (fn:Fn) (first cap:Array Value) (w:World),(Instr.makeFunc fn first cap).run Tryz.prog w=.ok (.func fn first cap) w:=fun _ _ _ _=>rfl
 have HB0:Hid (Below w.heap.size w ((w.alloc (.cells #[.int .i64 0] 2)).alloc (.cells #[.string ⟨#[]⟩] 9))):=((Below.refl _ _).alloc (Nat.le_refl _) _).alloc (by simp) _
 have HR0:Hid (((w.alloc (.cells #[.int .i64 0] 2)).alloc (.cells #[.string ⟨#[]⟩] 9)).heap[w.heap.size]? = some (.cells #[.int .i64 0] 2 (0,0))):=(Below.heap_alloc _ _ _ (by simp)).trans (heap_alloc_new w _)
 have HR1:Hid (((w.alloc (.cells #[.int .i64 0] 2)).alloc (.cells #[.string ⟨#[]⟩] 9)).heap[w.heap.size+1]? = some (.cells #[.string ⟨#[]⟩] 9 (0,0))):=by
  have:=heap_alloc_new (w.alloc (.cells #[.int .i64 0] 2)) (.cells #[.string ⟨#[]⟩] 9)
  rw[Hid];simpa using this
 have K1:=KE _ (HT.out.later HB0.out)
 have HQQ:Hid (chkP ts root (nibs key)=Q):=hQ
 clear hT hts hem hne KE hQ
 refine callsIn_wide (n:=3).1 ?_
 refine callsIn_of_wp_marks Tryz.func45 rfl trivial ?_ rfl
 simp only[Tryz.ntmps45,List.size_toArray,List.length_cons,List.length_nil,Nat.reduceAdd,Nat.reduceSub,Array.replicate_succ,Array.replicate_zero,List.push_toArray,List.append_toArray,List.nil_append,List.cons_append]
 gi_wp2
 refine⟨trivial,K1.mono ?_⟩
 rintro e w1 ⟨rfl,b1⟩
 have hs1:w.heap.size+1<w1.heap.size:=by have:=b1.size;simp at this;omega
 have HB1:Hid (Below w.heap.size w w1):=HB0.out.trans (b1.mono HB0.out.size)
 have HR01:Hid (w1.heap[w.heap.size]? = some (.cells #[.int .i64 0] 2 (0,0))):=(b1.block _ (by simp;omega)).trans HR0.out
 have HR11:Hid (w1.heap[w.heap.size+1]? = some (.cells #[.string ⟨#[]⟩] 9 (0,0))):=(b1.block _ (by simp)).trans HR1.out
 have K2:=callsIn_wide (n:=2).2 (impl_wayOf root key w1.heap.size (w1.alloc (.cells #[.slice bp ts.length cb] 22)))
 clear K1 b1 HB0 HR0 HR1
 gi_wp2
 refine⟨trivial,K2.mono ?_⟩
 rintro e w2 ⟨rfl,b2,hs2,d0,d1,d2⟩
 have hsz:(w1.alloc (.cells #[.slice bp ts.length cb] 22)).heap.size=w1.heap.size+1:=by simp
 rw[hsz] at hs2 d0 d1 d2
 have HJ:Hid (CkS w w.heap.size w1.heap.size (w1.heap.size+1) root key ts w2):=by
  have BB:Below w1.heap.size w1 (w1.alloc (.cells #[.slice bp ts.length cb] 22)):=(Below.refl _ _).alloc (Nat.le_refl _) _
  have b2':=BB.trans (b2.mono BB.size)
  exact⟨HB1.out.trans (b2'.mono HB1.out.size),⟨Nat.le_refl _,by omega,by omega,by omega⟩,(b2'.block _ (by omega)).trans HR01.out,(b2'.block _ (by omega)).trans HR11.out,⟨bp,cb,(b2.block _ (by simp)).trans (heap_alloc_new w1 _),hcap,HTS.out⟩,d0,d1,d2⟩
 clear K2 b2 hs2 d0 d1 d2 HR01 HR11
 gi_wp2
 have hw2:w.heap.size≤w2.heap.size:=HJ.out.below.size
 refine wpIn_rangeFunc_raw (α:=CkX) rfl (by omega) (gf:=98) (lb:=#[.pointer (some ⟨w1.heap.size+1,0,none⟩),.pointer (some ⟨w1.heap.size+1+1,0,none⟩),.pointer (some ⟨w1.heap.size+1+2,0,none⟩)]) rfl trivial (enters_of Tryz.func98 (by kernel_rfl) rfl) (encs:=ckE) (fun _=>rfl)
  (CkY w w.heap.size w1.heap.size (w1.heap.size+1) root key Q) (CkI w w.heap.size w1.heap.size (w1.heap.size+1) root key) (CkO w w.heap.size Q) (CkS w w.heap.size w1.heap.size (w1.heap.size+1) root key ts) (CkZ w w.heap.size w1.heap.size (w1.heap.size+1) root key Q)
  (fun x=>ckI_put hw2) (fun c=>ckO_put hw2) (ckZ_put hw2)
  (fun o o'=>HJ.out.later (((Below.refl _ _).alloc (Nat.le_refl _) _).alloc (by simp) _))
  (fun l BK BX W hBK hBX hY hJ hB=>ck_iter w w.heap.size w1.heap.size (w1.heap.size+1) root key ts Q HT.out (by have:=HT.out.1;omega) (by omega) hk htm htl HQQ.out l BK BX W hBK hBX hY hJ hB)
  (fun x a₁ W=>CkY w w.heap.size w1.heap.size (w1.heap.size+1) root key Q x W∧∃ B,W.heap[B]? = some (.cells #[.string ⟨x.nx.toArray⟩,.string ⟨x.pa.toArray⟩,.int .i64 x.c,.string ⟨x.v.toArray⟩] 127 (0,0))∧a₁ = { tmps:=#[.string ⟨root.toArray⟩,.string ⟨key.toArray⟩,.slice bp ts.length cb,undef,undef,undef,.pointer (some ⟨w.heap.size,0,none⟩),.pointer (some ⟨w.heap.size+1,0,none⟩),.pointer (some ⟨w1.heap.size,0,none⟩),.func (.func 68) #[] #[.pointer (some ⟨w1.heap.size,0,none⟩)],undef,.pointer (some ⟨B,0,none⟩),.string ⟨root.toArray⟩,.int .i64 32,.bool false,.bool false,.string ⟨key.toArray⟩,.int .i64 (key.length:Int),.bool false,.bool false,.bool false,.slice bp ts.length cb,.int .i64 (ts.length:Int),.bool false,.bool false,.string ⟨root.toArray⟩,.string ⟨em.toArray⟩,.bool false,undef,undef,undef,.slice bp ts.length cb,.func (.func 68) #[] #[.pointer (some ⟨w1.heap.size,0,none⟩)],.string ⟨root.toArray⟩,.string ⟨key.toArray⟩,.func (.func 68) #[] #[.pointer (some ⟨w1.heap.size,0,none⟩)],.func (.func 98) #[] #[.pointer (some ⟨w1.heap.size+1,0,none⟩),.pointer (some ⟨w1.heap.size+1+1,0,none⟩),.pointer (some ⟨w1.heap.size+1+2,0,none⟩)],x.hv,.agg #[.string ⟨x.nx.toArray⟩,.string ⟨x.pa.toArray⟩,.int .i64 x.c,.string ⟨x.v.toArray⟩],undef,undef,undef,undef,undef,undef,undef,undef,undef,undef,undef,undef],defers:=[] })
  (fun x a₁ W l o o' h hl ho hc => by
   obtain⟨hy,B,hr,ha⟩:=h
   exact⟨ckY_put hw2 W l o o' hy hl ho hc,B,put_far ho hc hr,ha⟩) ?assign ?body ?done ?stop
 case assign =>
  rintro l ⟨hv,nx,pa,c,v,xs,sb⟩ W K hy hK
  dsimp only[ckE]
  gi_wp2
  exact hK _ _ (KeepsOthers.alloc W _) ⟨ckY_later hy ((Below.refl _ _).alloc (Nat.le_refl _) _),W.heap.size,heap_alloc_new W _,rfl⟩
 case body =>
  rintro l ⟨hv,nx,pa,c,v,xs,sb⟩ a₁ W ⟨hy,B,hrow,rfl⟩
  obtain⟨hs,hst,hq⟩:=hy
  dsimp only at hs hst hq hrow
  obtain⟨n0,n1,n2,n3⟩:=four_rowC hrow
  obtain⟨ao,cl,l1,l2,l3⟩:=hs.left
  have hcl:=cell_boxC l1
  have f0:=cell_boxC hs.r0
  have f1:=cell_boxC hs.r1
  have z0:=frozen_boxC hs.r0
  have z1:=frozen_boxC hs.r1
  have hord:=hs.ord
  have HS:Hid (CkS w w.heap.size w1.heap.size (w1.heap.size+1) root key xs W):=hs
  have HST:Hid (w1.heap.size+1+2<sb∧StepC ⟨hv,nx,pa,c,v,xs,sb⟩ W):=hst
  have HQ1:Hid (nx=[]→xs=[]→Q=if c=1 then (2,v) else (1,[])):=hq
  clear hs hst hq hrow l1 l2 l3
  dsimp only
  by_cases hn:nx=[]
  · subst hn
    cases xs with
    | nil =>
      have hqq:=HQ1.out rfl rfl
      have KS:=callsIn_wide (n:=0).2 (impl_shownBy [] pa c v W)
      obtain⟨s1,hs1⟩:∃ s1:Int,s1=if c=1 then 2 else 1:=⟨_,rfl⟩
      obtain⟨s2,hs2⟩:∃ s2:List UInt8,s2=if c=1 then v else []:=⟨_,rfl⟩
      rw[←hs1,←hs2] at KS
      have HQ2:Hid (Q.1=s1∧Q.2=s2):=by
       rw[Hid,hqq,hs1,hs2]
       by_cases hc:c=1
       · simp[hc]
       · simp[hc]
      clear HQ1 hqq hs1 hs2
      gi_wp2
      refine⟨trivial,(CallsIn.inRound l KS).mono ?_⟩
      rintro e w3 ⟨rfl,b3⟩
      have HS3:Hid (CkS w w.heap.size w1.heap.size (w1.heap.size+1) root key [] w3):=HS.out.later b3
      have g0:=cell_boxC HS3.out.r0
      have g1:=cell_boxC HS3.out.r1
      have y0:=frozen_boxC HS3.out.r0
      have y1:=frozen_boxC HS3.out.r1
      have HKO:Hid (KeepsOthers W w3):=keepsC b3
      clear f0 f1 z0 z1 KS b3 HS HST hcl n0 n1 n2 n3
      gi_wp2
      have two:=two_setC w3 w.heap.size (.int .i64 s1) (.string ⟨s2.toArray⟩) g0 g1
      refine⟨HKO.out.trans ((KeepsOthers.setCell _ _ _).trans (KeepsOthers.setCell _ _ _)),rfl,(HS3.out.below.setCell (Nat.le_refl _) _).setCell (by simp) _,?_,?_⟩
      · rw[HQ2.out.1];exact two.1
      · rw[HQ2.out.2];exact two.2
    | cons t r =>
      have hlen:((r.length:Int)+1 == 0)=false:=by rw[beq_eq_false_iff_ne];omega
      clear HQ1
      gi_wp2
      exact⟨KeepsOthers.refl _,HS.out,HST.out.2,fun h=>by cases h.2⟩
  · have hne:nx.isEmpty=false:=by cases nx with | nil=>exact absurd rfl hn | cons _ _=>rfl
    have hnb:(nx == [])=false:=by rw[beq_eq_false_iff_ne];exact hn
    have HN:Hid (¬ nx=[]):=hn
    clear HQ1 hn
    gi_wp2
    exact⟨KeepsOthers.refl _,HS.out,HST.out.2,fun h=>HN.out h.1⟩
 case done =>
  rintro D W hD ⟨hq,xs,hs⟩ hK
  subst hq
  have f0:=cell_boxC hs.r0
  have f1:=cell_boxC hs.r1
  have z0:=frozen_boxC hs.r0
  have z1:=frozen_boxC hs.r1
  have HS:Hid (CkS w w.heap.size w1.heap.size (w1.heap.size+1) root key xs W):=hs
  have HK:Hid (W.heap[D]? = some (.deferred (some []))):=hK
  clear hs hK
  gi_wp2
  have two:=two_setC W w.heap.size (.int .i64 0) (.string ⟨#[]⟩) f0 f1
  have hK':=((KeepsOthers.setCell W ⟨w.heap.size,0,none⟩ (.int .i64 0)).trans (KeepsOthers.setCell _ ⟨w.heap.size+1,0,none⟩ (.string ⟨#[]⟩))).same D _ HK.out rfl
  refine⟨by simp,.inl ⟨_,_,rfl,run_takeDeferred hK',?_⟩⟩
  have e0:=raw_cell (o':=.deferred none) two.1 hK' rfl
  have e1:=raw_cell (o':=.deferred none) two.2 hK' rfl
  refine⟨.tuple #[.int .i64 0,.string ⟨#[]⟩],?_,rfl,raw_below hw2 _ _ _ _ ((HS.out.below.setCell (Nat.le_refl _) _).setCell (by simp) _) hD hK' rfl⟩
  simp[results,Tryz.f45,go_sem,e0,e1]
 case stop =>
  rintro D c W hD ⟨rfl,hb,hc0,hc1⟩ hK
  gi_wp2
  refine⟨by simp,.inl ⟨_,_,rfl,run_takeDeferred hK,?_⟩⟩
  have e0:=raw_cell (o':=.deferred none) hc0 hK rfl
  have e1:=raw_cell (o':=.deferred none) hc1 hK rfl
  refine⟨.tuple #[.int .i64 Q.1,.string ⟨Q.2.toArray⟩],?_,rfl,raw_below hw2 _ _ _ _ hb hD hK rfl⟩
  simp[results,Tryz.f45,go_sem,e0,e1]
set_option maxRecDepth 100000 in
set_option maxHeartbeats 1000000 in
theorem impl_checkProof (root key:List UInt8) (bp:Option Addr) (cb:Nat) (ts:List (List UInt8)) (w:World) (hT:Tab w) (hcap:ts.length≤cb) (hr:root.length≤1048576) (hk:key.length≤1048576) (htl:ts.length≤1048576) (htm:∀ l∈ts,l.length≤1048576) (hts:IsStrs w bp ts) :
 Calls Tryz.prog 45 #[.string ⟨root.toArray⟩,.string ⟨key.toArray⟩,.slice bp ts.length cb] w fun e w'=>e=.returned (.tuple #[.int .i64 (chkR root key ts).1,.string ⟨(chkR root key ts).2.toArray⟩])∧Below w.heap.size w w':=by
 by_cases hok:chkOk root key ts=true
 · have hparts:=hok
   simp only[chkOk,Bool.and_eq_true,decide_eq_true_eq] at hparts
   obtain⟨h1,h2,h3⟩:=hparts
   by_cases he:root=emptyL
   · subst he
     rw[chkR_empty key ts hok]
     have hzr:(ByteArray.mk emptyL.toArray).size=emptyL.length:=by simp[ByteArray.size]
     have hzk:(ByteArray.mk key.toArray).size=key.length:=by simp[ByteArray.size]
     have K1:=impl_empty ((w.alloc (.cells #[.int .i64 0] 2)).alloc (.cells #[.string ⟨#[]⟩] 9)) (hT.later (((Below.refl _ _).alloc (Nat.le_refl _) _).alloc (by simp) _))
     obtain⟨em,hem⟩:∃ em,em=emptyL:=⟨_,rfl⟩
     rw[←hem] at K1 hzr h1 ⊢
     have h1'':(em.length:Int)=32:=by omega
     have h2':(key.length:Int)≤12:=by omega
     have h3':(ts.length:Int)≤30:=by omega
     have h1':((em.length:Int) != 32)=false:=by rw[bne_eq_false_iff_eq];omega
     have h2b:decide ((12:Int)<(key.length:Int))=false:=decide_eq_false (by omega)
     have h3b:decide ((30:Int)<(ts.length:Int))=false:=decide_eq_false (by omega)
     clear hT hts hem htm hok h1 h2 h3
     by_cases hte:ts=[]
     · subst hte
       rw[if_pos rfl]
       go_enter Tryz.func45,Tryz.ntmps45
       go_wp2_with fail
       refine K1.mono ?_
       rintro e w1 ⟨rfl,b1⟩
       have HB:=ck_two b1
       obtain⟨f0,f1,z0,z1,bb⟩:=HB
       clear K1
       go_wp2
       have two:=two_setC w1 w.heap.size (.int .i64 1) (.string ⟨#[]⟩) f0 f1
       exact bodyPost_ret (v:=.tuple #[.int .i64 1,.string ⟨#[]⟩]) (by simp[results,Tryz.f45,go_sem,two.1,two.2]) rfl ⟨rfl,(bb.setCell (Nat.le_refl _) _).setCell (by simp) _⟩
     · rw[if_neg hte]
       have hp0:0<ts.length:=List.length_pos_iff.2 hte
       have hpos:(0:Int)<(ts.length:Int):=by omega
       clear hte hp0
       go_enter Tryz.func45,Tryz.ntmps45
       go_wp2_with fail
       refine K1.mono ?_
       rintro e w1 ⟨rfl,b1⟩
       have HB:=ck_two b1
       obtain⟨f0,f1,z0,z1,bb⟩:=HB
       clear K1
       go_wp2
       have two:=two_setC w1 w.heap.size (.int .i64 0) (.string ⟨#[]⟩) f0 f1
       exact bodyPost_ret (v:=.tuple #[.int .i64 0,.string ⟨#[]⟩]) (by simp[results,Tryz.f45,go_sem,two.1,two.2]) rfl ⟨rfl,(bb.setCell (Nat.le_refl _) _).setCell (by simp) _⟩
   · rw[chkR_way root key ts hok he]
     exact ck_loop root key bp cb ts w hT hcap h1 h2 h3 htm hts he _ rfl
 · have hok':chkOk root key ts=false:=by simpa using hok
   rw[chkR_no root key ts hok']
   have hzr:(ByteArray.mk root.toArray).size=root.length:=by simp[ByteArray.size]
   have hzk:(ByteArray.mk key.toArray).size=key.length:=by simp[ByteArray.size]
   have hor:¬ root.length=32∨(root.length=32∧12<key.length)∨(root.length=32∧key.length≤12∧30<ts.length):=by
    simp only[chkOk,Bool.and_eq_true,decide_eq_true_eq] at hok
    omega
   clear hT hts htm hok hok'
   rcases hor with h1 | ⟨h1,h2⟩ | ⟨h1,h2,h3⟩
   · have h1':((root.length:Int) != 32)=true:=by rw[bne_iff_ne];omega
     have h1'':¬ (root.length:Int)=32:=by omega
     clear h1
     go_enter Tryz.func45,Tryz.ntmps45
     go_wp2
     obtain⟨f0,f1,_,_,bb⟩:=ck_two (w:=w) (Below.refl _ _)
     exact bodyPost_ret (v:=.tuple #[.int .i64 0,.string ⟨#[]⟩]) (by simp[results,Tryz.f45,go_sem]) rfl ⟨rfl,bb⟩
   · have h1':((root.length:Int) != 32)=false:=by rw[bne_eq_false_iff_eq];omega
     have h1'':(root.length:Int)=32:=by omega
     have h2':¬ (key.length:Int)≤12:=by omega
     have h2b:decide ((12:Int)<(key.length:Int))=true:=decide_eq_true (by omega)
     clear h1 h2
     go_enter Tryz.func45,Tryz.ntmps45
     go_wp2
     obtain⟨f0,f1,_,_,bb⟩:=ck_two (w:=w) (Below.refl _ _)
     exact bodyPost_ret (v:=.tuple #[.int .i64 0,.string ⟨#[]⟩]) (by simp[results,Tryz.f45,go_sem]) rfl ⟨rfl,bb⟩
   · have h1':((root.length:Int) != 32)=false:=by rw[bne_eq_false_iff_eq];omega
     have h1'':(root.length:Int)=32:=by omega
     have h2':(key.length:Int)≤12:=by omega
     have h2b:decide ((12:Int)<(key.length:Int))=false:=decide_eq_false (by omega)
     have h3':¬ (ts.length:Int)≤30:=by omega
     have h3b:decide ((30:Int)<(ts.length:Int))=true:=decide_eq_true (by omega)
     clear h1 h2 h3
     go_enter Tryz.func45,Tryz.ntmps45
     go_wp2
     obtain⟨f0,f1,_,_,bb⟩:=ck_two (w:=w) (Below.refl _ _)
     exact bodyPost_ret (v:=.tuple #[.int .i64 0,.string ⟨#[]⟩]) (by simp[results,Tryz.f45,go_sem]) rfl ⟨rfl,bb⟩
end Go.Proofs.YtllmclmcncolcaaGreatDoor
