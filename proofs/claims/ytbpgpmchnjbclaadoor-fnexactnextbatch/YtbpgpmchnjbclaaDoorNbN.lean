/-
 Contract: NextBatch of the program (written by mknbn.py).
-/
import Derived.Test.YtbpgpmchnjbclaaDoorNbB
namespace Go.Proofs.YtbpgpmchnjbclaaDoor
open Go.RowKit
set_option linter.unusedVariables false
abbrev NbL:=List (List UInt8) × Int × Int × Int × Int × List OpL × Bool
def nbR (ks:List (List UInt8)) (sn nx id:Int) (os:List OpL):NbL :=
 if nbCode ks sn nx id os=0 then (ks,sn,nx+1,id,nx,os,true) else if nbCode ks sn nx id os=1 then ([],0,0,0,0,[],false) else (ks,sn,nx,0,0,[],false)
def NnPost (w w':World) (e:Ending) (r:NbL):Prop :=
 ∃ (x:Option Addr) (c:Nat) (y:Option Addr) (d:Nat),e=.returned (.tuple #[.agg #[.slice x r.1.length c,.int .i64 r.2.1,.int .i64 r.2.2.1],.agg #[.int .i64 r.2.2.2.1,.int .i64 r.2.2.2.2.1,.slice y r.2.2.2.2.2.1.length d],.bool r.2.2.2.2.2.2])∧w'.ownsRow w.heap.size 9 1 (.slice x r.1.length c) r.1.length (scells r.1)∧w'.ownsRow w.heap.size 55 3 (.slice y r.2.2.2.2.2.1.length d) r.2.2.2.2.2.1.length (ocells r.2.2.2.2.2.1)∧(∀ q,(Value.slice x r.1.length c).ownBlock=some q→(Value.slice y r.2.2.2.2.2.1.length d).ownBlock≠some q)∧Below w.heap.size w w'
theorem results_ccbN {P:Program} {fn:Func} {p q r:Tmp} {ty tz:TypeId} (h:fn.results=#[.cell p ty,.cell q tz,.tmp r]) (tmps:Array Value) (w:World) (g k:Nat) (t t':TypeId) (cs ds:Array Value) (d d':TypeDesc)
 (hp:tmps.getD p undef=.pointer (some ⟨g,0,none⟩)) (hg:w.heap[g]? = some (.cells cs t (0,0))) (hu:P.underlying ty=some d) (hd:(match d with | .struct _ | .array _ _=>true | _=>false)=true) (hi:(P.info? ty).map (·.size)=some cs.size)
 (hq:tmps.getD q undef=.pointer (some ⟨k,0,none⟩)) (hk:w.heap[k]? = some (.cells ds t' (0,0))) (hu':P.underlying tz=some d') (hd':(match d' with | .struct _ | .array _ _=>true | _=>false)=true) (hi':(P.info? tz).map (·.size)=some ds.size) (vb:Value) (hb:tmps.getD r undef=vb) :
 (results fn tmps).run P w=.ok (.tuple #[.agg cs,.agg ds,vb]) w:=by
 subst hb
 have hp':tmps[p]?.getD undef=.pointer (some ⟨g,0,none⟩):=by simpa using hp
 have hq':tmps[q]?.getD undef=.pointer (some ⟨k,0,none⟩):=by simpa using hq
 simp[results,h,hp',hq',asAddr,run_loadVar_row w g t ty cs (0,0) d hg hu hd hi,run_loadVar_row w k t' tz ds (0,0) d' hk hu' hd' hi']
theorem set3N {W:World} {b q0:Nat} {u v x:Value} (h:q0≠b):(((W.setCell ⟨b,0,none⟩ u).setCell ⟨b,1,none⟩ v).setCell ⟨b,2,none⟩ x).heap[q0]? = W.heap[q0]? := by
 rw[Below.heap_setCell _ _ _ _ h,Below.heap_setCell _ _ _ _ h,Below.heap_setCell _ _ _ _ h]
theorem keptN1 {w w':World} {b e n:Nat} {v:Value} {xs:List Value} (h:w.ownsRow b e 1 v n xs) (hb:Below w.heap.size w w'):w'.ownsRow b e 1 v n xs :=
 h.kept (row:=none) ⟨hb.os,hb.tape,hb.output,hb.size,fun k hk _=>hb.block k hk⟩ (by cases v.ownBlock with | none=>exact .inl rfl | some q=>exact .inr (by simp))
theorem keptN3 {w w':World} {b e n:Nat} {v:Value} {xs:List Value} (h:w.ownsRow b e 3 v n xs) (hb:Below w.heap.size w w'):w'.ownsRow b e 3 v n xs :=
 h.kept (row:=none) ⟨hb.os,hb.tape,hb.output,hb.size,fun k hk _=>hb.block k hk⟩ (by cases v.ownBlock with | none=>exact .inl rfl | some q=>exact .inr (by simp))
set_option maxRecDepth 100000 in
set_option maxHeartbeats 8000000 in
theorem impl_nextBatch (a:Option Addr) (cap:Nat) (ks:List (List UInt8)) (sn nx id:Int) (b:Option Addr) (cb:Nat) (os:List OpL) (w:World) (e0 e1 e2:Addr) (hE:Errs w e0 e1 e2) (hl:ks.length≤1048576) (hm:∀ l∈ks,l.length≤1048576) (hca:a=none→cap=0) (haa:a=none∨∃ g off,a=some ⟨g,off,none⟩) (hs:IsStrs w a ks) (hl2:os.length≤1048576) (hm2:∀ p∈os,p.1.length≤1048576∧p.2.1.length≤1048576) (hcb:b=none→cb=0) (hbb:b=none∨∃ g off,b=some ⟨g,off,none⟩) (hs2:IsOps w b os) :
 Calls Tryd.prog 10 #[.agg #[.slice a ks.length cap,.int .i64 sn,.int .i64 nx],.int .i64 id,.slice b os.length cb] w fun e w'=>NnPost w w' e (nbR ks sn nx id os):=by
 obtain⟨wa,hwa⟩:∃ wa,wa=(((w.alloc (.cells #[.slice a ks.length cap,.int .i64 sn,.int .i64 nx] 28)).alloc (.cells #[.slice none 0 0,.int .i64 0,.int .i64 0] 28)).alloc (.cells #[.int .i64 0,.int .i64 0,.slice none 0 0] 31)):=⟨_,rfl⟩
 have B0:Below w.heap.size w wa:=by rw[hwa];exact (((Below.refl _ _).alloc (Nat.le_refl _) _).alloc (by simp) _).alloc (by simp <;> omega) _
 have H0:Hid (wa.heap[w.heap.size]? = some (.cells #[.slice a ks.length cap,.int .i64 sn,.int .i64 nx] 28 (0,0))):=by rw[hwa,Hid,Below.heap_alloc _ _ _ (by simp <;> omega),Below.heap_alloc _ _ _ (by simp)];exact heap_alloc_new w _
 have R60:Hid (wa.heap[w.heap.size+1]? = some (.cells #[.slice none 0 0,.int .i64 0,.int .i64 0] 28 (0,0))):=by
  rw[hwa,Hid,Below.heap_alloc _ _ _ (by simp)]
  have:=heap_alloc_new (w.alloc (.cells #[.slice a ks.length cap,.int .i64 sn,.int .i64 nx] 28)) (.cells #[.slice none 0 0,.int .i64 0,.int .i64 0] 28)
  simpa using this
 have R70:Hid (wa.heap[w.heap.size+1+1]? = some (.cells #[.int .i64 0,.int .i64 0,.slice none 0 0] 31 (0,0))):=by
  rw[hwa,Hid]
  have:=heap_alloc_new ((w.alloc (.cells #[.slice a ks.length cap,.int .i64 sn,.int .i64 nx] 28)).alloc (.cells #[.slice none 0 0,.int .i64 0,.int .i64 0] 28)) (.cells #[.int .i64 0,.int .i64 0,.slice none 0 0] 31)
  simpa using this
 obtain⟨p0,p1,p2,_⟩:=bat_cells H0.out
 have K1:=impl_batchBy a cap ks sn nx id b cb os wa e0 e1 e2 (hE.later B0) hl hm (strs_later hs B0) hl2 hm2 hcb hbb (hs2.later B0)
 have HE:Hid (Errs w e0 e1 e2):=hE
 have HS:Hid (∀ W,Below w.heap.size w W→IsStrs W a ks):=fun W hW=>strs_later hs hW
 have HKN:Hid (∀ W,Errs W e0 e1 e2→IsStrs W a ks→_):=fun W h h2=>impl_behind_nil a cap ks sn nx W e0 e1 e2 h hl hca haa h2
 have HKB:Hid (∀ W,Errs W e0 e1 e2→IsStrs W a ks→_):=fun W h h2=>impl_behind_batch a cap ks sn nx W e0 e1 e2 h hl hca haa h2
 have HKL:Hid (∀ W,Errs W e0 e1 e2→IsStrs W a ks→_):=fun W h h2=>impl_behind_last a cap ks sn nx W e0 e1 e2 h hl hca haa h2
 have HKC:Hid (∀ W,Errs W e0 e1 e2→_):=fun W h=>impl_behind_client a cap ks sn nx W e0 e1 e2 h
 have HR0:Hid (nbR ks sn nx id os=if nbCode ks sn nx id os=0 then (ks,sn,nx+1,id,nx,os,true) else if nbCode ks sn nx id os=1 then ([],0,0,0,0,[],false) else (ks,sn,nx,0,0,[],false)):=rfl
 have HNX : Hid (nbCode ks sn nx id os = 0 → 1 ≤ nx ∧ nx + 1 ≤ 1000000000000) := fun h => by
  unfold nbCode at h
  cases hc:clientOk ks sn nx with
  | false=>rw[hc] at h;simp at h
  | true =>
    rw[hc] at h
    simp only[clientOk,numIn,Bool.and_eq_true,decide_eq_true_eq] at hc
    by_cases hn:nx=1000000000000
    · rw[if_neg (by simp)] at h
      split at h
      all_goals first | cases h | (rw[if_pos hn] at h;cases h)
    · omega
 obtain⟨rr,hrr⟩:∃ x,x=nbR ks sn nx id os:=⟨_,rfl⟩
 rw[←hrr] at HR0 ⊢
 obtain⟨kk,hkk⟩:∃ x,x=nbCode ks sn nx id os:=⟨_,rfl⟩
 rw[←hkk] at HR0 K1 HNX
 unfold NbPost at K1
 clear hrr hkk hs hm hs2 hm2 hE hcb hbb hl hl2 hca haa
 rw[hwa] at K1 p0 p1 p2
 go_enter Tryd.func10,Tryd.ntmps10
 go_wp2_with fail
 refine K1.mono ?_
 rw[←hwa]
 intro e w1 hres
 have hb1:Below wa.heap.size wa w1:=by
  rcases hres with ⟨_,_,_,_,_,h⟩ | ⟨_,_,_,h⟩
  · exact h
  · exact h
 have B1:Hid (Below w.heap.size w w1):=B0.trans (hb1.mono B0.size)
 have H1:Hid (w1.heap[w.heap.size]? = some (.cells #[.slice a ks.length cap,.int .i64 sn,.int .i64 nx] 28 (0,0))):=(hb1.block _ (lt_of_block H0.out)).trans H0.out
 have R6:Hid (w1.heap[w.heap.size+1]? = some (.cells #[.slice none 0 0,.int .i64 0,.int .i64 0] 28 (0,0))):=(hb1.block _ (lt_of_block R60.out)).trans R60.out
 have R7:Hid (w1.heap[w.heap.size+1+1]? = some (.cells #[.int .i64 0,.int .i64 0,.slice none 0 0] 31 (0,0))):=(hb1.block _ (lt_of_block R70.out)).trans R70.out
 have HZ:Hid (wa.heap.size=w.heap.size+1+1+1):=by rw[hwa,Hid];simp
 clear p0 p1 p2 K1 H0 R60 R70 B0 hwa hb1
 rcases hres with ⟨y,d,hk,rfl,o1,_⟩ | ⟨er,her,rfl,_⟩
 · dsimp only
   have HR:Hid (rr=(ks,sn,nx+1,id,nx,os,true)):=by rw[Hid,HR0.out,if_pos hk]
   have hnx:=HNX.out hk
   have hwr:IntKind.i64.wrap (nx+1)=nx+1:=i64_wrap_small (nx+1) (by have:=hnx.1;omega) (by have:=hnx.2;omega)
   have O1:Hid (w1.ownsRow (w.heap.size+1+1+1) 55 3 (.slice y os.length d) os.length (ocells os)):=o1.mono (by rw[HZ.out];omega)
   have X2:Below w1.heap.size w1 (w1.alloc (.cells #[.int .i64 id,.int .i64 nx,.slice y os.length d] 31)):=(Below.refl _ _).alloc (Nat.le_refl _) _
   have KB2:=HKN.out (w1.alloc (.cells #[.int .i64 id,.int .i64 nx,.slice y os.length d] 31)) (HE.out.later (B1.out.trans (X2.mono B1.out.size))) (HS.out _ (B1.out.trans (X2.mono B1.out.size)))
   have H2:Hid ((w1.alloc (.cells #[.int .i64 id,.int .i64 nx,.slice y os.length d] 31)).heap[w.heap.size]? = some (.cells #[.slice a ks.length cap,.int .i64 sn,.int .i64 nx] 28 (0,0))):=(X2.block _ (lt_of_block H1.out)).trans H1.out
   have HX2:Hid (Below w1.heap.size w1 (w1.alloc (.cells #[.int .i64 id,.int .i64 nx,.slice y os.length d] 31))):=X2
   have T2:Hid ((w1.alloc (.cells #[.int .i64 id,.int .i64 nx,.slice y os.length d] 31)).heap[w1.heap.size]? = some (.cells #[.int .i64 id,.int .i64 nx,.slice y os.length d] 31 (0,0))):=heap_alloc_new w1 _
   obtain⟨p0,p1,p2,_⟩:=bat_cells H2.out
   clear X2 HKB HKL HKC hk HNX HR0
   go_wp2_with fail
   refine KB2.mono ?_
   rintro e w3 ⟨x,c,rfl,o3,b3⟩
   dsimp only
   have B13:Hid (Below w1.heap.size w1 w3):=HX2.out.trans (b3.mono HX2.out.size)
   have T3:Hid (w3.heap[w1.heap.size]? = some (.cells #[.int .i64 id,.int .i64 nx,.slice y os.length d] 31 (0,0))):=(b3.block _ (lt_of_block T2.out)).trans T2.out
   have HL13:Hid (w1.heap.size<w3.heap.size):=lt_of_block T3.out
   have B34:Below w3.heap.size w3 (w3.alloc (.cells #[.slice x ks.length c,.int .i64 sn,.int .i64 nx] 28)):=(Below.refl _ _).alloc (Nat.le_refl _) _
   obtain⟨w5,hw5⟩:∃ W,W=(w3.alloc (.cells #[.slice x ks.length c,.int .i64 sn,.int .i64 (nx+1)] 28)):=⟨_,rfl⟩
   have X35:Below w3.heap.size w3 w5:=by rw[hw5];exact (Below.refl _ _).alloc (Nat.le_refl _) _
   have BW5:Hid (Below w.heap.size w w5):=B1.out.trans ((B13.out.trans (X35.mono B13.out.size)).mono B1.out.size)
   have Q6:Hid (w5.heap[w.heap.size+1]? = some (.cells #[.slice none 0 0,.int .i64 0,.int .i64 0] 28 (0,0))):=((B13.out.trans (X35.mono B13.out.size)).block _ (lt_of_block R6.out)).trans R6.out
   have Q7:Hid (w5.heap[w.heap.size+1+1]? = some (.cells #[.int .i64 0,.int .i64 0,.slice none 0 0] 31 (0,0))):=((B13.out.trans (X35.mono B13.out.size)).block _ (lt_of_block R7.out)).trans R7.out
   have T5:Hid (w5.heap[w1.heap.size]? = some (.cells #[.int .i64 id,.int .i64 nx,.slice y os.length d] 31 (0,0))):=(X35.block _ (lt_of_block T3.out)).trans T3.out
   have C5:Hid (w5.heap[w3.heap.size]? = some (.cells #[.slice x ks.length c,.int .i64 sn,.int .i64 (nx+1)] 28 (0,0))):=by rw[hw5];exact heap_alloc_new w3 _
   have O5x:Hid (w5.ownsRow (w1.heap.size+1) 9 1 (.slice x ks.length c) ks.length (scells ks)):=by
    rw[hw5,Hid]
    exact (o3.mono (by simp)).alloc _
   have O5y:Hid (w5.ownsRow (w.heap.size+1+1+1) 55 3 (.slice y os.length d) os.length (ocells os)):=keptN3 O1.out (B13.out.trans (X35.mono B13.out.size))
   have HAP:Hid (∀ q,(Value.slice x ks.length c).ownBlock=some q→(Value.slice y os.length d).ownBlock≠some q):=fun q h1 h2=>by
    have g1:=(o3.lt q h1).1
    have g2:=(O1.out.lt q h2).2
    simp at g1
    omega
   obtain⟨v0,v1,v2,vf⟩:=bat_cells (heap_alloc_new w3 (.cells #[.slice x ks.length c,.int .i64 sn,.int .i64 nx] 28))
   have vf2:=vf 2
   obtain⟨w6,hw6⟩:∃ W,W=((((((w5.setCell ⟨w.heap.size+1,0,none⟩ (.slice x ks.length c)).setCell ⟨w.heap.size+1,1,none⟩ (.int .i64 sn)).setCell ⟨w.heap.size+1,2,none⟩ (.int .i64 (nx+1))).setCell ⟨w.heap.size+1+1,0,none⟩ (.int .i64 id)).setCell ⟨w.heap.size+1+1,1,none⟩ (.int .i64 nx)).setCell ⟨w.heap.size+1+1,2,none⟩ (.slice y os.length d)):=⟨_,rfl⟩
   have HS7:Hid (w.heap.size+1+1<w1.heap.size):=lt_of_block R7.out
   have F6:w6.heap[w.heap.size+1]? = some (.cells #[.slice x ks.length c,.int .i64 sn,.int .i64 (nx+1)] 28 (0,0)):=by
    rw[hw6,set3N (by omega)]
    exact bat_set (j:=2) (bat_set (j:=1) (bat_set (j:=0) Q6.out))
   have F7:w6.heap[w.heap.size+1+1]? = some (.cells #[.int .i64 id,.int .i64 nx,.slice y os.length d] 31 (0,0)):=by
    rw[hw6]
    exact bat_set (j:=2) (bat_set (j:=1) (bat_set (j:=0) ((set3N (by omega)).trans Q7.out)))
   have FB:Below w.heap.size w w6:=by
    rw[hw6]
    exact (((((BW5.out.setCell (by simp) _).setCell (by simp) _).setCell (by simp) _).setCell (by simp only;omega) _).setCell (by simp only;omega) _).setCell (by simp only;omega) _
   have FX:w6.ownsRow w.heap.size 9 1 (.slice x ks.length c) ks.length (scells ks):=by
    have h7:=HS7.out
    rw[hw6]
    exact (own_setN (own_setN (own_setN (own_setN (own_setN (own_setN O5x.out _ (by simp only;omega) _) _ (by simp only;omega) _) _ (by simp only;omega) _) _ (by simp only;omega) _) _ (by simp only;omega) _) _ (by simp only;omega) _).mono (by omega)
   have FY:w6.ownsRow w.heap.size 55 3 (.slice y os.length d) os.length (ocells os):=by
    rw[hw6]
    exact (own_setN (own_setN (own_setN (own_setN (own_setN (own_setN O5y.out _ (by simp only;omega) _) _ (by simp only;omega) _) _ (by simp only;omega) _) _ (by simp only;omega) _) _ (by simp only;omega) _) _ (by simp only;omega) _).mono (by omega)
   have HFC:Hid (w6.drew.heap[w.heap.size+1]? = some (.cells #[.slice x ks.length c,.int .i64 sn,.int .i64 (nx+1)] 28 (0,0))):=F6
   have HFB:Hid (w6.drew.heap[w.heap.size+1+1]? = some (.cells #[.int .i64 id,.int .i64 nx,.slice y os.length d] 31 (0,0))):=F7
   have HBZ:Hid (Below w.heap.size w w6.drew):=⟨FB.os,FB.tape,FB.output,FB.size,FB.block⟩
   have HOX:Hid (w6.drew.ownsRow w.heap.size 9 1 (.slice x ks.length c) ks.length (scells ks)):=keptN1 FX ⟨rfl,rfl,rfl,Nat.le_refl _,fun _ _=>rfl⟩
   have HOY:Hid (w6.drew.ownsRow w.heap.size 55 3 (.slice y os.length d) os.length (ocells os)):=keptN3 FY ⟨rfl,rfl,rfl,Nat.le_refl _,fun _ _=>rfl⟩
   have HPN:Hid (NnPost w w6.drew (.returned (.tuple #[.agg #[.slice x ks.length c,.int .i64 sn,.int .i64 (nx+1)],.agg #[.int .i64 id,.int .i64 nx,.slice y os.length d],.bool true])) rr):=by
    rw[Hid,HR.out]
    exact⟨x,c,y,d,rfl,HOX.out,HOY.out,HAP.out,HBZ.out⟩
   obtain⟨y0,y1,y2,yf⟩:=bat_cells Q6.out
   have yf0:=yf 0
   have yf1:=yf 1
   have yf2:=yf 2
   obtain⟨z0,z1,z2,zf⟩:=bat_cells Q7.out
   have zf0:=zf 0
   have zf1:=zf 1
   have zf2:=zf 2
   clear yf zf F6 F7 FB FX FY HOX HOY HBZ
   rw[hw6] at HFC HFB HPN
   obtain⟨t0,t1,t2,_⟩:=bat_cells T5.out
   have T5b:(((w5.setCell ⟨w.heap.size+1,0,none⟩ (.slice x ks.length c)).setCell ⟨w.heap.size+1,1,none⟩ (.int .i64 sn)).setCell ⟨w.heap.size+1,2,none⟩ (.int .i64 (nx+1))).heap[w1.heap.size]? = some (.cells #[.int .i64 id,.int .i64 nx,.slice y os.length d] 31 (0,0)):=(set3N (by have:=HS7.out;omega)).trans T5.out
   obtain⟨t0',t1',t2',_⟩:=bat_cells T5b
   obtain⟨s0,s1,s2,_⟩:=bat_cells C5.out
   clear KB2 p0 p1 p2 B34 o3 b3 vf o1
   rw[hw5] at y0 y1 y2 yf0 yf1 yf2 z0 z1 z2 zf0 zf1 zf2 t0 t1 t2 s0 s1 s2 t0' t1' t2' HFC HFB HPN
   clear T5b Q6 Q7 T5 C5 O5x O5y BW5 X35 hw5 hw6 HAP HR HKN HE HS T2 T3 O1 H1 H2 R6 R7
   go_wp2
   go_region
   all_goals
    go_wp2
    refine bodyPost_ret (v:=.tuple #[.agg #[.slice x ks.length c,.int .i64 sn,.int .i64 (nx+1)],.agg #[.int .i64 id,.int .i64 nx,.slice y os.length d],.bool true]) (results_ccbN rfl _ _ (w.heap.size+1) (w.heap.size+1+1) 28 31 _ _ _ _ rfl HFC.out Tryd.underlying28 rfl (by kernel_rfl) rfl HFB.out Tryd.underlying31 rfl (by kernel_rfl) _ rfl) rfl ?_
    exact HPN.out
 · dsimp only
   rcases her with ⟨hk,rfl⟩ | ⟨hk,rfl⟩ | ⟨hk,rfl⟩
   · have HR:Hid (rr=([],0,0,0,0,[],false)):=by rw[Hid,HR0.out,hk];rfl
     clear hk HNX HR0 HKN HKB HKL
     have KB:=HKC.out
     have X2:Below w1.heap.size w1 (w1.alloc (.cells #[.int .i64 0,.int .i64 0,.slice none 0 0] 31)):=(Below.refl _ _).alloc (Nat.le_refl _) _
     have KB2:=KB (w1.alloc (.cells #[.int .i64 0,.int .i64 0,.slice none 0 0] 31)) (HE.out.later (B1.out.trans (X2.mono B1.out.size)))
     have H2:Hid ((w1.alloc (.cells #[.int .i64 0,.int .i64 0,.slice none 0 0] 31)).heap[w.heap.size]? = some (.cells #[.slice a ks.length cap,.int .i64 sn,.int .i64 nx] 28 (0,0))):=(X2.block _ (lt_of_block H1.out)).trans H1.out
     have HX2:Hid (Below w1.heap.size w1 (w1.alloc (.cells #[.int .i64 0,.int .i64 0,.slice none 0 0] 31))):=X2
     obtain⟨p0,p1,p2,_⟩:=bat_cells H2.out
     clear KB X2
     go_wp2_with fail
     refine KB2.mono ?_
     rintro e w3 ⟨rfl,b3⟩
     dsimp only
     have B13:Hid (Below w1.heap.size w1 w3):=HX2.out.trans (b3.mono HX2.out.size)
     have B34:Below w3.heap.size w3 (w3.alloc (.cells #[.slice none 0 0,.int .i64 0,.int .i64 0] 28)):=(Below.refl _ _).alloc (Nat.le_refl _) _
     have B4:Hid (Below w.heap.size w (w3.alloc (.cells #[.slice none 0 0,.int .i64 0,.int .i64 0] 28))):=B1.out.trans ((B13.out.trans (B34.mono B13.out.size)).mono B1.out.size)
     have Q6:Hid ((w3.alloc (.cells #[.slice none 0 0,.int .i64 0,.int .i64 0] 28)).heap[w.heap.size+1]? = some (.cells #[.slice none 0 0,.int .i64 0,.int .i64 0] 28 (0,0))):=((B13.out.trans (B34.mono B13.out.size)).block _ (lt_of_block R6.out)).trans R6.out
     have Q7:Hid ((w3.alloc (.cells #[.slice none 0 0,.int .i64 0,.int .i64 0] 28)).heap[w.heap.size+1+1]? = some (.cells #[.int .i64 0,.int .i64 0,.slice none 0 0] 31 (0,0))):=((B13.out.trans (B34.mono B13.out.size)).block _ (lt_of_block R7.out)).trans R7.out
     obtain⟨t0,t1,t2,_⟩:=bat_cells (heap_alloc_new w3 (.cells #[.slice none 0 0,.int .i64 0,.int .i64 0] 28))
     have HFC:Hid ((((((((w3.alloc (.cells #[.slice none 0 0,.int .i64 0,.int .i64 0] 28)).setCell ⟨w.heap.size+1,0,none⟩ (.slice none 0 0)).setCell ⟨w.heap.size+1,1,none⟩ (.int .i64 0)).setCell ⟨w.heap.size+1,2,none⟩ (.int .i64 0)).setCell ⟨w.heap.size+1+1,0,none⟩ (.int .i64 0)).setCell ⟨w.heap.size+1+1,1,none⟩ (.int .i64 0)).setCell ⟨w.heap.size+1+1,2,none⟩ (.slice none 0 0)).heap[w.heap.size+1]? = some (.cells #[.slice none 0 0,.int .i64 0,.int .i64 0] 28 (0,0))):=by
      show (((((((w3.alloc (.cells #[.slice none 0 0,.int .i64 0,.int .i64 0] 28)).setCell ⟨w.heap.size+1,0,none⟩ (.slice none 0 0)).setCell ⟨w.heap.size+1,1,none⟩ (.int .i64 0)).setCell ⟨w.heap.size+1,2,none⟩ (.int .i64 0)).setCell ⟨w.heap.size+1+1,0,none⟩ (.int .i64 0)).setCell ⟨w.heap.size+1+1,1,none⟩ (.int .i64 0)).setCell ⟨w.heap.size+1+1,2,none⟩ (.slice none 0 0)).heap[w.heap.size+1]? = _
      rw[set3N (by omega)]
      exact bat_set (j:=2) (bat_set (j:=1) (bat_set (j:=0) Q6.out))
     have HFB:Hid ((((((((w3.alloc (.cells #[.slice none 0 0,.int .i64 0,.int .i64 0] 28)).setCell ⟨w.heap.size+1,0,none⟩ (.slice none 0 0)).setCell ⟨w.heap.size+1,1,none⟩ (.int .i64 0)).setCell ⟨w.heap.size+1,2,none⟩ (.int .i64 0)).setCell ⟨w.heap.size+1+1,0,none⟩ (.int .i64 0)).setCell ⟨w.heap.size+1+1,1,none⟩ (.int .i64 0)).setCell ⟨w.heap.size+1+1,2,none⟩ (.slice none 0 0)).heap[w.heap.size+1+1]? = some (.cells #[.int .i64 0,.int .i64 0,.slice none 0 0] 31 (0,0))):=bat_set (j:=2) (bat_set (j:=1) (bat_set (j:=0) ((set3N (by omega)).trans Q7.out)))
     have HBZ:Hid (Below w.heap.size w (((((((w3.alloc (.cells #[.slice none 0 0,.int .i64 0,.int .i64 0] 28)).setCell ⟨w.heap.size+1,0,none⟩ (.slice none 0 0)).setCell ⟨w.heap.size+1,1,none⟩ (.int .i64 0)).setCell ⟨w.heap.size+1,2,none⟩ (.int .i64 0)).setCell ⟨w.heap.size+1+1,0,none⟩ (.int .i64 0)).setCell ⟨w.heap.size+1+1,1,none⟩ (.int .i64 0)).setCell ⟨w.heap.size+1+1,2,none⟩ (.slice none 0 0))):=by
      have hz:Below w.heap.size w (((((((w3.alloc (.cells #[.slice none 0 0,.int .i64 0,.int .i64 0] 28)).setCell ⟨w.heap.size+1,0,none⟩ (.slice none 0 0)).setCell ⟨w.heap.size+1,1,none⟩ (.int .i64 0)).setCell ⟨w.heap.size+1,2,none⟩ (.int .i64 0)).setCell ⟨w.heap.size+1+1,0,none⟩ (.int .i64 0)).setCell ⟨w.heap.size+1+1,1,none⟩ (.int .i64 0)).setCell ⟨w.heap.size+1+1,2,none⟩ (.slice none 0 0)):=(((((B4.out.setCell (by simp) _).setCell (by simp) _).setCell (by simp) _).setCell (by simp only;omega) _).setCell (by simp only;omega) _).setCell (by simp only;omega) _
      exact⟨hz.os,hz.tape,hz.output,hz.size,hz.block⟩
     obtain⟨y0,y1,y2,yf⟩:=bat_cells Q6.out
     have yf0:=yf 0
     have yf1:=yf 1
     have yf2:=yf 2
     obtain⟨z0,z1,z2,zf⟩:=bat_cells Q7.out
     have zf0:=zf 0
     have zf1:=zf 1
     have zf2:=zf 2
     clear yf zf
     skip
     clear KB2 p0 p1 p2 B34 b3
     go_wp2
     refine bodyPost_ret (v:=.tuple #[.agg #[.slice none 0 0,.int .i64 0,.int .i64 0],.agg #[.int .i64 0,.int .i64 0,.slice none 0 0],.bool false]) (results_ccbN rfl _ _ (w.heap.size+1) (w.heap.size+1+1) 28 31 _ _ _ _ rfl HFC.out Tryd.underlying28 rfl (by kernel_rfl) rfl HFB.out Tryd.underlying31 rfl (by kernel_rfl) _ rfl) rfl ?_
     rw[HR.out]
     exact⟨none,0,none,0,rfl,World.ownsRow_nil _ _ _ _,World.ownsRow_nil _ _ _ _,fun q h=>by simp[Value.ownBlock] at h,HBZ.out⟩
   · have HR:Hid (rr=(ks,sn,nx,0,0,[],false)):=by rw[Hid,HR0.out,hk];rfl
     clear hk HNX HR0 HKN HKC HKL
     have KB:=HKB.out
     have X2:Below w1.heap.size w1 (w1.alloc (.cells #[.int .i64 0,.int .i64 0,.slice none 0 0] 31)):=(Below.refl _ _).alloc (Nat.le_refl _) _
     have KB2:=KB (w1.alloc (.cells #[.int .i64 0,.int .i64 0,.slice none 0 0] 31)) (HE.out.later (B1.out.trans (X2.mono B1.out.size))) (HS.out _ (B1.out.trans (X2.mono B1.out.size)))
     have H2:Hid ((w1.alloc (.cells #[.int .i64 0,.int .i64 0,.slice none 0 0] 31)).heap[w.heap.size]? = some (.cells #[.slice a ks.length cap,.int .i64 sn,.int .i64 nx] 28 (0,0))):=(X2.block _ (lt_of_block H1.out)).trans H1.out
     have HX2:Hid (Below w1.heap.size w1 (w1.alloc (.cells #[.int .i64 0,.int .i64 0,.slice none 0 0] 31))):=X2
     obtain⟨p0,p1,p2,_⟩:=bat_cells H2.out
     clear KB X2
     go_wp2_with fail
     refine KB2.mono ?_
     rintro e w3 ⟨x,c,rfl,o3,b3⟩
     dsimp only
     have B13:Hid (Below w1.heap.size w1 w3):=HX2.out.trans (b3.mono HX2.out.size)
     have B34:Below w3.heap.size w3 (w3.alloc (.cells #[.slice x ks.length c,.int .i64 sn,.int .i64 nx] 28)):=(Below.refl _ _).alloc (Nat.le_refl _) _
     have B4:Hid (Below w.heap.size w (w3.alloc (.cells #[.slice x ks.length c,.int .i64 sn,.int .i64 nx] 28))):=B1.out.trans ((B13.out.trans (B34.mono B13.out.size)).mono B1.out.size)
     have Q6:Hid ((w3.alloc (.cells #[.slice x ks.length c,.int .i64 sn,.int .i64 nx] 28)).heap[w.heap.size+1]? = some (.cells #[.slice none 0 0,.int .i64 0,.int .i64 0] 28 (0,0))):=((B13.out.trans (B34.mono B13.out.size)).block _ (lt_of_block R6.out)).trans R6.out
     have Q7:Hid ((w3.alloc (.cells #[.slice x ks.length c,.int .i64 sn,.int .i64 nx] 28)).heap[w.heap.size+1+1]? = some (.cells #[.int .i64 0,.int .i64 0,.slice none 0 0] 31 (0,0))):=((B13.out.trans (B34.mono B13.out.size)).block _ (lt_of_block R7.out)).trans R7.out
     obtain⟨t0,t1,t2,_⟩:=bat_cells (heap_alloc_new w3 (.cells #[.slice x ks.length c,.int .i64 sn,.int .i64 nx] 28))
     have HFC:Hid ((((((((w3.alloc (.cells #[.slice x ks.length c,.int .i64 sn,.int .i64 nx] 28)).setCell ⟨w.heap.size+1,0,none⟩ (.slice x ks.length c)).setCell ⟨w.heap.size+1,1,none⟩ (.int .i64 sn)).setCell ⟨w.heap.size+1,2,none⟩ (.int .i64 nx)).setCell ⟨w.heap.size+1+1,0,none⟩ (.int .i64 0)).setCell ⟨w.heap.size+1+1,1,none⟩ (.int .i64 0)).setCell ⟨w.heap.size+1+1,2,none⟩ (.slice none 0 0)).heap[w.heap.size+1]? = some (.cells #[.slice x ks.length c,.int .i64 sn,.int .i64 nx] 28 (0,0))):=by
      show (((((((w3.alloc (.cells #[.slice x ks.length c,.int .i64 sn,.int .i64 nx] 28)).setCell ⟨w.heap.size+1,0,none⟩ (.slice x ks.length c)).setCell ⟨w.heap.size+1,1,none⟩ (.int .i64 sn)).setCell ⟨w.heap.size+1,2,none⟩ (.int .i64 nx)).setCell ⟨w.heap.size+1+1,0,none⟩ (.int .i64 0)).setCell ⟨w.heap.size+1+1,1,none⟩ (.int .i64 0)).setCell ⟨w.heap.size+1+1,2,none⟩ (.slice none 0 0)).heap[w.heap.size+1]? = _
      rw[set3N (by omega)]
      exact bat_set (j:=2) (bat_set (j:=1) (bat_set (j:=0) Q6.out))
     have HFB:Hid ((((((((w3.alloc (.cells #[.slice x ks.length c,.int .i64 sn,.int .i64 nx] 28)).setCell ⟨w.heap.size+1,0,none⟩ (.slice x ks.length c)).setCell ⟨w.heap.size+1,1,none⟩ (.int .i64 sn)).setCell ⟨w.heap.size+1,2,none⟩ (.int .i64 nx)).setCell ⟨w.heap.size+1+1,0,none⟩ (.int .i64 0)).setCell ⟨w.heap.size+1+1,1,none⟩ (.int .i64 0)).setCell ⟨w.heap.size+1+1,2,none⟩ (.slice none 0 0)).heap[w.heap.size+1+1]? = some (.cells #[.int .i64 0,.int .i64 0,.slice none 0 0] 31 (0,0))):=bat_set (j:=2) (bat_set (j:=1) (bat_set (j:=0) ((set3N (by omega)).trans Q7.out)))
     have HBZ:Hid (Below w.heap.size w (((((((w3.alloc (.cells #[.slice x ks.length c,.int .i64 sn,.int .i64 nx] 28)).setCell ⟨w.heap.size+1,0,none⟩ (.slice x ks.length c)).setCell ⟨w.heap.size+1,1,none⟩ (.int .i64 sn)).setCell ⟨w.heap.size+1,2,none⟩ (.int .i64 nx)).setCell ⟨w.heap.size+1+1,0,none⟩ (.int .i64 0)).setCell ⟨w.heap.size+1+1,1,none⟩ (.int .i64 0)).setCell ⟨w.heap.size+1+1,2,none⟩ (.slice none 0 0))):=by
      have hz:Below w.heap.size w (((((((w3.alloc (.cells #[.slice x ks.length c,.int .i64 sn,.int .i64 nx] 28)).setCell ⟨w.heap.size+1,0,none⟩ (.slice x ks.length c)).setCell ⟨w.heap.size+1,1,none⟩ (.int .i64 sn)).setCell ⟨w.heap.size+1,2,none⟩ (.int .i64 nx)).setCell ⟨w.heap.size+1+1,0,none⟩ (.int .i64 0)).setCell ⟨w.heap.size+1+1,1,none⟩ (.int .i64 0)).setCell ⟨w.heap.size+1+1,2,none⟩ (.slice none 0 0)):=(((((B4.out.setCell (by simp) _).setCell (by simp) _).setCell (by simp) _).setCell (by simp only;omega) _).setCell (by simp only;omega) _).setCell (by simp only;omega) _
      exact⟨hz.os,hz.tape,hz.output,hz.size,hz.block⟩
     obtain⟨y0,y1,y2,yf⟩:=bat_cells Q6.out
     have yf0:=yf 0
     have yf1:=yf 1
     have yf2:=yf 2
     obtain⟨z0,z1,z2,zf⟩:=bat_cells Q7.out
     have zf0:=zf 0
     have zf1:=zf 1
     have zf2:=zf 2
     clear yf zf
     have HO3:Hid ((((((((w3.alloc (.cells #[.slice x ks.length c,.int .i64 sn,.int .i64 nx] 28)).setCell ⟨w.heap.size+1,0,none⟩ (.slice x ks.length c)).setCell ⟨w.heap.size+1,1,none⟩ (.int .i64 sn)).setCell ⟨w.heap.size+1,2,none⟩ (.int .i64 nx)).setCell ⟨w.heap.size+1+1,0,none⟩ (.int .i64 0)).setCell ⟨w.heap.size+1+1,1,none⟩ (.int .i64 0)).setCell ⟨w.heap.size+1+1,2,none⟩ (.slice none 0 0)).ownsRow w.heap.size 9 1 (.slice x ks.length c) ks.length (scells ks)):=by
      have h7:=lt_of_block R7.out
      have h8:=HX2.out.size
      exact (own_setN (own_setN (own_setN (own_setN (own_setN (own_setN (o3.alloc _) _ (by simp only;omega) _) _ (by simp only;omega) _) _ (by simp only;omega) _) _ (by simp only;omega) _) _ (by simp only;omega) _) _ (by simp only;omega) _).mono (by have:=B1.out.size;omega)
     clear KB2 p0 p1 p2 B34 o3 b3
     go_wp2
     refine bodyPost_ret (v:=.tuple #[.agg #[.slice x ks.length c,.int .i64 sn,.int .i64 nx],.agg #[.int .i64 0,.int .i64 0,.slice none 0 0],.bool false]) (results_ccbN rfl _ _ (w.heap.size+1) (w.heap.size+1+1) 28 31 _ _ _ _ rfl HFC.out Tryd.underlying28 rfl (by kernel_rfl) rfl HFB.out Tryd.underlying31 rfl (by kernel_rfl) _ rfl) rfl ?_
     rw[HR.out]
     exact⟨x,c,none,0,rfl,HO3.out,World.ownsRow_nil _ _ _ _,fun q _ h=>by simp[Value.ownBlock] at h,HBZ.out⟩
   · have HR:Hid (rr=(ks,sn,nx,0,0,[],false)):=by rw[Hid,HR0.out,hk];rfl
     clear hk HNX HR0 HKN HKC HKB
     have KB:=HKL.out
     have X2:Below w1.heap.size w1 (w1.alloc (.cells #[.int .i64 0,.int .i64 0,.slice none 0 0] 31)):=(Below.refl _ _).alloc (Nat.le_refl _) _
     have KB2:=KB (w1.alloc (.cells #[.int .i64 0,.int .i64 0,.slice none 0 0] 31)) (HE.out.later (B1.out.trans (X2.mono B1.out.size))) (HS.out _ (B1.out.trans (X2.mono B1.out.size)))
     have H2:Hid ((w1.alloc (.cells #[.int .i64 0,.int .i64 0,.slice none 0 0] 31)).heap[w.heap.size]? = some (.cells #[.slice a ks.length cap,.int .i64 sn,.int .i64 nx] 28 (0,0))):=(X2.block _ (lt_of_block H1.out)).trans H1.out
     have HX2:Hid (Below w1.heap.size w1 (w1.alloc (.cells #[.int .i64 0,.int .i64 0,.slice none 0 0] 31))):=X2
     obtain⟨p0,p1,p2,_⟩:=bat_cells H2.out
     clear KB X2
     go_wp2_with fail
     refine KB2.mono ?_
     rintro e w3 ⟨x,c,rfl,o3,b3⟩
     dsimp only
     have B13:Hid (Below w1.heap.size w1 w3):=HX2.out.trans (b3.mono HX2.out.size)
     have B34:Below w3.heap.size w3 (w3.alloc (.cells #[.slice x ks.length c,.int .i64 sn,.int .i64 nx] 28)):=(Below.refl _ _).alloc (Nat.le_refl _) _
     have B4:Hid (Below w.heap.size w (w3.alloc (.cells #[.slice x ks.length c,.int .i64 sn,.int .i64 nx] 28))):=B1.out.trans ((B13.out.trans (B34.mono B13.out.size)).mono B1.out.size)
     have Q6:Hid ((w3.alloc (.cells #[.slice x ks.length c,.int .i64 sn,.int .i64 nx] 28)).heap[w.heap.size+1]? = some (.cells #[.slice none 0 0,.int .i64 0,.int .i64 0] 28 (0,0))):=((B13.out.trans (B34.mono B13.out.size)).block _ (lt_of_block R6.out)).trans R6.out
     have Q7:Hid ((w3.alloc (.cells #[.slice x ks.length c,.int .i64 sn,.int .i64 nx] 28)).heap[w.heap.size+1+1]? = some (.cells #[.int .i64 0,.int .i64 0,.slice none 0 0] 31 (0,0))):=((B13.out.trans (B34.mono B13.out.size)).block _ (lt_of_block R7.out)).trans R7.out
     obtain⟨t0,t1,t2,_⟩:=bat_cells (heap_alloc_new w3 (.cells #[.slice x ks.length c,.int .i64 sn,.int .i64 nx] 28))
     have HFC:Hid ((((((((w3.alloc (.cells #[.slice x ks.length c,.int .i64 sn,.int .i64 nx] 28)).setCell ⟨w.heap.size+1,0,none⟩ (.slice x ks.length c)).setCell ⟨w.heap.size+1,1,none⟩ (.int .i64 sn)).setCell ⟨w.heap.size+1,2,none⟩ (.int .i64 nx)).setCell ⟨w.heap.size+1+1,0,none⟩ (.int .i64 0)).setCell ⟨w.heap.size+1+1,1,none⟩ (.int .i64 0)).setCell ⟨w.heap.size+1+1,2,none⟩ (.slice none 0 0)).heap[w.heap.size+1]? = some (.cells #[.slice x ks.length c,.int .i64 sn,.int .i64 nx] 28 (0,0))):=by
      show (((((((w3.alloc (.cells #[.slice x ks.length c,.int .i64 sn,.int .i64 nx] 28)).setCell ⟨w.heap.size+1,0,none⟩ (.slice x ks.length c)).setCell ⟨w.heap.size+1,1,none⟩ (.int .i64 sn)).setCell ⟨w.heap.size+1,2,none⟩ (.int .i64 nx)).setCell ⟨w.heap.size+1+1,0,none⟩ (.int .i64 0)).setCell ⟨w.heap.size+1+1,1,none⟩ (.int .i64 0)).setCell ⟨w.heap.size+1+1,2,none⟩ (.slice none 0 0)).heap[w.heap.size+1]? = _
      rw[set3N (by omega)]
      exact bat_set (j:=2) (bat_set (j:=1) (bat_set (j:=0) Q6.out))
     have HFB:Hid ((((((((w3.alloc (.cells #[.slice x ks.length c,.int .i64 sn,.int .i64 nx] 28)).setCell ⟨w.heap.size+1,0,none⟩ (.slice x ks.length c)).setCell ⟨w.heap.size+1,1,none⟩ (.int .i64 sn)).setCell ⟨w.heap.size+1,2,none⟩ (.int .i64 nx)).setCell ⟨w.heap.size+1+1,0,none⟩ (.int .i64 0)).setCell ⟨w.heap.size+1+1,1,none⟩ (.int .i64 0)).setCell ⟨w.heap.size+1+1,2,none⟩ (.slice none 0 0)).heap[w.heap.size+1+1]? = some (.cells #[.int .i64 0,.int .i64 0,.slice none 0 0] 31 (0,0))):=bat_set (j:=2) (bat_set (j:=1) (bat_set (j:=0) ((set3N (by omega)).trans Q7.out)))
     have HBZ:Hid (Below w.heap.size w (((((((w3.alloc (.cells #[.slice x ks.length c,.int .i64 sn,.int .i64 nx] 28)).setCell ⟨w.heap.size+1,0,none⟩ (.slice x ks.length c)).setCell ⟨w.heap.size+1,1,none⟩ (.int .i64 sn)).setCell ⟨w.heap.size+1,2,none⟩ (.int .i64 nx)).setCell ⟨w.heap.size+1+1,0,none⟩ (.int .i64 0)).setCell ⟨w.heap.size+1+1,1,none⟩ (.int .i64 0)).setCell ⟨w.heap.size+1+1,2,none⟩ (.slice none 0 0))):=by
      have hz:Below w.heap.size w (((((((w3.alloc (.cells #[.slice x ks.length c,.int .i64 sn,.int .i64 nx] 28)).setCell ⟨w.heap.size+1,0,none⟩ (.slice x ks.length c)).setCell ⟨w.heap.size+1,1,none⟩ (.int .i64 sn)).setCell ⟨w.heap.size+1,2,none⟩ (.int .i64 nx)).setCell ⟨w.heap.size+1+1,0,none⟩ (.int .i64 0)).setCell ⟨w.heap.size+1+1,1,none⟩ (.int .i64 0)).setCell ⟨w.heap.size+1+1,2,none⟩ (.slice none 0 0)):=(((((B4.out.setCell (by simp) _).setCell (by simp) _).setCell (by simp) _).setCell (by simp only;omega) _).setCell (by simp only;omega) _).setCell (by simp only;omega) _
      exact⟨hz.os,hz.tape,hz.output,hz.size,hz.block⟩
     obtain⟨y0,y1,y2,yf⟩:=bat_cells Q6.out
     have yf0:=yf 0
     have yf1:=yf 1
     have yf2:=yf 2
     obtain⟨z0,z1,z2,zf⟩:=bat_cells Q7.out
     have zf0:=zf 0
     have zf1:=zf 1
     have zf2:=zf 2
     clear yf zf
     have HO3:Hid ((((((((w3.alloc (.cells #[.slice x ks.length c,.int .i64 sn,.int .i64 nx] 28)).setCell ⟨w.heap.size+1,0,none⟩ (.slice x ks.length c)).setCell ⟨w.heap.size+1,1,none⟩ (.int .i64 sn)).setCell ⟨w.heap.size+1,2,none⟩ (.int .i64 nx)).setCell ⟨w.heap.size+1+1,0,none⟩ (.int .i64 0)).setCell ⟨w.heap.size+1+1,1,none⟩ (.int .i64 0)).setCell ⟨w.heap.size+1+1,2,none⟩ (.slice none 0 0)).ownsRow w.heap.size 9 1 (.slice x ks.length c) ks.length (scells ks)):=by
      have h7:=lt_of_block R7.out
      have h8:=HX2.out.size
      exact (own_setN (own_setN (own_setN (own_setN (own_setN (own_setN (o3.alloc _) _ (by simp only;omega) _) _ (by simp only;omega) _) _ (by simp only;omega) _) _ (by simp only;omega) _) _ (by simp only;omega) _) _ (by simp only;omega) _).mono (by have:=B1.out.size;omega)
     clear KB2 p0 p1 p2 B34 o3 b3
     go_wp2
     refine bodyPost_ret (v:=.tuple #[.agg #[.slice x ks.length c,.int .i64 sn,.int .i64 nx],.agg #[.int .i64 0,.int .i64 0,.slice none 0 0],.bool false]) (results_ccbN rfl _ _ (w.heap.size+1) (w.heap.size+1+1) 28 31 _ _ _ _ rfl HFC.out Tryd.underlying28 rfl (by kernel_rfl) rfl HFB.out Tryd.underlying31 rfl (by kernel_rfl) _ rfl) rfl ?_
     rw[HR.out]
     exact⟨x,c,none,0,rfl,HO3.out,World.ownsRow_nil _ _ _ _,fun q _ h=>by simp[Value.ownBlock] at h,HBZ.out⟩
end Go.Proofs.YtbpgpmchnjbclaaDoor
