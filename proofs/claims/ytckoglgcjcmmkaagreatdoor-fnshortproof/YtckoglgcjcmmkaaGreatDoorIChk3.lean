/-
 Contract: CheckProof, of the program.
-/
import Derived.Test.YtckoglgcjcmmkaaGreatDoorIChk2
namespace Go.Proofs.YtckoglgcjcmmkaaGreatDoor
open Go.RowKit Go.Shelf
set_option linter.unusedVariables false
attribute [local go_sem] Oper.semAt_some
theorem cell_boxC {w:World} {b:Nat} {v:Value} {t:TypeId} {f:Nat × Nat} (h:w.heap[b]? = some (.cells #[v] t f)):w.cell? ⟨b,0,none⟩=some v:=by
 simp only[World.cell?,h];rfl
theorem new_atC {w:World} {n:Nat} (h:w.heap.size=n) (o:Obj):(w.alloc o).heap[n]? = some o:=by rw[←h];exact heap_alloc_new w o
theorem Below.heap_allocC {w:World} {k:Nat} {o o':Obj} (h:w.heap[k]? = some o):(w.alloc o').heap[k]? = some o:=(_root_.Go.RowKit.Below.heap_alloc _ _ _ (Array.getElem?_eq_some_iff.1 h).1).trans h
theorem frozen_boxC {w:World} {b:Nat} {v:Value} {t:TypeId} (h:w.heap[b]? = some (.cells #[v] t (0,0))):w.frozen? ⟨b,0,none⟩=false:=by
 simp[World.frozen?,h]
set_option maxRecDepth 100000 in
set_option maxHeartbeats 400000 in
theorem impl_wayOf (root key:List UInt8) (L:Nat) (w:World) :
 Calls Tryz.prog 28 #[.string ⟨root.toArray⟩,.string ⟨key.toArray⟩,.func (.func 32) #[] #[.pointer (some ⟨L,0,none⟩)]] w fun e w'=>e=.returned (.func (.func 53) #[] #[.pointer (some ⟨w.heap.size,0,none⟩),.pointer (some ⟨w.heap.size+1,0,none⟩),.pointer (some ⟨w.heap.size+2,0,none⟩)])∧Below w.heap.size w w'∧w.heap.size+2<w'.heap.size∧w'.cell? ⟨w.heap.size,0,none⟩=some (.string ⟨root.toArray⟩)∧w'.cell? ⟨w.heap.size+1,0,none⟩=some (.string ⟨key.toArray⟩)∧w'.cell? ⟨w.heap.size+2,0,none⟩=some (.func (.func 32) #[] #[.pointer (some ⟨L,0,none⟩)]):=by
 have hmf:∀ (fn:Fn) (first cap:Array Value) (w:World),(Instr.makeFunc fn first cap).run Tryz.prog w=.ok (.func fn first cap) w:=fun _ _ _ _=>rfl
 go_enter Tryz.func28,Tryz.ntmps28
 go_wp2
 go_ret
 exact⟨rfl,(((Below.refl _ _).alloc (Nat.le_refl _) _).alloc (by simp) _).alloc (by simp;omega) _,by simp,cell_boxC (Below.heap_allocC (Below.heap_allocC (heap_alloc_new w _))),cell_boxC (Below.heap_allocC (new_atC (by simp) _)),cell_boxC (new_atC (by simp) _)⟩
theorem two_setC (w:World) (R:Nat) (x y:Value) {u v:Value} (h0:w.cell? ⟨R,0,none⟩=some u) (h1:w.cell? ⟨R+1,0,none⟩=some v):((w.setCell ⟨R,0,none⟩ x).setCell ⟨R+1,0,none⟩ y).cell? ⟨R,0,none⟩=some x∧((w.setCell ⟨R,0,none⟩ x).setCell ⟨R+1,0,none⟩ y).cell? ⟨R+1,0,none⟩=some y :=
 ⟨(World.cell?_of_block (a := ⟨R, 0, none⟩) (_root_.Go.RowKit.Below.heap_setCell _ ⟨R + 1, 0, none⟩ y R (by simp))).trans (World.cell?_setCell_same' w ⟨R, 0, none⟩ x (by rw [h0]; rfl)),
   World.cell?_setCell_same' _ _ _ (by rw[World.cell?_of_block (a:=⟨R+1,0,none⟩) (_root_.Go.RowKit.Below.heap_setCell w ⟨R,0,none⟩ x (R+1) (by simp)),h1];rfl)⟩
theorem ck_two {w w1:World} (b1:Below ((w.alloc (.cells #[.int .i64 0] 2)).alloc (.cells #[.string ⟨#[]⟩] 9)).heap.size ((w.alloc (.cells #[.int .i64 0] 2)).alloc (.cells #[.string ⟨#[]⟩] 9)) w1):w1.cell? ⟨w.heap.size,0,none⟩=some (.int .i64 0)∧w1.cell? ⟨w.heap.size+1,0,none⟩=some (.string ⟨#[]⟩)∧w1.frozen? ⟨w.heap.size,0,none⟩=false∧w1.frozen? ⟨w.heap.size+1,0,none⟩=false∧Below w.heap.size w w1:=by
 have hb:Below w.heap.size w ((w.alloc (.cells #[.int .i64 0] 2)).alloc (.cells #[.string ⟨#[]⟩] 9)):=((Below.refl _ _).alloc (Nat.le_refl _) _).alloc (by simp) _
 have h0:w1.heap[w.heap.size]? = some (.cells #[.int .i64 0] 2 (0,0)):=(b1.block _ (by simp;omega)).trans (Below.heap_allocC (heap_alloc_new w _))
 have h1:w1.heap[w.heap.size+1]? = some (.cells #[.string ⟨#[]⟩] 9 (0,0)):=(b1.block _ (by simp)).trans (new_atC (by simp) _)
 exact⟨cell_boxC h0,cell_boxC h1,frozen_boxC h0,frozen_boxC h1,hb.trans (b1.mono hb.size)⟩
theorem stepC_put {B:Nat} (x:CkX):AbidesB B (StepC x):=fun W l o o' h hl ho hc=>put_far ho hc h
theorem ckI_put {w0:World} {R L b B:Nat} {root key:List UInt8} {x:CkX} (hB:w0.heap.size≤B):AbidesB B (CkI w0 R L b root key x):=fun W l o o' h hl ho hc=>⟨CkS.put hB W l o o' h.1 hl ho hc,stepC_put x W l o o' h.2.1 hl ho hc,h.2.2⟩
theorem ckY_put {w0:World} {R L b B:Nat} {root key:List UInt8} {Q:Int × List UInt8} {x:CkX} (hB:w0.heap.size≤B):AbidesB B (CkY w0 R L b root key Q x):=fun W l o o' h hl ho hc=>⟨CkS.put hB W l o o' h.1 hl ho hc,⟨h.2.1.1,stepC_put x W l o o' h.2.1.2 hl ho hc⟩,h.2.2⟩
theorem ckY_later {w0:World} {R L b:Nat} {root key:List UInt8} {Q:Int × List UInt8} {x:CkX} {W W':World} (h:CkY w0 R L b root key Q x W) (hb:Below W.heap.size W W'):CkY w0 R L b root key Q x W':=⟨h.1.later hb,⟨h.2.1.1,(hb.block _ (Array.getElem?_eq_some_iff.1 h.2.1.2).1).trans h.2.1.2⟩,h.2.2⟩
theorem ckO_put {w0:World} {R B:Nat} {Q:Int × List UInt8} {c:Code} (hB:w0.heap.size≤B):AbidesB B (CkO w0 R Q c):=fun W l o o' h hl ho hc=>⟨h.1,raw_below hB W l o o' h.2.1 hl ho hc,raw_cell h.2.2.1 ho hc,raw_cell h.2.2.2 ho hc⟩
theorem ckZ_put {w0:World} {R L b B:Nat} {root key:List UInt8} {Q:Int × List UInt8} (hB:w0.heap.size≤B):AbidesB B (CkZ w0 R L b root key Q):=fun W l o o' h hl ho hc=>by
 obtain⟨hq,xs,hs⟩:=h
 exact⟨hq,xs,CkS.put hB W l o o' hs hl ho hc⟩
set_option maxRecDepth 100000 in
set_option maxHeartbeats 4000000 in
theorem ck_loop (root key:List UInt8) (bp:Option Addr) (cb:Nat) (ts:List (List UInt8)) (w:World) (hT:Tab w) (hcap:ts.length≤cb) (hr:root.length=32) (hk:key.length≤12) (htl:ts.length≤30) (htm:∀ l∈ts,l.length≤1048576) (hts:IsStrs w bp ts) (hne:¬ root=emptyL) (Q:Int × List UInt8) (hQ:chkP ts root (nibs key)=Q) :
 Calls Tryz.prog 11 #[.string ⟨root.toArray⟩,.string ⟨key.toArray⟩,.slice bp ts.length cb] w fun e w'=>e=.returned (.tuple #[.int .i64 Q.1,.string ⟨Q.2.toArray⟩])∧Below w.heap.size w w':=by
 have hzr:(ByteArray.mk root.toArray).size=root.length:=by simp[ByteArray.size]
 have hzk:(ByteArray.mk key.toArray).size=key.length:=by simp[ByteArray.size]
 have h1':((root.length:Int) != 32)=false:=by rw[bne_eq_false_iff_eq];omega
 have h1'':(root.length:Int)=32:=by omega
 have h2':(key.length:Int)≤12:=by omega
 have h3':(ts.length:Int)≤30:=by omega
 have h2b:decide ((12:Int)<(key.length:Int))=false:=decide_eq_false (by omega)
 have h3b:decide ((30:Int)<(ts.length:Int))=false:=decide_eq_false (by omega)
 have KE:=fun W hW=>callsIn_wide (n:=2).2 (impl_empty W hW)
 obtain⟨em,hem⟩:∃ em,em=emptyL:=⟨_,rfl⟩
 rw[←hem] at KE hne
 have heb:(root == em)=false:=by rw[beq_eq_false_iff_ne];exact hne
 have HT:Hid (Tab w):=hT
 have HTS:Hid (IsStrs w bp ts):=hts
 have hmf:∀ (fn:Fn) (first cap:Array Value) (w:World),(Instr.makeFunc fn first cap).run Tryz.prog w=.ok (.func fn first cap) w:=fun _ _ _ _=>rfl
 have HB0:Hid (Below w.heap.size w ((w.alloc (.cells #[.int .i64 0] 2)).alloc (.cells #[.string ⟨#[]⟩] 9))):=((Below.refl _ _).alloc (Nat.le_refl _) _).alloc (by simp) _
 have HR0:Hid (((w.alloc (.cells #[.int .i64 0] 2)).alloc (.cells #[.string ⟨#[]⟩] 9)).heap[w.heap.size]? = some (.cells #[.int .i64 0] 2 (0,0))):=(Below.heap_alloc _ _ _ (by simp)).trans (heap_alloc_new w _)
 have HR1:Hid (((w.alloc (.cells #[.int .i64 0] 2)).alloc (.cells #[.string ⟨#[]⟩] 9)).heap[w.heap.size+1]? = some (.cells #[.string ⟨#[]⟩] 9 (0,0))):=by
  have:=heap_alloc_new (w.alloc (.cells #[.int .i64 0] 2)) (.cells #[.string ⟨#[]⟩] 9)
  rw[Hid];simpa using this
 have K1:=KE _ (HT.out.later HB0.out)
 have HQQ:Hid (chkP ts root (nibs key)=Q):=hQ
 clear hT hts hem hne KE hQ
 refine callsIn_wide (n:=3).1 ?_
 refine callsIn_of_wp_marks Tryz.func11 rfl trivial ?_ rfl
 simp only[Tryz.ntmps11,List.size_toArray,List.length_cons,List.length_nil,Nat.reduceAdd,Nat.reduceSub,Array.replicate_succ,Array.replicate_zero,List.push_toArray,List.append_toArray,List.nil_append,List.cons_append]
 gi_wp2
 refine⟨trivial,K1.mono ?_⟩
 rintro e w1 ⟨rfl,b1⟩
 have hs1:w.heap.size+1<w1.heap.size:=by have:=b1.size;simp at this;omega
 have HB1:Hid (Below w.heap.size w w1):=HB0.out.trans (b1.mono HB0.out.size)
 have HR01:Hid (w1.heap[w.heap.size]? = some (.cells #[.int .i64 0] 2 (0,0))):=(b1.block _ (by simp;omega)).trans HR0.out
 have HR11:Hid (w1.heap[w.heap.size+1]? = some (.cells #[.string ⟨#[]⟩] 9 (0,0))):=(b1.block _ (by simp)).trans HR1.out
 have K2:=callsIn_wide (n:=2).2 (impl_wayOf root key w1.heap.size (w1.alloc (.cells #[.slice bp ts.length cb] 30)))
 clear K1 b1 HB0 HR0 HR1
 gi_wp2
 refine⟨trivial,K2.mono ?_⟩
 rintro e w2 ⟨rfl,b2,hs2,d0,d1,d2⟩
 have hsz:(w1.alloc (.cells #[.slice bp ts.length cb] 30)).heap.size=w1.heap.size+1:=by simp
 rw[hsz] at hs2 d0 d1 d2
 have HJ:Hid (CkS w w.heap.size w1.heap.size (w1.heap.size+1) root key ts w2):=by
  have BB:Below w1.heap.size w1 (w1.alloc (.cells #[.slice bp ts.length cb] 30)):=(Below.refl _ _).alloc (Nat.le_refl _) _
  have b2':=BB.trans (b2.mono BB.size)
  exact⟨HB1.out.trans (b2'.mono HB1.out.size),⟨Nat.le_refl _,by omega,by omega,by omega⟩,(b2'.block _ (by omega)).trans HR01.out,(b2'.block _ (by omega)).trans HR11.out,⟨bp,cb,(b2.block _ (by simp)).trans (heap_alloc_new w1 _),hcap,HTS.out⟩,d0,d1,d2⟩
 clear K2 b2 hs2 d0 d1 d2 HR01 HR11
 gi_wp2
 have hw2:w.heap.size≤w2.heap.size:=HJ.out.below.size
 refine wpIn_rangeFunc_raw (α:=CkX) rfl (by omega) (gf:=53) (lb:=#[.pointer (some ⟨w1.heap.size+1,0,none⟩),.pointer (some ⟨w1.heap.size+1+1,0,none⟩),.pointer (some ⟨w1.heap.size+1+2,0,none⟩)]) rfl trivial (enters_of Tryz.func53 (by kernel_rfl) rfl) (encs:=ckE) (fun _=>rfl)
  (CkY w w.heap.size w1.heap.size (w1.heap.size+1) root key Q) (CkI w w.heap.size w1.heap.size (w1.heap.size+1) root key) (CkO w w.heap.size Q) (CkS w w.heap.size w1.heap.size (w1.heap.size+1) root key ts) (CkZ w w.heap.size w1.heap.size (w1.heap.size+1) root key Q)
  (fun x=>ckI_put hw2) (fun c=>ckO_put hw2) (ckZ_put hw2)
  (fun o o'=>HJ.out.later (((Below.refl _ _).alloc (Nat.le_refl _) _).alloc (by simp) _))
  (fun l BK BX W hBK hBX hY hJ hB=>ck_iter w w.heap.size w1.heap.size (w1.heap.size+1) root key ts Q HT.out (by have:=HT.out.1;omega) (by omega) hk htm htl HQQ.out l BK BX W hBK hBX hY hJ hB)
  (fun x a₁ W=>CkY w w.heap.size w1.heap.size (w1.heap.size+1) root key Q x W∧∃ B,W.heap[B]? = some (.cells #[.string ⟨x.nx.toArray⟩,.string ⟨x.pa.toArray⟩,.int .i64 x.c,.string ⟨x.v.toArray⟩] 67 (0,0))∧a₁ = { tmps:=#[.string ⟨root.toArray⟩,.string ⟨key.toArray⟩,.slice bp ts.length cb,undef,undef,undef,.pointer (some ⟨w.heap.size,0,none⟩),.pointer (some ⟨w.heap.size+1,0,none⟩),.pointer (some ⟨w1.heap.size,0,none⟩),.func (.func 32) #[] #[.pointer (some ⟨w1.heap.size,0,none⟩)],undef,.pointer (some ⟨B,0,none⟩),.string ⟨root.toArray⟩,.int .i64 32,.bool false,.bool false,.string ⟨key.toArray⟩,.int .i64 (key.length:Int),.bool false,.bool false,.bool false,.slice bp ts.length cb,.int .i64 (ts.length:Int),.bool false,.bool false,.string ⟨root.toArray⟩,.string ⟨em.toArray⟩,.bool false,undef,undef,undef,.slice bp ts.length cb,.func (.func 32) #[] #[.pointer (some ⟨w1.heap.size,0,none⟩)],.string ⟨root.toArray⟩,.string ⟨key.toArray⟩,.func (.func 32) #[] #[.pointer (some ⟨w1.heap.size,0,none⟩)],.func (.func 53) #[] #[.pointer (some ⟨w1.heap.size+1,0,none⟩),.pointer (some ⟨w1.heap.size+1+1,0,none⟩),.pointer (some ⟨w1.heap.size+1+2,0,none⟩)],x.hv,.agg #[.string ⟨x.nx.toArray⟩,.string ⟨x.pa.toArray⟩,.int .i64 x.c,.string ⟨x.v.toArray⟩],undef,undef,undef,undef,undef,undef,undef,undef,undef,undef,undef,undef],defers:=[] })
  (fun x a₁ W l o o' h hl ho hc => by
   obtain⟨hy,B,hr,ha⟩:=h
   exact⟨ckY_put hw2 W l o o' hy hl ho hc,B,put_far ho hc hr,ha⟩) ?assign ?body ?done ?stop
 case assign =>
  rintro l ⟨hv,nx,pa,c,v,xs,sb⟩ W K hy hK
  dsimp only[ckE]
  gi_wp2
  exact hK _ _ (KeepsOthers.alloc W _) ⟨ckY_later hy ((Below.refl _ _).alloc (Nat.le_refl _) _),W.heap.size,heap_alloc_new W _,rfl⟩
 case body =>
  rintro l ⟨hv,nx,pa,c,v,xs,sb⟩ a₁ W ⟨hy,B,hrow,rfl⟩
  obtain⟨hs,hst,hq⟩:=hy
  dsimp only at hs hst hq hrow
  obtain⟨n0,n1,n2,n3⟩:=four_rowC hrow
  obtain⟨ao,cl,l1,l2,l3⟩:=hs.left
  have hcl:=cell_boxC l1
  have f0:=cell_boxC hs.r0
  have f1:=cell_boxC hs.r1
  have z0:=frozen_boxC hs.r0
  have z1:=frozen_boxC hs.r1
  have hord:=hs.ord
  have HS:Hid (CkS w w.heap.size w1.heap.size (w1.heap.size+1) root key xs W):=hs
  have HST:Hid (w1.heap.size+1+2<sb∧StepC ⟨hv,nx,pa,c,v,xs,sb⟩ W):=hst
  have HQ1:Hid (nx=[]→xs=[]→Q=if c=1 then (2,v) else (1,[])):=hq
  clear hs hst hq hrow l1 l2 l3
  dsimp only
  by_cases hn:nx=[]
  · subst hn
    cases xs with
    | nil =>
      have hqq:=HQ1.out rfl rfl
      have KS:=callsIn_wide (n:=0).2 (impl_shownBy [] pa c v W)
      obtain⟨s1,hs1⟩:∃ s1:Int,s1=if c=1 then 2 else 1:=⟨_,rfl⟩
      obtain⟨s2,hs2⟩:∃ s2:List UInt8,s2=if c=1 then v else []:=⟨_,rfl⟩
      rw[←hs1,←hs2] at KS
      have HQ2:Hid (Q.1=s1∧Q.2=s2):=by
       rw[Hid,hqq,hs1,hs2]
       by_cases hc:c=1
       · simp[hc]
       · simp[hc]
      clear HQ1 hqq hs1 hs2
      gi_wp2
      refine⟨trivial,(CallsIn.inRound l KS).mono ?_⟩
      rintro e w3 ⟨rfl,b3⟩
      have HS3:Hid (CkS w w.heap.size w1.heap.size (w1.heap.size+1) root key [] w3):=HS.out.later b3
      have g0:=cell_boxC HS3.out.r0
      have g1:=cell_boxC HS3.out.r1
      have y0:=frozen_boxC HS3.out.r0
      have y1:=frozen_boxC HS3.out.r1
      have HKO:Hid (KeepsOthers W w3):=keepsC b3
      clear f0 f1 z0 z1 KS b3 HS HST hcl n0 n1 n2 n3
      gi_wp2
      have two:=two_setC w3 w.heap.size (.int .i64 s1) (.string ⟨s2.toArray⟩) g0 g1
      refine⟨HKO.out.trans ((KeepsOthers.setCell _ _ _).trans (KeepsOthers.setCell _ _ _)),rfl,(HS3.out.below.setCell (Nat.le_refl _) _).setCell (by simp) _,?_,?_⟩
      · rw[HQ2.out.1];exact two.1
      · rw[HQ2.out.2];exact two.2
    | cons t r =>
      have hlen:((r.length:Int)+1 == 0)=false:=by rw[beq_eq_false_iff_ne];omega
      clear HQ1
      gi_wp2
      exact⟨KeepsOthers.refl _,HS.out,HST.out.2,fun h=>by cases h.2⟩
  · have hne:nx.isEmpty=false:=by cases nx with | nil=>exact absurd rfl hn | cons _ _=>rfl
    have hnb:(nx == [])=false:=by rw[beq_eq_false_iff_ne];exact hn
    have HN:Hid (¬ nx=[]):=hn
    clear HQ1 hn
    gi_wp2
    exact⟨KeepsOthers.refl _,HS.out,HST.out.2,fun h=>HN.out h.1⟩
 case done =>
  rintro D W hD ⟨hq,xs,hs⟩ hK
  subst hq
  have f0:=cell_boxC hs.r0
  have f1:=cell_boxC hs.r1
  have z0:=frozen_boxC hs.r0
  have z1:=frozen_boxC hs.r1
  have HS:Hid (CkS w w.heap.size w1.heap.size (w1.heap.size+1) root key xs W):=hs
  have HK:Hid (W.heap[D]? = some (.deferred (some []))):=hK
  clear hs hK
  gi_wp2
  have two:=two_setC W w.heap.size (.int .i64 0) (.string ⟨#[]⟩) f0 f1
  have hK':=((KeepsOthers.setCell W ⟨w.heap.size,0,none⟩ (.int .i64 0)).trans (KeepsOthers.setCell _ ⟨w.heap.size+1,0,none⟩ (.string ⟨#[]⟩))).same D _ HK.out rfl
  refine⟨by simp,.inl ⟨_,_,rfl,run_takeDeferred hK',?_⟩⟩
  have e0:=raw_cell (o':=.deferred none) two.1 hK' rfl
  have e1:=raw_cell (o':=.deferred none) two.2 hK' rfl
  refine⟨.tuple #[.int .i64 0,.string ⟨#[]⟩],?_,rfl,raw_below hw2 _ _ _ _ ((HS.out.below.setCell (Nat.le_refl _) _).setCell (by simp) _) hD hK' rfl⟩
  simp[results,Tryz.f11,go_sem,e0,e1]
 case stop =>
  rintro D c W hD ⟨rfl,hb,hc0,hc1⟩ hK
  gi_wp2
  refine⟨by simp,.inl ⟨_,_,rfl,run_takeDeferred hK,?_⟩⟩
  have e0:=raw_cell (o':=.deferred none) hc0 hK rfl
  have e1:=raw_cell (o':=.deferred none) hc1 hK rfl
  refine⟨.tuple #[.int .i64 Q.1,.string ⟨Q.2.toArray⟩],?_,rfl,raw_below hw2 _ _ _ _ hb hD hK rfl⟩
  simp[results,Tryz.f11,go_sem,e0,e1]
set_option maxRecDepth 100000 in
set_option maxHeartbeats 1000000 in
theorem impl_checkProof (root key:List UInt8) (bp:Option Addr) (cb:Nat) (ts:List (List UInt8)) (w:World) (hT:Tab w) (hcap:ts.length≤cb) (hr:root.length≤1048576) (hk:key.length≤1048576) (htl:ts.length≤1048576) (htm:∀ l∈ts,l.length≤1048576) (hts:IsStrs w bp ts) :
 Calls Tryz.prog 11 #[.string ⟨root.toArray⟩,.string ⟨key.toArray⟩,.slice bp ts.length cb] w fun e w'=>e=.returned (.tuple #[.int .i64 (chkR root key ts).1,.string ⟨(chkR root key ts).2.toArray⟩])∧Below w.heap.size w w':=by
 by_cases hok:chkOk root key ts=true
 · have hparts:=hok
   simp only[chkOk,Bool.and_eq_true,decide_eq_true_eq] at hparts
   obtain⟨h1,h2,h3⟩:=hparts
   by_cases he:root=emptyL
   · subst he
     rw[chkR_empty key ts hok]
     have hzr:(ByteArray.mk emptyL.toArray).size=emptyL.length:=by simp[ByteArray.size]
     have hzk:(ByteArray.mk key.toArray).size=key.length:=by simp[ByteArray.size]
     have K1:=impl_empty ((w.alloc (.cells #[.int .i64 0] 2)).alloc (.cells #[.string ⟨#[]⟩] 9)) (hT.later (((Below.refl _ _).alloc (Nat.le_refl _) _).alloc (by simp) _))
     obtain⟨em,hem⟩:∃ em,em=emptyL:=⟨_,rfl⟩
     rw[←hem] at K1 hzr h1 ⊢
     have h1'':(em.length:Int)=32:=by omega
     have h2':(key.length:Int)≤12:=by omega
     have h3':(ts.length:Int)≤30:=by omega
     have h1':((em.length:Int) != 32)=false:=by rw[bne_eq_false_iff_eq];omega
     have h2b:decide ((12:Int)<(key.length:Int))=false:=decide_eq_false (by omega)
     have h3b:decide ((30:Int)<(ts.length:Int))=false:=decide_eq_false (by omega)
     clear hT hts hem htm hok h1 h2 h3
     by_cases hte:ts=[]
     · subst hte
       rw[if_pos rfl]
       go_enter Tryz.func11,Tryz.ntmps11
       go_wp2_with fail
       refine K1.mono ?_
       rintro e w1 ⟨rfl,b1⟩
       have HB:=ck_two b1
       obtain⟨f0,f1,z0,z1,bb⟩:=HB
       clear K1
       go_wp2
       have two:=two_setC w1 w.heap.size (.int .i64 1) (.string ⟨#[]⟩) f0 f1
       exact bodyPost_ret (v:=.tuple #[.int .i64 1,.string ⟨#[]⟩]) (by simp[results,Tryz.f11,go_sem,two.1,two.2]) rfl ⟨rfl,(bb.setCell (Nat.le_refl _) _).setCell (by simp) _⟩
     · rw[if_neg hte]
       have hp0:0<ts.length:=List.length_pos_iff.2 hte
       have hpos:(0:Int)<(ts.length:Int):=by omega
       clear hte hp0
       go_enter Tryz.func11,Tryz.ntmps11
       go_wp2_with fail
       refine K1.mono ?_
       rintro e w1 ⟨rfl,b1⟩
       have HB:=ck_two b1
       obtain⟨f0,f1,z0,z1,bb⟩:=HB
       clear K1
       go_wp2
       have two:=two_setC w1 w.heap.size (.int .i64 0) (.string ⟨#[]⟩) f0 f1
       exact bodyPost_ret (v:=.tuple #[.int .i64 0,.string ⟨#[]⟩]) (by simp[results,Tryz.f11,go_sem,two.1,two.2]) rfl ⟨rfl,(bb.setCell (Nat.le_refl _) _).setCell (by simp) _⟩
   · rw[chkR_way root key ts hok he]
     exact ck_loop root key bp cb ts w hT hcap h1 h2 h3 htm hts he _ rfl
 · have hok':chkOk root key ts=false:=by simpa using hok
   rw[chkR_no root key ts hok']
   have hzr:(ByteArray.mk root.toArray).size=root.length:=by simp[ByteArray.size]
   have hzk:(ByteArray.mk key.toArray).size=key.length:=by simp[ByteArray.size]
   have hor:¬ root.length=32∨(root.length=32∧12<key.length)∨(root.length=32∧key.length≤12∧30<ts.length):=by
    simp only[chkOk,Bool.and_eq_true,decide_eq_true_eq] at hok
    omega
   clear hT hts htm hok hok'
   rcases hor with h1 | ⟨h1,h2⟩ | ⟨h1,h2,h3⟩
   · have h1':((root.length:Int) != 32)=true:=by rw[bne_iff_ne];omega
     have h1'':¬ (root.length:Int)=32:=by omega
     clear h1
     go_enter Tryz.func11,Tryz.ntmps11
     go_wp2
     obtain⟨f0,f1,_,_,bb⟩:=ck_two (w:=w) (Below.refl _ _)
     exact bodyPost_ret (v:=.tuple #[.int .i64 0,.string ⟨#[]⟩]) (by simp[results,Tryz.f11,go_sem]) rfl ⟨rfl,bb⟩
   · have h1':((root.length:Int) != 32)=false:=by rw[bne_eq_false_iff_eq];omega
     have h1'':(root.length:Int)=32:=by omega
     have h2':¬ (key.length:Int)≤12:=by omega
     have h2b:decide ((12:Int)<(key.length:Int))=true:=decide_eq_true (by omega)
     clear h1 h2
     go_enter Tryz.func11,Tryz.ntmps11
     go_wp2
     obtain⟨f0,f1,_,_,bb⟩:=ck_two (w:=w) (Below.refl _ _)
     exact bodyPost_ret (v:=.tuple #[.int .i64 0,.string ⟨#[]⟩]) (by simp[results,Tryz.f11,go_sem]) rfl ⟨rfl,bb⟩
   · have h1':((root.length:Int) != 32)=false:=by rw[bne_eq_false_iff_eq];omega
     have h1'':(root.length:Int)=32:=by omega
     have h2':(key.length:Int)≤12:=by omega
     have h2b:decide ((12:Int)<(key.length:Int))=false:=decide_eq_false (by omega)
     have h3':¬ (ts.length:Int)≤30:=by omega
     have h3b:decide ((30:Int)<(ts.length:Int))=true:=decide_eq_true (by omega)
     clear h1 h2 h3
     go_enter Tryz.func11,Tryz.ntmps11
     go_wp2
     obtain⟨f0,f1,_,_,bb⟩:=ck_two (w:=w) (Below.refl _ _)
     exact bodyPost_ret (v:=.tuple #[.int .i64 0,.string ⟨#[]⟩]) (by simp[results,Tryz.f11,go_sem]) rfl ⟨rfl,bb⟩
end Go.Proofs.YtckoglgcjcmmkaaGreatDoor
