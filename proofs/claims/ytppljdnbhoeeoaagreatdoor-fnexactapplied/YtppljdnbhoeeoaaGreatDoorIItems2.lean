/-
 Texts that are laid as one: Reads2, ListItems, IItems.
-/
import Derived.Test.YtppljdnbhoeeoaaGreatDoorReadAll
namespace Go.Proofs.YtppljdnbhoeeoaaGreatDoor
open Go.RowKit
set_option linter.unusedVariables false
set_option maxHeartbeats 400000
set_option maxRecDepth 100000
theorem zw4 (caps:Array Value) (w:World) (R:World→Prop)
 (H:Calls Tryz.prog 199 caps (w.alloc (.cells #[.bool false] 4)) fun e w'=>e=.returned (.tuple #[])∧w'.heap[w.heap.size]? = some (.cells #[.bool false] 4 (0,0))∧R w') :
 Calls Tryz.prog 198 #[.func (.func 199) #[] caps] w fun e w'=>e=.returned (.bool true)∧∃ w1,R w1∧w'=w1.setCell ⟨w.heap.size,0,none⟩ (.bool true):=by
 have hmf:∀ (fn:Fn) (first cap:Array Value) (w:World),(Instr.makeFunc fn first cap).run Tryz.prog w=.ok (.func fn first cap) w:=fun _ _ _ _=>rfl
 go_enter_defers Tryz.func198,Tryz.ntmps198
 go_wp2_with fail
 refine H.mono ?_
 rintro e w1 ⟨rfl,hb,hR⟩
 have hc:=cell_of_one hb
 have hf:=free_of_one hb
 have hc2:=cell_of_one (one_setCell (u:=.bool true) hb)
 go_wp2
 refine leaves_cons (f:=216) (args:=#[.pointer (some ⟨w.heap.size,0,none⟩)]) (by simp) (by simp[go_sem]) ?_
 refine (catch_idle ⟨w.heap.size,0,none⟩ _).mono ?_
 rintro e u' w'' ⟨rfl,rfl,rfl⟩
 refine⟨.bool true,?_,rfl,w1,hR,rfl⟩
 simp[results,Tryz.results198,go_sem,hc2]
theorem zw5 (caps:Array Value) (w:World) (R:World→Prop)
 (H:Calls Tryz.prog 199 caps (w.alloc (.cells #[.bool false] 4)) fun e w'=>zdk e∧w'.heap[w.heap.size]? = some (.cells #[.bool false] 4 (0,0))∧R w') :
 Calls Tryz.prog 198 #[.func (.func 199) #[] caps] w fun e w'=>e=.returned (.bool false)∧∃ w1,R w1∧w'=w1.setCell ⟨w.heap.size,0,none⟩ (.bool false):=by
 have hmf:∀ (fn:Fn) (first cap:Array Value) (w:World),(Instr.makeFunc fn first cap).run Tryz.prog w=.ok (.func fn first cap) w:=fun _ _ _ _=>rfl
 go_enter_defers Tryz.func198,Tryz.ntmps198
 go_wp2_with fail
 refine H.mono ?_
 rintro e w1 ⟨⟨msg,rfl⟩,hb,hR⟩
 have hc:=cell_of_one hb
 have hf:=free_of_one hb
 have hc2:=cell_of_one (one_setCell (u:=.bool false) hb)
 refine leaves_cons (f:=216) (args:=#[.pointer (some ⟨w.heap.size,0,none⟩)]) (by simp) (by simp[go_sem]) ?_
 refine (catch_panicking ⟨w.heap.size,0,none⟩ false 9 _ [] _ hc hf).mono ?_
 rintro e u' w'' ⟨rfl,rfl,rfl⟩
 simp[Leaves,settle,results,Tryz.results198,go_sem,hc2]
 exact⟨w1,hR,rfl⟩
theorem info9':(Tryz.prog.info? 9).map (fun i=>(i.zero,i.size,i.bytes))=some (some (.string ⟨#[]⟩),1,16):=by kernel_rfl
def zns (w:World) (o:Option (List (List UInt8))) (e:Ending) (w':World):Prop:=match o with
 | none=>zdk e∧Below w.heap.size w w'
 | some ls=>∃ v,e=.returned v∧w'.ownsRow w.heap.size 9 1 v ls.length (zh ls)∧Below w.heap.size w w'∧ls.length≤1048576
theorem Turned.below {b:Nat} {r:List UInt8} {w w' w0:World} (h:Turned b r w w') (h0:Below w0.heap.size w0 w) (hb:w0.heap.size≤b):Below w0.heap.size w0 w' :=
 h0.trans ⟨h.os,h.tape,h.output,h.size,fun k hk=>h.block k (Nat.lt_of_lt_of_le hk h0.size) (by omega)⟩
theorem Turned.grown {b:Nat} {r:List UInt8} {w w':World} (h:Turned b r w w'):w.grownBy w' (some b):=⟨h.os,h.tape,h.output,h.size,fun k hk hn=>h.block k hk (fun e=>hn (by rw[e]))⟩
theorem znt (l:List UInt8) (w:World) (hl:l.length≤1048576) (h:zn l=none∨∃ k bd rest,zn l=some (k,bd,rest)∧(k≠2∨rest≠[])) :
 Calls Tryz.prog 200 #[.string ⟨l.toArray⟩] w fun e w'=>zdk e∧Below w.heap.size w w':=by
 have hb:=heap_alloc_new w (.cells #[.string ⟨l.toArray⟩] 248)
 have hB:Below w.heap.size w (w.alloc (.cells #[.string ⟨l.toArray⟩] 248)):=(Below.refl _ _).alloc (Nat.le_refl _) _
 rcases h with h | ⟨k,bd,rest,h,hk⟩
 · have HK:=zky w.heap.size l _ hb hl h
   clear h hb
   go_enter Tryz.func200,Tryz.ntmps200
   go_wp2_with fail
   refine HK.mono ?_
   rintro e w1 ⟨⟨msg,rfl⟩,r',hT⟩
   exact⟨rfl,⟨_,rfl⟩,hT.below hB (Nat.le_refl _)⟩
 · have HK:=zi6 w.heap.size l bd rest k _ hb hl h
   have hk12:=zgn l k bd rest h
   clear h hb
   rcases hk12 with rfl | rfl
   · go_enter Tryz.func200,Tryz.ntmps200
     go_wp2_with fail
     refine HK.mono ?_
     rintro e w1 ⟨rfl,hT⟩
     go_wp2
     exact⟨rfl,⟨_,rfl⟩,hT.below hB (Nat.le_refl _)⟩
   · have hr:rest≠[]:=by rcases hk with hk | hk;exact absurd rfl hk;exact hk
     obtain⟨a,r,rfl⟩:∃ a r,rest=a :: r:=by cases rest with
      | nil=>exact absurd rfl hr
      | cons a r=>exact⟨a,r,rfl⟩
     clear hk hr
     go_enter Tryz.func200,Tryz.ntmps200
     go_wp2_with fail
     refine HK.mono ?_
     rintro e w1 ⟨rfl,hT⟩
     have hc:=cell_of_one hT.cell
     go_wp2
     exact⟨rfl,⟨_,rfl⟩,hT.below hB (Nat.le_refl _)⟩
theorem zw6 (l body:List UInt8) (w:World) (hl:l.length≤1048576) (h:zn l=some (2,body,[])) :
 Calls Tryz.prog 200 #[.string ⟨l.toArray⟩] w fun e w'=>zns w (zar body.length body) e w':=by
 obtain⟨i0,hi0,hz0,hz1,hz2⟩:=info_parts info9'
 have hbl:=(zfg l 2 body [] h).2
 have hb:=heap_alloc_new w (.cells #[.string ⟨l.toArray⟩] 248)
 have hB:Below w.heap.size w (w.alloc (.cells #[.string ⟨l.toArray⟩] 248)):=(Below.refl _ _).alloc (Nat.le_refl _) _
 have HK:=zi6 w.heap.size l body [] 2 _ hb hl h
 obtain⟨total,htot⟩:∃ total,total=zar body.length body:=⟨_,rfl⟩
 rw[←htot]
 have HT:Hid (total=zar body.length body):=htot
 clear h htot hb
 go_enter Tryz.func200,Tryz.ntmps200
 go_wp2_with fail
 refine HK.mono ?_
 rintro e w1 ⟨rfl,hT⟩
 have hc:=cell_of_one hT.cell
 have hb1:=hT.below hB (Nat.le_refl _)
 have hs1:=hb1.size
 clear HK hT hB
 go_wp2
 go_loopw [6,8] (fun o _ wr=>∃ f:Nat,∃ left:List UInt8,∃ done:List (List UInt8),left.length≤f∧done.length+left.length≤body.length ∧
  wr.heap[w1.heap.size]? = some (.cells #[.string ⟨left.toArray⟩] 248 (0,0))∧w1.heap.size+1≤wr.heap.size ∧
  wr.ownsRow (w1.heap.size+1) 9 1 o done.length (zh done)∧Below w.heap.size w wr∧Hid (total=(zar f left).map (done ++ ·))) (fun o _ _=>body.length - vlen o)
 case atStart=>exact⟨body.length,body,[],Nat.le_refl _,by simp,heap_alloc_new w1 _,by simp,World.ownsRow_nil _ _ _ _,hb1.alloc hs1 _,by rw[Hid,HT.out];cases zar body.length body <;> rfl⟩
 case round =>
  obtain⟨f,left,done,hf,hdl,hrd,hsr,hown,hbel,HL⟩:=hrel
  have hc1:=cell_of_one hrd
  have HVL:Hid (vlen _=done.length):=zz6 hown
  cases left with
  | nil =>
    have HR:Hid (total=some done):=by rw[Hid,HL.out,zhw];simp
    clear hrd
    go_wp2
    go_ret
    rw[HR.out]
    exact⟨_,rfl,hown.mono (by omega),hbel,by simp at hdl;omega⟩
  | cons c r =>
    have hll:(c :: r).length≤1048576:=by omega
    cases ht:zn (c :: r) with
    | none =>
      have HR:Hid (total=none):=by rw[Hid,HL.out,zkc f c r ht];rfl
      have HK:=zky w1.heap.size (c :: r) wr hrd hll ht
      clear ht hrd
      go_wp2_with fail
      refine HK.mono ?_
      rintro e w2 ⟨⟨msg,rfl⟩,r',hT⟩
      refine⟨rfl,?_⟩
      rw[HR.out]
      exact⟨⟨_,rfl⟩,hT.below hbel (by omega)⟩
    | some x =>
      obtain⟨k,bd,more⟩:=x
      have hml:=(zfg _ _ _ _ ht).1
      obtain⟨f',rfl⟩:∃ f',f=f'+1:=⟨f - 1,by simp at hf;omega⟩
      have HR:Hid (total=(zar f' more).map ((done ++ [(c :: r).take ((c :: r).length - more.length)]) ++ ·)):=by
       rw[Hid,HL.out,zkd f' c r k bd more ht]
       cases zar f' more <;> simp
      have HK:=zi6 w1.heap.size (c :: r) bd more k wr hrd hll ht
      clear ht hrd
      have hx1:=zdf (c :: r) ((c :: r).length - more.length) (by omega)
      have hml':more.length≤r.length:=by simp at hml;omega
      have hrl:r.length≤1048576:=by simp at hll;omega
      obtain⟨it,hit⟩:∃ it,it=(c :: r).take ((c :: r).length - more.length):=⟨_,rfl⟩
      rw[←hit] at hx1 HR
      rw[List.length_cons] at hx1
      clear hit hml
      have hlt0:=hown.lt
      go_wp2_with fail
      refine HK.mono ?_
      rintro e w2 ⟨rfl,hT⟩
      have hc2:=cell_of_one hT.cell
      have hown2:=hown.kept hT.grown (.inr (fun e=>by have:=(hlt0 _ e).1;omega))
      have hbel2:=hT.below hbel (by omega)
      have hsz2:=hbel2.size
      have hs2:=hT.size
      have hcell2:=hT.cell
      clear hown hbel HK hT hc1
      go_wp2_with (at_builtin;refine wpList_append_lies _ rfl _ _ 138 rfl (w1.heap.size+1) 9 i0 (.string ⟨#[]⟩) 1 16 Tryz.underlying138 hi0 hz0 hz1 hz2 rfl (by decide) _ done.length _ rfl (hown2.alloc _) ⟨w2.heap.size,0,none⟩ 1 1 [.string ⟨it.toArray⟩] rfl rfl (World.news_of_block (cs:=#[.string ⟨it.toArray⟩]) (t:=9) (fr:=(0,0)) (heap_alloc_new w2 _)) (by simp[Value.oneCell']) (by omega) (by simp at hdl;unfold maxLen;omega) (by simp at hdl;omega) (by simp;omega) (w2.heap.size+1) (by simp) ?_;intro g2 cap2 w3 hown3 hgrow hat hlt1)
      have hgr:(w2.alloc (.cells #[.string ⟨it.toArray⟩] 9)).grownBy w3 u6.ownBlock:=hgrow
      have hrd3:w3.heap[w1.heap.size]? = some (.cells #[.string ⟨more.toArray⟩] 248 (0,0)):=by
       rw[hgr.block w1.heap.size (by simp;omega) (fun e=>by have:=(hlt0 _ e.symm).1;omega),Below.heap_alloc _ _ _ (by omega)];exact hcell2
      have hbel3:Below w.heap.size w w3:=(hbel2.alloc hsz2 _).grown hgr (by simp;omega) (fun k e=>by have:=(hlt0 _ e).1;omega)
      have hs3:w1.heap.size+1≤w3.heap.size:=by have:=hgr.size;simp at this;omega
      clear hgrow hgr hat
      go_roundw
      case rel=>exact⟨f',more,done ++ [it],by simp at hf;omega,by simp at hdl ⊢;omega,hrd3,hs3,by rw[zc0];simpa using hown3,hbel3,HR⟩
      case measure=>rw[HVL.out];simp[vlen] at hdl ⊢;omega
theorem znu (l:List UInt8) (w:World) (hl:l.length≤1048576) :
 Calls Tryz.prog 200 #[.string ⟨l.toArray⟩] w fun e w'=>zns w (zbb l) e w':=by
 cases h:zn l with
 | none=>rw[zke l h];exact znt l w hl (.inl h)
 | some x =>
   obtain⟨k,bd,rest⟩:=x
   by_cases hk:k≠2∨rest≠[]
   · rw[zkf l k bd rest h hk];exact znt l w hl (.inr ⟨k,bd,rest,h,hk⟩)
   · have hk2:k=2:=by omega
     have hr:rest=[]:=Classical.byContradiction fun hn=>hk (.inr hn)
     subst hk2 hr
     rw[zkg l bd h]
     exact zw6 l bd w hl h
structure GotR (W:World) (ib:Nat) (ls:List (List UInt8)) (w':World):Prop where
 os:w'.os=W.os
 tape:w'.tape=W.tape
 output:w'.output=W.output
 size:W.heap.size≤w'.heap.size
 block:∀ j,j<W.heap.size→j≠ib→w'.heap[j]? = W.heap[j]?
 items:∃ v,w'.heap[ib]? = some (.cells #[v] 138 (0,0))∧w'.ownsRow W.heap.size 9 1 v ls.length (zh ls)
 few:ls.length≤1048576
theorem zw7 (sb ib:Nat) (l:List UInt8) (ls:List (List UInt8)) (o:Value) (w:World)
 (hs:w.heap[sb]? = some (.cells #[.string ⟨l.toArray⟩] 9 (0,0))) (hi:w.heap[ib]? = some (.cells #[o] 138 (0,0))) (hl:l.length≤1048576) (h:zbb l=some ls) :
 Calls Tryz.prog 199 #[.pointer (some ⟨sb,0,none⟩),.pointer (some ⟨ib,0,none⟩)] w fun e w'=>e=.returned (.tuple #[])∧GotR w ib ls w':=by
 have HK:=znu l w hl
 rw[h] at HK
 have cs:=cell_of_one hs
 have li:=lt_of_block hi
 clear h hs
 go_enter Tryz.func199,Tryz.ntmps199
 go_wp2_with fail
 refine HK.mono ?_
 rintro e w1 ⟨v,rfl,hown,hbel,hfew⟩
 obtain⟨va,vm,vc,hvs⟩:=zdu hown
 subst hvs
 have hi1:=(hbel.block ib li).trans hi
 have ci:=cell_of_one hi1
 have fi:=free_of_one hi1
 have hi2:=one_setCell (u:=.slice va vm vc) hi1
 have HR:GotR w ib ls (w1.setCell ⟨ib,0,none⟩ (.slice va vm vc)) :=
  ⟨hbel.os, hbel.tape, hbel.output, by have := hbel.size; simpa [World.setCell] using this, fun j hj hn => by rw [Below.heap_setCell _ _ _ _ hn]; exact hbel.block j hj,
   ⟨.slice va vm vc,hi2,ownsRow_setCell_other hown (fun e=>by have:=(hown.lt _ e).1;simp at this;omega) _⟩,hfew⟩
 clear HK hi1 hi2 hown hbel hi
 go_wp2
 go_end0
 exact⟨rfl,HR⟩
theorem zw8 (sb ib:Nat) (l:List UInt8) (w:World)
 (hs:w.heap[sb]? = some (.cells #[.string ⟨l.toArray⟩] 9 (0,0))) (hl:l.length≤1048576) (h:zbb l=none) :
 Calls Tryz.prog 199 #[.pointer (some ⟨sb,0,none⟩),.pointer (some ⟨ib,0,none⟩)] w fun e w'=>zdk e∧Below w.heap.size w w':=by
 have HK:=znu l w hl
 rw[h] at HK
 have cs:=cell_of_one hs
 clear h hs
 go_enter Tryz.func199,Tryz.ntmps199
 go_wp2_with fail
 refine HK.mono ?_
 rintro e w1 ⟨⟨msg,rfl⟩,hbel⟩
 exact⟨rfl,⟨_,rfl⟩,hbel⟩
theorem znv (w:World) (A B C:Obj) :
 (((w.alloc A).alloc B).alloc C).heap[w.heap.size]? = some A∧(((w.alloc A).alloc B).alloc C).heap[w.heap.size+1]? = some B ∧
 (((w.alloc A).alloc B).alloc C).heap[w.heap.size+1+1]? = some C∧(((w.alloc A).alloc B).alloc C).heap.size=w.heap.size+3:=by
 refine⟨?_,?_,?_,by simp⟩
 · rw[Below.heap_alloc _ _ _ (by simp;omega),Below.heap_alloc _ _ _ (by simp)];exact zcj _ _ _ rfl
 · rw[Below.heap_alloc _ _ _ (by simp)];exact zcj _ _ _ (by simp)
 · exact zcj _ _ _ (by simp)
theorem znw (w:World) (A B C:Obj):Below w.heap.size w (((w.alloc A).alloc B).alloc C) :=
 (((Below.refl _ _).alloc (Nat.le_refl _) _).alloc (by simp) _).alloc (by simp;omega) _
theorem zw9 (l:List UInt8) (ls:List (List UInt8)) (w:World) (hl:l.length≤1048576) (h:zbb l=some ls) :
 Calls Tryz.prog 165 #[.string ⟨l.toArray⟩] w fun e w'=>∃ v,e=.returned (.tuple #[v,.bool true])∧w'.ownsRow w.heap.size 9 1 v ls.length (zh ls)∧Below w.heap.size w w'∧ls.length≤1048576:=by
 have hmf:∀ (fn:Fn) (first cap:Array Value) (w:World),(Instr.makeFunc fn first cap).run Tryz.prog w=.ok (.func fn first cap) w:=fun _ _ _ _=>rfl
 obtain⟨W,hW⟩:∃ W,W=((w.alloc (.cells #[.string ⟨l.toArray⟩] 9)).alloc (.cells #[.slice none 0 0] 138)):=⟨_,rfl⟩
 have HB:=znv w (.cells #[.string ⟨l.toArray⟩] 9) (.cells #[.slice none 0 0] 138) (.cells #[.bool false] 4)
 have HL:=znw w (.cells #[.string ⟨l.toArray⟩] 9) (.cells #[.slice none 0 0] 138) (.cells #[.bool false] 4)
 rw[←hW] at HB HL
 have hWs:W.heap.size=w.heap.size+1+1:=by rw[hW];simp
 have hsz:=HB.2.2.2
 have HC:=zw7 w.heap.size (w.heap.size+1) l ls _ (W.alloc (.cells #[.bool false] 4)) HB.1 HB.2.1 hl h
 have HD:=zw4 _ W (GotR (W.alloc (.cells #[.bool false] 4)) (w.heap.size+1) ls)
  (HC.mono fun e w' ⟨he,hR⟩=>⟨he,by rw[hWs,hR.block _ (by omega) (by omega)];exact HB.2.2.1,hR⟩)
 rw[hWs] at HD
 obtain⟨R,hRd⟩:∃ R,R=GotR (W.alloc (.cells #[.bool false] 4)) (w.heap.size+1) ls:=⟨_,rfl⟩
 have HR1:∀ w',R w'→∃ v,w'.heap[w.heap.size+1]? = some (.cells #[v] 138 (0,0))∧w'.ownsRow (w.heap.size+3) 9 1 v ls.length (zh ls):=fun w' h=>by rw[hRd] at h;have:=h.items;rw[hsz] at this;exact this
 have HR2:∀ w',R w'→Below w.heap.size w w'∧ls.length≤1048576:=fun w' h=>by
  rw[hRd] at h
  exact⟨HL.trans ⟨h.os,h.tape,h.output,h.size,fun j hj=>h.block j (by omega) (by omega)⟩,h.few⟩
 rw[←hRd,hW] at HD
 clear HC HB h hRd HL hsz hWs hW
 go_enter Tryz.func165,Tryz.ntmps165
 go_wp2_with fail
 refine HD.mono ?_
 rintro e w2 ⟨rfl,w1,hR,hw2⟩
 obtain⟨v,hv1,hv2⟩:=HR1 w1 hR
 obtain⟨va,vm,vc,hvs⟩:=zdu hv2
 subst hvs
 have hc:w2.cell? ⟨w.heap.size+1,0,none⟩=some (.slice va vm vc):=cell_of_one (t:=138) (by rw[hw2,Below.heap_setCell _ _ _ _ (by simp)];exact hv1)
 have hown:w2.ownsRow w.heap.size 9 1 (.slice va vm vc) ls.length (zh ls):=by
  rw[hw2]
  exact (ownsRow_setCell_other hv2 (fun e=>by have:=(hv2.lt _ e).1;simp at this;omega) _).mono (by omega)
 have hbl:Below w.heap.size w w2:=by rw[hw2];exact (HR2 w1 hR).1.setCell (by simp;omega) _
 have hfew:=(HR2 w1 hR).2
 have HO:Hid (w2.ownsRow w.heap.size 9 1 (.slice va vm vc) ls.length (zh ls)):=hown
 clear hR HR1 HR2 HD hw2 hv1 hv2 hown
 go_wp2
 go_ret2
 exact⟨_,rfl,HO.out,hbl,hfew⟩
theorem zwa (l:List UInt8) (w:World) (hl:l.length≤1048576) (h:zbb l=none) :
 Calls Tryz.prog 165 #[.string ⟨l.toArray⟩] w fun e w'=>e=.returned (.tuple #[.slice none 0 0,.bool false])∧Below w.heap.size w w':=by
 have hmf:∀ (fn:Fn) (first cap:Array Value) (w:World),(Instr.makeFunc fn first cap).run Tryz.prog w=.ok (.func fn first cap) w:=fun _ _ _ _=>rfl
 obtain⟨W,hW⟩:∃ W,W=((w.alloc (.cells #[.string ⟨l.toArray⟩] 9)).alloc (.cells #[.slice none 0 0] 138)):=⟨_,rfl⟩
 have HB:=znv w (.cells #[.string ⟨l.toArray⟩] 9) (.cells #[.slice none 0 0] 138) (.cells #[.bool false] 4)
 have HL:=znw w (.cells #[.string ⟨l.toArray⟩] 9) (.cells #[.slice none 0 0] 138) (.cells #[.bool false] 4)
 rw[←hW] at HB HL
 have hWs:W.heap.size=w.heap.size+1+1:=by rw[hW];simp
 have hsz:=HB.2.2.2
 have HC:=zw8 w.heap.size (w.heap.size+1) l (W.alloc (.cells #[.bool false] 4)) HB.1 hl h
 have HD:=zw5 _ W (fun w'=>Below w.heap.size w w')
  (HC.mono fun e w' ⟨he,hR⟩=>⟨he,by rw[hWs,hR.block _ (by omega)];exact HB.2.2.1,HL.trans (hR.mono (by omega))⟩)
 rw[hWs,hW] at HD
 clear HC HB h HL hsz hWs hW
 go_enter Tryz.func165,Tryz.ntmps165
 go_wp2_with fail
 refine HD.mono ?_
 rintro e w2 ⟨rfl,w1,hR,hw2⟩
 have hbl:Below w.heap.size w w2:=by rw[hw2];exact hR.setCell (by simp;omega) _
 clear hR HD hw2
 go_wp2
 go_ret2
 exact⟨rfl,hbl⟩
theorem zwb (l:List UInt8) (w:World) (hl:l.length≤1048576) :
 Calls Tryz.prog 165 #[.string ⟨l.toArray⟩] w fun e w'=>zkh w (zbb l) e w':=by
 cases h:zbb l with
 | none=>exact zwa l w hl h
 | some ls=>exact zw9 l ls w hl h
end Go.Proofs.YtppljdnbhoeeoaaGreatDoor
