/-
 Contracts: ProofOf, of the program and of the model.
-/
import Derived.Test.YtckoglgcjcmmkaaGreatDoorIPrf
import Derived.Maps.AppendAt
namespace Go.Proofs.YtckoglgcjcmmkaaGreatDoor
open Go.RowKit Go.Shelf
set_option linter.unusedVariables false
attribute [local go_sem] Oper.semAt_some
def proofR (ps:List PairL) (root key:List UInt8):Option (List (List UInt8)):=if getC ps root key=3∨getC ps root key=2 then none else some (walkL ps root key).1
def FPost (w:World) (res:Option (List (List UInt8))) (e:Ending) (w':World):Prop:=∃ (a:Option Addr) (m c:Nat),e=.returned (.tuple #[.slice a m c,.bool res.isSome])∧w'.ownsRow w.heap.size 9 1 (.slice a m c) (res.getD []).length (scells (res.getD []))∧Below w.heap.size w w'
theorem fp_none {w w':World} {res:Option (List (List UInt8))} (h:res=none) (hb:Below w.heap.size w w'):FPost w res (.returned (.tuple #[.slice none 0 0,.bool false])) w':=by
 subst h
 exact⟨none,0,0,rfl,World.ownsRow_nil _ _ _ _,hb⟩
theorem way_len (find:List UInt8→Option (List UInt8)):∀ (f:Nat) (h p:List UInt8),(wayL find f h p).1.length≤f
 | 0,h,p=>by simp[wayL]
 | f + 1, h, p => by
   cases hf:find h with
   | none=>rw[wayL_none _ _ _ _ hf];simp
   | some t =>
     cases hs:stepL (nodeAt t) p with
     | ends c v=>rw[wayL_ends _ _ _ _ t c v hf hs];simp
     | on h' p'=>rw[wayL_on _ _ _ _ t h' p' hf hs];have:=way_len find f h' p';simp;omega
theorem proof_len (ps:List PairL) (root key:List UInt8):((proofR ps root key).getD []).length≤30:=by
 unfold proofR
 split
 · simp
 · show (walkL ps root key).1.length≤30
   unfold walkL
   split
   · simp
   · exact way_len _ _ _ _
theorem walk_codes (find:List UInt8→Option (List UInt8)):∀ (f:Nat) (h p:List UInt8),(wayL find f h p).2.1≠3
 | 0,h,p=>by simp[wayL]
 | f + 1, h, p => by
   cases hf:find h with
   | none=>rw[wayL_none _ _ _ _ hf];simp
   | some t =>
     cases hs:stepL (nodeAt t) p with
     | ends c v =>
       rw[wayL_ends _ _ _ _ t c v hf hs]
       show c≠3
       rcases stepL_code _ _ _ _ hs with rfl | rfl <;> decide
     | on h' p'=>rw[wayL_on _ _ _ _ t h' p' hf hs];exact walk_codes find f h' p'
set_option maxRecDepth 100000 in
set_option maxHeartbeats 1000000 in
theorem spec_proofOf (a:Option Addr) (cap:Nat) (ps:List PairL) (root key:List UInt8) (w:World) (hl:ps.length≤1048576) (hm:∀ p∈ps,p.1.length≤1048576∧p.2.length≤1048576) (hs:IsPairs w a ps) (hr:root.length≤1048576) (hk:key.length≤1048576) :
 Calls Tryz.prog 10 #[.slice a ps.length cap,.string ⟨root.toArray⟩,.string ⟨key.toArray⟩] w fun e w'=>FPost w (proofR ps root key) e w':=by
 have hzr:(ByteArray.mk root.toArray).size=root.length:=by simp[ByteArray.size]
 have hzk:(ByteArray.mk key.toArray).size=key.length:=by simp[ByteArray.size]
 have K:=spec_storeOk a cap ps w hl hm hs
 by_cases hok:getOkL ps root key=true
 · have hparts:=hok
   simp only[getOkL,Bool.and_eq_true,decide_eq_true_eq] at hparts
   obtain⟨h1,h2,h3⟩:=hparts
   rw[h1] at K
   have HK2:Hid (∀ W,Below w.heap.size w W→_):=fun W hW=>spec_l6Walk a cap ps root key W hl hm (hs.later hW) h1 hr h3
   have hc3:(walkL ps root key).2.1≠3:=by
    unfold walkL
    split
    · simp
    · exact walk_codes _ _ _ _
   have HP:Hid (proofR ps root key=if (walkL ps root key).2.1=2 then none else some (walkL ps root key).1):=by
    rw[Hid,proofR,getC,if_pos hok]
    by_cases e:(walkL ps root key).2.1=2
    · rw[if_pos (.inr e),if_pos e]
    · rw[if_neg (by rintro (h | h);exact hc3 h;exact e h),if_neg e]
   have h2':((root.length:Int) != 32)=false:=by rw[bne_eq_false_iff_eq];omega
   have h2'':(root.length:Int)=32:=by omega
   have h3':(key.length:Int)≤12:=by omega
   have h3b:decide ((12:Int)<(key.length:Int))=false:=decide_eq_false (by omega)
   obtain⟨R,hR⟩:∃ R,R=walkL ps root key:=⟨_,rfl⟩
   rw[←hR] at HK2 HP
   obtain⟨res,hres⟩:∃ res,res=proofR ps root key:=⟨_,rfl⟩
   rw[←hres] at HP ⊢
   obtain⟨T,c,v⟩:=R
   dsimp only at HK2 HP
   clear hs hm hok h1 h2 h3 hR hres hc3
   go_enter Tryz.func10,Tryz.ntmps10
   go_wp2_with fail
   refine K.mono ?_
   rintro e w1 ⟨rfl,b1⟩
   have K2:=HK2.out w1 b1
   clear K HK2
   go_wp2_with fail
   refine K2.mono ?_
   rintro e w2 ⟨a2,m2,c2,rfl,o2,b2⟩
   have B2:=b1.trans (b2.mono b1.size)
   have O2:=hidOwn (o2.mono b1.size)
   clear K2 o2 b2
   by_cases hc:c=2
   · have HN:Hid (res=none):=by rw[Hid,HP.out,if_pos hc]
     have hcb:(c == 2)=true:=by rw[beq_iff_eq];exact hc
     clear HP hc
     go_wp2
     go_ret2
     exact fp_none HN.out B2
   · have HN:Hid (res=some T):=by rw[Hid,HP.out,if_neg hc]
     have hcb:(c == 2)=false:=by rw[beq_eq_false_iff_ne];exact hc
     clear HP hc
     go_wp2
     go_ret2
     rw[HN.out]
     exact⟨a2,m2,c2,rfl,O2.out,B2⟩
 · have HN:Hid (proofR ps root key=none):=by rw[Hid,proofR,getC,if_neg hok,if_pos (.inl rfl)]
   have hor:¬ storeOkL ps=true∨(storeOkL ps=true∧¬ root.length=32)∨(storeOkL ps=true∧root.length=32∧12<key.length):=by
    simp only[getOkL,Bool.and_eq_true,decide_eq_true_eq] at hok
    by_cases h1:storeOkL ps=true
    · by_cases h2:root.length=32
      · exact .inr (.inr ⟨h1,h2,Nat.lt_of_not_le (fun h3=>hok ⟨h1,h2,h3⟩)⟩)
      · exact .inr (.inl ⟨h1,h2⟩)
    · exact .inl h1
   obtain⟨res,hres⟩:∃ res,res=proofR ps root key:=⟨_,rfl⟩
   rw[←hres] at HN ⊢
   clear hs hm hok hres
   rcases hor with h1 | ⟨h1,h2⟩ | ⟨h1,h2,h3⟩
   · have h1':storeOkL ps=false:=by simpa using h1
     rw[h1'] at K
     clear h1 h1'
     go_enter Tryz.func10,Tryz.ntmps10
     go_wp2_with fail
     refine K.mono ?_
     rintro e w1 ⟨rfl,b1⟩
     go_wp2
     go_ret2
     exact fp_none HN.out b1
   · rw[h1] at K
     have h2':((root.length:Int) != 32)=true:=by rw[bne_iff_ne];omega
     have h2'':¬ (root.length:Int)=32:=by omega
     clear h1 h2
     go_enter Tryz.func10,Tryz.ntmps10
     go_wp2_with fail
     refine K.mono ?_
     rintro e w1 ⟨rfl,b1⟩
     go_wp2
     go_ret2
     exact fp_none HN.out b1
   · rw[h1] at K
     have h2':((root.length:Int) != 32)=false:=by rw[bne_eq_false_iff_eq];omega
     have h2'':(root.length:Int)=32:=by omega
     have h3':¬ (key.length:Int)≤12:=by omega
     have h3b:decide ((12:Int)<(key.length:Int))=true:=decide_eq_true (by omega)
     clear h1 h2 h3
     go_enter Tryz.func10,Tryz.ntmps10
     go_wp2_with fail
     refine K.mono ?_
     rintro e w1 ⟨rfl,b1⟩
     go_wp2
     go_ret2
     exact fp_none HN.out b1
theorem cell_boxQ {w:World} {b:Nat} {v:Value} {t:TypeId} {f:Nat × Nat} (h:w.heap[b]? = some (.cells #[v] t f)):w.cell? ⟨b,0,none⟩=some v:=by
 simp only[World.cell?,h];rfl
theorem new_atQ {w:World} {n:Nat} (h:w.heap.size=n) (o:Obj):(w.alloc o).heap[n]? = some o:=by rw[←h];exact heap_alloc_new w o
theorem heap_allocQ {w:World} {k:Nat} {o o':Obj} (h:w.heap[k]? = some o):(w.alloc o').heap[k]? = some o:=(Below.heap_alloc _ _ _ (Array.getElem?_eq_some_iff.1 h).1).trans h
set_option maxRecDepth 100000 in
set_option maxHeartbeats 400000 in
theorem impl_wayOfP (root key:List UInt8) (mb:Nat) (w:World) :
 Calls Tryz.prog 28 #[.string ⟨root.toArray⟩,.string ⟨key.toArray⟩,.func (.func 29) #[.map (some mb)] #[]] w fun e w'=>e=.returned (.func (.func 53) #[] #[.pointer (some ⟨w.heap.size,0,none⟩),.pointer (some ⟨w.heap.size+1,0,none⟩),.pointer (some ⟨w.heap.size+2,0,none⟩)])∧Below w.heap.size w w'∧w.heap.size+2<w'.heap.size∧w'.cell? ⟨w.heap.size,0,none⟩=some (.string ⟨root.toArray⟩)∧w'.cell? ⟨w.heap.size+1,0,none⟩=some (.string ⟨key.toArray⟩)∧∃ ft,ft≠9∧Boxed w' (w.heap.size+2) ft (.func (.func 29) #[.map (some mb)] #[]):=by
 have hmf:∀ (fn:Fn) (first cap:Array Value) (w:World),(Instr.makeFunc fn first cap).run Tryz.prog w=.ok (.func fn first cap) w:=fun _ _ _ _=>rfl
 go_enter Tryz.func28,Tryz.ntmps28
 go_wp2
 go_ret
 exact⟨rfl,(((Below.refl _ _).alloc (Nat.le_refl _) _).alloc (by simp) _).alloc (by simp;omega) _,by simp,cell_boxQ (heap_allocQ (heap_allocQ (heap_alloc_new w _))),cell_boxQ (heap_allocQ (new_atQ (by simp) _)),_,by decide,new_atQ (by simp) _⟩
theorem step_far {x:PfX} {W w1:World} {n0 P n:Nat} {pv v':Value} {xs:List Value} {o:Obj} (h:StepP x W) (hr:W.ownsRow n0 9 1 pv n xs) (hg:(W.alloc o).grownBy w1 pv.ownBlock) (hP:x.sb≠P):StepP x (w1.setCell ⟨P,0,none⟩ v'):=by
 have hlt:x.sb<W.heap.size:=(Array.getElem?_eq_some_iff.1 h).1
 have hne:some x.sb≠pv.ownBlock:=by
  rcases hr.2 with ⟨rfl,_⟩ | ⟨g,cap,cur,rfl,_,hgb,_⟩
  · simp[Value.ownBlock]
  · intro e'
    have e2:x.sb=g:=by simpa [Value.ownBlock] using e'
    rw[←e2] at hgb
    have:=(show W.heap[x.sb]? = _ from h).symm.trans hgb
    simp at this
 refine (Below.heap_setCell w1 ⟨P,0,none⟩ v' x.sb hP).trans ?_
 exact (hg.block x.sb (by simp;omega) hne).trans ((Below.heap_alloc _ _ _ hlt).trans h)
theorem stepP_put {B:Nat} (x:PfX):AbidesB B (StepP x):=fun W l o o' h hl ho hc=>put_farQ ho hc h
theorem pfI_put {wM:World} {P b mb B:Nat} {x:PfX} (hB:wM.heap.size≤B):AbidesB B (PfI wM P b mb x):=fun W l o o' h hl ho hc=>⟨PfS.put hB W l o o' h.1 hl ho hc,stepP_put x W l o o' h.2 hl ho hc⟩
theorem pfY_put {wM:World} {P b mb B:Nat} {x:PfX} (hB:wM.heap.size≤B):AbidesB B (PfY wM P b mb x):=fun W l o o' h hl ho hc=>⟨PfS.put hB W l o o' h.1 hl ho hc,stepP_put x W l o o' h.2.1 hl ho hc,h.2.2⟩
theorem pfY_later {wM:World} {P b mb:Nat} {x:PfX} {W W':World} (h:PfY wM P b mb x W) (hb:Below W.heap.size W W'):PfY wM P b mb x W':=⟨h.1.later hb,(hb.block _ (Array.getElem?_eq_some_iff.1 h.2.1).1).trans h.2.1,h.2.2⟩
set_option maxRecDepth 100000 in
set_option maxHeartbeats 4000000 in
theorem pf_loop (a:Option Addr) (cap:Nat) (ps:List PairL) (root key:List UInt8) (w:World) (hTb:Tab w) (hl:ps.length≤1048576) (hm:∀ p∈ps,p.1.length≤1048576∧p.2.length≤1048576) (hs:IsPairs w a ps) (hst:storeOkL ps=true) (hr:root.length≤1048576) (hk:key.length≤12) (hne:¬ root=emptyL) (hc3:¬ getC ps root key=3) (hc2:¬ getC ps root key=2) (T:List (List UInt8)) (hT:(wayL (findL ps) 30 root (nibs key)).1=T) :
 Calls Tryz.prog 9 #[.slice a ps.length cap,.string ⟨root.toArray⟩,.string ⟨key.toArray⟩] w fun e w'=>FPost w (some T) e w':=by
 obtain⟨i0,hi0,hz0,hz1,hz2⟩:=info_parts info9a
 have hmf:∀ (fn:Fn) (first cap:Array Value) (w:World),(Instr.makeFunc fn first cap).run Tryz.prog w=.ok (.func fn first cap) w:=fun _ _ _ _=>rfl
 have K1:=callsIn_wide (n:=2).2 (impl_get a cap ps root key w hTb hl hm hs hr (by omega))
 obtain⟨gc,hgc⟩:∃ gc,gc=getC ps root key:=⟨_,rfl⟩
 obtain⟨gv,hgv⟩:∃ gv,gv=getV ps root key:=⟨_,rfl⟩
 rw[←hgc,←hgv] at K1
 rw[←hgc] at hc3 hc2
 have hb3:(gc == 3)=false:=by rw[beq_eq_false_iff_ne];exact hc3
 have hb2:(gc == 2)=false:=by rw[beq_eq_false_iff_ne];exact hc2
 have HE:Hid (∀ W,Below w.heap.size w W→_):=fun W hW=>callsIn_wide (n:=2).2 (impl_empty W (hTb.later hW))
 have HH:Hid (∀ W,Below w.heap.size w W→_):=fun W hW=>callsIn_wide (n:=2).2 (impl_heldNodesV a cap ps W (hTb.later hW) hl hm (hs.later hW))
 rw[hst] at HH
 obtain⟨em,hem⟩:∃ em,em=emptyL:=⟨_,rfl⟩
 rw[←hem] at HE hne
 have heb:(root == em)=false:=by rw[beq_eq_false_iff_ne];exact hne
 have HSO:Hid (storeOkL ps=true):=hst
 have HTT:Hid ((wayL (findL ps) 30 root (nibs key)).1=T):=hT
 clear hTb hs hst hne hem hgc hgv hT hc3 hc2 hm
 refine callsIn_wide (n:=3).1 ?_
 refine callsIn_of_wp_marks Tryz.func9 rfl trivial ?_ rfl
 simp only[Tryz.ntmps9,List.size_toArray,List.length_cons,List.length_nil,Nat.reduceAdd,Nat.reduceSub,Array.replicate_succ,Array.replicate_zero,List.push_toArray,List.append_toArray,List.nil_append,List.cons_append]
 gi_wp2
 refine⟨trivial,K1.mono ?_⟩
 rintro e w1 ⟨rfl,b1⟩
 have K2:=HE.out w1 b1
 have HB1:Hid (Below w.heap.size w w1):=b1
 clear K1 HE b1
 gi_wp2
 refine⟨trivial,K2.mono ?_⟩
 rintro e w2 ⟨rfl,b2⟩
 have HB2:Hid (Below w.heap.size w w2):=HB1.out.trans (b2.mono HB1.out.size)
 have K3:=HH.out w2 HB2.out
 clear K2 HH b2 HB1
 gi_wp2
 refine⟨trivial,K3.mono ?_⟩
 rintro e w3 ⟨mb,rfl,hM,hmb,b3⟩
 have HM:Hid (HeldM w3 mb ps ps.length):=hM
 have HB3:Hid (Below w.heap.size w w3):=HB2.out.trans (b3.mono HB2.out.size)
 have K4:=callsIn_wide (n:=2).2 (impl_wayOfP root key mb (w3.alloc (.cells #[.slice none 0 0] 30)))
 clear K3 hM hmb b3 HB2
 gi_wp2
 refine⟨trivial,K4.mono ?_⟩
 rintro e w4 ⟨rfl,b4,hs4,d0,d1,d2⟩
 have hsz:(w3.alloc (.cells #[.slice none 0 0] 30)).heap.size=w3.heap.size+1:=by simp
 rw[hsz] at hs4 d0 d1 d2
 have HJ:Hid (PfS w3 w3.heap.size (w3.heap.size+1) mb [] w4∧w4.cell? ⟨w3.heap.size+1,0,none⟩=some (.string ⟨root.toArray⟩)∧w4.cell? ⟨w3.heap.size+1+1,0,none⟩=some (.string ⟨key.toArray⟩)):=by
  have BB:Below w3.heap.size w3 (w3.alloc (.cells #[.slice none 0 0] 30)):=(Below.refl _ _).alloc (Nat.le_refl _) _
  exact⟨⟨BB.trans (b4.mono BB.size),⟨Nat.le_refl _,by omega,by omega⟩,⟨.slice none 0 0,(b4.block _ (by simp)).trans (heap_alloc_new w3 _),World.ownsRow_nil _ _ _ _⟩,d2⟩,d0,d1⟩
 have hw4:w3.heap.size≤w4.heap.size:=HJ.out.1.below.size
 clear K4 b4 hs4 d0 d1 d2
 gi_wp2
 refine wpIn_rangeFunc_raw (α:=PfX) rfl (by omega) (gf:=53) (lb:=#[.pointer (some ⟨w3.heap.size+1,0,none⟩),.pointer (some ⟨w3.heap.size+1+1,0,none⟩),.pointer (some ⟨w3.heap.size+1+2,0,none⟩)]) rfl trivial (enters_of Tryz.func53 (by kernel_rfl) rfl) (encs:=pfE) (fun _=>rfl)
  (PfY w3 w3.heap.size (w3.heap.size+1) mb) (PfI w3 w3.heap.size (w3.heap.size+1) mb) (fun _ _=>False) (fun W=>PfS w3 w3.heap.size (w3.heap.size+1) mb [] W∧W.cell? ⟨w3.heap.size+1,0,none⟩=some (.string ⟨root.toArray⟩)∧W.cell? ⟨w3.heap.size+1+1,0,none⟩=some (.string ⟨key.toArray⟩)) (PfZ w3 w3.heap.size (w3.heap.size+1) mb T)
  (fun x=>pfI_put hw4) (fun c W l o o' h _ _ _=>h) (PfS.put hw4)
  (fun o o' => by
   have bb:=((Below.refl _ w4).alloc (Nat.le_refl _) o).alloc (by simp) o'
   exact⟨HJ.out.1.later bb,(bb.cell (p:=⟨w3.heap.size+1,0,none⟩) (World.block_lt_of_cell? w4 _ HJ.out.2.1)).trans HJ.out.2.1,(bb.cell (p:=⟨w3.heap.size+1+1,0,none⟩) (World.block_lt_of_cell? w4 _ HJ.out.2.2)).trans HJ.out.2.2⟩)
  (fun l BK BX W hBK hBX hY hJ hB=>pf_iter ps HSO.out w3 w3.heap.size (w3.heap.size+1) mb root key T HM.out hr hk HTT.out l BK BX W hBK hBX hY hJ hB)
  (fun x a₁ W=>PfY w3 w3.heap.size (w3.heap.size+1) mb x W∧∃ B,W.heap[B]? = some (.cells #[.string ⟨x.t.toArray⟩,.int .i64 x.k,.string ⟨x.q.toArray⟩,.slice x.a x.m x.c,.string ⟨x.v.toArray⟩] 59 (0,0))∧a₁ = { tmps:=#[.slice a ps.length cap,.string ⟨root.toArray⟩,.string ⟨key.toArray⟩,undef,undef,undef,.slice none 0 0,.bool false,.int .i64 gc,.string ⟨gv.toArray⟩,.map (some mb),.bool true,.pointer (some ⟨w3.heap.size,0,none⟩),.pointer (some ⟨B,0,none⟩),.tuple #[.int .i64 gc,.string ⟨gv.toArray⟩],.slice a ps.length cap,.string ⟨root.toArray⟩,.string ⟨key.toArray⟩,.tuple #[.int .i64 gc,.string ⟨gv.toArray⟩],.int .i64 gc,.string ⟨gv.toArray⟩,.int .i64 gc,.bool false,.bool false,.int .i64 gc,.bool false,.bool false,.string ⟨root.toArray⟩,.string ⟨em.toArray⟩,.bool false,.tuple #[.map (some mb),.bool true],.slice a ps.length cap,.tuple #[.map (some mb),.bool true],.map (some mb),.bool true,.string ⟨root.toArray⟩,.string ⟨key.toArray⟩,.map (some mb),.func (.func 29) #[.map (some mb)] #[],.func (.func 53) #[] #[.pointer (some ⟨w3.heap.size+1,0,none⟩),.pointer (some ⟨w3.heap.size+1+1,0,none⟩),.pointer (some ⟨w3.heap.size+1+2,0,none⟩)],.agg #[.string ⟨x.t.toArray⟩,.int .i64 x.k,.string ⟨x.q.toArray⟩,.slice x.a x.m x.c,.string ⟨x.v.toArray⟩],.agg #[.string ⟨x.nx.toArray⟩,.string ⟨x.pa.toArray⟩,.int .i64 x.cd,.string ⟨x.x.toArray⟩],undef,undef,undef,undef,undef,undef],defers:=[] })
  (fun x a₁ W l o o' h hl ho hc => by
   obtain⟨hy,B,hr,ha⟩:=h
   exact⟨pfY_put hw4 W l o o' hy hl ho hc,B,put_farQ ho hc hr,ha⟩) ?assign ?body ?done ?stop
 case assign =>
  rintro l ⟨t,k,q,ax,m,c,v,nx,pa,cd,x,sb,pre⟩ W K hy hK
  dsimp only[pfE]
  gi_wp2
  exact hK _ _ (KeepsOthers.alloc W _) ⟨pfY_later hy ((Below.refl _ _).alloc (Nat.le_refl _) _),W.heap.size,heap_alloc_new W _,rfl⟩
 case body =>
  rintro l ⟨t,k,q,ax,m,c,v,nx,pa,cd,x,sb,pre⟩ a₁ W ⟨hy,B,hrow,rfl⟩
  obtain⟨hs,hstp,hsb,hp30⟩:=hy
  dsimp only at hs hstp hsb hp30 hrow
  obtain⟨n0,n1,n2,n3,n4,_⟩:=five_cells hrow
  obtain⟨pv,bx,rw0⟩:=hs.row
  have hcp:=bx.cell
  have hord:=hs.ord
  have HS:Hid (PfS w3 w3.heap.size (w3.heap.size+1) mb pre W):=hs
  have HST:Hid (StepP ⟨t,k,q,ax,m,c,v,nx,pa,cd,x,sb,pre⟩ W):=hstp
  clear hs hstp hrow
  dsimp only
  gi_wp2_with (gi_at_builtin;refine wpListIn_append_own _ rfl _ _ 30 rfl w3.heap.size 9 i0 (.string ⟨#[]⟩) 1 16 Tryz.underlying30 hi0 hz0 hz1 hz2 rfl (by decide) _ _ _ rfl (rw0.alloc _) ⟨W.heap.size,0,none⟩ 1 1 [.string ⟨t.toArray⟩] rfl rfl (cell_one_new _ _ _) (by simp[Value.oneCell']) (by unfold maxLen;omega) (by omega) (by simp;omega) ?_;intro v' w1 hown' hgrow _;obtain⟨g',cap',rfl⟩:=ownsRow_succ hown';obtain⟨hv1,hv2,hr2,hk2,hb2⟩:=bx.appended (by decide) rw0 (by omega) (Nat.le_refl _) hown' hgrow;have hc1:=hv1.cell;have hf1:=hv1.frozen)
  have hsz2:=hk2.size
  obtain⟨ft,hft,bf⟩:=HS.out.box2
  refine⟨hk2,⟨HS.out.below.trans hb2,⟨hord.1,hord.2.1,by omega⟩,⟨_,hv2,?_⟩,ft,hft,?_⟩,?_⟩
  · have e1:(pre ++ [t]).length=pre.length+1:=by simp
    have e2:scells (pre ++ [t])=scells pre ++ [.string ⟨t.toArray⟩]:=by simp[scells]
    show (w1.setCell _ _).ownsRow w3.heap.size 9 1 _ (pre ++ [t]).length (scells (pre ++ [t]))
    rw[e1,e2];exact hr2
  · exact ((bf.alloc _).kept hgrow (bf.not_row hft rw0)).kept (grownBy_setCell' w1 _ _) (by simp;omega)
  · exact step_far HST.out rw0 hgrow (by show sb≠w3.heap.size;omega)
 case done =>
  rintro D W hD hz hK
  obtain⟨pv,bx,rw0⟩:=hz.row
  have hcp:=bx.cell
  have HBz:Hid (Below w3.heap.size w3 W):=hz.below
  rcases own_cases rw0 with ⟨rfl,hn,hx⟩ | ⟨g,cp,rfl,_⟩
  · have HO:Hid (W.ownsRow w3.heap.size 9 1 (.slice none 0 0) T.length (scells T)):=rw0
    clear hz rw0 bx
    gi_wp2
    refine⟨by simp,.inl ⟨_,_,rfl,run_takeDeferred hK,?_⟩⟩
    exact⟨_,results_tmp2 rfl _ _ _,none,0,0,rfl,(ownsRow_putObj HO.out _ hK rfl).mono HB3.out.size,HB3.out.trans ((raw_below hw4 _ _ _ _ HBz.out hD hK rfl).mono HB3.out.size)⟩
  · have HO:Hid (W.ownsRow w3.heap.size 9 1 (.slice (some ⟨g,0,none⟩) T.length cp) T.length (scells T)):=rw0
    clear hz rw0 bx
    gi_wp2
    refine⟨by simp,.inl ⟨_,_,rfl,run_takeDeferred hK,?_⟩⟩
    exact⟨_,results_tmp2 rfl _ _ _,some ⟨g,0,none⟩,T.length,cp,rfl,(ownsRow_putObj HO.out _ hK rfl).mono HB3.out.size,HB3.out.trans ((raw_below hw4 _ _ _ _ HBz.out hD hK rfl).mono HB3.out.size)⟩
 case stop =>
  rintro D c W hD h hK
  exact h.elim
set_option maxRecDepth 100000 in
set_option maxHeartbeats 1000000 in
theorem impl_proofOf (a:Option Addr) (cap:Nat) (ps:List PairL) (root key:List UInt8) (w:World) (hTb:Tab w) (hl:ps.length≤1048576) (hm:∀ p∈ps,p.1.length≤1048576∧p.2.length≤1048576) (hs:IsPairs w a ps) (hr:root.length≤1048576) (hk:key.length≤1048576) :
 Calls Tryz.prog 9 #[.slice a ps.length cap,.string ⟨root.toArray⟩,.string ⟨key.toArray⟩] w fun e w'=>FPost w (proofR ps root key) e w':=by
 by_cases hcc:getC ps root key=3∨getC ps root key=2
 · have HN:Hid (proofR ps root key=none):=by rw[Hid,proofR,if_pos hcc]
   have K1:=impl_get a cap ps root key w hTb hl hm hs hr hk
   obtain⟨gc,hgc⟩:∃ gc,gc=getC ps root key:=⟨_,rfl⟩
   obtain⟨gv,hgv⟩:∃ gv,gv=getV ps root key:=⟨_,rfl⟩
   rw[←hgc,←hgv] at K1
   rw[←hgc] at hcc
   obtain⟨res,hres⟩:∃ res,res=proofR ps root key:=⟨_,rfl⟩
   rw[←hres] at HN ⊢
   clear hTb hs hm hgc hgv hres
   rcases hcc with rfl | rfl
   · go_enter Tryz.func9,Tryz.ntmps9
     go_wp2_with fail
     refine K1.mono ?_
     rintro e w1 ⟨rfl,b1⟩
     go_wp2
     go_ret2
     exact fp_none HN.out b1
   · go_enter Tryz.func9,Tryz.ntmps9
     go_wp2_with fail
     refine K1.mono ?_
     rintro e w1 ⟨rfl,b1⟩
     go_wp2
     go_ret2
     exact fp_none HN.out b1
 · have hok:getOkL ps root key=true:=by
    by_cases h:getOkL ps root key=true
    · exact h
    · exact absurd (.inl (by rw[getC,if_neg h])) hcc
   have hparts:=hok
   simp only[getOkL,Bool.and_eq_true,decide_eq_true_eq] at hparts
   obtain⟨h1,h2,h3⟩:=hparts
   have HP:proofR ps root key=some (walkL ps root key).1:=by rw[proofR,if_neg hcc]
   rw[HP]
   have hc3:¬ getC ps root key=3:=fun h=>hcc (.inl h)
   have hc2:¬ getC ps root key=2:=fun h=>hcc (.inr h)
   by_cases he:root=emptyL
   · have hw:(walkL ps root key).1=[]:=by rw[walkL,if_pos he]
     rw[hw]
     have K1:=impl_get a cap ps root key w hTb hl hm hs hr hk
     obtain⟨gc,hgc⟩:∃ gc,gc=getC ps root key:=⟨_,rfl⟩
     obtain⟨gv,hgv⟩:∃ gv,gv=getV ps root key:=⟨_,rfl⟩
     rw[←hgc,←hgv] at K1
     rw[←hgc] at hc3 hc2
     have hb3:(gc == 3)=false:=by rw[beq_eq_false_iff_ne];exact hc3
     have hb2:(gc == 2)=false:=by rw[beq_eq_false_iff_ne];exact hc2
     have HE:Hid (∀ W,Below w.heap.size w W→_):=fun W hW=>impl_empty W (hTb.later hW)
     rw[←he] at HE
     clear hTb hs hm hgc hgv hok h1 h2 h3 HP hc3 hc2 he hw hcc
     go_enter Tryz.func9,Tryz.ntmps9
     go_wp2_with fail
     refine K1.mono ?_
     rintro e w1 ⟨rfl,b1⟩
     have K2:=HE.out w1 b1
     clear K1 HE
     go_wp2_with fail
     refine K2.mono ?_
     rintro e w2 ⟨rfl,b2⟩
     have B2:=b1.trans (b2.mono b1.size)
     clear K2
     go_wp2
     go_ret2
     exact⟨none,0,0,rfl,World.ownsRow_nil _ _ _ _,B2⟩
   · exact pf_loop a cap ps root key w hTb hl hm hs h1 hr h3 he hc3 hc2 _ (by rw[walkL,if_neg he])
end Go.Proofs.YtckoglgcjcmmkaaGreatDoor
