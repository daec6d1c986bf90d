/-
 Texts that are laid as one: TrieT, TrieO.
-/
import Derived.Test.YtcoahmldmodmlaaGreatDoorIReads
import Derived.Test.YtcoahmldmodmlaaGreatDoorTrieB
import Derived.Test.YtcoahmldmodmlaaGreatDoorHexAll
import Derived.Deep.RegionLawGrows
import Derived.Laws.EntriesVeiled
namespace Go.Proofs.YtcoahmldmodmlaaGreatDoor
open Go.RowKit
set_option linter.unusedVariables false
theorem nibs_low (l:List UInt8):∀ x∈nibs l,x.toNat<16:=by
 intro x hx
 simp only[nibs,List.mem_flatMap,List.mem_cons,List.not_mem_nil,or_false] at hx
 obtain⟨b,_,h⟩:=hx
 have hb:=b.toNat_lt
 rcases h with rfl | rfl
 · rw[UInt8.toNat_div];show b.toNat / 16<16;omega
 · rw[UInt8.toNat_mod];show b.toNat % 16<16;omega
theorem impl_grown (bp bl bg gp cp gl off cl:Nat) (ps:List PairL) (hfit:fitP ps):∀ f:Nat,GrownAt f bp bl bg gp cp gl off cl ps
 | 0 => fun i e deep w hie he hd hr hf hE => by
   have hpl:=piece_length ps i e deep he
   obtain⟨g,h⟩:=fits_pos hf (fun h0=>by rw[h0] at hpl;simp at hpl;omega)
   omega
 | f + 1 => fun i e deep w hie he hd hr hf hE => by
   have hpl:=piece_length ps i e deep he
   have hk24:∀ k (hk:k<ps.length),(nibs ps[k].1).length≤24:=fun k hk=>by
    have:=(hfit.2 _ (List.getElem_mem hk)).1
    rw[nibs_len];omega
   by_cases h1:e=i+1
   · subst h1
     have hi:i<ps.length:=by omega
     refine (grown_leaf f bp bl bg gp cp gl off cl ps i deep w hi hfit.1 (hd i hi (Nat.le_refl _) (by omega)) (hk24 i hi) hE).mono ?_
     rintro r w' ⟨b,rfl,h2,h3,h4⟩
     refine⟨b,rfl,.inr ⟨b,h3,rfl,.inl ⟨_,?_,h2⟩⟩,h4⟩
     have h0:0<(piece ps i (i+1) deep).length:=by omega
     have e0:=piece_at ps i (i+1) deep 0 h0 he (by omega)
     simp only[Nat.add_zero] at e0
     obtain⟨x,hx⟩:=List.length_eq_one_iff.1 (show (piece ps i (i+1) deep).length=1 by omega)
     rw[hx]
     congr 1
     have:(piece ps i (i+1) deep)[0]=x:=by simp[hx]
     rw[←this,e0]
   · have h2:2≤(piece ps i e deep).length:=by omega
     by_cases hc:0<commonL (piece ps i e deep)
     · refine (grown_long f bp bl bg gp cp gl off cl ps (impl_grown bp bl bg gp cp gl off cl ps hfit f) i e deep w (by omega) he hfit.1 hd hk24 hr hf hc hE).mono ?_
       rintro r w' ⟨b,g,q,rfl,hb,hg,k1,k2,k3,k4⟩
       exact⟨b,rfl,.inr ⟨b,hb,rfl,.inr (.inl ⟨h2,hc,g,q,hg,k1,k2,k3⟩)⟩,k4⟩
     · refine (grown_branch f bp bl bg gp cp gl off cl ps (impl_grown bp bl bg gp cp gl off cl ps hfit f) i e deep w (by omega) he hfit.1 hd hk24 (fun k hk=>nibs_low _) hr hf hc hE).mono ?_
       rintro r w' ⟨b,g,qs,rfl,hb,hg,k1,k2,k3,k4,k5⟩
       exact⟨b,rfl,.inr ⟨b,hb,rfl,.inr (.inr ⟨h2,hc,g,qs,hg,k1,k2,k3,k4⟩)⟩,k5⟩
theorem less_nibs:∀ a b:List UInt8,Op.bytesLess a b=true→Op.bytesLess (nibs a) (nibs b)=true
 | _,[],h=>by rw[less_nil] at h;cases h
 | [],y :: ys,_=>by rw[nibs_cons];rfl
 | x :: xs, y :: ys, h => by
   rw[less_cons] at h
   rw[nibs_cons,nibs_cons,less_cons,less_cons]
   simp only[Bool.or_eq_true,Bool.and_eq_true,decide_eq_true_eq] at h ⊢
   rcases h with h | ⟨h,h'⟩
   · have h1:x.toNat<y.toNat:=h
     by_cases hq:x.toNat / 16<y.toNat / 16
     · left
       show (x / 16).toNat<(y / 16).toNat
       rw[UInt8.toNat_div,UInt8.toNat_div];exact hq
     · right
       refine⟨UInt8.toNat_inj.1 ?_,.inl ?_⟩
       · rw[UInt8.toNat_div,UInt8.toNat_div];show x.toNat / 16=y.toNat / 16;omega
       · show (x % 16).toNat<(y % 16).toNat
         rw[UInt8.toNat_mod,UInt8.toNat_mod];show x.toNat % 16<y.toNat % 16;omega
   · right
     exact⟨by rw[h],.inr ⟨by rw[h],less_nibs xs ys h'⟩⟩
theorem piece_all (ps:List PairL):piece ps 0 ps.length 0=esOf ps:=by
 have h1:subE (esOf ps) 0 ps.length=esOf ps:=by rw[subE,List.drop_zero,Nat.sub_zero,List.take_of_length_le (by rw[es_length];exact Nat.le_refl _)]
 rw[piece,h1]
 simp[cutE]
theorem nib_impl (l:List UInt8) (w:World) (hl:l.length≤1000) :
 Calls Tryz.prog 49 #[.string ⟨l.toArray⟩] w fun e w'=>e=.returned (.string ⟨(nibs l).toArray⟩)∧Below w.heap.size w w':=by
 have h:=impl_nibbles ⟨l.toArray⟩ w (by simp[ByteArray.size];omega)
 have e1:(ByteArray.mk l.toArray).data.toList=l:=by simp
 rw[e1] at h
 exact h
theorem one_set {w:World} {b:Nat} {u v:Value} {t:TypeId} (h:w.heap[b]? = some (.cells #[u] t (0,0))):(w.setCell ⟨b,0,none⟩ v).heap[b]? = some (.cells #[v] t (0,0)):=by
 have hlt:=lt_of_block h
 have h':w.heap[b]=.cells #[u] t (0,0):=by simpa [Array.getElem?_eq_getElem hlt] using h
 show (w.heap.modify b _)[b]? = _
 rw[Array.getElem?_eq_getElem (by simpa using hlt),Array.getElem_modify_self,h']
 rfl
set_option maxRecDepth 100000 in
set_option maxHeartbeats 4000000 in
theorem impl_trieOf (gl off cl : Nat) (ps : List PairL) (w : World) (hfit : fitP ps) (h0 : 0 < ps.length) (hr : RiseE (esOf ps)) (hc : ∀ j (h : j < ps.length), w.cell? ⟨gl, off + j * 2, none⟩ = some (.string ⟨ps[j].1.toArray⟩) ∧ w.cell? ⟨gl, off + j * 2 + 1, none⟩ = some (.string ⟨ps[j].2.toArray⟩)) :
 Calls Tryz.prog 37 #[.slice (some ⟨gl,off,none⟩) ps.length cl] w fun r w'=>∃ b:Nat,r=.returned (.pointer (some ⟨b,0,none⟩))∧IsTrie w' w.heap.size 60 (.pointer (some ⟨b,0,none⟩)) (esOf ps)∧Below w.heap.size w w':=by
 obtain⟨j0,hj0,hy0,hy1,hy2⟩:=info_parts info9t
 have hl:=hfit.1
 have hglt:=World.block_lt_of_cell? w _ (hc 0 h0).1
 simp only at hglt
 have HC:Hid (∀ j (h:j<ps.length),w.cell? ⟨gl,off+j*2,none⟩=some (.string ⟨ps[j].1.toArray⟩)∧w.cell? ⟨gl,off+j*2+1,none⟩=some (.string ⟨ps[j].2.toArray⟩)):=hc
 have HK:Hid (∀ j (h:j<ps.length),ps[j].1.length≤12):=fun j h=>(hfit.2 _ (List.getElem_mem h)).1
 have HG:Hid (∀ bp bl bg gp cp W,Env W bp bl bg gp cp gl off cl ps→Calls Tryz.prog 50 #[.int .i64 0,.int .i64 (ps.length:Int),.int .i64 0,.pointer (some ⟨bp,0,none⟩),.pointer (some ⟨bl,0,none⟩),.pointer (some ⟨bg,0,none⟩)] W fun r w'=>∃ b:Nat,r=.returned (.pointer (some ⟨b,0,none⟩))∧IsTrie w' W.heap.size 60 (.pointer (some ⟨b,0,none⟩)) (esOf ps)∧Below W.heap.size W w'):=fun bp bl bg gp cp W hE=>by
  have:=impl_grown bp bl bg gp cp gl off cl ps hfit 60 0 ps.length 0 W h0 (Nat.le_refl _) (fun k hk _ _=>Nat.zero_le _) (by rw[piece_all];exact hr) (by rw[piece_all];exact es_fits hfit) hE
  rw[piece_all] at this
  exact this
 have Ba:Below w.heap.size w ((w.alloc (.cells #[.slice (some ⟨gl,off,none⟩) ps.length cl] 24)).alloc (.cells #[.slice none 0 0] 76)):=((Below.refl _ _).alloc (Nat.le_refl _) _).alloc (by simp) _
 have N1:Hid (((w.alloc (.cells #[.slice (some ⟨gl,off,none⟩) ps.length cl] 24)).alloc (.cells #[.slice none 0 0] 76)).heap[w.heap.size]? = some (.cells #[.slice (some ⟨gl,off,none⟩) ps.length cl] 24 (0,0))):=by
  rw[Hid,Below.heap_alloc _ _ _ (by simp)];exact heap_alloc_new _ _
 have N2:Hid (((w.alloc (.cells #[.slice (some ⟨gl,off,none⟩) ps.length cl] 24)).alloc (.cells #[.slice none 0 0] 76)).heap[w.heap.size+1]? = some (.cells #[.slice none 0 0] 76 (0,0))):=by
  have:=heap_alloc_new (w.alloc (.cells #[.slice (some ⟨gl,off,none⟩) ps.length cl] 24)) (.cells #[.slice none 0 0] 76)
  rw[Hid];simpa using this
 have c0:=(one_cell N1.out).1
 clear hc hr hfit
 go_enter Tryz.func37,Tryz.ntmps37
 go_wp2
 go_loopw [9] (fun i wr=>∃ (j:Nat) (v:Value),j≤ps.length∧i=.int .i64 (j:Int)∧Hid (wr.heap[w.heap.size]? = some (.cells #[.slice (some ⟨gl,off,none⟩) ps.length cl] 24 (0,0)))∧Hid (wr.heap[w.heap.size+1]? = some (.cells #[v] 76 (0,0)))∧Hid (wr.ownsRow (w.heap.size+2) 9 1 v j (scells ((esOf (ps.take j)).map (·.1))))∧Below w.heap.size w wr) (fun i _=>ps.length - (intOf i).toNat)
 case atStart=>exact⟨0,.slice none 0 0,Nat.zero_le _,rfl,N1,N2,World.ownsRow_nil _ _ _ _,Ba⟩
 case round =>
  obtain⟨j,v,hj,rfl,HL,HP,HO,hbel⟩:=hrel
  have hsz:=hbel.size
  clear N1 N2 Ba c0
  by_cases hlt:j<ps.length
  · have hj1 : (j : Int) < (ps.length : Int) := by omega
    have hj0':(0:Int)≤(j:Int):=by omega
    have d1:=(hbel.cell (p:=⟨gl,off+j*2,none⟩) hglt).trans (HC.out j hlt).1
    have d2:=(hbel.cell (p:=⟨gl,off+j*2+1,none⟩) hglt).trans (HC.out j hlt).2
    have cp0:=(one_cell HP.out).1
    obtain⟨k,hk⟩:∃ k,k=ps[j].1:=⟨_,rfl⟩
    obtain⟨u,hu⟩:∃ u,u=ps[j].2:=⟨_,rfl⟩
    have hkl:=HK.out j hlt
    rw[←hk] at d1 hkl
    rw[←hu] at d2
    have HX:Hid (esOf (ps.take (j+1))=esOf (ps.take j) ++ [(nibs k,u)]):=by rw[Hid,hk,hu];exact es_snoc ps j hlt
    clear hk hu
    obtain⟨a1,m1,c1,rfl⟩:=own_slice2 HO.out
    have hvl:∀ q,(Value.slice a1 m1 c1).ownBlock=some q→w.heap.size+2≤q∧q<wr.heap.size:=fun q hq=>HO.out.lt q hq
    have hpb:=lt_of_block HP.out
    have KN:=nib_impl k (wr.alloc (.cells #[.string ⟨k.toArray⟩,.string ⟨u.toArray⟩] 46)).drew (by omega)
    have hy1':(wr.alloc (.cells #[.string ⟨k.toArray⟩,.string ⟨u.toArray⟩] 46)).heap.size=wr.heap.size+1:=by simp
    have BY:Below wr.heap.size wr (wr.alloc (.cells #[.string ⟨k.toArray⟩,.string ⟨u.toArray⟩] 46)):=(Below.refl _ _).alloc (Nat.le_refl _) _
    have OY:=hidOwn (keptN HO.out BY)
    have cpy:=(BY.cell (p:=⟨w.heap.size+1,0,none⟩) hpb).trans cp0
    obtain⟨x,hx⟩:∃ x,x=nibs k:=⟨_,rfl⟩
    rw[←hx] at KN HX
    clear hx
    go_wp2_with fail
    go_region_law (first
     | (go_simp
        go_at_call 49
        refine KN.mono ?_
        rintro r w3 ⟨rfl,b3'⟩
        have b3:Below (wr.alloc (.cells #[.string ⟨k.toArray⟩,.string ⟨u.toArray⟩] 46)).heap.size (wr.alloc (.cells #[.string ⟨k.toArray⟩,.string ⟨u.toArray⟩] 46)) w3:=⟨b3'.os,b3'.tape,b3'.output,b3'.size,b3'.block⟩
        have C3:Hid (Below wr.heap.size wr w3):=BY.trans (b3.mono BY.size)
        have s3:wr.heap.size<w3.heap.size:=(by have:=b3.size;omega)
        have CA:Hid (Below wr.heap.size wr (w3.alloc (.cells #[.string ⟨x.toArray⟩] 9))):=C3.out.alloc (by omega) _
        have OA:Hid ((w3.alloc (.cells #[.string ⟨x.toArray⟩] 9)).ownsRow (w.heap.size+2) 9 1 (.slice a1 m1 c1) j (scells ((esOf (ps.take j)).map (·.1)))):=keptN HO.out CA.out
        have NA:Hid (∀ q u,[Value.string ⟨x.toArray⟩][q]? = some u→(w3.alloc (.cells #[.string ⟨x.toArray⟩] 9)).cell? ((⟨w3.heap.size,0,none⟩:Addr).add q)=some u):=World.news_of_block (cs:=#[.string ⟨x.toArray⟩]) (t:=9) (fr:=(0,0)) (heap_alloc_new w3 _)
        have ZA:Hid (w.heap.size+2≤(w3.alloc (.cells #[.string ⟨x.toArray⟩] 9)).heap.size):=(by rw[Hid];simp;omega)
        have ca3:=(C3.out.cell (p:=⟨w.heap.size+1,0,none⟩) hpb).trans cp0
        have ca4:=(CA.out.cell (p:=⟨w.heap.size+1,0,none⟩) hpb).trans cp0
        clear b3 b3')
     | (refine step_append_lies _ rfl (.tmp 13) (.tmp 17) 76 rfl (w.heap.size + 2) 9 j0 (.string ⟨#[]⟩) 1 16 Tryz.underlying76 hj0 hy0 hy1 hy2 rfl (by decide) (.slice a1 m1 c1) j (scells ((esOf (ps.take j)).map (·.1))) (by simp [Act.eval]) OA.out ⟨w3.heap.size, 0, none⟩ 1 1 [.string ⟨x.toArray⟩] (by simp [Act.eval]) rfl NA.out (by simp [Value.oneCell']) (by omega) (by unfold maxLen; omega) (by omega) ZA.out (w3.heap.size + 1) (by simp) ?_
        intro g5 cap5 w5 hown5 hgrow5 hat5 hlt5
        have K5:∀ b,b<wr.heap.size→(Value.slice a1 m1 c1).ownBlock≠some b→w5.heap[b]? = wr.heap[b]? := (fun b h1 h2=>(hgrow5.block b (by simp;omega) (fun e=>h2 e.symm)).trans (CA.out.block b h1))
        have P5:w5.heap[w.heap.size+1]? = some (.cells #[.slice a1 m1 c1] 76 (0,0)):=(K5 _ hpb (fun e=>by have:=hvl _ e;omega)).trans HP.out
        have cb5:=(one_cell P5).1
        have fb5:=(one_cell P5).2 0
        have HL5:Hid ((w5.setCell ⟨w.heap.size+1,0,none⟩ (.slice (some ⟨g5,0,none⟩) (j+1) cap5)).heap[w.heap.size]? = some (.cells #[.slice (some ⟨gl,off,none⟩) ps.length cl] 24 (0,0))):=((Below.heap_setCell _ _ _ _ (by simp only;omega)).trans ((K5 _ (by omega) (fun e=>by have:=hvl _ e;omega)).trans HL.out))
        have HP5:Hid ((w5.setCell ⟨w.heap.size+1,0,none⟩ (.slice (some ⟨g5,0,none⟩) (j+1) cap5)).heap[w.heap.size+1]? = some (.cells #[.slice (some ⟨g5,0,none⟩) (j+1) cap5] 76 (0,0))):=one_set P5
        have HO5:Hid ((w5.setCell ⟨w.heap.size+1,0,none⟩ (.slice (some ⟨g5,0,none⟩) (j+1) cap5)).ownsRow (w.heap.size+2) 9 1 (.slice (some ⟨g5,0,none⟩) (j+1) cap5) (j+1) (scells ((esOf (ps.take (j+1))).map (·.1)))):=(by
         rw[Hid,HX.out,List.map_append]
         have e1:scells ((esOf (ps.take j)).map (·.1) ++ [(x,u)].map (·.1))=scells ((esOf (ps.take j)).map (·.1)) ++ [.string ⟨x.toArray⟩]:=scells_snoc _ _
         rw[e1]
         exact keptS hown5 (grown_cell _ _ _) (fun q hq e=>by have:=(hown5.lt q hq).1;simp at e;omega))
        have B5:Hid (Below w.heap.size w (w5.setCell ⟨w.heap.size+1,0,none⟩ (.slice (some ⟨g5,0,none⟩) (j+1) cap5))):=((hbel.trans (CA.out.mono hsz)).grown hgrow5 (by simp;omega) (fun q hq=>by have:=(hvl q hq).1;omega)).setCell (p:=⟨w.heap.size+1,0,none⟩) (by simp only;omega) _
        clear hown5 hgrow5 hat5 K5 P5))
    all_goals
     go_wp2
     go_roundw
     case rel=>exact⟨j+1,_,by omega,by go_num,HL5,HP5,HO5,B5.out⟩
     case measure=>simp[intOf];omega
  · obtain rfl:j=ps.length:=by omega
    have hj1:¬ (ps.length:Int)<(ps.length:Int):=by omega
    have ho:=HO.out
    rw[List.take_length] at ho
    obtain⟨gp,cp,rfl⟩:∃ gp cp,v=.slice (some ⟨gp,0,none⟩) ps.length cp:=by
     rcases ho.2 with ⟨_,h9⟩ | ⟨g9,c9,_,e9,_⟩
     · omega
     · exact⟨g9,c9,e9⟩
    have hW:Below wr.heap.size wr (wr.alloc (.cells #[(.func (.func 50) #[] #[.pointer (some ⟨w.heap.size+1,0,none⟩),.pointer (some ⟨w.heap.size,0,none⟩),.pointer (some ⟨wr.heap.size,0,none⟩)])] 92)):=(Below.refl _ _).alloc (Nat.le_refl _) _
    have BW:Below w.heap.size w (wr.alloc (.cells #[(.func (.func 50) #[] #[.pointer (some ⟨w.heap.size+1,0,none⟩),.pointer (some ⟨w.heap.size,0,none⟩),.pointer (some ⟨wr.heap.size,0,none⟩)])] 92)):=hbel.trans (hW.mono hsz)
    have HE:Env (wr.alloc (.cells #[(.func (.func 50) #[] #[.pointer (some ⟨w.heap.size+1,0,none⟩),.pointer (some ⟨w.heap.size,0,none⟩),.pointer (some ⟨wr.heap.size,0,none⟩)])] 92)) (w.heap.size+1) w.heap.size wr.heap.size gp cp gl off cl ps :=
     ⟨(hW.block _ (lt_of_block HP.out)).trans HP.out, (hW.block _ (lt_of_block HL.out)).trans HL.out, heap_alloc_new _ _, fun (q : Nat) hq => by
       have h1:=(keptN ho hW).cellAt q (by omega)
       rw[h1]
       simp[scells,esOf,hq],fun q hq=>(BW.cell (p:=⟨gl,off+q*2+1,none⟩) hglt).trans (HC.out q hq).2⟩
    have KG:=HG.out _ _ _ _ _ _ HE
    have q1:=(one_cell HE.pairs).1
    have q2:=(one_cell HE.self).1
    have hlb:=lt_of_block HL.out
    have l1:=(one_cell HL.out).1
    clear HE HO ho HC HG HK
    go_wp2_with fail
    refine KG.mono ?_
    rintro r w5 ⟨b5,rfl,hT5,hB5⟩
    clear KG q1 q2
    have hT:IsTrie w5 w.heap.size 60 (.pointer (some ⟨b5,0,none⟩)) (esOf ps):=IsTrie.mono (by have:=BW.size;omega) _ _ _ hT5
    have hB:Below w.heap.size w w5:=BW.trans (hB5.mono BW.size)
    clear hT5 hB5
    dsimp only
    go_wp2
    go_ret
    exact⟨b5,rfl,hT,hB⟩
end Go.Proofs.YtcoahmldmodmlaaGreatDoor
