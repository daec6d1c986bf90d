/-
 Contract: a map of files by their names.
-/
import Derived.Test.YtlllkdioojjaeaaFmOps
import Derived.Test.YtlllkdioojjaeaaSForm
import Derived.Carry
namespace Go.Proofs.Ytlllkdioojjaeaa
open Go.RowKit Go.Maps
set_option linter.unusedVariables false
theorem rise_take {L:List PairL} (h:Rise L) (j:Nat):Rise (L.take j):=h.sublist (List.take_sublist _ _)
theorem take_out {L:List PairL} (h:Rise L) (j:Nat) (hj:j<L.length):inK L[j].1 (L.take j)=false:=by
 cases hi:inK L[j].1 (L.take j) with
 | false=>rfl
 | true =>
   exfalso
   obtain⟨u,hu⟩:=(inK_iff _ _).1 hi
   obtain⟨i,h1,h2⟩:=List.mem_iff_getElem.1 hu
   have hi':i<j:=by rw[List.length_take] at h1;omega
   have:=List.pairwise_iff_getElem.1 h i j (by omega) hj hi'
   rw[List.getElem_take] at h2
   rw[h2] at this
   exact List.lt_irrefl _ this
theorem FMap.add {W:World} {base mb n:Nat} {L:List PairL} {D:DataW Value} {S} (h:FMap W base mb n L D S) (k d:List UInt8) (hk:k.length≤16777216) (hn:n<1048576) (hb:base≤W.heap.size) (hi:inK k L=false) (hM:Rise (L ++ [(k,d)])) (cap:Nat) (hc:d.length≤cap) :
 ∃ w5 D' S', (Instr.mapUpdate 75 (.map (some mb)) (.string ⟨k.toArray⟩) (.slice (some ⟨W.heap.size, 0, none⟩) d.length cap)).run Try.prog (W.alloc (.cells (bytesRow ⟨d.toArray⟩ cap) 5 ((bytesRow ⟨d.toArray⟩ cap).size, (bytesRow ⟨d.toArray⟩ cap).size + 1))) = .ok () w5 ∧
   FMap w5 base mb (n+1) (L ++ [(k,d)]) D' S'∧Below base W w5:=by
 have hw1:W.grownBy (W.alloc (.cells (bytesRow ⟨d.toArray⟩ cap) 5 ((bytesRow ⟨d.toArray⟩ cap).size,(bytesRow ⟨d.toArray⟩ cap).size+1))) none:=World.grownBy_alloc W _ none
 have hR:=conv_row W d base cap 5 hb hc
 obtain⟨w5,hrun,ho,hg⟩:=(h.own.alloc (.cells (bytesRow ⟨d.toArray⟩ cap) 5 ((bytesRow ⟨d.toArray⟩ cap).size,(bytesRow ⟨d.toArray⟩ cap).size+1))).update (t:=75) (e:=57) lawF Try.underlying75 (by unfold maxLen;omega) (keyF k hk) (fvR_sl (some ⟨W.heap.size,0,none⟩) d.length cap)
 have hno:∀ x∈L,x.1≠k:=fun x hx e=>by
  have:inK k L=true:=(inK_iff _ _).2 ⟨x.2,by rw[←e];exact hx⟩
  rw[hi] at this;cases this
 have hlt:=h.own.lt
 refine⟨w5,_,_,hrun,h.put k d _ hM (fun x=>?_) (by rw[hi];simp) none hw1 (fun _ _ _ _ _=>by simp) (.inr ⟨W.heap.size,cap,rfl,hR⟩) (fun p hp _ g hg' e=>?_) (fun e=>?_) (n+1) hg ho,?_⟩
 · rw[List.mem_append,List.mem_singleton]
   exact⟨fun h'=>h'.imp (fun h1=>⟨h1,hno x h1⟩) id,fun h'=>h'.imp (fun h1=>h1.1) id⟩
 · have:=((h.rows p hp).lt g hg').2
   simp[Value.ownBlock] at e
   omega
 · simp[Value.ownBlock] at e
   omega
 · have h2:=below_mb hg h.low (Nat.le_trans hb hw1.size)
   exact ((Below.refl _ _).alloc hb _).trans h2
set_option maxRecDepth 100000 in
set_option maxHeartbeats 2000000 in
theorem impl_byName (a:Option Addr) (cap:Nat) (ps:List PairL) (w:World) (hl:ps.length≤1000) (hm:∀ p∈ps,p.1.length≤16777216∧p.2.length≤16777216) (hr:Rise ps) (hs:IsPairs w a ps) :
 Calls Try.prog 48 #[.slice a ps.length cap] w fun e w'=>∃ mb,e=.returned (.map (some mb))∧Below w.heap.size w w'∧∃ D S,FMap w' w.heap.size mb ps.length ps D S:=by
 have hmm:=@run_makeMap Try.prog
 rcases hs with rfl | ⟨b,off,rfl,hc⟩
 · have F0:=fmap_made w w.heap.size (Nat.le_refl _)
   have HP:Hid (Below w.heap.size w (w.alloc (.map #[] 0))∧∃ D S,FMap (w.alloc (.map #[] 0)) w.heap.size w.heap.size 0 [] D S):=⟨(Below.refl _ _).alloc (Nat.le_refl _) _,_,_,F0⟩
   clear F0
   go_enter Try.func48,Try.ntmps48
   go_wp2
   refine wp_loop_rounds 1 ?_
   rw[rounds_succ]
   go_wp2
   go_ret
   exact⟨_,rfl,HP.out.1,HP.out.2⟩
 · have hc':∀ j,j<ps.length→w.cell? ⟨b,off+j*2,none⟩=some (.string ⟨(keyAt ps j).toArray⟩)∧w.cell? ⟨b,off+j*2+1,none⟩=some (.string ⟨(valAt ps j).toArray⟩):=fun j h=>by rw[keyAt_lt ps j h,valAt_lt ps j h];exact hc j h
   have HC:Hid (∀ W,Below w.heap.size w W→∀ j,j<ps.length→W.cell? ⟨b,off+j*2,none⟩=some (.string ⟨(keyAt ps j).toArray⟩)∧W.cell? ⟨b,off+j*2+1,none⟩=some (.string ⟨(valAt ps j).toArray⟩)):=fun W hW j h=>⟨(hW.cell (p:=⟨b,off+j*2,none⟩) (World.block_lt_of_cell? w _ (hc' j h).1)).trans (hc' j h).1,(hW.cell (p:=⟨b,off+j*2+1,none⟩) (World.block_lt_of_cell? w _ (hc' j h).2)).trans (hc' j h).2⟩
   have HM:Hid (∀ j,j<ps.length→(keyAt ps j).length≤16777216∧(valAt ps j).length≤16777216):=fun j h=>by rw[keyAt_lt ps j h,valAt_lt ps j h];exact hm _ (List.getElem_mem _)
   have HT:Hid (∀ j,j<ps.length→ps.take (j+1)=ps.take j ++ [(keyAt ps j,valAt ps j)]∧inK (keyAt ps j) (ps.take j)=false∧Rise (ps.take (j+1))):=fun j h=>by
    refine⟨?_,?_,rise_take hr _⟩
    · rw[take_snocP ps j h,keyAt_lt ps j h,valAt_lt ps j h]
    · rw[keyAt_lt ps j h];exact take_out hr j h
   have HF0:Hid (FMap (w.alloc (.map #[] 0)) w.heap.size w.heap.size 0 [] (.map []) (fun _=>.slice none 0 0)):=fmap_made w w.heap.size (Nat.le_refl _)
   have HB0:Hid (Below w.heap.size w (w.alloc (.map #[] 0))):=(Below.refl _ _).alloc (Nat.le_refl _) _
   have HE:Hid (ps.take ps.length=ps):=List.take_length
   obtain⟨ln,hln⟩:∃ ln,ln=ps.length:=⟨_,rfl⟩
   rw[←hln] at HC HM HT HE hl ⊢
   have HLN:Hid (ln=ps.length):=hln
   clear hm hc hc' hr hln
   go_enter Try.func48,Try.ntmps48
   go_wp2
   go_loopw [5,9] (fun _ i wr=>∃ j:Nat,j≤ln∧i=.int .i64 (j:Int)∧Hid (∃ D S,FMap wr w.heap.size w.heap.size j (ps.take j) D S)∧Hid (Below w.heap.size w wr)) (fun _ i _=>ln - (intOf i).toNat)
   case atStart=>exact⟨0,Nat.zero_le _,rfl,⟨_,_,HF0.out⟩,HB0⟩
   case round =>
    obtain⟨j,hj,rfl,HF,HB⟩:=hrel
    by_cases hlt:j<ln
    · obtain⟨c1,c2⟩:=HC.out wr HB.out j hlt
      obtain⟨m1,m2⟩:=HM.out j hlt
      obtain⟨t1,t2,t3⟩:=HT.out j hlt
      have hj0:(0:Int)≤(j:Int):=by omega
      have hj1:(j:Int)<(ln:Int):=by omega
      obtain⟨D,S,hF⟩:=HF.out
      obtain⟨x,hx⟩:∃ x,x=keyAt ps j:=⟨_,rfl⟩
      obtain⟨y,hy⟩:∃ y,y=valAt ps j:=⟨_,rfl⟩
      rw[←hx] at c1 m1 t1 t2
      rw[←hy] at c2 m2 t1
      have F1:=hF.alloc (.cells #[.string ⟨x.toArray⟩,.string ⟨y.toArray⟩] 84)
      have B1:Below w.heap.size w (wr.alloc (.cells #[.string ⟨x.toArray⟩,.string ⟨y.toArray⟩] 84)):=HB.out.alloc HB.out.size _
      have hz:(ByteArray.mk y.toArray).size=y.length:=by simp[ByteArray.size]
      have hcv:=run_bytes_of_string (P:=Try.prog) (wr.alloc (.cells #[.string ⟨x.toArray⟩,.string ⟨y.toArray⟩] 84)) 9 57 5 ⟨y.toArray⟩ Try.underlying9 Try.underlying57 Try.underlying5
      rw[hz] at hcv
      have hcap:=grownCap_ge (wr.alloc (.cells #[.string ⟨x.toArray⟩,.string ⟨y.toArray⟩] 84)) y.length 0 5
      obtain⟨cap0,hcap0⟩:∃ cap0,cap0=grownCap (wr.alloc (.cells #[.string ⟨x.toArray⟩,.string ⟨y.toArray⟩] 84)) y.length 0 5:=⟨_,rfl⟩
      rw[←hcap0] at hcv hcap
      have F2:FMap (wr.alloc (.cells #[.string ⟨x.toArray⟩,.string ⟨y.toArray⟩] 84)).drew w.heap.size w.heap.size j (ps.take j) D S:=F1.kept ⟨rfl,rfl,rfl,Nat.le_refl _,fun _ _ _=>rfl⟩
      obtain⟨w5,D',S',hrun5,F5,B5⟩:=F2.add x y m1 (by omega) B1.size t2 (by rw[←t1];exact t3) cap0 hcap
      have hs1:(wr.alloc (.cells #[.string ⟨x.toArray⟩,.string ⟨y.toArray⟩] 84)).drew.heap.size=wr.heap.size+1:=by simp[heap_drew]
      have hs2:(wr.alloc (.cells #[.string ⟨x.toArray⟩,.string ⟨y.toArray⟩] 84)).heap.size=wr.heap.size+1:=by simp
      obtain⟨W1,hW1⟩:∃ W1,W1=(wr.alloc (.cells #[.string ⟨x.toArray⟩,.string ⟨y.toArray⟩] 84)).drew.alloc (.cells (bytesRow ⟨y.toArray⟩ cap0) 5 ((bytesRow ⟨y.toArray⟩ cap0).size,(bytesRow ⟨y.toArray⟩ cap0).size+1)):=⟨_,rfl⟩
      rw[←hW1,hs2] at hcv
      rw[←hW1,hs1] at hrun5
      have HF5:Hid (∃ D S,FMap w5 w.heap.size w.heap.size (j+1) (ps.take (j+1)) D S):=⟨D',S',by rw[t1];exact F5⟩
      have HB5:Hid (Below w.heap.size w w5):=B1.trans ⟨B5.os,B5.tape,B5.output,B5.size,B5.block⟩
      clear hF F1 F2 F5 B1 B5 t1 t2 t3 hx hy HF HC HM HT hW1 hcap0 hcap hs1 hs2 hz
      go_wp2
      go_roundw
      case rel=>exact⟨j+1,by omega,by go_num,HF5,HB5⟩
      case measure=>simp[intOf];omega
    · have hjl:j=ln:=by omega
      subst hjl
      have HF5:Hid (∃ D S,FMap wr w.heap.size w.heap.size j ps D S):=by
       have:=HF.out
       rw[HE.out] at this
       exact this
      clear HF HC HM HT HE HLN hlt
      go_wp2
      go_ret
      exact⟨_,rfl,HB.out,HF5.out⟩
end Go.Proofs.Ytlllkdioojjaeaa
