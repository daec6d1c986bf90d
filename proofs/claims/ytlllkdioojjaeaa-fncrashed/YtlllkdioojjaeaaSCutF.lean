/-
 Contract: the model's files without one name.
-/
import Derived.Test.YtlllkdioojjaeaaSPut
namespace Go.Proofs.Ytlllkdioojjaeaa
open Go.RowKit
set_option linter.unusedVariables false
def cutF (fs:List PairL) (n:List UInt8):List PairL:=fs.filter fun p => !(p.1 == n)
theorem cutF_snoc (fs:List PairL) (n:List UInt8) (j:Nat) (h:j<fs.length):cutF (fs.take (j+1)) n=if (keyAt fs j == n)=true then cutF (fs.take j) n else cutF (fs.take j) n ++ [(keyAt fs j,valAt fs j)]:=by
 rw[take_snocP fs j h,cutF,List.filter_append,keyAt_lt fs j h,valAt_lt fs j h]
 cases he:fs[j].1 == n <;> simp[cutF,he]
theorem cutF_le (fs:List PairL) (n:List UInt8) (j:Nat):(cutF (fs.take j) n).length≤j:=by
 have:=List.length_filter_le (fun p:PairL => !(p.1 == n)) (fs.take j)
 rw[List.length_take] at this
 unfold cutF
 omega
set_option maxRecDepth 100000 in
set_option maxHeartbeats 2000000 in
theorem spec_cutF (a : Option Addr) (cp : Nat) (ps : List PairL) (k : List UInt8) (w : World) (hl : ps.length ≤ 16777216) (hs : IsPairs w a ps) :
 Calls Try.prog 77 #[.slice a ps.length cp,.string ⟨k.toArray⟩] w fun e w'=>∃ g cap:Nat,e=.returned (.slice (some ⟨g,0,none⟩) (cutF ps k).length cap)∧w'.ownsRow w.heap.size 84 2 (.slice (some ⟨g,0,none⟩) (cutF ps k).length cap) (cutF ps k).length (pcells (cutF ps k))∧Below w.heap.size w w':=by
 obtain⟨i0,hi0,hz0,hz1,hz2⟩:=info_parts infoFile
 rcases hs with rfl | ⟨b,off,rfl,hc⟩
 · have HE:Hid (cutF [] k=[]):=rfl
   rw[HE.out]
   go_enter Try.func77,Try.ntmps77
   go_wp2
   refine wp_loop_rounds 1 ?_
   rw[rounds_succ]
   go_wp2
   go_ret
   exact⟨w.heap.size,0,rfl,World.ownsRow_lit w #[] 0 (Nat.le_refl _) (Nat.zero_le _) rfl,(Below.refl _ _).alloc (Nat.le_refl _) _⟩
 · have hc' : ∀ j, j < ps.length → w.cell? ⟨b, off + j * 2, none⟩ = some (.string ⟨(keyAt ps j).toArray⟩) ∧ w.cell? ⟨b, off + j * 2 + 1, none⟩ = some (.string ⟨(valAt ps j).toArray⟩) := fun j h => by rw [keyAt_lt ps j h, valAt_lt ps j h]; exact hc j h
   have HSTEP:Hid (∀ j,j<ps.length→cutF (ps.take (j+1)) k=if (keyAt ps j == k)=true then cutF (ps.take j) k else cutF (ps.take j) k ++ [(keyAt ps j,valAt ps j)]):=fun j h=>cutF_snoc ps k j h
   have HLE:Hid (∀ j,(cutF (ps.take j) k).length≤j):=cutF_le ps k
   clear hc
   go_enter Try.func77,Try.ntmps77
   go_wp2
   go_loopw [5,6] (fun o i wr=>∃ (j g cap:Nat) (L:List PairL),j≤ps.length∧i=.int .i64 (j:Int)∧o=.slice (some ⟨g,0,none⟩) L.length cap∧Hid (cutF (ps.take j) k=L)∧L.length≤j∧wr.ownsRow w.heap.size 84 2 (.slice (some ⟨g,0,none⟩) L.length cap) L.length (pcells L)∧Below w.heap.size w wr) (fun _ i _=>ps.length - (intOf i).toNat)
   case atStart=>exact⟨0,w.heap.size,0,[],Nat.zero_le _,rfl,rfl,rfl,Nat.zero_le _,World.ownsRow_lit w #[] 0 (Nat.le_refl _) (Nat.zero_le _) rfl,(Below.refl _ _).alloc (Nat.le_refl _) _⟩
   case round =>
    obtain⟨j,g,cap,L,hj,rfl,rfl,HL,hLl,hown,hbel⟩:=hrel
    have hsz:=hbel.size
    have hbg:=own_base hown
    by_cases hlt:j<ps.length
    · obtain⟨c1',c2'⟩:=hc' j hlt
      have hbl:=World.block_lt_of_cell? w _ c1'
      simp only at hbl
      have c1:=(hbel.cell (p:=⟨b,off+j*2,none⟩) hbl).trans c1'
      have c2:=(hbel.cell (p:=⟨b,off+j*2+1,none⟩) hbl).trans c2'
      have hj0:(0:Int)≤(j:Int):=by omega
      have hj1:(j:Int)<(ps.length:Int):=by omega
      have HS:Hid (cutF (ps.take (j+1)) k=if (keyAt ps j == k)=true then L else L ++ [(keyAt ps j,valAt ps j)]):=by rw[Hid,HSTEP.out j hlt,HL.out]
      obtain⟨x,hx⟩:∃ x,x=keyAt ps j:=⟨_,rfl⟩
      obtain⟨y,hy⟩:∃ y,y=valAt ps j:=⟨_,rfl⟩
      rw[←hx] at c1 HS
      rw[←hy] at c2 HS
      have HO:=hidOwn hown
      clear hc' hx hy c1' c2' HL HSTEP hown
      by_cases hxk:x=k
      · have HN:Hid (cutF (ps.take (j+1)) k=L):=by rw[Hid,HS.out,if_pos (by simp[hxk])]
        subst hxk
        clear HS
        go_wp2
        go_roundw
        case rel=>exact⟨j+1,g,cap,L,by omega,by go_num,rfl,HN,by omega,HO.out,hbel⟩
        case measure=>simp[intOf];omega
      · have hbk:(x == k)=false:=by simp[hxk]
        have HN:Hid (cutF (ps.take (j+1)) k=L ++ [(x,y)]):=by rw[Hid,HS.out,hbk];rfl
        clear HS
        have o0:=HO.out
        go_wp2_with (at_builtin;refine wpList_append_lies _ rfl _ _ 28 rfl w.heap.size 84 i0 (.agg #[.string ⟨#[]⟩,.string ⟨#[]⟩]) 2 32 Try.underlying28 hi0 hz0 hz1 hz2 rfl (by decide) (.slice (some ⟨g,0,none⟩) L.length cap) L.length _ rfl (o0.alloc _) ⟨wr.heap.size,0,none⟩ 1 1 [.string ⟨x.toArray⟩,.string ⟨y.toArray⟩] rfl rfl (World.news_of_block (cs:=#[.string ⟨x.toArray⟩,.string ⟨y.toArray⟩]) (t:=84) (fr:=(0,0)) (heap_alloc_new wr _)) (by simp[Value.oneCell']) (by omega) (by unfold maxLen;omega) (by omega) (by simp <;> omega) (wr.heap.size+1) (by simp) ?_;intro g3 cap3 w3 hown3 hgrow3 hat3 hlt3)
        have B3:=below_app2 hbel hsz hbg hgrow3
        have HO3:Hid (w3.ownsRow w.heap.size 84 2 (.slice (some ⟨g3,0,none⟩) (L.length+1) cap3) (L.length+1) (pcells (L ++ [(x,y)]))):=by rw[Hid,fcells_snoc];exact hown3
        clear hown3 hgrow3 o0 HO
        go_wp2
        go_roundw
        case rel=>exact⟨j+1,g3,cap3,L ++ [(x,y)],by omega,by go_num,by simp,HN,by simp;omega,by rw[List.length_append];exact HO3.out,B3⟩
        case measure=>simp[intOf];omega
    · have hjl:j=ps.length:=by omega
      subst hjl
      have hfl:=HL.out
      rw[List.take_length] at hfl
      have HE:Hid (cutF ps k=L):=hfl
      have HO:=hidOwn hown
      clear hc' HSTEP HL hfl hown
      go_wp2
      go_ret
      rw[HE.out]
      exact⟨g,cap,rfl,HO.out,hbel⟩
end Go.Proofs.Ytlllkdioojjaeaa
