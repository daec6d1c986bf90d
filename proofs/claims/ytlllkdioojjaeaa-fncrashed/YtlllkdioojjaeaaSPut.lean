/-
 Contract: the model's files with one of a name and data.
-/
import Derived.Test.YtlllkdioojjaeaaMathPut
import Derived.Test.YtlllkdioojjaeaaFileS
import Derived.Deep.AppendLies
namespace Go.Proofs.Ytlllkdioojjaeaa
open Go.RowKit
set_option linter.unusedVariables false
theorem bytesLess_irrefl:∀ x:List UInt8,Op.bytesLess x x=false
 | []=>rfl
 | a :: x=>by simp[Op.bytesLess,bytesLess_irrefl x]
theorem new_atP (w:World) {n:Nat} (h:w.heap.size=n) (o:Obj):(w.alloc o).heap[n]? = some o:=by rw[←h];exact heap_alloc_new w o
theorem pair_snoc {w:World} {B e n:Nat} {L:List PairL} {k v:List UInt8} {u:Value} (h:w.ownsRow B e 2 u n (pcells L ++ [.string ⟨k.toArray⟩,.string ⟨v.toArray⟩])):w.ownsRow B e 2 u n (pcells (L ++ [(k,v)])):=by rw[fcells_snoc];exact h
theorem below_app2 {B g n cap:Nat} {w wr w1:World} {o:Obj} (hbel:Below B w wr) (hB:B≤wr.heap.size) (hg:B≤g) (hgrow:(wr.alloc o).grownBy w1 (Value.slice (some ⟨g,0,none⟩) n cap).ownBlock):Below B w w1 :=
 (hbel.alloc hB o).grown hgrow (by simp;omega) (fun k hk=>by simp[Value.ownBlock] at hk;omega)
set_option maxRecDepth 100000 in
set_option maxHeartbeats 2000000 in
theorem spec_put (a : Option Addr) (cp : Nat) (ps : List PairL) (k v : List UInt8) (w : World) (hl : ps.length ≤ 16777216) (hm : ∀ p ∈ ps, p.1.length ≤ 16777216 ∧ p.2.length ≤ 16777216) (hkl : k.length ≤ 16777216) (hvl : v.length ≤ 16777216) (hs : IsPairs w a ps) :
 Calls Try.prog 76 #[.slice a ps.length cp,.string ⟨k.toArray⟩,.string ⟨v.toArray⟩] w fun e w'=>∃ g cap:Nat,e=.returned (.slice (some ⟨g,0,none⟩) (putL ps k v).length cap)∧(putL ps k v).length≤2*ps.length+1∧w'.ownsRow w.heap.size 84 2 (.slice (some ⟨g,0,none⟩) (putL ps k v).length cap) (putL ps k v).length (pcells (putL ps k v))∧Below w.heap.size w w':=by
 obtain⟨i0,hi0,hz0,hz1,hz2⟩:=info_parts infoFile
 have HV:Hid (putFold k v (ps.take 0)=([],false)):=by rw[Hid,putFold_zero]
 have HFIN:Hid (∀ L d,putFold k v ps=(L,d)→putL ps k v=if d=true then L else L ++ [(k,v)]):=fun L d h=>by rw[putL,h]
 rcases hs with rfl | ⟨b,off,rfl,hc⟩
 · have HE:Hid (putL [] k v=if false=true then [] else [] ++ [(k,v)]):=HFIN.out [] false (by have:=HV.out;simpa using this)
   go_enter Try.func76,Try.ntmps76
   go_wp2_with fail
   refine wp_loop_rounds 1 ?_
   rw[rounds_succ]
   have o0:=World.ownsRow_lit (e:=84) (size:=2) w #[] 0 (base:=w.heap.size) (Nat.le_refl _) (Nat.zero_le _) rfl
   have W1:Below w.heap.size w (w.alloc (.cells #[] 84)):=(Below.refl _ _).alloc (Nat.le_refl _) _
   go_wp2_with (at_builtin;refine wpList_append_lies _ rfl _ _ 28 rfl w.heap.size 84 i0 (.agg #[.string ⟨#[]⟩,.string ⟨#[]⟩]) 2 32 Try.underlying28 hi0 hz0 hz1 hz2 rfl (by decide) (.slice (some ⟨w.heap.size,0,none⟩) 0 0) 0 _ rfl (o0.alloc _) ⟨w.heap.size+1,0,none⟩ 1 1 [.string ⟨k.toArray⟩,.string ⟨v.toArray⟩] rfl rfl (World.news_of_block (cs:=#[.string ⟨k.toArray⟩,.string ⟨v.toArray⟩]) (t:=84) (fr:=(0,0)) (new_atP (w.alloc (.cells #[] 84)) (by simp) _)) (by simp[Value.oneCell']) (by omega) (by unfold maxLen;omega) (by omega) (by simp <;> omega) (w.heap.size+2) (by simp) ?_;intro g3 cap3 w3 hown3 hgrow3 hat3 hlt3)
   have B3:=below_app2 W1 W1.size (Nat.le_refl _) hgrow3
   have HO3:=hidOwn hown3
   clear hown3 hgrow3
   go_wp2
   go_ret
   have e:putL [] k v=[(k,v)]:=by rw[HE.out];rfl
   rw[e]
   exact⟨g3,cap3,rfl,by simp,HO3.out,B3⟩
 · have hc' : ∀ j, j < ps.length → w.cell? ⟨b, off + j * 2, none⟩ = some (.string ⟨(keyAt ps j).toArray⟩) ∧ w.cell? ⟨b, off + j * 2 + 1, none⟩ = some (.string ⟨(valAt ps j).toArray⟩) := fun j h => by rw [keyAt_lt ps j h, valAt_lt ps j h]; exact hc j h
   have HSTEP:Hid (∀ j,j<ps.length→∀ L d,putFold k v (ps.take j)=(L,d)→putFold k v (ps.take (j+1))=putStep k v (L,d) (keyAt ps j,valAt ps j)):=fun j h L d hh=>by
    rw[putFold_snoc k v ps j h,hh,keyAt_lt ps j h,valAt_lt ps j h]
   clear hm hc
   go_enter Try.func76,Try.ntmps76
   go_wp2
   go_loopw [7,8,9] (fun o dn i wr=>∃ (j g cap:Nat) (L:List PairL) (d:Bool),j≤ps.length∧i=.int .i64 (j:Int)∧dn=.bool d∧o=.slice (some ⟨g,0,none⟩) L.length cap∧Hid (putFold k v (ps.take j)=(L,d))∧L.length≤2*j∧wr.ownsRow w.heap.size 84 2 (.slice (some ⟨g,0,none⟩) L.length cap) L.length (pcells L)∧Below w.heap.size w wr) (fun _ _ i _=>ps.length - (intOf i).toNat)
   case atStart=>exact⟨0,w.heap.size,0,[],false,Nat.zero_le _,rfl,rfl,rfl,HV,Nat.zero_le _,World.ownsRow_lit w #[] 0 (Nat.le_refl _) (Nat.zero_le _) rfl,(Below.refl _ _).alloc (Nat.le_refl _) _⟩
   case round =>
    obtain⟨j,g,cap,L,d,hj,rfl,rfl,rfl,HL,hLl,hown,hbel⟩:=hrel
    have hsz:=hbel.size
    have hbg:=own_base hown
    by_cases hlt:j<ps.length
    · obtain⟨c1',c2'⟩:=hc' j hlt
      have hbl:=World.block_lt_of_cell? w _ c1'
      simp only at hbl
      have c1:=(hbel.cell (p:=⟨b,off+j*2,none⟩) hbl).trans c1'
      have c2:=(hbel.cell (p:=⟨b,off+j*2+1,none⟩) hbl).trans c2'
      have hj0:(0:Int)≤(j:Int):=by omega
      have hj1:(j:Int)<(ps.length:Int):=by omega
      have HS:Hid (putFold k v (ps.take (j+1))=putStep k v (L,d) (keyAt ps j,valAt ps j)):=HSTEP.out j hlt L d HL.out
      obtain⟨x,hx⟩:∃ x,x=keyAt ps j:=⟨_,rfl⟩
      obtain⟨y,hy⟩:∃ y,y=valAt ps j:=⟨_,rfl⟩
      rw[←hx] at c1 HS
      rw[←hy] at c2 HS
      have C1':=c1'
      have C2':=c2'
      rw[←hx] at C1'
      rw[←hy] at C2'
      have hblr:b<wr.heap.size:=by omega
      have HO:=hidOwn hown
      clear hc' hx hy c1' c2' HL HSTEP hown
      have C1:Hid (w.cell? ⟨b,off+j*2,none⟩=some (.string ⟨x.toArray⟩)):=C1'
      have C2:Hid (w.cell? ⟨b,off+j*2+1,none⟩=some (.string ⟨y.toArray⟩)):=C2'
      clear C1' C2'
      by_cases hput:d=false∧Op.bytesLess x k=false
      · obtain⟨rfl,hle⟩:=hput
        have hle':Op.bytesLess (⟨x.toArray⟩:ByteArray).toList (⟨k.toArray⟩:ByteArray).toList=false:=by rw[ba_toList,ba_toList];exact hle
        have o0:=HO.out
        clear HO c2
        by_cases hxk:x=k
        · subst hxk
          have HN:Hid (putFold x v (ps.take (j+1))=(L ++ [(x,v)],true)):=by rw[Hid,HS.out,pstep_put x v L (x,y) hle];simp
          go_wp2_with (at_builtin;refine wpList_append_lies _ rfl _ _ 28 rfl w.heap.size 84 i0 (.agg #[.string ⟨#[]⟩,.string ⟨#[]⟩]) 2 32 Try.underlying28 hi0 hz0 hz1 hz2 rfl (by decide) (.slice (some ⟨g,0,none⟩) L.length cap) L.length _ rfl (o0.alloc _) ⟨wr.heap.size,0,none⟩ 1 1 [.string ⟨x.toArray⟩,.string ⟨v.toArray⟩] rfl rfl (World.news_of_block (cs:=#[.string ⟨x.toArray⟩,.string ⟨v.toArray⟩]) (t:=84) (fr:=(0,0)) (heap_alloc_new wr _)) (by simp[Value.oneCell']) (by omega) (by unfold maxLen;omega) (by omega) (by simp <;> omega) (wr.heap.size+1) (by simp) ?_;intro g3 cap3 w3 hown3 hgrow3 hat3 hlt3;have B3:=below_app2 hbel hsz hbg hgrow3;have d1:=(B3.cell (p:=⟨b,off+j*2,none⟩) hbl).trans C1.out;have d2:=(B3.cell (p:=⟨b,off+j*2+1,none⟩) hbl).trans C2.out;clear c1)
          have HO3:Hid (w3.ownsRow w.heap.size 84 2 (.slice (some ⟨g3,0,none⟩) (L.length+1) cap3) (L.length+1) (pcells (L ++ [(x,v)]))):=by rw[Hid,fcells_snoc];exact hown3
          clear hown3 hgrow3 hat3 o0
          go_wp2
          go_roundw
          case rel=>exact⟨j+1,g3,cap3,L ++ [(x,v)],true,by omega,by go_num,rfl,by simp,HN,by simp;omega,by rw[List.length_append];exact HO3.out,B3⟩
          case measure=>simp[intOf];omega
        · have hbk:(x == k)=false:=by simp[hxk]
          have HN:Hid (putFold k v (ps.take (j+1))=(L ++ [(k,v)] ++ [(x,y)],true)):=by rw[Hid,HS.out,pstep_put k v L (x,y) hle];simp[hxk]
          go_wp2_with (first | (at_builtin;refine wpList_append_lies _ rfl _ _ 28 rfl w.heap.size 84 i0 (.agg #[.string ⟨#[]⟩,.string ⟨#[]⟩]) 2 32 Try.underlying28 hi0 hz0 hz1 hz2 rfl (by decide) (.slice (some ⟨g3,0,none⟩) (L.length+1) cap3) (L.length+1) _ rfl (hown.alloc _) ⟨w3.heap.size,0,none⟩ 1 1 [.string ⟨x.toArray⟩,.string ⟨y.toArray⟩] rfl rfl (World.news_of_block (cs:=#[.string ⟨x.toArray⟩,.string ⟨y.toArray⟩]) (t:=84) (fr:=(0,0)) (heap_alloc_new w3 _)) (by simp[Value.oneCell']) (by omega) (by unfold maxLen;omega) (by omega) (by simp <;> omega) (w3.heap.size+1) (by simp) ?_;intro g4 cap4 w4 hown4 hgrow3' hat4 hlt4) | (at_builtin;refine wpList_append_lies _ rfl _ _ 28 rfl w.heap.size 84 i0 (.agg #[.string ⟨#[]⟩,.string ⟨#[]⟩]) 2 32 Try.underlying28 hi0 hz0 hz1 hz2 rfl (by decide) (.slice (some ⟨g,0,none⟩) L.length cap) L.length _ rfl (o0.alloc _) ⟨wr.heap.size,0,none⟩ 1 1 [.string ⟨k.toArray⟩,.string ⟨v.toArray⟩] rfl rfl (World.news_of_block (cs:=#[.string ⟨k.toArray⟩,.string ⟨v.toArray⟩]) (t:=84) (fr:=(0,0)) (heap_alloc_new wr _)) (by simp[Value.oneCell']) (by omega) (by unfold maxLen;omega) (by omega) (by simp <;> omega) (wr.heap.size+1) (by simp) ?_;intro g3 cap3 w3 hown3 hgrow3 hat3 hlt3;have B3:=below_app2 hbel hsz hbg hgrow3;have d1:=(B3.cell (p:=⟨b,off+j*2,none⟩) hbl).trans C1.out;have d2:=(B3.cell (p:=⟨b,off+j*2+1,none⟩) hbl).trans C2.out;clear c1;have hown:=pair_snoc hown3;have hs3:=B3.size;have hbg3:=own_base hown;clear hown3 hat3 hlt3))
          have B4:=below_app2 B3 hs3 hbg3 hgrow3'
          have HO4:Hid (w4.ownsRow w.heap.size 84 2 (.slice (some ⟨g4,0,none⟩) (L.length+1+1) cap4) (L.length+1+1) (pcells (L ++ [(k,v)] ++ [(x,y)]))):=by rw[Hid,fcells_snoc];exact hown4
          clear hown4 hgrow3' hown
          go_wp2
          go_roundw
          case rel=>exact⟨j+1,g4,cap4,L ++ [(k,v)] ++ [(x,y)],true,by omega,by go_num,rfl,by simp,HN,by simp;omega,by rw[List.length_append,List.length_append];exact HO4.out,B4⟩
          case measure=>simp[intOf];omega
      · have hor:d=true∨Op.bytesLess x k=true:=by
         cases d
         · right;cases h:Op.bytesLess x k
           · exact absurd ⟨rfl,h⟩ hput
           · rfl
         · exact .inl rfl
        have hgd:(d=true)∨(d=false∧Op.bytesLess (⟨x.toArray⟩:ByteArray).toList (⟨k.toArray⟩:ByteArray).toList=true):=by
         rw[ba_toList,ba_toList]
         cases d
         · exact .inr ⟨rfl,hor.resolve_left (by simp)⟩
         · exact .inl rfl
        by_cases hxk:x=k
        · have HN:Hid (putFold k v (ps.take (j+1))=(L,d)):=by rw[Hid,HS.out,pstep_less k v L d (x,y) hor];simp[hxk]
          subst hxk
          rcases hgd with rfl | ⟨rfl,hle'⟩
          · clear hor hput
            go_wp2
            go_roundw
            case rel=>exact⟨j+1,g,cap,L,true,by omega,by go_num,rfl,rfl,HN,by omega,HO.out,hbel⟩
            case measure=>simp[intOf];omega
          · rw[ba_toList,bytesLess_irrefl] at hle'
            exact absurd hle' (by simp)
        · have hbk:(x == k)=false:=by simp[hxk]
          have HN:Hid (putFold k v (ps.take (j+1))=(L ++ [(x,y)],d)):=by rw[Hid,HS.out,pstep_less k v L d (x,y) hor];simp[hxk]
          rcases hgd with rfl | ⟨rfl,hle'⟩
          · clear hor hput
            have o0:=HO.out
            go_wp2_with (at_builtin;refine wpList_append_lies _ rfl _ _ 28 rfl w.heap.size 84 i0 (.agg #[.string ⟨#[]⟩,.string ⟨#[]⟩]) 2 32 Try.underlying28 hi0 hz0 hz1 hz2 rfl (by decide) (.slice (some ⟨g,0,none⟩) L.length cap) L.length _ rfl (o0.alloc _) ⟨wr.heap.size,0,none⟩ 1 1 [.string ⟨x.toArray⟩,.string ⟨y.toArray⟩] rfl rfl (World.news_of_block (cs:=#[.string ⟨x.toArray⟩,.string ⟨y.toArray⟩]) (t:=84) (fr:=(0,0)) (heap_alloc_new wr _)) (by simp[Value.oneCell']) (by omega) (by unfold maxLen;omega) (by omega) (by simp <;> omega) (wr.heap.size+1) (by simp) ?_;intro g3 cap3 w3 hown3 hgrow3 hat3 hlt3)
            have B3:=below_app2 hbel hsz hbg hgrow3
            have HO3:Hid (w3.ownsRow w.heap.size 84 2 (.slice (some ⟨g3,0,none⟩) (L.length+1) cap3) (L.length+1) (pcells (L ++ [(x,y)]))):=by rw[Hid,fcells_snoc];exact hown3
            clear hown3 hgrow3 o0 HO
            go_wp2
            go_roundw
            case rel=>exact⟨j+1,g3,cap3,L ++ [(x,y)],true,by omega,by go_num,rfl,by simp,HN,by simp;omega,by rw[List.length_append];exact HO3.out,B3⟩
            case measure=>simp[intOf];omega
          · have hle2:Op.bytesLess x k=true:=by rw[ba_toList,ba_toList] at hle';exact hle'
            clear hor hput
            have o0:=HO.out
            go_wp2_with (at_builtin;refine wpList_append_lies _ rfl _ _ 28 rfl w.heap.size 84 i0 (.agg #[.string ⟨#[]⟩,.string ⟨#[]⟩]) 2 32 Try.underlying28 hi0 hz0 hz1 hz2 rfl (by decide) (.slice (some ⟨g,0,none⟩) L.length cap) L.length _ rfl (o0.alloc _) ⟨wr.heap.size,0,none⟩ 1 1 [.string ⟨x.toArray⟩,.string ⟨y.toArray⟩] rfl rfl (World.news_of_block (cs:=#[.string ⟨x.toArray⟩,.string ⟨y.toArray⟩]) (t:=84) (fr:=(0,0)) (heap_alloc_new wr _)) (by simp[Value.oneCell']) (by omega) (by unfold maxLen;omega) (by omega) (by simp <;> omega) (wr.heap.size+1) (by simp) ?_;intro g3 cap3 w3 hown3 hgrow3 hat3 hlt3)
            have B3:=below_app2 hbel hsz hbg hgrow3
            have HO3:Hid (w3.ownsRow w.heap.size 84 2 (.slice (some ⟨g3,0,none⟩) (L.length+1) cap3) (L.length+1) (pcells (L ++ [(x,y)]))):=by rw[Hid,fcells_snoc];exact hown3
            clear hown3 hgrow3 o0 HO
            go_wp2
            go_roundw
            case rel=>exact⟨j+1,g3,cap3,L ++ [(x,y)],false,by omega,by go_num,rfl,by simp,HN,by simp;omega,by rw[List.length_append];exact HO3.out,B3⟩
            case measure=>simp[intOf];omega
    · have hjl:j=ps.length:=by omega
      subst hjl
      have hfl:=HL.out
      rw[List.take_length] at hfl
      have HE:Hid (putL ps k v=if d=true then L else L ++ [(k,v)]):=HFIN.out L d hfl
      clear hc' HSTEP HL hfl
      cases d
      · have o0:=hown
        go_wp2_with (at_builtin;refine wpList_append_lies _ rfl _ _ 28 rfl w.heap.size 84 i0 (.agg #[.string ⟨#[]⟩,.string ⟨#[]⟩]) 2 32 Try.underlying28 hi0 hz0 hz1 hz2 rfl (by decide) (.slice (some ⟨g,0,none⟩) L.length cap) L.length _ rfl (o0.alloc _) ⟨wr.heap.size,0,none⟩ 1 1 [.string ⟨k.toArray⟩,.string ⟨v.toArray⟩] rfl rfl (World.news_of_block (cs:=#[.string ⟨k.toArray⟩,.string ⟨v.toArray⟩]) (t:=84) (fr:=(0,0)) (heap_alloc_new wr _)) (by simp[Value.oneCell']) (by omega) (by unfold maxLen;omega) (by omega) (by simp <;> omega) (wr.heap.size+1) (by simp) ?_;intro g3 cap3 w3 hown3 hgrow3 hat3 hlt3)
        have B3:=below_app2 hbel hsz hbg hgrow3
        have HO3:Hid (w3.ownsRow w.heap.size 84 2 (.slice (some ⟨g3,0,none⟩) (L.length+1) cap3) (L.length+1) (pcells (L ++ [(k,v)]))):=by rw[Hid,fcells_snoc];exact hown3
        clear hown3 hgrow3 o0 hown
        go_wp2
        go_ret
        have e:putL ps k v=L ++ [(k,v)]:=by rw[HE.out];rfl
        rw[e,List.length_append]
        exact⟨g3,cap3,rfl,by simp;omega,HO3.out,B3⟩
      · go_wp2
        go_ret
        have e:putL ps k v=L:=by rw[HE.out];rfl
        rw[e]
        exact⟨g,cap,rfl,by omega,hown,hbel⟩
end Go.Proofs.Ytlllkdioojjaeaa
