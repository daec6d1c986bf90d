/-
 Texts that are laid as one: MathSet, SSet, SSetP, ISet, MathSetE, ISetP, ISet0.
-/
import Derived.Test.YtiadimhoolekbaaGreatDoorSortAll
import Derived.Laws.AppendOwnNone
namespace Go.Proofs.YtiadimhoolekbaaGreatDoor
open Go.RowKit
set_option linter.unusedVariables false
set_option maxHeartbeats 2000000
set_option maxRecDepth 100000
def zb5 (k v:List UInt8) (st:List za × Bool) (p:za):List za × Bool :=
 if (!st.2 && !(Op.bytesLess p.1 k))=true then (if p.1=k then st.1 ++ [(k,v)] else st.1 ++ [(k,v)] ++ [p],true) else (if p.1=k then st.1 else st.1 ++ [p],st.2)
def zb1 (k v:List UInt8) (ps:List za):List za × Bool:=ps.foldl (zb5 k v) ([],decide (v=[]))
def setL (ps:List za) (k v:List UInt8):List za:=if (zb1 k v ps).2=true then (zb1 k v ps).1 else (zb1 k v ps).1 ++ [(k,v)]
theorem zhl (k v:List UInt8) (ps:List za) (j:Nat) (h:j<ps.length):zb1 k v (ps.take (j+1))=zb5 k v (zb1 k v (ps.take j)) ps[j]:=by
 rw[zds ps j h,zb1,List.foldl_append];rfl
theorem zmz (k v:List UInt8) (ps:List za):zb1 k v (ps.take 0)=([],decide (v=[])):=by simp[zb1]
theorem zhm (k v:List UInt8) (L:List za) (p:za) (h:Op.bytesLess p.1 k=false):zb5 k v (L,false) p=(if p.1=k then L ++ [(k,v)] else L ++ [(k,v)] ++ [p],true):=by simp[zb5,h]
theorem zf7 (k v:List UInt8) (L:List za) (d:Bool) (p:za) (h:d=true∨Op.bytesLess p.1 k=true):zb5 k v (L,d) p=(if p.1=k then L else L ++ [p],d):=by
 rcases h with h | h <;> simp[zb5,h]
theorem zfm (L:List za) (a b:List UInt8):zc (L ++ [(a,b)])=zc L ++ [.string ⟨a.toArray⟩,.string ⟨b.toArray⟩]:=by rw[zai];rfl
theorem zn0:∀ x:List UInt8,Op.bytesLess x x=false
 | []=>rfl
 | a :: x=>by simp[Op.bytesLess,zn0 x]
theorem za3o (w:World) {n:Nat} (h:w.heap.size=n) (o:Obj):(w.alloc o).heap[n]? = some o:=by rw[←h];exact heap_alloc_new w o
theorem za3p {w:World} {B e n:Nat} {L:List za} {k v:List UInt8} {u:Value} (h:w.ownsRow B e 2 u n (zc L ++ [.string ⟨k.toArray⟩,.string ⟨v.toArray⟩])):w.ownsRow B e 2 u n (zc (L ++ [(k,v)])):=by rw[zfm];exact h
theorem zfn {B g n cap:Nat} {w wr w1:World} {o:Obj} (hbel:Below B w wr) (hB:B≤wr.heap.size) (hg:B≤g) (hgrow:(wr.alloc o).grownBy w1 (Value.slice (some ⟨g,0,none⟩) n cap).ownBlock):Below B w w1 :=
 (hbel.alloc hB o).grown hgrow (by simp;omega) (fun k hk=>by simp[Value.ownBlock] at hk;omega)
theorem zn1 (a : Option Addr) (cp : Nat) (ps : List za) (k v : List UInt8) (w : World) (hl : ps.length ≤ 1048576) (hm : ∀ p ∈ ps, p.1.length ≤ 1048576 ∧ p.2.length ≤ 1048576) (hkl : k.length ≤ 1048576) (hvl : v.length ≤ 1048576) (hs : IsPairs w a ps) :
 Calls Tryz.prog 48 #[.slice a ps.length cp,.string ⟨k.toArray⟩,.string ⟨v.toArray⟩] w fun e w'=>∃ g cap:Nat,e=.returned (.slice (some ⟨g,0,none⟩) (setL ps k v).length cap)∧(setL ps k v).length≤2*ps.length+1∧w'.ownsRow w.heap.size 61 2 (.slice (some ⟨g,0,none⟩) (setL ps k v).length cap) (setL ps k v).length (zc (setL ps k v))∧Below w.heap.size w w':=by
 obtain⟨i0,hi0,hz0,hz1,hz2⟩:=info_parts zey
 obtain⟨dd,hdd⟩:∃ dd,dd=decide (v=[]):=⟨_,rfl⟩
 have HV:Hid (zb1 k v (ps.take 0)=([],dd)):=by rw[Hid,zmz,hdd]
 have HFIN:Hid (∀ L d,zb1 k v ps=(L,d)→setL ps k v=if d=true then L else L ++ [(k,v)]):=fun L d h=>by rw[setL,h]
 rcases hs with rfl | ⟨b,off,rfl,hc⟩
 · have HE:Hid (setL [] k v=if dd=true then [] else [] ++ [(k,v)]):=HFIN.out [] dd (by have:=HV.out;simpa using this)
   go_enter Tryz.func48,Tryz.ntmps48
   go_wp2_with fail
   refine wp_loop_rounds 1 ?_
   rw[rounds_succ]
   have hde:v.isEmpty=dd:=by rw[hdd];cases v <;> simp
   cases dd
   · clear hdd
     have o0:=World.ownsRow_lit (e:=61) (size:=2) w #[] 0 (base:=w.heap.size) (Nat.le_refl _) (Nat.zero_le _) rfl
     have W1:Below w.heap.size w (w.alloc (.cells #[] 61)):=(Below.refl _ _).alloc (Nat.le_refl _) _
     go_wp2_with (at_builtin;refine wpList_append_lies _ rfl _ _ 32 rfl w.heap.size 61 i0 (.agg #[.string ⟨#[]⟩,.string ⟨#[]⟩]) 2 32 Tryz.underlying32 hi0 hz0 hz1 hz2 rfl (by decide) (.slice (some ⟨w.heap.size,0,none⟩) 0 0) 0 _ rfl (o0.alloc _) ⟨w.heap.size+1,0,none⟩ 1 1 [.string ⟨k.toArray⟩,.string ⟨v.toArray⟩] rfl rfl (World.news_of_block (cs:=#[.string ⟨k.toArray⟩,.string ⟨v.toArray⟩]) (t:=61) (fr:=(0,0)) (za3o (w.alloc (.cells #[] 61)) (by simp) _)) (by simp[Value.oneCell']) (by omega) (by unfold maxLen;omega) (by omega) (by simp <;> omega) (w.heap.size+2) (by simp) ?_;intro g3 cap3 w3 hown3 hgrow3 hat3 hlt3)
     have B3:=zfn W1 W1.size (Nat.le_refl _) hgrow3
     have HO3:=zf hown3
     clear hown3 hgrow3
     go_wp2
     go_ret
     have e:setL [] k v=[(k,v)]:=by rw[HE.out];rfl
     rw[e]
     exact⟨g3,cap3,rfl,by simp,HO3.out,B3⟩
   · clear hdd
     go_wp2
     go_ret
     have e:setL [] k v=[]:=by rw[HE.out];rfl
     rw[e]
     exact⟨w.heap.size,0,rfl,by simp,World.ownsRow_lit w #[] 0 (Nat.le_refl _) (Nat.zero_le _) rfl,(Below.refl _ _).alloc (Nat.le_refl _) _⟩
 · have hc' : ∀ j, j < ps.length → w.cell? ⟨b, off + j * 2, none⟩ = some (.string ⟨(keyAt ps j).toArray⟩) ∧ w.cell? ⟨b, off + j * 2 + 1, none⟩ = some (.string ⟨(zv ps j).toArray⟩) := fun j h => by rw [za9 ps j h, zaz ps j h]; exact hc j h
   have HSTEP:Hid (∀ j,j<ps.length→∀ L d,zb1 k v (ps.take j)=(L,d)→zb1 k v (ps.take (j+1))=zb5 k v (L,d) (keyAt ps j,zv ps j)):=fun j h L d hh=>by
    rw[zhl k v ps j h,hh,za9 ps j h,zaz ps j h]
   have hde:v.isEmpty=dd:=by rw[hdd];cases v <;> simp
   clear hm hc
   go_enter Tryz.func48,Tryz.ntmps48
   go_wp2
   go_loopw [7,8,9] (fun o dn i wr=>∃ (j g cap:Nat) (L:List za) (d:Bool),j≤ps.length∧i=.int .i64 (j:Int)∧dn=.bool d∧o=.slice (some ⟨g,0,none⟩) L.length cap∧Hid (zb1 k v (ps.take j)=(L,d))∧L.length≤2*j∧wr.ownsRow w.heap.size 61 2 (.slice (some ⟨g,0,none⟩) L.length cap) L.length (zc L)∧Below w.heap.size w wr) (fun _ _ i _=>ps.length - (intOf i).toNat)
   case atStart=>exact⟨0,w.heap.size,0,[],dd,Nat.zero_le _,rfl,by first | rw[hde] | rw[hdd],rfl,HV,Nat.zero_le _,World.ownsRow_lit w #[] 0 (Nat.le_refl _) (Nat.zero_le _) rfl,(Below.refl _ _).alloc (Nat.le_refl _) _⟩
   case round =>
    obtain⟨j,g,cap,L,d,hj,rfl,rfl,rfl,HL,hLl,hown,hbel⟩:=hrel
    have hsz:=hbel.size
    have hbg:=own_base hown
    by_cases hlt:j<ps.length
    · obtain⟨c1',c2'⟩:=hc' j hlt
      have hbl:=World.block_lt_of_cell? w _ c1'
      simp only at hbl
      have c1:=(hbel.cell (p:=⟨b,off+j*2,none⟩) hbl).trans c1'
      have c2:=(hbel.cell (p:=⟨b,off+j*2+1,none⟩) hbl).trans c2'
      have hj0:(0:Int)≤(j:Int):=by omega
      have hj1:(j:Int)<(ps.length:Int):=by omega
      have HS:Hid (zb1 k v (ps.take (j+1))=zb5 k v (L,d) (keyAt ps j,zv ps j)):=HSTEP.out j hlt L d HL.out
      obtain⟨x,hx⟩:∃ x,x=keyAt ps j:=⟨_,rfl⟩
      obtain⟨y,hy⟩:∃ y,y=zv ps j:=⟨_,rfl⟩
      rw[←hx] at c1 HS
      rw[←hy] at c2 HS
      have C1':=c1'
      have C2':=c2'
      rw[←hx] at C1'
      rw[←hy] at C2'
      have hblr:b<wr.heap.size:=by omega
      have HO:=zf hown
      clear hc' hx hy c1' c2' HL HSTEP hown
      have C1:Hid (w.cell? ⟨b,off+j*2,none⟩=some (.string ⟨x.toArray⟩)):=C1'
      have C2:Hid (w.cell? ⟨b,off+j*2+1,none⟩=some (.string ⟨y.toArray⟩)):=C2'
      clear C1' C2'
      by_cases hput:d=false∧Op.bytesLess x k=false
      · obtain⟨rfl,hle⟩:=hput
        have hle':Op.bytesLess (⟨x.toArray⟩:ByteArray).toList (⟨k.toArray⟩:ByteArray).toList=false:=by rw[zb0,zb0];exact hle
        have o0:=HO.out
        clear HO c2
        by_cases hxk:x=k
        · subst hxk
          have HN:Hid (zb1 x v (ps.take (j+1))=(L ++ [(x,v)],true)):=by rw[Hid,HS.out,zhm x v L (x,y) hle];simp
          go_wp2_with (at_builtin;refine wpList_append_lies _ rfl _ _ 32 rfl w.heap.size 61 i0 (.agg #[.string ⟨#[]⟩,.string ⟨#[]⟩]) 2 32 Tryz.underlying32 hi0 hz0 hz1 hz2 rfl (by decide) (.slice (some ⟨g,0,none⟩) L.length cap) L.length _ rfl (o0.alloc _) ⟨wr.heap.size,0,none⟩ 1 1 [.string ⟨x.toArray⟩,.string ⟨v.toArray⟩] rfl rfl (World.news_of_block (cs:=#[.string ⟨x.toArray⟩,.string ⟨v.toArray⟩]) (t:=61) (fr:=(0,0)) (heap_alloc_new wr _)) (by simp[Value.oneCell']) (by omega) (by unfold maxLen;omega) (by omega) (by simp <;> omega) (wr.heap.size+1) (by simp) ?_;intro g3 cap3 w3 hown3 hgrow3 hat3 hlt3;have B3:=zfn hbel hsz hbg hgrow3;have d1:=(B3.cell (p:=⟨b,off+j*2,none⟩) hbl).trans C1.out;have d2:=(B3.cell (p:=⟨b,off+j*2+1,none⟩) hbl).trans C2.out;clear c1)
          have HO3:Hid (w3.ownsRow w.heap.size 61 2 (.slice (some ⟨g3,0,none⟩) (L.length+1) cap3) (L.length+1) (zc (L ++ [(x,v)]))):=by rw[Hid,zfm];exact hown3
          clear hown3 hgrow3 hat3 o0
          go_wp2
          go_roundw
          case rel=>exact⟨j+1,g3,cap3,L ++ [(x,v)],true,by omega,by go_num,rfl,by simp,HN,by simp;omega,by rw[List.length_append];exact HO3.out,B3⟩
          case measure=>simp[intOf];omega
        · have hbk:(x == k)=false:=by simp[hxk]
          have HN:Hid (zb1 k v (ps.take (j+1))=(L ++ [(k,v)] ++ [(x,y)],true)):=by rw[Hid,HS.out,zhm k v L (x,y) hle];simp[hxk]
          go_wp2_with (first | (at_builtin;refine wpList_append_lies _ rfl _ _ 32 rfl w.heap.size 61 i0 (.agg #[.string ⟨#[]⟩,.string ⟨#[]⟩]) 2 32 Tryz.underlying32 hi0 hz0 hz1 hz2 rfl (by decide) (.slice (some ⟨g3,0,none⟩) (L.length+1) cap3) (L.length+1) _ rfl (hown.alloc _) ⟨w3.heap.size,0,none⟩ 1 1 [.string ⟨x.toArray⟩,.string ⟨y.toArray⟩] rfl rfl (World.news_of_block (cs:=#[.string ⟨x.toArray⟩,.string ⟨y.toArray⟩]) (t:=61) (fr:=(0,0)) (heap_alloc_new w3 _)) (by simp[Value.oneCell']) (by omega) (by unfold maxLen;omega) (by omega) (by simp <;> omega) (w3.heap.size+1) (by simp) ?_;intro g4 cap4 w4 hown4 hgrow3' hat4 hlt4) | (at_builtin;refine wpList_append_lies _ rfl _ _ 32 rfl w.heap.size 61 i0 (.agg #[.string ⟨#[]⟩,.string ⟨#[]⟩]) 2 32 Tryz.underlying32 hi0 hz0 hz1 hz2 rfl (by decide) (.slice (some ⟨g,0,none⟩) L.length cap) L.length _ rfl (o0.alloc _) ⟨wr.heap.size,0,none⟩ 1 1 [.string ⟨k.toArray⟩,.string ⟨v.toArray⟩] rfl rfl (World.news_of_block (cs:=#[.string ⟨k.toArray⟩,.string ⟨v.toArray⟩]) (t:=61) (fr:=(0,0)) (heap_alloc_new wr _)) (by simp[Value.oneCell']) (by omega) (by unfold maxLen;omega) (by omega) (by simp <;> omega) (wr.heap.size+1) (by simp) ?_;intro g3 cap3 w3 hown3 hgrow3 hat3 hlt3;have B3:=zfn hbel hsz hbg hgrow3;have d1:=(B3.cell (p:=⟨b,off+j*2,none⟩) hbl).trans C1.out;have d2:=(B3.cell (p:=⟨b,off+j*2+1,none⟩) hbl).trans C2.out;clear c1;have hown:=za3p hown3;have hs3:=B3.size;have hbg3:=own_base hown;clear hown3 hat3 hlt3))
          have B4:=zfn B3 hs3 hbg3 hgrow3'
          have HO4:Hid (w4.ownsRow w.heap.size 61 2 (.slice (some ⟨g4,0,none⟩) (L.length+1+1) cap4) (L.length+1+1) (zc (L ++ [(k,v)] ++ [(x,y)]))):=by rw[Hid,zfm];exact hown4
          clear hown4 hgrow3' hown
          go_wp2
          go_roundw
          case rel=>exact⟨j+1,g4,cap4,L ++ [(k,v)] ++ [(x,y)],true,by omega,by go_num,rfl,by simp,HN,by simp;omega,by rw[List.length_append,List.length_append];exact HO4.out,B4⟩
          case measure=>simp[intOf];omega
      · have hor:d=true∨Op.bytesLess x k=true:=by
         cases d
         · right;cases h:Op.bytesLess x k
           · exact absurd ⟨rfl,h⟩ hput
           · rfl
         · exact .inl rfl
        have hgd:(d=true)∨(d=false∧Op.bytesLess (⟨x.toArray⟩:ByteArray).toList (⟨k.toArray⟩:ByteArray).toList=true):=by
         rw[zb0,zb0]
         cases d
         · exact .inr ⟨rfl,hor.resolve_left (by simp)⟩
         · exact .inl rfl
        by_cases hxk:x=k
        · have HN:Hid (zb1 k v (ps.take (j+1))=(L,d)):=by rw[Hid,HS.out,zf7 k v L d (x,y) hor];simp[hxk]
          subst hxk
          rcases hgd with rfl | ⟨rfl,hle'⟩
          · clear hor hput
            go_wp2
            go_roundw
            case rel=>exact⟨j+1,g,cap,L,true,by omega,by go_num,rfl,rfl,HN,by omega,HO.out,hbel⟩
            case measure=>simp[intOf];omega
          · rw[zb0,zn0] at hle'
            exact absurd hle' (by simp)
        · have hbk:(x == k)=false:=by simp[hxk]
          have HN:Hid (zb1 k v (ps.take (j+1))=(L ++ [(x,y)],d)):=by rw[Hid,HS.out,zf7 k v L d (x,y) hor];simp[hxk]
          rcases hgd with rfl | ⟨rfl,hle'⟩
          · clear hor hput
            have o0:=HO.out
            go_wp2_with (at_builtin;refine wpList_append_lies _ rfl _ _ 32 rfl w.heap.size 61 i0 (.agg #[.string ⟨#[]⟩,.string ⟨#[]⟩]) 2 32 Tryz.underlying32 hi0 hz0 hz1 hz2 rfl (by decide) (.slice (some ⟨g,0,none⟩) L.length cap) L.length _ rfl (o0.alloc _) ⟨wr.heap.size,0,none⟩ 1 1 [.string ⟨x.toArray⟩,.string ⟨y.toArray⟩] rfl rfl (World.news_of_block (cs:=#[.string ⟨x.toArray⟩,.string ⟨y.toArray⟩]) (t:=61) (fr:=(0,0)) (heap_alloc_new wr _)) (by simp[Value.oneCell']) (by omega) (by unfold maxLen;omega) (by omega) (by simp <;> omega) (wr.heap.size+1) (by simp) ?_;intro g3 cap3 w3 hown3 hgrow3 hat3 hlt3)
            have B3:=zfn hbel hsz hbg hgrow3
            have HO3:Hid (w3.ownsRow w.heap.size 61 2 (.slice (some ⟨g3,0,none⟩) (L.length+1) cap3) (L.length+1) (zc (L ++ [(x,y)]))):=by rw[Hid,zfm];exact hown3
            clear hown3 hgrow3 o0 HO
            go_wp2
            go_roundw
            case rel=>exact⟨j+1,g3,cap3,L ++ [(x,y)],true,by omega,by go_num,rfl,by simp,HN,by simp;omega,by rw[List.length_append];exact HO3.out,B3⟩
            case measure=>simp[intOf];omega
          · have hle2:Op.bytesLess x k=true:=by rw[zb0,zb0] at hle';exact hle'
            clear hor hput
            have o0:=HO.out
            go_wp2_with (at_builtin;refine wpList_append_lies _ rfl _ _ 32 rfl w.heap.size 61 i0 (.agg #[.string ⟨#[]⟩,.string ⟨#[]⟩]) 2 32 Tryz.underlying32 hi0 hz0 hz1 hz2 rfl (by decide) (.slice (some ⟨g,0,none⟩) L.length cap) L.length _ rfl (o0.alloc _) ⟨wr.heap.size,0,none⟩ 1 1 [.string ⟨x.toArray⟩,.string ⟨y.toArray⟩] rfl rfl (World.news_of_block (cs:=#[.string ⟨x.toArray⟩,.string ⟨y.toArray⟩]) (t:=61) (fr:=(0,0)) (heap_alloc_new wr _)) (by simp[Value.oneCell']) (by omega) (by unfold maxLen;omega) (by omega) (by simp <;> omega) (wr.heap.size+1) (by simp) ?_;intro g3 cap3 w3 hown3 hgrow3 hat3 hlt3)
            have B3:=zfn hbel hsz hbg hgrow3
            have HO3:Hid (w3.ownsRow w.heap.size 61 2 (.slice (some ⟨g3,0,none⟩) (L.length+1) cap3) (L.length+1) (zc (L ++ [(x,y)]))):=by rw[Hid,zfm];exact hown3
            clear hown3 hgrow3 o0 HO
            go_wp2
            go_roundw
            case rel=>exact⟨j+1,g3,cap3,L ++ [(x,y)],false,by omega,by go_num,rfl,by simp,HN,by simp;omega,by rw[List.length_append];exact HO3.out,B3⟩
            case measure=>simp[intOf];omega
    · have hjl:j=ps.length:=by omega
      subst hjl
      have hfl:=HL.out
      rw[List.take_length] at hfl
      have HE:Hid (setL ps k v=if d=true then L else L ++ [(k,v)]):=HFIN.out L d hfl
      clear hc' HSTEP HL hfl
      cases d
      · have o0:=hown
        go_wp2_with (at_builtin;refine wpList_append_lies _ rfl _ _ 32 rfl w.heap.size 61 i0 (.agg #[.string ⟨#[]⟩,.string ⟨#[]⟩]) 2 32 Tryz.underlying32 hi0 hz0 hz1 hz2 rfl (by decide) (.slice (some ⟨g,0,none⟩) L.length cap) L.length _ rfl (o0.alloc _) ⟨wr.heap.size,0,none⟩ 1 1 [.string ⟨k.toArray⟩,.string ⟨v.toArray⟩] rfl rfl (World.news_of_block (cs:=#[.string ⟨k.toArray⟩,.string ⟨v.toArray⟩]) (t:=61) (fr:=(0,0)) (heap_alloc_new wr _)) (by simp[Value.oneCell']) (by omega) (by unfold maxLen;omega) (by omega) (by simp <;> omega) (wr.heap.size+1) (by simp) ?_;intro g3 cap3 w3 hown3 hgrow3 hat3 hlt3)
        have B3:=zfn hbel hsz hbg hgrow3
        have HO3:Hid (w3.ownsRow w.heap.size 61 2 (.slice (some ⟨g3,0,none⟩) (L.length+1) cap3) (L.length+1) (zc (L ++ [(k,v)]))):=by rw[Hid,zfm];exact hown3
        clear hown3 hgrow3 o0 hown
        go_wp2
        go_ret
        have e:setL ps k v=L ++ [(k,v)]:=by rw[HE.out];rfl
        rw[e,List.length_append]
        exact⟨g3,cap3,rfl,by simp;omega,HO3.out,B3⟩
      · go_wp2
        go_ret
        have e:setL ps k v=L:=by rw[HE.out];rfl
        rw[e]
        exact⟨g,cap,rfl,by omega,hown,hbel⟩
theorem za3q (k v:List UInt8) (st:List za × Bool) (p q:za) (h:q∈(zb5 k v st p).1):q∈st.1∨q=(k,v)∨q=p:=by
 unfold zb5 at h
 split at h
 · split at h
   · simp at h;rcases h with h | h
     · exact .inl h
     · exact .inr (.inl h)
   · simp at h;rcases h with h | h | h
     · exact .inl h
     · exact .inr (.inl h)
     · exact .inr (.inr h)
 · split at h
   · exact .inl h
   · simp at h;rcases h with h | h
     · exact .inl h
     · exact .inr (.inr h)
theorem zn2 (k v:List UInt8):∀ (ps:List za) (st:List za × Bool) (q:za),q∈(ps.foldl (zb5 k v) st).1→q∈st.1∨q=(k,v)∨q∈ps
 | [],st,q,h=>.inl h
 | p :: ps, st, q, h => by
   rcases zn2 k v ps (zb5 k v st p) q h with h | h | h
   · rcases za3q k v st p q h with h | h | h
     · exact .inl h
     · exact .inr (.inl h)
     · exact .inr (.inr (by rw[h];simp))
   · exact .inr (.inl h)
   · exact .inr (.inr (List.mem_cons_of_mem _ h))
theorem zto (ps:List za) (k v:List UInt8) (q:za) (h:q∈setL ps k v):q=(k,v)∨q∈ps:=by
 unfold setL at h
 split at h
 · rcases zn2 k v ps _ q h with h | h | h
   · simp at h
   · exact .inl h
   · exact .inr h
 · rw[List.mem_append] at h
   rcases h with h | h
   · rcases zn2 k v ps _ q h with h | h | h
     · simp at h
     · exact .inl h
     · exact .inr h
   · simp at h;exact .inl h
def zce (ps:List za) (k v:List UInt8):Bool:=zq ps && zq (setL ps k v)
def setR (ps:List za) (k v:List UInt8):List za:=if zce ps k v=true then setL ps k v else []
theorem ztp (x y k:List UInt8) (w:World) :
 Calls Tryz.prog 28 #[.agg #[.string ⟨x.toArray⟩,.string ⟨y.toArray⟩],.string ⟨k.toArray⟩] w fun e w'=>e=.returned (.int .i64 (Lib.compareBytes x k))∧Below w.heap.size w w':=by
 have K:=fun W=>zjx x k W
 go_enter Tryz.func28,Tryz.ntmps28
 go_wp2_with fail
 refine (K _).mono ?_
 rintro e w1 ⟨rfl,rfl⟩
 go_wp2
 go_ret
 exact⟨rfl,(Below.refl _ _).alloc (Nat.le_refl _) _⟩
def zfo (ps:List za) (k:List UInt8) (at_:Nat):Prop:=at_≤ps.length∧(∀ t,t<at_→Op.bytesLess (keyAt ps t) k=true)∧∀ t,at_≤t→t<ps.length→Op.bytesLess (keyAt ps t) k=false
def rising (ps:List za):Prop:=∀ i j,i<j→j<ps.length→Op.bytesLess (keyAt ps i) (keyAt ps j)=true
theorem zjt:∀ a b c:List UInt8,Op.bytesLess a b=true→Op.bytesLess b c=true→Op.bytesLess a c=true
 | _,_,[],_,h=>by simp[Op.bytesLess] at h
 | [],_,_ :: _,_,_=>by simp[Op.bytesLess]
 | a :: ra,[],_ :: _,h,_=>by simp[Op.bytesLess] at h
 | a :: ra, b :: rb, c :: rc, h1, h2 => by
   simp only[Op.bytesLess,Bool.or_eq_true,decide_eq_true_eq,Bool.and_eq_true,beq_iff_eq] at h1 h2 ⊢
   rcases h1 with h1 | ⟨rfl,h1⟩
   · rcases h2 with h2 | ⟨rfl,h2⟩
     · exact .inl (UInt8.lt_trans h1 h2)
     · exact .inl h1
   · rcases h2 with h2 | ⟨rfl,h2⟩
     · exact .inl h2
     · exact .inr ⟨rfl,zjt ra rb rc h1 h2⟩
theorem za3r (ps:List za) (h:zq ps=true):rising ps:=by
 have ho:=(zez ps h).2
 intro i j hij hj
 induction j with
 | zero=>omega
 | succ j ih =>
   have hs:Op.bytesLess (keyAt ps j) (keyAt ps (j+1))=true:=by
    have:=ho (j+1) hj
    simp only[okAt,Bool.and_eq_true,Bool.or_eq_true,decide_eq_true_eq] at this
    rcases this.2 with h0 | h0
    · omega
    · simpa using h0
   by_cases e:i=j
   · rw[e];exact hs
   · exact zjt _ _ _ (ih (by omega) (by omega)) hs
theorem za3s (b off cap : Nat) (ps : List za) (k : List UInt8) (w : World) (hl : ps.length ≤ 60) (hr : rising ps) (hs : IsPairs w (some ⟨b, off, none⟩) ps) :
 Calls Tryz.prog 27 #[.slice (some ⟨b,off,none⟩) ps.length cap,.string ⟨k.toArray⟩,.func (.func 28) #[] #[]] w fun e w'=>∃ p:Nat,zfo ps k p∧e=.returned (.tuple #[.int .i64 (p:Int),.bool (decide (p<ps.length∧keyAt ps p=k))])∧Below w.heap.size w w':=by
 rcases hs with rfl | ⟨b',off',he,hc⟩
 · go_enter Tryz.func27,Tryz.ntmps27
   go_wp2
   refine wp_loop_rounds 1 ?_
   rw[rounds_succ]
   go_wp2
   go_ret2
   exact⟨0,⟨Nat.le_refl _,fun t h=>by omega,fun t _ h=>by simp at h⟩,rfl,Below.refl _ _⟩
 · cases he
   have hc':∀ j,j<ps.length→w.cell? ⟨b,off+j*2,none⟩=some (.string ⟨(keyAt ps j).toArray⟩)∧w.cell? ⟨b,off+j*2+1,none⟩=some (.string ⟨(zv ps j).toArray⟩):=fun j h=>by rw[za9 ps j h,zaz ps j h];exact hc j h
   have HR:Hid (rising ps):=hr
   clear hc hr
   go_enter Tryz.func27,Tryz.ntmps27
   go_wp2
   go_loopw [9,10,11] (fun i j _ wr=>∃ lo hi:Nat,lo≤hi∧hi≤ps.length∧i=.int .i64 (lo:Int)∧j=.int .i64 (hi:Int)∧Hid ((∀ t,t<lo→Op.bytesLess (keyAt ps t) k=true)∧∀ t,hi≤t→t<ps.length→Op.bytesLess (keyAt ps t) k=false)∧Below w.heap.size w wr) (fun i j _ _=>(intOf j).toNat - (intOf i).toNat)
   case atStart=>exact⟨0,ps.length,Nat.zero_le _,Nat.le_refl _,rfl,rfl,⟨fun t h=>by omega,fun t h1 h2=>by omega⟩,Below.refl _ _⟩
   case round =>
    obtain⟨lo,hi,hlh,hhn,rfl,rfl,HI,hbel⟩:=hrel
    have hsz:=hbel.size
    by_cases hlt:lo<hi
    · have hlt' : (lo : Int) < (hi : Int) := by omega
      have hm1:lo≤(lo+hi) / 2:=by omega
      have hm2:(lo+hi) / 2<hi:=by omega
      have hmn:(lo+hi) / 2<ps.length:=by omega
      obtain⟨c1',c2'⟩:=hc' ((lo+hi) / 2) hmn
      have hbl:=World.block_lt_of_cell? w _ c1'
      simp only at hbl
      have c1:=(hbel.cell (p:=⟨b,off+(lo+hi) / 2*2,none⟩) hbl).trans c1'
      have c2:=(hbel.cell (p:=⟨b,off+(lo+hi) / 2*2+1,none⟩) hbl).trans c2'
      have hi1:((lo:Int)+(hi:Int)) / 2<(ps.length:Int):=by omega
      have hi0:(0:Int)≤((lo:Int)+(hi:Int)) / 2:=by omega
      have HLO:Hid (∀ t,t<(lo+hi) / 2→Op.bytesLess (keyAt ps t) (keyAt ps ((lo+hi) / 2))=true):=fun t ht=>HR.out t _ ht hmn
      have HUP:Hid (∀ t,(lo+hi) / 2<t→t<ps.length→Op.bytesLess (keyAt ps ((lo+hi) / 2)) (keyAt ps t)=true):=fun t ht hn=>HR.out _ t ht hn
      obtain⟨x,hx⟩:∃ x,x=keyAt ps ((lo+hi) / 2):=⟨_,rfl⟩
      obtain⟨y,hy⟩:∃ y,y=zv ps ((lo+hi) / 2):=⟨_,rfl⟩
      have HX:Hid (x=keyAt ps ((lo+hi) / 2)):=hx
      rw[←hx] at c1 HLO HUP
      rw[←hy] at c2
      have K:=fun W=>ztp x y k W
      have hcn:=cmp_neg x k
      obtain⟨c,hcc⟩:∃ c,c=Lib.compareBytes x k:=⟨_,rfl⟩
      rw[←hcc] at K hcn
      have HCN:Hid ((c<0)=(Op.bytesLess x k=true)):=hcn
      clear hc' c1' c2' hx hy hcc hcn
      go_wp2_with fail
      refine (K _).mono ?_
      rintro e w1 ⟨rfl,b1⟩
      have B1:=hbel.trans (b1.mono hsz)
      clear K b1
      by_cases hn:c<0
      · have HB:Hid (Op.bytesLess x k=true):=HCN.out ▸ hn
        go_wp2
        go_roundw
        case rel=>exact⟨(lo+hi) / 2+1,hi,by omega,hhn,by first | rfl | go_num | (congr 1),rfl,⟨fun t ht=>by
         by_cases e:t=(lo+hi) / 2
         · rw[e,←HX.out];exact HB.out
         · exact zjt _ _ _ (HLO.out t (by omega)) HB.out,HI.out.2⟩,B1⟩
        case measure=>simp[intOf];omega
      · have HB:Hid (Op.bytesLess x k=false):=by
         rw[Hid];cases h:Op.bytesLess x k
         · rfl
         · exact absurd (HCN.out ▸ h) hn
        go_wp2
        go_roundw
        case rel=>exact⟨lo,(lo+hi) / 2,by omega,by omega,rfl,by first | rfl | go_num | (congr 1),⟨HI.out.1,fun t h1 h2=>by
         by_cases e:t=(lo+hi) / 2
         · rw[e,←HX.out];exact HB.out
         · cases h:Op.bytesLess (keyAt ps t) k
           · rfl
           · exact absurd (zjt _ _ _ (HUP.out t (by omega) h2) h) (by rw[HB.out];simp)⟩,B1⟩
        case measure=>simp[intOf];omega
    · have hle:lo=hi:=by omega
      subst hle
      have HPL:Hid (zfo ps k lo):=⟨hhn,HI.out.1,HI.out.2⟩
      by_cases hin:lo<ps.length
      · obtain⟨c1',c2'⟩:=hc' lo hin
        have hbl:=World.block_lt_of_cell? w _ c1'
        simp only at hbl
        have c1:=(hbel.cell (p:=⟨b,off+lo*2,none⟩) hbl).trans c1'
        have c2:=(hbel.cell (p:=⟨b,off+lo*2+1,none⟩) hbl).trans c2'
        have hi1:(lo:Int)<(ps.length:Int):=by omega
        have hi0:(0:Int)≤(lo:Int):=by omega
        obtain⟨x,hx⟩:∃ x,x=keyAt ps lo:=⟨_,rfl⟩
        obtain⟨y,hy⟩:∃ y,y=zv ps lo:=⟨_,rfl⟩
        have HX:Hid (x=keyAt ps lo):=hx
        rw[←hx] at c1
        rw[←hy] at c2
        have K:=fun W=>ztp x y k W
        have hcz:=zjw x k
        obtain⟨c,hcc⟩:∃ c,c=Lib.compareBytes x k:=⟨_,rfl⟩
        rw[←hcc] at K hcz
        have HCZ:Hid ((c=0)=(x=k)):=hcz
        clear hc' c1' c2' hx hy hcc hcz HI hlt
        go_wp2_with fail
        refine (K _).mono ?_
        rintro e w1 ⟨rfl,b1⟩
        have B1:=hbel.trans (b1.mono hsz)
        clear K b1
        by_cases hz:c=0
        · have hxk:x=k:=HCZ.out ▸ hz
          subst hz
          go_wp2
          go_ret2
          exact⟨lo,HPL.out,by rw[decide_eq_true (⟨hin,by rw[←HX.out];exact hxk⟩:lo<ps.length∧keyAt ps lo=k)];rfl,B1⟩
        · have hbz:(c == 0)=false:=by simp[hz]
          have hxk:¬ x=k:=fun e=>hz (HCZ.out.symm ▸ e)
          go_wp2
          go_ret2
          exact⟨lo,HPL.out,by rw[decide_eq_false (fun h:lo<ps.length∧keyAt ps lo=k=>hxk (by rw[HX.out];exact h.2))];rfl,B1⟩
      · have hi1:¬ (lo:Int)<(ps.length:Int):=by omega
        clear hc' HI hlt
        go_wp2
        go_ret2
        exact⟨lo,HPL.out,by first | (simp[hin];done) | (rw[decide_eq_false (fun h:lo<ps.length∧keyAt ps lo=k=>hin h.1)];rfl),hbel⟩
theorem zec {w:World} {b off:Nat} {qs:List za} (h:IsPairs w (some ⟨b,off,none⟩) qs):∀ j u,(zc qs)[j]? = some u→w.cell? ((⟨b,off,none⟩:Addr).add j)=some u:=by
 intro j u hu
 have hj:j<qs.length*2:=by
  have:=(List.getElem?_eq_some_iff.1 hu).1
  rwa [zay] at this
 rcases h with rfl | ⟨b',off',he,hc⟩
 · simp at hj
 · cases he
   have ht:=hc (j / 2) (by omega)
   have hp:=ze9 qs (j / 2) (by omega)
   rcases Nat.mod_two_eq_zero_or_one j with h0 | h0
   · have e:j=j / 2*2:=by omega
     rw[e] at hu ⊢
     rw[hp.1] at hu
     cases hu
     have ea:(⟨b,off,none⟩:Addr).add (j / 2*2)=⟨b,off+j / 2*2,none⟩:=by
      simp only[Addr.add]
      split
      · rename_i h9;rw[h9];rfl
      · rfl
     rw[ea];exact ht.1
   · have e:j=j / 2*2+1:=by omega
     rw[e] at hu ⊢
     rw[hp.2] at hu
     cases hu
     have ea:(⟨b,off,none⟩:Addr).add (j / 2*2+1)=⟨b,off+j / 2*2+1,none⟩:=by simp[Addr.add,Nat.add_assoc]
     rw[ea];exact ht.2
theorem zed (qs:List za):∀ u∈zc qs,u.oneCell'=true:=by
 induction qs with
 | nil=>simp[zc]
 | cons p ps ih=>simp[zc,Value.oneCell'];exact ih
theorem clone_any (b off cap:Nat) (qs:List za) (w:World) (hl:qs.length≤1000) (hs:IsPairs w (some ⟨b,off,none⟩) qs) :
 Calls Tryz.prog 30 #[.slice (some ⟨b,off,none⟩) qs.length cap] w fun e w'=>∃ (a:Option Addr) (m c:Nat),e=.returned (.slice a m c)∧w'.ownsRow w.heap.size 61 2 (.slice a m c) qs.length (zc qs)∧Below w.heap.size w w':=by
 obtain⟨i0,hi0,hz0,hz1,hz2⟩:=info_parts zey
 have B0:Below w.heap.size w (w.alloc (.cells #[] 61)):=(Below.refl _ _).alloc (Nat.le_refl _) _
 have HF:Hid (∀ j u,(zc qs)[j]? = some u→(w.alloc (.cells #[] 61)).cell? ((⟨b,off,none⟩:Addr).add j)=some u):=zec (hs.later B0)
 have o0:=World.ownsRow_lit (e:=61) (size:=2) w #[] 0 (base:=w.heap.size) (Nat.le_refl _) (Nat.zero_le _) rfl
 have HO0:=zf o0
 have hnil:∀ W,(binOp .eql 32 (.slice (some ⟨b,off,none⟩) qs.length cap) (.slice none 0 0)).run Tryz.prog W=.ok (.bool false) W:=fun W=>by first | rfl | (simp[binOp,Op.equal,run_underlying Tryz.underlying32])
 clear hs o0
 go_enter Tryz.func30,Tryz.ntmps30
 go_wp2_with (at_builtin;refine wpList_append_own _ rfl _ _ 32 rfl w.heap.size 61 i0 (.agg #[.string ⟨#[]⟩,.string ⟨#[]⟩]) 2 32 Tryz.underlying32 hi0 hz0 hz1 hz2 rfl (by decide) (.slice (some ⟨w.heap.size,0,none⟩) 0 0) 0 _ rfl HO0.out ⟨b,off,none⟩ qs.length cap (zc qs) rfl (zay qs) HF.out (zed qs) (by unfold maxLen;omega) (by omega) (by simp <;> omega) ?_;intro v3 w3 hown3 hgrow3 hnil3;obtain⟨a3,m3,c3,rfl⟩:=zbj hown3)
 have B3:Below w.heap.size w w3:=B0.grown hgrow3 (by simp) (fun k hk=>by simp[Value.ownBlock] at hk;omega)
 have HO3:Hid (w3.ownsRow w.heap.size 61 2 (.slice a3 m3 c3) qs.length (zc qs)):=by rw[Hid];simpa using hown3
 clear hown3 hgrow3 hnil3
 go_wp2
 go_ret
 exact⟨a3,m3,c3,rfl,HO3.out,B3⟩
def insL (k v:List UInt8):List za:=if v=[] then [] else [(k,v)]
def zcz (ps:List za) (k:List UInt8) (p:Nat):Nat:=if p<ps.length∧keyAt ps p=k then p+1 else p
def putL (ps:List za) (k v:List UInt8) (p:Nat):List za:=ps.take p ++ insL k v ++ ps.drop (zcz ps k p)
theorem za3t {a b:List UInt8} (h:Op.bytesLess a b=true):a≠b:=fun e=>by rw[e,zn0] at h;cases h
theorem zn3 (ps:List za) (k v:List UInt8) (p:Nat) (h:zfo ps k p):∀ j,j≤p→zb1 k v (ps.take j)=(ps.take j,decide (v=[]))
 | 0,_=>by rw[zmz];simp
 | j + 1, hj => by
   have hp:=h.1
   have hjl:j<ps.length:=by omega
   have hl:=h.2.1 j (by omega)
   rw[za9 ps j hjl] at hl
   rw[zhl k v ps j hjl,zn3 ps k v p h j (by omega),zf7 k v _ _ ps[j] (.inr hl),if_neg (za3t hl),zds ps j hjl]
theorem ztq (ps:List za) (k v:List UInt8) (p:Nat) (hr:rising ps) (h:zfo ps k p) (hp:p<ps.length):∀ m,p+1+m≤ps.length→zb1 k v (ps.take (p+1+m))=(ps.take p ++ insL k v ++ (ps.take (p+1+m)).drop (zcz ps k p),true)
 | 0, hm => by
   have hl:=h.2.2 p (Nat.le_refl _) hp
   have hk:=za9 ps p hp
   rw[hk] at hl
   rw[Nat.add_zero,zhl k v ps p hp,zn3 ps k v p h p (Nat.le_refl _)]
   have hd:(ps.take (p+1)).drop (zcz ps k p)=if ps[p].1=k then [] else [ps[p]]:=by
    by_cases e:ps[p].1=k
    · rw[if_pos e,zcz,if_pos ⟨hp,by rw[hk];exact e⟩]
      exact List.drop_eq_nil_of_le (by simp;omega)
    · rw[if_neg e,zcz,if_neg (fun hh=>e (by rw[←hk];exact hh.2)),zds ps p hp,List.drop_append_of_le_length (by simp;omega)]
      simp
   rw[hd]
   by_cases hv:v=[]
   · have:decide (v=[])=true:=decide_eq_true hv
     rw[this,zf7 k v _ _ ps[p] (.inl rfl),insL,if_pos hv]
     by_cases e:ps[p].1=k <;> simp[e]
   · have:decide (v=[])=false:=decide_eq_false hv
     rw[this,zhm k v _ ps[p] hl,insL,if_neg hv]
     by_cases e:ps[p].1=k <;> simp[e]
 | m + 1, hm => by
   have hjl:p+1+m<ps.length:=by omega
   have hk:=za9 ps (p+1+m) hjl
   have hne:ps[p+1+m].1≠k:=by
    intro e
    have h1:=hr p (p+1+m) (by omega) hjl
    rw[hk,e] at h1
    have h2:=h.2.2 p (Nat.le_refl _) hp
    rw[h1] at h2
    cases h2
   have hs:zcz ps k p≤p+1+m:=by unfold zcz;split <;> omega
   rw[show p+1+(m+1)=p+1+m+1 by omega,zhl k v ps (p+1+m) hjl,ztq ps k v p hr h hp m (by omega),zf7 k v _ _ ps[p+1+m] (.inl rfl),if_neg hne,zds ps (p+1+m) hjl,List.drop_append_of_le_length (by simp;omega)]
   simp
theorem za3u (ps:List za) (k v:List UInt8) (p:Nat) (hr:rising ps) (h:zfo ps k p):setL ps k v=putL ps k v p:=by
 by_cases hp:p<ps.length
 · have hf:=ztq ps k v p hr h hp (ps.length - (p+1)) (by omega)
   rw[show p+1+(ps.length - (p+1))=ps.length by omega,List.take_length] at hf
   rw[setL,hf]
   simp[putL]
 · have he:p=ps.length:=by have:=h.1;omega
   have hf:=zn3 ps k v p h p (Nat.le_refl _)
   rw[he,List.take_length] at hf
   rw[setL,hf]
   have hs:zcz ps k ps.length=ps.length:=by rw[zcz,if_neg (fun hh=>by omega)]
   by_cases hv:v=[]
   · simp[putL,insL,hv,hs,he]
   · simp[putL,insL,hv,hs,he]
theorem low2 {w:World} {base e n:Nat} {a:Option Addr} {m cap:Nat} {xs:List Value} (h:w.ownsRow base e 2 (.slice a m cap) n xs):∀ k,(Value.slice a m cap).ownBlock=some k→base≤k:=fun k hk=>(h.lt k hk).1
theorem zjv {w:World} {b off:Nat} {ps:List za} {p:Nat} (h:IsPairs w (some ⟨b,off,none⟩) ps):IsPairs w (some ⟨b,off,none⟩) (ps.take p):=by
 rcases h with rfl | ⟨b',off',he,hc⟩
 · exact .inl (by simp)
 · cases he
   refine .inr ⟨b,off,rfl,fun j hj=>?_⟩
   simp at hj
   simp only[List.getElem_take]
   exact hc j (by omega)
theorem ztr {w:World} {b off:Nat} {ps:List za} {p:Nat} (h:IsPairs w (some ⟨b,off,none⟩) ps):IsPairs w (some ⟨b,off+p*2,none⟩) (ps.drop p):=by
 rcases h with rfl | ⟨b',off',he,hc⟩
 · exact .inl (by simp)
 · cases he
   refine .inr ⟨b,off+p*2,rfl,fun j hj=>?_⟩
   simp at hj
   have:=hc (p+j) (by omega)
   simp only[List.getElem_drop]
   rw[show off+p*2+j*2=off+(p+j)*2 by omega]
   exact this
theorem za3v (b off cp:Nat) (ps:List za) (k v:List UInt8) (w:World) (hl:ps.length≤1048576) (hcap:ps.length≤cp) (hm:∀ p∈ps,p.1.length≤1048576∧p.2.length≤1048576) (hkl:k.length≤1048576) (hvl:v.length≤1048576) (hs:IsPairs w (some ⟨b,off,none⟩) ps) :
 Calls Tryz.prog 10 #[.slice (some ⟨b,off,none⟩) ps.length cp,.string ⟨k.toArray⟩,.string ⟨v.toArray⟩] w fun e w'=>∃ (a':Option Addr) (m cap:Nat),e=.returned (.tuple #[.slice a' m cap,.bool (zce ps k v)])∧w'.ownsRow w.heap.size 61 2 (.slice a' m cap) (setR ps k v).length (zc (setR ps k v))∧Below w.heap.size w w':=by
 obtain⟨i0,hi0,hz0,hz1,hz2⟩:=info_parts zey
 have K1:=zcc (some ⟨b,off,none⟩) cp ps w hl hm hs
 have HD:Hid (zce ps k v=(zq ps && zq (setL ps k v))∧setR ps k v=if zce ps k v=true then setL ps k v else []):=⟨rfl,rfl⟩
 obtain⟨r,hr⟩:∃ r,r=setR ps k v:=⟨_,rfl⟩
 obtain⟨ok,hok⟩:∃ ok,ok=zce ps k v:=⟨_,rfl⟩
 rw[←hok,←hr] at HD
 rw[←hr,←hok]
 clear hr hok
 cases hp1:zq ps with
 | false =>
   rw[hp1] at K1 HD
   have e1:ok=false:=by rw[HD.out.1];rfl
   subst e1
   have e2:r=[]:=by rw[HD.out.2];rfl
   subst e2
   clear hs hm hp1
   go_enter Tryz.func10,Tryz.ntmps10
   go_wp2_with fail
   refine K1.mono ?_
   rintro e w1 ⟨rfl,b1⟩
   go_wp2
   go_ret2
   exact⟨none,0,0,rfl,World.ownsRow_nil _ _ _ _,b1⟩
 | true =>
   rw[hp1] at K1 HD
   have hn:=(zez ps hp1).1
   have hrs:=za3r ps hp1
   have HIS:Hid (∀ W,Below w.heap.size w W→IsPairs W (some ⟨b,off,none⟩) ps):=fun W hW=>hs.later hW
   have HK2:Hid (∀ W,IsPairs W (some ⟨b,off,none⟩) ps→Calls Tryz.prog 27 #[.slice (some ⟨b,off,none⟩) ps.length cp,.string ⟨k.toArray⟩,.func (.func 28) #[] #[]] W fun e w'=>∃ p:Nat,zfo ps k p∧e=.returned (.tuple #[.int .i64 (p:Int),.bool (decide (p<ps.length∧keyAt ps p=k))])∧Below W.heap.size W w'):=fun W hW=>za3s b off cp ps k W hn hrs hW
   have HMM:Hid (∀ p∈setL ps k v,p.1.length≤1048576∧p.2.length≤1048576):=fun p hp=>by
    rcases zto ps k v p hp with h | h
    · rw[h];exact⟨hkl,hvl⟩
    · exact hm p h
   have HSL:Hid (∀ p,zfo ps k p→setL ps k v=putL ps k v p):=fun p hp=>za3u ps k v p hrs hp
   clear hs hm hp1 hrs
   go_enter Tryz.func10,Tryz.ntmps10
   go_wp2_with fail
   refine K1.mono ?_
   rintro e w1 ⟨rfl,b1⟩
   go_wp2_with fail
   refine (HK2.out w1 (HIS.out w1 b1)).mono ?_
   rintro e w2 ⟨p,hpl,rfl,b2⟩
   have B2:=b1.trans (b2.mono b1.size)
   have hp0:p≤ps.length:=hpl.1
   have hpc:(p:Int)≤(cp:Int):=by omega
   have hpl':(p:Int)≤(ps.length:Int):=by omega
   have hp00:(0:Int)≤(p:Int):=by omega
   have HEQ:Hid (setL ps k v=putL ps k v p):=HSL.out p hpl
   clear K1 HK2 b2 HSL hpl
   by_cases hf:p<ps.length∧keyAt ps p=k
   · have HSK : Hid (zcz ps k p = p + 1) := by rw [Hid, zcz, if_pos hf]
     have hf1:p<ps.length:=hf.1
     have hfd:decide (p<ps.length∧keyAt ps p=k)=true:=decide_eq_true hf
     have hfi:(p:Int)<(ps.length:Int):=by omega
     have hp1c:(p:Int)+1≤(cp:Int):=by omega
     have hp1l:(p:Int)+1≤(ps.length:Int):=by omega
     by_cases hc:cp=p+1
     · have IB:Hid (∀ W,Below w.heap.size w W→IsPairs W (some ⟨b,off,none⟩) (ps.drop (p+1))):=fun W hW=>.inl (List.drop_eq_nil_of_le (by omega))
       have K3:=clone_any b off (p+1) (ps.take p) w2 (by simp;omega) (zjv (HIS.out w2 B2))
       rw[List.length_take,Nat.min_eq_left hp0] at K3
       go_wp2_with fail
       refine K3.mono ?_
       rintro e w3 ⟨a3,m3,c3,rfl,o3,b3⟩
       have B3:=B2.trans (b3.mono B2.size)
       have O3:=zf (o3.mono B2.size)
       have lowO3:=low2 O3.out
       have F3:=zec (IB.out w3 B3)
       clear K3 o3 b3
       by_cases hv:v=[]
       · have hve:v.isEmpty=true:=by rw[hv];rfl
         go_wp2_with (at_builtin;refine wpList_append_own _ rfl _ _ 32 rfl w.heap.size 61 i0 (.agg #[.string ⟨#[]⟩,.string ⟨#[]⟩]) 2 32 Tryz.underlying32 hi0 hz0 hz1 hz2 rfl (by decide) (.slice a3 m3 c3) p _ rfl O3.out ⟨b,off,none⟩ (ps.length - (p+1)) 0 (zc (ps.drop (p+1))) rfl (by rw[zay,List.length_drop]) F3 (zed _) (by unfold maxLen;omega) (by omega) (B3.size) ?_;intro v5 w5 hown5 hgrow5 hnil5;obtain⟨a5,m5,c5,rfl⟩:=zbj hown5;have B5:Below w.heap.size w w5:=B3.grown hgrow5 (B3.size) lowO3;have O5:=zf hown5;clear hown5 hgrow5 hnil5)
         have hlen:(putL ps k v p).length=p+(ps.length - (p+1)):=by rw[putL,insL,if_pos hv,HSK.out,List.length_append,List.length_append,List.length_take,List.length_drop,Nat.min_eq_left hp0];rfl
         have OP:Hid (w5.ownsRow w.heap.size 61 2 (.slice a5 m5 c5) (putL ps k v p).length (zc (putL ps k v p))):=by
          rw[Hid,hlen,putL,insL,if_pos hv,zai,zai,HSK.out]
          simpa [zc] using O5.out
         rw[←HEQ.out] at OP
         obtain⟨e5,_,i5⟩:=za8 OP.out
         subst e5
         have K6:=zcc a5 c5 (setL ps k v) w5 (by rw[HEQ.out,hlen];omega) HMM.out i5
         obtain⟨L,hL⟩:∃ L,L=setL ps k v:=⟨_,rfl⟩
         rw[←hL] at OP K6 HD ⊢
         obtain⟨p2,hp2⟩:∃ p2,p2=zq L:=⟨_,rfl⟩
         rw[←hp2] at K6 HD
         clear hp2 hL HEQ hlen O5 i5
         go_wp2_with fail
         refine K6.mono ?_
         rintro e w6 ⟨rfl,b6⟩
         have B6:=B5.trans (b6.mono B5.size)
         have O6:=zf (zb4 OP.out b6)
         clear K6 b6 OP
         cases p2
         · have e1:ok=false:=by rw[HD.out.1];rfl
           subst e1
           have e2:r=[]:=by rw[HD.out.2];rfl
           subst e2
           go_wp2
           go_ret2
           exact⟨none,0,0,rfl,World.ownsRow_nil _ _ _ _,B6⟩
         · have e1:ok=true:=by rw[HD.out.1];rfl
           subst e1
           have e2:r=L:=by rw[HD.out.2];rfl
           subst e2
           go_wp2
           go_ret2
           exact⟨_,_,_,rfl,O6.out,B6⟩
       · have hve:v.isEmpty=false:=by cases v with | nil=>exact absurd rfl hv | cons _ _=>rfl
         go_wp2_with (first | (at_builtin;refine wpList_append_own _ rfl _ _ 32 rfl w.heap.size 61 i0 (.agg #[.string ⟨#[]⟩,.string ⟨#[]⟩]) 2 32 Tryz.underlying32 hi0 hz0 hz1 hz2 rfl (by decide) (.slice a4 m4 c4) (p+1) _ rfl O4.out ⟨b,off,none⟩ (ps.length - (p+1)) 0 (zc (ps.drop (p+1))) rfl (by rw[zay,List.length_drop]) F4 (zed _) (by unfold maxLen;omega) (by omega) (B4.size) ?_;intro v5 w5 hown5 hgrow5 hnil5;obtain⟨a5,m5,c5,rfl⟩:=zbj hown5;have B5:Below w.heap.size w w5:=B4.grown hgrow5 (B4.size) lowO4;have O5:=zf hown5;clear hown5 hgrow5 hnil5) | (at_builtin;refine wpList_append_own _ rfl _ _ 32 rfl w.heap.size 61 i0 (.agg #[.string ⟨#[]⟩,.string ⟨#[]⟩]) 2 32 Tryz.underlying32 hi0 hz0 hz1 hz2 rfl (by decide) (.slice a3 m3 c3) p _ rfl (O3.out.alloc _) ⟨w3.heap.size,0,none⟩ 1 1 [.string ⟨k.toArray⟩,.string ⟨v.toArray⟩] rfl rfl (World.news_of_block (cs:=#[.string ⟨k.toArray⟩,.string ⟨v.toArray⟩]) (t:=61) (fr:=(0,0)) (heap_alloc_new w3 _)) (by simp[Value.oneCell']) (by unfold maxLen;omega) (by omega) (Nat.le_trans B3.size (by simp)) ?_;intro v4 w4 hown4 hgrow4 hnil4;obtain⟨a4,m4,c4,rfl⟩:=zbj hown4;have B4:Below w.heap.size w w4:=(B3.alloc B3.size _).grown hgrow4 (Nat.le_trans B3.size (by simp)) (fun k hk=>(lowO3 k hk));have O4:=zf hown4;have F4:=zec (IB.out w4 B4);have lowO4:=low2 hown4;clear hown4 hgrow4 hnil4))
         have hlen:(putL ps k v p).length=p+1+(ps.length - (p+1)):=by rw[putL,insL,if_neg hv,HSK.out,List.length_append,List.length_append,List.length_take,List.length_drop,Nat.min_eq_left hp0];rfl
         have OP:Hid (w5.ownsRow w.heap.size 61 2 (.slice a5 m5 c5) (putL ps k v p).length (zc (putL ps k v p))):=by
          rw[Hid,hlen,putL,insL,if_neg hv,zai,zai,HSK.out]
          simpa [zc] using O5.out
         rw[←HEQ.out] at OP
         obtain⟨e5,_,i5⟩:=za8 OP.out
         subst e5
         have K6:=zcc a5 c5 (setL ps k v) w5 (by rw[HEQ.out,hlen];omega) HMM.out i5
         obtain⟨L,hL⟩:∃ L,L=setL ps k v:=⟨_,rfl⟩
         rw[←hL] at OP K6 HD ⊢
         obtain⟨p2,hp2⟩:∃ p2,p2=zq L:=⟨_,rfl⟩
         rw[←hp2] at K6 HD
         clear hp2 hL HEQ hlen O5 i5
         go_wp2_with fail
         refine K6.mono ?_
         rintro e w6 ⟨rfl,b6⟩
         have B6:=B5.trans (b6.mono B5.size)
         have O6:=zf (zb4 OP.out b6)
         clear K6 b6 OP
         cases p2
         · have e1:ok=false:=by rw[HD.out.1];rfl
           subst e1
           have e2:r=[]:=by rw[HD.out.2];rfl
           subst e2
           go_wp2
           go_ret2
           exact⟨none,0,0,rfl,World.ownsRow_nil _ _ _ _,B6⟩
         · have e1:ok=true:=by rw[HD.out.1];rfl
           subst e1
           have e2:r=L:=by rw[HD.out.2];rfl
           subst e2
           go_wp2
           go_ret2
           exact⟨_,_,_,rfl,O6.out,B6⟩
     · have IB:Hid (∀ W,Below w.heap.size w W→IsPairs W (some ⟨b,off+(p+1)*2,none⟩) (ps.drop (p+1))):=fun W hW=>ztr (HIS.out W hW)
       have K3:=clone_any b off cp (ps.take p) w2 (by simp;omega) (zjv (HIS.out w2 B2))
       rw[List.length_take,Nat.min_eq_left hp0] at K3
       go_wp2_with fail
       refine K3.mono ?_
       rintro e w3 ⟨a3,m3,c3,rfl,o3,b3⟩
       have B3:=B2.trans (b3.mono B2.size)
       have O3:=zf (o3.mono B2.size)
       have lowO3:=low2 O3.out
       have F3:=zec (IB.out w3 B3)
       clear K3 o3 b3
       by_cases hv:v=[]
       · have hve:v.isEmpty=true:=by rw[hv];rfl
         go_wp2_with (at_builtin;refine wpList_append_own _ rfl _ _ 32 rfl w.heap.size 61 i0 (.agg #[.string ⟨#[]⟩,.string ⟨#[]⟩]) 2 32 Tryz.underlying32 hi0 hz0 hz1 hz2 rfl (by decide) (.slice a3 m3 c3) p _ rfl O3.out ⟨b,off+(p+1)*2,none⟩ (ps.length - (p+1)) (cp - (p+1)) (zc (ps.drop (p+1))) rfl (by rw[zay,List.length_drop]) F3 (zed _) (by unfold maxLen;omega) (by omega) (B3.size) ?_;intro v5 w5 hown5 hgrow5 hnil5;obtain⟨a5,m5,c5,rfl⟩:=zbj hown5;have B5:Below w.heap.size w w5:=B3.grown hgrow5 (B3.size) lowO3;have O5:=zf hown5;clear hown5 hgrow5 hnil5)
         have hlen:(putL ps k v p).length=p+(ps.length - (p+1)):=by rw[putL,insL,if_pos hv,HSK.out,List.length_append,List.length_append,List.length_take,List.length_drop,Nat.min_eq_left hp0];rfl
         have OP:Hid (w5.ownsRow w.heap.size 61 2 (.slice a5 m5 c5) (putL ps k v p).length (zc (putL ps k v p))):=by
          rw[Hid,hlen,putL,insL,if_pos hv,zai,zai,HSK.out]
          simpa [zc] using O5.out
         rw[←HEQ.out] at OP
         obtain⟨e5,_,i5⟩:=za8 OP.out
         subst e5
         have K6:=zcc a5 c5 (setL ps k v) w5 (by rw[HEQ.out,hlen];omega) HMM.out i5
         obtain⟨L,hL⟩:∃ L,L=setL ps k v:=⟨_,rfl⟩
         rw[←hL] at OP K6 HD ⊢
         obtain⟨p2,hp2⟩:∃ p2,p2=zq L:=⟨_,rfl⟩
         rw[←hp2] at K6 HD
         clear hp2 hL HEQ hlen O5 i5
         go_wp2_with fail
         refine K6.mono ?_
         rintro e w6 ⟨rfl,b6⟩
         have B6:=B5.trans (b6.mono B5.size)
         have O6:=zf (zb4 OP.out b6)
         clear K6 b6 OP
         cases p2
         · have e1:ok=false:=by rw[HD.out.1];rfl
           subst e1
           have e2:r=[]:=by rw[HD.out.2];rfl
           subst e2
           go_wp2
           go_ret2
           exact⟨none,0,0,rfl,World.ownsRow_nil _ _ _ _,B6⟩
         · have e1:ok=true:=by rw[HD.out.1];rfl
           subst e1
           have e2:r=L:=by rw[HD.out.2];rfl
           subst e2
           go_wp2
           go_ret2
           exact⟨_,_,_,rfl,O6.out,B6⟩
       · have hve:v.isEmpty=false:=by cases v with | nil=>exact absurd rfl hv | cons _ _=>rfl
         go_wp2_with (first | (at_builtin;refine wpList_append_own _ rfl _ _ 32 rfl w.heap.size 61 i0 (.agg #[.string ⟨#[]⟩,.string ⟨#[]⟩]) 2 32 Tryz.underlying32 hi0 hz0 hz1 hz2 rfl (by decide) (.slice a4 m4 c4) (p+1) _ rfl O4.out ⟨b,off+(p+1)*2,none⟩ (ps.length - (p+1)) (cp - (p+1)) (zc (ps.drop (p+1))) rfl (by rw[zay,List.length_drop]) F4 (zed _) (by unfold maxLen;omega) (by omega) (B4.size) ?_;intro v5 w5 hown5 hgrow5 hnil5;obtain⟨a5,m5,c5,rfl⟩:=zbj hown5;have B5:Below w.heap.size w w5:=B4.grown hgrow5 (B4.size) lowO4;have O5:=zf hown5;clear hown5 hgrow5 hnil5) | (at_builtin;refine wpList_append_own _ rfl _ _ 32 rfl w.heap.size 61 i0 (.agg #[.string ⟨#[]⟩,.string ⟨#[]⟩]) 2 32 Tryz.underlying32 hi0 hz0 hz1 hz2 rfl (by decide) (.slice a3 m3 c3) p _ rfl (O3.out.alloc _) ⟨w3.heap.size,0,none⟩ 1 1 [.string ⟨k.toArray⟩,.string ⟨v.toArray⟩] rfl rfl (World.news_of_block (cs:=#[.string ⟨k.toArray⟩,.string ⟨v.toArray⟩]) (t:=61) (fr:=(0,0)) (heap_alloc_new w3 _)) (by simp[Value.oneCell']) (by unfold maxLen;omega) (by omega) (Nat.le_trans B3.size (by simp)) ?_;intro v4 w4 hown4 hgrow4 hnil4;obtain⟨a4,m4,c4,rfl⟩:=zbj hown4;have B4:Below w.heap.size w w4:=(B3.alloc B3.size _).grown hgrow4 (Nat.le_trans B3.size (by simp)) (fun k hk=>(lowO3 k hk));have O4:=zf hown4;have F4:=zec (IB.out w4 B4);have lowO4:=low2 hown4;clear hown4 hgrow4 hnil4))
         have hlen:(putL ps k v p).length=p+1+(ps.length - (p+1)):=by rw[putL,insL,if_neg hv,HSK.out,List.length_append,List.length_append,List.length_take,List.length_drop,Nat.min_eq_left hp0];rfl
         have OP:Hid (w5.ownsRow w.heap.size 61 2 (.slice a5 m5 c5) (putL ps k v p).length (zc (putL ps k v p))):=by
          rw[Hid,hlen,putL,insL,if_neg hv,zai,zai,HSK.out]
          simpa [zc] using O5.out
         rw[←HEQ.out] at OP
         obtain⟨e5,_,i5⟩:=za8 OP.out
         subst e5
         have K6:=zcc a5 c5 (setL ps k v) w5 (by rw[HEQ.out,hlen];omega) HMM.out i5
         obtain⟨L,hL⟩:∃ L,L=setL ps k v:=⟨_,rfl⟩
         rw[←hL] at OP K6 HD ⊢
         obtain⟨p2,hp2⟩:∃ p2,p2=zq L:=⟨_,rfl⟩
         rw[←hp2] at K6 HD
         clear hp2 hL HEQ hlen O5 i5
         go_wp2_with fail
         refine K6.mono ?_
         rintro e w6 ⟨rfl,b6⟩
         have B6:=B5.trans (b6.mono B5.size)
         have O6:=zf (zb4 OP.out b6)
         clear K6 b6 OP
         cases p2
         · have e1:ok=false:=by rw[HD.out.1];rfl
           subst e1
           have e2:r=[]:=by rw[HD.out.2];rfl
           subst e2
           go_wp2
           go_ret2
           exact⟨none,0,0,rfl,World.ownsRow_nil _ _ _ _,B6⟩
         · have e1:ok=true:=by rw[HD.out.1];rfl
           subst e1
           have e2:r=L:=by rw[HD.out.2];rfl
           subst e2
           go_wp2
           go_ret2
           exact⟨_,_,_,rfl,O6.out,B6⟩
   · have HSK : Hid (zcz ps k p = p) := by rw [Hid, zcz, if_neg hf]
     have hfd:decide (p<ps.length∧keyAt ps p=k)=false:=decide_eq_false hf
     have hfb:(decide (p<ps.length) && decide (keyAt ps p=k))=false:=by rw[←Bool.decide_and];exact hfd
     by_cases hc:cp=p
     · have IB:Hid (∀ W,Below w.heap.size w W→IsPairs W (some ⟨b,off,none⟩) (ps.drop p)):=fun W hW=>.inl (List.drop_eq_nil_of_le (by omega))
       have K3:=clone_any b off p (ps.take p) w2 (by simp;omega) (zjv (HIS.out w2 B2))
       rw[List.length_take,Nat.min_eq_left hp0] at K3
       go_wp2_with fail
       refine K3.mono ?_
       rintro e w3 ⟨a3,m3,c3,rfl,o3,b3⟩
       have B3:=B2.trans (b3.mono B2.size)
       have O3:=zf (o3.mono B2.size)
       have lowO3:=low2 O3.out
       have F3:=zec (IB.out w3 B3)
       clear K3 o3 b3
       by_cases hv:v=[]
       · have hve:v.isEmpty=true:=by rw[hv];rfl
         go_wp2_with (at_builtin;refine wpList_append_own _ rfl _ _ 32 rfl w.heap.size 61 i0 (.agg #[.string ⟨#[]⟩,.string ⟨#[]⟩]) 2 32 Tryz.underlying32 hi0 hz0 hz1 hz2 rfl (by decide) (.slice a3 m3 c3) p _ rfl O3.out ⟨b,off,none⟩ (ps.length - p) 0 (zc (ps.drop p)) rfl (by rw[zay,List.length_drop]) F3 (zed _) (by unfold maxLen;omega) (by omega) (B3.size) ?_;intro v5 w5 hown5 hgrow5 hnil5;obtain⟨a5,m5,c5,rfl⟩:=zbj hown5;have B5:Below w.heap.size w w5:=B3.grown hgrow5 (B3.size) lowO3;have O5:=zf hown5;clear hown5 hgrow5 hnil5)
         have hlen:(putL ps k v p).length=p+(ps.length - p):=by rw[putL,insL,if_pos hv,HSK.out,List.length_append,List.length_append,List.length_take,List.length_drop,Nat.min_eq_left hp0];rfl
         have OP:Hid (w5.ownsRow w.heap.size 61 2 (.slice a5 m5 c5) (putL ps k v p).length (zc (putL ps k v p))):=by
          rw[Hid,hlen,putL,insL,if_pos hv,zai,zai,HSK.out]
          simpa [zc] using O5.out
         rw[←HEQ.out] at OP
         obtain⟨e5,_,i5⟩:=za8 OP.out
         subst e5
         have K6:=zcc a5 c5 (setL ps k v) w5 (by rw[HEQ.out,hlen];omega) HMM.out i5
         obtain⟨L,hL⟩:∃ L,L=setL ps k v:=⟨_,rfl⟩
         rw[←hL] at OP K6 HD ⊢
         obtain⟨p2,hp2⟩:∃ p2,p2=zq L:=⟨_,rfl⟩
         rw[←hp2] at K6 HD
         clear hp2 hL HEQ hlen O5 i5
         go_wp2_with fail
         refine K6.mono ?_
         rintro e w6 ⟨rfl,b6⟩
         have B6:=B5.trans (b6.mono B5.size)
         have O6:=zf (zb4 OP.out b6)
         clear K6 b6 OP
         cases p2
         · have e1:ok=false:=by rw[HD.out.1];rfl
           subst e1
           have e2:r=[]:=by rw[HD.out.2];rfl
           subst e2
           go_wp2
           go_ret2
           exact⟨none,0,0,rfl,World.ownsRow_nil _ _ _ _,B6⟩
         · have e1:ok=true:=by rw[HD.out.1];rfl
           subst e1
           have e2:r=L:=by rw[HD.out.2];rfl
           subst e2
           go_wp2
           go_ret2
           exact⟨_,_,_,rfl,O6.out,B6⟩
       · have hve:v.isEmpty=false:=by cases v with | nil=>exact absurd rfl hv | cons _ _=>rfl
         go_wp2_with (first | (at_builtin;refine wpList_append_own _ rfl _ _ 32 rfl w.heap.size 61 i0 (.agg #[.string ⟨#[]⟩,.string ⟨#[]⟩]) 2 32 Tryz.underlying32 hi0 hz0 hz1 hz2 rfl (by decide) (.slice a4 m4 c4) (p+1) _ rfl O4.out ⟨b,off,none⟩ (ps.length - p) 0 (zc (ps.drop p)) rfl (by rw[zay,List.length_drop]) F4 (zed _) (by unfold maxLen;omega) (by omega) (B4.size) ?_;intro v5 w5 hown5 hgrow5 hnil5;obtain⟨a5,m5,c5,rfl⟩:=zbj hown5;have B5:Below w.heap.size w w5:=B4.grown hgrow5 (B4.size) lowO4;have O5:=zf hown5;clear hown5 hgrow5 hnil5) | (at_builtin;refine wpList_append_own _ rfl _ _ 32 rfl w.heap.size 61 i0 (.agg #[.string ⟨#[]⟩,.string ⟨#[]⟩]) 2 32 Tryz.underlying32 hi0 hz0 hz1 hz2 rfl (by decide) (.slice a3 m3 c3) p _ rfl (O3.out.alloc _) ⟨w3.heap.size,0,none⟩ 1 1 [.string ⟨k.toArray⟩,.string ⟨v.toArray⟩] rfl rfl (World.news_of_block (cs:=#[.string ⟨k.toArray⟩,.string ⟨v.toArray⟩]) (t:=61) (fr:=(0,0)) (heap_alloc_new w3 _)) (by simp[Value.oneCell']) (by unfold maxLen;omega) (by omega) (Nat.le_trans B3.size (by simp)) ?_;intro v4 w4 hown4 hgrow4 hnil4;obtain⟨a4,m4,c4,rfl⟩:=zbj hown4;have B4:Below w.heap.size w w4:=(B3.alloc B3.size _).grown hgrow4 (Nat.le_trans B3.size (by simp)) (fun k hk=>(lowO3 k hk));have O4:=zf hown4;have F4:=zec (IB.out w4 B4);have lowO4:=low2 hown4;clear hown4 hgrow4 hnil4))
         have hlen:(putL ps k v p).length=p+1+(ps.length - p):=by rw[putL,insL,if_neg hv,HSK.out,List.length_append,List.length_append,List.length_take,List.length_drop,Nat.min_eq_left hp0];rfl
         have OP:Hid (w5.ownsRow w.heap.size 61 2 (.slice a5 m5 c5) (putL ps k v p).length (zc (putL ps k v p))):=by
          rw[Hid,hlen,putL,insL,if_neg hv,zai,zai,HSK.out]
          simpa [zc] using O5.out
         rw[←HEQ.out] at OP
         obtain⟨e5,_,i5⟩:=za8 OP.out
         subst e5
         have K6:=zcc a5 c5 (setL ps k v) w5 (by rw[HEQ.out,hlen];omega) HMM.out i5
         obtain⟨L,hL⟩:∃ L,L=setL ps k v:=⟨_,rfl⟩
         rw[←hL] at OP K6 HD ⊢
         obtain⟨p2,hp2⟩:∃ p2,p2=zq L:=⟨_,rfl⟩
         rw[←hp2] at K6 HD
         clear hp2 hL HEQ hlen O5 i5
         go_wp2_with fail
         refine K6.mono ?_
         rintro e w6 ⟨rfl,b6⟩
         have B6:=B5.trans (b6.mono B5.size)
         have O6:=zf (zb4 OP.out b6)
         clear K6 b6 OP
         cases p2
         · have e1:ok=false:=by rw[HD.out.1];rfl
           subst e1
           have e2:r=[]:=by rw[HD.out.2];rfl
           subst e2
           go_wp2
           go_ret2
           exact⟨none,0,0,rfl,World.ownsRow_nil _ _ _ _,B6⟩
         · have e1:ok=true:=by rw[HD.out.1];rfl
           subst e1
           have e2:r=L:=by rw[HD.out.2];rfl
           subst e2
           go_wp2
           go_ret2
           exact⟨_,_,_,rfl,O6.out,B6⟩
     · have IB:Hid (∀ W,Below w.heap.size w W→IsPairs W (some ⟨b,off+p*2,none⟩) (ps.drop p)):=fun W hW=>ztr (HIS.out W hW)
       have K3:=clone_any b off cp (ps.take p) w2 (by simp;omega) (zjv (HIS.out w2 B2))
       rw[List.length_take,Nat.min_eq_left hp0] at K3
       go_wp2_with fail
       refine K3.mono ?_
       rintro e w3 ⟨a3,m3,c3,rfl,o3,b3⟩
       have B3:=B2.trans (b3.mono B2.size)
       have O3:=zf (o3.mono B2.size)
       have lowO3:=low2 O3.out
       have F3:=zec (IB.out w3 B3)
       clear K3 o3 b3
       by_cases hv:v=[]
       · have hve:v.isEmpty=true:=by rw[hv];rfl
         go_wp2_with (at_builtin;refine wpList_append_own _ rfl _ _ 32 rfl w.heap.size 61 i0 (.agg #[.string ⟨#[]⟩,.string ⟨#[]⟩]) 2 32 Tryz.underlying32 hi0 hz0 hz1 hz2 rfl (by decide) (.slice a3 m3 c3) p _ rfl O3.out ⟨b,off+p*2,none⟩ (ps.length - p) (cp - p) (zc (ps.drop p)) rfl (by rw[zay,List.length_drop]) F3 (zed _) (by unfold maxLen;omega) (by omega) (B3.size) ?_;intro v5 w5 hown5 hgrow5 hnil5;obtain⟨a5,m5,c5,rfl⟩:=zbj hown5;have B5:Below w.heap.size w w5:=B3.grown hgrow5 (B3.size) lowO3;have O5:=zf hown5;clear hown5 hgrow5 hnil5)
         have hlen:(putL ps k v p).length=p+(ps.length - p):=by rw[putL,insL,if_pos hv,HSK.out,List.length_append,List.length_append,List.length_take,List.length_drop,Nat.min_eq_left hp0];rfl
         have OP:Hid (w5.ownsRow w.heap.size 61 2 (.slice a5 m5 c5) (putL ps k v p).length (zc (putL ps k v p))):=by
          rw[Hid,hlen,putL,insL,if_pos hv,zai,zai,HSK.out]
          simpa [zc] using O5.out
         rw[←HEQ.out] at OP
         obtain⟨e5,_,i5⟩:=za8 OP.out
         subst e5
         have K6:=zcc a5 c5 (setL ps k v) w5 (by rw[HEQ.out,hlen];omega) HMM.out i5
         obtain⟨L,hL⟩:∃ L,L=setL ps k v:=⟨_,rfl⟩
         rw[←hL] at OP K6 HD ⊢
         obtain⟨p2,hp2⟩:∃ p2,p2=zq L:=⟨_,rfl⟩
         rw[←hp2] at K6 HD
         clear hp2 hL HEQ hlen O5 i5
         go_wp2_with fail
         refine K6.mono ?_
         rintro e w6 ⟨rfl,b6⟩
         have B6:=B5.trans (b6.mono B5.size)
         have O6:=zf (zb4 OP.out b6)
         clear K6 b6 OP
         cases p2
         · have e1:ok=false:=by rw[HD.out.1];rfl
           subst e1
           have e2:r=[]:=by rw[HD.out.2];rfl
           subst e2
           go_wp2
           go_ret2
           exact⟨none,0,0,rfl,World.ownsRow_nil _ _ _ _,B6⟩
         · have e1:ok=true:=by rw[HD.out.1];rfl
           subst e1
           have e2:r=L:=by rw[HD.out.2];rfl
           subst e2
           go_wp2
           go_ret2
           exact⟨_,_,_,rfl,O6.out,B6⟩
       · have hve:v.isEmpty=false:=by cases v with | nil=>exact absurd rfl hv | cons _ _=>rfl
         go_wp2_with (first | (at_builtin;refine wpList_append_own _ rfl _ _ 32 rfl w.heap.size 61 i0 (.agg #[.string ⟨#[]⟩,.string ⟨#[]⟩]) 2 32 Tryz.underlying32 hi0 hz0 hz1 hz2 rfl (by decide) (.slice a4 m4 c4) (p+1) _ rfl O4.out ⟨b,off+p*2,none⟩ (ps.length - p) (cp - p) (zc (ps.drop p)) rfl (by rw[zay,List.length_drop]) F4 (zed _) (by unfold maxLen;omega) (by omega) (B4.size) ?_;intro v5 w5 hown5 hgrow5 hnil5;obtain⟨a5,m5,c5,rfl⟩:=zbj hown5;have B5:Below w.heap.size w w5:=B4.grown hgrow5 (B4.size) lowO4;have O5:=zf hown5;clear hown5 hgrow5 hnil5) | (at_builtin;refine wpList_append_own _ rfl _ _ 32 rfl w.heap.size 61 i0 (.agg #[.string ⟨#[]⟩,.string ⟨#[]⟩]) 2 32 Tryz.underlying32 hi0 hz0 hz1 hz2 rfl (by decide) (.slice a3 m3 c3) p _ rfl (O3.out.alloc _) ⟨w3.heap.size,0,none⟩ 1 1 [.string ⟨k.toArray⟩,.string ⟨v.toArray⟩] rfl rfl (World.news_of_block (cs:=#[.string ⟨k.toArray⟩,.string ⟨v.toArray⟩]) (t:=61) (fr:=(0,0)) (heap_alloc_new w3 _)) (by simp[Value.oneCell']) (by unfold maxLen;omega) (by omega) (Nat.le_trans B3.size (by simp)) ?_;intro v4 w4 hown4 hgrow4 hnil4;obtain⟨a4,m4,c4,rfl⟩:=zbj hown4;have B4:Below w.heap.size w w4:=(B3.alloc B3.size _).grown hgrow4 (Nat.le_trans B3.size (by simp)) (fun k hk=>(lowO3 k hk));have O4:=zf hown4;have F4:=zec (IB.out w4 B4);have lowO4:=low2 hown4;clear hown4 hgrow4 hnil4))
         have hlen:(putL ps k v p).length=p+1+(ps.length - p):=by rw[putL,insL,if_neg hv,HSK.out,List.length_append,List.length_append,List.length_take,List.length_drop,Nat.min_eq_left hp0];rfl
         have OP:Hid (w5.ownsRow w.heap.size 61 2 (.slice a5 m5 c5) (putL ps k v p).length (zc (putL ps k v p))):=by
          rw[Hid,hlen,putL,insL,if_neg hv,zai,zai,HSK.out]
          simpa [zc] using O5.out
         rw[←HEQ.out] at OP
         obtain⟨e5,_,i5⟩:=za8 OP.out
         subst e5
         have K6:=zcc a5 c5 (setL ps k v) w5 (by rw[HEQ.out,hlen];omega) HMM.out i5
         obtain⟨L,hL⟩:∃ L,L=setL ps k v:=⟨_,rfl⟩
         rw[←hL] at OP K6 HD ⊢
         obtain⟨p2,hp2⟩:∃ p2,p2=zq L:=⟨_,rfl⟩
         rw[←hp2] at K6 HD
         clear hp2 hL HEQ hlen O5 i5
         go_wp2_with fail
         refine K6.mono ?_
         rintro e w6 ⟨rfl,b6⟩
         have B6:=B5.trans (b6.mono B5.size)
         have O6:=zf (zb4 OP.out b6)
         clear K6 b6 OP
         cases p2
         · have e1:ok=false:=by rw[HD.out.1];rfl
           subst e1
           have e2:r=[]:=by rw[HD.out.2];rfl
           subst e2
           go_wp2
           go_ret2
           exact⟨none,0,0,rfl,World.ownsRow_nil _ _ _ _,B6⟩
         · have e1:ok=true:=by rw[HD.out.1];rfl
           subst e1
           have e2:r=L:=by rw[HD.out.2];rfl
           subst e2
           go_wp2
           go_ret2
           exact⟨_,_,_,rfl,O6.out,B6⟩
theorem za3w (k:List UInt8) (w:World) :
 Calls Tryz.prog 27 #[.slice none 0 0,.string ⟨k.toArray⟩,.func (.func 28) #[] #[]] w fun e w'=>e=.returned (.tuple #[.int .i64 0,.bool false])∧Below w.heap.size w w':=by
 go_enter Tryz.func27,Tryz.ntmps27
 go_wp2
 refine wp_loop_rounds 1 ?_
 rw[rounds_succ]
 go_wp2
 go_ret2
 exact⟨rfl,Below.refl _ _⟩
theorem za3x (w:World) :
 Calls Tryz.prog 30 #[.slice none 0 0] w fun e w'=>e=.returned (.slice none 0 0)∧w'=w:=by
 have hnil:∀ W,(binOp .eql 32 (.slice none 0 0) (.slice none 0 0)).run Tryz.prog W=.ok (.bool true) W:=fun W=>by first | rfl | (simp[binOp,Op.equal,run_underlying Tryz.underlying32])
 go_enter Tryz.func30,Tryz.ntmps30
 go_wp2
 go_ret
 exact⟨rfl,rfl⟩
theorem zts (k v:List UInt8):setL [] k v=if v=[] then [] else [(k,v)]:=by
 simp only[setL,zb1,List.foldl_nil]
 by_cases h:v=[] <;> simp[h]
theorem za3y (k v:List UInt8) (w:World) (hkl:k.length≤1048576) (hvl:v.length≤1048576) :
 Calls Tryz.prog 10 #[.slice none 0 0,.string ⟨k.toArray⟩,.string ⟨v.toArray⟩] w fun e w'=>∃ (a':Option Addr) (m cap:Nat),e=.returned (.tuple #[.slice a' m cap,.bool (zce [] k v)])∧w'.ownsRow w.heap.size 61 2 (.slice a' m cap) (setR [] k v).length (zc (setR [] k v))∧Below w.heap.size w w':=by
 obtain⟨i0,hi0,hz0,hz1,hz2⟩:=info_parts zey
 have K1:=zcc none 0 [] w (by simp) (by simp) (.inl rfl)
 have hp0:zq []=true:=rfl
 rw[hp0] at K1
 have KS:=fun W=>za3w k W
 have KC:=fun W=>za3x W
 by_cases hv:v=[]
 · have HR:Hid (zce [] k v=true∧setR [] k v=[]):=by
    have h1:setL [] k v=[]:=by rw[zts,if_pos hv]
    have h2:zce [] k v=true:=by simp only[zce,h1,hp0];rfl
    exact⟨h2,by simp only[setR,h2,if_true,h1]⟩
   rw[HR.out.1,HR.out.2]
   subst hv
   have KP:=fun W=>zcc none 0 [] W (by simp) (by simp) (.inl rfl)
   rw[hp0] at KP
   clear HR hp0
   go_enter Tryz.func10,Tryz.ntmps10
   go_wp2_with fail
   refine K1.mono ?_
   rintro e w1 ⟨rfl,b1⟩
   go_wp2_with fail
   refine (KS w1).mono ?_
   rintro e w2 ⟨rfl,b2⟩
   have B2:=b1.trans (b2.mono b1.size)
   go_wp2_with fail
   refine (KC w2).mono ?_
   rintro e w3 ⟨rfl,rfl⟩
   go_wp2_with (at_builtin;refine wpList_append_own_none rfl _ _ 32 rfl w.heap.size 61 i0 2 Tryz.underlying32 hi0 (.slice none 0 0) 0 [] rfl (World.ownsRow_nil _ _ _ _) rfl ?_)
   refine (KP _).mono ?_
   rintro e w4 ⟨rfl,b4⟩
   have B4:=B2.trans (b4.mono B2.size)
   go_wp2
   go_ret2
   exact⟨none,0,0,rfl,World.ownsRow_nil _ _ _ _,B4⟩
 · have h1:setL [] k v=[(k,v)]:=by rw[zts,if_neg hv]
   obtain⟨ok,hok⟩:∃ ok,ok=zq [(k,v)]:=⟨_,rfl⟩
   have HR:Hid (zce [] k v=ok∧setR [] k v=if ok=true then [(k,v)] else []):=by
    have h2:zce [] k v=ok:=by simp only[zce,h1,hp0,hok,Bool.true_and]
    exact⟨h2,by simp only[setR,h2,h1]⟩
   rw[HR.out.1,HR.out.2]
   have KP:Hid (∀ (a:Option Addr) (c:Nat) W,IsPairs W a [(k,v)]→Calls Tryz.prog 24 #[.slice a 1 c] W fun e w'=>e=.returned (.bool ok)∧Below W.heap.size W w'):=fun a c W h=>by
    have:=zcc a c [(k,v)] W (by simp) (by simp;omega) h
    rw[←hok] at this
    exact this
   have hve:v.isEmpty=false:=by cases v with | nil=>exact absurd rfl hv | cons _ _=>rfl
   clear HR hp0 h1 hok hv
   go_enter Tryz.func10,Tryz.ntmps10
   go_wp2_with fail
   refine K1.mono ?_
   rintro e w1 ⟨rfl,b1⟩
   go_wp2_with fail
   refine (KS w1).mono ?_
   rintro e w2 ⟨rfl,b2⟩
   have B2:Hid (Below w.heap.size w w2):=b1.trans (b2.mono b1.size)
   have S2:=B2.out.size
   have BA:Hid (Below w.heap.size w (w2.alloc (.cells #[.string ⟨k.toArray⟩,.string ⟨v.toArray⟩] 61))):=B2.out.alloc S2 _
   go_wp2_with fail
   refine (KC w2).mono ?_
   rintro e w3 ⟨rfl,rfl⟩
   clear b1 b2
   go_wp2_with (first
    | (at_builtin; refine wpList_append_lies _ rfl _ _ 32 rfl w.heap.size 61 i0 (.agg #[.string ⟨#[]⟩, .string ⟨#[]⟩]) 2 32 Tryz.underlying32 hi0 hz0 hz1 hz2 rfl (by decide) (.slice none 0 0) 0 [] rfl (World.ownsRow_nil _ _ _ _) ⟨w3.heap.size, 0, none⟩ 1 1 [.string ⟨k.toArray⟩, .string ⟨v.toArray⟩] rfl rfl (World.news_of_block (cs := #[.string ⟨k.toArray⟩, .string ⟨v.toArray⟩]) (t := 61) (fr := (0, 0)) (heap_alloc_new w3 _)) (by simp [Value.oneCell']) (by omega) (by unfold maxLen; omega) (by omega) (by simp; omega) (w3.heap.size + 1) (by simp) ?_
       intro g5 cap5 w5 hown5 hgrow5 hat5 hlt5
       have O5:Hid (w5.ownsRow w.heap.size 61 2 (.slice (some ⟨g5,0,none⟩) 1 cap5) 1 (zc [(k,v)])):=hown5
       have B5:Hid (Below w.heap.size w w5):=BA.out.grown hgrow5 (by simp;omega) (by simp[Value.ownBlock])
       clear hown5 hgrow5 hat5)
    | (at_builtin;refine wpList_append_own_none rfl _ _ 32 rfl w.heap.size 61 i0 2 Tryz.underlying32 hi0 (.slice (some ⟨g5,0,none⟩) 1 cap5) 1 (zc [(k,v)]) rfl O5.out rfl ?_))
   refine (KP.out (some ⟨g5,0,none⟩) cap5 w5 (za8 O5.out).2.2).mono ?_
   rintro e w6 ⟨rfl,b6⟩
   have B6:=B5.out.trans (b6.mono B5.out.size)
   have O6:=zf (zb4 O5.out b6)
   cases ok with
   | false =>
     go_wp2
     go_ret2
     exact⟨none,0,0,rfl,World.ownsRow_nil _ _ _ _,B6⟩
   | true =>
     go_wp2
     go_ret2
     exact⟨_,_,_,rfl,O6.out,B6⟩
end Go.Proofs.YtiadimhoolekbaaGreatDoor
