/-
 Texts that are laid as one: MathSet, SSet, SSetP, ISet, MathSetE, ISetP, ISet0.
-/
import Derived.Test.YtppljdnbhoeeoaaGreatDoorSortAll
import Derived.Laws.AppendOwnNone
namespace Go.Proofs.YtppljdnbhoeeoaaGreatDoor
open Go.RowKit
set_option linter.unusedVariables false
set_option maxHeartbeats 2000000
set_option maxRecDepth 100000
def zbq (k v:List UInt8) (st:List za × Bool) (p:za):List za × Bool :=
 if (!st.2 && !(Op.bytesLess p.1 k))=true then (if p.1=k then st.1 ++ [(k,v)] else st.1 ++ [(k,v)] ++ [p],true) else (if p.1=k then st.1 else st.1 ++ [p],st.2)
def zb8 (k v:List UInt8) (ps:List za):List za × Bool:=ps.foldl (zbq k v) ([],decide (v=[]))
def setL (ps:List za) (k v:List UInt8):List za:=if (zb8 k v ps).2=true then (zb8 k v ps).1 else (zb8 k v ps).1 ++ [(k,v)]
theorem za2n (k v:List UInt8) (ps:List za) (j:Nat) (h:j<ps.length):zb8 k v (ps.take (j+1))=zbq k v (zb8 k v (ps.take j)) ps[j]:=by
 rw[zdv ps j h,zb8,List.foldl_append];rfl
theorem za2o (k v:List UInt8) (ps:List za):zb8 k v (ps.take 0)=([],decide (v=[])):=by simp[zb8]
theorem zlj (k v:List UInt8) (L:List za) (p:za) (h:Op.bytesLess p.1 k=false):zbq k v (L,false) p=(if p.1=k then L ++ [(k,v)] else L ++ [(k,v)] ++ [p],true):=by simp[zbq,h]
theorem zil (k v:List UInt8) (L:List za) (d:Bool) (p:za) (h:d=true∨Op.bytesLess p.1 k=true):zbq k v (L,d) p=(if p.1=k then L else L ++ [p],d):=by
 rcases h with h | h <;> simp[zbq,h]
theorem zfp (L:List za) (a b:List UInt8):zb (L ++ [(a,b)])=zb L ++ [.string ⟨a.toArray⟩,.string ⟨b.toArray⟩]:=by rw[zc2];rfl
theorem zrg:∀ x:List UInt8,Op.bytesLess x x=false
 | []=>rfl
 | a :: x=>by simp[Op.bytesLess,zrg x]
theorem za2p (w:World) {n:Nat} (h:w.heap.size=n) (o:Obj):(w.alloc o).heap[n]? = some o:=by rw[←h];exact heap_alloc_new w o
theorem za2q {w:World} {B e n:Nat} {L:List za} {k v:List UInt8} {u:Value} (h:w.ownsRow B e 2 u n (zb L ++ [.string ⟨k.toArray⟩,.string ⟨v.toArray⟩])):w.ownsRow B e 2 u n (zb (L ++ [(k,v)])):=by rw[zfp];exact h
theorem zcm {B g n cap:Nat} {w wr w1:World} {o:Obj} (hbel:Below B w wr) (hB:B≤wr.heap.size) (hg:B≤g) (hgrow:(wr.alloc o).grownBy w1 (Value.slice (some ⟨g,0,none⟩) n cap).ownBlock):Below B w w1 :=
 (hbel.alloc hB o).grown hgrow (by simp;omega) (fun k hk=>by simp[Value.ownBlock] at hk;omega)
theorem za2r (a : Option Addr) (cp : Nat) (ps : List za) (k v : List UInt8) (w : World) (hl : ps.length ≤ 1048576) (hm : ∀ p ∈ ps, p.1.length ≤ 1048576 ∧ p.2.length ≤ 1048576) (hkl : k.length ≤ 1048576) (hvl : v.length ≤ 1048576) (hs : IsPairs w a ps) :
 Calls Tryz.prog 76 #[.slice a ps.length cp,.string ⟨k.toArray⟩,.string ⟨v.toArray⟩] w fun e w'=>∃ g cap:Nat,e=.returned (.slice (some ⟨g,0,none⟩) (setL ps k v).length cap)∧(setL ps k v).length≤2*ps.length+1∧w'.ownsRow w.heap.size 103 2 (.slice (some ⟨g,0,none⟩) (setL ps k v).length cap) (setL ps k v).length (zb (setL ps k v))∧Below w.heap.size w w':=by
 obtain⟨i0,hi0,hz0,hz1,hz2⟩:=info_parts zhz
 obtain⟨dd,hdd⟩:∃ dd,dd=decide (v=[]):=⟨_,rfl⟩
 have HV:Hid (zb8 k v (ps.take 0)=([],dd)):=by rw[Hid,za2o,hdd]
 have HFIN:Hid (∀ L d,zb8 k v ps=(L,d)→setL ps k v=if d=true then L else L ++ [(k,v)]):=fun L d h=>by rw[setL,h]
 rcases hs with rfl | ⟨b,off,rfl,hc⟩
 · have HE:Hid (setL [] k v=if dd=true then [] else [] ++ [(k,v)]):=HFIN.out [] dd (by have:=HV.out;simpa using this)
   go_enter Tryz.func76,Tryz.ntmps76
   go_wp2_with fail
   refine wp_loop_rounds 1 ?_
   rw[rounds_succ]
   have hde:v.isEmpty=dd:=by rw[hdd];cases v <;> simp
   cases dd
   · clear hdd
     have o0:=World.ownsRow_lit (e:=103) (size:=2) w #[] 0 (base:=w.heap.size) (Nat.le_refl _) (Nat.zero_le _) rfl
     have W1:Below w.heap.size w (w.alloc (.cells #[] 103)):=(Below.refl _ _).alloc (Nat.le_refl _) _
     go_wp2_with (at_builtin;refine wpList_append_lies _ rfl _ _ 54 rfl w.heap.size 103 i0 (.agg #[.string ⟨#[]⟩,.string ⟨#[]⟩]) 2 32 Tryz.underlying54 hi0 hz0 hz1 hz2 rfl (by decide) (.slice (some ⟨w.heap.size,0,none⟩) 0 0) 0 _ rfl (o0.alloc _) ⟨w.heap.size+1,0,none⟩ 1 1 [.string ⟨k.toArray⟩,.string ⟨v.toArray⟩] rfl rfl (World.news_of_block (cs:=#[.string ⟨k.toArray⟩,.string ⟨v.toArray⟩]) (t:=103) (fr:=(0,0)) (za2p (w.alloc (.cells #[] 103)) (by simp) _)) (by simp[Value.oneCell']) (by omega) (by unfold maxLen;omega) (by omega) (by simp <;> omega) (w.heap.size+2) (by simp) ?_;intro g3 cap3 w3 hown3 hgrow3 hat3 hlt3)
     have B3:=zcm W1 W1.size (Nat.le_refl _) hgrow3
     have HO3:=zc hown3
     clear hown3 hgrow3
     go_wp2
     go_ret
     have e:setL [] k v=[(k,v)]:=by rw[HE.out];rfl
     rw[e]
     exact⟨g3,cap3,rfl,by simp,HO3.out,B3⟩
   · clear hdd
     go_wp2
     go_ret
     have e:setL [] k v=[]:=by rw[HE.out];rfl
     rw[e]
     exact⟨w.heap.size,0,rfl,by simp,World.ownsRow_lit w #[] 0 (Nat.le_refl _) (Nat.zero_le _) rfl,(Below.refl _ _).alloc (Nat.le_refl _) _⟩
 · have hc' : ∀ j, j < ps.length → w.cell? ⟨b, off + j * 2, none⟩ = some (.string ⟨(keyAt ps j).toArray⟩) ∧ w.cell? ⟨b, off + j * 2 + 1, none⟩ = some (.string ⟨(zw ps j).toArray⟩) := fun j h => by rw [zad ps j h, zbo ps j h]; exact hc j h
   have HSTEP:Hid (∀ j,j<ps.length→∀ L d,zb8 k v (ps.take j)=(L,d)→zb8 k v (ps.take (j+1))=zbq k v (L,d) (keyAt ps j,zw ps j)):=fun j h L d hh=>by
    rw[za2n k v ps j h,hh,zad ps j h,zbo ps j h]
   have hde:v.isEmpty=dd:=by rw[hdd];cases v <;> simp
   clear hm hc
   go_enter Tryz.func76,Tryz.ntmps76
   go_wp2
   go_loopw [7,8,9] (fun o dn i wr=>∃ (j g cap:Nat) (L:List za) (d:Bool),j≤ps.length∧i=.int .i64 (j:Int)∧dn=.bool d∧o=.slice (some ⟨g,0,none⟩) L.length cap∧Hid (zb8 k v (ps.take j)=(L,d))∧L.length≤2*j∧wr.ownsRow w.heap.size 103 2 (.slice (some ⟨g,0,none⟩) L.length cap) L.length (zb L)∧Below w.heap.size w wr) (fun _ _ i _=>ps.length - (intOf i).toNat)
   case atStart=>exact⟨0,w.heap.size,0,[],dd,Nat.zero_le _,rfl,by first | rw[hde] | rw[hdd],rfl,HV,Nat.zero_le _,World.ownsRow_lit w #[] 0 (Nat.le_refl _) (Nat.zero_le _) rfl,(Below.refl _ _).alloc (Nat.le_refl _) _⟩
   case round =>
    obtain⟨j,g,cap,L,d,hj,rfl,rfl,rfl,HL,hLl,hown,hbel⟩:=hrel
    have hsz:=hbel.size
    have hbg:=own_base hown
    by_cases hlt:j<ps.length
    · obtain⟨c1',c2'⟩:=hc' j hlt
      have hbl:=World.block_lt_of_cell? w _ c1'
      simp only at hbl
      have c1:=(hbel.cell (p:=⟨b,off+j*2,none⟩) hbl).trans c1'
      have c2:=(hbel.cell (p:=⟨b,off+j*2+1,none⟩) hbl).trans c2'
      have hj0:(0:Int)≤(j:Int):=by omega
      have hj1:(j:Int)<(ps.length:Int):=by omega
      have HS:Hid (zb8 k v (ps.take (j+1))=zbq k v (L,d) (keyAt ps j,zw ps j)):=HSTEP.out j hlt L d HL.out
      obtain⟨x,hx⟩:∃ x,x=keyAt ps j:=⟨_,rfl⟩
      obtain⟨y,hy⟩:∃ y,y=zw ps j:=⟨_,rfl⟩
      rw[←hx] at c1 HS
      rw[←hy] at c2 HS
      have C1':=c1'
      have C2':=c2'
      rw[←hx] at C1'
      rw[←hy] at C2'
      have hblr:b<wr.heap.size:=by omega
      have HO:=zc hown
      clear hc' hx hy c1' c2' HL HSTEP hown
      have C1:Hid (w.cell? ⟨b,off+j*2,none⟩=some (.string ⟨x.toArray⟩)):=C1'
      have C2:Hid (w.cell? ⟨b,off+j*2+1,none⟩=some (.string ⟨y.toArray⟩)):=C2'
      clear C1' C2'
      by_cases hput:d=false∧Op.bytesLess x k=false
      · obtain⟨rfl,hle⟩:=hput
        have hle':Op.bytesLess (⟨x.toArray⟩:ByteArray).toList (⟨k.toArray⟩:ByteArray).toList=false:=by rw[zas,zas];exact hle
        have o0:=HO.out
        clear HO c2
        by_cases hxk:x=k
        · subst hxk
          have HN:Hid (zb8 x v (ps.take (j+1))=(L ++ [(x,v)],true)):=by rw[Hid,HS.out,zlj x v L (x,y) hle];simp
          go_wp2_with (at_builtin;refine wpList_append_lies _ rfl _ _ 54 rfl w.heap.size 103 i0 (.agg #[.string ⟨#[]⟩,.string ⟨#[]⟩]) 2 32 Tryz.underlying54 hi0 hz0 hz1 hz2 rfl (by decide) (.slice (some ⟨g,0,none⟩) L.length cap) L.length _ rfl (o0.alloc _) ⟨wr.heap.size,0,none⟩ 1 1 [.string ⟨x.toArray⟩,.string ⟨v.toArray⟩] rfl rfl (World.news_of_block (cs:=#[.string ⟨x.toArray⟩,.string ⟨v.toArray⟩]) (t:=103) (fr:=(0,0)) (heap_alloc_new wr _)) (by simp[Value.oneCell']) (by omega) (by unfold maxLen;omega) (by omega) (by simp <;> omega) (wr.heap.size+1) (by simp) ?_;intro g3 cap3 w3 hown3 hgrow3 hat3 hlt3;have B3:=zcm hbel hsz hbg hgrow3;have d1:=(B3.cell (p:=⟨b,off+j*2,none⟩) hbl).trans C1.out;have d2:=(B3.cell (p:=⟨b,off+j*2+1,none⟩) hbl).trans C2.out;clear c1)
          have HO3:Hid (w3.ownsRow w.heap.size 103 2 (.slice (some ⟨g3,0,none⟩) (L.length+1) cap3) (L.length+1) (zb (L ++ [(x,v)]))):=by rw[Hid,zfp];exact hown3
          clear hown3 hgrow3 hat3 o0
          go_wp2
          go_roundw
          case rel=>exact⟨j+1,g3,cap3,L ++ [(x,v)],true,by omega,by go_num,rfl,by simp,HN,by simp;omega,by rw[List.length_append];exact HO3.out,B3⟩
          case measure=>simp[intOf];omega
        · have hbk:(x == k)=false:=by simp[hxk]
          have HN:Hid (zb8 k v (ps.take (j+1))=(L ++ [(k,v)] ++ [(x,y)],true)):=by rw[Hid,HS.out,zlj k v L (x,y) hle];simp[hxk]
          go_wp2_with (first | (at_builtin;refine wpList_append_lies _ rfl _ _ 54 rfl w.heap.size 103 i0 (.agg #[.string ⟨#[]⟩,.string ⟨#[]⟩]) 2 32 Tryz.underlying54 hi0 hz0 hz1 hz2 rfl (by decide) (.slice (some ⟨g3,0,none⟩) (L.length+1) cap3) (L.length+1) _ rfl (hown.alloc _) ⟨w3.heap.size,0,none⟩ 1 1 [.string ⟨x.toArray⟩,.string ⟨y.toArray⟩] rfl rfl (World.news_of_block (cs:=#[.string ⟨x.toArray⟩,.string ⟨y.toArray⟩]) (t:=103) (fr:=(0,0)) (heap_alloc_new w3 _)) (by simp[Value.oneCell']) (by omega) (by unfold maxLen;omega) (by omega) (by simp <;> omega) (w3.heap.size+1) (by simp) ?_;intro g4 cap4 w4 hown4 hgrow3' hat4 hlt4) | (at_builtin;refine wpList_append_lies _ rfl _ _ 54 rfl w.heap.size 103 i0 (.agg #[.string ⟨#[]⟩,.string ⟨#[]⟩]) 2 32 Tryz.underlying54 hi0 hz0 hz1 hz2 rfl (by decide) (.slice (some ⟨g,0,none⟩) L.length cap) L.length _ rfl (o0.alloc _) ⟨wr.heap.size,0,none⟩ 1 1 [.string ⟨k.toArray⟩,.string ⟨v.toArray⟩] rfl rfl (World.news_of_block (cs:=#[.string ⟨k.toArray⟩,.string ⟨v.toArray⟩]) (t:=103) (fr:=(0,0)) (heap_alloc_new wr _)) (by simp[Value.oneCell']) (by omega) (by unfold maxLen;omega) (by omega) (by simp <;> omega) (wr.heap.size+1) (by simp) ?_;intro g3 cap3 w3 hown3 hgrow3 hat3 hlt3;have B3:=zcm hbel hsz hbg hgrow3;have d1:=(B3.cell (p:=⟨b,off+j*2,none⟩) hbl).trans C1.out;have d2:=(B3.cell (p:=⟨b,off+j*2+1,none⟩) hbl).trans C2.out;clear c1;have hown:=za2q hown3;have hs3:=B3.size;have hbg3:=own_base hown;clear hown3 hat3 hlt3))
          have B4:=zcm B3 hs3 hbg3 hgrow3'
          have HO4:Hid (w4.ownsRow w.heap.size 103 2 (.slice (some ⟨g4,0,none⟩) (L.length+1+1) cap4) (L.length+1+1) (zb (L ++ [(k,v)] ++ [(x,y)]))):=by rw[Hid,zfp];exact hown4
          clear hown4 hgrow3' hown
          go_wp2
          go_roundw
          case rel=>exact⟨j+1,g4,cap4,L ++ [(k,v)] ++ [(x,y)],true,by omega,by go_num,rfl,by simp,HN,by simp;omega,by rw[List.length_append,List.length_append];exact HO4.out,B4⟩
          case measure=>simp[intOf];omega
      · have hor:d=true∨Op.bytesLess x k=true:=by
         cases d
         · right;cases h:Op.bytesLess x k
           · exact absurd ⟨rfl,h⟩ hput
           · rfl
         · exact .inl rfl
        have hgd:(d=true)∨(d=false∧Op.bytesLess (⟨x.toArray⟩:ByteArray).toList (⟨k.toArray⟩:ByteArray).toList=true):=by
         rw[zas,zas]
         cases d
         · exact .inr ⟨rfl,hor.resolve_left (by simp)⟩
         · exact .inl rfl
        by_cases hxk:x=k
        · have HN:Hid (zb8 k v (ps.take (j+1))=(L,d)):=by rw[Hid,HS.out,zil k v L d (x,y) hor];simp[hxk]
          subst hxk
          rcases hgd with rfl | ⟨rfl,hle'⟩
          · clear hor hput
            go_wp2
            go_roundw
            case rel=>exact⟨j+1,g,cap,L,true,by omega,by go_num,rfl,rfl,HN,by omega,HO.out,hbel⟩
            case measure=>simp[intOf];omega
          · rw[zas,zrg] at hle'
            exact absurd hle' (by simp)
        · have hbk:(x == k)=false:=by simp[hxk]
          have HN:Hid (zb8 k v (ps.take (j+1))=(L ++ [(x,y)],d)):=by rw[Hid,HS.out,zil k v L d (x,y) hor];simp[hxk]
          rcases hgd with rfl | ⟨rfl,hle'⟩
          · clear hor hput
            have o0:=HO.out
            go_wp2_with (at_builtin;refine wpList_append_lies _ rfl _ _ 54 rfl w.heap.size 103 i0 (.agg #[.string ⟨#[]⟩,.string ⟨#[]⟩]) 2 32 Tryz.underlying54 hi0 hz0 hz1 hz2 rfl (by decide) (.slice (some ⟨g,0,none⟩) L.length cap) L.length _ rfl (o0.alloc _) ⟨wr.heap.size,0,none⟩ 1 1 [.string ⟨x.toArray⟩,.string ⟨y.toArray⟩] rfl rfl (World.news_of_block (cs:=#[.string ⟨x.toArray⟩,.string ⟨y.toArray⟩]) (t:=103) (fr:=(0,0)) (heap_alloc_new wr _)) (by simp[Value.oneCell']) (by omega) (by unfold maxLen;omega) (by omega) (by simp <;> omega) (wr.heap.size+1) (by simp) ?_;intro g3 cap3 w3 hown3 hgrow3 hat3 hlt3)
            have B3:=zcm hbel hsz hbg hgrow3
            have HO3:Hid (w3.ownsRow w.heap.size 103 2 (.slice (some ⟨g3,0,none⟩) (L.length+1) cap3) (L.length+1) (zb (L ++ [(x,y)]))):=by rw[Hid,zfp];exact hown3
            clear hown3 hgrow3 o0 HO
            go_wp2
            go_roundw
            case rel=>exact⟨j+1,g3,cap3,L ++ [(x,y)],true,by omega,by go_num,rfl,by simp,HN,by simp;omega,by rw[List.length_append];exact HO3.out,B3⟩
            case measure=>simp[intOf];omega
          · have hle2:Op.bytesLess x k=true:=by rw[zas,zas] at hle';exact hle'
            clear hor hput
            have o0:=HO.out
            go_wp2_with (at_builtin;refine wpList_append_lies _ rfl _ _ 54 rfl w.heap.size 103 i0 (.agg #[.string ⟨#[]⟩,.string ⟨#[]⟩]) 2 32 Tryz.underlying54 hi0 hz0 hz1 hz2 rfl (by decide) (.slice (some ⟨g,0,none⟩) L.length cap) L.length _ rfl (o0.alloc _) ⟨wr.heap.size,0,none⟩ 1 1 [.string ⟨x.toArray⟩,.string ⟨y.toArray⟩] rfl rfl (World.news_of_block (cs:=#[.string ⟨x.toArray⟩,.string ⟨y.toArray⟩]) (t:=103) (fr:=(0,0)) (heap_alloc_new wr _)) (by simp[Value.oneCell']) (by omega) (by unfold maxLen;omega) (by omega) (by simp <;> omega) (wr.heap.size+1) (by simp) ?_;intro g3 cap3 w3 hown3 hgrow3 hat3 hlt3)
            have B3:=zcm hbel hsz hbg hgrow3
            have HO3:Hid (w3.ownsRow w.heap.size 103 2 (.slice (some ⟨g3,0,none⟩) (L.length+1) cap3) (L.length+1) (zb (L ++ [(x,y)]))):=by rw[Hid,zfp];exact hown3
            clear hown3 hgrow3 o0 HO
            go_wp2
            go_roundw
            case rel=>exact⟨j+1,g3,cap3,L ++ [(x,y)],false,by omega,by go_num,rfl,by simp,HN,by simp;omega,by rw[List.length_append];exact HO3.out,B3⟩
            case measure=>simp[intOf];omega
    · have hjl:j=ps.length:=by omega
      subst hjl
      have hfl:=HL.out
      rw[List.take_length] at hfl
      have HE:Hid (setL ps k v=if d=true then L else L ++ [(k,v)]):=HFIN.out L d hfl
      clear hc' HSTEP HL hfl
      cases d
      · have o0:=hown
        go_wp2_with (at_builtin;refine wpList_append_lies _ rfl _ _ 54 rfl w.heap.size 103 i0 (.agg #[.string ⟨#[]⟩,.string ⟨#[]⟩]) 2 32 Tryz.underlying54 hi0 hz0 hz1 hz2 rfl (by decide) (.slice (some ⟨g,0,none⟩) L.length cap) L.length _ rfl (o0.alloc _) ⟨wr.heap.size,0,none⟩ 1 1 [.string ⟨k.toArray⟩,.string ⟨v.toArray⟩] rfl rfl (World.news_of_block (cs:=#[.string ⟨k.toArray⟩,.string ⟨v.toArray⟩]) (t:=103) (fr:=(0,0)) (heap_alloc_new wr _)) (by simp[Value.oneCell']) (by omega) (by unfold maxLen;omega) (by omega) (by simp <;> omega) (wr.heap.size+1) (by simp) ?_;intro g3 cap3 w3 hown3 hgrow3 hat3 hlt3)
        have B3:=zcm hbel hsz hbg hgrow3
        have HO3:Hid (w3.ownsRow w.heap.size 103 2 (.slice (some ⟨g3,0,none⟩) (L.length+1) cap3) (L.length+1) (zb (L ++ [(k,v)]))):=by rw[Hid,zfp];exact hown3
        clear hown3 hgrow3 o0 hown
        go_wp2
        go_ret
        have e:setL ps k v=L ++ [(k,v)]:=by rw[HE.out];rfl
        rw[e,List.length_append]
        exact⟨g3,cap3,rfl,by simp;omega,HO3.out,B3⟩
      · go_wp2
        go_ret
        have e:setL ps k v=L:=by rw[HE.out];rfl
        rw[e]
        exact⟨g,cap,rfl,by omega,hown,hbel⟩
end Go.Proofs.YtppljdnbhoeeoaaGreatDoor
