import Derived.Test.YtahocpjieffbaaaGreatDoorPairs
import Derived.Deep.AppendLies
import Derived.Test.YtahocpjieffbaaaGreatDoorSortAll
import Derived.Lib.Bytealg
import Derived.Laws.AppendOwnNone
namespace Go.Proofs.YtahocpjieffbaaaGreatDoor
open Go.RowKit
set_option linter.unusedVariables false
def setStep (k v:List UInt8) (st:List PairL × Bool) (p:PairL):List PairL × Bool :=
 if (!st.2 && !(Op.bytesLess p.1 k))=true then (if p.1=k then st.1 ++ [(k,v)] else st.1 ++ [(k,v)] ++ [p],true) else (if p.1=k then st.1 else st.1 ++ [p],st.2)
def setFold (k v:List UInt8) (ps:List PairL):List PairL × Bool:=ps.foldl (setStep k v) ([],decide (v=[]))
def setL (ps:List PairL) (k v:List UInt8):List PairL:=if (setFold k v ps).2=true then (setFold k v ps).1 else (setFold k v ps).1 ++ [(k,v)]
theorem setFold_snoc (k v:List UInt8) (ps:List PairL) (j:Nat) (h:j<ps.length):setFold k v (ps.take (j+1))=setStep k v (setFold k v (ps.take j)) ps[j]:=by
 rw[take_snocP ps j h,setFold,List.foldl_append];rfl
theorem setFold_zero (k v:List UInt8) (ps:List PairL):setFold k v (ps.take 0)=([],decide (v=[])):=by simp[setFold]
theorem step_put (k v:List UInt8) (L:List PairL) (p:PairL) (h:Op.bytesLess p.1 k=false):setStep k v (L,false) p=(if p.1=k then L ++ [(k,v)] else L ++ [(k,v)] ++ [p],true):=by simp[setStep,h]
theorem step_less (k v:List UInt8) (L:List PairL) (d:Bool) (p:PairL) (h:d=true∨Op.bytesLess p.1 k=true):setStep k v (L,d) p=(if p.1=k then L else L ++ [p],d):=by
 rcases h with h | h <;> simp[setStep,h]
theorem pcells_snoc (L:List PairL) (a b:List UInt8):pcells (L ++ [(a,b)])=pcells L ++ [.string ⟨a.toArray⟩,.string ⟨b.toArray⟩]:=by rw[pcells_app];rfl
theorem bytesLess_irrefl:∀ x:List UInt8,Op.bytesLess x x=false
 | []=>rfl
 | a :: x=>by simp[Op.bytesLess,bytesLess_irrefl x]
theorem new_atP (w:World) {n:Nat} (h:w.heap.size=n) (o:Obj):(w.alloc o).heap[n]? = some o:=by rw[←h];exact heap_alloc_new w o
theorem pair_snoc {w:World} {B e n:Nat} {L:List PairL} {k v:List UInt8} {u:Value} (h:w.ownsRow B e 2 u n (pcells L ++ [.string ⟨k.toArray⟩,.string ⟨v.toArray⟩])):w.ownsRow B e 2 u n (pcells (L ++ [(k,v)])):=by rw[pcells_snoc];exact h
theorem below_app2 {B g n cap:Nat} {w wr w1:World} {o:Obj} (hbel:Below B w wr) (hB:B≤wr.heap.size) (hg:B≤g) (hgrow:(wr.alloc o).grownBy w1 (Value.slice (some ⟨g,0,none⟩) n cap).ownBlock):Below B w w1 :=
 (hbel.alloc hB o).grown hgrow (by simp;omega) (fun k hk=>by simp[Value.ownBlock] at hk;omega)
set_option maxRecDepth 100000 in
set_option maxHeartbeats 2000000 in
theorem l5Set_any (a : Option Addr) (cp : Nat) (ps : List PairL) (k v : List UInt8) (w : World) (hl : ps.length ≤ 1048576) (hm : ∀ p ∈ ps, p.1.length ≤ 1048576 ∧ p.2.length ≤ 1048576) (hkl : k.length ≤ 1048576) (hvl : v.length ≤ 1048576) (hs : IsPairs w a ps) :
 Calls Tryz.prog 45 #[.slice a ps.length cp,.string ⟨k.toArray⟩,.string ⟨v.toArray⟩] w fun e w'=>∃ g cap:Nat,e=.returned (.slice (some ⟨g,0,none⟩) (setL ps k v).length cap)∧(setL ps k v).length≤2*ps.length+1∧w'.ownsRow w.heap.size 56 2 (.slice (some ⟨g,0,none⟩) (setL ps k v).length cap) (setL ps k v).length (pcells (setL ps k v))∧Below w.heap.size w w':=by
 obtain⟨i0,hi0,hz0,hz1,hz2⟩:=info_parts infoPair
 obtain⟨dd,hdd⟩:∃ dd,dd=decide (v=[]):=⟨_,rfl⟩
 have HV:Hid (setFold k v (ps.take 0)=([],dd)):=by rw[Hid,setFold_zero,hdd]
 have HFIN:Hid (∀ L d,setFold k v ps=(L,d)→setL ps k v=if d=true then L else L ++ [(k,v)]):=fun L d h=>by rw[setL,h]
 rcases hs with rfl | ⟨b,off,rfl,hc⟩
 · have HE:Hid (setL [] k v=if dd=true then [] else [] ++ [(k,v)]):=HFIN.out [] dd (by have:=HV.out;simpa using this)
   go_enter Tryz.func45,Tryz.ntmps45
   go_wp2_with fail
   refine wp_loop_rounds 1 ?_
   rw[rounds_succ]
   have hde:v.isEmpty=dd:=by rw[hdd];cases v <;> simp
   cases dd
   · clear hdd
     have o0:=World.ownsRow_lit (e:=56) (size:=2) w #[] 0 (base:=w.heap.size) (Nat.le_refl _) (Nat.zero_le _) rfl
     have W1:Below w.heap.size w (w.alloc (.cells #[] 56)):=(Below.refl _ _).alloc (Nat.le_refl _) _
     go_wp2_with (at_builtin;refine wpList_append_lies _ rfl _ _ 24 rfl w.heap.size 56 i0 (.agg #[.string ⟨#[]⟩,.string ⟨#[]⟩]) 2 32 Tryz.underlying24 hi0 hz0 hz1 hz2 rfl (by decide) (.slice (some ⟨w.heap.size,0,none⟩) 0 0) 0 _ rfl (o0.alloc _) ⟨w.heap.size+1,0,none⟩ 1 1 [.string ⟨k.toArray⟩,.string ⟨v.toArray⟩] rfl rfl (World.news_of_block (cs:=#[.string ⟨k.toArray⟩,.string ⟨v.toArray⟩]) (t:=56) (fr:=(0,0)) (new_atP (w.alloc (.cells #[] 56)) (by simp) _)) (by simp[Value.oneCell']) (by omega) (by unfold maxLen;omega) (by omega) (by simp <;> omega) (w.heap.size+2) (by simp) ?_;intro g3 cap3 w3 hown3 hgrow3 hat3 hlt3)
     have B3:=below_app2 W1 W1.size (Nat.le_refl _) hgrow3
     have HO3:=hidOwn hown3
     clear hown3 hgrow3
     go_wp2
     go_ret
     have e:setL [] k v=[(k,v)]:=by rw[HE.out];rfl
     rw[e]
     exact⟨g3,cap3,rfl,by simp,HO3.out,B3⟩
   · clear hdd
     go_wp2
     go_ret
     have e:setL [] k v=[]:=by rw[HE.out];rfl
     rw[e]
     exact⟨w.heap.size,0,rfl,by simp,World.ownsRow_lit w #[] 0 (Nat.le_refl _) (Nat.zero_le _) rfl,(Below.refl _ _).alloc (Nat.le_refl _) _⟩
 · have hc' : ∀ j, j < ps.length → w.cell? ⟨b, off + j * 2, none⟩ = some (.string ⟨(keyAt ps j).toArray⟩) ∧ w.cell? ⟨b, off + j * 2 + 1, none⟩ = some (.string ⟨(valAt ps j).toArray⟩) := fun j h => by rw [keyAt_lt ps j h, valAt_lt ps j h]; exact hc j h
   have HSTEP:Hid (∀ j,j<ps.length→∀ L d,setFold k v (ps.take j)=(L,d)→setFold k v (ps.take (j+1))=setStep k v (L,d) (keyAt ps j,valAt ps j)):=fun j h L d hh=>by
    rw[setFold_snoc k v ps j h,hh,keyAt_lt ps j h,valAt_lt ps j h]
   have hde:v.isEmpty=dd:=by rw[hdd];cases v <;> simp
   clear hm hc
   go_enter Tryz.func45,Tryz.ntmps45
   go_wp2
   go_loopw [7,8,9] (fun o dn i wr=>∃ (j g cap:Nat) (L:List PairL) (d:Bool),j≤ps.length∧i=.int .i64 (j:Int)∧dn=.bool d∧o=.slice (some ⟨g,0,none⟩) L.length cap∧Hid (setFold k v (ps.take j)=(L,d))∧L.length≤2*j∧wr.ownsRow w.heap.size 56 2 (.slice (some ⟨g,0,none⟩) L.length cap) L.length (pcells L)∧Below w.heap.size w wr) (fun _ _ i _=>ps.length - (intOf i).toNat)
   case atStart=>exact⟨0,w.heap.size,0,[],dd,Nat.zero_le _,rfl,by first | rw[hde] | rw[hdd],rfl,HV,Nat.zero_le _,World.ownsRow_lit w #[] 0 (Nat.le_refl _) (Nat.zero_le _) rfl,(Below.refl _ _).alloc (Nat.le_refl _) _⟩
   case round =>
    obtain⟨j,g,cap,L,d,hj,rfl,rfl,rfl,HL,hLl,hown,hbel⟩:=hrel
    have hsz:=hbel.size
    have hbg:=own_base hown
    by_cases hlt:j<ps.length
    · obtain⟨c1',c2'⟩:=hc' j hlt
      have hbl:=World.block_lt_of_cell? w _ c1'
      simp only at hbl
      have c1:=(hbel.cell (p:=⟨b,off+j*2,none⟩) hbl).trans c1'
      have c2:=(hbel.cell (p:=⟨b,off+j*2+1,none⟩) hbl).trans c2'
      have hj0:(0:Int)≤(j:Int):=by omega
      have hj1:(j:Int)<(ps.length:Int):=by omega
      have HS:Hid (setFold k v (ps.take (j+1))=setStep k v (L,d) (keyAt ps j,valAt ps j)):=HSTEP.out j hlt L d HL.out
      obtain⟨x,hx⟩:∃ x,x=keyAt ps j:=⟨_,rfl⟩
      obtain⟨y,hy⟩:∃ y,y=valAt ps j:=⟨_,rfl⟩
      rw[←hx] at c1 HS
      rw[←hy] at c2 HS
      have C1':=c1'
      have C2':=c2'
      rw[←hx] at C1'
      rw[←hy] at C2'
      have hblr:b<wr.heap.size:=by omega
      have HO:=hidOwn hown
      clear hc' hx hy c1' c2' HL HSTEP hown
      have C1:Hid (w.cell? ⟨b,off+j*2,none⟩=some (.string ⟨x.toArray⟩)):=C1'
      have C2:Hid (w.cell? ⟨b,off+j*2+1,none⟩=some (.string ⟨y.toArray⟩)):=C2'
      clear C1' C2'
      by_cases hput:d=false∧Op.bytesLess x k=false
      · obtain⟨rfl,hle⟩:=hput
        have hle':Op.bytesLess (⟨x.toArray⟩:ByteArray).toList (⟨k.toArray⟩:ByteArray).toList=false:=by rw[ba_toList,ba_toList];exact hle
        have o0:=HO.out
        clear HO c2
        by_cases hxk:x=k
        · subst hxk
          have HN:Hid (setFold x v (ps.take (j+1))=(L ++ [(x,v)],true)):=by rw[Hid,HS.out,step_put x v L (x,y) hle];simp
          go_wp2_with (at_builtin;refine wpList_append_lies _ rfl _ _ 24 rfl w.heap.size 56 i0 (.agg #[.string ⟨#[]⟩,.string ⟨#[]⟩]) 2 32 Tryz.underlying24 hi0 hz0 hz1 hz2 rfl (by decide) (.slice (some ⟨g,0,none⟩) L.length cap) L.length _ rfl (o0.alloc _) ⟨wr.heap.size,0,none⟩ 1 1 [.string ⟨x.toArray⟩,.string ⟨v.toArray⟩] rfl rfl (World.news_of_block (cs:=#[.string ⟨x.toArray⟩,.string ⟨v.toArray⟩]) (t:=56) (fr:=(0,0)) (heap_alloc_new wr _)) (by simp[Value.oneCell']) (by omega) (by unfold maxLen;omega) (by omega) (by simp <;> omega) (wr.heap.size+1) (by simp) ?_;intro g3 cap3 w3 hown3 hgrow3 hat3 hlt3;have B3:=below_app2 hbel hsz hbg hgrow3;have d1:=(B3.cell (p:=⟨b,off+j*2,none⟩) hbl).trans C1.out;have d2:=(B3.cell (p:=⟨b,off+j*2+1,none⟩) hbl).trans C2.out;clear c1)
          have HO3:Hid (w3.ownsRow w.heap.size 56 2 (.slice (some ⟨g3,0,none⟩) (L.length+1) cap3) (L.length+1) (pcells (L ++ [(x,v)]))):=by rw[Hid,pcells_snoc];exact hown3
          clear hown3 hgrow3 hat3 o0
          go_wp2
          go_roundw
          case rel=>exact⟨j+1,g3,cap3,L ++ [(x,v)],true,by omega,by go_num,rfl,by simp,HN,by simp;omega,by rw[List.length_append];exact HO3.out,B3⟩
          case measure=>simp[intOf];omega
        · have hbk:(x == k)=false:=by simp[hxk]
          have HN:Hid (setFold k v (ps.take (j+1))=(L ++ [(k,v)] ++ [(x,y)],true)):=by rw[Hid,HS.out,step_put k v L (x,y) hle];simp[hxk]
          go_wp2_with (first | (at_builtin;refine wpList_append_lies _ rfl _ _ 24 rfl w.heap.size 56 i0 (.agg #[.string ⟨#[]⟩,.string ⟨#[]⟩]) 2 32 Tryz.underlying24 hi0 hz0 hz1 hz2 rfl (by decide) (.slice (some ⟨g3,0,none⟩) (L.length+1) cap3) (L.length+1) _ rfl (hown.alloc _) ⟨w3.heap.size,0,none⟩ 1 1 [.string ⟨x.toArray⟩,.string ⟨y.toArray⟩] rfl rfl (World.news_of_block (cs:=#[.string ⟨x.toArray⟩,.string ⟨y.toArray⟩]) (t:=56) (fr:=(0,0)) (heap_alloc_new w3 _)) (by simp[Value.oneCell']) (by omega) (by unfold maxLen;omega) (by omega) (by simp <;> omega) (w3.heap.size+1) (by simp) ?_;intro g4 cap4 w4 hown4 hgrow3' hat4 hlt4) | (at_builtin;refine wpList_append_lies _ rfl _ _ 24 rfl w.heap.size 56 i0 (.agg #[.string ⟨#[]⟩,.string ⟨#[]⟩]) 2 32 Tryz.underlying24 hi0 hz0 hz1 hz2 rfl (by decide) (.slice (some ⟨g,0,none⟩) L.length cap) L.length _ rfl (o0.alloc _) ⟨wr.heap.size,0,none⟩ 1 1 [.string ⟨k.toArray⟩,.string ⟨v.toArray⟩] rfl rfl (World.news_of_block (cs:=#[.string ⟨k.toArray⟩,.string ⟨v.toArray⟩]) (t:=56) (fr:=(0,0)) (heap_alloc_new wr _)) (by simp[Value.oneCell']) (by omega) (by unfold maxLen;omega) (by omega) (by simp <;> omega) (wr.heap.size+1) (by simp) ?_;intro g3 cap3 w3 hown3 hgrow3 hat3 hlt3;have B3:=below_app2 hbel hsz hbg hgrow3;have d1:=(B3.cell (p:=⟨b,off+j*2,none⟩) hbl).trans C1.out;have d2:=(B3.cell (p:=⟨b,off+j*2+1,none⟩) hbl).trans C2.out;clear c1;have hown:=pair_snoc hown3;have hs3:=B3.size;have hbg3:=own_base hown;clear hown3 hat3 hlt3))
          have B4:=below_app2 B3 hs3 hbg3 hgrow3'
          have HO4:Hid (w4.ownsRow w.heap.size 56 2 (.slice (some ⟨g4,0,none⟩) (L.length+1+1) cap4) (L.length+1+1) (pcells (L ++ [(k,v)] ++ [(x,y)]))):=by rw[Hid,pcells_snoc];exact hown4
          clear hown4 hgrow3' hown
          go_wp2
          go_roundw
          case rel=>exact⟨j+1,g4,cap4,L ++ [(k,v)] ++ [(x,y)],true,by omega,by go_num,rfl,by simp,HN,by simp;omega,by rw[List.length_append,List.length_append];exact HO4.out,B4⟩
          case measure=>simp[intOf];omega
      · have hor:d=true∨Op.bytesLess x k=true:=by
         cases d
         · right;cases h:Op.bytesLess x k
           · exact absurd ⟨rfl,h⟩ hput
           · rfl
         · exact .inl rfl
        have hgd:(d=true)∨(d=false∧Op.bytesLess (⟨x.toArray⟩:ByteArray).toList (⟨k.toArray⟩:ByteArray).toList=true):=by
         rw[ba_toList,ba_toList]
         cases d
         · exact .inr ⟨rfl,hor.resolve_left (by simp)⟩
         · exact .inl rfl
        by_cases hxk:x=k
        · have HN:Hid (setFold k v (ps.take (j+1))=(L,d)):=by rw[Hid,HS.out,step_less k v L d (x,y) hor];simp[hxk]
          subst hxk
          rcases hgd with rfl | ⟨rfl,hle'⟩
          · clear hor hput
            go_wp2
            go_roundw
            case rel=>exact⟨j+1,g,cap,L,true,by omega,by go_num,rfl,rfl,HN,by omega,HO.out,hbel⟩
            case measure=>simp[intOf];omega
          · rw[ba_toList,bytesLess_irrefl] at hle'
            exact absurd hle' (by simp)
        · have hbk:(x == k)=false:=by simp[hxk]
          have HN:Hid (setFold k v (ps.take (j+1))=(L ++ [(x,y)],d)):=by rw[Hid,HS.out,step_less k v L d (x,y) hor];simp[hxk]
          rcases hgd with rfl | ⟨rfl,hle'⟩
          · clear hor hput
            have o0:=HO.out
            go_wp2_with (at_builtin;refine wpList_append_lies _ rfl _ _ 24 rfl w.heap.size 56 i0 (.agg #[.string ⟨#[]⟩,.string ⟨#[]⟩]) 2 32 Tryz.underlying24 hi0 hz0 hz1 hz2 rfl (by decide) (.slice (some ⟨g,0,none⟩) L.length cap) L.length _ rfl (o0.alloc _) ⟨wr.heap.size,0,none⟩ 1 1 [.string ⟨x.toArray⟩,.string ⟨y.toArray⟩] rfl rfl (World.news_of_block (cs:=#[.string ⟨x.toArray⟩,.string ⟨y.toArray⟩]) (t:=56) (fr:=(0,0)) (heap_alloc_new wr _)) (by simp[Value.oneCell']) (by omega) (by unfold maxLen;omega) (by omega) (by simp <;> omega) (wr.heap.size+1) (by simp) ?_;intro g3 cap3 w3 hown3 hgrow3 hat3 hlt3)
            have B3:=below_app2 hbel hsz hbg hgrow3
            have HO3:Hid (w3.ownsRow w.heap.size 56 2 (.slice (some ⟨g3,0,none⟩) (L.length+1) cap3) (L.length+1) (pcells (L ++ [(x,y)]))):=by rw[Hid,pcells_snoc];exact hown3
            clear hown3 hgrow3 o0 HO
            go_wp2
            go_roundw
            case rel=>exact⟨j+1,g3,cap3,L ++ [(x,y)],true,by omega,by go_num,rfl,by simp,HN,by simp;omega,by rw[List.length_append];exact HO3.out,B3⟩
            case measure=>simp[intOf];omega
          · have hle2:Op.bytesLess x k=true:=by rw[ba_toList,ba_toList] at hle';exact hle'
            clear hor hput
            have o0:=HO.out
            go_wp2_with (at_builtin;refine wpList_append_lies _ rfl _ _ 24 rfl w.heap.size 56 i0 (.agg #[.string ⟨#[]⟩,.string ⟨#[]⟩]) 2 32 Tryz.underlying24 hi0 hz0 hz1 hz2 rfl (by decide) (.slice (some ⟨g,0,none⟩) L.length cap) L.length _ rfl (o0.alloc _) ⟨wr.heap.size,0,none⟩ 1 1 [.string ⟨x.toArray⟩,.string ⟨y.toArray⟩] rfl rfl (World.news_of_block (cs:=#[.string ⟨x.toArray⟩,.string ⟨y.toArray⟩]) (t:=56) (fr:=(0,0)) (heap_alloc_new wr _)) (by simp[Value.oneCell']) (by omega) (by unfold maxLen;omega) (by omega) (by simp <;> omega) (wr.heap.size+1) (by simp) ?_;intro g3 cap3 w3 hown3 hgrow3 hat3 hlt3)
            have B3:=below_app2 hbel hsz hbg hgrow3
            have HO3:Hid (w3.ownsRow w.heap.size 56 2 (.slice (some ⟨g3,0,none⟩) (L.length+1) cap3) (L.length+1) (pcells (L ++ [(x,y)]))):=by rw[Hid,pcells_snoc];exact hown3
            clear hown3 hgrow3 o0 HO
            go_wp2
            go_roundw
            case rel=>exact⟨j+1,g3,cap3,L ++ [(x,y)],false,by omega,by go_num,rfl,by simp,HN,by simp;omega,by rw[List.length_append];exact HO3.out,B3⟩
            case measure=>simp[intOf];omega
    · have hjl:j=ps.length:=by omega
      subst hjl
      have hfl:=HL.out
      rw[List.take_length] at hfl
      have HE:Hid (setL ps k v=if d=true then L else L ++ [(k,v)]):=HFIN.out L d hfl
      clear hc' HSTEP HL hfl
      cases d
      · have o0:=hown
        go_wp2_with (at_builtin;refine wpList_append_lies _ rfl _ _ 24 rfl w.heap.size 56 i0 (.agg #[.string ⟨#[]⟩,.string ⟨#[]⟩]) 2 32 Tryz.underlying24 hi0 hz0 hz1 hz2 rfl (by decide) (.slice (some ⟨g,0,none⟩) L.length cap) L.length _ rfl (o0.alloc _) ⟨wr.heap.size,0,none⟩ 1 1 [.string ⟨k.toArray⟩,.string ⟨v.toArray⟩] rfl rfl (World.news_of_block (cs:=#[.string ⟨k.toArray⟩,.string ⟨v.toArray⟩]) (t:=56) (fr:=(0,0)) (heap_alloc_new wr _)) (by simp[Value.oneCell']) (by omega) (by unfold maxLen;omega) (by omega) (by simp <;> omega) (wr.heap.size+1) (by simp) ?_;intro g3 cap3 w3 hown3 hgrow3 hat3 hlt3)
        have B3:=below_app2 hbel hsz hbg hgrow3
        have HO3:Hid (w3.ownsRow w.heap.size 56 2 (.slice (some ⟨g3,0,none⟩) (L.length+1) cap3) (L.length+1) (pcells (L ++ [(k,v)]))):=by rw[Hid,pcells_snoc];exact hown3
        clear hown3 hgrow3 o0 hown
        go_wp2
        go_ret
        have e:setL ps k v=L ++ [(k,v)]:=by rw[HE.out];rfl
        rw[e,List.length_append]
        exact⟨g3,cap3,rfl,by simp;omega,HO3.out,B3⟩
      · go_wp2
        go_ret
        have e:setL ps k v=L:=by rw[HE.out];rfl
        rw[e]
        exact⟨g,cap,rfl,by omega,hown,hbel⟩
theorem setStep_mem (k v:List UInt8) (st:List PairL × Bool) (p q:PairL) (h:q∈(setStep k v st p).1):q∈st.1∨q=(k,v)∨q=p:=by
 unfold setStep at h
 split at h
 · split at h
   · simp at h;rcases h with h | h
     · exact .inl h
     · exact .inr (.inl h)
   · simp at h;rcases h with h | h | h
     · exact .inl h
     · exact .inr (.inl h)
     · exact .inr (.inr h)
 · split at h
   · exact .inl h
   · simp at h;rcases h with h | h
     · exact .inl h
     · exact .inr (.inr h)
theorem setFold_mem (k v:List UInt8):∀ (ps:List PairL) (st:List PairL × Bool) (q:PairL),q∈(ps.foldl (setStep k v) st).1→q∈st.1∨q=(k,v)∨q∈ps
 | [],st,q,h=>.inl h
 | p :: ps, st, q, h => by
   rcases setFold_mem k v ps (setStep k v st p) q h with h | h | h
   · rcases setStep_mem k v st p q h with h | h | h
     · exact .inl h
     · exact .inr (.inl h)
     · exact .inr (.inr (by rw[h];simp))
   · exact .inr (.inl h)
   · exact .inr (.inr (List.mem_cons_of_mem _ h))
theorem setL_mem (ps:List PairL) (k v:List UInt8) (q:PairL) (h:q∈setL ps k v):q=(k,v)∨q∈ps:=by
 unfold setL at h
 split at h
 · rcases setFold_mem k v ps _ q h with h | h | h
   · simp at h
   · exact .inl h
   · exact .inr h
 · rw[List.mem_append] at h
   rcases h with h | h
   · rcases setFold_mem k v ps _ q h with h | h | h
     · simp at h
     · exact .inl h
     · exact .inr h
   · simp at h;exact .inl h
def setOk (ps:List PairL) (k v:List UInt8):Bool:=pairsOkL ps && pairsOkL (setL ps k v)
def setR (ps:List PairL) (k v:List UInt8):List PairL:=if setOk ps k v=true then setL ps k v else []
def placeIs (ps:List PairL) (k:List UInt8) (at_:Nat):Prop:=at_≤ps.length∧(∀ t,t<at_→Op.bytesLess (keyAt ps t) k=true)∧∀ t,at_≤t→t<ps.length→Op.bytesLess (keyAt ps t) k=false
def rising (ps:List PairL):Prop:=∀ i j,i<j→j<ps.length→Op.bytesLess (keyAt ps i) (keyAt ps j)=true
theorem less_trans:∀ a b c:List UInt8,Op.bytesLess a b=true→Op.bytesLess b c=true→Op.bytesLess a c=true
 | _,_,[],_,h=>by simp[Op.bytesLess] at h
 | [],_,_ :: _,_,_=>by simp[Op.bytesLess]
 | a :: ra,[],_ :: _,h,_=>by simp[Op.bytesLess] at h
 | a :: ra, b :: rb, c :: rc, h1, h2 => by
   simp only[Op.bytesLess,Bool.or_eq_true,decide_eq_true_eq,Bool.and_eq_true,beq_iff_eq] at h1 h2 ⊢
   rcases h1 with h1 | ⟨rfl,h1⟩
   · rcases h2 with h2 | ⟨rfl,h2⟩
     · exact .inl (UInt8.lt_trans h1 h2)
     · exact .inl h1
   · rcases h2 with h2 | ⟨rfl,h2⟩
     · exact .inl h2
     · exact .inr ⟨rfl,less_trans ra rb rc h1 h2⟩
theorem rising_of (ps:List PairL) (h:pairsOkL ps=true):rising ps:=by
 have ho:=(pairsOk_of ps h).2
 intro i j hij hj
 induction j with
 | zero=>omega
 | succ j ih =>
   have hs:Op.bytesLess (keyAt ps j) (keyAt ps (j+1))=true:=by
    have:=ho (j+1) hj
    simp only[okAt,Bool.and_eq_true,Bool.or_eq_true,decide_eq_true_eq] at this
    rcases this.2 with h0 | h0
    · omega
    · simpa using h0
   by_cases e:i=j
   · rw[e];exact hs
   · exact less_trans _ _ _ (ih (by omega) (by omega)) hs
theorem isPairs_flat {w:World} {b off:Nat} {qs:List PairL} (h:IsPairs w (some ⟨b,off,none⟩) qs):∀ j u,(pcells qs)[j]? = some u→w.cell? ((⟨b,off,none⟩:Addr).add j)=some u:=by
 intro j u hu
 have hj:j<qs.length*2:=by
  have:=(List.getElem?_eq_some_iff.1 hu).1
  rwa [pcells_length] at this
 rcases h with rfl | ⟨b',off',he,hc⟩
 · simp at hj
 · cases he
   have ht:=hc (j / 2) (by omega)
   have hp:=pcells_at qs (j / 2) (by omega)
   rcases Nat.mod_two_eq_zero_or_one j with h0 | h0
   · have e:j=j / 2*2:=by omega
     rw[e] at hu ⊢
     rw[hp.1] at hu
     cases hu
     have ea:(⟨b,off,none⟩:Addr).add (j / 2*2)=⟨b,off+j / 2*2,none⟩:=by
      simp only[Addr.add]
      split
      · rename_i h9;rw[h9];rfl
      · rfl
     rw[ea];exact ht.1
   · have e:j=j / 2*2+1:=by omega
     rw[e] at hu ⊢
     rw[hp.2] at hu
     cases hu
     have ea:(⟨b,off,none⟩:Addr).add (j / 2*2+1)=⟨b,off+j / 2*2+1,none⟩:=by simp[Addr.add,Nat.add_assoc]
     rw[ea];exact ht.2
theorem pcells_one (qs:List PairL):∀ u∈pcells qs,u.oneCell'=true:=by
 induction qs with
 | nil=>simp[pcells]
 | cons p ps ih=>simp[pcells,Value.oneCell'];exact ih
set_option maxHeartbeats 1000000 in
set_option maxRecDepth 100000 in
theorem clone_any (b off cap:Nat) (qs:List PairL) (w:World) (hl:qs.length≤1000) (hs:IsPairs w (some ⟨b,off,none⟩) qs) :
 Calls Tryz.prog 30 #[.slice (some ⟨b,off,none⟩) qs.length cap] w fun e w'=>∃ (a:Option Addr) (m c:Nat),e=.returned (.slice a m c)∧w'.ownsRow w.heap.size 56 2 (.slice a m c) qs.length (pcells qs)∧Below w.heap.size w w':=by
 obtain⟨i0,hi0,hz0,hz1,hz2⟩:=info_parts infoPair
 have B0:Below w.heap.size w (w.alloc (.cells #[] 56)):=(Below.refl _ _).alloc (Nat.le_refl _) _
 have HF:Hid (∀ j u,(pcells qs)[j]? = some u→(w.alloc (.cells #[] 56)).cell? ((⟨b,off,none⟩:Addr).add j)=some u):=isPairs_flat (hs.later B0)
 have o0:=World.ownsRow_lit (e:=56) (size:=2) w #[] 0 (base:=w.heap.size) (Nat.le_refl _) (Nat.zero_le _) rfl
 have HO0:=hidOwn o0
 have hnil:∀ W,(binOp .eql 24 (.slice (some ⟨b,off,none⟩) qs.length cap) (.slice none 0 0)).run Tryz.prog W=.ok (.bool false) W:=fun W=>by first | rfl | (simp[binOp,Op.equal,run_underlying Tryz.underlying24])
 clear hs o0
 go_enter Tryz.func30,Tryz.ntmps30
 go_wp2_with (at_builtin;refine wpList_append_own _ rfl _ _ 24 rfl w.heap.size 56 i0 (.agg #[.string ⟨#[]⟩,.string ⟨#[]⟩]) 2 32 Tryz.underlying24 hi0 hz0 hz1 hz2 rfl (by decide) (.slice (some ⟨w.heap.size,0,none⟩) 0 0) 0 _ rfl HO0.out ⟨b,off,none⟩ qs.length cap (pcells qs) rfl (pcells_length qs) HF.out (pcells_one qs) (by unfold maxLen;omega) (by omega) (by simp <;> omega) ?_;intro v3 w3 hown3 hgrow3 hnil3;obtain⟨a3,m3,c3,rfl⟩:=own_slice2 hown3)
 have B3:Below w.heap.size w w3:=B0.grown hgrow3 (by simp) (fun k hk=>by simp[Value.ownBlock] at hk;omega)
 have HO3:Hid (w3.ownsRow w.heap.size 56 2 (.slice a3 m3 c3) qs.length (pcells qs)):=by rw[Hid];simpa using hown3
 clear hown3 hgrow3 hnil3
 go_wp2
 go_ret
 exact⟨a3,m3,c3,rfl,HO3.out,B3⟩
def insL (k v:List UInt8):List PairL:=if v=[] then [] else [(k,v)]
def skipN (ps:List PairL) (k:List UInt8) (p:Nat):Nat:=if p<ps.length∧keyAt ps p=k then p+1 else p
def putL (ps:List PairL) (k v:List UInt8) (p:Nat):List PairL:=ps.take p ++ insL k v ++ ps.drop (skipN ps k p)
theorem less_ne {a b:List UInt8} (h:Op.bytesLess a b=true):a≠b:=fun e=>by rw[e,bytesLess_irrefl] at h;cases h
theorem fold_ahead (ps:List PairL) (k v:List UInt8) (p:Nat) (h:placeIs ps k p):∀ j,j≤p→setFold k v (ps.take j)=(ps.take j,decide (v=[]))
 | 0,_=>by rw[setFold_zero];simp
 | j + 1, hj => by
   have hp:=h.1
   have hjl:j<ps.length:=by omega
   have hl:=h.2.1 j (by omega)
   rw[keyAt_lt ps j hjl] at hl
   rw[setFold_snoc k v ps j hjl,fold_ahead ps k v p h j (by omega),step_less k v _ _ ps[j] (.inr hl),if_neg (less_ne hl),take_snocP ps j hjl]
theorem fold_behind (ps:List PairL) (k v:List UInt8) (p:Nat) (hr:rising ps) (h:placeIs ps k p) (hp:p<ps.length):∀ m,p+1+m≤ps.length→setFold k v (ps.take (p+1+m))=(ps.take p ++ insL k v ++ (ps.take (p+1+m)).drop (skipN ps k p),true)
 | 0, hm => by
   have hl:=h.2.2 p (Nat.le_refl _) hp
   have hk:=keyAt_lt ps p hp
   rw[hk] at hl
   rw[Nat.add_zero,setFold_snoc k v ps p hp,fold_ahead ps k v p h p (Nat.le_refl _)]
   have hd:(ps.take (p+1)).drop (skipN ps k p)=if ps[p].1=k then [] else [ps[p]]:=by
    by_cases e:ps[p].1=k
    · rw[if_pos e,skipN,if_pos ⟨hp,by rw[hk];exact e⟩]
      exact List.drop_eq_nil_of_le (by simp;omega)
    · rw[if_neg e,skipN,if_neg (fun hh=>e (by rw[←hk];exact hh.2)),take_snocP ps p hp,List.drop_append_of_le_length (by simp;omega)]
      simp
   rw[hd]
   by_cases hv:v=[]
   · have:decide (v=[])=true:=decide_eq_true hv
     rw[this,step_less k v _ _ ps[p] (.inl rfl),insL,if_pos hv]
     by_cases e:ps[p].1=k <;> simp[e]
   · have:decide (v=[])=false:=decide_eq_false hv
     rw[this,step_put k v _ ps[p] hl,insL,if_neg hv]
     by_cases e:ps[p].1=k <;> simp[e]
 | m + 1, hm => by
   have hjl:p+1+m<ps.length:=by omega
   have hk:=keyAt_lt ps (p+1+m) hjl
   have hne:ps[p+1+m].1≠k:=by
    intro e
    have h1:=hr p (p+1+m) (by omega) hjl
    rw[hk,e] at h1
    have h2:=h.2.2 p (Nat.le_refl _) hp
    rw[h1] at h2
    cases h2
   have hs:skipN ps k p≤p+1+m:=by unfold skipN;split <;> omega
   rw[show p+1+(m+1)=p+1+m+1 by omega,setFold_snoc k v ps (p+1+m) hjl,fold_behind ps k v p hr h hp m (by omega),step_less k v _ _ ps[p+1+m] (.inl rfl),if_neg hne,take_snocP ps (p+1+m) hjl,List.drop_append_of_le_length (by simp;omega)]
   simp
theorem setL_put (ps:List PairL) (k v:List UInt8) (p:Nat) (hr:rising ps) (h:placeIs ps k p):setL ps k v=putL ps k v p:=by
 by_cases hp:p<ps.length
 · have hf:=fold_behind ps k v p hr h hp (ps.length - (p+1)) (by omega)
   rw[show p+1+(ps.length - (p+1))=ps.length by omega,List.take_length] at hf
   rw[setL,hf]
   simp[putL]
 · have he:p=ps.length:=by have:=h.1;omega
   have hf:=fold_ahead ps k v p h p (Nat.le_refl _)
   rw[he,List.take_length] at hf
   rw[setL,hf]
   have hs:skipN ps k ps.length=ps.length:=by rw[skipN,if_neg (fun hh=>by omega)]
   by_cases hv:v=[]
   · simp[putL,insL,hv,hs,he]
   · simp[putL,insL,hv,hs,he]
theorem low2 {w:World} {base e n:Nat} {a:Option Addr} {m cap:Nat} {xs:List Value} (h:w.ownsRow base e 2 (.slice a m cap) n xs):∀ k,(Value.slice a m cap).ownBlock=some k→base≤k:=fun k hk=>(h.lt k hk).1
theorem take_isPairs {w:World} {b off:Nat} {ps:List PairL} {p:Nat} (h:IsPairs w (some ⟨b,off,none⟩) ps):IsPairs w (some ⟨b,off,none⟩) (ps.take p):=by
 rcases h with rfl | ⟨b',off',he,hc⟩
 · exact .inl (by simp)
 · cases he
   refine .inr ⟨b,off,rfl,fun j hj=>?_⟩
   simp at hj
   simp only[List.getElem_take]
   exact hc j (by omega)
theorem drop_isPairs {w:World} {b off:Nat} {ps:List PairL} {p:Nat} (h:IsPairs w (some ⟨b,off,none⟩) ps):IsPairs w (some ⟨b,off+p*2,none⟩) (ps.drop p):=by
 rcases h with rfl | ⟨b',off',he,hc⟩
 · exact .inl (by simp)
 · cases he
   refine .inr ⟨b,off+p*2,rfl,fun j hj=>?_⟩
   simp at hj
   have:=hc (p+j) (by omega)
   simp only[List.getElem_drop]
   rw[show off+p*2+j*2=off+(p+j)*2 by omega]
   exact this
set_option maxHeartbeats 1000000 in
set_option maxRecDepth 100000 in
theorem clone_none (w:World) :
 Calls Tryz.prog 30 #[.slice none 0 0] w fun e w'=>e=.returned (.slice none 0 0)∧w'=w:=by
 have hnil:∀ W,(binOp .eql 24 (.slice none 0 0) (.slice none 0 0)).run Tryz.prog W=.ok (.bool true) W:=fun W=>by first | rfl | (simp[binOp,Op.equal,run_underlying Tryz.underlying24])
 go_enter Tryz.func30,Tryz.ntmps30
 go_wp2
 go_ret
 exact⟨rfl,rfl⟩
theorem setL_nil (k v:List UInt8):setL [] k v=if v=[] then [] else [(k,v)]:=by
 simp only[setL,setFold,List.foldl_nil]
 by_cases h:v=[] <;> simp[h]
end Go.Proofs.YtahocpjieffbaaaGreatDoor
