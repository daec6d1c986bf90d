/-
 Texts that are laid as one: Cmp, ISearch.
-/
import Derived.Test.YtlllkdioojjaeaaMath2
import Derived.Lib.Bytealg
import Derived.Test.YtlllkdioojjaeaaMathFms
import Derived.Test.YtlllkdioojjaeaaDOpA
namespace Go.Proofs.Ytlllkdioojjaeaa
open Go.RowKit
set_option linter.unusedVariables false
theorem cmp_neg:∀ a b:List UInt8,(Lib.compareBytes a b<0)=(Op.bytesLess a b=true)
 | [],[]=>by simp[Lib.compareBytes,Op.bytesLess]
 | [],_ :: _=>by simp[Lib.compareBytes,Op.bytesLess]
 | _ :: _,[]=>by simp[Lib.compareBytes,Op.bytesLess]
 | a :: ra, b :: rb => by
   have ih:=cmp_neg ra rb
   simp only[Lib.compareBytes,Op.bytesLess]
   by_cases h1:a<b
   · simp[h1]
   · by_cases h2:b<a
     · have hne:(a == b)=false:=by simp;intro e;rw[e] at h2;exact absurd h2 (UInt8.lt_irrefl b)
       simp[h1,h2,hne]
     · have he:a=b:=UInt8.le_antisymm (UInt8.not_lt.1 h2) (UInt8.not_lt.1 h1)
       subst he
       simp[h1,ih]
theorem cmp_zero:∀ a b:List UInt8,(Lib.compareBytes a b=0)=(a=b)
 | [],[]=>by simp[Lib.compareBytes]
 | [],_ :: _=>by simp[Lib.compareBytes]
 | _ :: _,[]=>by simp[Lib.compareBytes]
 | a :: ra, b :: rb => by
   have ih:=cmp_zero ra rb
   simp only[Lib.compareBytes]
   by_cases h1:a<b
   · have hne:¬ a=b:=fun e=>by rw[e] at h1;exact absurd h1 (UInt8.lt_irrefl b)
     simp[h1,hne]
   · by_cases h2:b<a
     · have hne:¬ a=b:=fun e=>by rw[e] at h2;exact absurd h2 (UInt8.lt_irrefl b)
       simp[h1,h2,hne]
     · have he:a=b:=UInt8.le_antisymm (UInt8.not_lt.1 h2) (UInt8.not_lt.1 h1)
       subst he
       simp[h1,ih]
set_option maxHeartbeats 1000000 in
set_option maxRecDepth 100000 in
theorem compareString_any (a b:List UInt8) (w:World) :
 Calls Try.prog 95 #[.string ⟨a.toArray⟩,.string ⟨b.toArray⟩] w fun e w'=>e=.returned (.int .i64 (Lib.compareBytes a b))∧w'=w:=by
 go_enter Try.func95,Try.ntmps95
 go_wp2
 rw[run_callFunc_extern Try.func100 (by kernel_rfl) (by kernel_rfl) (by kernel_rfl) (e:=Extern.BytealgCompare.compare) (by kernel_rfl),Lib.run_compareString]
 simp only[Result.andThen]
 rw[Oper.upon_value]
 go_wp2
 go_ret
 exact⟨rfl,rfl⟩
set_option maxHeartbeats 1000000 in
set_option maxRecDepth 100000 in
theorem compare_any (a b:List UInt8) (w:World) :
 Calls Try.prog 88 #[.string ⟨a.toArray⟩,.string ⟨b.toArray⟩] w fun e w'=>e=.returned (.int .i64 (Lib.compareBytes a b))∧w'=w:=by
 have K:=compareString_any a b w
 go_enter Try.func88,Try.ntmps88
 go_wp2_with fail
 refine K.mono ?_
 rintro e w1 ⟨rfl,rfl⟩
 go_wp2
 go_ret
 exact⟨rfl,rfl⟩
set_option maxHeartbeats 1000000 in
set_option maxRecDepth 100000 in
theorem cmpName_any (x y k:List UInt8) (w:World) :
 Calls Try.prog 87 #[.agg #[.string ⟨x.toArray⟩,.string ⟨y.toArray⟩],.string ⟨k.toArray⟩] w fun e w'=>e=.returned (.int .i64 (Lib.compareBytes x k))∧Below w.heap.size w w':=by
 have K:=fun W=>compare_any x k W
 go_enter Try.func87,Try.ntmps87
 go_wp2_with fail
 refine (K _).mono ?_
 rintro e w1 ⟨rfl,rfl⟩
 go_wp2
 go_ret
 exact⟨rfl,(Below.refl _ _).alloc (Nat.le_refl _) _⟩
def placeIs (ps:List PairL) (k:List UInt8) (at_:Nat):Prop:=at_≤ps.length∧(∀ t,t<at_→Op.bytesLess (keyAt ps t) k=true)∧∀ t,at_≤t→t<ps.length→Op.bytesLess (keyAt ps t) k=false
def rising (ps:List PairL):Prop:=∀ i j,i<j→j<ps.length→Op.bytesLess (keyAt ps i) (keyAt ps j)=true
theorem less_trans:∀ a b c:List UInt8,Op.bytesLess a b=true→Op.bytesLess b c=true→Op.bytesLess a c=true
 | _,_,[],_,h=>by simp[Op.bytesLess] at h
 | [],_,_ :: _,_,_=>by simp[Op.bytesLess]
 | a :: ra,[],_ :: _,h,_=>by simp[Op.bytesLess] at h
 | a :: ra, b :: rb, c :: rc, h1, h2 => by
   simp only[Op.bytesLess,Bool.or_eq_true,decide_eq_true_eq,Bool.and_eq_true,beq_iff_eq] at h1 h2 ⊢
   rcases h1 with h1 | ⟨rfl,h1⟩
   · rcases h2 with h2 | ⟨rfl,h2⟩
     · exact .inl (UInt8.lt_trans h1 h2)
     · exact .inl h1
   · rcases h2 with h2 | ⟨rfl,h2⟩
     · exact .inl h2
     · exact .inr ⟨rfl,less_trans ra rb rc h1 h2⟩
set_option maxHeartbeats 2000000 in
set_option maxRecDepth 100000 in
theorem search_gen (b off cap : Nat) (ps : List PairL) (k : List UInt8) (w : World) (hl : ps.length ≤ 1048576) (hs : IsPairs w (some ⟨b, off, none⟩) ps) :
 Calls Try.prog 86 #[.slice (some ⟨b,off,none⟩) ps.length cap,.string ⟨k.toArray⟩,.func (.func 87) #[] #[]] w fun e w'=>∃ p:Nat,(rising ps→placeIs ps k p)∧e=.returned (.tuple #[.int .i64 (p:Int),.bool (decide (p<ps.length∧keyAt ps p=k))])∧Below w.heap.size w w':=by
 rcases hs with rfl | ⟨b',off',he,hc⟩
 · go_enter Try.func86,Try.ntmps86
   go_wp2
   refine wp_loop_rounds 1 ?_
   rw[rounds_succ]
   go_wp2
   go_ret2
   exact⟨0,fun _=>⟨Nat.le_refl _,fun t h=>by omega,fun t _ h=>by simp at h⟩,rfl,Below.refl _ _⟩
 · cases he
   have hc':∀ j,j<ps.length→w.cell? ⟨b,off+j*2,none⟩=some (.string ⟨(keyAt ps j).toArray⟩)∧w.cell? ⟨b,off+j*2+1,none⟩=some (.string ⟨(valAt ps j).toArray⟩):=fun j h=>by rw[keyAt_lt ps j h,valAt_lt ps j h];exact hc j h
   clear hc
   go_enter Try.func86,Try.ntmps86
   go_wp2
   go_loopw [9,10,11] (fun i j _ wr=>∃ lo hi:Nat,lo≤hi∧hi≤ps.length∧i=.int .i64 (lo:Int)∧j=.int .i64 (hi:Int)∧Hid (rising ps→(∀ t,t<lo→Op.bytesLess (keyAt ps t) k=true)∧∀ t,hi≤t→t<ps.length→Op.bytesLess (keyAt ps t) k=false)∧Below w.heap.size w wr) (fun i j _ _=>(intOf j).toNat - (intOf i).toNat)
   case atStart=>exact⟨0,ps.length,Nat.zero_le _,Nat.le_refl _,rfl,rfl,fun _=>⟨fun t h=>by omega,fun t h1 h2=>by omega⟩,Below.refl _ _⟩
   case round =>
    obtain⟨lo,hi,hlh,hhn,rfl,rfl,HI,hbel⟩:=hrel
    have hsz:=hbel.size
    by_cases hlt:lo<hi
    · have hlt' : (lo : Int) < (hi : Int) := by omega
      have hm1:lo≤(lo+hi) / 2:=by omega
      have hm2:(lo+hi) / 2<hi:=by omega
      have hmn:(lo+hi) / 2<ps.length:=by omega
      obtain⟨c1',c2'⟩:=hc' ((lo+hi) / 2) hmn
      have hbl:=World.block_lt_of_cell? w _ c1'
      simp only at hbl
      have c1:=(hbel.cell (p:=⟨b,off+(lo+hi) / 2*2,none⟩) hbl).trans c1'
      have c2:=(hbel.cell (p:=⟨b,off+(lo+hi) / 2*2+1,none⟩) hbl).trans c2'
      have hi1:((lo:Int)+(hi:Int)) / 2<(ps.length:Int):=by omega
      have hi0:(0:Int)≤((lo:Int)+(hi:Int)) / 2:=by omega
      have HLO:Hid (rising ps→∀ t,t<(lo+hi) / 2→Op.bytesLess (keyAt ps t) (keyAt ps ((lo+hi) / 2))=true):=fun hr t ht=>hr t _ ht hmn
      have HUP:Hid (rising ps→∀ t,(lo+hi) / 2<t→t<ps.length→Op.bytesLess (keyAt ps ((lo+hi) / 2)) (keyAt ps t)=true):=fun hr t ht hn=>hr _ t ht hn
      obtain⟨x,hx⟩:∃ x,x=keyAt ps ((lo+hi) / 2):=⟨_,rfl⟩
      obtain⟨y,hy⟩:∃ y,y=valAt ps ((lo+hi) / 2):=⟨_,rfl⟩
      have HX:Hid (x=keyAt ps ((lo+hi) / 2)):=hx
      rw[←hx] at c1 HLO HUP
      rw[←hy] at c2
      have K:=fun W=>cmpName_any x y k W
      have hcn:=cmp_neg x k
      obtain⟨c,hcc⟩:∃ c,c=Lib.compareBytes x k:=⟨_,rfl⟩
      rw[←hcc] at K hcn
      have HCN:Hid ((c<0)=(Op.bytesLess x k=true)):=hcn
      clear hc' c1' c2' hx hy hcc hcn
      go_wp2_with fail
      refine (K _).mono ?_
      rintro e w1 ⟨rfl,b1⟩
      have B1:=hbel.trans (b1.mono hsz)
      clear K b1
      by_cases hn:c<0
      · have HB:Hid (Op.bytesLess x k=true):=HCN.out ▸ hn
        go_wp2
        go_roundw
        case rel=>exact⟨(lo+hi) / 2+1,hi,by omega,hhn,by first | rfl | go_num | (congr 1),rfl,fun hr=>⟨fun t ht=>by
         by_cases e:t=(lo+hi) / 2
         · rw[e,←HX.out];exact HB.out
         · exact less_trans _ _ _ (HLO.out hr t (by omega)) HB.out,(HI.out hr).2⟩,B1⟩
        case measure=>simp[intOf];omega
      · have HB:Hid (Op.bytesLess x k=false):=by
         rw[Hid];cases h:Op.bytesLess x k
         · rfl
         · exact absurd (HCN.out ▸ h) hn
        go_wp2
        go_roundw
        case rel=>exact⟨lo,(lo+hi) / 2,by omega,by omega,rfl,by first | rfl | go_num | (congr 1),fun hr=>⟨(HI.out hr).1,fun t h1 h2=>by
         by_cases e:t=(lo+hi) / 2
         · rw[e,←HX.out];exact HB.out
         · cases h:Op.bytesLess (keyAt ps t) k
           · rfl
           · exact absurd (less_trans _ _ _ (HUP.out hr t (by omega) h2) h) (by rw[HB.out];simp)⟩,B1⟩
        case measure=>simp[intOf];omega
    · have hle:lo=hi:=by omega
      subst hle
      have HPL:Hid (rising ps→placeIs ps k lo):=fun hr=>⟨hhn,(HI.out hr).1,(HI.out hr).2⟩
      by_cases hin:lo<ps.length
      · obtain⟨c1',c2'⟩:=hc' lo hin
        have hbl:=World.block_lt_of_cell? w _ c1'
        simp only at hbl
        have c1:=(hbel.cell (p:=⟨b,off+lo*2,none⟩) hbl).trans c1'
        have c2:=(hbel.cell (p:=⟨b,off+lo*2+1,none⟩) hbl).trans c2'
        have hi1:(lo:Int)<(ps.length:Int):=by omega
        have hi0:(0:Int)≤(lo:Int):=by omega
        obtain⟨x,hx⟩:∃ x,x=keyAt ps lo:=⟨_,rfl⟩
        obtain⟨y,hy⟩:∃ y,y=valAt ps lo:=⟨_,rfl⟩
        have HX:Hid (x=keyAt ps lo):=hx
        rw[←hx] at c1
        rw[←hy] at c2
        have K:=fun W=>cmpName_any x y k W
        have hcz:=cmp_zero x k
        obtain⟨c,hcc⟩:∃ c,c=Lib.compareBytes x k:=⟨_,rfl⟩
        rw[←hcc] at K hcz
        have HCZ:Hid ((c=0)=(x=k)):=hcz
        clear hc' c1' c2' hx hy hcc hcz HI hlt
        go_wp2_with fail
        refine (K _).mono ?_
        rintro e w1 ⟨rfl,b1⟩
        have B1:=hbel.trans (b1.mono hsz)
        clear K b1
        by_cases hz:c=0
        · have hxk:x=k:=HCZ.out ▸ hz
          subst hz
          go_wp2
          go_ret2
          exact⟨lo,HPL.out,by rw[decide_eq_true (⟨hin,by rw[←HX.out];exact hxk⟩:lo<ps.length∧keyAt ps lo=k)];rfl,B1⟩
        · have hbz:(c == 0)=false:=by simp[hz]
          have hxk:¬ x=k:=fun e=>hz (HCZ.out.symm ▸ e)
          go_wp2
          go_ret2
          exact⟨lo,HPL.out,by rw[decide_eq_false (fun h:lo<ps.length∧keyAt ps lo=k=>hxk (by rw[HX.out];exact h.2))];rfl,B1⟩
      · have hi1:¬ (lo:Int)<(ps.length:Int):=by omega
        clear hc' HI hlt
        go_wp2
        go_ret2
        exact⟨lo,HPL.out,by first | (simp[hin];done) | (rw[decide_eq_false (fun h:lo<ps.length∧keyAt ps lo=k=>hin h.1)];rfl),hbel⟩
set_option maxHeartbeats 2000000 in
set_option maxRecDepth 100000 in
theorem search_none (cap:Nat) (k:List UInt8) (w:World) :
 Calls Try.prog 86 #[.slice none 0 cap,.string ⟨k.toArray⟩,.func (.func 87) #[] #[]] w fun e w'=>e=.returned (.tuple #[.int .i64 0,.bool false])∧Below w.heap.size w w':=by
 go_enter Try.func86,Try.ntmps86
 go_wp2
 refine wp_loop_rounds 1 ?_
 rw[rounds_succ]
 go_wp2
 go_ret2
 exact⟨rfl,Below.refl _ _⟩
theorem rising_rise {ps:List PairL} (h:Rise ps):rising ps:=fun i j hij hj=>by
 rw[keyAt_lt ps i (by omega),keyAt_lt ps j hj,bless_iff]
 exact List.pairwise_iff_getElem.1 h i j (by omega) hj hij
theorem found_is {ps : List PairL} (h : Rise ps) {k : List UInt8} {p : Nat} (hp : placeIs ps k p) : decide (p < ps.length ∧ keyAt ps p = k) = decide (0 ≤ atF ps k) ∧ ((p < ps.length ∧ keyAt ps p = k) → valAt ps p = datF ps k) := by
 by_cases hh:p<ps.length∧keyAt ps p=k
 · have hm:(k,valAt ps p)∈ps:=by
    rw[←hh.2,keyAt_lt ps p hh.1,valAt_lt ps p hh.1];exact List.getElem_mem hh.1
   obtain⟨h1,h2⟩:=at_in h hm
   exact⟨by rw[decide_eq_true hh,decide_eq_true h1],fun _=>h2.symm⟩
 · refine⟨?_,fun h9=>absurd h9 hh⟩
   have hno : ∀ v, (k, v) ∉ ps := fun v hv => by
    obtain⟨j,hj,e⟩:=List.mem_iff_getElem.1 hv
    have ek:keyAt ps j=k:=by rw[keyAt_lt ps j hj,e]
    rcases Nat.lt_or_ge j p with h1 | h1
    · have:=hp.2.1 j h1
      rw[ek,bless_iff] at this
      exact List.lt_irrefl _ this
    · by_cases h2:j=p
      · subst h2;exact hh ⟨hj,ek⟩
      · have h3:=rising_rise h p j (by omega) hj
        rw[ek] at h3
        rw[hp.2.2 p (Nat.le_refl _) (by omega)] at h3
        cases h3
   rw[decide_eq_false hh,(at_out hno).1];rfl
set_option maxRecDepth 100000 in
set_option maxHeartbeats 1000000 in
theorem impl_dataOf (a:Option Addr) (ha:AddrOk a) (cap:Nat) (ps:List PairL) (k:List UInt8) (w:World) (hl:ps.length≤1048576) (hs:IsPairs w a ps) :
 Calls Try.prog 65 #[.slice a ps.length cap,.string ⟨k.toArray⟩] w fun e w'=>∃ (r:List UInt8) (b:Bool),e=.returned (.tuple #[.string ⟨r.toArray⟩,.bool b])∧(Rise ps→b=decide (0≤atF ps k)∧r=datF ps k)∧Below w.heap.size w w':=by
 rcases ha with rfl | ⟨b,off,rfl⟩
 · have he:ps=[]:=by rcases hs with h | ⟨b,off,h,_⟩;exact h;cases h
   subst he
   have K:=search_none cap k w
   go_enter Try.func65,Try.ntmps65
   go_wp2_with fail
   refine K.mono ?_
   rintro e w1 ⟨rfl,b1⟩
   have HE:Hid (Rise ([]:List PairL)→false=decide (0≤atF [] k)∧([]:List UInt8)=datF [] k):=fun _=>⟨rfl,rfl⟩
   go_wp2
   go_ret2
   exact⟨[],false,rfl,HE.out,b1⟩
 · have K:=search_gen b off cap ps k w hl hs
   have HCE:Hid (∀ W,Below w.heap.size w W→∀ j,j<ps.length→W.cell? ⟨b,off+j*2+1,none⟩=some (.string ⟨(valAt ps j).toArray⟩)):=fun W hW j hj=>by
    rcases hs.later hW with h | ⟨b',off',h,hc⟩
    · rw[h] at hj;simp at hj
    · cases h
      rw[valAt_lt ps j hj];exact (hc j hj).2
   clear hs
   go_enter Try.func65,Try.ntmps65
   go_wp2_with fail
   refine K.mono ?_
   rintro e w1 ⟨p,hpl,rfl,b1⟩
   have HF:Hid (Rise ps→decide (p<ps.length∧keyAt ps p=k)=decide (0≤atF ps k)∧((p<ps.length∧keyAt ps p=k)→valAt ps p=datF ps k)):=fun h=>found_is h (hpl (rising_rise h))
   by_cases hh:p<ps.length∧keyAt ps p=k
   · have c1:=HCE.out w1 b1 p hh.1
     have hp0:(0:Int)≤(p:Int):=by omega
     have hp1:(p:Int)<(ps.length:Int):=by omega
     have HB:Hid (Rise ps→true=decide (0≤atF ps k)∧valAt ps p=datF ps k):=fun h=>⟨by rw[←(HF.out h).1,decide_eq_true hh],(HF.out h).2 hh⟩
     rw[decide_eq_true hh]
     obtain⟨y,hy⟩:∃ y,y=valAt ps p:=⟨_,rfl⟩
     rw[←hy] at c1 HB
     clear hpl K HF hh HCE hy
     go_wp2
     go_ret2
     exact⟨y,true,rfl,HB.out,b1⟩
   · have HB:Hid (Rise ps→false=decide (0≤atF ps k)∧([]:List UInt8)=datF ps k):=fun h=>by
      have h1:=(HF.out h).1
      rw[decide_eq_false hh] at h1
      refine⟨h1,?_⟩
      have h2:¬ 0≤atF ps k:=fun h9=>by rw[decide_eq_true h9] at h1;cases h1
      rw[datF,if_neg h2]
     rw[decide_eq_false hh]
     clear hpl K HF hh HCE
     go_wp2
     go_ret2
     exact⟨[],false,rfl,HB.out,b1⟩
end Go.Proofs.Ytlllkdioojjaeaa
