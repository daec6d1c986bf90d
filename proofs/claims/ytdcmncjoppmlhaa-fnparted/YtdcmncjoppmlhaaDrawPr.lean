import Derived.Test.YtdcmncjoppmlhaaDrawB
import Derived.Test.YtdcmncjoppmlhaaApX
namespace Go.Proofs.Ytdcmncjoppmlhaa
open Go.RowKit
set_option linter.unusedVariables false
theorem setStep_len (k v:List UInt8) (L:List PairL) (d:Bool) (p:PairL) (n:Nat) (h:L.length≤n+(if d=true then 1 else 0)):(setStep k v (L,d) p).1.length≤n+1+(if (setStep k v (L,d) p).2=true then 1 else 0):=by
 by_cases hd:d=false∧Op.bytesLess p.1 k=false
 · obtain⟨rfl,hb⟩:=hd
   rw[step_put k v L p hb]
   simp at h ⊢
   split <;> simp <;> omega
 · rw [step_less k v L d p (by
    cases d
    · right;cases hb:Op.bytesLess p.1 k
      · exact absurd ⟨rfl,hb⟩ hd
      · rfl
    · exact .inl rfl)]
   simp only
   split <;> (cases d <;> simp at h ⊢ <;> omega)
theorem setFold_len (k v:List UInt8) (ps:List PairL):∀ j,j≤ps.length→(setFold k v (ps.take j)).1.length≤j+(if (setFold k v (ps.take j)).2=true then 1 else 0)
 | 0,_=>by rw[setFold_zero];simp
 | j + 1, h => by
   rw[setFold_snoc k v ps j (by omega)]
   have:=setFold_len k v ps j (by omega)
   exact setStep_len k v _ _ _ j this
theorem setL_len (ps:List PairL) (k v:List UInt8):(setL ps k v).length≤ps.length+1:=by
 have:=setFold_len k v ps ps.length (Nat.le_refl _)
 rw[List.take_length] at this
 rw[setL]
 split
 · rename_i h;rw[h] at this;simp at this;omega
 · rename_i h;simp[h] at this;simp;omega
def smallP (ps:List PairL):Prop:=∀ p∈ps,p.1.length≤7∧p.2.length≤5
theorem smallP_set {ps:List PairL} {k v:List UInt8} (h:smallP ps) (hk:k.length≤7) (hv:v.length≤5):smallP (setL ps k v):=fun p hp=>by
 rcases setL_mem ps k v p hp with rfl | h'
 · exact⟨hk,hv⟩
 · exact h p h'
theorem rd_far {w:World} {B e rd n:Nat} {v:Value} {xs:List Value} (h:w.ownsRow B e 2 v n xs) (hr:rd<B):∀ k,v.ownBlock=some k→(some rd)≠some k:=fun k hk e=>by have:=(h.lt k hk).1;cases e;omega
theorem keptR {w w':World} {b e sz n:Nat} {v:Value} {xs:List Value} {row:Option Nat} (h:w.ownsRow b e sz v n xs) (g:w.grownBy w' row) (hne:∀ k,v.ownBlock=some k→row≠some k):w'.ownsRow b e sz v n xs :=
 h.kept g (by
  cases hv:v.ownBlock with
  | none=>exact .inl rfl
  | some q=>exact .inr (fun e=>hne q hv e.symm))
theorem grown_below {w w1 w2:World} {rd:Nat} (h:w.grownBy w1 (some rd)) (b:Below w1.heap.size w1 w2):w.grownBy w2 (some rd):=h.trans ⟨b.os,b.tape,b.output,b.size,fun k hk _=>b.block k hk⟩
set_option maxRecDepth 100000 in
set_option maxHeartbeats 2000000 in
theorem pairs_any (rd n cap m:Nat) (x:Int) (a:Option Addr) (w:World) (hx:x=(m:Int)) (hm:1≤m) (hm2:m≤200) (hn:n≤1048576) (h:Rd rd a n cap w) :
 Calls Try.prog 35 #[.pointer (some ⟨rd,0,none⟩),.int .i64 x] w fun e w'=>∃ (ps:List PairL) (g c:Nat),ps.length≤m+1∧smallP ps∧e=.returned (.slice (some ⟨g,0,none⟩) ps.length c)∧w'.ownsRow w.heap.size 54 2 (.slice (some ⟨g,0,none⟩) ps.length c) ps.length (pcells ps)∧Rd rd a n cap w'∧w.grownBy w' (some rd):=by
 obtain⟨i0,hi0,hz0,hz1,hz2⟩:=info_parts infoPair
 subst hx
 have hrd:=h.lt
 have HC:Hid (∀ cb off,a=some ⟨cb,off,none⟩→n≠0→cb<w.heap.size):=h.code
 have HR0:Hid (Rd rd a n cap (w.alloc (.cells #[] 54))):=h.keptNone ((Below.refl _ _).alloc (Nat.le_refl _) _)
 have HO0:=hidOwn (World.ownsRow_lit (e:=54) (size:=2) w #[] 0 (base:=w.heap.size) (Nat.le_refl _) (Nat.zero_le _) rfl)
 have HG0:Hid (w.grownBy (w.alloc (.cells #[] 54)) (some rd)):=World.grownBy_alloc w _ (some rd)
 clear h
 go_enter Try.func35,Try.ntmps35
 go_wp2_with fail
 refine (below_any rd n cap (m+1) ((m:Int)+1) a _ (by omega) (by omega) (by omega) hn HR0.out).mono ?_
 rintro e w1 ⟨q,hq,rfl,hR1,hG1⟩
 have HR1:Hid (Rd rd a n cap w1):=hR1
 have HG1:Hid (w.grownBy w1 (some rd)):=HG0.out.trans hG1
 have HO1:=hidOwn (keptR HO0.out hG1 (rd_far HO0.out hrd))
 clear hR1 hG1 HR0 HG0 HO0
 go_wp2
 go_loopw [5,6] (fun o i wr=>∃ (j g c:Nat) (ps:List PairL),j≤q∧i=.int .i64 (j:Int)∧o=.slice (some ⟨g,0,none⟩) ps.length c∧ps.length+j≤q∧smallP ps∧wr.ownsRow w.heap.size 54 2 (.slice (some ⟨g,0,none⟩) ps.length c) ps.length (pcells ps)∧Hid (Rd rd a n cap wr)∧Hid (w.grownBy wr (some rd))) (fun _ i _=>(intOf i).toNat)
 case atStart=>exact⟨q,w.heap.size,0,[],Nat.le_refl _,rfl,rfl,by simp,fun p hp=>by simp at hp,HO1.out,HR1,HG1⟩
 case round =>
  obtain⟨j,g,c,ps,hj,rfl,rfl,hl,hsm,hown,HR,HG⟩:=hrel
  clear HR1 HG1 HO1
  by_cases hlt:0<j
  · have hj1:(0:Int)<(j:Int):=by omega
    have HSM:Hid (smallP ps):=hsm
    have HO:=hidOwn hown
    clear hown hsm
    go_wp2_with fail
    refine (key_any rd n cap a _ hn HR.out).mono ?_
    rintro e w2 ⟨k,hk,rfl,hR2,hG2⟩
    have HR2:Hid (Rd rd a n cap w2):=hR2
    have HG2:Hid (w.grownBy w2 (some rd)):=HG.out.trans hG2
    have HO2:=hidOwn (keptR HO.out hG2 (rd_far HO.out hrd))
    clear hR2 hG2 HR HG HO
    go_wp2_with fail
    refine (once_any rd n cap 5 5 a _ rfl (by omega) (by omega) hn HR2.out).mono ?_
    rintro e w3 ⟨t,rfl,hR3,hG3⟩
    have HR3:Hid (Rd rd a n cap w3):=hR3
    have HG3:Hid (w.grownBy w3 (some rd)):=HG2.out.trans hG3
    have HO3:=hidOwn (keptR HO2.out hG3 (rd_far HO2.out hrd))
    clear hR3 hG3 HR2 HG2 HO2
    cases t
    · have hk7:k.length≤7:=by omega
      go_wp2_with fail
      refine (value_any rd n cap a _ hn HR3.out).mono ?_
      rintro e w4 ⟨v,hv,rfl,hR4,hG4⟩
      have HR4:Hid (Rd rd a n cap w4):=hR4
      have HG4:Hid (w.grownBy w4 (some rd)):=HG3.out.trans hG4
      have HO4:=hidOwn (keptR HO3.out hG4 (rd_far HO3.out hrd))
      have KS:=l5Set_any (some ⟨g,0,none⟩) c ps k v w4 (by omega) (fun p hp=>by have:=HSM.out p hp;omega) (by omega) (by omega) (isPairs_own HO4.out).2.2
      have HSL:Hid ((setL ps k v).length≤ps.length+1∧smallP (setL ps k v)):=⟨setL_len ps k v,smallP_set HSM.out hk7 hv⟩
      obtain⟨L,hL⟩:∃ L,L=setL ps k v:=⟨_,rfl⟩
      rw[←hL] at KS HSL
      clear hR4 hG4 HR3 HG3 HO3 hL
      go_wp2_with fail
      refine KS.mono ?_
      rintro e w5 ⟨g5,c5,rfl,_,o5,b5⟩
      have HO5:=hidOwn (o5.mono HG4.out.size)
      have HR5:Hid (Rd rd a n cap w5):=HR4.out.keptNone b5
      have HG5:Hid (w.grownBy w5 (some rd)):=grown_below HG4.out b5
      have hLl:=HSL.out.1
      clear KS o5 b5 HR4 HG4 HO4
      go_wp2
      go_roundw
      case rel=>exact⟨j - 1,g5,c5,L,by omega,by go_num,rfl,by omega,HSL.out.2,HO5.out,HR5,HG5⟩
      case measure=>simp[intOf];omega
    · go_wp2_with fail
      refine (bytes_any rd n cap 2 2 a _ rfl (by omega) (by omega) hn HR3.out).mono ?_
      rintro e w6 ⟨b2,hb2,rfl,hR6,hG6⟩
      have HR6:Hid (Rd rd a n cap w6):=hR6
      have HG6:Hid (w.grownBy w6 (some rd)):=HG3.out.trans hG6
      have HO6:=hidOwn (keptR HO3.out hG6 (rd_far HO3.out hrd))
      obtain⟨k',hk'⟩:∃ k',k'=k ++ b2:=⟨_,rfl⟩
      have hk7:k'.length≤7:=by rw[hk',List.length_append];omega
      have hap:ByteArray.mk k.toArray ++ ByteArray.mk b2.toArray=⟨k'.toArray⟩:=by rw[hk'];exact ba_app2 k b2
      clear hR6 hG6 HR3 HG3 HO3 hk'
      go_wp2_with fail
      refine (value_any rd n cap a _ hn HR6.out).mono ?_
      rintro e w4 ⟨v,hv,rfl,hR4,hG4⟩
      have HR4:Hid (Rd rd a n cap w4):=hR4
      have HG4:Hid (w.grownBy w4 (some rd)):=HG6.out.trans hG4
      have HO4:=hidOwn (keptR HO6.out hG4 (rd_far HO6.out hrd))
      have KS:=l5Set_any (some ⟨g,0,none⟩) c ps k' v w4 (by omega) (fun p hp=>by have:=HSM.out p hp;omega) (by omega) (by omega) (isPairs_own HO4.out).2.2
      have HSL:Hid ((setL ps k' v).length≤ps.length+1∧smallP (setL ps k' v)):=⟨setL_len ps k' v,smallP_set HSM.out hk7 hv⟩
      obtain⟨L,hL⟩:∃ L,L=setL ps k' v:=⟨_,rfl⟩
      rw[←hL] at KS HSL
      clear hR4 hG4 HR6 HG6 HO6 hL
      go_wp2_with fail
      refine KS.mono ?_
      rintro e w5 ⟨g5,c5,rfl,_,o5,b5⟩
      have HO5:=hidOwn (o5.mono HG4.out.size)
      have HR5:Hid (Rd rd a n cap w5):=HR4.out.keptNone b5
      have HG5:Hid (w.grownBy w5 (some rd)):=grown_below HG4.out b5
      have hLl:=HSL.out.1
      clear KS o5 b5 HR4 HG4 HO4
      go_wp2
      go_roundw
      case rel=>exact⟨j - 1,g5,c5,L,by omega,by go_num,rfl,by omega,HSL.out.2,HO5.out,HR5,HG5⟩
      case measure=>simp[intOf];omega
  · obtain rfl:j=0:=by omega
    have HSM:Hid (smallP ps):=hsm
    have HO:=hidOwn hown
    clear hown hsm
    go_wp2_with fail
    refine (once_any rd n cap 30 30 a _ rfl (by omega) (by omega) hn HR.out).mono ?_
    rintro e w3 ⟨t,rfl,hR3,hG3⟩
    have HR3:Hid (Rd rd a n cap w3):=hR3
    have HG3:Hid (w.grownBy w3 (some rd)):=HG.out.trans hG3
    have HO3:=hidOwn (keptR HO.out hG3 (rd_far HO.out hrd))
    clear hR3 hG3 HR HG HO
    cases t
    · go_wp2
      go_ret
      exact⟨ps,g,c,by omega,HSM.out,rfl,HO3.out,HR3.out,HG3.out⟩
    · go_wp2_with fail
      refine (key_any rd n cap a _ hn HR3.out).mono ?_
      rintro e w4 ⟨k,hk,rfl,hR4,hG4⟩
      have HR4:Hid (Rd rd a n cap w4):=hR4
      have HG4:Hid (w.grownBy w4 (some rd)):=HG3.out.trans hG4
      have HO4:=hidOwn (keptR HO3.out hG4 (rd_far HO3.out hrd))
      clear hR4 hG4 HR3 HG3 HO3
      go_wp2_with fail
      refine (value_any rd n cap a _ hn HR4.out).mono ?_
      rintro e w5 ⟨v,hv,rfl,hR5,hG5⟩
      have HR5:Hid (Rd rd a n cap w5):=hR5
      have HG5:Hid (w.grownBy w5 (some rd)):=HG4.out.trans hG5
      have HO5:=hidOwn (keptR HO4.out hG5 (rd_far HO4.out hrd))
      have s5:=HG5.out.size
      clear hR5 hG5 HR4 HG4 HO4
      go_wp2_with (at_builtin;refine wpList_append_lies _ rfl _ _ 28 rfl w.heap.size 54 i0 (.agg #[.string ⟨#[]⟩,.string ⟨#[]⟩]) 2 32 Try.underlying28 hi0 hz0 hz1 hz2 rfl (by decide) (.slice (some ⟨g,0,none⟩) ps.length c) ps.length _ rfl (HO5.out.alloc _) ⟨w5.heap.size,0,none⟩ 1 1 [.string ⟨k.toArray⟩,.string ⟨v.toArray⟩] rfl rfl (World.news_of_block (cs:=#[.string ⟨k.toArray⟩,.string ⟨v.toArray⟩]) (t:=54) (fr:=(0,0)) (heap_alloc_new w5 _)) (by simp[Value.oneCell']) (by omega) (by unfold maxLen;omega) (by omega) (by simp;omega) (w5.heap.size+1) (by simp) ?_;intro g7 cap7 w7 hown7 hgrow7 hat7 hlt7)
      have HO7:Hid (w7.ownsRow w.heap.size 54 2 (.slice (some ⟨g7,0,none⟩) (ps ++ [(k,v)]).length cap7) (ps ++ [(k,v)]).length (pcells (ps ++ [(k,v)]))):=by rw[Hid,pcells_snoc,List.length_append];exact hown7
      have hgb:=(HO5.out.lt g rfl).1
      have hR7:Rd rd a n cap w7:=(HR5.out.keptNone ((Below.refl _ _).alloc (Nat.le_refl _) _)).kept hgrow7 (by simp[Value.ownBlock];omega) (fun cb off he hz e=>by have:=HC.out cb off he hz;simp[Value.ownBlock] at e;omega)
      have HG7:Hid (w.grownBy w7 (some rd)):=grown_more (HG5.out.trans (World.grownBy_alloc w5 _ (some rd))) hgrow7 (fun j hj=>by simp[Value.ownBlock] at hj;omega)
      have HR7:Hid (Rd rd a n cap w7):=hR7
      have HS7:Hid (smallP (ps ++ [(k,v)])):=fun p hp=>by
       rcases List.mem_append.1 hp with h | h
       · exact HSM.out p h
       · simp at h;subst h;exact⟨by simp only;omega,hv⟩
      have hln:(ps ++ [(k,v)]).length=ps.length+1:=by simp
      obtain⟨L,hL⟩:∃ L,L=ps ++ [(k,v)]:=⟨_,rfl⟩
      rw[←hL] at HO7 HS7 hln
      rw[←hln]
      clear hR7 hown7 hgrow7 hat7 HR5 HG5 HO5 hL
      go_wp2
      go_ret
      exact⟨L,g7,cap7,by omega,HS7.out,rfl,HO7.out,HR7.out,HG7.out⟩
set_option maxRecDepth 100000 in
set_option maxHeartbeats 400000 in
theorem near8_any (rd n cap:Nat) (a:Option Addr) (w:World) (hn:n≤1048576) (h:Rd rd a n cap w) :
 Calls Try.prog 57 #[.pointer (some ⟨rd,0,none⟩),.int .i64 1,.int .i64 8] w fun e w'=>∃ x:Int,e=.returned (.int .i64 x)∧Rd rd a n cap w'∧w.grownBy w' (some rd):=by
 have K1:=below_any rd n cap 8 8 a w rfl (by omega) (by omega) hn h
 clear h
 go_enter Try.func57,Try.ntmps57
 go_wp2_with fail
 refine K1.mono ?_
 rintro e w1 ⟨y,hy,rfl,hR1,hG1⟩
 have HR1:Hid (Rd rd a n cap w1):=hR1
 have HG1:Hid (w.grownBy w1 (some rd)):=hG1
 clear K1 hR1 hG1
 by_cases y0:y=0
 · subst y0
   go_wp2
   go_ret
   exact⟨_,rfl,HR1.out,HG1.out⟩
 · have y0':((y:Int) == 0)=false:=by simp only[beq_eq_false_iff_ne,ne_eq];omega
   by_cases y1:y=1
   · subst y1
     go_wp2
     go_ret
     exact⟨_,rfl,HR1.out,HG1.out⟩
   · have y1':((y:Int) == 1)=false:=by simp only[beq_eq_false_iff_ne,ne_eq];omega
     have K2:=wordB_any rd n cap a w1 hn HR1.out
     clear HR1
     go_wp2_with fail
     refine K2.mono ?_
     rintro e w2 ⟨z,rfl,hR2,hG2⟩
     have HR2:Hid (Rd rd a n cap w2):=hR2
     have HG2:Hid (w.grownBy w2 (some rd)):=grown_more HG1.out hG2 (by simp)
     clear K2 hR2 hG2 HG1
     go_wp2
     go_ret
     exact⟨_,rfl,HR2.out,HG2.out⟩
set_option maxRecDepth 100000 in
set_option maxHeartbeats 400000 in
theorem off8_any (rd n cap:Nat) (a:Option Addr) (w:World) (hn:n≤1048576) (h:Rd rd a n cap w) :
 Calls Try.prog 52 #[.pointer (some ⟨rd,0,none⟩),.int .i64 1,.int .i64 8] w fun e w'=>∃ x:Int,e=.returned (.int .i64 x)∧Rd rd a n cap w'∧w.grownBy w' (some rd):=by
 have K1:=once_any rd n cap 24 24 a w rfl (by omega) (by omega) hn h
 clear h
 go_enter Try.func52,Try.ntmps52
 go_wp2_with fail
 refine K1.mono ?_
 rintro e w1 ⟨t,rfl,hR1,hG1⟩
 have HR1:Hid (Rd rd a n cap w1):=hR1
 have HG1:Hid (w.grownBy w1 (some rd)):=hG1
 have hrd:=hR1.lt
 clear K1 hR1 hG1
 cases t
 · have K2:=near8_any rd n cap a w1 hn HR1.out
   clear HR1
   go_wp2_with fail
   refine K2.mono ?_
   rintro e w2 ⟨z,rfl,hR2,hG2⟩
   have HR2:Hid (Rd rd a n cap w2):=hR2
   have HG2:Hid (w.grownBy w2 (some rd)):=grown_more HG1.out hG2 (by simp)
   clear K2 hR2 hG2 HG1
   go_wp2
   go_ret
   exact⟨z,rfl,HR2.out,HG2.out⟩
 · go_wp2_with fail
   refine (below_any rd n cap 4 4 a _ rfl (by omega) (by omega) hn (HR1.out.keptNone ((Below.refl _ _).alloc (Nat.le_refl _) _))).mono ?_
   rintro e w2 ⟨k,hk,rfl,hR2,hG2⟩
   obtain⟨z,hc⟩:=tabIB_any (k:=k) hrd hG2 (by simp[isI64B]) (by simpa using hk)
   have HR2:Hid (Rd rd a n cap w2):=hR2
   have HG2:Hid (w.grownBy w2 (some rd)):=grown_more HG1.out ((World.grownBy_alloc w1 _ (some rd)).trans hG2) (by simp)
   have hk':(k:Int)<4:=by omega
   have hk0:(0:Int)≤(k:Int):=by omega
   clear hR2 hG2 HG1 HR1
   go_wp2
   go_ret
   exact⟨z,rfl,HR2.out,HG2.out⟩
end Go.Proofs.Ytdcmncjoppmlhaa
