/-
 Contracts: CheckProof's helpers, of the program: what a step shows, the next text of a proof.
-/
import Derived.Test.YtckoglgcjcmmkaaGreatDoorSChk
import Derived.Test.YtckoglgcjcmmkaaGreatDoorRfRaw
import Derived.BigQuiet
namespace Go.Proofs.YtckoglgcjcmmkaaGreatDoor
open Go.RowKit
set_option linter.unusedVariables false
set_option maxRecDepth 100000 in
set_option maxHeartbeats 400000 in
theorem impl_shownBy (nx pa:List UInt8) (c:Int) (v:List UInt8) (w:World) :
 Calls Tryz.prog 35 #[.agg #[.string ⟨nx.toArray⟩,.string ⟨pa.toArray⟩,.int .i64 c,.string ⟨v.toArray⟩]] w fun e w'=>e=.returned (.tuple #[.int .i64 (if c=1 then 2 else 1),.string ⟨(if c=1 then v else []).toArray⟩])∧Below w.heap.size w w':=by
 by_cases hc:c=1
 · rw[if_pos hc,if_pos hc]
   subst hc
   go_enter Tryz.func35,Tryz.ntmps35
   go_wp2
   go_quiet (fail)
   go_wp2
   go_ret2
   exact⟨rfl,by first | exact (Below.refl _ _).alloc (Nat.le_refl _) _ | exact⟨rfl,rfl,rfl,by simp,fun k hk=>Below.heap_alloc _ _ _ hk⟩⟩
 · rw[if_neg hc,if_neg hc]
   have hcb:(c == 1)=false:=by rw[beq_eq_false_iff_ne];exact hc
   clear hc
   go_enter Tryz.func35,Tryz.ntmps35
   go_wp2
   go_ret2
   exact⟨rfl,(Below.refl _ _).alloc (Nat.le_refl _) _⟩
def LeftB (w0 w:World) (L:Nat) (xs:List (List UInt8)):Prop:=∃ (ao:Option Addr) (c:Nat),w.heap[L]? = some (.cells #[.slice ao xs.length c] 30 (0,0))∧xs.length≤c∧IsStrs w0 ao xs
structure KeptN (w w':World) (L:Nat):Prop where
 os:w'.os=w.os
 tape:w'.tape=w.tape
 output:w'.output=w.output
 size:w.heap.size≤w'.heap.size
 block:∀ k,k<w.heap.size→k≠L→w'.heap[k]? = w.heap[k]?
theorem KeptN.of_below {w w':World} {L:Nat} (h:Below w.heap.size w w'):KeptN w w' L:=⟨h.os,h.tape,h.output,h.size,fun k hk _=>h.block k hk⟩
theorem KeptN.below {w0 w w':World} {L:Nat} (h:KeptN w w' L) (hb:Below w0.heap.size w0 w) (hl:w0.heap.size≤L):Below w0.heap.size w0 w' :=
 ⟨h.os.trans hb.os,h.tape.trans hb.tape,h.output.trans hb.output,Nat.le_trans hb.size h.size,fun k hk=>(h.block k (Nat.lt_of_lt_of_le hk hb.size) (by omega)).trans (hb.block k hk)⟩
theorem KeptN.trans {w w1 w2:World} {L:Nat} (h:KeptN w w1 L) (h2:KeptN w1 w2 L):KeptN w w2 L :=
 ⟨h2.os.trans h.os,h2.tape.trans h.tape,h2.output.trans h.output,Nat.le_trans h.size h2.size,fun k hk hne=>(h2.block k (Nat.lt_of_lt_of_le hk h.size) hne).trans (h.block k hk hne)⟩
theorem new_setC (w:World) (p:Addr) (v:Value) (o:Obj):((w.setCell p v).alloc o).heap[w.heap.size]? = some o:=by
 have:=heap_alloc_new (w.setCell p v) o
 have hs:(w.setCell p v).heap.size=w.heap.size:=by simp
 rwa [hs] at this
theorem one_setC {w:World} {L:Nat} {u:Value} {t:TypeId} (h:w.heap[L]? = some (.cells #[u] t (0,0))) (v:Value) (o:Obj):((w.setCell ⟨L,0,none⟩ v).alloc o).heap[L]? = some (.cells #[v] t (0,0)):=by
 have hL:L<w.heap.size:=(Array.getElem?_eq_some_iff.1 h).1
 refine (Below.heap_alloc _ _ _ (by simp;exact hL)).trans ?_
 have h1:w.heap[L]=.cells #[u] t (0,0):=by rw[Array.getElem?_eq_getElem hL] at h;exact Option.some.inj h
 show (w.heap.modify L _)[L]? = _
 rw[Array.getElem?_eq_getElem (by rw[Array.size_modify];exact hL),Array.getElem_modify_self,h1]
 rfl
theorem kept_setC (w:World) (L:Nat) (v:Value) (o:Obj):KeptN w ((w.setCell ⟨L,0,none⟩ v).alloc o) L :=
 ⟨rfl,rfl,rfl,by simp,fun k hk hne=>(Below.heap_alloc _ _ _ (by simp;exact hk)).trans (Below.heap_setCell w ⟨L,0,none⟩ v k hne)⟩
theorem Tab.keptN {w w':World} {L:Nat} (h:Tab w) (hk:KeptN w w' L) (hL:0≠L):Tab w':=⟨Nat.lt_of_lt_of_le h.1 hk.size,fun i hi=>(World.cell?_of_block (a:=⟨0,i,none⟩) (hk.block _ h.1 hL)).trans (h.2 i hi)⟩
def nextOk (t h:List UInt8):Bool:=(readNode t).isSome && (sumL t == h)
def NextPost (w0 w:World) (L:Nat) (h:List UInt8) (xs:List (List UInt8)) (e:Ending) (w':World):Prop:=match xs with
 | []=>e=.returned (.tuple #[.agg #[.string ⟨#[]⟩,.int .i64 0,.string ⟨#[]⟩,.slice none 0 0,.string ⟨#[]⟩],.bool false])∧Below w.heap.size w w'
 | t :: r=>∃ (k:Int) (p:List UInt8) (a:Option Addr) (m c:Nat) (v:List UInt8),e=.returned (.tuple #[.agg #[.string ⟨t.toArray⟩,.int .i64 k,.string ⟨p.toArray⟩,.slice a m c,.string ⟨v.toArray⟩],.bool (nextOk t h)])∧k=(nodeAt t).k∧p=(nodeAt t).p∧m=(nodeAt t).ls.length∧v=(nodeAt t).v∧IsStrs w' a (nodeAt t).ls∧LeftB w0 w' L r∧KeptN w w' L
theorem five_far (w:World) (H k:Nat) (hk:k≠H) (z0 z1 z2 z3 z4:Value):(((((w.setCell ⟨H,0,none⟩ z0).setCell ⟨H,1,none⟩ z1).setCell ⟨H,2,none⟩ z2).setCell ⟨H,3,none⟩ z3).setCell ⟨H,4,none⟩ z4).heap[k]? = w.heap[k]? :=
 ((((Below.heap_setCell _ ⟨H,4,none⟩ z4 k hk).trans (Below.heap_setCell _ ⟨H,3,none⟩ z3 k hk)).trans (Below.heap_setCell _ ⟨H,2,none⟩ z2 k hk)).trans (Below.heap_setCell _ ⟨H,1,none⟩ z1 k hk)).trans (Below.heap_setCell _ ⟨H,0,none⟩ z0 k hk)
theorem far_below {w1 w2:World} {H:Nat} (b:Below w1.heap.size w1 w2):KeptN w1 w2 H:=KeptN.of_below b
theorem far_five (w:World) (H:Nat) (z0 z1 z2 z3 z4:Value):KeptN w (((((w.setCell ⟨H,0,none⟩ z0).setCell ⟨H,1,none⟩ z1).setCell ⟨H,2,none⟩ z2).setCell ⟨H,3,none⟩ z3).setCell ⟨H,4,none⟩ z4) H:=by
 have bf:=fiveS_below (Below.refl H w) (Nat.le_refl _) z0 z1 z2 z3 z4
 exact⟨bf.os,bf.tape,bf.output,bf.size,fun k _ hne=>five_far w H k hne z0 z1 z2 z3 z4⟩
theorem next_fin {w0 w W0 w1 Wf:World} {L rl cp m1 c1:Nat} {ad a1:Option Addr} {r ls:List (List UInt8)} (kf:KeptN w1 Wf w.heap.size) (b1:Below W0.heap.size W0 w1) (hs0:W0.heap.size=w.heap.size+1) (HQL:W0.heap[L]? = some (.cells #[.slice ad rl cp] 30 (0,0))) (HLF:rl≤cp∧IsStrs w0 ad r) (hrl:rl=r.length) (HK0:KeptN w W0 L) (hLs:L<w.heap.size) (o1:w1.ownsRow W0.heap.size 9 1 (.slice a1 m1 c1) ls.length (scells ls)) :
 IsStrs Wf a1 ls∧LeftB w0 Wf L r∧KeptN w Wf L:=by
 have h1:=b1.size
 have h2:=kf.size
 subst hrl
 refine⟨?_,⟨ad,cp,?_,HLF.1,HLF.2⟩,?_⟩
 · rcases (strs_own o1).2.2 with h | ⟨b,off,rfl,hc⟩
   · exact .inl h
   · have hge:W0.heap.size≤b∧b<w1.heap.size:=o1.lt b rfl
     refine .inr ⟨b,off,rfl,fun j hj=>?_⟩
     rw[World.cell?_of_block (a:=⟨b,off+j,none⟩) (kf.block b hge.2 (by omega))]
     exact hc j hj
 · rw[kf.block L (by omega) (by omega),b1.block L (by omega)]
   exact HQL
 · refine⟨kf.os.trans (b1.os.trans HK0.os),kf.tape.trans (b1.tape.trans HK0.tape),kf.output.trans (b1.output.trans HK0.output),by omega,fun k hk hne=>?_⟩
   rw[kf.block k (by omega) (by omega),b1.block k (by omega)]
   exact HK0.block k hk hne
theorem five_setC1 {w:World} {b j:Nat} {u v x y z q:Value} {t:TypeId} (h:w.heap[b]? = some (.cells #[u,v,x,y,z] t (0,0))):(w.setCell ⟨b,j,none⟩ q).heap[b]? = some (.cells (#[u,v,x,y,z].setIfInBounds j q) t (0,0)):=by
 have hlt:=(Array.getElem?_eq_some_iff.1 h).1
 have h':w.heap[b]=.cells #[u,v,x,y,z] t (0,0):=by simpa [Array.getElem?_eq_getElem hlt] using h
 show (w.heap.modify b _)[b]? = _
 rw[Array.getElem?_eq_getElem (by simpa using hlt),Array.getElem_modify_self,h']
 rfl
theorem five_setC {w:World} {b:Nat} {u0 u1 u2 u3 u4:Value} {t:TypeId} (z0 z1 z2 z3 z4:Value) (h:w.heap[b]? = some (.cells #[u0,u1,u2,u3,u4] t (0,0))) :
 (((((w.setCell ⟨b,0,none⟩ z0).setCell ⟨b,1,none⟩ z1).setCell ⟨b,2,none⟩ z2).setCell ⟨b,3,none⟩ z3).setCell ⟨b,4,none⟩ z4).heap[b]? = some (.cells #[z0,z1,z2,z3,z4] t (0,0)) :=
 five_setC1 (j:=4) (q:=z4) (five_setC1 (j:=3) (q:=z3) (five_setC1 (j:=2) (q:=z2) (five_setC1 (j:=1) (q:=z1) (five_setC1 (j:=0) (q:=z0) h))))
theorem KeptN.dr {w w':World} {L:Nat} (h:KeptN w w' L):KeptN w w'.drew L:=⟨h.os,h.tape,h.output,h.size,h.block⟩
theorem drew_heapC (w:World) (k:Nat):w.drew.heap[k]? = w.heap[k]? := rfl
theorem five_setCD {w:World} {b:Nat} {u0 u1 u2 u3 u4:Value} {t:TypeId} (z0 z1 z2 z3 z4:Value) (h:w.heap[b]? = some (.cells #[u0,u1,u2,u3,u4] t (0,0))) :
 (((((w.setCell ⟨b,0,none⟩ z0).setCell ⟨b,1,none⟩ z1).setCell ⟨b,2,none⟩ z2).setCell ⟨b,3,none⟩ z3).setCell ⟨b,4,none⟩ z4).drew.heap[b]? = some (.cells #[z0,z1,z2,z3,z4] t (0,0)):=(drew_heapC _ _).trans (five_setC z0 z1 z2 z3 z4 h)
theorem far_fiveD {w1 w:World} {H:Nat} (h:Below w1.heap.size w1 w) (z0 z1 z2 z3 z4:Value):KeptN w1 (((((w.setCell ⟨H,0,none⟩ z0).setCell ⟨H,1,none⟩ z1).setCell ⟨H,2,none⟩ z2).setCell ⟨H,3,none⟩ z3).setCell ⟨H,4,none⟩ z4).drew H:=((far_below h).trans (far_five w H z0 z1 z2 z3 z4)).dr
theorem below_drC {b:Nat} {w w1:World} (h:Below b w w1):Below b w w1.drew:=⟨h.os,h.tape,h.output,h.size,h.block⟩
theorem four_new (w:World) (u v x y:Value) (t:TypeId):(w.alloc (.cells #[u,v,x,y] t)).drew.cell? ⟨w.heap.size,0,none⟩=some u∧(w.alloc (.cells #[u,v,x,y] t)).drew.cell? ⟨w.heap.size,1,none⟩=some v∧(w.alloc (.cells #[u,v,x,y] t)).drew.cell? ⟨w.heap.size,2,none⟩=some x∧(w.alloc (.cells #[u,v,x,y] t)).drew.cell? ⟨w.heap.size,3,none⟩=some y:=by
 have h:(w.alloc (.cells #[u,v,x,y] t)).drew.heap[w.heap.size]? = some (.cells #[u,v,x,y] t):=heap_alloc_new w _
 refine⟨?_,?_,?_,?_⟩ <;> simp only[World.cell?,h] <;> rfl
theorem zeroHc (w:World):(zeroValue 59).run Tryz.prog w=.ok (.agg #[.string ⟨#[]⟩,.int .i64 0,.string ⟨#[]⟩,.slice none 0 0,.string ⟨#[]⟩]) w:=by kernel_rfl
set_option maxRecDepth 100000 in
set_option maxHeartbeats 1000000 in
theorem impl_nextText (L : Nat) (h : List UInt8) (xs : List (List UInt8)) (w0 w : World) (hT : Tab w) (hx : ∀ l ∈ xs, l.length ≤ 1048576) (hxl : xs.length ≤ 1048576) (hB : Below w0.heap.size w0 w) (hL : w0.heap.size ≤ L) (hlf : LeftB w0 w L xs) (hGL : 0 ≠ L) :
 Calls Tryz.prog 32 #[.string ⟨h.toArray⟩,.pointer (some ⟨L,0,none⟩)] w fun e w'=>NextPost w0 w L h xs e w':=by
 obtain⟨ao,c,hbk,hcap,his⟩:=hlf
 have hLs:L<w.heap.size:=(Array.getElem?_eq_some_iff.1 hbk).1
 have hc0:w.cell? ⟨L,0,none⟩=some (.slice ao xs.length c):=by simp[World.cell?,hbk]
 have hf0:w.frozen? ⟨L,0,none⟩=false:=by simp[World.frozen?,hbk]
 have HBK:Hid (w.heap[L]? = some (.cells #[.slice ao xs.length c] 30 (0,0))):=hbk
 have HT:Hid (Tab w):=hT
 clear hT hbk
 cases xs with
 | nil =>
   have hz:=zeroHc
   go_enter Tryz.func32,Tryz.ntmps32
   go_wp2
   exact bodyPost_ret (v:=.tuple #[.agg #[.string ⟨#[]⟩,.int .i64 0,.string ⟨#[]⟩,.slice none 0 0,.string ⟨#[]⟩],.bool false]) (results_csN rfl _ _ w.heap.size 59 _ _ rfl (heap_alloc_new w _) Tryz.underlying59 rfl (by kernel_rfl) _ rfl) rfl ⟨rfl,(Below.refl _ _).alloc (Nat.le_refl _) _⟩
 | cons t r =>
   obtain⟨b,off,rfl,hct⟩:∃ b off,ao=some ⟨b,off,none⟩∧w.cell? ⟨b,off,none⟩=some (.string ⟨t.toArray⟩):=by
    rcases his with h | ⟨b,off,h,hc⟩
    · cases h
    · have h0:=hc 0 (by simp)
      refine⟨b,off,h,?_⟩
      have hlt:=World.block_lt_of_cell? w0 _ h0
      have:=(hB.cell (p:=⟨b,off+0,none⟩) hlt).trans h0
      simpa using this
   have hbl:b<w.heap.size:=World.block_lt_of_cell? w _ hct
   have htl:t.length≤1048576:=hx t (by simp)
   have HIS:Hid (∀ b' off':Nat,IsStrs w0 (some ⟨b,off,none⟩) (t :: r)→IsStrs w0 (some ⟨b,off+1,none⟩) r):=fun _ _ h=>by
    rcases h with h | ⟨b1,off1,h,hc⟩
    · cases h
    · cases h
      refine .inr ⟨b,off+1,rfl,fun j hj=>?_⟩
      have:=hc (j+1) (by simpa using hj)
      rw[show off+(j+1)=off+1+j by omega] at this
      simpa using this
   have K1:=fun W=>impl_readNode t W htl
   have K2:=fun W hW=>impl_sum t W htl hW
   have hz:=zeroHc
   have hlen:(t :: r).length=r.length+1:=rfl
   rw[hlen] at hc0 hcap HBK
   have hrl:r.length≤1048576:=by simp at hxl;omega
   have hne:((r.length:Int)+1 == 0)=false:=by rw[beq_eq_false_iff_ne];omega
   clear hx hxl hlen
   by_cases hc1:c=1
   · subst hc1
     obtain rfl:r=[]:=List.length_eq_zero_iff.1 (by omega)
     have HLF:Hid (0≤0∧IsStrs w0 (some ⟨b,off,none⟩) []):=⟨Nat.le_refl _,.inl rfl⟩
     rw[List.length_nil] at hc0 HBK hne
     clear his HIS
     go_enter Tryz.func32,Tryz.ntmps32
     go_wp2_with fail
     obtain⟨W0,hW0⟩:∃ W0,W0=(w.setCell ⟨L,0,none⟩ (.slice (some ⟨b,off,none⟩) 0 0)).alloc (.cells #[.string ⟨#[]⟩,.int .i64 0,.string ⟨#[]⟩,.slice none 0 0,.string ⟨#[]⟩] 59):=⟨_,rfl⟩
     have hs0:W0.heap.size=w.heap.size+1:=by rw[hW0];simp
     have HQ0:Hid (W0.heap[w.heap.size]? = some (.cells #[.string ⟨#[]⟩,.int .i64 0,.string ⟨#[]⟩,.slice none 0 0,.string ⟨#[]⟩] 59 (0,0))):=by rw[Hid,hW0];exact new_setC w _ _ _
     have HQL:Hid (W0.heap[L]? = some (.cells #[.slice (some ⟨b,off,none⟩) 0 0] 30 (0,0))):=by rw[Hid,hW0];exact one_setC HBK.out _ _
     have HK0:Hid (KeptN w W0 L):=by rw[Hid,hW0];exact kept_setC w L _ _
     have HT0:Hid (Tab W0):=Tab.keptN HT.out HK0.out hGL
     rw[←hW0]
     clear hW0 hc0 hf0 HBK hct HT
     refine (K1 W0).mono ?_
     rintro e w1 ⟨a1,m1,c1,rfl,o1,b1⟩
     obtain⟨rfl,_,_⟩:=strs_own o1
     have HO1:=hidOwn o1
     obtain⟨k,hk⟩:∃ k,k=((readNode t).getD zeroN).k:=⟨_,rfl⟩
     obtain⟨p,hp⟩:∃ p,p=((readNode t).getD zeroN).p:=⟨_,rfl⟩
     obtain⟨ls,hls⟩:∃ ls,ls=((readNode t).getD zeroN).ls:=⟨_,rfl⟩
     obtain⟨v,hv⟩:∃ v,v=((readNode t).getD zeroN).v:=⟨_,rfl⟩
     obtain⟨ro,hro⟩:∃ ro,ro=(readNode t).isSome:=⟨_,rfl⟩
     rw[←hls] at HO1
     rw[←hk,←hp,←hv,←hls,←hro]
     have HN:Hid (k=(nodeAt t).k∧p=(nodeAt t).p∧ls=(nodeAt t).ls∧v=(nodeAt t).v):=⟨hk,hp,hls,hv⟩
     have HRO:Hid (nextOk t h=(ro && (sumL t == h))):=by rw[Hid,nextOk,←hro]
     have Q1:Hid (w1.heap[w.heap.size]? = some (.cells #[.string ⟨#[]⟩,.int .i64 0,.string ⟨#[]⟩,.slice none 0 0,.string ⟨#[]⟩] 59 (0,0))):=(b1.block _ (by omega)).trans HQ0.out
     have hs1:=b1.size
     have HB1:Hid (Below W0.heap.size W0 w1):=b1
     have HT1:Hid (Tab w1):=HT0.out.later b1
     clear o1 b1 HT0 HQ0 hk hp hls hv hro K1
     have Q2:Hid ((w1.alloc (.cells #[.int .i64 k,.string ⟨p.toArray⟩,.slice a1 ls.length c1,.string ⟨v.toArray⟩] 57)).heap[w.heap.size]? = some (.cells #[.string ⟨#[]⟩,.int .i64 0,.string ⟨#[]⟩,.slice none 0 0,.string ⟨#[]⟩] 59 (0,0))):=(Below.heap_alloc _ _ _ (by omega)).trans Q1.out
     have HB2:Hid (Below w1.heap.size w1 (w1.alloc (.cells #[.int .i64 k,.string ⟨p.toArray⟩,.slice a1 ls.length c1,.string ⟨v.toArray⟩] 57))):=(Below.refl _ _).alloc (Nat.le_refl _) _
     have FIN:Hid (∀ Wf,KeptN w1 Wf w.heap.size→NextPost w0 w L h (t :: []) (.returned (.tuple #[.agg #[.string ⟨t.toArray⟩,.int .i64 k,.string ⟨p.toArray⟩,.slice a1 ls.length c1,.string ⟨v.toArray⟩],.bool (nextOk t h)])) Wf):=fun Wf kf=>by
      obtain⟨f1,f2,f3⟩:=next_fin kf HB1.out hs0 HQL.out HLF.out rfl HK0.out hLs HO1.out
      obtain⟨e1,e2,e3,e4⟩:=HN.out
      rw[e3] at f1
      exact⟨k,p,a1,ls.length,c1,v,rfl,e1,e2,by rw[e3],e4,f1,f2,f3⟩
     clear HN HO1 HQL HK0 HB1 HLF
     cases ro with
     | false =>
       have HE:Hid (nextOk t h=false):=HRO.out
       rw[HE.out] at FIN
       obtain⟨q0,q1,q2,q3,q4,qf⟩:=five_cells Q2.out
       have qf0:=qf 0
       have qf1:=qf 1
       have qf2:=qf 2
       have qf3:=qf 3
       have qf4:=qf 4
       clear qf HRO K2 HE
       go_wp2
       go_region
       all_goals go_wp2
       exact bodyPost_ret (v:=.tuple #[.agg #[.string ⟨t.toArray⟩,.int .i64 k,.string ⟨p.toArray⟩,.slice a1 ls.length c1,.string ⟨v.toArray⟩],.bool false]) (results_csN rfl _ _ w.heap.size 59 _ _ rfl (five_setCD _ _ _ _ _ Q2.out) Tryz.underlying59 rfl (by kernel_rfl) _ rfl) rfl (FIN.out _ (far_fiveD HB2.out _ _ _ _ _))
     | true =>
       obtain⟨bq,hbq⟩:∃ bq,(sumL t == h)=bq:=⟨_,rfl⟩
       have HE:Hid (nextOk t h=bq):=by rw[Hid,HRO.out,hbq];rfl
       rw[HE.out] at FIN
       have KS1:=K2 _ (HT1.out.later (below_drC HB2.out))
       obtain⟨sm,hsm⟩:∃ sm,sm=sumL t:=⟨_,rfl⟩
       rw[←hsm] at KS1 hbq
       obtain⟨q0,q1,q2,q3,q4,qf⟩:=five_cells Q2.out
       have qf0:=qf 0
       have qf1:=qf 1
       have qf2:=qf 2
       have qf3:=qf 3
       have qf4:=qf 4
       clear qf HRO K2 HE hsm
       go_wp2_with fail
       go_region_with (first
        | (go_at_call 34
           refine KS1.mono ?_
           rintro e w3 ⟨rfl,b3⟩
           have HB3:Hid (Below w1.heap.size w1 w3):=(below_drC HB2.out).trans (b3.mono (below_drC HB2.out).size)
           have Q3:Hid (w3.heap[w.heap.size]? = some (.cells #[.string ⟨#[]⟩,.int .i64 0,.string ⟨#[]⟩,.slice none 0 0,.string ⟨#[]⟩] 59 (0,0))):=(HB3.out.block _ (by omega)).trans Q1.out
           obtain⟨r0,r1,r2,r3,r4,rf⟩:=five_cells Q3.out
           have rf0:=rf 0
           have rf1:=rf 1
           have rf2:=rf 2
           have rf3:=rf 3
           have rf4:=rf 4
           obtain⟨n0,n1,n2,n3⟩:=four_new w1 (.int .i64 k) (.string ⟨p.toArray⟩) (.slice a1 ls.length c1) (.string ⟨v.toArray⟩) 57
           have m0:=(b3.cell (p:=⟨w1.heap.size,0,none⟩) (by simp)).trans n0
           have m1:=(b3.cell (p:=⟨w1.heap.size,1,none⟩) (by simp)).trans n1
           have m2:=(b3.cell (p:=⟨w1.heap.size,2,none⟩) (by simp)).trans n2
           have m3:=(b3.cell (p:=⟨w1.heap.size,3,none⟩) (by simp)).trans n3
           clear rf n0 n1 n2 n3 b3)
        | (go_at_call 34
           fail))
       all_goals go_wp2
       all_goals exact bodyPost_ret (v:=.tuple #[.agg #[.string ⟨t.toArray⟩,.int .i64 k,.string ⟨p.toArray⟩,.slice a1 ls.length c1,.string ⟨v.toArray⟩],.bool bq]) (results_csN rfl _ _ w.heap.size 59 _ _ rfl (five_setC _ _ _ _ _ Q3.out) Tryz.underlying59 rfl (by kernel_rfl) _ rfl) rfl (FIN.out _ ((far_below HB3.out).trans (far_five _ _ _ _ _ _ _)))
   · have HLF:Hid (r.length≤c - 1∧IsStrs w0 (some ⟨b,off+1,none⟩) r):=⟨by omega,HIS.out 0 0 his⟩
     clear his HIS
     go_enter Tryz.func32,Tryz.ntmps32
     go_wp2_with fail
     obtain⟨W0,hW0⟩:∃ W0,W0=(w.setCell ⟨L,0,none⟩ (.slice (some ⟨b,off+1,none⟩) r.length (c - 1))).alloc (.cells #[.string ⟨#[]⟩,.int .i64 0,.string ⟨#[]⟩,.slice none 0 0,.string ⟨#[]⟩] 59):=⟨_,rfl⟩
     have hs0:W0.heap.size=w.heap.size+1:=by rw[hW0];simp
     have HQ0:Hid (W0.heap[w.heap.size]? = some (.cells #[.string ⟨#[]⟩,.int .i64 0,.string ⟨#[]⟩,.slice none 0 0,.string ⟨#[]⟩] 59 (0,0))):=by rw[Hid,hW0];exact new_setC w _ _ _
     have HQL:Hid (W0.heap[L]? = some (.cells #[.slice (some ⟨b,off+1,none⟩) r.length (c - 1)] 30 (0,0))):=by rw[Hid,hW0];exact one_setC HBK.out _ _
     have HK0:Hid (KeptN w W0 L):=by rw[Hid,hW0];exact kept_setC w L _ _
     have HT0:Hid (Tab W0):=Tab.keptN HT.out HK0.out hGL
     rw[←hW0]
     clear hW0 hc0 hf0 HBK hct HT
     refine (K1 W0).mono ?_
     rintro e w1 ⟨a1,m1,c1,rfl,o1,b1⟩
     obtain⟨rfl,_,_⟩:=strs_own o1
     have HO1:=hidOwn o1
     obtain⟨k,hk⟩:∃ k,k=((readNode t).getD zeroN).k:=⟨_,rfl⟩
     obtain⟨p,hp⟩:∃ p,p=((readNode t).getD zeroN).p:=⟨_,rfl⟩
     obtain⟨ls,hls⟩:∃ ls,ls=((readNode t).getD zeroN).ls:=⟨_,rfl⟩
     obtain⟨v,hv⟩:∃ v,v=((readNode t).getD zeroN).v:=⟨_,rfl⟩
     obtain⟨ro,hro⟩:∃ ro,ro=(readNode t).isSome:=⟨_,rfl⟩
     rw[←hls] at HO1
     rw[←hk,←hp,←hv,←hls,←hro]
     have HN:Hid (k=(nodeAt t).k∧p=(nodeAt t).p∧ls=(nodeAt t).ls∧v=(nodeAt t).v):=⟨hk,hp,hls,hv⟩
     have HRO:Hid (nextOk t h=(ro && (sumL t == h))):=by rw[Hid,nextOk,←hro]
     have Q1:Hid (w1.heap[w.heap.size]? = some (.cells #[.string ⟨#[]⟩,.int .i64 0,.string ⟨#[]⟩,.slice none 0 0,.string ⟨#[]⟩] 59 (0,0))):=(b1.block _ (by omega)).trans HQ0.out
     have hs1:=b1.size
     have HB1:Hid (Below W0.heap.size W0 w1):=b1
     have HT1:Hid (Tab w1):=HT0.out.later b1
     clear o1 b1 HT0 HQ0 hk hp hls hv hro K1
     have Q2:Hid ((w1.alloc (.cells #[.int .i64 k,.string ⟨p.toArray⟩,.slice a1 ls.length c1,.string ⟨v.toArray⟩] 57)).heap[w.heap.size]? = some (.cells #[.string ⟨#[]⟩,.int .i64 0,.string ⟨#[]⟩,.slice none 0 0,.string ⟨#[]⟩] 59 (0,0))):=(Below.heap_alloc _ _ _ (by omega)).trans Q1.out
     have HB2:Hid (Below w1.heap.size w1 (w1.alloc (.cells #[.int .i64 k,.string ⟨p.toArray⟩,.slice a1 ls.length c1,.string ⟨v.toArray⟩] 57))):=(Below.refl _ _).alloc (Nat.le_refl _) _
     have FIN:Hid (∀ Wf,KeptN w1 Wf w.heap.size→NextPost w0 w L h (t :: r) (.returned (.tuple #[.agg #[.string ⟨t.toArray⟩,.int .i64 k,.string ⟨p.toArray⟩,.slice a1 ls.length c1,.string ⟨v.toArray⟩],.bool (nextOk t h)])) Wf):=fun Wf kf=>by
      obtain⟨f1,f2,f3⟩:=next_fin kf HB1.out hs0 HQL.out HLF.out rfl HK0.out hLs HO1.out
      obtain⟨e1,e2,e3,e4⟩:=HN.out
      rw[e3] at f1
      exact⟨k,p,a1,ls.length,c1,v,rfl,e1,e2,by rw[e3],e4,f1,f2,f3⟩
     clear HN HO1 HQL HK0 HB1 HLF
     cases ro with
     | false =>
       have HE:Hid (nextOk t h=false):=HRO.out
       rw[HE.out] at FIN
       obtain⟨q0,q1,q2,q3,q4,qf⟩:=five_cells Q2.out
       have qf0:=qf 0
       have qf1:=qf 1
       have qf2:=qf 2
       have qf3:=qf 3
       have qf4:=qf 4
       clear qf HRO K2 HE
       go_wp2
       go_region
       all_goals go_wp2
       exact bodyPost_ret (v:=.tuple #[.agg #[.string ⟨t.toArray⟩,.int .i64 k,.string ⟨p.toArray⟩,.slice a1 ls.length c1,.string ⟨v.toArray⟩],.bool false]) (results_csN rfl _ _ w.heap.size 59 _ _ rfl (five_setCD _ _ _ _ _ Q2.out) Tryz.underlying59 rfl (by kernel_rfl) _ rfl) rfl (FIN.out _ (far_fiveD HB2.out _ _ _ _ _))
     | true =>
       obtain⟨bq,hbq⟩:∃ bq,(sumL t == h)=bq:=⟨_,rfl⟩
       have HE:Hid (nextOk t h=bq):=by rw[Hid,HRO.out,hbq];rfl
       rw[HE.out] at FIN
       have KS1:=K2 _ (HT1.out.later (below_drC HB2.out))
       obtain⟨sm,hsm⟩:∃ sm,sm=sumL t:=⟨_,rfl⟩
       rw[←hsm] at KS1 hbq
       obtain⟨q0,q1,q2,q3,q4,qf⟩:=five_cells Q2.out
       have qf0:=qf 0
       have qf1:=qf 1
       have qf2:=qf 2
       have qf3:=qf 3
       have qf4:=qf 4
       clear qf HRO K2 HE hsm
       go_wp2_with fail
       go_region_with (first
        | (go_at_call 34
           refine KS1.mono ?_
           rintro e w3 ⟨rfl,b3⟩
           have HB3:Hid (Below w1.heap.size w1 w3):=(below_drC HB2.out).trans (b3.mono (below_drC HB2.out).size)
           have Q3:Hid (w3.heap[w.heap.size]? = some (.cells #[.string ⟨#[]⟩,.int .i64 0,.string ⟨#[]⟩,.slice none 0 0,.string ⟨#[]⟩] 59 (0,0))):=(HB3.out.block _ (by omega)).trans Q1.out
           obtain⟨r0,r1,r2,r3,r4,rf⟩:=five_cells Q3.out
           have rf0:=rf 0
           have rf1:=rf 1
           have rf2:=rf 2
           have rf3:=rf 3
           have rf4:=rf 4
           obtain⟨n0,n1,n2,n3⟩:=four_new w1 (.int .i64 k) (.string ⟨p.toArray⟩) (.slice a1 ls.length c1) (.string ⟨v.toArray⟩) 57
           have m0:=(b3.cell (p:=⟨w1.heap.size,0,none⟩) (by simp)).trans n0
           have m1:=(b3.cell (p:=⟨w1.heap.size,1,none⟩) (by simp)).trans n1
           have m2:=(b3.cell (p:=⟨w1.heap.size,2,none⟩) (by simp)).trans n2
           have m3:=(b3.cell (p:=⟨w1.heap.size,3,none⟩) (by simp)).trans n3
           clear rf n0 n1 n2 n3 b3)
        | (go_at_call 34
           fail))
       all_goals go_wp2
       all_goals exact bodyPost_ret (v:=.tuple #[.agg #[.string ⟨t.toArray⟩,.int .i64 k,.string ⟨p.toArray⟩,.slice a1 ls.length c1,.string ⟨v.toArray⟩],.bool bq]) (results_csN rfl _ _ w.heap.size 59 _ _ rfl (five_setC _ _ _ _ _ Q3.out) Tryz.underlying59 rfl (by kernel_rfl) _ rfl) rfl (FIN.out _ ((far_below HB3.out).trans (far_five _ _ _ _ _ _ _)))
end Go.Proofs.YtckoglgcjcmmkaaGreatDoor
