/-
 Contract: what an op does to files, of the model.
-/
import Derived.Test.YtlllkdioojjaeaaSCutF
import Derived.Test.YtlllkdioojjaeaaSForm
namespace Go.Proofs.Ytlllkdioojjaeaa
open Go.RowKit
set_option linter.unusedVariables false
theorem files_flat {w:World} {b off:Nat} {qs:List PairL} (h:IsPairs w (some ⟨b,off,none⟩) qs):∀ j u,(pcells qs)[j]? = some u→w.cell? ((⟨b,off,none⟩:Addr).add j)=some u:=by
 intro j u hu
 have hj:j<qs.length*2:=by
  have:=(List.getElem?_eq_some_iff.1 hu).1
  rwa [pcells_length] at this
 rcases h with rfl | ⟨b',off',he,hc⟩
 · simp at hj
 · cases he
   have ht:=hc (j / 2) (by omega)
   have hp:=pcells_at qs (j / 2) (by omega)
   rcases Nat.mod_two_eq_zero_or_one j with h0 | h0
   · have e:j=j / 2*2:=by omega
     rw[e] at hu ⊢
     rw[hp.1] at hu
     cases hu
     have ea:(⟨b,off,none⟩:Addr).add (j / 2*2)=⟨b,off+j / 2*2,none⟩:=by
      simp only[Addr.add]
      split
      · rename_i h9;rw[h9];rfl
      · rfl
     rw[ea];exact ht.1
   · have e:j=j / 2*2+1:=by omega
     rw[e] at hu ⊢
     rw[hp.2] at hu
     cases hu
     have ea:(⟨b,off,none⟩:Addr).add (j / 2*2+1)=⟨b,off+j / 2*2+1,none⟩:=by simp[Addr.add,Nat.add_assoc]
     rw[ea];exact ht.2
theorem files_one (qs:List PairL):∀ u∈pcells qs,u.oneCell'=true:=by
 induction qs with
 | nil=>simp[pcells]
 | cons p ps ih=>simp[pcells,Value.oneCell'];exact ih
theorem cat_bytes (x y:List UInt8):(⟨x.toArray⟩:ByteArray) ++ ⟨y.toArray⟩=⟨(x ++ y).toArray⟩:=by
 apply ByteArray.ext
 simp
def datF (fs:List PairL) (n:List UInt8):List UInt8:=if 0≤atF fs n then valAt fs (atF fs n).toNat else []
def doF (fs:List PairL) (o:DOpL):List PairL × Bool :=
 if o.k=1 then (putL fs o.n (datF fs o.n ++ o.d),true)
 else if atF fs o.n<0 then (fs,false)
 else (if o.k=2 then putL (cutF fs o.n) o.t (datF fs o.n) else cutF fs o.n,true)
theorem atF_range (fs:List PairL) (n:List UInt8):atF fs n = -1∨∃ j,j<fs.length∧atF fs n=(j:Int):=by
 unfold atF
 cases h:fs.findIdx? (fun p=>p.1 == n) with
 | none=>exact .inl rfl
 | some j =>
   rw[List.findIdx?_eq_some_iff_getElem] at h
   exact .inr ⟨j,h.1,rfl⟩
set_option maxRecDepth 100000 in
set_option maxHeartbeats 2000000 in
theorem spec_do (b off cp : Nat) (ps : List PairL) (k : Int) (n t d : List UInt8) (w : World) (hl : ps.length ≤ 1000) (hm : ∀ p ∈ ps, p.1.length ≤ 16777216 ∧ p.2.length ≤ 8388608) (hn : n.length ≤ 16777216) (ht : t.length ≤ 16777216) (hd : d.length ≤ 8388608) (hs : IsPairs w (some ⟨b, off, none⟩) ps) :
 Calls Try.prog 42 #[.slice (some ⟨b,off,none⟩) ps.length cp,.agg #[.int .i64 k,.string ⟨n.toArray⟩,.string ⟨t.toArray⟩,.string ⟨d.toArray⟩]] w fun e w'=>∃ (a:Option Addr) (m c:Nat),e=.returned (.tuple #[.slice a m c,.bool (doF ps ⟨k,n,t,d⟩).2])∧w'.ownsRow w.heap.size 84 2 (.slice a m c) (doF ps ⟨k,n,t,d⟩).1.length (pcells (doF ps ⟨k,n,t,d⟩).1)∧Below w.heap.size w w':=by
 obtain⟨i0,hi0,hz0,hz1,hz2⟩:=info_parts infoFile
 have B0:Below w.heap.size w (w.alloc (.cells #[.int .i64 k,.string ⟨n.toArray⟩,.string ⟨t.toArray⟩,.string ⟨d.toArray⟩] 40)):=(Below.refl _ _).alloc (Nat.le_refl _) _
 have H0:Hid ((w.alloc (.cells #[.int .i64 k,.string ⟨n.toArray⟩,.string ⟨t.toArray⟩,.string ⟨d.toArray⟩] 40)).heap[w.heap.size]? = some (.cells #[.int .i64 k,.string ⟨n.toArray⟩,.string ⟨t.toArray⟩,.string ⟨d.toArray⟩] 40 (0,0))):=heap_alloc_new w _
 obtain⟨p0,p1,p2,p3,_⟩:=four_cells H0.out
 have KA:=spec_at (some ⟨b,off,none⟩) cp ps n (w.alloc (.cells #[.int .i64 k,.string ⟨n.toArray⟩,.string ⟨t.toArray⟩,.string ⟨d.toArray⟩] 40)) (by omega) (hs.later B0)
 have HS:Hid (∀ W,Below w.heap.size w W→IsPairs W (some ⟨b,off,none⟩) ps):=fun W hW=>hs.later hW
 have HM:Hid (∀ p∈ps,p.1.length≤16777216∧p.2.length≤8388608):=hm
 have HPUT:Hid (∀ (a:Option Addr) (c:Nat) (qs:List PairL) (x v:List UInt8) W,qs.length≤1000→(∀ p∈qs,p.1.length≤16777216∧p.2.length≤16777216)→x.length≤16777216→v.length≤16777216→IsPairs W a qs→_):=fun a c qs x v W h1 h2 h3 h4 h5=>spec_put a c qs x v W (by omega) h2 h3 h4 h5
 have HCUT:Hid (∀ W,Below w.heap.size w W→_):=fun W hW=>spec_cutF (some ⟨b,off,none⟩) cp ps n W (by omega) (HS.out W hW)
 have HR:=atF_range ps n
 have HDO:Hid (doF ps ⟨k,n,t,d⟩=if k=1 then (putL ps n (datF ps n ++ d),true) else if atF ps n<0 then (ps,false) else (if k=2 then putL (cutF ps n) t (datF ps n) else cutF ps n,true)):=rfl
 have HDA:Hid (datF ps n=if 0≤atF ps n then valAt ps (atF ps n).toNat else []):=rfl
 obtain⟨at0,hat0⟩:∃ at0,at0=atF ps n:=⟨_,rfl⟩
 rw[←hat0] at KA HR HDO HDA
 obtain⟨R,hR⟩:∃ R,R=doF ps ⟨k,n,t,d⟩:=⟨_,rfl⟩
 rw[←hR] at HDO ⊢
 clear hs hm hat0 hR
 rcases HR with rfl | ⟨j,hj,rfl⟩
 · by_cases hk1:k=1
   · subst hk1
     have HZ:Hid (R=(putL ps n ([] ++ d),true)):=by rw[Hid,HDO.out,if_pos rfl,HDA.out,if_neg (by omega)]
     clear HDO HDA
     go_enter Try.func42,Try.ntmps42
     go_wp2_with fail
     refine KA.mono ?_
     rintro e w1 ⟨rfl,b1⟩
     have B1:=B0.trans (b1.mono B0.size)
     obtain⟨q0,q1,q2,q3,_⟩:=four_cells ((b1.block _ (lt_of_block H0.out)).trans H0.out)
     clear p0 p1 p2 p3 KA b1
     have KP:=HPUT.out (some ⟨b,off,none⟩) cp ps n d w1 (by omega) (fun p hp=>⟨(HM.out p hp).1,by have:=(HM.out p hp).2;omega⟩) hn (by omega) (HS.out w1 B1)
     go_wp2_with fail
     refine KP.mono ?_
     rintro e w2 ⟨g,c,rfl,_,o2,b2⟩
     have B2:=B1.trans (b2.mono B1.size)
     have O2:=hidOwn (o2.mono (base':=w.heap.size) B1.size)
     clear o2 b2
     go_wp2
     go_ret2
     rw[HZ.out]
     exact⟨_,_,_,rfl,by simpa using O2.out,B2⟩
   · have hk1b:(k == 1)=false:=by rw[beq_eq_false_iff_ne];exact hk1
     have HZ:Hid (R=(ps,false)):=by rw[Hid,HDO.out,if_neg hk1,if_pos (by omega)]
     clear HDO HDA
     go_enter Try.func42,Try.ntmps42
     go_wp2_with fail
     refine KA.mono ?_
     rintro e w1 ⟨rfl,b1⟩
     have B1:=B0.trans (b1.mono B0.size)
     have H1:Hid (w1.heap[w.heap.size]? = some (.cells #[.int .i64 k,.string ⟨n.toArray⟩,.string ⟨t.toArray⟩,.string ⟨d.toArray⟩] 40 (0,0))):=(b1.block _ (lt_of_block H0.out)).trans H0.out
     obtain⟨q0,q1,q2,q3,_⟩:=four_cells H1.out
     clear p0 p1 p2 p3 KA b1
     have L1:Hid (Below w1.heap.size w1 (w1.alloc (.cells #[] 84))):=(Below.refl _ _).alloc (Nat.le_refl _) _
     have HF:Hid (∀ i u,(pcells ps)[i]? = some u→(w1.alloc (.cells #[] 84)).cell? ((⟨b,off,none⟩:Addr).add i)=some u):=files_flat (HS.out _ (B1.trans (L1.out.mono B1.size)))
     have HO0:=hidOwn (World.ownsRow_lit (e:=84) (size:=2) w1 #[] 0 (base:=w1.heap.size) (Nat.le_refl _) (Nat.zero_le _) rfl)
     go_wp2_with (at_builtin;refine wpList_append_own _ rfl _ _ 28 rfl w1.heap.size 84 i0 (.agg #[.string ⟨#[]⟩,.string ⟨#[]⟩]) 2 32 Try.underlying28 hi0 hz0 hz1 hz2 rfl (by decide) (.slice (some ⟨w1.heap.size,0,none⟩) 0 0) 0 _ rfl HO0.out ⟨b,off,none⟩ ps.length cp (pcells ps) rfl (pcells_length ps) HF.out (files_one ps) (by unfold maxLen;omega) (by omega) (by simp <;> omega) ?_;intro v3 w3 hown3 hgrow3 hnil3;obtain⟨a3,m3,c3,rfl⟩:=own_slice2 hown3)
     have B3:Below w.heap.size w w3:=B1.trans ((L1.out.grown hgrow3 (by simp) (fun q hq=>by simp[Value.ownBlock] at hq;omega)).mono B1.size)
     have HO3:Hid (w3.ownsRow w.heap.size 84 2 (.slice a3 m3 c3) ps.length (pcells ps)):=by rw[Hid];exact (by simpa using hown3:w3.ownsRow w1.heap.size 84 2 (.slice a3 m3 c3) ps.length (pcells ps)).mono B1.size
     clear hown3 hgrow3 hnil3
     go_wp2
     go_ret2
     rw[HZ.out]
     exact⟨_,_,_,rfl,HO3.out,B3⟩
 · have hj0 : (0 : Int) ≤ (j : Int) := by omega
   have hj1:(j:Int)<(ps.length:Int):=by omega
   have hjn:¬ (j:Int)<0:=by omega
   have HV:Hid (datF ps n=valAt ps j):=by rw[Hid,HDA.out,if_pos hj0];simp
   have HCELL:Hid (∀ W,Below w.heap.size w W→W.cell? ⟨b,off+j*2+1,none⟩=some (.string ⟨(valAt ps j).toArray⟩)):=fun W hW=>by
    rcases HS.out W hW with h | ⟨b',off',he,hc⟩
    · rw[h] at hj;simp at hj
    · cases he
      rw[valAt_lt ps j hj];exact (hc j hj).2
   have hvl:(valAt ps j).length≤8388608:=by rw[valAt_lt ps j hj];exact (HM.out _ (List.getElem_mem hj)).2
   rw[HV.out] at HDO
   obtain⟨v,hv⟩:∃ v,v=valAt ps j:=⟨_,rfl⟩
   rw[←hv] at HDO HCELL hvl
   clear HDA HV hv
   by_cases hk1:k=1
   · have HZ:Hid (R=(putL ps n (v ++ d),true)):=by rw[Hid,HDO.out,if_pos hk1]
     clear HDO
     subst hk1
     go_enter Try.func42,Try.ntmps42
     go_wp2_with fail
     refine KA.mono ?_
     rintro e w1 ⟨rfl,b1⟩
     have B1:=B0.trans (b1.mono B0.size)
     have H1:Hid (w1.heap[w.heap.size]? = some (.cells #[.int .i64 1,.string ⟨n.toArray⟩,.string ⟨t.toArray⟩,.string ⟨d.toArray⟩] 40 (0,0))):=(b1.block _ (lt_of_block H0.out)).trans H0.out
     obtain⟨q0,q1,q2,q3,_⟩:=four_cells H1.out
     clear p0 p1 p2 p3 KA b1
     have c1:=HCELL.out w1 B1
     have hcat:=cat_bytes v d
     have KP:=HPUT.out (some ⟨b,off,none⟩) cp ps n (v ++ d) w1 (by omega) (fun p hp=>⟨(HM.out p hp).1,by have:=(HM.out p hp).2;omega⟩) hn (by rw[List.length_append];omega) (HS.out w1 B1)
     go_wp2_with fail
     refine KP.mono ?_
     rintro e w2 ⟨g,c,rfl,_,o2,b2⟩
     have B2:=B1.trans (b2.mono B1.size)
     have O2:=hidOwn (o2.mono (base':=w.heap.size) B1.size)
     clear o2 b2
     go_wp2
     go_ret2
     rw[HZ.out]
     exact⟨_,_,_,rfl,O2.out,B2⟩
   · have hk1b : (k == 1) = false := by rw [beq_eq_false_iff_ne]; exact hk1
     have HZ:Hid (R=(if k=2 then putL (cutF ps n) t v else cutF ps n,true)):=by rw[Hid,HDO.out,if_neg hk1,if_neg hjn]
     clear HDO
     go_enter Try.func42,Try.ntmps42
     go_wp2_with fail
     refine KA.mono ?_
     rintro e w1 ⟨rfl,b1⟩
     have B1:=B0.trans (b1.mono B0.size)
     have H1:Hid (w1.heap[w.heap.size]? = some (.cells #[.int .i64 k,.string ⟨n.toArray⟩,.string ⟨t.toArray⟩,.string ⟨d.toArray⟩] 40 (0,0))):=(b1.block _ (lt_of_block H0.out)).trans H0.out
     obtain⟨q0,q1,q2,q3,_⟩:=four_cells H1.out
     have KC:=HCUT.out w1 B1
     clear p0 p1 p2 p3 KA b1
     go_wp2_with fail
     refine KC.mono ?_
     rintro e w2 ⟨g,c,rfl,o2,b2⟩
     have B2:=B1.trans (b2.mono B1.size)
     have O2:=hidOwn (o2.mono (base':=w.heap.size) B1.size)
     have H2:Hid (w2.heap[w.heap.size]? = some (.cells #[.int .i64 k,.string ⟨n.toArray⟩,.string ⟨t.toArray⟩,.string ⟨d.toArray⟩] 40 (0,0))):=(b2.block _ (lt_of_block H1.out)).trans H1.out
     obtain⟨r0,r1,r2,r3,_⟩:=four_cells H2.out
     have c2:=HCELL.out w2 B2
     clear q0 q1 q2 q3 KC o2 b2
     by_cases hk2:k=2
     · rw [if_pos hk2] at HZ
       subst hk2
       have hcl:(cutF ps n).length≤1000:=by have:=cutF_le ps n ps.length;rw[List.take_length] at this;omega
       have KP:=HPUT.out (some ⟨g,0,none⟩) c (cutF ps n) t v w2.drew hcl (fun p hp=>by
        have hp':p∈ps:=(List.mem_filter.1 hp).1
        exact⟨(HM.out p hp').1,by have:=(HM.out p hp').2;omega⟩) ht (by omega) (isPairs_own O2.out).2.2
       have hSz:w.heap.size≤w2.heap.size:=B2.size
       go_wp2_with fail
       go_region_held3 (fun w'=>w'.cell? ⟨w.heap.size,2,none⟩=some (.string ⟨t.toArray⟩)∧w'.cell? ⟨b,off+j*2+1,none⟩=some (.string ⟨v.toArray⟩))
        (first | (exact⟨by assumption,by assumption⟩) | go_keep)
        ((go_at_call 76
          refine KP.mono ?_
          rintro e w3 ⟨g3,c3,rfl,_,o3,b3⟩
          have b3':Below w2.heap.size w2 w3:=⟨b3.os,b3.tape,b3.output,b3.size,b3.block⟩
          have d0:=(four_cells ((b3'.block _ (lt_of_block H2.out)).trans H2.out)).2.2.1
          have B3:=B2.trans (b3'.mono B2.size)
          have d1:=HCELL.out w3 B3
          have O3:=hidOwn (o3.mono (base':=w.heap.size) B2.size)
          clear o3 b3 b3'))
       all_goals
        go_wp2
        go_ret2
        rw[HZ.out]
        exact⟨_,_,_,rfl,O3.out,B3⟩
     · rw[if_neg hk2] at HZ
       have hk2b:(k == 2)=false:=by rw[beq_eq_false_iff_ne];exact hk2
       go_wp2
       go_ret2
       rw[HZ.out]
       exact⟨_,_,_,rfl,O2.out,B2⟩
end Go.Proofs.Ytlllkdioojjaeaa
