/-
 Texts that are laid as one: MathFm, MathDl.
-/
import Derived.Test.YtlllkdioojjaeaaSDos
import Derived.Test.YtlllkdioojjaeaaDkMath
namespace Go.Proofs.Ytlllkdioojjaeaa
open Go.RowKit
set_option linter.unusedVariables false
theorem pfold_true {k v:List UInt8}:∀ (ps L:List PairL),ps.foldl (putStep k v) (L,true)=(L ++ ps.filter (fun x=>decide (x.1≠k)),true)
 | [],L=>by simp
 | p :: ps, L => by
   rw[List.foldl_cons,pstep_less k v L true p (.inl rfl),pfold_true]
   by_cases e:p.1=k
   · rw[if_pos e,List.filter_cons_of_neg (by simpa using e)]
   · rw[if_neg e,List.filter_cons_of_pos (by simpa using e)];simp
theorem pfold_lohi {k v:List UInt8}:∀ (ps L:List PairL),Rise ps→(if (ps.foldl (putStep k v) (L,false)).2=true then (ps.foldl (putStep k v) (L,false)).1 else (ps.foldl (putStep k v) (L,false)).1 ++ [(k,v)])=L ++ loK k ps ++ [(k,v)] ++ hiK k ps
 | [],L,_=>by simp[loK,hiK]
 | p :: ps, L, h => by
   rw[List.foldl_cons]
   by_cases hk:p.1<k
   · have hne:p.1≠k:=fun e=>by rw[e] at hk;exact List.lt_irrefl _ hk
     have hng:¬ k<p.1:=fun e=>List.lt_irrefl _ (List.lt_trans hk e)
     rw[pstep_less k v L false p (.inr ((bless_iff _ _).2 hk)),if_neg hne,pfold_lohi ps (L ++ [p]) (List.pairwise_cons.1 h).2]
     simp[loK,hiK,hk,hng]
   · have hb:Op.bytesLess p.1 k=false:=by
      cases hq:Op.bytesLess p.1 k with
      | false=>rfl
      | true=>exact absurd ((bless_iff _ _).1 hq) hk
     have hge:=rise_ge h hk
     rw[pstep_put k v L p hb,pfold_true,if_pos rfl,lo_none hge]
     show (if p.1=k then L ++ [(k,v)] else L ++ [(k,v)] ++ [p]) ++ _=_
     rw[filter_ne (fun x hx=>hge x (List.mem_cons_of_mem _ hx))]
     by_cases e:p.1=k
     · rw[if_pos e];simp[hiK,e,List.lt_irrefl]
     · have hg:k<p.1:=by rcases ltK_tri p.1 k with h1 | h1 | h1;exact absurd h1 hk;exact absurd h1 e;exact h1
       rw[if_neg e];simp[hiK,hg]
theorem put_lohi (ps:List PairL) (k v:List UInt8) (h:Rise ps):putL ps k v=loK k ps ++ [(k,v)] ++ hiK k ps:=by
 have:=pfold_lohi (k:=k) (v:=v) ps [] h
 rw[List.nil_append] at this
 exact this
theorem put_memF {ps:List PairL} {k v:List UInt8} (h:Rise ps) (x:PairL):x∈putL ps k v↔(x∈ps∧x.1≠k)∨x=(k,v):=by
 have h2:x∈ps.filter (fun x=>decide (x.1≠k))↔x∈loK k ps ++ hiK k ps:=by rw[ne_lohi ps h]
 rw[put_lohi ps k v h]
 simp only[List.mem_append,List.mem_singleton,List.mem_filter,decide_eq_true_eq] at h2 ⊢
 rw[h2]
 constructor
 · rintro ((h | h) | h)
   · exact .inl (.inl h)
   · exact .inr h
   · exact .inl (.inr h)
 · rintro ((h | h) | h)
   · exact .inl (.inl h)
   · exact .inr h
   · exact .inl (.inr h)
theorem rise_putF {ps:List PairL} {k v:List UInt8} (h:Rise ps):Rise (putL ps k v):=by
 rw[put_lohi ps k v h]
 unfold Rise
 rw[List.pairwise_append,List.pairwise_append]
 refine⟨⟨h.sublist List.filter_sublist,List.pairwise_singleton _ _,fun a ha b hb=>by rw[List.mem_singleton.1 hb];exact (mem_lo ha).2⟩,h.sublist List.filter_sublist,fun a ha b hb=>?_⟩
 rcases List.mem_append.1 ha with ha | ha
 · exact List.lt_trans (mem_lo ha).2 (mem_hi hb).2
 · rw[List.mem_singleton.1 ha];exact (mem_hi hb).2
theorem put_lenF {ps:List PairL} {k v:List UInt8} (h:Rise ps):(putL ps k v).length+(if inK k ps=true then 1 else 0)=ps.length+1:=by
 have:=lohi_len (k:=k) ps h
 rw[put_lohi ps k v h]
 simp only[List.length_append,List.length_singleton]
 omega
theorem cutF_ne (ps:List PairL) (k:List UInt8):cutF ps k=ps.filter (fun x=>decide (x.1≠k)):=by
 unfold cutF
 refine List.filter_congr fun x _=>?_
 by_cases e:x.1=k <;> simp[e]
theorem cut_memF {ps:List PairL} {k:List UInt8} (x:PairL):x∈cutF ps k↔x∈ps∧x.1≠k:=by
 rw[cutF_ne,List.mem_filter];simp
theorem rise_cutF {ps:List PairL} {k:List UInt8} (h:Rise ps):Rise (cutF ps k):=h.sublist List.filter_sublist
theorem cut_lenF {ps:List PairL} {k:List UInt8} (h:Rise ps):(cutF ps k).length+(if inK k ps=true then 1 else 0)=ps.length:=by
 have:=lohi_len (k:=k) ps h
 rw[cutF_ne,ne_lohi ps h,List.length_append]
 omega
theorem rise_once {ps:List PairL} (h:Rise ps) {k v u:List UInt8} (h1:(k,v)∈ps) (h2:(k,u)∈ps):v=u:=by
 obtain⟨i,hi,ei⟩:=List.mem_iff_getElem.1 h1
 obtain⟨j,hj,ej⟩:=List.mem_iff_getElem.1 h2
 have hp:=List.pairwise_iff_getElem.1 h
 rcases Nat.lt_trichotomy i j with h9 | h9 | h9
 · have:=hp i j hi hj h9
   rw[ei,ej] at this
   exact absurd this (List.lt_irrefl _)
 · subst h9
   rw[ei] at ej
   cases ej;rfl
 · have:=hp j i hj hi h9
   rw[ei,ej] at this
   exact absurd this (List.lt_irrefl _)
theorem at_in {fs:List PairL} {n v:List UInt8} (h:Rise fs) (hm:(n,v)∈fs):0≤atF fs n∧datF fs n=v:=by
 rcases atF_range fs n with he | ⟨j,hj,he⟩
 · exfalso
   unfold atF at he
   cases hf:fs.findIdx? (fun p=>p.1 == n) with
   | none =>
     rw[List.findIdx?_eq_none_iff] at hf
     have:=hf _ hm
     simp at this
   | some j=>rw[hf] at he;simp at he
 · have h0:0≤atF fs n:=by omega
   refine⟨h0,?_⟩
   rw[datF,if_pos h0,he]
   simp only[Int.toNat_natCast]
   have hk:fs[j].1=n:=by
    unfold atF at he
    cases hf:fs.findIdx? (fun p=>p.1 == n) with
    | none=>rw[hf] at he;simp at he
    | some i =>
      rw[hf] at he
      rw[List.findIdx?_eq_some_iff_getElem] at hf
      have:i=j:=by simp at he;omega
      subst this
      simpa using hf.2.1
   rw[valAt_lt fs j hj]
   have hm2:(n,fs[j].2)∈fs:=by
    have:=List.getElem_mem hj
    rw[←hk];exact this
   exact rise_once h hm2 hm
theorem at_out {fs:List PairL} {n:List UInt8} (hm:∀ v,(n,v) ∉ fs):atF fs n = -1∧datF fs n=[]:=by
 have he : atF fs n = -1 := by
  rcases atF_range fs n with he | ⟨j,hj,he⟩
  · exact he
  · exfalso
    unfold atF at he
    cases hf:fs.findIdx? (fun p=>p.1 == n) with
    | none=>rw[hf] at he;simp at he
    | some i =>
      rw[List.findIdx?_eq_some_iff_getElem] at hf
      obtain⟨hi,h2,_⟩:=hf
      have h3:fs[i].1=n:=by simpa using h2
      exact hm fs[i].2 (by rw[←h3];exact List.getElem_mem hi)
 exact⟨he,by rw[datF,he,if_neg (by omega)]⟩
theorem rise_do {fs:List PairL} (h:Rise fs) (o:DOpL):Rise (doF fs o).1:=by
 unfold doF
 split
 · exact rise_putF h
 · split
   · exact h
   · simp only
     split
     · exact rise_putF (rise_cutF h)
     · exact rise_cutF h
theorem names_do {fs : List PairL} (h : Rise fs) (o : DOpL) (hf : formOk o = true) (hn : ∀ p ∈ fs, nameOk p.1 = true) : ∀ p ∈ (doF fs o).1, nameOk p.1 = true := by
 have hon:nameOk o.n=true:=by simp only[formOk,Bool.and_eq_true] at hf;exact hf.2.1
 unfold doF
 split
 · intro p hp
   rcases (put_memF h p).1 hp with h1 | h1
   · exact hn p h1.1
   · rw[h1];exact hon
 · split
   · exact hn
   · simp only
     split
     · rename_i hk
       have hot:nameOk o.t=true:=by
        simp only[formOk,Bool.and_eq_true] at hf
        rw[if_pos hk] at hf
        exact (Bool.and_eq_true _ _ ▸ hf.2.2).1
       intro p hp
       rcases (put_memF (rise_cutF h) p).1 hp with h1 | h1
       · exact hn p ((cut_memF p).1 h1.1).1
       · rw[h1];exact hot
     · intro p hp
       exact hn p ((cut_memF p).1 hp).1
theorem rise_files {l:List PairL} (h:filesOk l=true):Rise l∧(∀ p∈l,nameOk p.1=true)∧l.length≤60∧dataN l≤200000:=by
 simp only[filesOk,Bool.and_eq_true,decide_eq_true_eq,List.all_eq_true,List.mem_range] at h
 obtain⟨h1,h2,h3⟩:=h
 have hs:∀ i (hi:i+1<l.length),l[i].1<l[i+1].1:=fun i hi=>by
  have:=h2 (i+1) hi
  simp only[fileAt,Bool.and_eq_true,Bool.or_eq_true,decide_eq_true_eq] at this
  rcases this.2 with h0 | h0
  · omega
  · have h1:Op.bytesLess (keyAt l i) (keyAt l (i+1))=true:=by simpa using h0
    rw[keyAt_lt l i (by omega),keyAt_lt l (i+1) hi,bless_iff] at h1
    exact h1
 have hlt:∀ (k i:Nat) (hi:i+1+k<l.length),(l[i]'(by omega)).1<l[i+1+k].1:=by
  intro k
  induction k with
  | zero=>intro i hi;exact hs i hi
  | succ k ih=>intro i hi;exact List.lt_trans (ih i (by omega)) (hs (i+1+k) hi)
 refine⟨List.pairwise_iff_getElem.2 fun i j hi hj hij=>?_,fun p hp=>?_,h1,h3⟩
 · have:=hlt (j - i - 1) i (by omega)
   have e:i+1+(j - i - 1)=j:=by omega
   simp only[e] at this
   exact this
 · obtain⟨j,hj,rfl⟩:=List.mem_iff_getElem.1 hp
   have:=h2 j hj
   simp only[fileAt,Bool.and_eq_true] at this
   rw[keyAt_lt l j hj] at this
   exact this.1
theorem filesOk_fit {l:List PairL} (h:Rise l) (hn:∀ p∈l,nameOk p.1=true):filesOk l=(decide (l.length≤60) && decide (dataN l≤200000)):=by
 have:(List.range l.length).all (fileAt l)=true:=by
  rw[List.all_eq_true]
  intro j hj
  have hj:=List.mem_range.1 hj
  simp only[fileAt,Bool.and_eq_true,Bool.or_eq_true,decide_eq_true_eq]
  refine⟨by rw[keyAt_lt l j hj];exact hn _ (List.getElem_mem hj),?_⟩
  by_cases h0:j=0
  · exact .inl h0
  · refine .inr ?_
    rw[keyAt_lt l j hj,keyAt_lt l (j - 1) (by omega),bless_iff]
    exact List.pairwise_iff_getElem.1 h (j - 1) j (by omega) hj (by omega)
 rw[filesOk,this,Bool.true_and]
theorem data_perm {a b:List PairL} (h:a.Perm b):dataN a=dataN b:=(h.map _).sum_nat
theorem datF_le {fs:List PairL} {M:Nat} (h:∀ p∈fs,p.2.length≤M) (n:List UInt8):(datF fs n).length≤M:=by
 unfold datF
 rcases atF_range fs n with he | ⟨j,hj,he⟩
 · rw[he,if_neg (by omega)];simp
 · rw[he,if_pos (by omega)]
   simp only[Int.toNat_natCast]
   rw[valAt_lt fs j hj]
   exact h _ (List.getElem_mem hj)
theorem do_small {fs:List PairL} (hr:Rise fs) (o:DOpL) {A M:Nat} (h:∀ p∈fs,p.1.length≤A∧p.2.length≤M) (hn:o.n.length≤A) (ht:o.t.length≤A):∀ p∈(doF fs o).1,p.1.length≤A∧p.2.length≤M+o.d.length:=by
 have hd:=datF_le (fun p hp=>(h p hp).2) o.n
 unfold doF
 split
 · intro p hp
   rcases (put_memF hr p).1 hp with h1 | h1
   · have:=h p h1.1;exact⟨this.1,by omega⟩
   · rw[h1];exact⟨hn,by simp only[List.length_append];omega⟩
 · split
   · intro p hp
     have:=h p hp;exact⟨this.1,by omega⟩
   · simp only
     split
     · intro p hp
       rcases (put_memF (rise_cutF hr) p).1 hp with h1 | h1
       · have:=h p ((cut_memF p).1 h1.1).1;exact⟨this.1,by omega⟩
       · rw[h1];exact⟨ht,by simp only;omega⟩
     · intro p hp
       have:=h p ((cut_memF p).1 hp).1;exact⟨this.1,by omega⟩
theorem do_len {fs:List PairL} (hr:Rise fs) (o:DOpL):(doF fs o).1.length≤fs.length+1:=by
 unfold doF
 split
 · have:=put_lenF (k:=o.n) (v:=datF fs o.n ++ o.d) hr;simp only;omega
 · split
   · simp only;omega
   · simp only
     have hc:=cut_lenF (k:=o.n) hr
     split
     · have:=put_lenF (k:=o.t) (v:=datF fs o.n) (rise_cutF (k:=o.n) hr);omega
     · omega
theorem files_small {fs:List PairL} (h:filesOk fs=true):∀ p∈fs,p.1.length≤100∧p.2.length≤200000:=by
 obtain⟨_,h2,_,h4⟩:=rise_files h
 intro p hp
 have:=h2 p hp
 simp only[nameOk,Bool.and_eq_true,decide_eq_true_eq] at this
 refine⟨this.2,?_⟩
 obtain⟨j,hj,rfl⟩:=List.getElem_of_mem hp
 have h5:dataN (fs.take (j+1))≤dataN fs:=by
  conv=>rhs;rw[←List.take_append_drop (j+1) fs]
  simp only[dataN,List.map_append,List.sum_append];omega
 rw[dataN_take fs j hj] at h5
 omega
theorem cutF_out {fs:List PairL} {n:List UInt8} (h:inK n fs=false):cutF fs n=fs:=by
 unfold cutF
 rw[List.filter_eq_self]
 intro p hp
 have:p.1≠n:=fun e=>by
  have:inK n fs=true:=(inK_iff _ _).2 ⟨p.2,by rw[←e];exact hp⟩
  rw[h] at this;cases this
 simpa using this
theorem inK_neg {fs:List PairL} {n:List UInt8} (hr:Rise fs):(atF fs n<0↔inK n fs=false):=by
 cases hi:inK n fs with
 | true =>
   obtain⟨u,hu⟩:=(inK_iff n fs).1 hi
   have:=(at_in hr hu).1
   constructor
   · intro h;omega
   · intro h;cases h
 | false =>
   have:=(at_out (fs:=fs) (n:=n) (fun v hv=>by
    have h9:inK n fs=true:=(inK_iff _ _).2 ⟨v,hv⟩
    rw[hi] at h9;cases h9)).1
   constructor
   · intro _;rfl
   · intro _;omega
theorem do_app (fs:List PairL) (n t d:List UInt8):doF fs ⟨1,n,t,d⟩=(putL fs n (datF fs n ++ d),true):=by simp[doF]
theorem do_ren {fs:List PairL} (hr:Rise fs) (n t d:List UInt8):doF fs ⟨2,n,t,d⟩=(if inK n fs=true then putL (cutF fs n) t (datF fs n) else fs,inK n fs):=by
 cases hi:inK n fs with
 | false=>simp[doF,(inK_neg hr).2 hi]
 | true =>
   have:¬ atF fs n<0:=fun h=>by rw[(inK_neg hr).1 h] at hi;cases hi
   simp[doF,this]
theorem do_rem {fs:List PairL} (hr:Rise fs) (n t d:List UInt8):doF fs ⟨3,n,t,d⟩=(cutF fs n,inK n fs):=by
 cases hi:inK n fs with
 | false=>simp[doF,(inK_neg hr).2 hi,cutF_out hi]
 | true =>
   have:¬ atF fs n<0:=fun h=>by rw[(inK_neg hr).1 h] at hi;cases hi
   simp[doF,this]
theorem dataN_le2 (fs:List PairL) (A M:Nat) (h:fs.length≤A) (hm:∀ p∈fs,p.2.length≤M):dataN fs≤A*M:=Nat.le_trans (dataN_le fs M hm) (Nat.mul_le_mul_right _ h)
theorem goes_fit {fs:List PairL} (h:filesOk fs=true) (o:DOpL) (hf:formOk o=true):opGoes fs o=((doF fs o).2 && (decide ((doF fs o).1.length≤60) && decide (dataN (doF fs o).1≤200000))):=by
 obtain⟨h1,h2,_,_⟩:=rise_files h
 rw[opGoes,hf,Bool.true_and,filesOk_fit (rise_do h1 o) (names_do h1 o hf h2)]
theorem disk_no1 {live safe:List PairL} {ops:List DOpL} (h:filesOk live=false):diskOk live safe ops=false:=by simp[diskOk,h]
theorem disk_no2 {live safe:List PairL} {ops:List DOpL} (h:filesOk safe=false):diskOk live safe ops=false:=by simp[diskOk,h]
theorem disk_no3 {live safe:List PairL} {ops:List DOpL} (h:¬ ops.length≤200):diskOk live safe ops=false:=by simp[diskOk,h]
theorem disk_no4 {live safe:List PairL} {ops:List DOpL} {j:Nat} (h:runF safe (ops.take j)=none):diskOk live safe ops=false:=by simp[diskOk,runF_stop ops safe j h]
theorem disk_end {live safe fs:List PairL} {ops:List DOpL} (h1:filesOk live=true) (h2:filesOk safe=true) (h3:ops.length≤200) (h4:runF safe ops=some fs):diskOk live safe ops=decide (fs=live):=by simp[diskOk,h1,h2,h3,h4]
theorem run_stop {safe fs:List PairL} {ops:List DOpL} {j:Nat} (hj:j<ops.length) (hr:runF safe (ops.take j)=some fs) (h:opGoes fs ops[j]=false):runF safe (ops.take (j+1))=none:=by
 rw[runF_step ops safe fs j hj hr,h];rfl
theorem run_more {safe fs:List PairL} {ops:List DOpL} {j:Nat} (hj:j<ops.length) (hr:runF safe (ops.take j)=some fs) (h:opGoes fs ops[j]=true):runF safe (ops.take (j+1))=some (doF fs ops[j]).1∧filesOk (doF fs ops[j]).1=true:=by
 refine⟨by rw[runF_step ops safe fs j hj hr,h];rfl,?_⟩
 simp only[opGoes,Bool.and_eq_true] at h
 exact h.2.2
end Go.Proofs.Ytlllkdioojjaeaa
