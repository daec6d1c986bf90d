/-
 Disks on lists: what an op makes of files stays small; what each kind of op does.
-/
import Derived.Test.YtlllkdioojjaeaaMathFm
import Derived.Test.YtlllkdioojjaeaaMathDo
namespace Go.Proofs.Ytlllkdioojjaeaa
open Go.RowKit
set_option linter.unusedVariables false
theorem datF_le {fs:List PairL} {M:Nat} (h:∀ p∈fs,p.2.length≤M) (n:List UInt8):(datF fs n).length≤M:=by
 unfold datF
 rcases atF_range fs n with he | ⟨j,hj,he⟩
 · rw[he,if_neg (by omega)];simp
 · rw[he,if_pos (by omega)]
   simp only[Int.toNat_natCast]
   rw[valAt_lt fs j hj]
   exact h _ (List.getElem_mem hj)
theorem do_small {fs:List PairL} (hr:Rise fs) (o:DOpL) {A M:Nat} (h:∀ p∈fs,p.1.length≤A∧p.2.length≤M) (hn:o.n.length≤A) (ht:o.t.length≤A):∀ p∈(doF fs o).1,p.1.length≤A∧p.2.length≤M+o.d.length:=by
 have hd:=datF_le (fun p hp=>(h p hp).2) o.n
 unfold doF
 split
 · intro p hp
   rcases (put_memF hr p).1 hp with h1 | h1
   · have:=h p h1.1;exact⟨this.1,by omega⟩
   · rw[h1];exact⟨hn,by simp only[List.length_append];omega⟩
 · split
   · intro p hp
     have:=h p hp;exact⟨this.1,by omega⟩
   · simp only
     split
     · intro p hp
       rcases (put_memF (rise_cutF hr) p).1 hp with h1 | h1
       · have:=h p ((cut_memF p).1 h1.1).1;exact⟨this.1,by omega⟩
       · rw[h1];exact⟨ht,by simp only;omega⟩
     · intro p hp
       have:=h p ((cut_memF p).1 hp).1;exact⟨this.1,by omega⟩
theorem do_len {fs:List PairL} (hr:Rise fs) (o:DOpL):(doF fs o).1.length≤fs.length+1:=by
 unfold doF
 split
 · have:=put_lenF (k:=o.n) (v:=datF fs o.n ++ o.d) hr;simp only;omega
 · split
   · simp only;omega
   · simp only
     have hc:=cut_lenF (k:=o.n) hr
     split
     · have:=put_lenF (k:=o.t) (v:=datF fs o.n) (rise_cutF (k:=o.n) hr);omega
     · omega
theorem files_small {fs:List PairL} (h:filesOk fs=true):∀ p∈fs,p.1.length≤100∧p.2.length≤200000:=by
 obtain⟨_,h2,_,h4⟩:=rise_files h
 intro p hp
 have:=h2 p hp
 simp only[nameOk,Bool.and_eq_true,decide_eq_true_eq] at this
 refine⟨this.2,?_⟩
 obtain⟨j,hj,rfl⟩:=List.getElem_of_mem hp
 have h5:dataN (fs.take (j+1))≤dataN fs:=by
  conv=>rhs;rw[←List.take_append_drop (j+1) fs]
  simp only[dataN,List.map_append,List.sum_append];omega
 rw[dataN_take fs j hj] at h5
 omega
theorem cutF_out {fs:List PairL} {n:List UInt8} (h:inK n fs=false):cutF fs n=fs:=by
 unfold cutF
 rw[List.filter_eq_self]
 intro p hp
 have:p.1≠n:=fun e=>by
  have:inK n fs=true:=(inK_iff _ _).2 ⟨p.2,by rw[←e];exact hp⟩
  rw[h] at this;cases this
 simpa using this
theorem inK_neg {fs:List PairL} {n:List UInt8} (hr:Rise fs):(atF fs n<0↔inK n fs=false):=by
 cases hi:inK n fs with
 | true =>
   obtain⟨u,hu⟩:=(inK_iff n fs).1 hi
   have:=(at_in hr hu).1
   constructor
   · intro h;omega
   · intro h;cases h
 | false =>
   have:=(at_out (fs:=fs) (n:=n) (fun v hv=>by
    have h9:inK n fs=true:=(inK_iff _ _).2 ⟨v,hv⟩
    rw[hi] at h9;cases h9)).1
   constructor
   · intro _;rfl
   · intro _;omega
theorem do_app (fs:List PairL) (n t d:List UInt8):doF fs ⟨1,n,t,d⟩=(putL fs n (datF fs n ++ d),true):=by simp[doF]
theorem do_ren {fs:List PairL} (hr:Rise fs) (n t d:List UInt8):doF fs ⟨2,n,t,d⟩=(if inK n fs=true then putL (cutF fs n) t (datF fs n) else fs,inK n fs):=by
 cases hi:inK n fs with
 | false=>simp[doF,(inK_neg hr).2 hi]
 | true =>
   have:¬ atF fs n<0:=fun h=>by rw[(inK_neg hr).1 h] at hi;cases hi
   simp[doF,this]
theorem do_rem {fs:List PairL} (hr:Rise fs) (n t d:List UInt8):doF fs ⟨3,n,t,d⟩=(cutF fs n,inK n fs):=by
 cases hi:inK n fs with
 | false=>simp[doF,(inK_neg hr).2 hi,cutF_out hi]
 | true =>
   have:¬ atF fs n<0:=fun h=>by rw[(inK_neg hr).1 h] at hi;cases hi
   simp[doF,this]
theorem dataN_le2 (fs:List PairL) (A M:Nat) (h:fs.length≤A) (hm:∀ p∈fs,p.2.length≤M):dataN fs≤A*M:=Nat.le_trans (dataN_le fs M hm) (Nat.mul_le_mul_right _ h)
theorem goes_fit {fs:List PairL} (h:filesOk fs=true) (o:DOpL) (hf:formOk o=true):opGoes fs o=((doF fs o).2 && (decide ((doF fs o).1.length≤60) && decide (dataN (doF fs o).1≤200000))):=by
 obtain⟨h1,h2,_,_⟩:=rise_files h
 rw[opGoes,hf,Bool.true_and,filesOk_fit (rise_do h1 o) (names_do h1 o hf h2)]
theorem disk_no1 {live safe:List PairL} {ops:List DOpL} (h:filesOk live=false):diskOk live safe ops=false:=by simp[diskOk,h]
theorem disk_no2 {live safe:List PairL} {ops:List DOpL} (h:filesOk safe=false):diskOk live safe ops=false:=by simp[diskOk,h]
theorem disk_no3 {live safe:List PairL} {ops:List DOpL} (h:¬ ops.length≤200):diskOk live safe ops=false:=by simp[diskOk,h]
theorem disk_no4 {live safe:List PairL} {ops:List DOpL} {j:Nat} (h:runF safe (ops.take j)=none):diskOk live safe ops=false:=by simp[diskOk,runF_stop ops safe j h]
theorem disk_end {live safe fs:List PairL} {ops:List DOpL} (h1:filesOk live=true) (h2:filesOk safe=true) (h3:ops.length≤200) (h4:runF safe ops=some fs):diskOk live safe ops=decide (fs=live):=by simp[diskOk,h1,h2,h3,h4]
theorem run_stop {safe fs:List PairL} {ops:List DOpL} {j:Nat} (hj:j<ops.length) (hr:runF safe (ops.take j)=some fs) (h:opGoes fs ops[j]=false):runF safe (ops.take (j+1))=none:=by
 rw[runF_step ops safe fs j hj hr,h];rfl
theorem run_more {safe fs:List PairL} {ops:List DOpL} {j:Nat} (hj:j<ops.length) (hr:runF safe (ops.take j)=some fs) (h:opGoes fs ops[j]=true):runF safe (ops.take (j+1))=some (doF fs ops[j]).1∧filesOk (doF fs ops[j]).1=true:=by
 refine⟨by rw[runF_step ops safe fs j hj hr,h];rfl,?_⟩
 simp only[opGoes,Bool.and_eq_true] at h
 exact h.2.2
end Go.Proofs.Ytlllkdioojjaeaa
