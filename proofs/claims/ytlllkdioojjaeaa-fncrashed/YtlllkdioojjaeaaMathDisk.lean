/-
 Disks on lists: files by names, ops, whether they are right; what ops do.
-/
import Derived.Test.YtlllkdioojjaeaaFileS
import Derived.Test.YtlllkdioojjaeaaStrsX
import Derived.Test.YtlllkdioojjaeaaPairOk
namespace Go.Proofs.Ytlllkdioojjaeaa
open Go.RowKit
set_option linter.unusedVariables false
def nameOk (s:List UInt8):Bool:=decide (1≤s.length) && decide (s.length≤100)
def fileAt (fs:List PairL) (j:Nat):Bool:=nameOk (keyAt fs j) && (decide (j=0) || Op.bytesLess (keyAt fs (j - 1)) (keyAt fs j))
def dataN (fs:List PairL):Nat:=(fs.map fun p=>p.2.length).sum
def filesOk (fs:List PairL):Bool:=decide (fs.length≤60) && ((List.range fs.length).all (fileAt fs) && decide (dataN fs≤200000))
theorem filesOk_many (fs:List PairL) (h:¬ fs.length≤60):filesOk fs=false:=by simp[filesOk,h]
theorem filesOk_bad (fs:List PairL) (j:Nat) (hj:j<fs.length) (h:fileAt fs j=false):filesOk fs=false:=by
 have:(List.range fs.length).all (fileAt fs)=false:=by
  rw[List.all_eq_false]
  exact⟨j,List.mem_range.2 hj,by simp[h]⟩
 simp[filesOk,this]
theorem filesOk_end (fs:List PairL) (h:fs.length≤60) (ha:∀ j,j<fs.length→fileAt fs j=true):filesOk fs=decide (dataN fs≤200000):=by
 have:(List.range fs.length).all (fileAt fs)=true:=List.all_eq_true.2 fun j hj=>ha j (List.mem_range.1 hj)
 simp[filesOk,h,this]
theorem dataN_take (fs:List PairL) (j:Nat) (h:j<fs.length):dataN (fs.take (j+1))=dataN (fs.take j)+fs[j].2.length:=by
 rw[List.take_succ_eq_append_getElem h,dataN,dataN,List.map_append,List.sum_append];simp
theorem dataN_le (fs:List PairL) (M:Nat) (h:∀ p∈fs,p.2.length≤M):dataN fs≤fs.length*M:=by
 induction fs with
 | nil=>simp[dataN]
 | cons p r ih =>
   have:=ih fun q hq=>h q (List.mem_cons_of_mem _ hq)
   have h1:=h p (by simp)
   simp only[dataN,List.map_cons,List.sum_cons,List.length_cons] at this ⊢
   rw[Nat.add_mul]
   omega
structure DOpL where
 k:Int
 n:List UInt8
 t:List UInt8
 d:List UInt8
def formOk (o:DOpL):Bool:=decide (1≤o.k∧o.k≤3) && (nameOk o.n && (if o.k=2 then nameOk o.t && o.d.isEmpty else o.t.isEmpty && (decide (o.k=1) || o.d.isEmpty)))
def placeF (fs:List PairL) (n:List UInt8):Nat:=fs.findIdx (fun p=>p.1 == n)
theorem bl_total:∀ z x:List UInt8,Op.bytesLess z x=false→Op.bytesLess x z=true∨x=z
 | [],[],_=>.inr rfl
 | _ :: _,[],_=>.inl (by simp[Op.bytesLess])
 | [],_ :: _,h=>by simp[Op.bytesLess] at h
 | a :: z, b :: x, h => by
   simp only[Op.bytesLess,Bool.or_eq_false_iff,decide_eq_false_iff_not,Bool.and_eq_false_imp,beq_iff_eq] at h
   obtain⟨h1,h2⟩:=h
   simp only[Op.bytesLess,Bool.or_eq_true,decide_eq_true_eq,Bool.and_eq_true,beq_iff_eq,List.cons.injEq]
   by_cases e:a=b
   · subst e
     rcases bl_total z x (h2 rfl) with h | h
     · exact .inl (.inr ⟨rfl,h⟩)
     · exact .inr ⟨rfl,h⟩
   · have:b<a:=by
      rcases UInt8.lt_or_lt_of_ne e with h | h
      · exact absurd h h1
      · exact h
     exact .inl (.inl this)
theorem bl_asym:∀ z x:List UInt8,Op.bytesLess z x=true→Op.bytesLess x z=false∧(x == z)=false
 | [],[],h=>by simp[Op.bytesLess] at h
 | _ :: _,[],h=>by simp[Op.bytesLess] at h
 | [],_ :: _,_=>by simp[Op.bytesLess]
 | a :: z, b :: x, h => by
   simp only[Op.bytesLess,Bool.or_eq_true,decide_eq_true_eq,Bool.and_eq_true,beq_iff_eq] at h
   rcases h with h | ⟨rfl,h⟩
   · have h1:¬ b<a:=fun h'=>UInt8.lt_irrefl _ (UInt8.lt_trans h h')
     have h2:¬ b=a:=fun e=>by rw[e] at h;exact UInt8.lt_irrefl _ h
     simp[Op.bytesLess,h1,h2]
   · have:=bl_asym z x h
     simp only[beq_eq_false_iff_ne,ne_eq] at this
     simp[Op.bytesLess,this.1,this.2,UInt8.lt_irrefl]
end Go.Proofs.Ytlllkdioojjaeaa
