import Derived.Test.YtahocpjieffbaaaGreatDoorMath2
import Derived.Test.YtahocpjieffbaaaGreatDoorMathAll
import Derived.Deep.QuietTactic
import Derived.BigQuiet
namespace Go.Proofs.YtahocpjieffbaaaGreatDoor
open Go.RowKit
set_option linter.unusedVariables false
theorem first_ix (b:UInt8) (r:List UInt8) (x:Int) (h:(b.toNat:Int)=x) (W:World) :
 (Instr.index 9 (.string ⟨(b :: r).toArray⟩) (.int .i64 0)).run Tryz.prog W=.ok (.int .u8 x) W:=by
 rw[ix_at (P:=Tryz.prog) Tryz.underlying9 (b :: r) 0 0 rfl (by simp) W]
 simp[h]
theorem first_from (b:UInt8) (r:List UInt8) (W:World) :
 (Instr.slice 9 (.string ⟨(b :: r).toArray⟩) (some (.int .i64 1)) none none).run Tryz.prog W=.ok (.string ⟨r.toArray⟩) W:=by
 rw[sl_from (P:=Tryz.prog) Tryz.underlying9 (b :: r) 1 1 rfl (by simp) W]
 simp
theorem lone_not (n:Nat) (r:List UInt8) (h:n≠1):lone n r=false:=by
 cases r <;> simp[lone,h]
theorem lenOf_short (n:Nat) (r:List UInt8) (h:n≤55):lenOf n r=some (n,r):=by rw[lenOf,if_pos h]
theorem lenOf_none (m:Nat) (r:List UInt8) (hm:1≤m) (h:r.length<m∨3<m∨r.head? = some 0∨valB (r.take m)≤55):lenOf (55+m) r=none:=by
 rw[lenOf,if_neg (by omega),show 55+m - 55=m from by omega,if_pos h]
theorem lenOf_some (m:Nat) (r:List UInt8) (hm:1≤m) (h:¬ (r.length<m∨3<m∨r.head? = some 0∨valB (r.take m)≤55)):lenOf (55+m) r=some (valB (r.take m),r.drop m):=by
 rw[lenOf,if_neg (by omega),show 55+m - 55=m from by omega,if_neg h]
def tell (k:Nat) (text:Bool):Option (Nat × List UInt8)→Option (Nat × List UInt8 × List UInt8)
 | none=>none
 | some (n,r')=>if r'.length<n∨60000<n∨(text && lone n r')=true then none else some (k,r'.take n,r'.drop n)
theorem takeL_text' (b:UInt8) (r:List UInt8) (n:Nat) (h:b.toNat=128+n) (hn:n<64):takeL (b :: r)=tell 1 true (lenOf n r):=by
 rw[takeL_text b r (by omega) (by omega),show b.toNat - 128=n from by omega]
 cases lenOf n r with
 | none=>rfl
 | some x=>obtain⟨n',r'⟩:=x;simp[tell]
theorem takeL_list' (b:UInt8) (r:List UInt8) (n:Nat) (h:b.toNat=192+n):takeL (b :: r)=tell 2 false (lenOf n r):=by
 rw[takeL_list b r (by omega),show b.toNat - 192=n from by omega]
 cases lenOf n r with
 | none=>rfl
 | some x=>obtain⟨n',r'⟩:=x;simp[tell]
theorem tell_some (k:Nat) (text:Bool) (n:Nat) (r:List UInt8):tell k text (some (n,r))=if r.length<n∨60000<n∨(text && lone n r)=true then none else some (k,r.take n,r.drop n):=rfl
theorem info9:(Tryz.prog.info? 9).map (fun i=>(i.zero,i.size,i.bytes))=some (some (.string ⟨#[]⟩),1,16):=by kernel_rfl
end Go.Proofs.YtahocpjieffbaaaGreatDoor
