/-
 Contracts: an op that is right, of the program and of the model (written by mkbok.py).
-/
import Derived.Test.YtbpgpmchnjbclaaDoorMathOp
import Derived.Test.YtbpgpmchnjbclaaDoorMath2
import Derived.BigQuiet
import Derived.Deep.QuietTactic
namespace Go.Proofs.YtbpgpmchnjbclaaDoor
open Go.RowKit
set_option linter.unusedVariables false
def chV (p:OpL):Value:=if p.2.2 then .iface 98 (.string ⟨p.1.toArray⟩) else .iface 100 (.agg #[.string ⟨p.1.toArray⟩,.string ⟨p.2.1.toArray⟩])
theorem below_drN {B:Nat} {w w':World} {q:Nat} (h:Below B w w'):Below B w (w'.drewN q):=⟨h.os,h.tape,h.output,h.size,h.block⟩
theorem below_dr1 {B:Nat} {w w':World} (h:Below B w w'):Below B w w'.drew:=⟨h.os,h.tape,h.output,h.size,h.block⟩
set_option maxRecDepth 100000 in
set_option maxHeartbeats 400000 in
theorem impl_changeOf (k v:List UInt8) (c:Bool) (w:World) (hk:k.length≤1048576) (hv:v.length≤1048576) :
 Calls Tryd.prog 57 #[.agg #[.string ⟨k.toArray⟩,.string ⟨v.toArray⟩,.bool c]] w fun e w'=>∃ u:Value,e=.returned (.tuple #[u,.bool (opOk (k,v,c))])∧(opOk (k,v,c)=true→u=chV (k,v,c))∧Below w.heap.size w w':=by
 have hb:Below w.heap.size w (w.alloc (.cells #[.string ⟨k.toArray⟩,.string ⟨v.toArray⟩,.bool c] 55)):=(Below.refl _ _).alloc (Nat.le_refl _) _
 by_cases q1:k.length≤12
 · have q1':(k.length:Int)≤12:=by omega
   have q1b:decide ((12:Int)<(k.length:Int))=false:=decide_eq_false (by omega)
   cases c with
   | true =>
     have HO:Hid (opOk (k,v,true)=v.isEmpty):=by rw[Hid];simp[opOk,q1]
     go_enter Tryd.func57,Tryd.ntmps57
     go_wp2
     go_quiet (fail)
     go_wp2
     go_ret2
     exact⟨_,by rw[HO.out];cases v <;> rfl,fun _=>rfl,by first | exact hb | exact below_dr1 hb | exact below_drN hb⟩
   | false =>
     cases v with
     | nil =>
       have HO:Hid (opOk (k,[],false)=false):=by rw[Hid];simp[opOk]
       go_enter Tryd.func57,Tryd.ntmps57
       go_wp2
       go_quiet (fail)
       go_wp2
       go_ret2
       exact⟨_,by rw[HO.out];rfl,fun h=>by rw[HO.out] at h;simp at h,by first | exact hb | exact below_dr1 hb | exact below_drN hb⟩
     | cons x xs =>
       obtain⟨v,hve⟩:∃ v,v=x :: xs:=⟨_,rfl⟩
       have q2p:0<v.length:=by rw[hve];simp
       have q2e:v.isEmpty=false:=by rw[hve];rfl
       have q2n:¬ v=[]:=by rw[hve];simp
       rw[←hve] at hv hb ⊢
       clear hve
       by_cases q3:v.length≤60
       · have q3':(v.length:Int)≤60:=by omega
         have q3b:decide ((v.length:Int)≤60)=true:=decide_eq_true q3'
         have HO:Hid (opOk (k,v,false)=true):=by rw[Hid];simp[opOk,q1,q2e,q3]
         go_enter Tryd.func57,Tryd.ntmps57
         go_wp2
         go_quiet (fail)
         go_wp2
         go_ret2
         exact⟨_,by rw[HO.out];rfl,fun h=>rfl,by first | exact hb | exact below_dr1 hb | exact below_drN hb⟩
       · have q3':¬ (v.length:Int)≤60:=by omega
         have q3b:decide ((v.length:Int)≤60)=false:=decide_eq_false q3'
         have HO:Hid (opOk (k,v,false)=false):=by rw[Hid];simp[opOk,q3]
         go_enter Tryd.func57,Tryd.ntmps57
         go_wp2
         go_quiet (fail)
         go_wp2
         go_ret2
         exact⟨_,by rw[HO.out];rfl,fun h=>by rw[HO.out] at h;simp at h,by first | exact hb | exact below_dr1 hb | exact below_drN hb⟩
 · have q1':¬ (k.length:Int)≤12:=by omega
   have HO:Hid (opOk (k,v,c)=false):=by rw[Hid];simp[opOk,q1]
   obtain⟨r,hr⟩:∃ r,r=opOk (k,v,c):=⟨_,rfl⟩
   rw[←hr] at HO ⊢
   clear hr
   go_enter Tryd.func57,Tryd.ntmps57
   go_wp2
   go_ret2
   exact⟨_,by rw[HO.out];rfl,fun h=>by rw[HO.out] at h;simp at h,hb⟩
set_option maxRecDepth 100000 in
set_option maxHeartbeats 400000 in
theorem spec_op (k v:List UInt8) (c:Bool) (w:World) (hk:k.length≤1048576) (hv:v.length≤1048576) :
 Calls Tryd.prog 45 #[.agg #[.string ⟨k.toArray⟩,.string ⟨v.toArray⟩,.bool c]] w fun e w'=>e=.returned (.bool (opOk (k,v,c)))∧Below w.heap.size w w':=by
 have hb:Below w.heap.size w (w.alloc (.cells #[.string ⟨k.toArray⟩,.string ⟨v.toArray⟩,.bool c] 55)):=(Below.refl _ _).alloc (Nat.le_refl _) _
 obtain⟨r,hr⟩:∃ r,r=opOk (k,v,c):=⟨_,rfl⟩
 have HR:Hid (r=opOk (k,v,c)):=hr
 rw[←hr]
 clear hr
 by_cases q1:k.length≤12
 · have q1':(k.length:Int)≤12:=by omega
   have q1b:decide ((k.length:Int)≤12)=true:=decide_eq_true q1'
   cases c with
   | true =>
     cases v with
     | nil =>
       have HO:Hid (r=true):=by rw[Hid,HR.out];simp[opOk,q1]
       clear HR
       go_enter Tryd.func45,Tryd.ntmps45
       go_wp2
       go_ret
       rw[HO.out]
       exact⟨rfl,hb⟩
     | cons x xs =>
       obtain⟨v,hve⟩:∃ v,v=x :: xs:=⟨_,rfl⟩
       have q2e:v.isEmpty=false:=by rw[hve];rfl
       have q2n:¬ v=[]:=by rw[hve];simp
       rw[←hve] at hv hb HR
       rw[←hve]
       clear hve
       have HO:Hid (r=false):=by rw[Hid,HR.out];simp[opOk,q2e]
       clear HR
       go_enter Tryd.func45,Tryd.ntmps45
       go_wp2
       go_ret
       rw[HO.out]
       exact⟨rfl,hb⟩
   | false =>
     cases v with
     | nil =>
       have HO:Hid (r=false):=by rw[Hid,HR.out];simp[opOk]
       clear HR
       go_enter Tryd.func45,Tryd.ntmps45
       go_wp2
       go_ret
       rw[HO.out]
       exact⟨rfl,hb⟩
     | cons x xs =>
       obtain⟨v,hve⟩:∃ v,v=x :: xs:=⟨_,rfl⟩
       have q2p:0<v.length:=by rw[hve];simp
       have q2e:v.isEmpty=false:=by rw[hve];rfl
       have q2n:¬ v=[]:=by rw[hve];simp
       have q2':(1:Int)≤(v.length:Int):=by omega
       have q2b:decide ((1:Int)≤(v.length:Int))=true:=decide_eq_true q2'
       rw[←hve] at hv hb HR
       rw[←hve]
       clear hve
       by_cases q3:v.length≤60
       · have q3':(v.length:Int)≤60:=by omega
         have q3b:decide ((v.length:Int)≤60)=true:=decide_eq_true q3'
         have HO:Hid (r=true):=by rw[Hid,HR.out];simp[opOk,q1,q2e,q3]
         clear HR
         go_enter Tryd.func45,Tryd.ntmps45
         go_wp2
         go_ret
         rw[HO.out]
         exact⟨rfl,hb⟩
       · have q3':¬ (v.length:Int)≤60:=by omega
         have q3b:decide ((v.length:Int)≤60)=false:=decide_eq_false q3'
         have HO:Hid (r=false):=by rw[Hid,HR.out];simp[opOk,q3]
         clear HR
         go_enter Tryd.func45,Tryd.ntmps45
         go_wp2
         go_ret
         rw[HO.out]
         exact⟨rfl,hb⟩
 · have q1':¬ (k.length:Int)≤12:=by omega
   have q1b:decide ((k.length:Int)≤12)=false:=decide_eq_false q1'
   have HO:Hid (r=false):=by rw[Hid,HR.out];simp[opOk,q1]
   clear HR
   go_enter Tryd.func45,Tryd.ntmps45
   go_wp2
   go_ret
   rw[HO.out]
   exact⟨rfl,hb⟩
end Go.Proofs.YtbpgpmchnjbclaaDoor
