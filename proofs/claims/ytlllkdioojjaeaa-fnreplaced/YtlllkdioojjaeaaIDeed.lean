/-
 Contract: the deed of an op (deedOf).
-/
import Derived.Test.YtlllkdioojjaeaaINames
import Derived.Test.YtlllkdioojjaeaaSDos
import Derived.Test.YtlllkdioojjaeaaMapFs
import Derived.BigQuiet
namespace Go.Proofs.Ytlllkdioojjaeaa
open Go.RowKit
set_option linter.unusedVariables false
def deedV (o:DOpL):Value:=if nameOk o.n=true then (if o.k=1 then .iface 111 (.agg #[.string ⟨o.n.toArray⟩,.string ⟨o.d.toArray⟩]) else if o.k=2 then .iface 113 (.agg #[.string ⟨o.n.toArray⟩,.string ⟨o.t.toArray⟩]) else if o.k=3 then .iface 115 (.agg #[.string ⟨o.n.toArray⟩]) else .nilIface) else .nilIface
set_option maxRecDepth 100000 in
set_option maxHeartbeats 2000000 in
theorem impl_deedOf (k : Int) (n t d : List UInt8) (w : World) (hn : n.length ≤ 16777216) (ht : t.length ≤ 16777216) (hd : d.length ≤ 16777216) :
 Calls Try.prog 49 #[.agg #[.int .i64 k,.string ⟨n.toArray⟩,.string ⟨t.toArray⟩,.string ⟨d.toArray⟩]] w fun e w'=>e=.returned (.tuple #[deedV ⟨k,n,t,d⟩,.bool (formOk ⟨k,n,t,d⟩)])∧Below w.heap.size w w':=by
 have B0:Below w.heap.size w (w.alloc (.cells #[.int .i64 k,.string ⟨n.toArray⟩,.string ⟨t.toArray⟩,.string ⟨d.toArray⟩] 40)):=(Below.refl _ _).alloc (Nat.le_refl _) _
 obtain⟨p0,p1,p2,p3,_⟩:=four_cells (heap_alloc_new w (.cells #[.int .i64 k,.string ⟨n.toArray⟩,.string ⟨t.toArray⟩,.string ⟨d.toArray⟩] 40))
 have KN:=fun W=>impl_name n W hn
 have KT:=fun W=>impl_name t W ht
 have HF:Hid (formOk ⟨k,n,t,d⟩=(decide (1≤k∧k≤3) && (nameOk n && (if k=2 then nameOk t && d.isEmpty else t.isEmpty && (decide (k=1) || d.isEmpty))))):=rfl
 have HV:Hid (deedV ⟨k,n,t,d⟩=if nameOk n=true then (if k=1 then .iface 111 (.agg #[.string ⟨n.toArray⟩,.string ⟨d.toArray⟩]) else if k=2 then .iface 113 (.agg #[.string ⟨n.toArray⟩,.string ⟨t.toArray⟩]) else if k=3 then .iface 115 (.agg #[.string ⟨n.toArray⟩]) else .nilIface) else .nilIface):=rfl
 obtain⟨fo,hfo⟩:∃ fo,fo=formOk ⟨k,n,t,d⟩:=⟨_,rfl⟩
 obtain⟨dv,hdv⟩:∃ dv,dv=deedV ⟨k,n,t,d⟩:=⟨_,rfl⟩
 rw[←hfo] at HF ⊢
 rw[←hdv] at HV ⊢
 clear hfo hdv
 obtain⟨nx,hnx⟩:∃ nx,nx=nameOk n:=⟨_,rfl⟩
 obtain⟨tx,htx⟩:∃ tx,tx=nameOk t:=⟨_,rfl⟩
 rw[←hnx] at KN HF HV
 rw[←htx] at KT HF
 clear hnx htx
 cases hte:t.isEmpty <;> cases hde:d.isEmpty <;> cases nx <;> cases tx <;> rw[hte,hde] at HF
 all_goals
  by_cases h1:k=1
  · subst h1
    have HFF:=HF.out
    have HVV:=HV.out
    simp at HFF HVV
    subst HFF HVV
    clear HF HV
    go_enter Try.func49,Try.ntmps49
    go_wp2_with (first | (go_at_call 79;refine (KN _).mono ?_;rintro e w1 ⟨rfl,rfl⟩))
    first | (go_quiet (fail);go_wp2) | skip
    go_ret2
    exact⟨rfl,by first | exact B0 | exact below_dr B0⟩
  · by_cases h2:k=2
    · subst h2
      have HFF:=HF.out
      have HVV:=HV.out
      simp at HFF HVV
      subst HFF HVV
      clear HF HV h1
      go_enter Try.func49,Try.ntmps49
      go_wp2_with (first | (go_at_call 79;refine (KN _).mono ?_;rintro e w1 ⟨rfl,rfl⟩))
      first | (go_quiet (first | (go_at_call 79;refine Calls.quiet_of_same (KT _)));go_wp2) | skip
      go_ret2
      exact⟨rfl,by first | exact B0 | exact below_dr B0⟩
    · by_cases h3:k=3
      · subst h3
        have HFF:=HF.out
        have HVV:=HV.out
        simp at HFF HVV
        subst HFF HVV
        clear HF HV h1 h2
        go_enter Try.func49,Try.ntmps49
        go_wp2_with (first | (go_at_call 79;refine (KN _).mono ?_;rintro e w1 ⟨rfl,rfl⟩))
        first | (go_quiet (fail);go_wp2) | skip
        go_ret2
        exact⟨rfl,by first | exact B0 | exact below_dr B0⟩
      · have h1b:(k == 1)=false:=by rw[beq_eq_false_iff_ne];exact h1
        have h2b:(k == 2)=false:=by rw[beq_eq_false_iff_ne];exact h2
        have h3b:(k == 3)=false:=by rw[beq_eq_false_iff_ne];exact h3
        have h4:decide (1≤k∧k≤3)=false:=decide_eq_false (by omega)
        have HFF:=HF.out
        have HVV:=HV.out
        rw[h4] at HFF
        simp[h1,h2,h3] at HFF HVV
        subst HFF HVV
        clear HF HV h4
        go_enter Try.func49,Try.ntmps49
        go_wp2_with (first | (go_at_call 79;refine (KN _).mono ?_;rintro e w1 ⟨rfl,rfl⟩))
        go_ret2
        exact⟨rfl,by first | exact B0 | exact below_dr B0⟩
end Go.Proofs.Ytlllkdioojjaeaa
