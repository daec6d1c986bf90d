/-
 Contracts: errors.Is of nil, of a package's own error, of another one.
-/
import Derived.Test.YtbpgpmchnjbclaaDoorChecked
import Derived.WalkKit
import Derived.LaidEql
import Derived.Stop.Asserts
import Derived.RowKitTokens
namespace Go.Proofs.YtbpgpmchnjbclaaDoor
open Go.RowKit Go.Extern.Stop Go.Stop Go.Extern
set_option linter.unusedVariables false
theorem errType (v:Value) (w:World):(Extern.ReflectliteType.typeOf #[.iface 131 v]).run Tryd.prog w=.ok (.iface 102 (.agg #[.pointer (some ⟨3,131,none⟩)])) w:=by kernel_rfl
def cmpM : Array Value → Sem Value := Extern.ReflectliteType.method fun t => do Go.Extern.Rtype.noPackHeld "Comparable" t; pure (.bool (← typeInfo t).comparable)
theorem errComp (w:World):(cmpM #[.agg #[.pointer (some ⟨3,131,none⟩)]]).run Tryd.prog w=.ok (.bool true) w:=by kernel_rfl
theorem errMeth (v : Value) (w : World) : (Go.method 266 102 v "Comparable").run Tryd.prog w = .ok (101, v) w := by kernel_rfl
theorem errInfo:(Tryd.prog.info? 131).map (·.comparable)=some true:=by kernel_rfl
theorem errSize:(Tryd.prog.info? 154).map (·.size)=some 1:=by kernel_rfl
theorem errNoIs (v:Value) (xT:TypeId) (w:World):(Instr.typeAssert (.iface 131 v) xT 104 true).run Tryd.prog w=.ok (.tuple #[.nilIface,.bool false]) w:=run_typeAssert_lacksB Tryd.underlying104 (by kernel_rfl) (by kernel_rfl) v xT w
theorem errNoUn (v:Value) (xT:TypeId) (w:World):(Instr.typeAssert (.iface 131 v) xT 107 true).run Tryd.prog w=.ok (.tuple #[.nilIface,.bool false]) w:=run_typeAssert_lacksB Tryd.underlying107 (by kernel_rfl) (by kernel_rfl) v xT w
theorem errNoUns (v:Value) (xT:TypeId) (w:World):(Instr.typeAssert (.iface 131 v) xT 109 true).run Tryd.prog w=.ok (.tuple #[.nilIface,.bool false]) w:=run_typeAssert_lacksB Tryd.underlying109 (by kernel_rfl) (by kernel_rfl) v xT w
set_option maxRecDepth 100000 in
set_option maxHeartbeats 1000000 in
theorem is_nilE (b:Addr) (w:World):Calls Tryd.prog 48 #[.nilIface,.iface 131 (.pointer (some b))] w fun e w'=>e=.returned (.bool false)∧w'=w:=by
 have hn:=run_eql_iface_nil_left (P:=Tryd.prog) w 131 (.pointer (some b)) Tryd.underlying58
 go_enter Tryd.func48,Tryd.ntmps48
 go_wp2
 go_ret
 exact⟨rfl,rfl⟩
set_option maxRecDepth 100000 in
set_option maxHeartbeats 1000000 in
theorem is_sameE (a:Addr) (w:World):Calls Tryd.prog 48 #[.iface 131 (.pointer (some a)),.iface 131 (.pointer (some a))] w fun e w'=>e=.returned (.bool true)∧w'=w:=by
 obtain⟨i,hi,hcmp⟩:=Option.map_eq_some_iff.1 errInfo
 obtain⟨j,hj,hjs⟩:=Option.map_eq_some_iff.1 errSize
 have e1:=@run_callFunc_extern Tryd.prog 59 _ Extern.ReflectliteType.typeOf Tryd.func59 (by kernel_rfl) (by kernel_rfl) (by kernel_rfl) (by kernel_rfl)
 have e2:=@run_callFunc_extern Tryd.prog 101 _ cmpM Tryd.func101 (by kernel_rfl) (by kernel_rfl) (by kernel_rfl) (by kernel_rfl)
 have e3:=errType
 have e4:=errComp
 have e5:=errMeth
 have heq:=run_eql_iface_ptr_same (P:=Tryd.prog) w a Tryd.underlying58 Tryd.underlying131 hi hcmp hj
 go_enter Tryd.func48,Tryd.ntmps48
 go_wp2
 refine wp_loop_rounds 1 ?_
 rw[rounds_succ]
 go_wp2
 go_ret
 exact⟨rfl,rfl⟩
set_option maxRecDepth 100000 in
set_option maxHeartbeats 1000000 in
theorem is_otherE (a b:Addr) (ca cb:Array Value) (ta tb:TypeId) (w:World) (hne:a≠b) (ha:w.heap[a.block]? = some (.cells ca ta (0,0))) (hb:w.heap[b.block]? = some (.cells cb tb (0,0))):Calls Tryd.prog 48 #[.iface 131 (.pointer (some a)),.iface 131 (.pointer (some b))] w fun e w'=>e=.returned (.bool false)∧w'=w:=by
 obtain⟨i,hi,hcmp⟩:=Option.map_eq_some_iff.1 errInfo
 obtain⟨j,hj,hjs⟩:=Option.map_eq_some_iff.1 errSize
 have e1:=@run_callFunc_extern Tryd.prog 59 _ Extern.ReflectliteType.typeOf Tryd.func59 (by kernel_rfl) (by kernel_rfl) (by kernel_rfl) (by kernel_rfl)
 have e2:=@run_callFunc_extern Tryd.prog 101 _ cmpM Tryd.func101 (by kernel_rfl) (by kernel_rfl) (by kernel_rfl) (by kernel_rfl)
 have e3:=errType
 have e4:=errComp
 have e5:=errMeth
 have e6:=errNoIs
 have e7:=errNoUn
 have e8:=errNoUns
 have heq:=run_eql_iface_ptr_other (P:=Tryd.prog) w Tryd.underlying58 Tryd.underlying131 hi hcmp hj (by rw[hjs];decide) hne ha hb
 go_enter Tryd.func48,Tryd.ntmps48
 go_wp2
 refine wp_loop_rounds 1 ?_
 rw[rounds_succ]
 go_wp2
 go_ret
 exact⟨rfl,rfl⟩
end Go.Proofs.YtbpgpmchnjbclaaDoor
