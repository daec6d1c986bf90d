/-
 Proofs on lists; contract: CheckProof, of the model.
-/
import Derived.Test.YtjelmpmlkfdfiaaGreatDoorWayGet
namespace Go.Proofs.YtjelmpmlkfdfiaaGreatDoor
open Go.RowKit
set_option linter.unusedVariables false
def chkP:List (List UInt8)→List UInt8→List UInt8→Int × List UInt8
 | [],_,_=>(0,[])
 | t :: ts, root, path => if (readNode t).isSome = true ∧ sumL t = root then (match stepL (nodeAt t) path with
     | .ends c v=>if ts=[] then (if c=1 then (2,v) else (1,[])) else (0,[])
     | .on h p=>chkP ts h p) else (0,[])
theorem chkP_bad (t:List UInt8) (ts:List (List UInt8)) (root path:List UInt8) (h:¬ ((readNode t).isSome=true∧sumL t=root)):chkP (t :: ts) root path=(0,[]):=by rw[chkP,if_neg h]
theorem chkP_ends (t:List UInt8) (ts:List (List UInt8)) (root path:List UInt8) (h1:(readNode t).isSome=true) (h2:sumL t=root) (c:Int) (v:List UInt8) (hs:stepL (nodeAt t) path=.ends c v):chkP (t :: ts) root path=if ts=[] then (if c=1 then (2,v) else (1,[])) else (0,[]):=by rw[chkP,if_pos ⟨h1,h2⟩,hs]
theorem chkP_on (t:List UInt8) (ts:List (List UInt8)) (root path:List UInt8) (h1:(readNode t).isSome=true) (h2:sumL t=root) (h p:List UInt8) (hs:stepL (nodeAt t) path=.on h p):chkP (t :: ts) root path=chkP ts h p:=by rw[chkP,if_pos ⟨h1,h2⟩,hs]
def chkOk (root key:List UInt8) (ts:List (List UInt8)):Bool:=decide (root.length=32) && (decide (key.length≤12) && decide (ts.length≤30))
def chkR (root key:List UInt8) (ts:List (List UInt8)):Int × List UInt8 :=
 if chkOk root key ts=true then (if root=emptyL then (if ts=[] then (1,[]) else (0,[])) else chkP ts root (nibs key)) else (0,[])
theorem chkR_no (root key:List UInt8) (ts:List (List UInt8)) (h:chkOk root key ts=false):chkR root key ts=(0,[]):=by rw[chkR,h];rfl
theorem chkR_empty (key:List UInt8) (ts:List (List UInt8)) (h:chkOk emptyL key ts=true):chkR emptyL key ts=if ts=[] then (1,[]) else (0,[]):=by rw[chkR,if_pos h,if_pos rfl]
theorem chkR_way (root key:List UInt8) (ts:List (List UInt8)) (h:chkOk root key ts=true) (he:¬ root=emptyL):chkR root key ts=chkP ts root (nibs key):=by rw[chkR,if_pos h,if_neg he]
end Go.Proofs.YtjelmpmlkfdfiaaGreatDoor
