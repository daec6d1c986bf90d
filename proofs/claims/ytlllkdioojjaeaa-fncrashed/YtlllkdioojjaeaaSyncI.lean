/-
 Contract: Sync of the program.
-/
import Derived.Test.YtlllkdioojjaeaaSyncS
import Derived.Test.YtlllkdioojjaeaaIDiskOk
import Derived.Test.YtlllkdioojjaeaaApps
namespace Go.Proofs.Ytlllkdioojjaeaa
open Go.RowKit
set_option linter.unusedVariables false
def Apart3 (v1 v2 v3:Value):Prop:=∀ q,(v1.ownBlock=some q→v2.ownBlock≠some q∧v3.ownBlock≠some q)∧(v2.ownBlock=some q→v3.ownBlock≠some q)
def IPost (W w':World) (e:Ending) (live safe:List PairL) (ops:List DOpL):Prop :=
 ∃ (x1 x2 x3:Option Addr) (k1 k2 k3:Nat),e=.returned (.agg #[.slice x1 live.length k1,.slice x2 safe.length k2,.slice x3 ops.length k3])∧w'.ownsRow W.heap.size 84 2 (.slice x1 live.length k1) live.length (pcells live)∧w'.ownsRow W.heap.size 84 2 (.slice x2 safe.length k2) safe.length (pcells safe)∧w'.ownsRow W.heap.size 40 4 (.slice x3 ops.length k3) ops.length (dcells ops)∧Apart3 (.slice x1 live.length k1) (.slice x2 safe.length k2) (.slice x3 ops.length k3)∧Below W.heap.size W w'
theorem own_set {w:World} {base e size n:Nat} {v:Value} {xs:List Value} (h:w.ownsRow base e size v n xs) (p:Addr) (hp:p.block<base) (u:Value):(w.setCell p u).ownsRow base e size v n xs:=by
 refine ownsRow_setCell_other h (fun e=>?_) u
 have:=(h.lt p.block e).1
 omega
set_option maxRecDepth 100000 in
set_option maxHeartbeats 4000000 in
theorem impl_sync (a1 a2 a3 : Option Addr) (c1 c2 c3 : Nat) (live safe : List PairL) (ops : List DOpL) (w : World) (ha : AddrOk a1) (hca : a1 = none → c1 = 0) (hl1 : live.length ≤ 1048576) (hm1 : ∀ p ∈ live, p.1.length ≤ 1048576 ∧ p.2.length ≤ 1048576) (hl2 : safe.length ≤ 1048576) (hm2 : ∀ p ∈ safe, p.1.length ≤ 1048576 ∧ p.2.length ≤ 1048576) (hl3 : ops.length ≤ 1048576) (hm3 : ∀ p ∈ ops, p.n.length ≤ 1048576 ∧ p.t.length ≤ 1048576 ∧ p.d.length ≤ 1048576)
 (hs1:IsPairs w a1 live) (hs2:IsPairs w a2 safe) (hs3:IsDOps w a3 ops) :
 Calls Try.prog 24 #[.agg #[.slice a1 live.length c1,.slice a2 safe.length c2,.slice a3 ops.length c3]] w fun e w'=>IPost w w' e (syncL live safe ops) (syncL live safe ops) []:=by
 obtain⟨wa,hwa⟩:∃ wa,wa=(w.alloc (.cells #[.slice a1 live.length c1,.slice a2 safe.length c2,.slice a3 ops.length c3] 31)).alloc (.cells #[.slice none 0 0,.slice none 0 0,.slice none 0 0] 31):=⟨_,rfl⟩
 have B0:Below w.heap.size w wa:=by rw[hwa];exact ((Below.refl _ _).alloc (Nat.le_refl _) _).alloc (by simp) _
 have s0:wa.heap.size=w.heap.size+2:=by rw[hwa];simp
 have H0:Hid (wa.heap[w.heap.size]? = some (.cells #[.slice a1 live.length c1,.slice a2 safe.length c2,.slice a3 ops.length c3] 31 (0,0))):=by rw[hwa,Hid,Below.heap_alloc _ _ _ (by simp)];exact heap_alloc_new w _
 have R0:Hid (wa.heap[w.heap.size+1]? = some (.cells #[.slice none 0 0,.slice none 0 0,.slice none 0 0] 31 (0,0))):=by
  rw[hwa,Hid]
  have:=heap_alloc_new (w.alloc (.cells #[.slice a1 live.length c1,.slice a2 safe.length c2,.slice a3 ops.length c3] 31)) (.cells #[.slice none 0 0,.slice none 0 0,.slice none 0 0] 31)
  simpa using this
 obtain⟨p0,p1,p2,_⟩:=three_cells H0.out
 have KD:=impl_diskOk a1 a2 a3 c1 c2 c3 live safe ops wa hl1 hm1 hl2 hm2 hl3 hm3 (hs1.later B0) (hs2.later B0) (hs3.later B0)
 have HKC:Hid (∀ W,Below w.heap.size w W→_):=fun W hW=>clone_filesN a1 c1 live W hl1 hca ha (hs1.later hW)
 have HSY:Hid (syncL live safe ops=if diskOk live safe ops=true then live else []):=rfl
 obtain⟨dk,hdk⟩:∃ dk,dk=diskOk live safe ops:=⟨_,rfl⟩
 obtain⟨sy,hsy⟩:∃ sy,sy=syncL live safe ops:=⟨_,rfl⟩
 rw[←hdk] at KD HSY
 rw[←hsy] at HSY ⊢
 unfold IPost
 rw[hwa] at KD p0 p1 p2
 clear hs1 hs2 hs3 hm1 hm2 hm3 hdk hsy
 go_enter Try.func24,Try.ntmps24
 go_wp2_with fail
 refine KD.mono ?_
 rintro e w1 ⟨rfl,b1⟩
 rw[←hwa] at b1
 have B1:=B0.trans (b1.mono B0.size)
 have H1:Hid (w1.heap[w.heap.size]? = some (.cells #[.slice a1 live.length c1,.slice a2 safe.length c2,.slice a3 ops.length c3] 31 (0,0))):=(b1.block _ (lt_of_block H0.out)).trans H0.out
 have R1:Hid (w1.heap[w.heap.size+1]? = some (.cells #[.slice none 0 0,.slice none 0 0,.slice none 0 0] 31 (0,0))):=(b1.block _ (lt_of_block R0.out)).trans R0.out
 have s1:w.heap.size+1<w1.heap.size:=lt_of_block R1.out
 clear p0 p1 p2 KD b1 H0 R0 B0 hwa s0
 cases dk with
 | false =>
   have e1:sy=[]:=by rw[HSY.out];rfl
   subst e1
   obtain⟨r0,r1,r2,rf⟩:=three_cells R1.out
   have rf0:=rf 0
   have rf1:=rf 1
   have rf2:=rf 2
   have y1:=dk_set (j:=0) (z:=.slice none 0 0) R1.out
   have y2:=dk_set (j:=1) (z:=.slice none 0 0) y1
   have y3:=dk_set (j:=2) (z:=.slice none 0 0) y2
   have HY:Hid (_=_):=y3
   have HBB:Hid (Below w.heap.size w (((w1.setCell ⟨w.heap.size+1,0,none⟩ (.slice none 0 0)).setCell ⟨w.heap.size+1,1,none⟩ (.slice none 0 0)).setCell ⟨w.heap.size+1,2,none⟩ (.slice none 0 0))):=((B1.setCell (by simp) _).setCell (by simp) _).setCell (by simp) _
   clear y1 y2 y3 rf HSY H1 R1 HKC
   go_wp2
   exact bodyPost_ret (v:=.agg #[.slice none 0 0,.slice none 0 0,.slice none 0 0]) (results_cell_row rfl _ _ (w.heap.size+1) 31 _ (0,0) _ rfl HY.out Try.underlying31 rfl (by kernel_rfl)) rfl ⟨none,none,none,0,0,0,rfl,World.ownsRow_nil _ _ _ _,World.ownsRow_nil _ _ _ _,World.ownsRow_nil _ _ _ _,fun q=>⟨fun h=>by simp[Value.ownBlock] at h,fun h=>by simp[Value.ownBlock] at h⟩,HBB.out⟩
 | true =>
   have e1:sy=live:=by rw[HSY.out];rfl
   subst e1
   have HC:Hid (∀ W,Below w1.heap.size w1 W→W.cell? ⟨w.heap.size,0,none⟩=some (.slice a1 sy.length c1)):=fun W hW=>(three_cells ((hW.block _ (lt_of_block H1.out)).trans H1.out)).1
   have BR:Below w1.heap.size w1 w1.drew:=⟨rfl,rfl,rfl,Nat.le_refl _,fun _ _=>rfl⟩
   have BW:Below w.heap.size w w1.drew:=B1.trans (BR.mono B1.size)
   have K9:=HKC.out w1.drew BW
   clear HSY
   go_wp2_with fail
   go_region_held3 (fun w'=>w'.cell? ⟨w.heap.size,0,none⟩=some (.slice a1 sy.length c1))
    (first | with_reducible exact S15.out | with_reducible exact HC.out _ B12.out | with_reducible exact HC.out _ B9.out | with_reducible exact HC.out _ BR)
    (first
     | (go_at_call 61
        with_reducible refine (HKC.out w9 W9.out).mono ?_
        rintro e w12 ⟨a12,k12,rfl,o12,b12⟩
        have B12:Hid (Below w1.heap.size w1 w12):=B9.out.trans (b12.mono B9.out.size)
        have O9b:Hid (w12.ownsRow w1.heap.size 84 2 (.slice a9 sy.length k9) sy.length (pcells sy)):=kept2 O9.out b12
        have O12:Hid (w12.ownsRow w1.heap.size 84 2 (.slice a12 sy.length k12) sy.length (pcells sy)):=o12.mono B9.out.size
        have AP:Hid (∀ q,(Value.slice a9 sy.length k9).ownBlock=some q→(Value.slice a12 sy.length k12).ownBlock≠some q):=fun q h1 h2=>by have:=(O9.out.lt q h1).2;have:=(o12.lt q h2).1;omega
        have Y14:Hid (w12.heap[w.heap.size+1]? = some (.cells #[.slice none 0 0,.slice none 0 0,.slice none 0 0] 31 (0,0))):=(B12.out.block _ (lt_of_block R1.out)).trans R1.out
        have X14:Hid (w12.heap[w.heap.size]? = some (.cells #[.slice a1 sy.length c1,.slice a2 safe.length c2,.slice a3 ops.length c3] 31 (0,0))):=(B12.out.block _ (lt_of_block H1.out)).trans H1.out
        have S15:Hid ((((w12.setCell ⟨w.heap.size+1,0,none⟩ (.slice a9 sy.length k9)).setCell ⟨w.heap.size+1,1,none⟩ (.slice a12 sy.length k12)).setCell ⟨w.heap.size+1,2,none⟩ (.slice none 0 0)).cell? ⟨w.heap.size,0,none⟩=some (.slice a1 sy.length c1)):=(three_cells ((Below.heap_setCell _ _ _ _ (by simp)).trans ((Below.heap_setCell _ _ _ _ (by simp)).trans ((Below.heap_setCell _ _ _ _ (by simp)).trans X14.out)))).1
        obtain⟨r0,r1,r2,rf⟩:=three_cells Y14.out
        have rf0:=rf 0
        have rf1:=rf 1
        have rf2:=rf 2
        clear o12 b12 rf)
     | (go_at_call 61
        with_reducible refine K9.mono ?_
        rintro e w9 ⟨a9,k9,rfl,o9,b9⟩
        have B9:Hid (Below w1.heap.size w1 w9):=BR.trans (b9.mono BR.size)
        have W9:Hid (Below w.heap.size w w9):=B1.trans (B9.out.mono B1.size)
        have O9:Hid (w9.ownsRow w1.heap.size 84 2 (.slice a9 sy.length k9) sy.length (pcells sy)):=o9
        clear o9 b9))
   all_goals
    have y1:=dk_set (j:=0) (z:=.slice a9 sy.length k9) Y14.out
    have y2:=dk_set (j:=1) (z:=.slice a12 sy.length k12) y1
    have y3:=dk_set (j:=2) (z:=.slice none 0 0) y2
    have HY:Hid (_=_):=y3
    have N1:Hid ((((w12.setCell ⟨w.heap.size+1,0,none⟩ (.slice a9 sy.length k9)).setCell ⟨w.heap.size+1,1,none⟩ (.slice a12 sy.length k12)).setCell ⟨w.heap.size+1,2,none⟩ (.slice none 0 0)).ownsRow w.heap.size 84 2 (.slice a9 sy.length k9) sy.length (pcells sy)):=(own_set (own_set (own_set O9b.out _ s1 _) _ s1 _) _ s1 _).mono (by omega)
    have N2:Hid ((((w12.setCell ⟨w.heap.size+1,0,none⟩ (.slice a9 sy.length k9)).setCell ⟨w.heap.size+1,1,none⟩ (.slice a12 sy.length k12)).setCell ⟨w.heap.size+1,2,none⟩ (.slice none 0 0)).ownsRow w.heap.size 84 2 (.slice a12 sy.length k12) sy.length (pcells sy)):=(own_set (own_set (own_set O12.out _ s1 _) _ s1 _) _ s1 _).mono (by omega)
    have HBB:Hid (Below w.heap.size w (((w12.setCell ⟨w.heap.size+1,0,none⟩ (.slice a9 sy.length k9)).setCell ⟨w.heap.size+1,1,none⟩ (.slice a12 sy.length k12)).setCell ⟨w.heap.size+1,2,none⟩ (.slice none 0 0))):=(((B1.trans (B12.out.mono B1.size)).setCell (by simp) _).setCell (by simp) _).setCell (by simp) _
    clear y1 y2 y3 H1 R1 HC
    go_wp2
    exact bodyPost_ret (v:=.agg #[.slice a9 sy.length k9,.slice a12 sy.length k12,.slice none 0 0]) (results_cell_row rfl _ _ (w.heap.size+1) 31 _ (0,0) _ rfl HY.out Try.underlying31 rfl (by kernel_rfl)) rfl ⟨a9,a12,none,k9,k12,0,rfl,N1.out,N2.out,World.ownsRow_nil _ _ _ _,fun q=>⟨fun h=>⟨AP.out q h,by simp[Value.ownBlock]⟩,fun h=>by simp[Value.ownBlock]⟩,HBB.out⟩
end Go.Proofs.Ytlllkdioojjaeaa
