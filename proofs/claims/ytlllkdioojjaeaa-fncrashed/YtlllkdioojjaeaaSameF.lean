/-
 Contract: two lists of files are the same, by the laws' own helper (written by mkcrashed.py out of SSame.tl).
-/
import Derived.Test.YtlllkdioojjaeaaSSame
namespace Go.Proofs.Ytlllkdioojjaeaa
open Go.RowKit
set_option linter.unusedVariables false
set_option maxRecDepth 100000 in
set_option maxHeartbeats 1000000 in
theorem same_files (a b : Option Addr) (c d : Nat) (ps qs : List PairL) (w : World) (hl : ps.length ≤ 16777216) (hl2 : qs.length ≤ 16777216) (hs : IsPairs w a ps) (ht : IsPairs w b qs) :
 Calls Try.prog 36 #[.slice a ps.length c,.slice b qs.length d] w fun e w'=>e=.returned (.bool (decide (ps=qs)))∧Below w.heap.size w w':=by
 by_cases hle:ps.length=qs.length
 · have HYES : Hid ((∀ j, j < ps.length → keyAt ps j = keyAt qs j ∧ valAt ps j = valAt qs j) → decide (ps = qs) = true) := fun h => decide_eq_true (same_all ps qs hle h)
   have HNO:Hid (∀ j,¬ (keyAt ps j=keyAt qs j∧valAt ps j=valAt qs j)→decide (ps=qs)=false):=fun j h=>decide_eq_false (fun e=>h (by rw[e];exact⟨rfl,rfl⟩))
   have HC : Hid (∀ W, Below w.heap.size w W → ∀ j, j < ps.length → ∃ b1 o1 b2 o2, a = some ⟨b1, o1, none⟩ ∧ b = some ⟨b2, o2, none⟩ ∧ (W.cell? ⟨b1, o1 + j * 2, none⟩ = some (.string ⟨(keyAt ps j).toArray⟩) ∧ W.cell? ⟨b1, o1 + j * 2 + 1, none⟩ = some (.string ⟨(valAt ps j).toArray⟩)) ∧ W.cell? ⟨b2, o2 + j * 2, none⟩ = some (.string ⟨(keyAt qs j).toArray⟩) ∧ W.cell? ⟨b2, o2 + j * 2 + 1, none⟩ = some (.string ⟨(valAt qs j).toArray⟩)) := fun W hW j hj => by
    rcases hs.later hW with h | ⟨b1,o1,rfl,h1⟩
    · rw[h] at hj;simp at hj
    · rcases ht.later hW with h | ⟨b2,o2,rfl,h2⟩
      · rw[hle,h] at hj;simp at hj
      · refine⟨b1,o1,b2,o2,rfl,rfl,?_,?_⟩
        · rw[keyAt_lt ps j hj,valAt_lt ps j hj];exact h1 j hj
        · rw[keyAt_lt qs j (by omega),valAt_lt qs j (by omega)];exact h2 j (by omega)
   obtain⟨R,hR⟩:∃ R,R=decide (ps=qs):=⟨_,rfl⟩
   obtain⟨n,hn⟩:∃ n,n=ps.length:=⟨_,rfl⟩
   have hn2:qs.length=n:=by omega
   rw[←hR] at HYES HNO ⊢
   rw[hn2]
   rw[←hn] at HYES HC ⊢
   have hnl:n≤16777216:=by omega
   clear hs ht hR hle hn hn2 hl hl2
   go_enter Try.func36,Try.ntmps36
   go_wp2
   go_loopw [5] (fun i wr=>∃ j:Nat,j≤n∧i=.int .i64 (j:Int)∧Hid (∀ q,q<j→keyAt ps q=keyAt qs q∧valAt ps q=valAt qs q)∧Below w.heap.size w wr) (fun i _=>n - (intOf i).toNat)
   case atStart=>exact⟨0,Nat.zero_le _,rfl,fun k hk=>by omega,Below.refl _ _⟩
   case round =>
    obtain⟨j,hj,rfl,HA,hbel⟩:=hrel
    by_cases hlt:j<n
    · obtain⟨b1,o1,b2,o2,rfl,rfl,⟨c1,c2⟩,c3,c4⟩:=HC.out wr hbel j hlt
      have hj0:(0:Int)≤(j:Int):=by omega
      have hj1:(j:Int)<(n:Int):=by omega
      have HN:Hid (keyAt ps j=keyAt qs j∧valAt ps j=valAt qs j→∀ k,k<j+1→keyAt ps k=keyAt qs k∧valAt ps k=valAt qs k):=fun e k hk=>by
       by_cases ek:k=j
       · rw[ek];exact e
       · exact HA.out k (by omega)
      have HX:Hid (¬ (keyAt ps j=keyAt qs j∧valAt ps j=valAt qs j)→R=false):=HNO.out j
      obtain⟨x1,hx1⟩:∃ x,x=keyAt ps j:=⟨_,rfl⟩
      obtain⟨y1,hy1⟩:∃ y,y=valAt ps j:=⟨_,rfl⟩
      obtain⟨x2,hx2⟩:∃ x,x=keyAt qs j:=⟨_,rfl⟩
      obtain⟨y2,hy2⟩:∃ y,y=valAt qs j:=⟨_,rfl⟩
      rw[←hx1] at c1 HN HX
      rw[←hy1] at c2 HN HX
      rw[←hx2] at c3 HN HX
      rw[←hy2] at c4 HN HX
      clear hx1 hy1 hx2 hy2 HA HYES HNO HC
      by_cases h1:x1=x2
      · by_cases h2:y1=y2
        · have HNN:Hid (∀ k,k<j+1→keyAt ps k=keyAt qs k∧valAt ps k=valAt qs k):=HN.out ⟨h1,h2⟩
          subst h1 h2
          clear HN HX
          go_wp2
          first | (go_quiet (fail);go_wp2) | skip
          go_roundw
          case rel=>exact⟨j+1,by omega,by go_num,HNN,by first | exact hbel | exact below_dr hbel⟩
          case measure=>simp[intOf];omega
        · have HR:Hid (R=false):=HX.out (fun e=>h2 e.2)
          have h2b:(y1 == y2)=false:=by rw[beq_eq_false_iff_ne];exact h2
          subst h1
          clear HN HX
          go_wp2
          first | (go_quiet (fail);go_wp2) | skip
          go_ret
          rw[HR.out]
          exact⟨rfl,by first | exact hbel | exact below_dr hbel⟩
      · have HR:Hid (R=false):=HX.out (fun e=>h1 e.1)
        have h1b:(x1 == x2)=false:=by rw[beq_eq_false_iff_ne];exact h1
        clear HN HX
        go_wp2
        first | (go_quiet (fail);go_wp2) | skip
        go_ret
        rw[HR.out]
        exact⟨rfl,by first | exact hbel | exact below_dr hbel⟩
    · have hjl:j=n:=by omega
      subst hjl
      have HR:Hid (R=true):=HYES.out HA.out
      clear HYES HNO HC HA
      go_wp2
      go_ret
      rw[HR.out]
      exact⟨rfl,hbel⟩
 · have hle':¬ (ps.length:Int)=(qs.length:Int):=by omega
   have HR:Hid (decide (ps=qs)=false):=decide_eq_false (fun e=>hle (by rw[e]))
   clear hs ht
   go_enter Try.func36,Try.ntmps36
   go_wp2
   go_ret
   rw[HR.out]
   exact⟨rfl,Below.refl _ _⟩
end Go.Proofs.Ytlllkdioojjaeaa
