/-
  Contracts: what a node says of a path, of the model (l6Step, l6Used).
-/
import Derived.Test.YtlbdfjcpbmkaeaaDoorStep
namespace Go.Proofs.YtlbdfjcpbmkaeaaDoor
open Go.RowKit
set_option linter.unusedVariables false

/-- What l6Step tells. -/
def SStepPost (s : StepL) (e : Ending) : Prop := match s with
  | .ends c v => e = .returned (.tuple #[.string ⟨#[]⟩, .int .i64 c, .string ⟨v.toArray⟩])
  | .on h p => e = .returned (.tuple #[.string ⟨h.toArray⟩, .int .i64 2, .string ⟨#[]⟩])

set_option maxRecDepth 100000 in
set_option maxHeartbeats 1000000 in
theorem spec_l6Step (k : Int) (p : List UInt8) (ls : List (List UInt8)) (v : List UInt8) (hok : NodeL.ok ⟨k, p, ls, v⟩ = true) (a : Option Addr) (c : Nat) (path : List UInt8) (w : World) (hpl : path.length ≤ 1048576) (hpn : isNibs path = true) (hs : IsStrs w a ls) :
    Calls Tryd.prog 38 #[.agg #[.int .i64 k, .string ⟨p.toArray⟩, .slice a ls.length c, .string ⟨v.toArray⟩], .string ⟨path.toArray⟩] w fun e w' => SStepPost (stepL ⟨k, p, ls, v⟩ path) e ∧ Below w.heap.size w w' := by
  obtain ⟨n1, n2, n3, n4⟩ := ok_parts _ hok
  simp only at n1 n2 n3 n4
  have HC := heap_alloc_new w (.cells #[.int .i64 k, .string ⟨p.toArray⟩, .slice a ls.length c, .string ⟨v.toArray⟩] 55)
  have B0 : Below w.heap.size w (w.alloc (.cells #[.int .i64 k, .string ⟨p.toArray⟩, .slice a ls.length c, .string ⟨v.toArray⟩] 55)) := (Below.refl _ _).alloc (Nat.le_refl _) _
  obtain ⟨p0, p1, p2, p3, _⟩ := quad_cells HC
  have hz : (ByteArray.mk path.toArray).size = path.length := by simp [ByteArray.size]
  have hzp : (ByteArray.mk p.toArray).size = p.length := by simp [ByteArray.size]
  clear hok HC
  rcases n4 with ⟨rfl, rfl, h3⟩ | ⟨rfl, h3, rfl, x, rfl, h5⟩ | ⟨rfl, rfl, h3, h4⟩
  · clear hs
    by_cases he : p = path
    · have HS : Hid (stepL ⟨1, p, [], v⟩ path = .ends 1 v) := by rw [Hid]; simp [stepL, he]
      rw [HS.out]
      subst he
      go_enter Tryd.func38, Tryd.ntmps38
      go_wp2
      first | (go_quiet (fail); go_wp2; first | (go_quiet (fail); go_wp2) | skip) | skip
      go_ret3
      exact ⟨rfl, by first | exact B0 | exact below_dr B0⟩
    · have heb : (path == p) = false := by rw [beq_eq_false_iff_ne]; exact fun e => he e.symm
      have HS : Hid (stepL ⟨1, p, [], v⟩ path = .ends 0 []) := by rw [Hid]; simp [stepL, he]
      rw [HS.out]
      go_enter Tryd.func38, Tryd.ntmps38
      go_wp2
      first | (go_quiet (fail); go_wp2; first | (go_quiet (fail); go_wp2) | skip) | skip
      go_ret3
      exact ⟨rfl, by first | exact B0 | exact below_dr B0⟩
  · obtain ⟨b, off, rfl, hc, hb⟩ := strs_get hs 0 (by simp)
    have hc1 : ∀ o, (w.alloc o).cell? ⟨b, off, none⟩ = some (.string ⟨x.toArray⟩) := fun o => by rw [World.cell?_alloc_lt _ _ _ hb]; simpa using hc
    have hc2 : ∀ o q, ((w.alloc o).drewN q).cell? ⟨b, off, none⟩ = some (.string ⟨x.toArray⟩) := fun o q => hc1 o
    clear hs hc
    by_cases hle : p.length ≤ path.length
    · have hle' : (p.length : Int) ≤ (path.length : Int) := by omega
      have hld : decide ((p.length : Int) ≤ (path.length : Int)) = true := decide_eq_true hle'
      have hx := ext_to path p.length hle
      by_cases he : path.take p.length = p
      · have HS : Hid (stepL ⟨2, p, [x], []⟩ path = .on x (path.drop p.length)) := by rw [Hid]; simp [stepL, he]
        rw [HS.out]
        rw [he] at hx
        clear he HS
        go_enter Tryd.func38, Tryd.ntmps38
        go_wp2
        first | (go_quiet (fail); go_wp2; first | (go_quiet (fail); go_wp2) | skip) | skip
        go_ret3
        exact ⟨rfl, by first | exact B0 | exact below_dr B0⟩
      · have HS : Hid (stepL ⟨2, p, [x], []⟩ path = .ends 0 []) := by rw [Hid]; simp [stepL, he]
        rw [HS.out]
        obtain ⟨q, hq⟩ : ∃ q, q = path.take p.length := ⟨_, rfl⟩
        rw [← hq] at hx he
        have heb : (q == p) = false := by rw [beq_eq_false_iff_ne]; exact he
        clear he HS hq
        go_enter Tryd.func38, Tryd.ntmps38
        go_wp2
        first | (go_quiet (fail); go_wp2; first | (go_quiet (fail); go_wp2) | skip) | skip
        go_ret3
        exact ⟨rfl, by first | exact B0 | exact below_dr B0⟩
    · have hle' : ¬ (p.length : Int) ≤ (path.length : Int) := by omega
      have hld : decide ((p.length : Int) ≤ (path.length : Int)) = false := decide_eq_false hle'
      have HS : Hid (stepL ⟨2, p, [x], []⟩ path = .ends 0 []) := by
        rw [Hid]
        have : ¬ path.take p.length = p := fun e => by
          have := congrArg List.length e
          rw [List.length_take] at this
          omega
        simp [stepL, this]
      rw [HS.out]
      clear HS
      go_enter Tryd.func38, Tryd.ntmps38
      go_wp2
      first | (go_quiet (fail); go_wp2; first | (go_quiet (fail); go_wp2) | skip) | skip
      go_ret3
      exact ⟨rfl, by first | exact B0 | exact below_dr B0⟩
  · have h3' : (ls.length : Int) = 16 := by omega
    cases path with
    | nil =>
      clear hs h3 h3'
      cases v with
      | nil =>
        have HS : Hid (stepL ⟨3, [], ls, []⟩ [] = .ends 0 []) := by rw [Hid]; simp [stepL]
        rw [HS.out]
        go_enter Tryd.func38, Tryd.ntmps38
        go_wp2
        first | (go_quiet (fail); go_wp2; first | (go_quiet (fail); go_wp2) | skip) | skip
        go_ret3
        exact ⟨rfl, by first | exact B0 | exact below_dr B0⟩
      | cons y r =>
        have HS : Hid (stepL ⟨3, [], ls, y :: r⟩ [] = .ends 1 (y :: r)) := by rw [Hid]; simp [stepL]
        rw [HS.out]
        obtain ⟨v, hv⟩ : ∃ v, v = y :: r := ⟨_, rfl⟩
        have hve : v.isEmpty = false := by rw [hv]; rfl
        rw [← hv] at p0 p1 p2 p3 B0 ⊢
        clear hv HS
        go_enter Tryd.func38, Tryd.ntmps38
        go_wp2
        first | (go_quiet (fail); go_wp2; first | (go_quiet (fail); go_wp2) | skip) | skip
        go_ret3
        exact ⟨rfl, by first | exact B0 | exact below_dr B0⟩
    | cons y r =>
      obtain ⟨hy, hr⟩ := nib_head y r hpn
      obtain ⟨b, off, rfl, hc, hb⟩ := strs_get hs y.toNat (by omega)
      have hc1 : (w.alloc (.cells #[.int .i64 3, .string ⟨([] : List UInt8).toArray⟩, .slice (some ⟨b, off, none⟩) ls.length c, .string ⟨v.toArray⟩] 55)).cell? ⟨b, off + y.toNat, none⟩ = some (.string ⟨(ls.getD y.toNat []).toArray⟩) := by rw [World.cell?_alloc_lt _ _ _ hb]; exact hc
      have hix : ∀ W, (Instr.index 9 (.string ⟨(y :: r).toArray⟩) (.int .i64 0)).run Tryd.prog W = .ok (.int .u8 (y.toNat : Int)) W := fun W => by
        have := ix_at (P := Tryd.prog) (t := 9) Tryd.underlying9 (y :: r) 0 0 rfl (by simp) W
        simpa using this
      obtain ⟨path, hpa⟩ : ∃ path, path = y :: r := ⟨_, rfl⟩
      have hpe : path.isEmpty = false := by rw [hpa]; rfl
      have hp0 : (0 : Int) < (path.length : Int) := by rw [hpa]; simp
      have HSX : Hid (stepL ⟨3, [], ls, v⟩ path = if ls.getD y.toNat [] = [] then .ends 0 [] else .on (ls.getD y.toNat []) r) := by rw [Hid, hpa]; simp [stepL]
      obtain ⟨kd, hkd⟩ : ∃ kd, kd = ls.getD y.toNat [] := ⟨_, rfl⟩
      rw [← hkd] at hc1 HSX
      rw [← hpa] at hix hz hpl ⊢
      obtain ⟨yn, hyn⟩ : ∃ yn, yn = y.toNat := ⟨_, rfl⟩
      rw [← hyn] at hc1 hix hy
      rw [HSX.out]
      have hy1 : (yn : Int) < (ls.length : Int) := by omega
      have hy0 : (0 : Int) ≤ (yn : Int) := by omega
      clear hs hc hkd hyn hpa hpn h4 h3 h3'
      cases kd with
      | nil =>
        rw [if_pos rfl]
        go_enter Tryd.func38, Tryd.ntmps38
        go_wp2
        first | (go_quiet (fail); go_wp2; first | (go_quiet (fail); go_wp2) | skip) | skip
        go_ret3
        exact ⟨rfl, by first | exact B0 | exact below_dr B0⟩
      | cons z q =>
        rw [if_neg (by simp)]
        obtain ⟨kd, hkd⟩ : ∃ kd, kd = z :: q := ⟨_, rfl⟩
        have hke : kd.isEmpty = false := by rw [hkd]; rfl
        rw [← hkd] at hc1 ⊢
        clear hkd HSX
        go_enter Tryd.func38, Tryd.ntmps38
        go_wp2
        first | (go_quiet (fail); go_wp2; first | (go_quiet (fail); go_wp2) | skip) | skip
        go_ret3
        exact ⟨rfl, by first | exact B0 | exact below_dr B0⟩

/-- So many nibbles a right node takes that leads on. -/
def usedL (n : NodeL) : Nat := if n.k = 3 then 1 else n.p.length
set_option maxRecDepth 100000 in
theorem spec_l6Used (k : Int) (p : List UInt8) (n m : Nat) (a : Option Addr) (v : List UInt8) (w : World) (hp : p.length ≤ 1048576) (ls : List (List UInt8)) :
    Calls Tryd.prog 39 #[.agg #[.int .i64 k, .string ⟨p.toArray⟩, .slice a n m, .string ⟨v.toArray⟩]] w fun e w' => e = .returned (.int .i64 (usedL ⟨k, p, ls, v⟩ : Int)) ∧ Below w.heap.size w w' := by
  have HC := heap_alloc_new w (.cells #[.int .i64 k, .string ⟨p.toArray⟩, .slice a n m, .string ⟨v.toArray⟩] 55)
  have B0 : Below w.heap.size w (w.alloc (.cells #[.int .i64 k, .string ⟨p.toArray⟩, .slice a n m, .string ⟨v.toArray⟩] 55)) := (Below.refl _ _).alloc (Nat.le_refl _) _
  obtain ⟨p0, p1, p2, p3, _⟩ := quad_cells HC
  have hzp : (ByteArray.mk p.toArray).size = p.length := by simp [ByteArray.size]
  clear HC
  by_cases hk : k = 3
  · subst hk
    go_enter Tryd.func39, Tryd.ntmps39
    go_wp2
    go_ret
    exact ⟨rfl, B0⟩
  · have HU : Hid (usedL ⟨k, p, ls, v⟩ = p.length) := if_neg hk
    rw [HU.out]
    clear HU
    go_enter Tryd.func39, Tryd.ntmps39
    go_wp2
    go_ret
    exact ⟨rfl, B0⟩
theorem stepL_used (n : NodeL) (hok : n.ok = true) (path h p : List UInt8) (hs : stepL n path = .on h p) : p = path.drop (usedL n) ∧ usedL n ≤ path.length ∧ h.length = 32 := by
  obtain ⟨_, _, _, h4⟩ := ok_parts n hok
  rcases h4 with ⟨hk, _, _⟩ | ⟨hk, hp, _, x, hls, hx⟩ | ⟨hk, hp, hl, hall⟩
  · unfold stepL at hs
    rw [if_pos hk] at hs
    split at hs <;> cases hs
  · unfold stepL at hs
    rw [if_neg (by rw [hk]; decide), if_pos hk] at hs
    split at hs
    · rename_i ht
      cases hs
      refine ⟨by rw [usedL, if_neg (by rw [hk]; decide)], ?_, by rw [hls]; simpa using hx⟩
      rw [usedL, if_neg (by rw [hk]; decide)]
      have := congrArg List.length ht
      rw [List.length_take] at this
      omega
    · cases hs
  · unfold stepL at hs
    rw [if_neg (by rw [hk]; decide), if_neg (by rw [hk]; decide)] at hs
    split at hs
    · split at hs <;> cases hs
    · rename_i x r
      split at hs
      · cases hs
      · rename_i hne
        cases hs
        refine ⟨by rw [usedL, if_pos hk]; simp, by rw [usedL, if_pos hk]; simp, ?_⟩
        by_cases hx : x.toNat < n.ls.length
        · have hm : n.ls.getD x.toNat [] ∈ n.ls := by
            rw [List.getD_eq_getElem?_getD, List.getElem?_eq_getElem hx]; exact List.getElem_mem hx
          rcases hall _ hm with h | h
          · exact absurd h hne
          · exact h
        · exact absurd (by rw [List.getD_eq_getElem?_getD, List.getElem?_eq_none (by omega)]; rfl) hne
end Go.Proofs.YtlbdfjcpbmkaeaaDoor
