/-
 A store cut down to what roots lead to, on lists.
-/
import Derived.Test.YtapmakefpmholaaDoorIReach
namespace Go.Proofs.YtapmakefpmholaaDoor
open Go.RowKit
set_option linter.unusedVariables false
theorem store_400P (ps : List PairL) (h : storeOkL ps = true) : ps.length ≤ 400 := by
 simp only [storeOkL, Bool.and_eq_true, decide_eq_true_eq] at h
 exact h.1
noncomputable def keepR (ps : List PairL) (rts : List Bs) : List Bs := rts.flatMap fun r => (reachR ps r).getD []
noncomputable def prunedR (ps : List PairL) (rts : List Bs) : Option (List PairL) := if storeOkL ps = true ∧ rts.length ≤ 30 ∧ rts.all (fun r => (reachR ps r).isSome) = true then some (ps.filter fun p => (keepR ps rts).contains p.1) else none
theorem pruned_no {ps : List PairL} {rts : List Bs} (h : ¬ (storeOkL ps = true ∧ rts.length ≤ 30)) : prunedR ps rts = none := by
 unfold prunedR
 rw [if_neg (fun e => h ⟨e.1, e.2.1⟩)]
theorem pruned_lost {ps : List PairL} {rts : List Bs} (r : Bs) (hr : r ∈ rts) (h : reachR ps r = none) : prunedR ps rts = none := by
 unfold prunedR
 rw [if_neg]
 rintro ⟨_, _, h3⟩
 have := List.all_eq_true.1 h3 r hr
 rw [h] at this
 cases this
theorem pruned_yes {ps : List PairL} {rts : List Bs} (h1 : storeOkL ps = true) (h2 : rts.length ≤ 30) (h3 : ∀ r ∈ rts, (reachR ps r).isSome = true) : prunedR ps rts = some (ps.filter fun p => (keepR ps rts).contains p.1) := by
 unfold prunedR
 rw [if_pos ⟨h1, h2, List.all_eq_true.2 h3⟩]
theorem keep_step {ps : List PairL} {rts : List Bs} {i : Nat} (hi : i < rts.length) : keepR ps (rts.take (i + 1)) = keepR ps (rts.take i) ++ (reachR ps rts[i]).getD [] := by
 unfold keepR
 rw [List.take_succ_eq_append_getElem hi, List.flatMap_append]
 simp
def rootsP (rts : List Bs) (x : Bs) : Prop := x ∈ rts ∧ ¬ x = emptyL
theorem reach_leads {ps : List PairL} {r : Bs} (h : (reachR ps r).isSome = true) (hx : ¬ r = emptyL) : (∀ x, x ∈ (reachR ps r).getD [] ↔ Leads (kidsW ps) r x) ∧ AllThere (kidsW ps) (thereN ps) r := by
 unfold reachR at h ⊢
 rw [if_neg hx] at h ⊢
 by_cases ha : allB (kidsW ps) (thereN ps) r = true
 · have hA : AllThere (kidsW ps) (thereN ps) r := Classical.byContradiction fun hn => by rw [all_no hn] at ha; exact absurd ha (by simp)
   rw [if_pos ha]
   refine ⟨fun x => ?_, hA⟩
   classical
   obtain ⟨h1, h2⟩ := textsR_facts ((ps.map (·.1)).filter fun y => decide (Leads (kidsW ps) r y))
   have h3 : ∀ y, y ∈ textsR ((ps.map (·.1)).filter fun y => decide (Leads (kidsW ps) r y)) ↔ Leads (kidsW ps) r y := fun y => by
    rw [h2 y, List.mem_filter, decide_eq_true_iff]
    exact ⟨fun h => h.2, fun h => ⟨there_mem ps y (hA y h), h⟩⟩
   rw [leads_is _ _ _ h1 h3, Option.getD_some, h3 x]
 · rw [if_neg ha] at h; cases h
theorem reach_empty' {ps : List PairL} {root : Bs} (h : root = emptyL) : reachR ps root = some [] := by unfold reachR; rw [if_pos h]
theorem reach_len {ps : List PairL} (r : Bs) : ((reachR ps r).getD []).length ≤ ps.length := by
 by_cases hs : (reachR ps r).isSome = true
 · by_cases he : r = emptyL
   · rw [reach_empty' he]; simp
   · have hm := reach_leads hs he
     have hnd : ((reachR ps r).getD []).Pairwise (· ≠ ·) := by
      unfold reachR
      rw [if_neg he]
      split
      · rw [Option.getD_some]
        unfold ledL
        split
        · rename_i hx
          exact hx.choose_spec.1.imp fun {a b} hab => fun e => by subst e; exact absurd hab (List.lt_irrefl a)
        · exact List.Pairwise.nil
      · exact List.Pairwise.nil
     have := nodup_le _ (ps.map (·.1)) hnd (fun x hx => there_mem ps x (hm.2 x ((hm.1 x).1 hx)))
     simpa using this
 · rw [Option.not_isSome_iff_eq_none.1 hs]; simp
theorem keep_len {ps : List PairL} : ∀ (rts : List Bs), (keepR ps rts).length ≤ rts.length * ps.length
 | [] => by simp [keepR]
 | r :: t => by
   have := keep_len (ps := ps) t
   have := reach_len (ps := ps) r
   unfold keepR at *
   rw [List.flatMap_cons, List.length_append, List.length_cons, Nat.succ_mul]
   omega
structure PrunS (ps : List PairL) (rts : List Bs) (out : List Bs) : Prop where
 all : ∀ r ∈ rts, (reachR ps r).isSome = true
 mem : ∀ x, x ∈ out ↔ x ∈ keepR ps rts
 srch : SrchR (kidsW ps) (thereN ps) (fun x => x ∈ rts ∧ ¬ x = emptyL) out []
theorem prun_start (ps : List PairL) : PrunS ps [] [] := ⟨by simp, by simp [keepR], ⟨fun x h => by simp at h, fun x h => by simp at h, fun r h => by simp at h, fun x h => by simp at h, List.Pairwise.nil⟩⟩
theorem srch_iff {kids : Bs → List Bs} {there : Bs → Bool} {R T : Bs → Prop} (h : ∀ x, R x ↔ T x) {out todo : List Bs} (hs : SrchR kids there R out todo) : SrchR kids there T out todo := by
 have : R = T := funext fun x => propext (h x)
 rw [← this]; exact hs
theorem prun_empty {ps : List PairL} {rts out : List Bs} (h : PrunS ps rts out) (r : Bs) (hr : r = emptyL) : PrunS ps (rts ++ [r]) out := by
 refine ⟨fun x hx => ?_, fun x => ?_, srch_iff (fun x => ?_) h.srch⟩
 · rw [List.mem_append, List.mem_singleton] at hx
   rcases hx with hx | hx
   · exact h.all x hx
   · rw [hx, reach_empty' hr]; rfl
 · rw [h.mem]
   unfold keepR
   rw [List.flatMap_append]
   simp [reach_empty' hr]
 · rw [List.mem_append, List.mem_singleton]
   constructor
   · rintro ⟨h1, h2⟩; exact ⟨.inl h1, h2⟩
   · rintro ⟨h1 | h1, h2⟩
     · exact ⟨h1, h2⟩
     · exact absurd (h1.trans hr) h2
theorem prun_ahead {ps : List PairL} {rts out : List Bs} (h : PrunS ps rts out) (r : Bs) : SrchR (kidsW ps) (thereN ps) (fun x => (x ∈ rts ∧ ¬ x = emptyL) ∨ x = r) out [r] := srch_more h.srch r
theorem prun_more {ps : List PairL} {rts out out' : List Bs} (h : PrunS ps rts out) (r : Bs) (hr : ¬ r = emptyL) (hs : SrchR (kidsW ps) (thereN ps) (fun x => (x ∈ rts ∧ ¬ x = emptyL) ∨ x = r) out' []) : PrunS ps (rts ++ [r]) out' := by
 obtain ⟨hm, hA⟩ := srch_end hs
 have hAr : AllThere (kidsW ps) (thereN ps) r := fun x hx => hA x ((leadsR_or x).2 (.inr hx))
 have hsm : (reachR ps r).isSome = true := by unfold reachR; rw [if_neg hr, if_pos (all_yes hAr)]; rfl
 obtain ⟨hl, _⟩ := reach_leads hsm hr
 obtain ⟨hm0, _⟩ := srch_end h.srch
 refine ⟨fun x hx => ?_, fun x => ?_, srch_iff (fun x => ?_) hs⟩
 · rw [List.mem_append, List.mem_singleton] at hx
   rcases hx with hx | hx
   · exact h.all x hx
   · rw [hx]; exact hsm
 · rw [hm, leadsR_or, ← hm0, h.mem]
   unfold keepR
   rw [List.flatMap_append, List.mem_append, List.flatMap_singleton, hl]
 · rw [List.mem_append, List.mem_singleton]
   constructor
   · rintro (⟨h1, h2⟩ | h1)
     · exact ⟨.inl h1, h2⟩
     · exact ⟨.inr h1, by rw [h1]; exact hr⟩
   · rintro ⟨h1 | h1, h2⟩
     · exact .inl ⟨h1, h2⟩
     · exact .inr h1
theorem prun_lost {ps : List PairL} {rts out : List Bs} (h : PrunS ps rts out) (r : Bs) (hr : ¬ r = emptyL) (hn : ¬ AllThereR (kidsW ps) (thereN ps) (fun x => (x ∈ rts ∧ ¬ x = emptyL) ∨ x = r)) : reachR ps r = none := by
 obtain ⟨_, hA⟩ := srch_end h.srch
 unfold reachR
 rw [if_neg hr, if_neg]
 intro ha
 have hAr : AllThere (kidsW ps) (thereN ps) r := Classical.byContradiction fun hn => by rw [all_no hn] at ha; exact absurd ha (by simp)
 refine hn fun x hx => ?_
 rcases (leadsR_or x).1 hx with h1 | h1
 · exact hA x h1
 · exact hAr x h1
theorem filter_stepP {ps : List PairL} {f : PairL → Bool} {j : Nat} (hj : j < ps.length) : (ps.take (j + 1)).filter f = (ps.take j).filter f ++ (if f ps[j] = true then [ps[j]] else []) := by
 rw [List.take_succ_eq_append_getElem hj, List.filter_append]
 congr 1
 cases h : f ps[j] <;> simp [h]
def PPost (w : World) (res : Option (List PairL)) (e : Ending) (w' : World) : Prop := ∃ (a : Option Addr) (m c : Nat), e = .returned (.tuple #[.slice a m c, .bool res.isSome]) ∧ w'.ownsRow w.heap.size 41 2 (.slice a m c) (res.getD []).length (pcells (res.getD [])) ∧ Below w.heap.size w w'
theorem pp_none {w w' : World} {res : Option (List PairL)} (h : res = none) (hb : Below w.heap.size w w') : PPost w res (.returned (.tuple #[.slice none 0 0, .bool false])) w' := by
 subst h
 exact ⟨none, 0, 0, rfl, World.ownsRow_nil _ _ _ _, hb⟩
theorem pair_atP {w : World} {a : Option Addr} {ps : List PairL} (h : IsPairs w a ps) (j : Nat) (hj : j < ps.length) : ∃ b off, a = some ⟨b, off, none⟩ ∧ b < w.heap.size ∧ w.cell? ⟨b, off + j * 2, none⟩ = some (.string ⟨ps[j].1.toArray⟩) ∧ w.cell? ⟨b, off + j * 2 + 1, none⟩ = some (.string ⟨ps[j].2.toArray⟩) := by
 rcases h with rfl | ⟨b, off, rfl, hc⟩
 · simp at hj
 · exact ⟨b, off, rfl, World.block_lt_of_cell? w _ (hc j hj).1, hc j hj⟩
theorem root_atP {w : World} {a : Option Addr} {ls : List Bs} (h : IsStrs w a ls) (j : Nat) (hj : j < ls.length) : ∃ b off, a = some ⟨b, off, none⟩ ∧ b < w.heap.size ∧ w.cell? ⟨b, off + j, none⟩ = some (.string ⟨ls[j].toArray⟩) := by
 obtain ⟨b, off, h1, h2⟩ := strs_at h j hj
 have h3 := h2 j hj
 rw [show ls.getD j [] = ls[j] by simp [hj]] at h3
 exact ⟨b, off, h1, World.block_lt_of_cell? w _ h3, h3⟩
theorem pcells_snocP (l : List PairL) (p : PairL) : pcells (l ++ [p]) = pcells l ++ [.string ⟨p.1.toArray⟩, .string ⟨p.2.toArray⟩] := by rw [pcells_app]; rfl
end Go.Proofs.YtapmakefpmholaaDoor
