/-
  Contract: the model's stores by hash, each once (l5Sorted; written by mksorted.py).
-/
import Derived.Test.YtapmakefpmholaaGreatDoorStAll
import Derived.Test.YtapmakefpmholaaGreatDoorPairOk
import Derived.Test.YtapmakefpmholaaGreatDoorIListAll
import Derived.Deep.RegionHeld3
namespace Go.Proofs.YtapmakefpmholaaGreatDoor
open Go.RowKit
set_option linter.unusedVariables false

theorem below_dkS {B : Nat} {w w' : World} {q : Nat} (h : Below B w w') : Below B w (w'.drewN q) := ⟨h.os, h.tape, h.output, h.size, h.block⟩
theorem poneS (qs : List PairL) : ∀ u ∈ pcells qs, u.oneCell' = true := by
  induction qs with
  | nil => simp [pcells]
  | cons p ps ih => simp [pcells, Value.oneCell']; exact ih
theorem keptS {w w' : World} {b e sz n : Nat} {v : Value} {xs : List Value} (h : w.ownsRow b e sz v n xs) (hb : Below w.heap.size w w') : w'.ownsRow b e sz v n xs :=
  h.kept (row := none) ⟨hb.os, hb.tape, hb.output, hb.size, fun k hk _ => hb.block k hk⟩ (by cases v.ownBlock with | none => exact .inl rfl | some k => exact .inr (by simp))

def stPlace : List PairL → List UInt8 → Nat
  | [], _ => 0
  | x :: xs, h => if Op.bytesLess x.1 h = true then stPlace xs h + 1 else 0
def stIns (out : List PairL) (p : PairL) : List PairL := if stPlace out p.1 < out.length ∧ keyAt out (stPlace out p.1) = p.1 then out else out.take (stPlace out p.1) ++ [p] ++ out.drop (stPlace out p.1)
def sortedL (ns : List PairL) : List PairL := ns.foldl stIns []
theorem sortedL_snoc (ns : List PairL) (j : Nat) (h : j < ns.length) : sortedL (ns.take (j + 1)) = stIns (sortedL (ns.take j)) ns[j] := by rw [take_snocP ns j h, sortedL, List.foldl_append]; rfl
theorem stPlace_le : ∀ (out : List PairL) (h : List UInt8), stPlace out h ≤ out.length
  | [], _ => Nat.le_refl _
  | x :: xs, h => by
    simp only [stPlace]
    split
    · have := stPlace_le xs h; simp; omega
    · omega
theorem stPlace_step : ∀ (out : List PairL) (h : List UInt8) (k : Nat), k < out.length → k ≤ stPlace out h → Op.bytesLess (keyAt out k) h = true → k + 1 ≤ stPlace out h
  | [], _, k, hk, _, _ => by simp at hk
  | x :: xs, h, 0, _, _, hb => by
    have hb' : Op.bytesLess x.1 h = true := hb
    simp [stPlace, hb']
  | x :: xs, h, k + 1, hk, hle, hb => by
    simp only [stPlace] at hle ⊢
    split at hle
    · rename_i hx
      rw [if_pos hx]
      have hb' : Op.bytesLess (keyAt xs k) h = true := by simpa [keyAt] using hb
      have := stPlace_step xs h k (by simpa using hk) (by omega) hb'
      omega
    · omega
theorem stPlace_stop : ∀ (out : List PairL) (h : List UInt8) (k : Nat), k < out.length → k ≤ stPlace out h → Op.bytesLess (keyAt out k) h = false → stPlace out h = k
  | [], _, k, hk, _, _ => by simp at hk
  | x :: xs, h, 0, _, _, hb => by
    have hb' : Op.bytesLess x.1 h = false := hb
    simp [stPlace, hb']
  | x :: xs, h, k + 1, hk, hle, hb => by
    simp only [stPlace] at hle ⊢
    split at hle
    · rename_i hx
      rw [if_pos hx]
      have hb' : Op.bytesLess (keyAt xs k) h = false := by simpa [keyAt] using hb
      have := stPlace_stop xs h k (by simpa using hk) (by omega) hb'
      omega
    · omega
theorem stIns_len (out : List PairL) (p : PairL) : (stIns out p).length ≤ out.length + 1 := by
  unfold stIns
  split
  · omega
  · have := stPlace_le out p.1; simp; omega
theorem sorted_len (ns : List PairL) : ∀ j, j ≤ ns.length → (sortedL (ns.take j)).length ≤ j
  | 0, _ => by simp [sortedL]
  | j + 1, h => by
    rw [sortedL_snoc ns j (by omega)]
    have := sorted_len ns j (by omega)
    have := stIns_len (sortedL (ns.take j)) ns[j]
    omega
theorem own_capP {w : World} {B e g n c : Nat} {xs : List Value} (h : w.ownsRow B e 2 (.slice (some ⟨g, 0, none⟩) n c) n xs) : n ≤ c := by
  rcases h.2 with ⟨e, _⟩ | ⟨g', cap', cur, e, _, _, hc, _⟩
  · cases e
  · cases e; exact hc
theorem own_cellP {w : World} {B e g n c : Nat} {ns : List PairL} (h : w.ownsRow B e 2 (.slice (some ⟨g, 0, none⟩) n c) ns.length (pcells ns)) (j : Nat) (hj : j < ns.length) : w.cell? ⟨g, j * 2, none⟩ = some (.string ⟨(keyAt ns j).toArray⟩) ∧ w.cell? ⟨g, j * 2 + 1, none⟩ = some (.string ⟨(valAt ns j).toArray⟩) := by
  have hp := pcells_at ns j hj
  rw [keyAt_lt ns j hj, valAt_lt ns j hj]
  rcases h.2 with ⟨h', _⟩ | ⟨g', cap', cur, h', _⟩
  · cases h'
  · cases h'
    exact ⟨(h.cellAt (j * 2) (by omega)).trans hp.1, (h.cellAt (j * 2 + 1) (by omega)).trans hp.2⟩
theorem flat_part {w : World} {B e g n c : Nat} {ns : List PairL} (h : w.ownsRow B e 2 (.slice (some ⟨g, 0, none⟩) n c) ns.length (pcells ns)) (from0 cnt : Nat) : ∀ j u, (pcells ((ns.drop from0).take cnt))[j]? = some u → w.cell? ((⟨g, from0 * 2, none⟩ : Addr).add j) = some u := by
  intro j u hu
  have hj := (List.getElem?_eq_some_iff.1 hu).1
  rw [pcells_length, List.length_take, List.length_drop] at hj
  have ea : (⟨g, from0 * 2, none⟩ : Addr).add j = ⟨g, from0 * 2 + j, none⟩ := by
    simp only [Addr.add]
    split
    · rename_i h9; rw [h9]; rfl
    · rfl
  rw [ea]
  have hq : j / 2 < ((ns.drop from0).take cnt).length := by rw [List.length_take, List.length_drop]; omega
  have hp := pcells_at ((ns.drop from0).take cnt) (j / 2) hq
  have hn : from0 + j / 2 < ns.length := by omega
  have hc := own_cellP h (from0 + j / 2) hn
  rw [keyAt_lt ns _ hn, valAt_lt ns _ hn] at hc
  simp only [List.getElem_take, List.getElem_drop] at hp
  rcases Nat.mod_two_eq_zero_or_one j with h0 | h0
  · have e1 : j = j / 2 * 2 := by omega
    rw [e1] at hu
    rw [hp.1] at hu
    rw [show from0 * 2 + j = (from0 + j / 2) * 2 by omega, ← hu]
    exact hc.1
  · have e1 : j = j / 2 * 2 + 1 := by omega
    rw [e1] at hu
    rw [hp.2] at hu
    rw [show from0 * 2 + j = (from0 + j / 2) * 2 + 1 by omega, ← hu]
    exact hc.2

set_option maxRecDepth 100000 in
set_option maxHeartbeats 4000000 in
theorem spec_l5Sorted (a : Option Addr) (cp : Nat) (ns : List PairL) (w : World) (hl : ns.length ≤ 10000) (hs : IsPairs w a ns) :
    Calls Tryz.prog 20 #[.slice a ns.length cp] w fun e w' => ∃ g c : Nat, e = .returned (.slice (some ⟨g, 0, none⟩) (sortedL ns).length c) ∧ w'.ownsRow w.heap.size 43 2 (.slice (some ⟨g, 0, none⟩) (sortedL ns).length c) (sortedL ns).length (pcells (sortedL ns)) ∧ Below w.heap.size w w' := by
  obtain ⟨i0, hi0, hz0, hz1, hz2⟩ := info_parts infoStored
  have Ba : Below w.heap.size w (w.alloc (.cells #[] 43)) := (Below.refl _ _).alloc (Nat.le_refl _) _
  have O0 := hidOwn (World.ownsRow_lit (e := 43) (size := 2) w #[] 0 (base := w.heap.size) (Nat.le_refl _) (Nat.zero_le _) rfl)
  rcases hs with rfl | ⟨b, off, rfl, hc⟩
  · have e0 : sortedL [] = [] := rfl
    rw [e0]
    go_enter Tryz.func20, Tryz.ntmps20
    go_wp2
    refine wp_loop_rounds 1 ?_
    rw [rounds_succ]
    go_wp2
    go_ret
    exact ⟨_, _, rfl, O0.out, Ba⟩
  · have HC : Hid (∀ j, j < ns.length → w.cell? ⟨b, off + j * 2, none⟩ = some (.string ⟨(keyAt ns j).toArray⟩) ∧ w.cell? ⟨b, off + j * 2 + 1, none⟩ = some (.string ⟨(valAt ns j).toArray⟩)) := fun j h => by rw [keyAt_lt ns j h, valAt_lt ns j h]; exact hc j h
    have HSN : Hid (∀ j, j < ns.length → sortedL (ns.take (j + 1)) = stIns (sortedL (ns.take j)) (keyAt ns j, valAt ns j)) := fun j h => by rw [sortedL_snoc ns j h, keyAt_lt ns j h, valAt_lt ns j h]
    have HSL : Hid (∀ j, j ≤ ns.length → (sortedL (ns.take j)).length ≤ j) := sorted_len ns
    clear hc
    go_enter Tryz.func20, Tryz.ntmps20
    go_wp2
    go_loopw [3, 4] (fun o i wr => ∃ (j g c : Nat), j ≤ ns.length ∧ i = .int .i64 (j : Int) ∧ o = .slice (some ⟨g, 0, none⟩) (sortedL (ns.take j)).length c ∧ Hid (wr.ownsRow w.heap.size 43 2 (.slice (some ⟨g, 0, none⟩) (sortedL (ns.take j)).length c) (sortedL (ns.take j)).length (pcells (sortedL (ns.take j)))) ∧ Below w.heap.size w wr) (fun _ i _ => ns.length - (intOf i).toNat)
    case atStart => exact ⟨0, w.heap.size, 0, Nat.zero_le _, rfl, rfl, O0, Ba⟩
    case round =>
      obtain ⟨j, g, c, hj, rfl, rfl, HO, hbel⟩ := hrel
      obtain ⟨wo, rfl⟩ : ∃ wo, wo = wr := ⟨_, rfl⟩
      have hsz := hbel.size
      clear O0 Ba
      by_cases hlt : j < ns.length
      · obtain ⟨c1', c2'⟩ := HC.out j hlt
        have hblt := World.block_lt_of_cell? w _ c1'
        simp only at hblt
        have HS : Hid (sortedL (ns.take (j + 1)) = stIns (sortedL (ns.take j)) (keyAt ns j, valAt ns j)) := HSN.out j hlt
        have hol := HSL.out j hj
        obtain ⟨h, hh⟩ : ∃ h, h = keyAt ns j := ⟨_, rfl⟩
        obtain ⟨t, ht⟩ : ∃ t, t = valAt ns j := ⟨_, rfl⟩
        rw [← hh] at c1' HS
        rw [← ht] at c2' HS
        have C1 : Hid (w.cell? ⟨b, off + j * 2, none⟩ = some (.string ⟨h.toArray⟩)) := c1'
        have C2 : Hid (w.cell? ⟨b, off + j * 2 + 1, none⟩ = some (.string ⟨t.toArray⟩)) := c2'
        obtain ⟨out, hout⟩ : ∃ out, out = sortedL (ns.take j) := ⟨_, rfl⟩
        rw [← hout] at HS hol HO ⊢
        have hpl := stPlace_le out h
        have hj1 : (j : Int) < (ns.length : Int) := by omega
        have hj0' : (0 : Int) ≤ (j : Int) := by omega
        have hcap := own_capP HO.out
        have hgl := (HO.out.lt g rfl)
        clear hh ht c1' c2' hout HC HSN HSL
        go_wp2
        go_loopw [5] (fun kk wx => ∃ k : Nat, k ≤ out.length ∧ k ≤ stPlace out h ∧ kk = .int .i64 (k : Int) ∧ Below wo.heap.size wo wx) (fun kk _ => out.length - (intOf kk).toNat)
        case atStart => exact ⟨0, Nat.zero_le _, Nat.zero_le _, rfl, Below.refl _ _⟩
        case round =>
          obtain ⟨k, hk, hkp, rfl, hb2⟩ := hrel
          have B2 := hbel.trans (hb2.mono hsz)
          have s2 := B2.size
          have sw2 := hb2.size
          have HO2 := hidOwn (keptS HO.out hb2)
          have c1 := (B2.cell (p := ⟨b, off + j * 2, none⟩) hblt).trans C1.out
          have c2 := (B2.cell (p := ⟨b, off + j * 2 + 1, none⟩) hblt).trans C2.out
          have hk0 : (0 : Int) ≤ (k : Int) := by omega
          by_cases hlt2 : k < out.length
          · have hk1 : (k : Int) < (out.length : Int) := by omega
            obtain ⟨d1, d2⟩ := own_cellP HO2.out k hlt2
            cases hless : Op.bytesLess (keyAt out k) h with
            | true =>
              have hn := stPlace_step out h k hlt2 hkp hless
              obtain ⟨z, hz⟩ : ∃ z, z = keyAt out k := ⟨_, rfl⟩
              rw [← hz] at d1 hless
              have hq : Op.bytesLess (⟨z.toArray⟩ : ByteArray).toList (⟨h.toArray⟩ : ByteArray).toList = true := by rw [ba_toList, ba_toList]; exact hless
              clear hz d2
              go_wp2
              go_quiet (fail)
              go_wp2
              go_roundw
              case rel => exact ⟨k + 1, by omega, hn, by go_num, below_dkS hb2⟩
              case measure => simp [intOf]; omega
            | false =>
              have hpk := stPlace_stop out h k hlt2 hkp hless
              have HZ : Hid (stIns out (h, t) = if keyAt out k = h then out else out.take k ++ [(h, t)] ++ out.drop k) := by
                rw [Hid, stIns]; simp only [hpk]
                by_cases he : keyAt out k = h
                · rw [if_pos ⟨hlt2, he⟩, if_pos he]
                · rw [if_neg (fun x => he x.2), if_neg he]
              obtain ⟨z, hz⟩ : ∃ z, z = keyAt out k := ⟨_, rfl⟩
              rw [← hz] at d1 hless HZ
              have hq : Op.bytesLess (⟨z.toArray⟩ : ByteArray).toList (⟨h.toArray⟩ : ByteArray).toList = false := by rw [ba_toList, ba_toList]; exact hless
              have B2q : ∀ q q', Below w.heap.size w ((wr.drewN q).drewN q') := fun q q' => below_dkS (below_dkS B2)
              by_cases he : z = h
              · have HZ2 : Hid (sortedL (ns.take (j + 1)) = out) := by rw [Hid, HS.out, HZ.out, if_pos he]
                clear HS HZ hz
                subst he
                go_wp2
                go_quiet (fail)
                go_wp2
                go_quiet (fail)
                go_wp2
                go_roundw
                case rel => exact ⟨j + 1, g, c, by omega, by go_num, by rw [HZ2.out], by rw [HZ2.out]; exact keptS HO2.out ⟨rfl, rfl, rfl, Nat.le_refl _, fun _ _ => rfl⟩, by first | exact B2q _ _ | exact below_dkS B2⟩
                case measure => simp [intOf]; omega
              · have HZ2 : Hid (sortedL (ns.take (j + 1)) = out.take k ++ [(h, t)] ++ out.drop k) := by rw [Hid, HS.out, HZ.out, if_neg he]
                have hzb : (z == h) = false := by simp [he]
                clear HS HZ hz
                go_wp2
                go_quiet (fail)
                go_wp2
                go_quiet (fail)
                generalize hwq : (World.drewN (World.drewN wr _) _) = wq
                have Q2 : Below w.heap.size w wq := by rw [← hwq]; exact below_dkS (below_dkS B2)
                have HOq := hidOwn (keptS HO2.out (w' := wq) (by rw [← hwq]; exact ⟨rfl, rfl, rfl, Nat.le_refl _, fun _ _ => rfl⟩))
                have c1q : wq.cell? ⟨b, off + j * 2, none⟩ = some (.string ⟨h.toArray⟩) := (Q2.cell (p := ⟨b, off + j * 2, none⟩) hblt).trans C1.out
                have c2q : wq.cell? ⟨b, off + j * 2 + 1, none⟩ = some (.string ⟨t.toArray⟩) := (Q2.cell (p := ⟨b, off + j * 2 + 1, none⟩) hblt).trans C2.out
                have sq := Q2.size
                have hglq := (HOq.out.lt g rfl)
                have OL := hidOwn (World.ownsRow_lit (e := 43) (size := 2) wq #[] 0 (base := wq.heap.size) (Nat.le_refl _) (Nat.zero_le _) rfl)
                have QA : Below w.heap.size w (wq.alloc (.cells #[] 43)) := Q2.alloc sq _
                have HFA : Hid (∀ i u, (pcells (out.take k))[i]? = some u → (wq.alloc (.cells #[] 43)).cell? ((⟨g, 0, none⟩ : Addr).add i) = some u) := by
                  have := flat_part (keptS HOq.out ((Below.refl _ _).alloc (Nat.le_refl _) (.cells #[] 43))) 0 k
                  rw [Hid]
                  simpa using this
                have HLA : Hid ((pcells (out.take k)).length = k * 2) := by rw [Hid, pcells_length, List.length_take, Nat.min_eq_left hk]
                have HLC : Hid ((pcells (out.drop k)).length = (out.length - k) * 2) := by rw [Hid, pcells_length, List.length_drop]
                have HA3 : Hid (∀ w3 : World, (wq.alloc (.cells #[] 43)).grownBy w3 (Value.slice (some ⟨wq.heap.size, 0, none⟩) 0 0).ownBlock → Below wq.heap.size wq w3 ∧ Below w.heap.size w w3 ∧ wq.heap.size < w3.heap.size ∧ w3.cell? ⟨b, off + j * 2, none⟩ = some (.string ⟨h.toArray⟩) ∧ w3.cell? ⟨b, off + j * 2 + 1, none⟩ = some (.string ⟨t.toArray⟩)) := by
                  intro w3 hg3
                  have Bx : Below wq.heap.size wq w3 := ((Below.refl _ _).alloc (Nat.le_refl _) _).grown hg3 (by simp) (fun k hk => by simp [Value.ownBlock] at hk; omega)
                  have By := Q2.trans (Bx.mono sq)
                  exact ⟨Bx, By, by have := hg3.size; simp at this; omega, (By.cell (p := ⟨b, off + j * 2, none⟩) hblt).trans C1.out, (By.cell (p := ⟨b, off + j * 2 + 1, none⟩) hblt).trans C2.out⟩
                have HA4 : Hid (∀ (w3 w4 : World) (v3 : Value) (n3 : Nat) (x3 : List Value), Below wq.heap.size wq w3 → wq.heap.size < w3.heap.size → w3.ownsRow wq.heap.size 43 2 v3 n3 x3 → (w3.alloc (.cells #[.string ⟨h.toArray⟩, .string ⟨t.toArray⟩] 43)).grownBy w4 v3.ownBlock → Below wq.heap.size wq w4 ∧ wq.heap.size < w4.heap.size ∧ (∀ i u, (pcells (out.drop k))[i]? = some u → w4.cell? ((⟨g, k * 2, none⟩ : Addr).add i) = some u)) := by
                  intro w3 w4 v3 n3 x3 Bx hsx ho hg4
                  have Bz : Below wq.heap.size wq w4 := (Bx.alloc (by omega) _).grown hg4 (by simp; omega) (fun k hk => (ho.lt k hk).1)
                  refine ⟨Bz, by have := hg4.size; simp at this; omega, ?_⟩
                  have := flat_part (keptS HOq.out Bz) k (out.length - k)
                  rw [List.take_of_length_le (by rw [List.length_drop]; omega)] at this
                  exact this
                have hkc' : (k : Int) ≤ (c : Int) := by omega
                have hkl' : (k : Int) ≤ (out.length : Int) := by omega
                clear hwq HO2 HO c1 c2 B2
                have hck : ¬ c = k := by omega
                go_wp2_with (first | (at_builtin; refine wpList_append_own _ rfl _ _ 24 rfl wq.heap.size 43 i0 (.agg #[.string ⟨#[]⟩, .string ⟨#[]⟩]) 2 32 Tryz.underlying24 hi0 hz0 hz1 hz2 rfl (by decide) v4 (0 + k + 1) _ rfl OV4.out ⟨g, k * 2, none⟩ (out.length - k) (c - k) (pcells (out.drop k)) rfl HLC.out HF4 (poneS _) (by unfold maxLen; omega) (by omega) (by first | omega | (simp <;> omega)) ?_; intro v6 w6 hown6 hgrow6 hnil6) | (at_builtin; refine wpList_append_own _ rfl _ _ 24 rfl wq.heap.size 43 i0 (.agg #[.string ⟨#[]⟩, .string ⟨#[]⟩]) 2 32 Tryz.underlying24 hi0 hz0 hz1 hz2 rfl (by decide) v3 (0 + k) _ rfl (OV3.out.alloc _) ⟨w3.heap.size, 0, none⟩ 1 1 [.string ⟨h.toArray⟩, .string ⟨t.toArray⟩] rfl rfl (World.news_of_block (cs := #[.string ⟨h.toArray⟩, .string ⟨t.toArray⟩]) (t := 43) (fr := (0, 0)) (heap_alloc_new w3 _)) (by simp [Value.oneCell']) (by unfold maxLen; omega) (by omega) (by first | omega | (simp <;> omega)) ?_; intro v4 w4 hown4 hgrow4 hnil4; obtain ⟨B4, hs4, HF4⟩ := HA4.out w3 w4 v3 _ _ Bx3 hs3 OV3.out hgrow4; have OV4 := hidOwn hown4; clear hown4 hgrow4 hnil4 OV3) | (at_builtin; refine wpList_append_own _ rfl _ _ 24 rfl wq.heap.size 43 i0 (.agg #[.string ⟨#[]⟩, .string ⟨#[]⟩]) 2 32 Tryz.underlying24 hi0 hz0 hz1 hz2 rfl (by decide) (.slice (some ⟨wq.heap.size, 0, none⟩) 0 0) 0 _ rfl OL.out ⟨g, 0, none⟩ k c (pcells (out.take k)) rfl HLA.out HFA.out (poneS _) (by unfold maxLen; omega) (by omega) (by first | omega | (simp <;> omega)) ?_; intro v3 w3 hown3 hgrow3 hnil3; obtain ⟨Bx3, By3, hs3, c1r, c2r⟩ := HA3.out w3 hgrow3; have OV3 := hidOwn hown3; clear hown3 hgrow3 hnil3 c1q c2q))
                have B6 : Below w.heap.size w w6 := Q2.trans ((B4.grown hgrow6 (by omega) (fun k hk => (OV4.out.lt k hk).1)).mono sq)
                have HE6 : Hid (w6.ownsRow w.heap.size 43 2 v6 (sortedL (ns.take (j + 1))).length (pcells (sortedL (ns.take (j + 1))))) := by
                  have e1 : (sortedL (ns.take (j + 1))).length = 0 + k + 1 + (out.length - k) := by rw [HZ2.out]; simp; omega
                  have e2 : pcells (sortedL (ns.take (j + 1))) = [] ++ pcells (out.take k) ++ [.string ⟨h.toArray⟩, .string ⟨t.toArray⟩] ++ pcells (out.drop k) := by rw [HZ2.out, pcells_app, pcells_app]; rfl
                  rw [Hid, e1, e2]
                  have := hown6.mono sq
                  first | exact this | (rw [hdk.out] at *; simpa [pcells] using this)
                obtain ⟨g6, c6, rfl⟩ : ∃ g6 c6, v6 = .slice (some ⟨g6, 0, none⟩) (sortedL (ns.take (j + 1))).length c6 := by
                  rcases own_cases2 HE6.out with ⟨e, hn, _⟩ | ⟨g6, c6, e, _⟩
                  · exfalso; rw [HZ2.out] at hn; simp at hn
                  · exact ⟨g6, c6, e⟩
                clear hown6 hgrow6 hnil6 HA3 HA4 HFA HLA HLC OL OV4 HZ2
                go_wp2
                go_roundw
                case rel => exact ⟨j + 1, g6, c6, by omega, by go_num, rfl, HE6, B6⟩
                case measure => simp [intOf]; omega
          · have hk1 : ¬ (k : Int) < (out.length : Int) := by omega
            have hko : k = out.length := by omega
            have hpk : stPlace out h = k := by omega
            have HZ2 : Hid (sortedL (ns.take (j + 1)) = out.take k ++ [(h, t)] ++ out.drop k) := by
              rw [Hid, HS.out, stIns]; simp only [hpk]
              rw [if_neg (fun x => by omega)]
            have HKO : Hid (k = out.length) := hko
            clear HS hpk hko
            go_wp2
            go_quiet (fail)
            go_wp2
            go_quiet (fail)
            generalize hwq : (World.drewN (World.drewN wr _) _) = wq
            have Q2 : Below w.heap.size w wq := by rw [← hwq]; exact below_dkS (below_dkS B2)
            have HOq := hidOwn (keptS HO2.out (w' := wq) (by rw [← hwq]; exact ⟨rfl, rfl, rfl, Nat.le_refl _, fun _ _ => rfl⟩))
            have c1q : wq.cell? ⟨b, off + j * 2, none⟩ = some (.string ⟨h.toArray⟩) := (Q2.cell (p := ⟨b, off + j * 2, none⟩) hblt).trans C1.out
            have c2q : wq.cell? ⟨b, off + j * 2 + 1, none⟩ = some (.string ⟨t.toArray⟩) := (Q2.cell (p := ⟨b, off + j * 2 + 1, none⟩) hblt).trans C2.out
            have sq := Q2.size
            have hglq := (HOq.out.lt g rfl)
            have OL := hidOwn (World.ownsRow_lit (e := 43) (size := 2) wq #[] 0 (base := wq.heap.size) (Nat.le_refl _) (Nat.zero_le _) rfl)
            have QA : Below w.heap.size w (wq.alloc (.cells #[] 43)) := Q2.alloc sq _
            have HFA : Hid (∀ i u, (pcells (out.take k))[i]? = some u → (wq.alloc (.cells #[] 43)).cell? ((⟨g, 0, none⟩ : Addr).add i) = some u) := by
              have := flat_part (keptS HOq.out ((Below.refl _ _).alloc (Nat.le_refl _) (.cells #[] 43))) 0 k
              rw [Hid]
              simpa using this
            have HLA : Hid ((pcells (out.take k)).length = k * 2) := by rw [Hid, pcells_length, List.length_take, Nat.min_eq_left hk]
            have HLC : Hid ((pcells (out.drop k)).length = (out.length - k) * 2) := by rw [Hid, pcells_length, List.length_drop]
            have HA3 : Hid (∀ w3 : World, (wq.alloc (.cells #[] 43)).grownBy w3 (Value.slice (some ⟨wq.heap.size, 0, none⟩) 0 0).ownBlock → Below wq.heap.size wq w3 ∧ Below w.heap.size w w3 ∧ wq.heap.size < w3.heap.size ∧ w3.cell? ⟨b, off + j * 2, none⟩ = some (.string ⟨h.toArray⟩) ∧ w3.cell? ⟨b, off + j * 2 + 1, none⟩ = some (.string ⟨t.toArray⟩)) := by
              intro w3 hg3
              have Bx : Below wq.heap.size wq w3 := ((Below.refl _ _).alloc (Nat.le_refl _) _).grown hg3 (by simp) (fun k hk => by simp [Value.ownBlock] at hk; omega)
              have By := Q2.trans (Bx.mono sq)
              exact ⟨Bx, By, by have := hg3.size; simp at this; omega, (By.cell (p := ⟨b, off + j * 2, none⟩) hblt).trans C1.out, (By.cell (p := ⟨b, off + j * 2 + 1, none⟩) hblt).trans C2.out⟩
            have HA4 : Hid (∀ (w3 w4 : World) (v3 : Value) (n3 : Nat) (x3 : List Value), Below wq.heap.size wq w3 → wq.heap.size < w3.heap.size → w3.ownsRow wq.heap.size 43 2 v3 n3 x3 → (w3.alloc (.cells #[.string ⟨h.toArray⟩, .string ⟨t.toArray⟩] 43)).grownBy w4 v3.ownBlock → Below wq.heap.size wq w4 ∧ wq.heap.size < w4.heap.size ∧ (∀ i u, (pcells (out.drop k))[i]? = some u → w4.cell? ((⟨g, k * 2, none⟩ : Addr).add i) = some u)) := by
              intro w3 w4 v3 n3 x3 Bx hsx ho hg4
              have Bz : Below wq.heap.size wq w4 := (Bx.alloc (by omega) _).grown hg4 (by simp; omega) (fun k hk => (ho.lt k hk).1)
              refine ⟨Bz, by have := hg4.size; simp at this; omega, ?_⟩
              have := flat_part (keptS HOq.out Bz) k (out.length - k)
              rw [List.take_of_length_le (by rw [List.length_drop]; omega)] at this
              exact this
            have hkc' : (k : Int) ≤ (c : Int) := by omega
            have hkl' : (k : Int) ≤ (out.length : Int) := by omega
            clear hwq HO2 HO c1 c2 B2
            by_cases hck : c = k
            · have hdk : Hid (out.drop k = []) := List.drop_eq_nil_of_le (by omega)
              go_wp2_with (first | (at_builtin; refine wpList_append_own _ rfl _ _ 24 rfl wq.heap.size 43 i0 (.agg #[.string ⟨#[]⟩, .string ⟨#[]⟩]) 2 32 Tryz.underlying24 hi0 hz0 hz1 hz2 rfl (by decide) v4 (0 + k + 1) _ rfl OV4.out ⟨g, 0, none⟩ (out.length - k) 0 (pcells (out.drop k)) rfl HLC.out (fun i u hu => by rw [hdk.out] at hu; simp [pcells] at hu) (poneS _) (by unfold maxLen; omega) (by omega) (by first | omega | (simp <;> omega)) ?_; intro v6 w6 hown6 hgrow6 hnil6) | (at_builtin; refine wpList_append_own _ rfl _ _ 24 rfl wq.heap.size 43 i0 (.agg #[.string ⟨#[]⟩, .string ⟨#[]⟩]) 2 32 Tryz.underlying24 hi0 hz0 hz1 hz2 rfl (by decide) v3 (0 + k) _ rfl (OV3.out.alloc _) ⟨w3.heap.size, 0, none⟩ 1 1 [.string ⟨h.toArray⟩, .string ⟨t.toArray⟩] rfl rfl (World.news_of_block (cs := #[.string ⟨h.toArray⟩, .string ⟨t.toArray⟩]) (t := 43) (fr := (0, 0)) (heap_alloc_new w3 _)) (by simp [Value.oneCell']) (by unfold maxLen; omega) (by omega) (by first | omega | (simp <;> omega)) ?_; intro v4 w4 hown4 hgrow4 hnil4; obtain ⟨B4, hs4, HF4⟩ := HA4.out w3 w4 v3 _ _ Bx3 hs3 OV3.out hgrow4; have OV4 := hidOwn hown4; clear hown4 hgrow4 hnil4 OV3) | (at_builtin; refine wpList_append_own _ rfl _ _ 24 rfl wq.heap.size 43 i0 (.agg #[.string ⟨#[]⟩, .string ⟨#[]⟩]) 2 32 Tryz.underlying24 hi0 hz0 hz1 hz2 rfl (by decide) (.slice (some ⟨wq.heap.size, 0, none⟩) 0 0) 0 _ rfl OL.out ⟨g, 0, none⟩ k k (pcells (out.take k)) rfl HLA.out HFA.out (poneS _) (by unfold maxLen; omega) (by omega) (by first | omega | (simp <;> omega)) ?_; intro v3 w3 hown3 hgrow3 hnil3; obtain ⟨Bx3, By3, hs3, c1r, c2r⟩ := HA3.out w3 hgrow3; have OV3 := hidOwn hown3; clear hown3 hgrow3 hnil3 c1q c2q))
              have B6 : Below w.heap.size w w6 := Q2.trans ((B4.grown hgrow6 (by omega) (fun k hk => (OV4.out.lt k hk).1)).mono sq)
              have HE6 : Hid (w6.ownsRow w.heap.size 43 2 v6 (sortedL (ns.take (j + 1))).length (pcells (sortedL (ns.take (j + 1))))) := by
                have e1 : (sortedL (ns.take (j + 1))).length = 0 + k + 1 + (out.length - k) := by rw [HZ2.out]; simp; omega
                have e2 : pcells (sortedL (ns.take (j + 1))) = [] ++ pcells (out.take k) ++ [.string ⟨h.toArray⟩, .string ⟨t.toArray⟩] ++ pcells (out.drop k) := by rw [HZ2.out, pcells_app, pcells_app]; rfl
                rw [Hid, e1, e2]
                have := hown6.mono sq
                first | exact this | (rw [hdk.out] at *; simpa [pcells] using this)
              obtain ⟨g6, c6, rfl⟩ : ∃ g6 c6, v6 = .slice (some ⟨g6, 0, none⟩) (sortedL (ns.take (j + 1))).length c6 := by
                rcases own_cases2 HE6.out with ⟨e, hn, _⟩ | ⟨g6, c6, e, _⟩
                · exfalso; rw [HZ2.out] at hn; simp at hn
                · exact ⟨g6, c6, e⟩
              clear hown6 hgrow6 hnil6 HA3 HA4 HFA HLA HLC OL OV4 HZ2
              go_wp2
              go_roundw
              case rel => exact ⟨j + 1, g6, c6, by omega, by go_num, rfl, HE6, B6⟩
              case measure => simp [intOf]; omega
            · go_wp2_with (first | (at_builtin; refine wpList_append_own _ rfl _ _ 24 rfl wq.heap.size 43 i0 (.agg #[.string ⟨#[]⟩, .string ⟨#[]⟩]) 2 32 Tryz.underlying24 hi0 hz0 hz1 hz2 rfl (by decide) v4 (0 + k + 1) _ rfl OV4.out ⟨g, k * 2, none⟩ (out.length - k) (c - k) (pcells (out.drop k)) rfl HLC.out HF4 (poneS _) (by unfold maxLen; omega) (by omega) (by first | omega | (simp <;> omega)) ?_; intro v6 w6 hown6 hgrow6 hnil6) | (at_builtin; refine wpList_append_own _ rfl _ _ 24 rfl wq.heap.size 43 i0 (.agg #[.string ⟨#[]⟩, .string ⟨#[]⟩]) 2 32 Tryz.underlying24 hi0 hz0 hz1 hz2 rfl (by decide) v3 (0 + k) _ rfl (OV3.out.alloc _) ⟨w3.heap.size, 0, none⟩ 1 1 [.string ⟨h.toArray⟩, .string ⟨t.toArray⟩] rfl rfl (World.news_of_block (cs := #[.string ⟨h.toArray⟩, .string ⟨t.toArray⟩]) (t := 43) (fr := (0, 0)) (heap_alloc_new w3 _)) (by simp [Value.oneCell']) (by unfold maxLen; omega) (by omega) (by first | omega | (simp <;> omega)) ?_; intro v4 w4 hown4 hgrow4 hnil4; obtain ⟨B4, hs4, HF4⟩ := HA4.out w3 w4 v3 _ _ Bx3 hs3 OV3.out hgrow4; have OV4 := hidOwn hown4; clear hown4 hgrow4 hnil4 OV3) | (at_builtin; refine wpList_append_own _ rfl _ _ 24 rfl wq.heap.size 43 i0 (.agg #[.string ⟨#[]⟩, .string ⟨#[]⟩]) 2 32 Tryz.underlying24 hi0 hz0 hz1 hz2 rfl (by decide) (.slice (some ⟨wq.heap.size, 0, none⟩) 0 0) 0 _ rfl OL.out ⟨g, 0, none⟩ k c (pcells (out.take k)) rfl HLA.out HFA.out (poneS _) (by unfold maxLen; omega) (by omega) (by first | omega | (simp <;> omega)) ?_; intro v3 w3 hown3 hgrow3 hnil3; obtain ⟨Bx3, By3, hs3, c1r, c2r⟩ := HA3.out w3 hgrow3; have OV3 := hidOwn hown3; clear hown3 hgrow3 hnil3 c1q c2q))
              have B6 : Below w.heap.size w w6 := Q2.trans ((B4.grown hgrow6 (by omega) (fun k hk => (OV4.out.lt k hk).1)).mono sq)
              have HE6 : Hid (w6.ownsRow w.heap.size 43 2 v6 (sortedL (ns.take (j + 1))).length (pcells (sortedL (ns.take (j + 1))))) := by
                have e1 : (sortedL (ns.take (j + 1))).length = 0 + k + 1 + (out.length - k) := by rw [HZ2.out]; simp; omega
                have e2 : pcells (sortedL (ns.take (j + 1))) = [] ++ pcells (out.take k) ++ [.string ⟨h.toArray⟩, .string ⟨t.toArray⟩] ++ pcells (out.drop k) := by rw [HZ2.out, pcells_app, pcells_app]; rfl
                rw [Hid, e1, e2]
                have := hown6.mono sq
                first | exact this | (rw [hdk.out] at *; simpa [pcells] using this)
              obtain ⟨g6, c6, rfl⟩ : ∃ g6 c6, v6 = .slice (some ⟨g6, 0, none⟩) (sortedL (ns.take (j + 1))).length c6 := by
                rcases own_cases2 HE6.out with ⟨e, hn, _⟩ | ⟨g6, c6, e, _⟩
                · exfalso; rw [HZ2.out] at hn; simp at hn
                · exact ⟨g6, c6, e⟩
              clear hown6 hgrow6 hnil6 HA3 HA4 HFA HLA HLC OL OV4 HZ2
              go_wp2
              go_roundw
              case rel => exact ⟨j + 1, g6, c6, by omega, by go_num, rfl, HE6, B6⟩
              case measure => simp [intOf]; omega
      · obtain rfl : j = ns.length := by omega
        have hj1 : ¬ (ns.length : Int) < (ns.length : Int) := by omega
        rw [List.take_length] at HO ⊢
        go_wp2
        go_ret
        exact ⟨g, c, rfl, HO.out, hbel⟩
end Go.Proofs.YtapmakefpmholaaGreatDoor
