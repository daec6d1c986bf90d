/-
  Contracts: a drawn text, drawn items of depth 0, 1, 2.
-/
import Derived.Test.YtgneihfhkaamfaaHurt
import Derived.Test.YtgneihfhkaamfaaTxt
import Derived.Test.YtgneihfhkaamfaaMathBack
namespace Go.Proofs.Ytgneihfhkaamfaa
open Go.RowKit
set_option linter.unusedVariables false

/-- A text of so many bytes at most. -/
def shortV (m : Nat) : Value → Bool
  | .string s => decide (s.size ≤ m)
  | _ => false

theorem short_is (m : Nat) (v : Value) (h : shortV m v = true) : ∃ l : List UInt8, l.length ≤ m ∧ v = .string ⟨l.toArray⟩ := by
  match v, h with
  | .string s, h => exact ⟨s.data.toList, by simpa [shortV] using h, by rw [← ba_eq]⟩

theorem tab_any {w w1 : World} {rd m k : Nat} {cs : Array Value} {t : TypeId} (hrd : rd < w.heap.size) (hG : (w.alloc (.cells cs t)).grownBy w1 (some rd)) (hall : cs.all (shortV m) = true) (hk : k < cs.size) :
    ∃ l : List UInt8, l.length ≤ m ∧ w1.cell? ⟨w.heap.size, k, none⟩ = some (.string ⟨l.toArray⟩) := by
  have hb : w1.heap[w.heap.size]? = some (.cells cs t) := by rw [hG.block _ (by simp) (by simp; omega)]; exact heap_alloc_new w _
  have hv := (Array.all_eq_true.1 hall) k hk
  obtain ⟨l, hl, e⟩ := short_is m _ hv
  refine ⟨l, hl, ?_⟩
  rw [← e]
  simp [World.cell?, hb, hk]

set_option maxRecDepth 100000 in
set_option maxHeartbeats 400000 in
theorem text_any (rd n cap : Nat) (a : Option Addr) (w : World) (hn : n ≤ 1048576) (h : Rd rd a n cap w) :
    Calls Try.prog 32 #[.pointer (some ⟨rd, 0, none⟩)] w fun e w' => ∃ l : List UInt8, l.length ≤ 56 ∧ e = .returned (.string ⟨l.toArray⟩) ∧ Rd rd a n cap w' ∧ w.grownBy w' (some rd) := by
  have hrd := h.lt
  have HR0 : Hid (Rd rd a n cap w) := h
  clear h
  go_enter Try.func32, Try.ntmps32
  go_wp2_with fail
  refine (below_any rd n cap 12 12 a _ rfl (by omega) (by omega) hn (HR0.out.keptNone ((Below.refl _ _).alloc (Nat.le_refl _) _))).mono ?_
  rintro e w1 ⟨k, hk, rfl, hR, hG⟩
  obtain ⟨l, hl, hc⟩ := tab_any (m := 56) (k := k) hrd hG (by decide +kernel) hk
  have HR : Hid (Rd rd a n cap w1) := hR
  have HG : Hid (w.grownBy w1 (some rd)) := (World.grownBy_alloc w _ (some rd)).trans hG
  have hk' : (k : Int) < 12 := by omega
  clear hR hG HR0
  go_wp2
  go_ret
  exact ⟨l, hl, rfl, HR.out, HG.out⟩

theorem l1text_is (l : List UInt8) (w : World) (hl : l.length ≤ 60000) :
    Calls Try.prog 37 #[.string ⟨l.toArray⟩] w fun e w' => e = .returned (.string ⟨(textB l).toArray⟩) ∧ Below w.heap.size w w' := by
  have h := spec_l1Text ⟨l.toArray⟩ w (by simp [ByteArray.size]; omega)
  have e1 : (ByteArray.mk l.toArray).data.toList = l := by simp
  rw [e1] at h
  exact h

theorem l1wrap_is (l : List UInt8) (w : World) (hl : l.length ≤ 60000) :
    Calls Try.prog 45 #[.string ⟨l.toArray⟩, .int .i64 192] w fun e w' => e = .returned (.string ⟨(wrapB l 192).toArray⟩) ∧ Below w.heap.size w w' := by
  have h := spec_l1Wrap ⟨l.toArray⟩ 192 w (by simp [ByteArray.size]; omega) (by omega)
  have e1 : (ByteArray.mk l.toArray).data.toList = l := by simp
  rw [e1] at h
  exact h

theorem grown_below {w w1 w2 : World} {rd : Nat} (h : w.grownBy w1 (some rd)) (hb : Below w1.heap.size w1 w2) : w.grownBy w2 (some rd) :=
  h.trans ⟨hb.os, hb.tape, hb.output, hb.size, fun k hk _ => hb.block k hk⟩

set_option maxRecDepth 100000 in
set_option maxHeartbeats 400000 in
theorem item_0 (rd n cap : Nat) (a : Option Addr) (w : World) (hn : n ≤ 1048576) (h : Rd rd a n cap w) :
    Calls Try.prog 40 #[.pointer (some ⟨rd, 0, none⟩), .int .i64 0] w fun e w' => ∃ l : List UInt8, l.length ≤ 60 ∧ e = .returned (.string ⟨l.toArray⟩) ∧ Rd rd a n cap w' ∧ w.grownBy w' (some rd) := by
  have HK := text_any rd n cap a w hn h
  clear h
  go_enter Try.func40, Try.ntmps40
  go_wp2_with fail
  refine HK.mono ?_
  rintro e w1 ⟨l, hl, rfl, hR, hG⟩
  have HK2 := l1text_is l w1 (by omega)
  have HR : Hid (Rd rd a n cap w1) := hR
  have HG : Hid (w.grownBy w1 (some rd)) := hG
  clear hR hG HK
  go_wp2_with fail
  refine HK2.mono ?_
  rintro e w2 ⟨rfl, hb⟩
  have HR2 : Hid (Rd rd a n cap w2) := HR.out.keptNone hb
  have HG2 : Hid (w.grownBy w2 (some rd)) := grown_below HG.out hb
  have htl := textB_len l (by omega)
  clear HR HG HK2 hb
  go_wp2
  go_ret
  exact ⟨textB l, by omega, rfl, HR2.out, HG2.out⟩

set_option maxRecDepth 100000 in
set_option maxHeartbeats 1000000 in
theorem item_1 (rd n cap : Nat) (a : Option Addr) (w : World) (hn : n ≤ 1048576) (h : Rd rd a n cap w) :
    Calls Try.prog 40 #[.pointer (some ⟨rd, 0, none⟩), .int .i64 1] w fun e w' => ∃ l : List UInt8, l.length ≤ 183 ∧ e = .returned (.string ⟨l.toArray⟩) ∧ Rd rd a n cap w' ∧ w.grownBy w' (some rd) := by
  have HK := once_any rd n cap 3 3 a w rfl (by omega) (by omega) hn h
  clear h
  go_enter Try.func40, Try.ntmps40
  go_wp2_with fail
  refine HK.mono ?_
  rintro e w1 ⟨t, rfl, hR, hG⟩
  have HG : Hid (w.grownBy w1 (some rd)) := hG
  clear HK hG
  cases t
  · have HK1 := text_any rd n cap a w1 hn hR
    clear hR
    go_wp2_with fail
    refine HK1.mono ?_
    rintro e w2 ⟨l, hl, rfl, hR2, hG2⟩
    have HK2 := l1text_is l w2 (by omega)
    have HR2 : Hid (Rd rd a n cap w2) := hR2
    have HG2 : Hid (w.grownBy w2 (some rd)) := HG.out.trans hG2
    clear hR2 hG2 HK1 HG
    go_wp2_with fail
    refine HK2.mono ?_
    rintro e w3 ⟨rfl, hb⟩
    have HR3 : Hid (Rd rd a n cap w3) := HR2.out.keptNone hb
    have HG3 : Hid (w.grownBy w3 (some rd)) := grown_below HG2.out hb
    have htl := textB_len l (by omega)
    clear HR2 HG2 HK2 hb
    go_wp2
    go_ret
    exact ⟨textB l, by omega, rfl, HR3.out, HG3.out⟩
  · have HK1 := below_any rd n cap 4 4 a w1 rfl (by omega) (by omega) hn hR
    clear hR
    go_wp2_with fail
    refine HK1.mono ?_
    rintro e w2 ⟨y, hy, rfl, hR2, hG2⟩
    have HG2 := HG.out.trans hG2
    clear hG2 HK1 HG
    go_wp2
    go_loopw [5, 6] (fun v i wr => ∃ j : Nat, ∃ l : List UInt8, l.length + j * 60 ≤ 3 * 60 ∧ i = .int .i64 (j : Int) ∧ v = .string ⟨l.toArray⟩ ∧ Rd rd a n cap wr ∧ w.grownBy wr (some rd)) (fun _ i _ => (intOf i).toNat)
    case atStart => exact ⟨y, [], by simp; omega, rfl, rfl, hR2, HG2⟩
    case round =>
      obtain ⟨j, l, hjl, rfl, rfl, hRr, hGr⟩ := hrel
      clear hR2 HG2
      by_cases hlt : 0 < j
      · have HK := item_0 rd n cap a wr hn hRr
        have HGr : Hid (w.grownBy wr (some rd)) := hGr
        clear hRr hGr
        go_wp2_with fail
        refine HK.mono ?_
        rintro e w3 ⟨q, hq, rfl, hR3, hG3⟩
        have HR3 : Hid (Rd rd a n cap w3) := hR3
        have HG3 : Hid (w.grownBy w3 (some rd)) := HGr.out.trans hG3
        have happ := ba_app2 l q
        clear hR3 hG3 HK HGr
        go_wp2
        go_roundw
        case rel => exact ⟨j - 1, l ++ q, by simp; omega, by go_num, by simp, HR3.out, HG3.out⟩
        case measure => simp [intOf]; omega
      · have HK := l1wrap_is l wr (by omega)
        have HR3 : Hid (Rd rd a n cap wr) := hRr
        have HG3 : Hid (w.grownBy wr (some rd)) := hGr
        clear hRr hGr
        go_wp2_with fail
        refine HK.mono ?_
        rintro e w3 ⟨rfl, hb⟩
        have HR4 : Hid (Rd rd a n cap w3) := HR3.out.keptNone hb
        have HG4 : Hid (w.grownBy w3 (some rd)) := grown_below HG3.out hb
        have htl := wrapB_len l 192 (by omega)
        clear HR3 HG3 HK hb
        go_wp2
        go_ret
        exact ⟨wrapB l 192, by omega, rfl, HR4.out, HG4.out⟩

set_option maxRecDepth 100000 in
set_option maxHeartbeats 1000000 in
theorem item_2 (rd n cap : Nat) (a : Option Addr) (w : World) (hn : n ≤ 1048576) (h : Rd rd a n cap w) :
    Calls Try.prog 40 #[.pointer (some ⟨rd, 0, none⟩), .int .i64 2] w fun e w' => ∃ l : List UInt8, l.length ≤ 552 ∧ e = .returned (.string ⟨l.toArray⟩) ∧ Rd rd a n cap w' ∧ w.grownBy w' (some rd) := by
  have HK := once_any rd n cap 3 3 a w rfl (by omega) (by omega) hn h
  clear h
  go_enter Try.func40, Try.ntmps40
  go_wp2_with fail
  refine HK.mono ?_
  rintro e w1 ⟨t, rfl, hR, hG⟩
  have HG : Hid (w.grownBy w1 (some rd)) := hG
  clear HK hG
  cases t
  · have HK1 := text_any rd n cap a w1 hn hR
    clear hR
    go_wp2_with fail
    refine HK1.mono ?_
    rintro e w2 ⟨l, hl, rfl, hR2, hG2⟩
    have HK2 := l1text_is l w2 (by omega)
    have HR2 : Hid (Rd rd a n cap w2) := hR2
    have HG2 : Hid (w.grownBy w2 (some rd)) := HG.out.trans hG2
    clear hR2 hG2 HK1 HG
    go_wp2_with fail
    refine HK2.mono ?_
    rintro e w3 ⟨rfl, hb⟩
    have HR3 : Hid (Rd rd a n cap w3) := HR2.out.keptNone hb
    have HG3 : Hid (w.grownBy w3 (some rd)) := grown_below HG2.out hb
    have htl := textB_len l (by omega)
    clear HR2 HG2 HK2 hb
    go_wp2
    go_ret
    exact ⟨textB l, by omega, rfl, HR3.out, HG3.out⟩
  · have HK1 := below_any rd n cap 4 4 a w1 rfl (by omega) (by omega) hn hR
    clear hR
    go_wp2_with fail
    refine HK1.mono ?_
    rintro e w2 ⟨y, hy, rfl, hR2, hG2⟩
    have HG2 := HG.out.trans hG2
    clear hG2 HK1 HG
    go_wp2
    go_loopw [5, 6] (fun v i wr => ∃ j : Nat, ∃ l : List UInt8, l.length + j * 183 ≤ 3 * 183 ∧ i = .int .i64 (j : Int) ∧ v = .string ⟨l.toArray⟩ ∧ Rd rd a n cap wr ∧ w.grownBy wr (some rd)) (fun _ i _ => (intOf i).toNat)
    case atStart => exact ⟨y, [], by simp; omega, rfl, rfl, hR2, HG2⟩
    case round =>
      obtain ⟨j, l, hjl, rfl, rfl, hRr, hGr⟩ := hrel
      clear hR2 HG2
      by_cases hlt : 0 < j
      · have HK := item_1 rd n cap a wr hn hRr
        have HGr : Hid (w.grownBy wr (some rd)) := hGr
        clear hRr hGr
        go_wp2_with fail
        refine HK.mono ?_
        rintro e w3 ⟨q, hq, rfl, hR3, hG3⟩
        have HR3 : Hid (Rd rd a n cap w3) := hR3
        have HG3 : Hid (w.grownBy w3 (some rd)) := HGr.out.trans hG3
        have happ := ba_app2 l q
        clear hR3 hG3 HK HGr
        go_wp2
        go_roundw
        case rel => exact ⟨j - 1, l ++ q, by simp; omega, by go_num, by simp, HR3.out, HG3.out⟩
        case measure => simp [intOf]; omega
      · have HK := l1wrap_is l wr (by omega)
        have HR3 : Hid (Rd rd a n cap wr) := hRr
        have HG3 : Hid (w.grownBy wr (some rd)) := hGr
        clear hRr hGr
        go_wp2_with fail
        refine HK.mono ?_
        rintro e w3 ⟨rfl, hb⟩
        have HR4 : Hid (Rd rd a n cap w3) := HR3.out.keptNone hb
        have HG4 : Hid (w.grownBy w3 (some rd)) := grown_below HG3.out hb
        have htl := wrapB_len l 192 (by omega)
        clear HR3 HG3 HK hb
        go_wp2
        go_ret
        exact ⟨wrapB l 192, by omega, rfl, HR4.out, HG4.out⟩
end Go.Proofs.Ytgneihfhkaamfaa
