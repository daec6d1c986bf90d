/-
  Contracts: the program's frameAhead and TakeFrames.
-/
import Derived.Test.YtgoohohkgmiemaaDoorFrame
import Derived.Test.YtgoohohkgmiemaaDoorStrsAll
namespace Go.Proofs.YtgoohohkgmiemaaDoor
open Go.RowKit
set_option linter.unusedVariables false

/-- What frameAhead answers. -/
def aheadV : Option (List UInt8) → Value
  | none => .tuple #[.string ⟨[].toArray⟩, .bool false]
  | some d => .tuple #[.string ⟨d.toArray⟩, .bool true]

set_option maxRecDepth 100000 in
set_option maxHeartbeats 1000000 in
theorem impl_frameAhead (l : List UInt8) (w : World) (hl : l.length ≤ 1048576) (hT : Tab w) :
    Calls Tryd.prog 21 #[.string ⟨l.toArray⟩] w fun e w' => e = .returned (aheadV (frameAt l)) ∧ Below w.heap.size w w' := by
  have hz : (ByteArray.mk l.toArray).size = l.length := by simp [ByteArray.size]
  have HT : Hid (Tab w) := hT
  by_cases h12 : l.length < 12
  · have HR : Hid (frameAt l = none) := by rw [Hid, frameAt, if_neg (by omega)]
    rw [HR.out]
    clear hT HR
    go_enter Tryd.func21, Tryd.ntmps21
    go_wp2
    go_ret2
    exact ⟨rfl, Below.refl _ _⟩
  · clear hT
    have hv4 := valB_four l
    obtain ⟨n, hn⟩ : ∃ n, n = valB (l.take 4) := ⟨_, rfl⟩
    rw [← hn] at hv4
    have HN : Hid (n = valB (l.take 4)) := hn
    clear hn
    go_enter Tryd.func21, Tryd.ntmps21
    go_wp2
    go_loop [4, 5, 11] (fun n _ i => ∃ j : Nat, j ≤ 4 ∧ i = .int .i64 (j : Int) ∧ n = .int .i64 (valB (l.take j) : Int)) (fun _ _ i => 4 - (intOf i).toNat)
    case atStart => exact ⟨0, Nat.zero_le _, rfl, rfl⟩
    case round =>
      obtain ⟨j, hj, rfl, rfl⟩ := hrel
      by_cases hlt : j < 4
      · have hjr : j < l.length := by omega
        have hvj : valB (l.take j) < 16777216 := valB_lt3 l j (by omega)
        have hij := ix_at (P := Tryd.prog) Tryd.underlying9 l (j : Int) j rfl hjr
        have HS : Hid (valB (l.take (j + 1)) = 256 * valB (l.take j) + l[j].toNat) := valB_take_snoc l j hjr
        obtain ⟨x, hx⟩ : ∃ x, x = valB (l.take j) := ⟨_, rfl⟩
        obtain ⟨y, hy⟩ : ∃ y, y = l[j] := ⟨_, rfl⟩
        rw [← hx] at hvj HS ⊢
        rw [← hy] at hij HS
        have hyl := y.toNat_lt
        clear hx hy HN
        go_wp2
        go_round
        case rel => exact ⟨j + 1, by omega, by go_num, by rw [HS.out, i64_or256 x y.toNat hvj hyl]⟩
        case measure => simp [intOf]; omega
      · obtain rfl : j = 4 := by omega
        rw [← HN.out]
        by_cases hbig : 12 + n ≤ l.length
        · have hex := ext_mid l 12 n (by omega)
          have het := ext_to l (12 + n) (by omega)
          have hfi := frame_iff l n HN.out hbig
          have hd : ((l.drop 12).take n).length = n := by simp; omega
          have hat : frameAt l = if n ≤ 60000 ∧ (sumL ((l.drop 12).take n)).take 8 = (l.drop 4).take 8 then some ((l.drop 12).take n) else none := by
            unfold frameAt
            rw [← HN.out]
            by_cases hc : n ≤ 60000 ∧ (sumL ((l.drop 12).take n)).take 8 = (l.drop 4).take 8
            · rw [if_pos hc, if_pos ⟨by omega, hc.1, hbig, hc.2⟩]
            · rw [if_neg hc, if_neg (fun h => hc ⟨h.2.1, h.2.2.2⟩)]
          have HA : Hid (frameAt l = if frameL ((l.drop 12).take n) = l.take (12 + n) then some ((l.drop 12).take n) else none) := by
            rw [Hid, hat]
            by_cases hc : frameL ((l.drop 12).take n) = l.take (12 + n)
            · rw [if_pos hc, if_pos (hfi.1 hc)]
            · rw [if_neg hc, if_neg (fun h => hc (hfi.2 h))]
          obtain ⟨d, hdd⟩ : ∃ d, d = (l.drop 12).take n := ⟨_, rfl⟩
          rw [← hdd] at hex HA hd
          have K := fun W hW => impl_frameOf d W (by omega) hW
          have hzd : (ByteArray.mk d.toArray).size = d.length := by simp [ByteArray.size]
          obtain ⟨y, hy⟩ : ∃ y, y = l.take (12 + n) := ⟨_, rfl⟩
          rw [← hy] at het HA
          obtain ⟨z, hz9⟩ : ∃ z, z = frameL d := ⟨_, rfl⟩
          rw [← hz9] at HA K
          have HD : Hid (d.length = n) := hd
          clear hfi hat hdd hy hz9 HN hd hzd
          by_cases hyz : z = y
          · have HA' : Hid (frameAt l = some d) := by rw [Hid, HA.out, if_pos hyz]
            subst hyz
            clear HA
            go_wp2
            go_region_with (go_at_call 11
                            refine (K _ ?_).mono ?_
                            · exact HT.out
                            rintro e w1 ⟨rfl, b1⟩)
            all_goals
              have hb : Below w.heap.size w w1 := ⟨b1.os, b1.tape, b1.output, b1.size, b1.block⟩
              clear b1
              go_wp2
              go_ret2
              exact ⟨by rw [HA'.out]; rfl, hb⟩
          · have HA' : Hid (frameAt l = none) := by rw [Hid, HA.out, if_neg hyz]
            have hne : (z != y) = true := by rw [bne_iff_ne]; exact hyz
            have hneq : (z == y) = false := by rw [beq_eq_false_iff_ne]; exact hyz
            clear HA
            go_wp2
            go_region_with (go_at_call 11
                            refine (K _ ?_).mono ?_
                            · exact HT.out
                            rintro e w1 ⟨rfl, b1⟩)
            all_goals
              have hb : Below w.heap.size w w1 := ⟨b1.os, b1.tape, b1.output, b1.size, b1.block⟩
              clear b1
              go_wp2
              go_ret2
              exact ⟨by rw [HA'.out]; rfl, hb⟩
        · have HA' : Hid (frameAt l = none) := by
            rw [Hid, frameAt, if_neg]
            rw [← HN.out]; omega
          clear HN
          go_wp2
          go_ret2
          exact ⟨by rw [HA'.out]; rfl, Below.refl _ _⟩

theorem info9f : (Tryd.prog.info? 9).map (fun i => (i.zero, i.size, i.bytes)) = some (some (.string ⟨#[]⟩), 1, 16) := by kernel_rfl

/-- What TakeFrames answers. -/
def FramesPost (w : World) (l : List UInt8) (e : Ending) (w' : World) : Prop :=
  ∃ v, e = .returned (.tuple #[v, .int .i64 (endsF (framesL l) : Int)]) ∧ w'.ownsRow w.heap.size 9 1 v (framesL l).length (scells (framesL l)) ∧ Below w.heap.size w w' ∧ (framesL l).length ≤ 1048576 ∧ endsF (framesL l) ≤ l.length

theorem endsF_len (a : List (List UInt8)) : a.length ≤ endsF a := by
  induction a with
  | nil => simp
  | cons x r ih => simp [endsF]; omega

set_option maxRecDepth 100000 in
set_option maxHeartbeats 1000000 in
theorem impl_takeFrames (l : List UInt8) (w : World) (hl : l.length ≤ 1048576) (hT : Tab w) :
    Calls Tryd.prog 8 #[.string ⟨l.toArray⟩] w fun e w' => FramesPost w l e w' := by
  have hz : (ByteArray.mk l.toArray).size = l.length := by simp [ByteArray.size]
  obtain ⟨i0, hi0, hz0, hz1, hz2⟩ := info_parts info9f
  have HT : Hid (Tab w) := hT
  clear hT
  go_enter Tryd.func8, Tryd.ntmps8
  go_wp2
  go_loopw [4, 5] (fun v t wr => ∃ f p : Nat, ∃ done : List (List UInt8), t = .int .i64 (p : Int) ∧ p ≤ l.length ∧ (l.drop p).length ≤ f ∧ Hid (done ++ framesF f (l.drop p) = framesL l) ∧ Hid (endsF done = p) ∧ wr.ownsRow w.heap.size 9 1 v done.length (scells done) ∧ Below w.heap.size w wr) (fun _ t _ => l.length - (intOf t).toNat)
  case atStart => exact ⟨l.length, 0, [], rfl, Nat.zero_le _, by simp, by rw [Hid]; rfl, rfl, World.ownsRow_nil _ _ _ _, Below.refl _ _⟩
  case round =>
    obtain ⟨f, p, done, rfl, hp, hf, HF, HE, hown, hbel⟩ := hrel
    have hfr := ext_from l p hp
    have hsz := hbel.size
    obtain ⟨r, hr⟩ : ∃ r, r = l.drop p := ⟨_, rfl⟩
    have HRL : Hid (r.length + p = l.length) := by rw [Hid, hr]; simp; omega
    have HR : Hid (r = l.drop p) := hr
    rw [← hr] at hfr hf HF
    have K := impl_frameAhead r wr (by rw [hr]; simp; omega) (HT.out.later hbel)
    have hcap : done.length ≤ 1048576 := by have := endsF_len done; have := HE.out; omega
    have hO := hidOwn hown
    obtain ⟨va, vm, vc, rfl⟩ := own_slice hown
    clear hr hown
    cases hat : frameAt r with
    | none =>
      rw [hat] at K
      have HN : Hid (done = framesL l) := by have := HF.out; rw [framesF_none hat, List.append_nil] at this; exact this
      clear hat HF
      go_wp2_with fail
      refine K.mono ?_
      rintro e w1 ⟨rfl, b1⟩
      have o1 := hidOwn (hO.out.kept (grown_of_below b1 none) (by cases (Value.slice va vm vc).ownBlock with | none => exact .inl rfl | some k => exact .inr (by simp)))
      have hb := hbel.trans (b1.mono hsz)
      clear hO b1
      unfold aheadV
      go_wp2
      go_ret2
      rw [HN.out] at o1
      have hE := HE.out
      rw [HN.out] at hE
      have hc := hcap
      rw [HN.out] at hc
      exact ⟨.slice va vm vc, by rw [hE]; rfl, o1.out, hb, hc, by rw [hE]; exact hp⟩
    | some d =>
      rw [hat] at K
      obtain ⟨g, hg, hgf, hgl⟩ := framesF_some hat hf
      obtain ⟨hd1, hd2, hd3, hd4, hd5⟩ := frameAt_some hat
      have HD2 : Hid (12 + d.length ≤ r.length) := hd2
      have hpl : p + (12 + d.length) ≤ l.length := by have := HRL.out; omega
      have HF' : Hid ((done ++ [d]) ++ framesF g (l.drop (p + (12 + d.length))) = framesL l) := by
        rw [Hid, ← HF.out, hgf, HR.out, List.drop_drop]; simp
      have HE' : Hid (endsF (done ++ [d]) = p + (12 + d.length)) := by rw [Hid, endsF_app, HE.out]; simp [endsF]
      have HG : Hid ((l.drop (p + (12 + d.length))).length ≤ g) := by rw [Hid]; rw [HR.out, List.drop_drop] at hgl; exact hgl
      have hzd : (ByteArray.mk d.toArray).size = d.length := by simp [ByteArray.size]
      obtain ⟨dn, hdn⟩ : ∃ dn, dn = d.length := ⟨_, rfl⟩
      have HDN : Hid (dn = d.length) := hdn
      rw [← hdn] at hpl HF' HE' HG hzd
      clear hat HF hg hgf hgl hd1 hd2 hd3 hd4 hd5 HR HRL HE hdn HD2
      go_wp2_with fail
      refine K.mono ?_
      rintro e w1 ⟨rfl, b1⟩
      have o1 := (hO.out.kept (grown_of_below b1 none) (by cases (Value.slice va vm vc).ownBlock with | none => exact .inl rfl | some k => exact .inr (by simp)))
      have hb := hbel.trans (b1.mono hsz)
      have hsz1 := hb.size
      clear hO b1 K
      unfold aheadV
      go_wp2_with (at_builtin; refine wpList_append_lies _ rfl _ _ 25 rfl w.heap.size 9 i0 (.string ⟨#[]⟩) 1 16 Tryd.underlying25 hi0 hz0 hz1 hz2 rfl (by decide) (.slice va vm vc) done.length _ rfl (o1.alloc _) ⟨w1.heap.size, 0, none⟩ 1 1 [.string ⟨d.toArray⟩] rfl rfl (World.news_of_block (cs := #[.string ⟨d.toArray⟩]) (t := 9) (fr := (0, 0)) (heap_alloc_new w1 _)) (by simp [Value.oneCell']) (by omega) (by unfold maxLen; omega) (by omega) (by simp; omega) (w1.heap.size + 1) (by simp) ?_; intro g2 cap2 w2 hown2 hgrow hat2 hlt2)
      have hb2 : Below w.heap.size w w2 := (hb.alloc hsz1 _).grown hgrow (by simp; omega) fun q hq => (o1.lt q hq).1
      have HO2 : Hid (w2.ownsRow w.heap.size 9 1 (.slice (some ⟨g2, 0, none⟩) (done ++ [d]).length cap2) (done ++ [d]).length (scells (done ++ [d]))) := by
        rw [Hid, scells_snoc, List.length_append]; exact hown2
      clear hgrow o1 hown2
      go_wp2
      go_roundw
      case rel => exact ⟨g, p + (12 + dn), done ++ [d], by go_num, hpl, HG.out, HF', HE', by simpa using HO2.out, hb2⟩
      case measure => simp [intOf]; omega
end Go.Proofs.YtgoohohkgmiemaaDoor
