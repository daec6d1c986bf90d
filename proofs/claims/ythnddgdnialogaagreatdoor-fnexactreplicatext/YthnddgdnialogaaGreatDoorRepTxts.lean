/-
 Texts that are laid as one: RepTxt, RepTxtS.
-/
import Derived.Test.YthnddgdnialogaaGreatDoorNumAll
import Derived.Test.YthnddgdnialogaaGreatDoorRepOk
import Derived.Deep.AppendSrc
namespace Go.Proofs.YthnddgdnialogaaGreatDoor
open Go.RowKit
set_option linter.unusedVariables false
def sessRows (ss : List SessL) : List PairL := ss.map fun s => (numB 8 s.1.toNat, numB 8 s.2.toNat)
def repRows (ix : Int) (ss : List SessL) (l : List PairL) : List PairL := ((numB 8 ix.toNat, numB 8 ss.length) :: sessRows ss) ++ l
def repTxO (ix : Int) (ss : List SessL) (o : Option (List PairL)) : List UInt8 := match o with
 | none => []
 | some l => listB (pairTs (repRows ix ss l))
def repText (ix : Int) (root : List UInt8) (ps : List PairL) (ss : List SessL) : List UInt8 := repTxO ix ss (repR ix root ps ss)
theorem sessRows_take (ss : List SessL) (j : Nat) (h : j < ss.length) : sessRows (ss.take (j + 1)) = sessRows (ss.take j) ++ [(numB 8 ss[j].1.toNat, numB 8 ss[j].2.toNat)] := by
 simp only [sessRows, take_snocSe ss j h, List.map_append, List.map_cons, List.map_nil]
theorem sessRows_length (ss : List SessL) : (sessRows ss).length = ss.length := by simp [sessRows]
theorem repRows_length (ix : Int) (ss : List SessL) (l : List PairL) : (repRows ix ss l).length = 1 + ss.length + l.length := by simp [repRows, sessRows_length]; omega
theorem pairsAt_small {ps : List PairL} {root : List UInt8} {l : List PairL} (h : pairsAtR ps root = some l) : ∀ p ∈ l, p.1.length ≤ 12 ∧ p.2.length ≤ 60 := by
 unfold pairsAtR at h
 split at h
 · split at h
   · cases h; simp
   · cases ha : atF (findL ps) 26 root [] with
     | none => rw [ha] at h; cases h
     | some l' =>
       rw [ha] at h
       simp only [Option.bind_some] at h
       split at h
       · next hh =>
         cases h
         exact fun p hp => atF_small _ (find_nodes ps (by assumption)) 26 root [] l ha p hp
       · cases h
 · cases h
theorem pairTs_flat (n : Nat) (ps : List PairL) (h : ∀ p ∈ ps, p.1.length + p.2.length ≤ n) : (pairTs ps).flatten.length ≤ n * ps.length := by
 induction ps with
 | nil => simp [pairTs]
 | cons p ps ih =>
   have h1 := h p (by simp)
   have h2 := ih (fun q hq => h q (by simp [hq]))
   simp only [pairTs, List.flatMap_cons, List.flatten_append, List.length_append, List.flatten_cons, List.flatten_nil, List.length_cons, List.append_nil, Nat.mul_add] at h2 ⊢
   omega
theorem repRows_flat (ix : Int) (ss : List SessL) (l : List PairL) (h6 : ss.length ≤ 6) (h60 : l.length ≤ 60) (hl : ∀ p ∈ l, p.1.length ≤ 12 ∧ p.2.length ≤ 60) : (pairTs (repRows ix ss l)).flatten.length ≤ 5000 ∧ (repRows ix ss l).length ≤ 67 := by
 have h1 := pairTs_flat 72 (repRows ix ss l) (fun p hp => by
  simp only [repRows, sessRows, List.cons_append, List.mem_cons, List.mem_append, List.mem_map] at hp
  rcases hp with rfl | ⟨s, _, rfl⟩ | hp
  · have := numB_len 8 ix.toNat; have := numB_len 8 ss.length; show (numB 8 ix.toNat).length + (numB 8 ss.length).length ≤ 72; omega
  · have := numB_len 8 s.1.toNat; have := numB_len 8 s.2.toNat; show (numB 8 s.1.toNat).length + (numB 8 s.2.toNat).length ≤ 72; omega
  · have := hl p hp; omega)
 rw [repRows_length] at h1 ⊢
 omega
theorem sess_num {ss : List SessL} (h : sessOk ss = true) : ss.length ≤ 6 ∧ ∀ j (hj : j < ss.length), (ss[j].1 = (ss[j].1.toNat : Int) ∧ ss[j].1.toNat ≤ 1000000000000) ∧ (ss[j].2 = (ss[j].2.toNat : Int) ∧ ss[j].2.toNat ≤ 1000000000000) := by
 simp only [sessOk, Bool.and_eq_true, decide_eq_true_eq, List.all_eq_true, List.mem_range] at h
 refine ⟨h.1, fun j hj => ?_⟩
 have := h.2 j hj
 unfold seOk at this
 rw [seAt_lt ss j hj] at this
 simp only [Bool.and_eq_true] at this
 exact ⟨numOk_nat _ this.1.1, numOk_nat _ this.1.2⟩
set_option maxRecDepth 100000 in
theorem app_none (w : World) (g n c : Nat) (a1 : Option Addr) (c1 : Nat) (hcap : n ≤ c) (ty : TypeId) : (Builtin.append_ #[35, 35] ty #[.slice (some ⟨g, 0, none⟩) n c, .slice a1 0 c1]).run Tryz.prog w = .ok (.slice (some ⟨g, 0, none⟩) n c) w := by
 obtain ⟨i0, hi0, hz0, hz1, hz2⟩ := info_parts infoPr
 have hs : Src Tryz.prog i0.size 35 (.slice a1 0 c1) 0 [] w := by
  cases a1 with
  | none => exact Src.ofNil w Tryz.underlying35 c1
  | some ad => exact Src.ofSlice w Tryz.underlying35 ad 0 c1 [] (by simp) (by simp) (by simp)
 have := run_append_room_src w 35 35 ty 60 i0 Tryz.underlying35 hi0 g 0 n c (.slice a1 0 c1) 0 [] hs (by omega) (by simp) (by simp)
 exact this
theorem wpList_app_none {w : World} {ops : Array Oper} {rest : List Oper} {o : Oper} {a : Act} {Q : Exit → Act → World → Prop} (hgd : o.guard = none) (s x : Operand)
 (ho : o.op = .call { callee := .builtin .append, args := #[s, x], argTypes := #[35, 35] }) (g n c : Nat) (a1 : Option Addr) (c1 : Nat) (hcap : n ≤ c) (hs : a.eval s = .slice (some ⟨g, 0, none⟩) n c) (hx : a.eval x = .slice a1 0 c1)
 (h : wpList Tryz.prog ops Q rest (a.put o.dst (.slice (some ⟨g, 0, none⟩) n c)) w) : wpList Tryz.prog ops Q (o :: rest) a w := by
 refine wpList_plain hgd fun K hK => ?_
 have hrun := app_none w g n c a1 c1 hcap o.type
 unfold Oper.wp
 simp [execOp, ho, resolve, invoke, builtin, hs, hx, hrun, Result.andThen]
 exact hK _ _ h
theorem pcells_one (l : List PairL) : ∀ u ∈ pcells l, u.oneCell' = true := by
 induction l with
 | nil => simp [pcells]
 | cons p l ih => simpa [pcells, Value.oneCell'] using ih
set_option maxRecDepth 100000 in
set_option maxHeartbeats 4000000 in
theorem impl_replicaText (ix : Int) (root : List UInt8) (a : Option Addr) (cap : Nat) (ps : List PairL) (c : Option Addr) (cap2 : Nat) (ss : List SessL) (w : World) (hT : Tab w) (hr : root.length ≤ 1048576) (hl : ps.length ≤ 1048576) (hm : ∀ p ∈ ps, p.1.length ≤ 1048576 ∧ p.2.length ≤ 1048576) (hs : IsPairs w a ps) (hl2 : ss.length ≤ 1048576) (hs2 : IsSess w c ss) :
 Calls Tryz.prog 19 #[.agg #[.int .i64 ix, .string ⟨root.toArray⟩, .slice a ps.length cap, .slice c ss.length cap2]] w fun e w' => e = .returned (.string ⟨(repText ix root ps ss).toArray⟩) ∧ Below w.heap.size w w' := by
 obtain ⟨i0, hi0, hz0, hz1, hz2⟩ := info_parts infoPr
 have B0 : Below w.heap.size w (w.alloc (.cells #[.int .i64 ix, .string ⟨root.toArray⟩, .slice a ps.length cap, .slice c ss.length cap2] 31)) := (Below.refl _ _).alloc (Nat.le_refl _) _
 have H0 := heap_alloc_new w (.cells #[.int .i64 ix, .string ⟨root.toArray⟩, .slice a ps.length cap, .slice c ss.length cap2] 31)
 have HH0 : Hid (_ = _) := H0
 obtain ⟨p0, p1, p2, p3, _⟩ := rp_cells H0
 have K := impl_replicaPairs ix root a cap ps c cap2 ss _ (hT.later B0) hr hl hm (hs.later B0) hl2 (hs2.later B0)
 have HS : Hid (∀ W, Below w.heap.size w W → IsSess W c ss) := fun W hW => hs2.later hW
 have HIS : Hid (∀ l, repR ix root ps ss = some l → ((0 ≤ ix ∧ ix ≤ 1000000000000) ∧ sessOk ss = true) ∧ pairsAtR ps root = some l) := fun l h => ⟨(rep_is h).1, (rep_is h).2.1⟩
 unfold repText
 obtain ⟨rp, hrp⟩ : ∃ rp, rp = repR ix root ps ss := ⟨_, rfl⟩
 rw [← hrp] at K HIS ⊢
 unfold PAPost at K
 clear hrp hs hs2 hm hT H0
 cases rp with
 | none =>
   clear HIS HS
   go_enter Tryz.func19, Tryz.ntmps19
   go_wp2_with fail
   refine K.mono ?_
   rintro e w1 ⟨a1, m1, c1, rfl, _, b1⟩
   have B1 := B0.trans (b1.mono B0.size)
   go_wp2
   go_ret
   exact ⟨rfl, B1⟩
 | some l =>
   obtain ⟨⟨⟨hi0', hi1'⟩, hso⟩, hpa⟩ := HIS.out l rfl
   obtain ⟨h6, hnum⟩ := sess_num hso
   have hfit := pairsAt_fit hpa
   have hflat := repRows_flat ix ss l h6 hfit.1 (pairsAt_small hpa)
   have HRL : Hid ((repRows ix ss l).length = 1 + ss.length + l.length) := repRows_length ix ss l
   have HKT : Hid (∀ W a2 c2, IsPairs W a2 (repRows ix ss l) → Calls Tryz.prog 45 #[.slice a2 (1 + ss.length + l.length) c2] W fun e w' => e = .returned (.string ⟨(repTxO ix ss (some l)).toArray⟩) ∧ Below W.heap.size W w') := fun W a2 c2 h => by
    have := impl_textOfRows a2 c2 (repRows ix ss l) W (by omega) (by omega) h
    rw [HRL.out] at this
    exact this
   have h60 := hfit.1
   have HNU : Hid (∀ j (hj : j < ss.length), (ss[j].1 = (ss[j].1.toNat : Int) ∧ ss[j].1.toNat ≤ 1000000000000) ∧ (ss[j].2 = (ss[j].2.toNat : Int) ∧ ss[j].2.toNat ≤ 1000000000000)) := hnum
   obtain ⟨rr, hrr⟩ : ∃ rr : List SessL → List PairL, rr = fun s => (numB 8 ix.toNat, numB 8 ss.length) :: sessRows s := ⟨_, rfl⟩
   have HR0 : Hid (pcells (rr (ss.take 0)) = [.string ⟨(numB 8 ix.toNat).toArray⟩, .string ⟨(numB 8 ss.length).toArray⟩]) := by rw [Hid, hrr]; rfl
   have HRS : Hid (∀ j (hj : j < ss.length), pcells (rr (ss.take (j + 1))) = pcells (rr (ss.take j)) ++ [.string ⟨(numB 8 ss[j].1.toNat).toArray⟩, .string ⟨(numB 8 ss[j].2.toNat).toArray⟩]) := fun j hj => by
    rw [hrr]; simp only; rw [sessRows_take ss j hj, ← List.cons_append, pcells_app]; rfl
   have HRA : Hid (pcells (rr ss) ++ pcells l = pcells (repRows ix ss l)) := by rw [Hid, hrr, repRows, pcells_app]
   have HRN : Hid (l = [] → rr ss = repRows ix ss l) := fun e => by rw [hrr, repRows, e, List.append_nil]
   obtain ⟨ixn, hixn⟩ : ∃ n, n = ix.toNat := ⟨_, rfl⟩
   have hix : ix = (ixn : Int) := by omega
   have KN := fun W => impl_numberRow ixn ss.length W (by omega) (by omega)
   rw [← hix] at KN
   rw [← hixn] at HR0
   obtain ⟨x0, hx0⟩ : ∃ x, x = numB 8 ixn := ⟨_, rfl⟩
   obtain ⟨y0, hy0⟩ : ∃ y, y = numB 8 ss.length := ⟨_, rfl⟩
   rw [← hx0, ← hy0] at KN HR0
   obtain ⟨tx, htx⟩ : ∃ tx, tx = repTxO ix ss (some l) := ⟨_, rfl⟩
   rw [← htx] at HKT ⊢
   obtain ⟨rows, hrows⟩ : ∃ rows, rows = repRows ix ss l := ⟨_, rfl⟩
   rw [← hrows] at HKT HRL HRA HRN
   simp only [Option.getD_some, Option.isSome_some] at K
   clear hflat hfit HIS hpa hso hnum hi0' hi1' hrr hx0 hy0 htx hix hixn hrows
   go_enter Tryz.func19, Tryz.ntmps19
   go_wp2_with fail
   refine K.mono ?_
   rintro e w1 ⟨a1, m1, c1, rfl, o1, b1⟩
   obtain ⟨rfl, _, _⟩ := isPairs_own o1
   have B1 := B0.trans (b1.mono B0.size)
   have Q1 : Hid (_ = _) := (b1.block w.heap.size (by simp)).trans HH0.out
   have L1 : Hid (w.heap.size < w1.heap.size) := lt_of_block Q1.out
   have O1 := hidOwn (o1.mono B0.size)
   clear p0 p1 p2 p3 K b1 o1 HH0 B0
   obtain ⟨p0, p1, p2, p3, _⟩ := rp_cells Q1.out
   go_wp2_with fail
   refine (KN _).mono ?_
   rintro e w2 ⟨rfl, b2⟩
   have B2 := B1.trans (b2.mono B1.size)
   have Q2 : Hid (_ = _) := (b2.block w.heap.size L1.out).trans Q1.out
   have L2 : Hid (w.heap.size < w2.heap.size) := lt_of_block Q2.out
   have O2 := hidOwn (kept2 O1.out b2)
   have HB3 : Hid (Below w2.heap.size w2 (w2.alloc (.cells #[.string ⟨x0.toArray⟩, .string ⟨y0.toArray⟩] 60))) := (Below.refl _ _).alloc (Nat.le_refl _) _
   have O3 : Hid ((w2.alloc (.cells #[.string ⟨x0.toArray⟩, .string ⟨y0.toArray⟩] 60)).ownsRow w2.heap.size 60 2 (.slice (some ⟨w2.heap.size, 0, none⟩) 1 1) 1 (pcells (rr (ss.take 0)))) := by
    rw [HR0.out]
    exact World.ownsRow_lit (e := 60) (size := 2) w2 #[.string ⟨x0.toArray⟩, .string ⟨y0.toArray⟩] 1 (base := w2.heap.size) (Nat.le_refl _) (by unfold maxLen; omega) rfl
   have Q3 := (Below.heap_alloc w2 (.cells #[.string ⟨x0.toArray⟩, .string ⟨y0.toArray⟩] 60) w.heap.size L2.out).trans Q2.out
   have LA : Hid (∀ q, (Value.slice a1 l.length c1).ownBlock = some q → w.heap.size ≤ q ∧ q < w2.heap.size) := fun q hq => O2.out.lt q hq
   clear p0 p1 p2 p3 KN b2 O1 Q1 B1 L1
   obtain ⟨p0, p1, p2, p3, _⟩ := rp_cells Q3
   clear p0 p1 p2 Q3
   go_wp2
   go_loopw [5, 7, 25] (fun v _ i wr => ∃ j c2 g : Nat, j ≤ ss.length ∧ i = .int .i64 (j : Int) ∧ v = .slice (some ⟨g, 0, none⟩) (j + 1) c2 ∧ wr.ownsRow w2.heap.size 60 2 (.slice (some ⟨g, 0, none⟩) (j + 1) c2) (j + 1) (pcells (rr (ss.take j))) ∧ Below w2.heap.size w2 wr) (fun _ _ i _ => ss.length - (intOf i).toNat)
   case atStart => exact ⟨0, 1, w2.heap.size, Nat.zero_le _, rfl, rfl, O3.out, HB3.out⟩
   case round =>
    obtain ⟨j, c2, g, hj, rfl, rfl, hown, hbel⟩ := hrel
    have hsz := hbel.size
    have hwb : Below w.heap.size w wr := B2.trans (hbel.mono B2.size)
    clear p3
    by_cases hlt : j < ss.length
    · obtain ⟨b, off, ha, d1, d2⟩ : ∃ b off, c = some ⟨b, off, none⟩ ∧ wr.cell? ⟨b, off + j * 2, none⟩ = some (.int .i64 ss[j].1) ∧ wr.cell? ⟨b, off + j * 2 + 1, none⟩ = some (.int .i64 ss[j].2) := by
       rcases HS.out wr hwb with h | ⟨b, off, h, hc⟩
       · rw [h] at hlt; simp at hlt
       · exact ⟨b, off, h, hc j hlt⟩
      subst ha
      have hj0 : (0 : Int) ≤ (j : Int) := by omega
      have hj1 : (j : Int) < (ss.length : Int) := by omega
      obtain ⟨⟨hx1, hx2⟩, hy1, hy2⟩ := HNU.out j hlt
      have HT : Hid (pcells (rr (ss.take (j + 1))) = pcells (rr (ss.take j)) ++ [.string ⟨(numB 8 ss[j].1.toNat).toArray⟩, .string ⟨(numB 8 ss[j].2.toNat).toArray⟩]) := HRS.out j hlt
      have KN := fun W => impl_numberRow ss[j].1.toNat ss[j].2.toNat W hx2 hy2
      rw [← hx1, ← hy1] at KN
      obtain ⟨x, hx⟩ : ∃ x, x = ss[j].1 := ⟨_, rfl⟩
      obtain ⟨y, hy⟩ : ∃ y, y = ss[j].2 := ⟨_, rfl⟩
      rw [← hx] at d1 KN HT
      rw [← hy] at d2 KN HT
      obtain ⟨sx, hsx⟩ : ∃ s, s = numB 8 x.toNat := ⟨_, rfl⟩
      obtain ⟨sy, hsy⟩ : ∃ s, s = numB 8 y.toNat := ⟨_, rfl⟩
      rw [← hsx, ← hsy] at KN HT
      have hlow : ∀ k, (Value.slice (some ⟨g, 0, none⟩) (j + 1) c2).ownBlock = some k → w2.heap.size ≤ k := fun k hk => (hown.lt k hk).1
      have XA : Below wr.heap.size wr (wr.alloc (.cells #[.int .i64 x, .int .i64 y] 67)) := (Below.refl _ _).alloc (Nat.le_refl _) _
      have HO := hidOwn hown
      have HBE : Hid (Below w2.heap.size w2 wr) := hbel
      clear hx hy hsx hsy hx1 hx2 hy1 hy2 hown hbel hwb HKT HRA HRN HNU HRS
      go_wp2_with fail
      refine (KN _).mono ?_
      rintro e w3 ⟨rfl, b3⟩
      have X3 := XA.trans (b3.mono XA.size)
      have B3 := HBE.out.trans (X3.mono hsz)
      have hown3 := (kept2 HO.out X3).alloc (.cells #[.string ⟨sx.toArray⟩, .string ⟨sy.toArray⟩] 60)
      have B3a := B3.alloc B3.size (.cells #[.string ⟨sx.toArray⟩, .string ⟨sy.toArray⟩] 60)
      have hs3 := B3.size
      clear b3 X3 XA KN HO HBE
      go_wp2_with (at_builtin; refine wpList_append_lies _ rfl _ _ 35 rfl w2.heap.size 60 i0 (.agg #[.string ⟨#[]⟩, .string ⟨#[]⟩]) 2 32 Tryz.underlying35 hi0 hz0 hz1 hz2 rfl (by decide) (.slice (some ⟨g, 0, none⟩) (j + 1) c2) (j + 1) _ rfl hown3 ⟨w3.heap.size, 0, none⟩ 1 1 [.string ⟨sx.toArray⟩, .string ⟨sy.toArray⟩] rfl rfl (World.news_of_block (cs := #[.string ⟨sx.toArray⟩, .string ⟨sy.toArray⟩]) (t := 60) (fr := (0, 0)) (heap_alloc_new w3 _)) (by simp [Value.oneCell']) (by omega) (by unfold maxLen; omega) (by omega) (by simp; omega) (w3.heap.size + 1) (by simp) ?_; intro g2 cap3 w4 hown4 hgrow hat hlt4)
      have hbel4 : Below w2.heap.size w2 w4 := B3a.grown hgrow (by simp; omega) hlow
      have HO4 : Hid (w4.ownsRow w2.heap.size 60 2 (.slice (some ⟨g2, 0, none⟩) (j + 1 + 1) cap3) (j + 1 + 1) (pcells (rr (ss.take (j + 1))))) := by rw [Hid, HT.out]; exact hown4
      clear hgrow hown4 hown3 B3a
      first | go_roundw | (go_wp2; go_roundw)
      case rel => exact ⟨j + 1, cap3, g2, by omega, by go_num, rfl, HO4.out, hbel4⟩
      case measure => simp [intOf]; omega
    · have hjl : j = ss.length := by omega
      subst hjl
      rw [List.take_length] at hown
      have hcap := own_capP hown
      by_cases hl0 : l = []
      · have HI : Hid (IsPairs wr (some ⟨g, 0, none⟩) rows) := by
         rw [HRN.out hl0] at hown
         exact (isPairs_own hown).2.2
        have KT := HKT.out wr (some ⟨g, 0, none⟩) c2 HI.out
        rw [hl0, List.length_nil, Nat.add_zero, Nat.add_comm 1] at KT
        clear hown HKT HRA HRN HRL O2 HNU HRS
        subst hl0
        go_wp2_with (at_builtin; refine wpList_app_none rfl _ _ rfl g (ss.length + 1) c2 a1 c1 hcap rfl rfl ?_)
        first | skip | go_wp2_with fail
        refine KT.mono ?_
        rintro e w5 ⟨rfl, b5⟩
        have B5 := hwb.trans (b5.mono hwb.size)
        clear b5 KT
        go_wp2
        go_ret
        exact ⟨rfl, B5⟩
      · obtain ⟨g1, rfl, hc1⟩ : ∃ g1, a1 = some ⟨g1, 0, none⟩ ∧ (∀ j u, (pcells l)[j]? = some u → wr.cell? ((⟨g1, 0, none⟩ : Addr).add j) = some u) := by
         have o5 := kept2 O2.out hbel
         rcases own_cases2 o5 with ⟨_, hn, _⟩ | ⟨g1, c1', hv, _, _, hc, _⟩
         · exact absurd (List.length_eq_zero_iff.1 hn) hl0
         · cases hv
           refine ⟨g1, rfl, fun j u hu => ?_⟩
           have hjl : j < l.length * 2 := by rw [← pcells_length l]; exact (List.getElem?_eq_some_iff.1 hu).1
           have e : (⟨g1, 0, none⟩ : Addr).add j = ⟨g1, j, none⟩ := by simp only [Addr.add]; split <;> simp_all
           rw [e]; exact (hc j hjl).trans hu
        have hlow : ∀ k, (Value.slice (some ⟨g, 0, none⟩) (ss.length + 1) c2).ownBlock = some k → w2.heap.size ≤ k := fun k hk => (hown.lt k hk).1
        have hlp : 0 < l.length := List.length_pos_iff.2 hl0
        clear HNU HRS HRN O2
        go_wp2_with (at_builtin; refine wpList_append_lies _ rfl _ _ 35 rfl w2.heap.size 60 i0 (.agg #[.string ⟨#[]⟩, .string ⟨#[]⟩]) 2 32 Tryz.underlying35 hi0 hz0 hz1 hz2 rfl (by decide) (.slice (some ⟨g, 0, none⟩) (ss.length + 1) c2) (ss.length + 1) _ rfl hown ⟨g1, 0, none⟩ l.length c1 (pcells l) rfl (pcells_length l) hc1 (pcells_one l) hlp (by unfold maxLen; omega) (by omega) (by omega) wr.heap.size rfl ?_; intro g2 cap3 w4 hown4 hgrow hat hlt4)
        have hbel4 : Below w2.heap.size w2 w4 := hbel.grown hgrow (by omega) hlow
        have B4 := B2.trans (hbel4.mono B2.size)
        have HI : Hid (IsPairs w4 (some ⟨g2, 0, none⟩) rows) := by
         rw [HRA.out] at hown4
         have e : rows.length = ss.length + 1 + l.length := by rw [HRL.out]; omega
         exact (isPairs_own hown4).2.2
        have KT := HKT.out w4 (some ⟨g2, 0, none⟩) cap3 HI.out
        rw [Nat.add_comm 1] at KT
        clear hown hown4 hgrow HKT HRA HRL hc1
        go_wp2_with fail
        refine KT.mono ?_
        rintro e w5 ⟨rfl, b5⟩
        have B5 := B4.trans (b5.mono B4.size)
        clear b5 KT
        go_wp2
        go_ret
        exact ⟨rfl, B5⟩
end Go.Proofs.YthnddgdnialogaaGreatDoor
namespace Go.Proofs.YthnddgdnialogaaGreatDoor
open Go.RowKit
set_option linter.unusedVariables false
theorem scells_pairs (ps : List PairL) (p : PairL) : scells (pairTs (ps ++ [p])) = scells (pairTs ps) ++ [.string ⟨p.1.toArray⟩, .string ⟨p.2.toArray⟩] := by rw [pairTs_snoc]; simp [scells]
set_option maxRecDepth 100000 in
set_option maxHeartbeats 8000000 in
theorem spec_replicaText (ix : Int) (root : List UInt8) (a : Option Addr) (cap : Nat) (ps : List PairL) (c : Option Addr) (cap2 : Nat) (ss : List SessL) (w : World) (hl : ps.length ≤ 1048576) (hm : ∀ p ∈ ps, p.1.length ≤ 1048576 ∧ p.2.length ≤ 1048576) (hs : IsPairs w a ps) (hl2 : ss.length ≤ 1048576) (hs2 : IsSess w c ss) :
 Calls Tryz.prog 18 #[.agg #[.int .i64 ix, .string ⟨root.toArray⟩, .slice a ps.length cap, .slice c ss.length cap2]] w fun e w' => e = .returned (.string ⟨(repText ix root ps ss).toArray⟩) ∧ Below w.heap.size w w' := by
 obtain ⟨i0, hi0, hz0, hz1, hz2⟩ := info_parts info9i
 have B0 : Below w.heap.size w (w.alloc (.cells #[.int .i64 ix, .string ⟨root.toArray⟩, .slice a ps.length cap, .slice c ss.length cap2] 31)) := (Below.refl _ _).alloc (Nat.le_refl _) _
 have HH0 : Hid ((w.alloc (.cells #[.int .i64 ix, .string ⟨root.toArray⟩, .slice a ps.length cap, .slice c ss.length cap2] 31)).heap[w.heap.size]? = some (.cells #[.int .i64 ix, .string ⟨root.toArray⟩, .slice a ps.length cap, .slice c ss.length cap2] 31 (0, 0))) := heap_alloc_new w _
 obtain ⟨p0, p1, p2, p3, _⟩ := rp_cells HH0.out
 have K := spec_replicaOk ix root a cap ps c cap2 ss _ hl hm (hs.later B0) hl2 (hs2.later B0)
 have HS : Hid (∀ W, Below w.heap.size w W → IsSess W c ss) := fun W hW => hs2.later hW
 have HK2 : Hid (∀ W, Below w.heap.size w W → Calls Tryz.prog 27 #[.slice a ps.length cap, .string ⟨root.toArray⟩] W fun e w' => PAPost W (pairsAtR ps root) e w') := fun W hW => spec_pairsAt a cap ps root W hl hm (hs.later hW)
 have HIS : Hid (∀ l, repR ix root ps ss = some l → ((0 ≤ ix ∧ ix ≤ 1000000000000) ∧ sessOk ss = true) ∧ pairsAtR ps root = some l) := fun l h => ⟨(rep_is h).1, (rep_is h).2.1⟩
 unfold repText
 obtain ⟨rp, hrp⟩ : ∃ rp, rp = repR ix root ps ss := ⟨_, rfl⟩
 rw [← hrp] at K HIS ⊢
 clear hrp hs hs2 hm
 cases rp with
 | none =>
   clear HIS HS HK2
   go_enter Tryz.func18, Tryz.ntmps18
   go_wp2_with fail
   refine K.mono ?_
   rintro e w1 ⟨rfl, b1⟩
   have B1 := B0.trans (b1.mono B0.size)
   go_wp2
   go_ret
   exact ⟨rfl, B1⟩
 | some l =>
   obtain ⟨⟨⟨hi0', hi1'⟩, hso⟩, hpa⟩ := HIS.out l rfl
   obtain ⟨h6, hnum⟩ := sess_num hso
   have hfit := pairsAt_fit hpa
   have h60 := hfit.1
   have hflat := repRows_flat ix ss l h6 hfit.1 (pairsAt_small hpa)
   rw [hpa] at HK2
   unfold PAPost at HK2
   simp only [Option.getD_some, Option.isSome_some] at HK2
   have HNU : Hid (∀ j (hj : j < ss.length), (ss[j].1 = (ss[j].1.toNat : Int) ∧ ss[j].1.toNat ≤ 1000000000000) ∧ (ss[j].2 = (ss[j].2.toNat : Int) ∧ ss[j].2.toNat ≤ 1000000000000)) := hnum
   obtain ⟨rr, hrr⟩ : ∃ rr : List SessL → List PairL, rr = fun s => (numB 8 ix.toNat, numB 8 ss.length) :: sessRows s := ⟨_, rfl⟩
   obtain ⟨ts, hts⟩ : ∃ ts : Nat → List (List UInt8), ts = fun j => pairTs (rr (ss.take j)) := ⟨_, rfl⟩
   obtain ⟨us, hus⟩ : ∃ us : Nat → List (List UInt8), us = fun j => pairTs (rr ss ++ l.take j) := ⟨_, rfl⟩
   have HT0 : Hid (scells (ts 0) = [.string ⟨(numB 8 ix.toNat).toArray⟩, .string ⟨(numB 8 ss.length).toArray⟩]) := by rw [Hid, hts, hrr]; rfl
   have HTS : Hid (∀ j (hj : j < ss.length), scells (ts (j + 1)) = scells (ts j) ++ [.string ⟨(numB 8 ss[j].1.toNat).toArray⟩, .string ⟨(numB 8 ss[j].2.toNat).toArray⟩]) := fun j hj => by
    rw [hts, hrr]; simp only; rw [sessRows_take ss j hj, ← List.cons_append, scells_pairs]
   have HTL : Hid (ts ss.length = us 0) := by rw [Hid, hts, hus]; simp
   have HUS : Hid (∀ j (hj : j < l.length), scells (us (j + 1)) = scells (us j) ++ [.string ⟨l[j].1.toArray⟩, .string ⟨l[j].2.toArray⟩]) := fun j hj => by
    rw [hus]; simp only; rw [take_snocP l j hj, ← List.append_assoc, scells_pairs]
   have HUL : Hid (us l.length = pairTs (repRows ix ss l)) := by rw [Hid, hus, repRows, hrr]; simp
   have HKL : Hid (∀ (W : World) b0 g c2, W.ownsRow b0 9 1 (.slice (some ⟨g, 0, none⟩) (2 * ss.length + 2 + 2 * l.length) c2) (2 * ss.length + 2 + 2 * l.length) (scells (us l.length)) → Calls Tryz.prog 43 #[.slice (some ⟨g, 0, none⟩) (2 * ss.length + 2 + 2 * l.length) c2] W fun e w' => e = .returned (.string ⟨(repTxO ix ss (some l)).toArray⟩) ∧ Below W.heap.size W w') := fun W b0 g c2 ho => by
    have e1 : (pairTs (repRows ix ss l)).length = 2 * ss.length + 2 + 2 * l.length := by rw [pairTs_length, repRows_length]; omega
    rw [HUL.out] at ho
    have := spec_l1List g c2 (pairTs (repRows ix ss l)) b0 W (by omega) (by omega) (by rw [e1]; exact ho)
    rw [e1] at this
    exact this
   obtain ⟨ixn, hixn⟩ : ∃ n, n = ix.toNat := ⟨_, rfl⟩
   have hix : ix = (ixn : Int) := by omega
   have KC := fun W => spec_l1Num ixn W (by omega)
   have KN := fun W => spec_l1Num ss.length W (by omega)
   rw [← hix] at KC
   rw [← hixn] at HT0
   obtain ⟨x0, hx0⟩ : ∃ x, x = numB 8 ixn := ⟨_, rfl⟩
   obtain ⟨y0, hy0⟩ : ∃ y, y = numB 8 ss.length := ⟨_, rfl⟩
   rw [← hx0] at KC HT0
   rw [← hy0] at KN HT0
   obtain ⟨tx, htx⟩ : ∃ tx, tx = repTxO ix ss (some l) := ⟨_, rfl⟩
   rw [← htx] at HKL ⊢
   clear hflat hfit HIS hpa hso hnum hi0' hi1' hrr hts hus hx0 hy0 htx hix hixn HUL
   go_enter Tryz.func18, Tryz.ntmps18
   go_wp2_with fail
   refine K.mono ?_
   rintro e wa ⟨rfl, ba⟩
   have Bwa := B0.trans (ba.mono B0.size)
   have Qwa : Hid (wa.heap[w.heap.size]? = some (.cells #[.int .i64 ix, .string ⟨root.toArray⟩, .slice a ps.length cap, .slice c ss.length cap2] 31 (0, 0))) := (ba.block w.heap.size (by simp)).trans HH0.out
   have K2 := HK2.out wa Bwa
   clear p0 p1 p2 p3 K ba HH0 B0 HK2
   obtain ⟨p0, p1, p2, p3, _⟩ := rp_cells Qwa.out
   go_wp2_with fail
   refine K2.mono ?_
   rintro e w1 ⟨a1, m1, c1, rfl, o1, b1⟩
   obtain ⟨rfl, _, _⟩ := isPairs_own o1
   have Bw1 : Hid (Below w.heap.size w w1) := Bwa.trans (b1.mono Bwa.size)
   have Qw1 : Hid (w1.heap[w.heap.size]? = some (.cells #[.int .i64 ix, .string ⟨root.toArray⟩, .slice a ps.length cap, .slice c ss.length cap2] 31 (0, 0))) := (b1.block w.heap.size (lt_of_block Qwa.out)).trans Qwa.out
   have Pw1 := hidOwn (o1.mono Bwa.size)
   have Sw1 : Hid (w1.cell? ⟨w.heap.size, 0, none⟩ = some (.int .i64 ix) ∧ w1.cell? ⟨w.heap.size, 3, none⟩ = some (.slice c ss.length cap2)) := ⟨(rp_cells Qw1.out).1, (rp_cells Qw1.out).2.2.2.1⟩
   have Sd1 : Hid (w1.drew.cell? ⟨w.heap.size, 0, none⟩ = some (.int .i64 ix) ∧ w1.drew.cell? ⟨w.heap.size, 3, none⟩ = some (.slice c ss.length cap2)) := Sw1.out
   clear p0 p1 p2 p3 K2 b1 o1 Qwa Bwa
   go_wp2_with fail
   go_region_held3 (fun w' => w'.cell? ⟨w.heap.size, 0, none⟩ = some (.int .i64 ix) ∧ w'.cell? ⟨w.heap.size, 3, none⟩ = some (.slice c ss.length cap2))
    (first | with_reducible exact Sa3.out | with_reducible exact Sw3.out | with_reducible exact Sw2.out | with_reducible exact Sw4.out | with_reducible exact Sw1.out | with_reducible exact Sd1.out)
    (first
     | (go_at_call 42
        with_reducible refine (KN w1.drew).mono ?_
        rintro e w4 ⟨rfl, bw4'⟩
        have bw4 : Below w1.heap.size w1 w4 := ⟨bw4'.os, bw4'.tape, bw4'.output, bw4'.size, bw4'.block⟩
        have Bw4 : Hid (Below w.heap.size w w4) := Bw1.out.trans (bw4.mono Bw1.out.size)
        have Qw4 : Hid (w4.heap[w.heap.size]? = some (.cells #[.int .i64 ix, .string ⟨root.toArray⟩, .slice a ps.length cap, .slice c ss.length cap2] 31 (0, 0))) := (bw4.block w.heap.size (lt_of_block Qw1.out)).trans Qw1.out
        have Sw4 : Hid (w4.cell? ⟨w.heap.size, 0, none⟩ = some (.int .i64 ix) ∧ w4.cell? ⟨w.heap.size, 3, none⟩ = some (.slice c ss.length cap2)) := ⟨(rp_cells Qw4.out).1, (rp_cells Qw4.out).2.2.2.1⟩
        have Pw4 := hidOwn (kept2 Pw1.out bw4)
        clear bw4' bw4)
     | (go_at_call 42
        with_reducible refine (KC w4).mono ?_
        rintro e w3 ⟨rfl, bw3'⟩
        have bw3 : Below w4.heap.size w4 w3 := ⟨bw3'.os, bw3'.tape, bw3'.output, bw3'.size, bw3'.block⟩
        have Bw3 : Hid (Below w.heap.size w w3) := Bw4.out.trans (bw3.mono Bw4.out.size)
        have Qw3 : Hid (w3.heap[w.heap.size]? = some (.cells #[.int .i64 ix, .string ⟨root.toArray⟩, .slice a ps.length cap, .slice c ss.length cap2] 31 (0, 0))) := (bw3.block w.heap.size (lt_of_block Qw4.out)).trans Qw4.out
        have Sw3 : Hid (w3.cell? ⟨w.heap.size, 0, none⟩ = some (.int .i64 ix) ∧ w3.cell? ⟨w.heap.size, 3, none⟩ = some (.slice c ss.length cap2)) := ⟨(rp_cells Qw3.out).1, (rp_cells Qw3.out).2.2.2.1⟩
        have Pw3 := hidOwn (kept2 Pw4.out bw3)
        clear bw3' bw3
        have Sa3 : Hid ((w3.alloc (.cells #[.string ⟨x0.toArray⟩, .string ⟨y0.toArray⟩] 9)).cell? ⟨w.heap.size, 0, none⟩ = some (.int .i64 ix) ∧ (w3.alloc (.cells #[.string ⟨x0.toArray⟩, .string ⟨y0.toArray⟩] 9)).cell? ⟨w.heap.size, 3, none⟩ = some (.slice c ss.length cap2)) := ⟨(World.cell?_alloc_lt w3 _ ⟨w.heap.size, 0, none⟩ (lt_of_block Qw3.out)).trans Sw3.out.1, (World.cell?_alloc_lt w3 _ ⟨w.heap.size, 3, none⟩ (lt_of_block Qw3.out)).trans Sw3.out.2⟩)
     | (go_at_call 42
        with_reducible refine (KC w1.drew).mono ?_
        rintro e w2 ⟨rfl, bw2'⟩
        have bw2 : Below w1.heap.size w1 w2 := ⟨bw2'.os, bw2'.tape, bw2'.output, bw2'.size, bw2'.block⟩
        have Bw2 : Hid (Below w.heap.size w w2) := Bw1.out.trans (bw2.mono Bw1.out.size)
        have Qw2 : Hid (w2.heap[w.heap.size]? = some (.cells #[.int .i64 ix, .string ⟨root.toArray⟩, .slice a ps.length cap, .slice c ss.length cap2] 31 (0, 0))) := (bw2.block w.heap.size (lt_of_block Qw1.out)).trans Qw1.out
        have Sw2 : Hid (w2.cell? ⟨w.heap.size, 0, none⟩ = some (.int .i64 ix) ∧ w2.cell? ⟨w.heap.size, 3, none⟩ = some (.slice c ss.length cap2)) := ⟨(rp_cells Qw2.out).1, (rp_cells Qw2.out).2.2.2.1⟩
        have Pw2 := hidOwn (kept2 Pw1.out bw2)
        clear bw2' bw2)
     | (go_at_call 42
        with_reducible refine (KN w2).mono ?_
        rintro e w3 ⟨rfl, bw3'⟩
        have bw3 : Below w2.heap.size w2 w3 := ⟨bw3'.os, bw3'.tape, bw3'.output, bw3'.size, bw3'.block⟩
        have Bw3 : Hid (Below w.heap.size w w3) := Bw2.out.trans (bw3.mono Bw2.out.size)
        have Qw3 : Hid (w3.heap[w.heap.size]? = some (.cells #[.int .i64 ix, .string ⟨root.toArray⟩, .slice a ps.length cap, .slice c ss.length cap2] 31 (0, 0))) := (bw3.block w.heap.size (lt_of_block Qw2.out)).trans Qw2.out
        have Sw3 : Hid (w3.cell? ⟨w.heap.size, 0, none⟩ = some (.int .i64 ix) ∧ w3.cell? ⟨w.heap.size, 3, none⟩ = some (.slice c ss.length cap2)) := ⟨(rp_cells Qw3.out).1, (rp_cells Qw3.out).2.2.2.1⟩
        have Pw3 := hidOwn (kept2 Pw2.out bw3)
        clear bw3' bw3
        have Sa3 : Hid ((w3.alloc (.cells #[.string ⟨x0.toArray⟩, .string ⟨y0.toArray⟩] 9)).cell? ⟨w.heap.size, 0, none⟩ = some (.int .i64 ix) ∧ (w3.alloc (.cells #[.string ⟨x0.toArray⟩, .string ⟨y0.toArray⟩] 9)).cell? ⟨w.heap.size, 3, none⟩ = some (.slice c ss.length cap2)) := ⟨(World.cell?_alloc_lt w3 _ ⟨w.heap.size, 0, none⟩ (lt_of_block Qw3.out)).trans Sw3.out.1, (World.cell?_alloc_lt w3 _ ⟨w.heap.size, 3, none⟩ (lt_of_block Qw3.out)).trans Sw3.out.2⟩))
   all_goals
    have HB0 : Hid (Below w3.heap.size w3 (w3.alloc (.cells #[.string ⟨x0.toArray⟩, .string ⟨y0.toArray⟩] 9))) := (Below.refl _ _).alloc (Nat.le_refl _) _
    have O3 : Hid ((w3.alloc (.cells #[.string ⟨x0.toArray⟩, .string ⟨y0.toArray⟩] 9)).ownsRow w3.heap.size 9 1 (.slice (some ⟨w3.heap.size, 0, none⟩) 2 2) 2 (scells (ts 0))) := by
     rw [HT0.out]
     exact World.ownsRow_lit (e := 9) (size := 1) w3 #[.string ⟨x0.toArray⟩, .string ⟨y0.toArray⟩] 2 (base := w3.heap.size) (Nat.le_refl _) (by unfold maxLen; omega) rfl
    clear KC KN
    go_wp2
    go_loopw [5, 6] (fun v i wr => ∃ j c2 g : Nat, j ≤ ss.length ∧ i = .int .i64 (j : Int) ∧ v = .slice (some ⟨g, 0, none⟩) (2 * j + 2) c2 ∧ wr.ownsRow w3.heap.size 9 1 (.slice (some ⟨g, 0, none⟩) (2 * j + 2) c2) (2 * j + 2) (scells (ts j)) ∧ Below w3.heap.size w3 wr) (fun _ i _ => ss.length - (intOf i).toNat)
    case atStart => exact ⟨0, 2, w3.heap.size, Nat.zero_le _, rfl, rfl, O3.out, HB0.out⟩
    case round =>
     obtain ⟨j, c2, g, hj, rfl, rfl, hown, hbel⟩ := hrel
     have hsz := hbel.size
     have hwb : Below w.heap.size w wr := Bw3.out.trans (hbel.mono Bw3.out.size)
     have Qr := (hbel.block w.heap.size (lt_of_block Qw3.out)).trans Qw3.out
     have hLr : w.heap.size < wr.heap.size := lt_of_block Qr
     obtain ⟨q0, q1, q2, q3, _⟩ := rp_cells Qr
     clear q0 q1 q2
     by_cases hlt : j < ss.length
     · obtain ⟨b, off, ha, d1, d2⟩ : ∃ b off, c = some ⟨b, off, none⟩ ∧ wr.cell? ⟨b, off + j * 2, none⟩ = some (.int .i64 ss[j].1) ∧ wr.cell? ⟨b, off + j * 2 + 1, none⟩ = some (.int .i64 ss[j].2) := by
        rcases HS.out wr hwb with h | ⟨b, off, h, hc⟩
        · rw [h] at hlt; simp at hlt
        · exact ⟨b, off, h, hc j hlt⟩
       subst ha
       have hj0 : (0 : Int) ≤ (j : Int) := by omega
       have hj1 : (j : Int) < (ss.length : Int) := by omega
       obtain ⟨⟨hx1, hx2⟩, hy1, hy2⟩ := HNU.out j hlt
       have HT : Hid (scells (ts (j + 1)) = scells (ts j) ++ [.string ⟨(numB 8 ss[j].1.toNat).toArray⟩, .string ⟨(numB 8 ss[j].2.toNat).toArray⟩]) := HTS.out j hlt
       have KX := fun W => spec_l1Num ss[j].1.toNat W hx2
       have KY := fun W => spec_l1Num ss[j].2.toNat W hy2
       rw [← hx1] at KX
       rw [← hy1] at KY
       obtain ⟨x, hx⟩ : ∃ x, x = ss[j].1 := ⟨_, rfl⟩
       obtain ⟨y, hy⟩ : ∃ y, y = ss[j].2 := ⟨_, rfl⟩
       rw [← hx] at d1 KX HT
       rw [← hy] at d2 KY HT
       obtain ⟨sx, hsx⟩ : ∃ s, s = numB 8 x.toNat := ⟨_, rfl⟩
       obtain ⟨sy, hsy⟩ : ∃ s, s = numB 8 y.toNat := ⟨_, rfl⟩
       rw [← hsx] at KX HT
       rw [← hsy] at KY HT
       have hbb := World.block_lt_of_cell? wr _ d1
       simp only at hbb
       have HSR : Hid (∀ W, Below wr.heap.size wr W → W.cell? ⟨w.heap.size, 3, none⟩ = some (.slice (some ⟨b, off, none⟩) ss.length cap2) ∧ W.cell? ⟨b, off + j * 2, none⟩ = some (.int .i64 x) ∧ W.cell? ⟨b, off + j * 2 + 1, none⟩ = some (.int .i64 y)) := fun W hW => ⟨(hW.cell (p := ⟨w.heap.size, 3, none⟩) hLr).trans q3, (hW.cell (p := ⟨b, off + j * 2, none⟩) hbb).trans d1, (hW.cell (p := ⟨b, off + j * 2 + 1, none⟩) hbb).trans d2⟩
       have HOR : Hid (∀ W, Below wr.heap.size wr W → W.ownsRow w3.heap.size 9 1 (.slice (some ⟨g, 0, none⟩) (2 * j + 2) c2) (2 * j + 2) (scells (ts j))) := fun W hW => kept1 hown hW
       have HBR : Hid (∀ W, Below wr.heap.size wr W → Below w3.heap.size w3 W) := fun W hW => hbel.trans (hW.mono hsz)
       have HLO : Hid (∀ k, (Value.slice (some ⟨g, 0, none⟩) (2 * j + 2) c2).ownBlock = some k → w3.heap.size ≤ k) := fun k hk => (hown.lt k hk).1
       have hb3 : Hid (b < w3.heap.size ∧ w.heap.size < w3.heap.size) := by
        refine ⟨?_, lt_of_block Qw3.out⟩
        rcases HS.out w3 Bw3.out with h | ⟨b', off', h, hc⟩
        · rw [h] at hlt; simp at hlt
        · cases h; exact World.block_lt_of_cell? w3 _ (hc j hlt).1
       have HKI : Hid ((Value.slice (some ⟨g, 0, none⟩) (2 * j + 2) c2).ownBlock ≠ some w.heap.size) := fun e => by have := HLO.out _ e; have := hb3.out.2; omega
       have HKB : Hid ((Value.slice (some ⟨g, 0, none⟩) (2 * j + 2) c2).ownBlock ≠ some b) := fun e => by have := HLO.out _ e; have := hb3.out.1; omega
       have HLL : Hid (w.heap.size < wr.heap.size ∧ b < wr.heap.size) := ⟨hLr, hbb⟩
       have Swr : Hid (wr.cell? ⟨w.heap.size, 3, none⟩ = some (.slice (some ⟨b, off, none⟩) ss.length cap2) ∧ wr.cell? ⟨b, off + j * 2, none⟩ = some (.int .i64 x) ∧ wr.cell? ⟨b, off + j * 2 + 1, none⟩ = some (.int .i64 y)) := HSR.out wr (Below.refl _ _)
       have Srd : Hid (wr.drew.cell? ⟨w.heap.size, 3, none⟩ = some (.slice (some ⟨b, off, none⟩) ss.length cap2) ∧ wr.drew.cell? ⟨b, off + j * 2, none⟩ = some (.int .i64 x) ∧ wr.drew.cell? ⟨b, off + j * 2 + 1, none⟩ = some (.int .i64 y)) := Swr.out
       clear hx hy hsx hsy hx1 hx2 hy1 hy2 hown hbel hwb d1 d2 HNU HTS HUS HKL HTL hbb hLr
       go_wp2_with fail
       go_region_held3 (fun w' => w'.cell? ⟨w.heap.size, 3, none⟩ = some (.slice (some ⟨b, off, none⟩) ss.length cap2) ∧ w'.cell? ⟨b, off + j * 2, none⟩ = some (.int .i64 x) ∧ w'.cell? ⟨b, off + j * 2 + 1, none⟩ = some (.int .i64 y))
        (first | with_reducible exact S4.out | with_reducible exact Sa.out | with_reducible exact Swf.out | with_reducible exact Swd.out | with_reducible exact Swe.out | with_reducible exact Swr.out | with_reducible exact Srd.out)
        (first
         | (go_at_call 42
            with_reducible refine (KY wr.drew).mono ?_
            rintro e wd ⟨rfl, bwd'⟩
            have bwd : Below wr.heap.size wr wd := ⟨bwd'.os, bwd'.tape, bwd'.output, bwd'.size, bwd'.block⟩
            have Rwd : Hid (Below wr.heap.size wr wd) := bwd
            have Swd : Hid (wd.cell? ⟨w.heap.size, 3, none⟩ = some (.slice (some ⟨b, off, none⟩) ss.length cap2) ∧ wd.cell? ⟨b, off + j * 2, none⟩ = some (.int .i64 x) ∧ wd.cell? ⟨b, off + j * 2 + 1, none⟩ = some (.int .i64 y)) := HSR.out wd Rwd.out
            clear bwd' bwd)
         | (go_at_call 42
            with_reducible refine (KX wd).mono ?_
            rintro e wf ⟨rfl, bwf'⟩
            have bwf : Below wd.heap.size wd wf := ⟨bwf'.os, bwf'.tape, bwf'.output, bwf'.size, bwf'.block⟩
            have Rwf : Hid (Below wr.heap.size wr wf) := Rwd.out.trans (bwf.mono Rwd.out.size)
            have Swf : Hid (wf.cell? ⟨w.heap.size, 3, none⟩ = some (.slice (some ⟨b, off, none⟩) ss.length cap2) ∧ wf.cell? ⟨b, off + j * 2, none⟩ = some (.int .i64 x) ∧ wf.cell? ⟨b, off + j * 2 + 1, none⟩ = some (.int .i64 y)) := HSR.out wf Rwf.out
            clear bwf' bwf
            have Sa : Hid ((wf.alloc (.cells #[.string ⟨sx.toArray⟩, .string ⟨sy.toArray⟩] 9)).cell? ⟨w.heap.size, 3, none⟩ = some (.slice (some ⟨b, off, none⟩) ss.length cap2) ∧ (wf.alloc (.cells #[.string ⟨sx.toArray⟩, .string ⟨sy.toArray⟩] 9)).cell? ⟨b, off + j * 2, none⟩ = some (.int .i64 x) ∧ (wf.alloc (.cells #[.string ⟨sx.toArray⟩, .string ⟨sy.toArray⟩] 9)).cell? ⟨b, off + j * 2 + 1, none⟩ = some (.int .i64 y)) := HSR.out _ (Rwf.out.alloc Rwf.out.size _)
            have Oa : Hid ((wf.alloc (.cells #[.string ⟨sx.toArray⟩, .string ⟨sy.toArray⟩] 9)).ownsRow w3.heap.size 9 1 (.slice (some ⟨g, 0, none⟩) (2 * j + 2) c2) (2 * j + 2) (scells (ts j))) := (HOR.out wf Rwf.out).alloc _
            have Na : Hid (∀ q u, [Value.string ⟨sx.toArray⟩, Value.string ⟨sy.toArray⟩][q]? = some u → (wf.alloc (.cells #[.string ⟨sx.toArray⟩, .string ⟨sy.toArray⟩] 9)).cell? ((⟨wf.heap.size, 0, none⟩ : Addr).add q) = some u) := World.news_of_block (cs := #[.string ⟨sx.toArray⟩, .string ⟨sy.toArray⟩]) (t := 9) (fr := (0, 0)) (heap_alloc_new wf _)
            have Ba : Hid (Below w3.heap.size w3 (wf.alloc (.cells #[.string ⟨sx.toArray⟩, .string ⟨sy.toArray⟩] 9))) := (HBR.out wf Rwf.out).alloc (HBR.out wf Rwf.out).size _
            have Ra : Hid (Below wr.heap.size wr (wf.alloc (.cells #[.string ⟨sx.toArray⟩, .string ⟨sy.toArray⟩] 9))) := Rwf.out.alloc Rwf.out.size _
            have Za : Hid (w3.heap.size ≤ (wf.alloc (.cells #[.string ⟨sx.toArray⟩, .string ⟨sy.toArray⟩] 9)).heap.size) := Ba.out.size)
         | (go_at_call 42
            with_reducible refine (KX wr.drew).mono ?_
            rintro e we ⟨rfl, bwe'⟩
            have bwe : Below wr.heap.size wr we := ⟨bwe'.os, bwe'.tape, bwe'.output, bwe'.size, bwe'.block⟩
            have Rwe : Hid (Below wr.heap.size wr we) := bwe
            have Swe : Hid (we.cell? ⟨w.heap.size, 3, none⟩ = some (.slice (some ⟨b, off, none⟩) ss.length cap2) ∧ we.cell? ⟨b, off + j * 2, none⟩ = some (.int .i64 x) ∧ we.cell? ⟨b, off + j * 2 + 1, none⟩ = some (.int .i64 y)) := HSR.out we Rwe.out
            clear bwe' bwe)
         | (go_at_call 42
            with_reducible refine (KY we).mono ?_
            rintro e wf ⟨rfl, bwf'⟩
            have bwf : Below we.heap.size we wf := ⟨bwf'.os, bwf'.tape, bwf'.output, bwf'.size, bwf'.block⟩
            have Rwf : Hid (Below wr.heap.size wr wf) := Rwe.out.trans (bwf.mono Rwe.out.size)
            have Swf : Hid (wf.cell? ⟨w.heap.size, 3, none⟩ = some (.slice (some ⟨b, off, none⟩) ss.length cap2) ∧ wf.cell? ⟨b, off + j * 2, none⟩ = some (.int .i64 x) ∧ wf.cell? ⟨b, off + j * 2 + 1, none⟩ = some (.int .i64 y)) := HSR.out wf Rwf.out
            clear bwf' bwf
            have Sa : Hid ((wf.alloc (.cells #[.string ⟨sx.toArray⟩, .string ⟨sy.toArray⟩] 9)).cell? ⟨w.heap.size, 3, none⟩ = some (.slice (some ⟨b, off, none⟩) ss.length cap2) ∧ (wf.alloc (.cells #[.string ⟨sx.toArray⟩, .string ⟨sy.toArray⟩] 9)).cell? ⟨b, off + j * 2, none⟩ = some (.int .i64 x) ∧ (wf.alloc (.cells #[.string ⟨sx.toArray⟩, .string ⟨sy.toArray⟩] 9)).cell? ⟨b, off + j * 2 + 1, none⟩ = some (.int .i64 y)) := HSR.out _ (Rwf.out.alloc Rwf.out.size _)
            have Oa : Hid ((wf.alloc (.cells #[.string ⟨sx.toArray⟩, .string ⟨sy.toArray⟩] 9)).ownsRow w3.heap.size 9 1 (.slice (some ⟨g, 0, none⟩) (2 * j + 2) c2) (2 * j + 2) (scells (ts j))) := (HOR.out wf Rwf.out).alloc _
            have Na : Hid (∀ q u, [Value.string ⟨sx.toArray⟩, Value.string ⟨sy.toArray⟩][q]? = some u → (wf.alloc (.cells #[.string ⟨sx.toArray⟩, .string ⟨sy.toArray⟩] 9)).cell? ((⟨wf.heap.size, 0, none⟩ : Addr).add q) = some u) := World.news_of_block (cs := #[.string ⟨sx.toArray⟩, .string ⟨sy.toArray⟩]) (t := 9) (fr := (0, 0)) (heap_alloc_new wf _)
            have Ba : Hid (Below w3.heap.size w3 (wf.alloc (.cells #[.string ⟨sx.toArray⟩, .string ⟨sy.toArray⟩] 9))) := (HBR.out wf Rwf.out).alloc (HBR.out wf Rwf.out).size _
            have Ra : Hid (Below wr.heap.size wr (wf.alloc (.cells #[.string ⟨sx.toArray⟩, .string ⟨sy.toArray⟩] 9))) := Rwf.out.alloc Rwf.out.size _
            have Za : Hid (w3.heap.size ≤ (wf.alloc (.cells #[.string ⟨sx.toArray⟩, .string ⟨sy.toArray⟩] 9)).heap.size) := Ba.out.size)
         | (refine step_append_lies _ rfl (.tmp 34) (.tmp 49) 65 rfl w3.heap.size 9 i0 (.string ⟨#[]⟩) 1 16 Tryz.underlying65 hi0 hz0 hz1 hz2 rfl (by decide) (.slice (some ⟨g, 0, none⟩) (2 * j + 2) c2) (2 * j + 2) (scells (ts j)) (by simp [Act.eval]) Oa.out ⟨wf.heap.size, 0, none⟩ 2 2 [.string ⟨sx.toArray⟩, .string ⟨sy.toArray⟩] (by simp [Act.eval]) rfl Na.out (by simp [Value.oneCell']) (by decide) (by unfold maxLen; omega) (by omega) Za.out _ rfl ?_
            intro g2 c4 wg hown4 hgrow4 hat4 hlt4
            have HO4 : Hid (wg.ownsRow w3.heap.size 9 1 (.slice (some ⟨g2, 0, none⟩) (2 * j + 2 + 2) c4) (2 * j + 2 + 2) (scells (ts (j + 1)))) := by rw [Hid, HT.out]; exact hown4
            have B4 : Hid (Below w3.heap.size w3 wg) := Ba.out.grown hgrow4 Za.out HLO.out
            have S4 : Hid (wg.cell? ⟨w.heap.size, 3, none⟩ = some (.slice (some ⟨b, off, none⟩) ss.length cap2) ∧ wg.cell? ⟨b, off + j * 2, none⟩ = some (.int .i64 x) ∧ wg.cell? ⟨b, off + j * 2 + 1, none⟩ = some (.int .i64 y)) := ⟨(hgrow4.cell_far ⟨w.heap.size, 3, none⟩ (Nat.lt_of_lt_of_le HLL.out.1 Ra.out.size) HKI.out.symm).trans Sa.out.1, (hgrow4.cell_far ⟨b, off + j * 2, none⟩ (Nat.lt_of_lt_of_le HLL.out.2 Ra.out.size) HKB.out.symm).trans Sa.out.2.1, (hgrow4.cell_far ⟨b, off + j * 2 + 1, none⟩ (Nat.lt_of_lt_of_le HLL.out.2 Ra.out.size) HKB.out.symm).trans Sa.out.2.2⟩
            clear hown4 hgrow4 hat4 hlt4))
       all_goals
        have HO5 : Hid (wg.ownsRow w3.heap.size 9 1 (.slice (some ⟨g2, 0, none⟩) (2 * (j + 1) + 2) c4) (2 * (j + 1) + 2) (scells (ts (j + 1)))) := HO4.out
        clear Sa Oa Na Ba Ra Za KX KY
        go_wp2
        go_roundw
        case rel => exact ⟨j + 1, c4, g2, by omega, by go_num, rfl, HO5.out, B4.out⟩
        case measure => simp [intOf]; omega
     · have hjl : j = ss.length := by omega
       subst hjl
       rw [HTL.out] at hown
       have HO0 : Hid (wr.ownsRow w3.heap.size 9 1 (.slice (some ⟨g, 0, none⟩) (2 * ss.length + 2 + 2 * 0) c2) (2 * ss.length + 2 + 2 * 0) (scells (us 0))) := hown
       have HBE : Hid (Below w3.heap.size w3 wr) := hbel
       clear hown hbel HTL HTS HNU Qr hsz
       go_wp2
       go_loopw [5, 7] (fun v i wr => ∃ j c3 g2 : Nat, j ≤ l.length ∧ i = .int .i64 (j : Int) ∧ v = .slice (some ⟨g2, 0, none⟩) (2 * ss.length + 2 + 2 * j) c3 ∧ wr.ownsRow w3.heap.size 9 1 (.slice (some ⟨g2, 0, none⟩) (2 * ss.length + 2 + 2 * j) c3) (2 * ss.length + 2 + 2 * j) (scells (us j)) ∧ Below w3.heap.size w3 wr) (fun _ i _ => l.length - (intOf i).toNat)
       case atStart => exact ⟨0, c2, g, Nat.zero_le _, rfl, rfl, HO0.out, HBE.out⟩
       case round =>
        obtain ⟨j, c3, g2, hj2, rfl, rfl, hown, hbel⟩ := hrel
        have hsz := hbel.size
        have hwt : Below w.heap.size w wr := Bw3.out.trans (hbel.mono Bw3.out.size)
        by_cases hlt2 : j < l.length
        · obtain ⟨b1, rfl, d1, d2, hb1⟩ : ∃ b1, a1 = some ⟨b1, 0, none⟩ ∧ wr.cell? ⟨b1, j * 2, none⟩ = some (.string ⟨l[j].1.toArray⟩) ∧ wr.cell? ⟨b1, j * 2 + 1, none⟩ = some (.string ⟨l[j].2.toArray⟩) ∧ b1 < w3.heap.size := by
           rcases own_cases2 Pw3.out with ⟨_, hn, _⟩ | ⟨b1, c9, hv, _, hb1, hc, _⟩
           · omega
           · cases hv
             have hq := pcells_at l j hlt2
             exact ⟨b1, rfl, (hbel.cell (p := ⟨b1, j * 2, none⟩) hb1).trans ((hc _ (by omega)).trans hq.1), (hbel.cell (p := ⟨b1, j * 2 + 1, none⟩) hb1).trans ((hc _ (by omega)).trans hq.2), hb1⟩
          have hj0 : (0 : Int) ≤ (j : Int) := by omega
          have hj1 : (j : Int) < (l.length : Int) := by omega
          have HT : Hid (scells (us (j + 1)) = scells (us j) ++ [.string ⟨l[j].1.toArray⟩, .string ⟨l[j].2.toArray⟩]) := HUS.out j hlt2
          obtain ⟨x, hx⟩ : ∃ x, x = l[j].1 := ⟨_, rfl⟩
          obtain ⟨y, hy⟩ : ∃ y, y = l[j].2 := ⟨_, rfl⟩
          rw [← hx] at d1 HT
          rw [← hy] at d2 HT
          have hbb := World.block_lt_of_cell? wr _ d1
          simp only at hbb
          have Sr : Hid (wr.cell? ⟨b1, j * 2, none⟩ = some (.string ⟨x.toArray⟩) ∧ wr.cell? ⟨b1, j * 2 + 1, none⟩ = some (.string ⟨y.toArray⟩)) := ⟨d1, d2⟩
          have Srd : Hid (wr.drew.cell? ⟨b1, j * 2, none⟩ = some (.string ⟨x.toArray⟩) ∧ wr.drew.cell? ⟨b1, j * 2 + 1, none⟩ = some (.string ⟨y.toArray⟩)) := ⟨d1, d2⟩
          have Sa : Hid ((wr.alloc (.cells #[.string ⟨x.toArray⟩, .string ⟨y.toArray⟩] 9)).drew.cell? ⟨b1, j * 2, none⟩ = some (.string ⟨x.toArray⟩) ∧ (wr.alloc (.cells #[.string ⟨x.toArray⟩, .string ⟨y.toArray⟩] 9)).drew.cell? ⟨b1, j * 2 + 1, none⟩ = some (.string ⟨y.toArray⟩)) := ⟨(World.cell?_alloc_lt wr _ ⟨b1, j * 2, none⟩ hbb).trans d1, (World.cell?_alloc_lt wr _ ⟨b1, j * 2 + 1, none⟩ hbb).trans d2⟩
          have Oa : Hid ((wr.alloc (.cells #[.string ⟨x.toArray⟩, .string ⟨y.toArray⟩] 9)).drew.ownsRow w3.heap.size 9 1 (.slice (some ⟨g2, 0, none⟩) (2 * ss.length + 2 + 2 * j) c3) (2 * ss.length + 2 + 2 * j) (scells (us j))) := hown.alloc _
          have Na : Hid (∀ q u, [Value.string ⟨x.toArray⟩, Value.string ⟨y.toArray⟩][q]? = some u → (wr.alloc (.cells #[.string ⟨x.toArray⟩, .string ⟨y.toArray⟩] 9)).drew.cell? ((⟨wr.heap.size, 0, none⟩ : Addr).add q) = some u) := World.news_of_block (cs := #[.string ⟨x.toArray⟩, .string ⟨y.toArray⟩]) (t := 9) (fr := (0, 0)) (heap_alloc_new wr _)
          have Ba : Hid (Below w3.heap.size w3 (wr.alloc (.cells #[.string ⟨x.toArray⟩, .string ⟨y.toArray⟩] 9)).drew) := (fun h => ⟨h.os, h.tape, h.output, h.size, h.block⟩ : Below w3.heap.size w3 (wr.alloc (.cells #[.string ⟨x.toArray⟩, .string ⟨y.toArray⟩] 9)) → Below w3.heap.size w3 (wr.alloc (.cells #[.string ⟨x.toArray⟩, .string ⟨y.toArray⟩] 9)).drew) (hbel.alloc hsz _)
          have Za : Hid (w3.heap.size ≤ (wr.alloc (.cells #[.string ⟨x.toArray⟩, .string ⟨y.toArray⟩] 9)).heap.size) := by rw [Hid]; simp; omega
          have HLO : Hid (∀ k, (Value.slice (some ⟨g2, 0, none⟩) (2 * ss.length + 2 + 2 * j) c3).ownBlock = some k → w3.heap.size ≤ k) := fun k hk => (hown.lt k hk).1
          have HKB : Hid ((Value.slice (some ⟨g2, 0, none⟩) (2 * ss.length + 2 + 2 * j) c3).ownBlock ≠ some b1) := fun e => by have := HLO.out _ e; omega
          have hb3 : Hid (b1 < (wr.alloc (.cells #[.string ⟨x.toArray⟩, .string ⟨y.toArray⟩] 9)).heap.size) := by rw [Hid]; simp; omega
          clear hx hy hown hbel hwt d1 d2 HUS HKL HO0 HBE
          go_wp2_with fail
          go_region_held3 (fun w' => w'.cell? ⟨b1, j * 2, none⟩ = some (.string ⟨x.toArray⟩) ∧ w'.cell? ⟨b1, j * 2 + 1, none⟩ = some (.string ⟨y.toArray⟩))
           (first | with_reducible exact S4.out | with_reducible exact Sa.out | with_reducible exact Sr.out | with_reducible exact Srd.out)
           ((refine step_append_lies _ rfl (.tmp 57) (.tmp 68) 65 rfl w3.heap.size 9 i0 (.string ⟨#[]⟩) 1 16 Tryz.underlying65 hi0 hz0 hz1 hz2 rfl (by decide) (.slice (some ⟨g2, 0, none⟩) (2 * ss.length + 2 + 2 * j) c3) (2 * ss.length + 2 + 2 * j) (scells (us j)) (by simp [Act.eval]) Oa.out ⟨wr.heap.size, 0, none⟩ 2 2 [.string ⟨x.toArray⟩, .string ⟨y.toArray⟩] (by simp [Act.eval]) rfl Na.out (by simp [Value.oneCell']) (by decide) (by unfold maxLen; omega) (by omega) Za.out _ rfl ?_
             intro g3 c4 wg hown4 hgrow4 hat4 hlt4
             have HO4 : Hid (wg.ownsRow w3.heap.size 9 1 (.slice (some ⟨g3, 0, none⟩) (2 * ss.length + 2 + 2 * j + 2) c4) (2 * ss.length + 2 + 2 * j + 2) (scells (us (j + 1)))) := by rw [Hid, HT.out]; exact hown4
             have B4 : Hid (Below w3.heap.size w3 wg) := Ba.out.grown hgrow4 Za.out HLO.out
             have S4 : Hid (wg.cell? ⟨b1, j * 2, none⟩ = some (.string ⟨x.toArray⟩) ∧ wg.cell? ⟨b1, j * 2 + 1, none⟩ = some (.string ⟨y.toArray⟩)) := ⟨(hgrow4.cell_far ⟨b1, j * 2, none⟩ hb3.out HKB.out.symm).trans Sa.out.1, (hgrow4.cell_far ⟨b1, j * 2 + 1, none⟩ hb3.out HKB.out.symm).trans Sa.out.2⟩
             clear hown4 hgrow4 hat4 hlt4))
          all_goals
           have HO5 : Hid (wg.ownsRow w3.heap.size 9 1 (.slice (some ⟨g3, 0, none⟩) (2 * ss.length + 2 + 2 * (j + 1)) c4) (2 * ss.length + 2 + 2 * (j + 1)) (scells (us (j + 1)))) := HO4.out
           clear Sa Oa Na Ba Sr
           go_wp2
           go_roundw
           case rel => exact ⟨j + 1, c4, g3, by omega, by go_num, rfl, HO5.out, B4.out⟩
           case measure => simp [intOf]; omega
        · have hjl : j = l.length := by omega
          subst hjl
          have HI := hidOwn hown
          clear hown
          go_wp2_with fail
          refine (HKL.out _ _ _ _ HI.out).mono ?_
          rintro e w5 ⟨rfl, b5⟩
          have B5 := hwt.trans (b5.mono hwt.size)
          clear b5
          go_wp2
          go_ret
          exact ⟨rfl, B5⟩
end Go.Proofs.YthnddgdnialogaaGreatDoor
