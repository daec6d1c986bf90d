/-
 What a walk from a root finds is what is gathered under it, on lists.
-/
import Derived.Test.YtplhiipgioecpaaGreatDoorGatAll
import Derived.Test.YtplhiipgioecpaaGreatDoorLaidAll
namespace Go.Proofs.YtplhiipgioecpaaGreatDoor
open Go.RowKit
set_option linter.unusedVariables false
theorem nibs_app (a b : List UInt8) : isNibs (a ++ b) = true ↔ isNibs a = true ∧ isNibs b = true := by simp [isNibs]
theorem pack_inj {a b : List UInt8} (ha : isNibs a = true) (hb : isNibs b = true) (ea : a.length % 2 = 0) (eb : b.length % 2 = 0) (h : pack a = pack b) : a = b := by
 rw [← nibs_pack a ea ha, ← nibs_pack b eb hb, h]
theorem underTo_mem {g : List UInt8 → List UInt8 → Option (List PairL)} {k : Int} {full : List UInt8} {ls : List (List UInt8)} : ∀ m x, underTo g k full ls m = some x → (∀ e ∈ x, ∃ j, j < m ∧ ls.getD j [] ≠ [] ∧ ∃ lj, g (ls.getD j []) (stepK k full j) = some lj ∧ e ∈ lj) ∧ (∀ j, j < m → ls.getD j [] ≠ [] → ∃ lj, g (ls.getD j []) (stepK k full j) = some lj ∧ ∀ e ∈ lj, e ∈ x)
 | 0, x, h => by cases h; exact ⟨fun e he => by simp at he, fun j hj => by omega⟩
 | m + 1, x, h => by
   cases hk : underTo g k full ls m with
   | none => simp only [underTo, hk] at h; cases h
   | some y =>
     obtain ⟨i1, i2⟩ := underTo_mem m y hk
     by_cases he : ls.getD m [] = []
     · rw [underTo_skip hk he] at h
       cases h
       refine ⟨fun e h => ?_, fun j hj hn => ?_⟩
       · obtain ⟨j, hj, r⟩ := i1 e h
         exact ⟨j, by omega, r⟩
       · by_cases hjm : j = m
         · subst hjm; exact absurd he hn
         · exact i2 j (by omega) hn
     · rw [underTo_on hk he, Option.map_eq_some_iff] at h
       obtain ⟨z, hz, rfl⟩ := h
       refine ⟨fun e h => ?_, fun j hj hn => ?_⟩
       · rcases List.mem_append.1 h with h | h
         · obtain ⟨j, hj, r⟩ := i1 e h
           exact ⟨j, by omega, r⟩
         · exact ⟨m, by omega, he, z, hz, h⟩
       · by_cases hjm : j = m
         · subst hjm; exact ⟨z, hz, fun e h => List.mem_append_right _ h⟩
         · obtain ⟨lj, h1, h2⟩ := i2 j (by omega) hn
           exact ⟨lj, h1, fun e h => List.mem_append_left _ (h2 e h)⟩
theorem stepK_nib {k : Int} {full : List UInt8} {j : Nat} (h : isNibs full = true) (hj : j < 16) : isNibs (stepK k full j) = true := by
 unfold stepK
 split
 · rw [nibs_app]; refine ⟨h, ?_⟩
   simp [isNibs]; omega
 · exact h
theorem kids_16 {n : NodeL} (h : n.ok = true) : n.ls.length ≤ 16 := by
 rcases (ok_parts n h).2.2.2 with ⟨_, h, _⟩ | ⟨_, _, _, x, h, _⟩ | ⟨_, _, h, _⟩
 · rw [h]; simp
 · rw [h]; simp
 · omega
theorem atF_pre (find : List UInt8 → Option (List UInt8)) (hok : ∀ h t, find h = some t → (nodeAt t).ok = true) : ∀ f h path l, atF find f h path = some l → isNibs path = true → ∀ e ∈ l, e.2 ≠ [] ∧ ∃ r, isNibs r = true ∧ (path ++ r).length % 2 = 0 ∧ e.1 = pack (path ++ r)
 | 0, h, path, l, hl, hp, e, he => by cases hl
 | f + 1, h, path, l, hl, hp, e, he => by
   cases hf : find h with
   | none => rw [atF_none find _ h path hf] at hl; cases hl
   | some t =>
     have hno := hok h t hf
     have ho := ok_parts _ hno
     have h16 := kids_16 hno
     rw [atF_some find f h path t (nodeAt t).k (nodeAt t).p (nodeAt t).v (nodeAt t).ls hf rfl] at hl
     by_cases hfu : fullOk (path ++ (nodeAt t).p) (nodeAt t).v = true
     · rw [if_pos hfu, Option.map_eq_some_iff] at hl
       obtain ⟨x, hx, rfl⟩ := hl
       simp only [fullOk, Bool.and_eq_true, Bool.or_eq_true, decide_eq_true_eq] at hfu
       rcases List.mem_append.1 he with h | h
       · unfold ownP at h
         split at h
         · cases h
         · rename_i hv
           simp only [List.mem_singleton] at h
           subst h
           exact ⟨hv, (nodeAt t).p, ho.2.1, hfu.2.resolve_left hv, rfl⟩
       · obtain ⟨j, hj, hne, lj, h1, h2⟩ := (underTo_mem _ x hx).1 e h
         have hfn : isNibs (path ++ (nodeAt t).p) = true := (nibs_app _ _).2 ⟨hp, ho.2.1⟩
         obtain ⟨hv, r, r1, r2, r3⟩ := atF_pre find hok f _ _ lj h1 (stepK_nib hfn (by omega)) e h2
         refine ⟨hv, ?_⟩
         unfold stepK at r2 r3
         split at r2
         · rename_i hk
           rw [if_pos hk] at r3
           refine ⟨(nodeAt t).p ++ (UInt8.ofNat j :: r), ?_, by simpa using r2, by rw [r3]; simp⟩
           rw [nibs_app]; refine ⟨ho.2.1, ?_⟩
           have : isNibs ([UInt8.ofNat j] ++ r) = true := (nibs_app _ _).2 ⟨by simp [isNibs]; omega, r1⟩
           exact this
         · rename_i hk
           rw [if_neg hk] at r3
           exact ⟨(nodeAt t).p ++ r, (nibs_app _ _).2 ⟨ho.2.1, r1⟩, by simpa using r2, by rw [r3]; simp⟩
     · rw [if_neg hfu] at hl
       cases hl
def SaysL (l : List PairL) (key : List UInt8) (r : Int × List UInt8) : Prop := (∃ v, (key, v) ∈ l ∧ v ≠ [] ∧ r = (1, v)) ∨ ((∀ v, (key, v) ∉ l) ∧ r = (0, []))
theorem way_at (find : List UInt8 → Option (List UInt8)) (hok : ∀ h t, find h = some t → (nodeAt t).ok = true) : ∀ f g h path rest l, f ≤ g → atF find f h path = some l → isNibs path = true → isNibs rest = true → (path ++ rest).length % 2 = 0 → SaysL l (pack (path ++ rest)) (wayL find g h rest).2
 | 0, g, h, path, rest, l, hg, hl, hp, hr, hev => by cases hl
 | f + 1, 0, h, path, rest, l, hg, hl, hp, hr, hev => by omega
 | f + 1, g + 1, h, path, rest, l, hg, hl, hp, hr, hev => by
   cases hf : find h with
   | none => rw [atF_none find _ h path hf] at hl; cases hl
   | some t =>
     have hno := hok h t hf
     have ho := ok_parts _ hno
     have hpr := atF_pre find hok (f + 1) h path l hl hp
     have hall : isNibs (path ++ rest) = true := (nibs_app _ _).2 ⟨hp, hr⟩
     rw [atF_some find f h path t (nodeAt t).k (nodeAt t).p (nodeAt t).v (nodeAt t).ls hf rfl] at hl
     by_cases hfu : fullOk (path ++ (nodeAt t).p) (nodeAt t).v = true
     case neg => rw [if_neg hfu] at hl; cases hl
     rw [if_pos hfu, Option.map_eq_some_iff] at hl
     obtain ⟨x, hx, rfl⟩ := hl
     simp only [fullOk, Bool.and_eq_true, Bool.or_eq_true, decide_eq_true_eq] at hfu
     rcases hnd : nodeAt t with ⟨k, p, ls, v⟩
     rw [hnd] at ho hx hfu hpr hno
     obtain ⟨o1, o2, o3, o4⟩ := ho
     simp only at o1 o2 o3 o4 hx hfu hpr
     have hU := underTo_mem _ x hx
     rcases o4 with ⟨rfl, rfl, hv⟩ | ⟨rfl, hpn, rfl, y, rfl, hy⟩ | ⟨rfl, rfl, h16, hks⟩
     · have hxe : x = [] := by simpa [underTo] using hx.symm
       subst hxe
       have hown : ownP (path ++ p) v = [(pack (path ++ p), v)] := by unfold ownP; rw [if_neg hv]
       simp only [hown, List.append_nil]
       by_cases he : p = rest
       · subst he
         rw [wayL_ends find g h p t 1 v hf (by rw [hnd]; simp [stepL])]
         exact .inl ⟨v, by simp, hv, rfl⟩
       · rw [wayL_ends find g h rest t 0 [] hf (by rw [hnd]; simp [stepL, he])]
         refine .inr ⟨fun v' h' => ?_, rfl⟩
         simp only [List.mem_singleton, Prod.mk.injEq] at h'
         have := pack_inj hall ((nibs_app _ _).2 ⟨hp, o2⟩) hev (hfu.2.resolve_left hv) h'.1
         exact he (List.append_cancel_left this).symm
     · have hown : ownP (path ++ p) [] = [] := by simp [ownP]
       simp only [hown, List.nil_append]
       have hyn : y ≠ [] := fun e => by subst e; simp at hy
       obtain ⟨lj, h1, h2⟩ := hU.2 0 (by simp) hyn
       have hst : stepK 2 (path ++ p) 0 = path ++ p := by simp [stepK]
       have h3 : ∀ e ∈ x, e ∈ lj := fun e he => by
        obtain ⟨j, hj, _, lj', h1', h2'⟩ := hU.1 e he
        obtain rfl : j = 0 := by simpa using hj
        rw [h1] at h1'; cases h1'; exact h2'
       rw [hst] at h1
       have hpp : isNibs (path ++ p) = true := (nibs_app _ _).2 ⟨hp, o2⟩
       by_cases he : rest.take p.length = p
       · rw [wayL_on find g h rest t y (rest.drop p.length) hf (by rw [hnd]; simp [stepL, he])]
         have hrr : rest = p ++ rest.drop p.length := by conv => lhs; rw [← List.take_append_drop p.length rest, he]
         have hnr : isNibs (rest.drop p.length) = true := by rw [hrr, nibs_app] at hr; exact hr.2
         have e0 : path ++ p ++ rest.drop p.length = path ++ rest := by rw [List.append_assoc, ← hrr]
         have IH := way_at find hok f g y (path ++ p) (rest.drop p.length) lj (by omega) h1 hpp hnr (by rw [e0]; exact hev)
         rw [e0] at IH
         rcases IH with ⟨v, m1, m2, m3⟩ | ⟨m1, m2⟩
         · exact .inl ⟨v, h2 _ m1, m2, m3⟩
         · exact .inr ⟨fun v hm => m1 v (h3 _ hm), m2⟩
       · rw [wayL_ends find g h rest t 0 [] hf (by rw [hnd]; simp [stepL, he])]
         refine .inr ⟨fun v' h' => ?_, rfl⟩
         obtain ⟨_, r, r1, r2, r3⟩ := atF_pre find hok f y (path ++ p) lj h1 hpp _ (h3 _ h')
         have := pack_inj hall ((nibs_app _ _).2 ⟨hpp, r1⟩) hev r2 r3
         rw [List.append_assoc] at this
         have := List.append_cancel_left this
         exact he (by rw [this]; simp)
     · simp only [List.append_nil] at hx hU hfu ⊢
       have kidE : ∀ e ∈ x, ∃ j, j < 16 ∧ ls.getD j [] ≠ [] ∧ ∃ lj, atF find f (ls.getD j []) (path ++ [UInt8.ofNat j]) = some lj ∧ e ∈ lj := fun e he => by
        obtain ⟨j, hj, hn, lj, q1, q2⟩ := hU.1 e he
        exact ⟨j, by omega, hn, lj, by simpa [stepK] using q1, q2⟩
       have nj : ∀ j, j < 16 → isNibs (path ++ [UInt8.ofNat j]) = true := fun j hj => (nibs_app _ _).2 ⟨hp, by simp [isNibs]; omega⟩
       have kidK : ∀ v', (pack (path ++ rest), v') ∈ x → ∃ j r, j < 16 ∧ ls.getD j [] ≠ [] ∧ rest = UInt8.ofNat j :: r ∧ ∃ lj, atF find f (ls.getD j []) (path ++ [UInt8.ofNat j]) = some lj ∧ (pack (path ++ rest), v') ∈ lj := fun v' h' => by
        obtain ⟨j, hj, hn, lj, q1, q2⟩ := kidE _ h'
        obtain ⟨_, r, r1, r2, r3⟩ := atF_pre find hok f _ _ lj q1 (nj j hj) _ q2
        have := pack_inj hall ((nibs_app _ _).2 ⟨nj j hj, r1⟩) hev r2 r3
        rw [List.append_assoc] at this
        exact ⟨j, r, hj, hn, by simpa using List.append_cancel_left this, lj, q1, q2⟩
       cases rest with
       | nil =>
         rw [List.append_nil] at hall hev kidK ⊢
         by_cases hv : v = []
         · rw [wayL_ends find g h [] t 0 [] hf (by rw [hnd]; simp [stepL, hv])]
           refine .inr ⟨fun v' h' => ?_, rfl⟩
           rw [hv] at h'
           have h' : (pack path, v') ∈ x := by simpa [ownP] using h'
           obtain ⟨j, r, _, _, e, _⟩ := kidK v' h'
           cases e
         · rw [wayL_ends find g h [] t 1 v hf (by rw [hnd]; simp [stepL, hv])]
           exact .inl ⟨v, List.mem_append_left _ (by simp [ownP, hv]), hv, rfl⟩
       | cons b r =>
         have notOwn : ∀ v', (pack (path ++ b :: r), v') ∈ ownP path v → False := fun v' h' => by
          unfold ownP at h'
          split at h'
          · cases h'
          · rename_i hv
            simp only [List.mem_singleton, Prod.mk.injEq] at h'
            have := pack_inj hall hp hev (hfu.2.resolve_left hv) h'.1
            simp at this
         have hb : b.toNat < 16 := by
          rw [nibs_app] at hall
          have := hall.2
          simp [isNibs] at this
          omega
         have hbb : UInt8.ofNat b.toNat = b := by simp
         by_cases hk : ls.getD b.toNat [] = []
         · rw [wayL_ends find g h (b :: r) t 0 [] hf (by rw [hnd]; simp only [stepL]; rw [if_neg (by decide), if_neg (by decide), if_pos hk])]
           refine .inr ⟨fun v' h' => ?_, rfl⟩
           rcases List.mem_append.1 h' with h' | h'
           · exact notOwn v' h'
           · obtain ⟨j, r', hj, hn, e, _⟩ := kidK v' h'
             simp only [List.cons.injEq] at e
             rw [e.1] at hk
             have : (UInt8.ofNat j).toNat = j := by simp; omega
             rw [this] at hk
             exact hn hk
         · rw [wayL_on find g h (b :: r) t (ls.getD b.toNat []) r hf (by rw [hnd]; simp only [stepL]; rw [if_neg (by decide), if_neg (by decide), if_neg hk])]
           obtain ⟨lj, h1, h2⟩ := hU.2 b.toNat (by omega) hk
           have hst : stepK 3 path b.toNat = path ++ [b] := by simp [stepK]
           rw [hst] at h1
           have hnb : isNibs (path ++ [b]) = true ∧ isNibs r = true := by
            have : isNibs (path ++ [b] ++ r) = true := by simpa using hall
            exact (nibs_app _ _).1 this
           have e0 : path ++ [b] ++ r = path ++ b :: r := by simp
           have IH := way_at find hok f g (ls.getD b.toNat []) (path ++ [b]) r lj (by omega) h1 hnb.1 hnb.2 (by rw [e0]; exact hev)
           rw [e0] at IH
           rcases IH with ⟨v', m1, m2, m3⟩ | ⟨m1, m2⟩
           · exact .inl ⟨v', List.mem_append_right _ (h2 _ m1), m2, m3⟩
           · refine .inr ⟨fun v' hm => ?_, m2⟩
             rcases List.mem_append.1 hm with hm | hm
             · exact notOwn v' hm
             · obtain ⟨j, r', hj, hn, e, lj', q1, q2⟩ := kidK v' hm
               simp only [List.cons.injEq] at e
               have hjb : j = b.toNat := by rw [e.1]; simp; omega
               rw [hjb] at q1
               rw [hbb, h1] at q1
               cases q1
               exact m1 v' q2
theorem way_found (find : List UInt8 → Option (List UInt8)) (hok : ∀ h t, find h = some t → (nodeAt t).ok = true) : ∀ g h p, (wayL find g h p).2.1 = 1 → (wayL find g h p).2.2 ≠ []
 | 0, h, p, h1 => by simp [wayL] at h1
 | g + 1, h, p, h1 => by
   cases hf : find h with
   | none => rw [wayL_none find g h p hf] at h1; simp at h1
   | some t =>
     cases hs : stepL (nodeAt t) p with
     | on h' p' =>
       rw [wayL_on find g h p t h' p' hf hs] at h1 ⊢
       exact way_found find hok g h' p' h1
     | ends c v =>
       rw [wayL_ends find g h p t c v hf hs] at h1 ⊢
       have hc : c = 1 := h1
       subst hc
       show v ≠ []
       have ho := (ok_parts _ (hok h t hf)).2.2.2
       intro hv
       subst hv
       unfold stepL at hs
       split at hs
       · rename_i hk
         split at hs
         · simp only [StepL.ends.injEq, true_and] at hs
           rcases ho with ⟨_, _, h⟩ | ⟨h, _⟩ | ⟨h, _⟩
           · exact h hs
           · omega
           · omega
         · simp at hs
       · split at hs
         · split at hs <;> simp at hs
         · split at hs
           · split at hs
             · simp at hs
             · rename_i hv
               simp only [StepL.ends.injEq, true_and] at hs
               exact hv hs
           · split at hs <;> simp at hs
theorem find_nodes {ps : List PairL} (hs : storeOkL ps = true) : ∀ h t, findL ps h = some t → (nodeAt t).ok = true := fun h t hf => by
 obtain ⟨_, _, _, _, hr⟩ := findL_ok ps hs h t hf
 exact nodeAt_ok t hr
theorem get_found (ps : List PairL) (root key : List UInt8) : getC ps root key = 1 → getV ps root key ≠ [] := by
 unfold getC getV
 split
 · rename_i h
   simp only [getOkL, Bool.and_eq_true] at h
   unfold walkL
   split
   · intro h1; simp at h1
   · exact way_found _ (find_nodes h.1) _ _ _
 · intro h1; simp at h1
theorem pairsLt_step {l : List PairL} (h : pairsOkL l = true) (i : Nat) : ∀ d, i + 1 + d < l.length → Op.bytesLess (keyAt l i) (keyAt l (i + 1 + d)) = true
 | 0, hd => by
   have := (pairsOk_of l h).2 (i + 1) (by omega)
   simp only [okAt, Bool.and_eq_true, Bool.or_eq_true, decide_eq_true_eq] at this
   simpa using this.2
 | d + 1, hd => by
   have h1 := pairsLt_step h i d (by omega)
   have := (pairsOk_of l h).2 (i + 1 + d + 1) (by omega)
   simp only [okAt, Bool.and_eq_true, Bool.or_eq_true, decide_eq_true_eq] at this
   have h2 : Op.bytesLess (keyAt l (i + 1 + d)) (keyAt l (i + 1 + d + 1)) = true := by simpa using this.2
   exact stLess_trans _ _ _ h1 h2
theorem pairs_lt {l : List PairL} (h : pairsOkL l = true) : l.Pairwise (fun x y => x.1 < y.1) := by
 rw [List.pairwise_iff_getElem]
 intro i j hi hj hij
 have := pairsLt_step h i (j - i - 1) (by omega)
 rw [show i + 1 + (j - i - 1) = j by omega, keyAt_lt l i hi, keyAt_lt l j hj] at this
 exact (less_iff _ _).1 this
theorem get_at {ps : List PairL} {root key : List UInt8} {l : List PairL} (hk : key.length ≤ 12) (h : pairsAtR ps root = some l) : getV ps root key = (findL l key).getD [] ∧ getC ps root key = if (findL l key).getD [] = [] then 0 else 1 := by
 by_cases hs : storeOkL ps = true
 case neg => rw [pairsAt_no hs] at h; cases h
 by_cases he : root = emptyL
 · rw [pairsAt_empty hs he] at h
   cases h
   have h32 : root.length = 32 := by rw [he]; exact sumL_len _
   have hg : getOkL ps root key = true := by simp [getOkL, hs, h32, hk]
   have hw : walkL ps root key = ([], 0, []) := if_pos he
   unfold getV getC
   rw [if_pos hg, if_pos hg, hw]
   exact ⟨rfl, rfl⟩
 · cases ha : atF (findL ps) 26 root [] with
   | none => rw [pairsAt_lost hs he (.inl ha)] at h; cases h
   | some l' =>
     rw [pairsAt_some hs he ha] at h
     split at h
     case isFalse => cases h
     rename_i hr
     cases h
     have hf : ∃ t, findL ps root = some t := by
      cases hf : findL ps root with
      | none => rw [atF_none _ _ _ _ hf] at ha; cases ha
      | some t => exact ⟨t, rfl⟩
     obtain ⟨t, hf⟩ := hf
     have h32 : root.length = 32 := by
      obtain ⟨j, hj, q, _⟩ := findL_ok ps hs root t hf
      rw [← q, keyAt_lt _ _ hj]
      exact storeOk_32 ps hs _ (List.getElem_mem _)
     have hg : getOkL ps root key = true := by simp [getOkL, hs, h32, hk]
     have hw : walkL ps root key = wayL (findL ps) 30 root (nibs key) := if_neg he
     have hpo : pairsOkL l = true := by have := hr.1; simp only [rootOk, Bool.and_eq_true] at this; exact this.1
     have hri := pairs_lt hpo
     have W := way_at _ (find_nodes hs) 26 30 root [] (nibs key) l (by omega) ha rfl (nibs_nibs key) (by rw [List.nil_append, nibs_length]; omega)
     rw [List.nil_append, pack_nibs] at W
     unfold getV getC
     rw [if_pos hg, if_pos hg, hw]
     rcases W with ⟨v, m1, m2, m3⟩ | ⟨m1, m3⟩
     · have hfv : findL l key = some v := find_mem l hri (key, v) m1
       rw [m3, hfv]
       exact ⟨rfl, (if_neg m2).symm⟩
     · have hfv : findL l key = none := by
        cases hq : findL l key with
        | none => rfl
        | some v =>
          exfalso
          unfold findL at hq
          rw [Option.map_eq_some_iff] at hq
          obtain ⟨e, he1, he2⟩ := hq
          have h1 := List.mem_of_find?_eq_some he1
          have h2 := List.find?_some he1
          simp only [beq_iff_eq] at h2
          exact m1 e.2 (by rw [← h2]; exact h1)
       rw [m3, hfv]
       exact ⟨rfl, rfl⟩
end Go.Proofs.YtplhiipgioecpaaGreatDoor
