/- Layer 6: plain facts of overlaps and keys. No program is named here. -/
import Derived.Test.YtmajempbncllgaaDoorFs
namespace Go.Proofs.YtmajempbncllgaaDoor
open Go.RowKit
set_option linter.unusedVariables false
abbrev bigM : Int := 4294967295
/-- A product that never leaves its bound. -/
def satF (k : Int) (l : List (Int × Int)) : Int := l.foldl (fun k p => min (k * lenP p) 4294967295) k
def overF (es bs : List (Int × Int)) : Int := if meetF es bs = [] then 0 else satF 1 (meetF es bs)
theorem satF_nil (k : Int) : satF k [] = k := rfl
theorem satF_cons (k : Int) (p : Int × Int) (l : List (Int × Int)) : satF k (p :: l) = satF (min (k * lenP p) 4294967295) l := rfl
theorem satF_snoc (k : Int) (l : List (Int × Int)) (p : Int × Int) : satF k (l ++ [p]) = min (satF k l * lenP p) 4294967295 := by
  unfold satF; rw [List.foldl_append]; rfl
theorem lenP_nonneg (p : Int × Int) : 0 ≤ lenP p := by unfold lenP; split <;> omega
theorem lenP_le (p : Int × Int) : lenP p ≤ 4294967295 := by unfold lenP; split <;> omega
theorem lenP_pos {p : Int × Int} (h : p.1 ≤ p.2) : 1 ≤ lenP p := by unfold lenP; rw [if_neg (by omega)]; omega
theorem lenP_mono {p q : Int × Int} (h1 : q.1 ≤ p.1) (h2 : p.2 ≤ q.2) : lenP p ≤ lenP q := by
  unfold lenP; split
  · split <;> omega
  · rw [if_neg (by omega)]; omega
theorem satF_bounds : ∀ (l : List (Int × Int)) (k : Int), (∀ p ∈ l, p.1 ≤ p.2) → 1 ≤ k → k ≤ 4294967295 → 1 ≤ satF k l ∧ satF k l ≤ 4294967295
  | [], k, _, h1, h2 => ⟨h1, h2⟩
  | p :: l, k, h, h1, h2 => by
    rw [satF_cons]
    have hp := lenP_pos (h p (List.mem_cons_self ..))
    have h3 : 1 * 1 ≤ k * lenP p := Int.mul_le_mul h1 hp (by decide) (by omega)
    exact satF_bounds l _ (fun q hq => h q (List.mem_cons_of_mem _ hq)) (by omega) (by omega)
theorem satF_nonneg (l : List (Int × Int)) : ∀ k : Int, 0 ≤ k → 0 ≤ satF k l := by
  induction l with
  | nil => intro k h; exact h
  | cons p l ih =>
    intro k h
    rw [satF_cons]
    have := Int.mul_nonneg h (lenP_nonneg p)
    exact ih _ (by omega)
theorem meet_some {es bs : List (Int × Int)} : ∀ p ∈ meetF es bs, p.1 ≤ p.2 := by
  intro p hp
  unfold meetF at hp
  split at hp
  · obtain ⟨x, hx, rfl⟩ := List.mem_map.1 hp
    unfold meetP
    split
    · assumption
    · decide
  · cases hp
theorem overF_bounds (es bs : List (Int × Int)) : 0 ≤ overF es bs ∧ overF es bs ≤ 4294967295 := by
  unfold overF
  split
  · decide
  · have := satF_bounds (meetF es bs) 1 meet_some (by decide) (by decide)
    omega
theorem overF_comm (es bs : List (Int × Int)) : overF es bs = overF bs es := by unfold overF; rw [meetF_comm]
theorem overF_zero (es bs : List (Int × Int)) : overF es bs = 0 ↔ (meetF es bs).length = 0 := by
  unfold overF
  split
  · rename_i h; rw [h]; simp
  · rename_i h
    have := satF_bounds (meetF es bs) 1 meet_some (by decide) (by decide)
    constructor
    · intro h0; omega
    · intro h0; exact (h (List.eq_nil_of_length_eq_zero h0)).elim
/-- What two have in common, one by one. -/
def zipM (es bs : List (Int × Int)) : List (Int × Int) := (es.zip bs).map (fun x => meetP x.1 x.2)
def zipB (es bs : List (Int × Int)) : Bool := (es.zip bs).all fun x => meetB x.1 x.2
theorem meetF_if (es bs : List (Int × Int)) : meetF es bs = if es.length = bs.length ∧ zipB es bs = true then zipM es bs else [] := rfl
theorem meetB_self (p : Int × Int) : meetB p p = decide (p.1 ≤ p.2) := by unfold meetB; rw [show max p.1 p.1 = p.1 by omega, show min p.2 p.2 = p.2 by omega]
theorem meetP_self {p : Int × Int} (h : p.1 ≤ p.2) : meetP p p = p := by
  unfold meetP; rw [show max p.1 p.1 = p.1 by omega, show min p.2 p.2 = p.2 by omega, if_pos h]
theorem zip_self : ∀ l : List (Int × Int), (∀ p ∈ l, p.1 ≤ p.2) → zipB l l = true ∧ zipM l l = l
  | [], _ => ⟨rfl, rfl⟩
  | p :: l, h => by
    obtain ⟨h1, h2⟩ := zip_self l (fun q hq => h q (List.mem_cons_of_mem _ hq))
    have hp := h p (List.mem_cons_self ..)
    unfold zipB zipM at *
    simp only [List.zip_cons_cons, List.all_cons, List.map_cons, h1, h2, meetB_self, meetP_self hp, decide_eq_true hp, Bool.and_true, and_self]
theorem meetF_self {l : List (Int × Int)} (h : ∀ p ∈ l, p.1 ≤ p.2) : meetF l l = l := by
  rw [meetF_if, if_pos ⟨rfl, (zip_self l h).1⟩]; exact (zip_self l h).2
theorem overF_meet (es bs : List (Int × Int)) : overF (meetF es bs) (meetF es bs) = overF es bs := by
  unfold overF; rw [meetF_self meet_some]
theorem meetP_of {p q : Int × Int} (h : meetB p q = true) : meetP p q = (max p.1 q.1, min p.2 q.2) ∧ max p.1 q.1 ≤ min p.2 q.2 := by
  have h' : max p.1 q.1 ≤ min p.2 q.2 := of_decide_eq_true h
  exact ⟨if_pos h', h'⟩
theorem mul_mono {a b c d : Int} (h1 : a ≤ c) (h2 : b ≤ d) (h3 : 0 ≤ b) (h4 : 0 ≤ c) : a * b ≤ c * d := Int.mul_le_mul h1 h2 h3 h4
theorem zip_selfle : ∀ (es bs : List (Int × Int)), es.length = bs.length → zipB es bs = true → zipB es es = true ∧ ∀ k k' : Int, 0 ≤ k → k ≤ k' → satF k (zipM es bs) ≤ satF k' (zipM es es)
  | [], [], _, _ => ⟨rfl, fun k k' _ h => h⟩
  | [], _ :: _, h, _ => by cases h
  | _ :: _, [], h, _ => by cases h
  | e :: es, b :: bs, hl, h => by
    unfold zipB at h
    simp only [List.zip_cons_cons, List.all_cons, Bool.and_eq_true] at h
    obtain ⟨h1, h2⟩ := zip_selfle es bs (by simpa using hl) h.2
    obtain ⟨h3, h4⟩ := meetP_of h.1
    have h5 : e.1 ≤ e.2 := by omega
    refine ⟨?_, fun k k' hk hk' => ?_⟩
    · unfold zipB at h1 ⊢
      simp only [List.zip_cons_cons, List.all_cons, h1, meetB_self, decide_eq_true h5, Bool.and_true]
    · show satF _ (meetP e b :: zipM es bs) ≤ satF _ (meetP e e :: zipM es es)
      rw [satF_cons, satF_cons, h3, meetP_self h5]
      have h6 : lenP (max e.1 b.1, min e.2 b.2) ≤ lenP e := lenP_mono (by simp only; omega) (by simp only; omega)
      have h7 := mul_mono hk' h6 (lenP_nonneg _) (by omega)
      have h8 := Int.mul_nonneg hk (lenP_nonneg (max e.1 b.1, min e.2 b.2))
      exact h2 _ _ (by omega) (by omega)
theorem zipM_nil {es bs : List (Int × Int)} (hl : es.length = bs.length) : zipM es bs = [] ↔ es = [] := by
  unfold zipM
  rw [List.map_eq_nil_iff, List.zip_eq_nil_iff]
  constructor
  · rintro (h | h)
    · exact h
    · subst h; exact List.eq_nil_of_length_eq_zero hl
  · exact Or.inl
theorem overF_of {es bs : List (Int × Int)} (hl : es.length = bs.length) (h0 : es ≠ []) (hz : zipB es bs = true) : overF es bs = satF 1 (zipM es bs) := by
  have hm : meetF es bs = zipM es bs := by rw [meetF_if, if_pos ⟨hl, hz⟩]
  unfold overF
  rw [hm, if_neg (fun h => h0 ((zipM_nil hl).1 h))]
theorem overF_none {es bs : List (Int × Int)} (h : ¬ (es.length = bs.length ∧ es ≠ [] ∧ zipB es bs = true)) : overF es bs = 0 := by
  unfold overF
  rw [if_pos]
  rw [meetF_if]
  split
  · rename_i h1
    rw [zipM_nil h1.1]
    exact Classical.byContradiction fun h2 => h ⟨h1.1, h2, h1.2⟩
  · rfl
theorem overF_self_le (es bs : List (Int × Int)) : overF es bs ≤ overF es es := by
  by_cases h : es.length = bs.length ∧ es ≠ [] ∧ zipB es bs = true
  · obtain ⟨h1, h2⟩ := zip_selfle es bs h.1 h.2.2
    rw [overF_of h.1 h.2.1 h.2.2, overF_of rfl h.2.1 h1]
    exact h2 1 1 (by decide) (by decide)
  · rw [overF_none h]; exact (overF_bounds es es).1
theorem overF_self_le' (es bs : List (Int × Int)) : overF es bs ≤ overF bs bs := by rw [overF_comm]; exact overF_self_le bs es
theorem zip_part : ∀ (es cs bs : List (Int × Int)), es.length = cs.length → es.length = bs.length → zipB es cs = true → zipB (zipM es cs) bs = true → zipB es bs = true ∧ ∀ k k' : Int, 0 ≤ k → k ≤ k' → satF k (zipM (zipM es cs) bs) ≤ satF k' (zipM es bs)
  | [], [], [], _, _, _, _ => ⟨rfl, fun k k' _ h => h⟩
  | [], _ :: _, _, h, _, _, _ => by cases h
  | _ :: _, [], _, h, _, _, _ => by cases h
  | [], _, _ :: _, _, h, _, _ => by cases h
  | _ :: _, _, [], _, h, _, _ => by cases h
  | e :: es, c :: cs, b :: bs, hl, hl', h, h' => by
    have h0 : zipB (e :: es) (c :: cs) = (meetB e c && zipB es cs) := rfl
    have h0' : zipB (zipM (e :: es) (c :: cs)) (b :: bs) = (meetB (meetP e c) b && zipB (zipM es cs) bs) := rfl
    rw [h0, Bool.and_eq_true] at h
    rw [h0', Bool.and_eq_true] at h'
    obtain ⟨h1, h2⟩ := zip_part es cs bs (by simpa using hl) (by simpa using hl') h.2 h'.2
    obtain ⟨h3, h4⟩ := meetP_of h.1
    have h'1 := h'.1
    rw [h3] at h'1
    obtain ⟨h5, h6⟩ := meetP_of h'1
    simp only at h5 h6
    have h7 : max e.1 b.1 ≤ min e.2 b.2 := by omega
    refine ⟨?_, fun k k' hk hk' => ?_⟩
    · show (meetB e b && zipB es bs) = true
      rw [h1, Bool.and_true]
      exact decide_eq_true h7
    · show satF _ (meetP (meetP e c) b :: zipM (zipM es cs) bs) ≤ satF _ (meetP e b :: zipM es bs)
      rw [satF_cons, satF_cons, h3, h5, show meetP e b = (max e.1 b.1, min e.2 b.2) from if_pos h7]
      have h8 : lenP (max (max e.1 c.1) b.1, min (min e.2 c.2) b.2) ≤ lenP (max e.1 b.1, min e.2 b.2) := lenP_mono (by simp only; omega) (by simp only; omega)
      have h9 := mul_mono hk' h8 (lenP_nonneg _) (by omega)
      have h10 := Int.mul_nonneg hk (lenP_nonneg (max (max e.1 c.1) b.1, min (min e.2 c.2) b.2))
      exact h2 _ _ (by omega) (by omega)
theorem zipM_length {es bs : List (Int × Int)} (hl : es.length = bs.length) : (zipM es bs).length = es.length := by
  unfold zipM; simp [hl]
theorem overF_part (es cs bs : List (Int × Int)) : overF (meetF es cs) bs ≤ overF es bs := by
  by_cases h : es.length = cs.length ∧ zipB es cs = true
  · have hm : meetF es cs = zipM es cs := by rw [meetF_if, if_pos h]
    rw [hm]
    by_cases h' : (zipM es cs).length = bs.length ∧ zipM es cs ≠ [] ∧ zipB (zipM es cs) bs = true
    · have hl := zipM_length h.1
      obtain ⟨h1, h2⟩ := zip_part es cs bs h.1 (by rw [← hl]; exact h'.1) h.2 h'.2.2
      rw [overF_of h'.1 h'.2.1 h'.2.2, overF_of (by rw [← hl]; exact h'.1) (fun e => h'.2.1 ((zipM_nil h.1).2 e)) h1]
      exact h2 1 1 (by decide) (by decide)
    · rw [overF_none h']; exact (overF_bounds es bs).1
  · have hm : meetF es cs = [] := by rw [meetF_if, if_neg h]
    rw [hm, overF_none (fun h => h.2.1 rfl)]
    exact (overF_bounds es bs).1
theorem cov_self {b e : Int × Int} (h : covB b e = true) : meetB e b = meetB e e ∧ (meetB e e = true → meetP e b = e) := by
  unfold covB at h
  simp only [Bool.or_eq_true, Bool.and_eq_true, decide_eq_true_eq] at h
  constructor
  · rw [meetB_self]
    unfold meetB
    exact decide_eq_decide.2 (by omega)
  · intro h1
    rw [meetB_self] at h1
    have h1 := of_decide_eq_true h1
    unfold meetP
    rw [show max e.1 b.1 = e.1 by omega, show min e.2 b.2 = e.2 by omega, if_pos h1]
theorem zip_covself : ∀ (es bs : List (Int × Int)), es.length = bs.length → ((bs.zip es).all fun x => covB x.1 x.2) = true → zipB es bs = zipB es es ∧ (zipB es es = true → zipM es bs = zipM es es)
  | [], [], _, _ => ⟨rfl, fun _ => rfl⟩
  | [], _ :: _, h, _ => by cases h
  | _ :: _, [], h, _ => by cases h
  | e :: es, b :: bs, hl, h => by
    simp only [List.zip_cons_cons, List.all_cons, Bool.and_eq_true] at h
    obtain ⟨h1, h2⟩ := zip_covself es bs (by simpa using hl) h.2
    obtain ⟨h3, h4⟩ := cov_self h.1
    have e1 : zipB (e :: es) (b :: bs) = (meetB e b && zipB es bs) := rfl
    have e2 : zipB (e :: es) (e :: es) = (meetB e e && zipB es es) := rfl
    refine ⟨by rw [e1, e2, h1, h3], fun hz => ?_⟩
    rw [e2, Bool.and_eq_true] at hz
    show meetP e b :: zipM es bs = meetP e e :: zipM es es
    rw [h2 hz.2, h4 hz.1]
    have := hz.1
    rw [meetB_self] at this
    rw [meetP_self (of_decide_eq_true this)]
theorem overF_covers {es bs : List (Int × Int)} (h : coversF bs es = true) : overF es bs = overF es es := by
  unfold coversF at h
  simp only [Bool.or_eq_true, Bool.and_eq_true, decide_eq_true_eq] at h
  rcases h with h | ⟨h1, h2⟩
  · have : es = [] := List.eq_nil_of_length_eq_zero h
    subst this
    rw [overF_none (fun h => h.2.1 rfl), overF_none (fun h => h.2.1 rfl)]
  · obtain ⟨h3, h4⟩ := zip_covself es bs h1.symm h2
    by_cases h5 : es ≠ [] ∧ zipB es es = true
    · rw [overF_of h1.symm h5.1 (h3.trans h5.2), overF_of rfl h5.1 h5.2, h4 h5.2]
    · rw [overF_none (fun h => h5 ⟨h.2.1, h3.symm.trans h.2.2⟩), overF_none (fun h => h5 ⟨h.2.1, h.2.2⟩)]
theorem overF_snoc (es bs : List (Int × Int)) (v : Int) (hl : es.length = bs.length) (h0 : 0 < es.length) : overF (es ++ [(v, v)]) (bs ++ [(v, v)]) = overF es bs := by
  have h1 : zipB (es ++ [(v, v)]) (bs ++ [(v, v)]) = zipB es bs := by
    unfold zipB
    rw [List.zip_append hl, List.all_append]
    simp [meetB_self]
  have h2 : zipM (es ++ [(v, v)]) (bs ++ [(v, v)]) = zipM es bs ++ [(v, v)] := by
    unfold zipM
    rw [List.zip_append hl, List.map_append]
    simp [meetP_self]
  have hne : es ≠ [] := fun e => by rw [e] at h0; cases h0
  by_cases h : zipB es bs = true
  · rw [overF_of hl hne h, overF_of (by simp [hl]) (by simp) (h1.trans h), h2, satF_snoc]
    have h3 := overF_bounds es bs
    rw [overF_of hl hne h] at h3
    rw [show lenP (v, v) = 1 by unfold lenP; simp only; rw [if_neg (by omega)]; omega]
    omega
  · rw [overF_none (fun h' => h h'.2.2), overF_none (fun h' => h (h1.symm.trans h'.2.2))]
/-- Keys. -/
def midP (x : Int × Int) : Int := (x.1 + x.2) / 2
def quarF (r x : Int × Int) : Int := 4 * (midP x - r.1) / (r.2 - r.1 + 1)
def keyF (ps fs : List (Int × Int)) : Int := (fs.zip ps).foldl (fun k x => 4 * k + quarF x.2 x.1) 0
theorem quar_of {r x : Int × Int} (h : okF x r = true) : 0 ≤ quarF r x ∧ quarF r x ≤ 3 := by
  unfold okF at h
  simp only [Bool.and_eq_true, decide_eq_true_eq] at h
  unfold quarF midP
  have h1 : 0 < r.2 - r.1 + 1 := by omega
  constructor
  · exact Int.ediv_nonneg (by omega) (by omega)
  · have : 4 * ((x.1 + x.2) / 2 - r.1) / (r.2 - r.1 + 1) < 4 := Int.ediv_lt_of_lt_mul h1 (by omega)
    omega
theorem quar_mid {r : Int × Int} {v : Int} : quarF r (v, v) = 4 * (v - r.1) / (r.2 - r.1 + 1) := by
  unfold quarF midP; simp only; rw [show (v + v) / 2 = v by omega]
theorem quar_mono {r : Int × Int} {v u : Int} (h : r.1 ≤ r.2) (hv : v ≤ u) : quarF r (v, v) ≤ quarF r (u, u) := by
  rw [quar_mid, quar_mid]
  exact Int.ediv_le_ediv (by omega) (by omega)
theorem quar_first {r : Int × Int} (h : r.1 ≤ r.2) : quarF r (r.1, r.1) = 0 := by
  rw [quar_mid, Int.sub_self, Int.mul_zero, Int.zero_ediv]
theorem quar_last {r : Int × Int} (h : 3 ≤ r.2 - r.1) : quarF r (r.2, r.2) = 3 := by
  rw [quar_mid]
  have h1 : 0 < r.2 - r.1 + 1 := by omega
  have h2 : 4 * (r.2 - r.1) / (r.2 - r.1 + 1) < 4 := Int.ediv_lt_of_lt_mul h1 (by omega)
  have h3 : 3 ≤ 4 * (r.2 - r.1) / (r.2 - r.1 + 1) := (Int.le_ediv_iff_mul_le h1).2 (by omega)
  omega
def keyN (ps fs : List (Int × Int)) (i : Nat) : Int := ((fs.zip ps).take i).foldl (fun k x => 4 * k + quarF x.2 x.1) 0
theorem keyN_zero (ps fs : List (Int × Int)) : keyN ps fs 0 = 0 := rfl
theorem keyN_succ {ps fs : List (Int × Int)} {i : Nat} {p f : Int × Int} (hp : ps[i]? = some p) (hf : fs[i]? = some f) : keyN ps fs (i + 1) = 4 * keyN ps fs i + quarF p f := by
  have h : (fs.zip ps)[i]? = some (f, p) := by rw [List.getElem?_zip_eq_some]; exact ⟨hf, hp⟩
  unfold keyN
  rw [List.take_add_one, h, List.foldl_append]
  rfl
theorem keyN_all {ps fs : List (Int × Int)} (h : fs.length = ps.length) : keyN ps fs fs.length = keyF ps fs := by
  unfold keyN keyF
  rw [List.take_of_length_le (by simp [h])]
theorem keyF_nil (ps : List (Int × Int)) : keyF ps [] = 0 := rfl
theorem keyF_one (p f : Int × Int) : keyF [p] [f] = quarF p f := by unfold keyF; simp
theorem ok_get {ps fs : List (Int × Int)} (h : rightF ps fs = true) {i : Nat} {p f : Int × Int} (hp : ps[i]? = some p) (hf : fs[i]? = some f) : okF f p = true := by
  unfold rightF at h
  simp only [Bool.or_eq_true, Bool.and_eq_true, decide_eq_true_eq] at h
  rcases h with h | ⟨_, h⟩
  · rw [List.eq_nil_of_length_eq_zero h] at hf; cases hf
  · have h1 : (fs.zip ps)[i]? = some (f, p) := by rw [List.getElem?_zip_eq_some]; exact ⟨hf, hp⟩
    exact List.all_eq_true.1 h _ (List.mem_of_getElem? h1)
theorem keyN_bounds {ps fs : List (Int × Int)} (h : rightF ps fs = true) : ∀ i : Nat, i ≤ fs.length → 0 ≤ keyN ps fs i ∧ keyN ps fs i < 4 ^ i
  | 0, _ => by rw [keyN_zero]; decide
  | i + 1, hi => by
    have hl : fs.length = ps.length := by
      unfold rightF at h
      simp only [Bool.or_eq_true, Bool.and_eq_true, decide_eq_true_eq] at h
      rcases h with h | ⟨h, _⟩
      · omega
      · exact h
    have h1 := keyN_bounds h i (by omega)
    have hp : ps[i]? = some ps[i] := List.getElem?_eq_getElem (by omega)
    have hf : fs[i]? = some fs[i] := List.getElem?_eq_getElem (by omega)
    have h2 := quar_of (ok_get h hp hf)
    rw [keyN_succ hp hf, Int.pow_succ]
    omega
theorem keyN_byte {ps fs : List (Int × Int)} (h : rightF ps fs = true) (h4 : fs.length ≤ 4) (i : Nat) (hi : i ≤ fs.length) : 0 ≤ keyN ps fs i ∧ keyN ps fs i ≤ 255 := by
  have h1 := keyN_bounds h i hi
  have h2 : (4 : Int) ^ i ≤ 256 := by
    match i, (show i ≤ 4 by omega) with
    | 0, _ => decide
    | 1, _ => decide
    | 2, _ => decide
    | 3, _ => decide
    | 4, _ => decide
  omega
theorem keyF_byte {ps fs : List (Int × Int)} (h : rightF ps fs = true) (h4 : fs.length ≤ 4) : 0 ≤ keyF ps fs ∧ keyF ps fs ≤ 255 := by
  by_cases h0 : fs.length = 0
  · rw [List.eq_nil_of_length_eq_zero h0, keyF_nil]; decide
  · have hl : fs.length = ps.length := by
      unfold rightF at h
      simp only [Bool.or_eq_true, Bool.and_eq_true, decide_eq_true_eq] at h
      rcases h with h | ⟨h, _⟩
      · omega
      · exact h
    rw [← keyN_all hl]
    exact keyN_byte h h4 _ (Nat.le_refl _)
/-- Counting: the digits of a number to the base 6, the last first. -/
def digs : Nat → Nat → List Int
  | 0, _ => []
  | n + 1, k => ((k % 6 : Nat) : Int) :: digs n (k / 6)
theorem digs_length : ∀ n k, (digs n k).length = n
  | 0, _ => rfl
  | n + 1, k => by show (digs n (k / 6)).length + 1 = n + 1; rw [digs_length]
theorem count_split (f g : Nat → Bool) (N : Nat) : (List.range (6 * N)).countP (fun k => f (k % 6) && g (k / 6)) = (List.range 6).countP f * (List.range N).countP g := by
  induction N with
  | zero => simp
  | succ N ih =>
    rw [Nat.mul_succ, List.range_add, List.countP_append, ih, List.range_succ (n := N), List.countP_append, Nat.mul_add, List.countP_map]
    congr 1
    have : ∀ j ∈ List.range 6, (((fun k => f (k % 6) && g (k / 6)) ∘ fun x => 6 * N + x) j = true ↔ (f j && g N) = true) := by
      intro j hj
      have hj := List.mem_range.1 hj
      simp only [Function.comp, Nat.mul_add_mod, Nat.mod_eq_of_lt hj]
      rw [show (6 * N + j) / 6 = N by omega]
    rw [List.countP_congr this]
    cases hg : g N <;> simp [hg]
theorem count_has {p : Int × Int} (h : 0 ≤ p.1 ∧ p.1 ≤ p.2 ∧ p.2 ≤ 5) : (((List.range 6).countP fun j : Nat => hasB p (j : Int) : Nat) : Int) = lenP p := by
  obtain ⟨a, b⟩ := p
  obtain ⟨h1, h2, h3⟩ := h
  simp only at h1 h2 h3
  obtain ⟨a, rfl⟩ : ∃ n : Nat, (n : Int) = a := ⟨a.toNat, by omega⟩
  obtain ⟨b, rfl⟩ : ∃ n : Nat, (n : Int) = b := ⟨b.toNat, by omega⟩
  have ha : a < 6 := by omega
  have hb : b < 6 := by omega
  have := (show ∀ x : Fin 6, ∀ y : Fin 6, x.1 ≤ y.1 → (((List.range 6).countP fun j : Nat => hasB ((x.1 : Int), (y.1 : Int)) (j : Int) : Nat) : Int) = lenP ((x.1 : Int), (y.1 : Int)) by decide +kernel) ⟨a, ha⟩ ⟨b, hb⟩ (by simp only; omega)
  exact this
theorem satF_count : ∀ (m : List (Int × Int)) (k : Int), (∀ p ∈ m, 0 ≤ p.1 ∧ p.1 ≤ p.2 ∧ p.2 ≤ 5) → 0 ≤ k → k * 6 ^ m.length ≤ 4294967295 →
    satF k m = k * ((List.range (6 ^ m.length)).countP fun j => (m.zip (digs m.length j)).all fun x => hasB x.1 x.2)
  | [], k, _, _, _ => by simp [satF_nil]
  | p :: m, k, h, h0, hk => by
    have hp := h p (List.mem_cons_self ..)
    have hl : lenP p ≤ 6 := by unfold lenP; rw [if_neg (by omega)]; omega
    have hl0 := lenP_nonneg p
    have hd : (fun j : Nat => ((p :: m).zip (digs (p :: m).length j)).all fun x => hasB x.1 x.2) = fun j => (fun i : Nat => hasB p (i : Int)) (j % 6) && (fun i => (m.zip (digs m.length i)).all fun x => hasB x.1 x.2) (j / 6) := by
      funext j
      show ((p :: m).zip (((j % 6 : Nat) : Int) :: digs m.length (j / 6))).all _ = _
      rw [List.zip_cons_cons, List.all_cons]
    rw [hd, List.length_cons, Nat.pow_succ, Nat.mul_comm, count_split (fun i : Nat => hasB p (i : Int)) (fun i => (m.zip (digs m.length i)).all fun x => hasB x.1 x.2), satF_cons]
    rw [List.length_cons, Int.pow_succ] at hk
    have hpw : (1 : Int) ≤ 6 ^ m.length := by have h6 : (0 : Int) < 6 ^ m.length := Int.pow_pos (by decide); omega
    have h1 : k * lenP p ≤ k * 6 := Int.mul_le_mul_of_nonneg_left hl h0
    have h2 : 0 ≤ k * lenP p := Int.mul_nonneg h0 hl0
    have h3 : k * lenP p * 6 ^ m.length ≤ k * 6 * 6 ^ m.length := Int.mul_le_mul_of_nonneg_right h1 (by omega)
    have h4 : k * 6 * 6 ^ m.length = k * (6 ^ m.length * 6) := by rw [Int.mul_assoc, Int.mul_comm 6]
    have h5 : k * lenP p * 1 ≤ k * lenP p * 6 ^ m.length := Int.mul_le_mul_of_nonneg_left hpw h2
    rw [show min (k * lenP p) 4294967295 = k * lenP p by omega, satF_count m (k * lenP p) (fun q hq => h q (List.mem_cons_of_mem _ hq)) h2 (by omega), Int.natCast_mul, count_has hp, Int.mul_assoc]
theorem match_all {m : List (Int × Int)} (h : 0 < m.length) (j : Nat) : matchF m (digs m.length j) = (m.zip (digs m.length j)).all fun x => hasB x.1 x.2 := by
  unfold matchF
  rw [digs_length, decide_eq_true h]
  simp
def cntF (es bs : List (Int × Int)) (n N : Nat) : Nat := (List.range N).countP fun k => matchF es (digs n k) && matchF bs (digs n k)
theorem cntF_zero (es bs : List (Int × Int)) (n : Nat) : cntF es bs n 0 = 0 := rfl
theorem cntF_succ (es bs : List (Int × Int)) (n k : Nat) : cntF es bs n (k + 1) = cntF es bs n k + if (matchF es (digs n k) && matchF bs (digs n k)) then 1 else 0 := by
  unfold cntF
  rw [List.range_succ, List.countP_append, List.countP_singleton]
theorem cntF_le (es bs : List (Int × Int)) (n N : Nat) : cntF es bs n N ≤ N := by
  unfold cntF
  have := List.countP_le_length (p := fun k => matchF es (digs n k) && matchF bs (digs n k)) (l := List.range N)
  simpa using this
theorem overF_count {es bs : List (Int × Int)} {n : Nat} (he : es.length = n) (hb : bs.length = n) (hn : n ≤ 3) (h1 : ∀ p ∈ es, 0 ≤ p.1 ∧ p.1 ≤ p.2 ∧ p.2 ≤ 5) (h2 : ∀ p ∈ bs, 0 ≤ p.1 ∧ p.1 ≤ p.2 ∧ p.2 ≤ 5) : overF es bs = cntF es bs n (6 ^ n) := by
  have hc : cntF es bs n (6 ^ n) = (List.range (6 ^ n)).countP fun k => matchF (meetF es bs) (digs n k) := by
    unfold cntF
    exact congrArg (fun f => List.countP f _) (funext fun k => (match_meet es bs _).symm)
  rw [hc]
  by_cases h : meetF es bs = []
  · unfold overF
    rw [if_pos h, h]
    have : (fun k => matchF ([] : List (Int × Int)) (digs n k)) = fun _ => false := by funext k; unfold matchF; simp
    rw [this]
    simp
  · have hm : meetF es bs = zipM es bs := by
      rw [meetF_if] at h ⊢
      split
      · rfl
      · rename_i h'; rw [if_neg h'] at h; exact (h rfl).elim
    have hl : (meetF es bs).length = n := by rw [hm, zipM_length (he.trans hb.symm), he]
    have hin : ∀ p ∈ meetF es bs, 0 ≤ p.1 ∧ p.1 ≤ p.2 ∧ p.2 ≤ 5 := by
      intro p hp
      have hs := meet_some p hp
      rw [hm] at hp
      obtain ⟨x, hx, rfl⟩ := List.mem_map.1 hp
      have hxm := List.of_mem_zip hx
      have a1 := h1 _ hxm.1
      have a2 := h2 _ hxm.2
      unfold meetP at hs ⊢
      split at hs
      · rename_i hh
        rw [if_pos hh]
        simp only
        omega
      · rename_i hh
        rw [if_neg hh]
        decide
    have h0 : 0 < (meetF es bs).length := List.length_pos_iff.2 h
    unfold overF
    rw [if_neg h]
    have hp6 : (6 : Int) ^ (meetF es bs).length ≤ 216 := by
      rw [hl]
      match n, hn with
      | 0, _ => decide
      | 1, _ => decide
      | 2, _ => decide
      | 3, _ => decide
    rw [satF_count (meetF es bs) 1 hin (by decide) (by omega), Int.one_mul, ← hl]
    congr 1
    exact congrArg (fun f => List.countP f _) (funext fun k => (match_all h0 k).symm)
end Go.Proofs.YtmajempbncllgaaDoor
