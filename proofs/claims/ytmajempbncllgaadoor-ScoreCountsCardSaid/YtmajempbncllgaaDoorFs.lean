/- Layer 5: plain facts of filters under a right schema. No program is named here. -/
import Derived.Test.YtmajempbncllgaaDoorFq
namespace Go.Proofs.YtmajempbncllgaaDoor
open Go.RowKit
set_option linter.unusedVariables false
theorem normF_inR {ps fs : List (Int × Int)} (hp : ∀ p ∈ ps, inR p) (hf : ∀ p ∈ fs, inR p) : ∀ p ∈ normF ps fs, inR p := by
  unfold normF
  split
  · intro p h; cases h
  · split
    · exact meetF_in' hf hp
    · intro p h; cases h
theorem bro_within (x : Int) (p : Int × Int) (h : p.1 ≤ p.2) : p.1 ≤ bro x p ∧ bro x p ≤ p.2 := by unfold bro; omega
theorem bring_fit (ps : List (Int × Int)) (xs : List Int) (hr : ∀ p ∈ ps, p.1 ≤ p.2) : fitsB ps (bringL ps xs) = true :=
  fitsB_all (bringL_length ps xs) fun i hi p x hp hx => by
    rw [bringL_get ps xs i p hp] at hx
    injection hx with hx
    subst hx
    exact bro_within _ _ (hr p (List.mem_of_getElem? hp))
theorem rightB_get {ps : List (Int × Int)} (h : rightB ps = true) : 1 ≤ ps.length ∧ ps.length ≤ 4 ∧ ∀ p ∈ ps, p.1 ≤ p.2 := by
  unfold rightB at h
  simp only [Bool.and_eq_true, decide_eq_true_eq] at h
  refine ⟨h.1.1, h.1.2, fun p hp => ?_⟩
  have := List.all_eq_true.1 h.2 p hp
  exact of_decide_eq_true this
/-- The ranges themselves match what fits. -/
theorem match_fits {ps : List (Int × Int)} {v : List Int} (h1 : 1 ≤ ps.length) (h : fitsB ps v = true) : matchF ps v = true := by
  unfold fitsB at h
  simp only [Bool.and_eq_true, decide_eq_true_eq] at h
  unfold matchF
  simp only [Bool.and_eq_true, decide_eq_true_eq]
  exact ⟨⟨h.1.symm, h1⟩, h.2⟩
theorem norm_match {ps fs : List (Int × Int)} {v : List Int} (h1 : 1 ≤ ps.length) (h : fitsB ps v = true) (hl : fs.length = 0 ∨ fs.length = ps.length) : matchF (normF ps fs) v = matchF fs v := by
  unfold normF
  split
  · rename_i h0
    have : fs = [] := List.eq_nil_of_length_eq_zero h0
    rw [this]
  · rename_i h0
    rw [if_pos (hl.resolve_left h0), match_meet, match_fits h1 h, Bool.and_true]
theorem ok_meet {f p : Int × Int} (h : meetB f p = true) : okF (meetP f p) p = true := by
  have h' : max f.1 p.1 ≤ min f.2 p.2 := of_decide_eq_true h
  unfold meetP
  rw [if_pos h']
  unfold okF
  simp only [Bool.and_eq_true, decide_eq_true_eq, Int.max_def, Int.min_def] at h' ⊢
  split at h' <;> split at h' <;> simp_all <;> omega
theorem zip_ok : ∀ (fs ps : List (Int × Int)), ((fs.zip ps).all fun x => meetB x.1 x.2) = true → ((((fs.zip ps).map fun x => meetP x.1 x.2).zip ps).all fun x => okF x.1 x.2) = true
  | [], _, _ => rfl
  | _ :: _, [], _ => rfl
  | f :: fs, p :: ps, h => by
    simp only [List.zip_cons_cons, List.all_cons, Bool.and_eq_true, List.map_cons] at h ⊢
    exact ⟨ok_meet h.1, zip_ok fs ps h.2⟩
theorem right_nil (ps : List (Int × Int)) : rightF ps [] = true := by unfold rightF; simp
theorem right_meet (ps fs : List (Int × Int)) : rightF ps (meetF fs ps) = true := by
  by_cases h : fs.length = ps.length ∧ ((fs.zip ps).all fun x => meetB x.1 x.2) = true
  · have hF : meetF fs ps = (fs.zip ps).map (fun x => meetP x.1 x.2) := if_pos h
    rw [hF]
    unfold rightF
    rw [zip_ok fs ps h.2]
    simp [h.1]
  · rw [show meetF fs ps = [] from if_neg h]; exact right_nil ps
theorem norm_right (ps fs : List (Int × Int)) : rightF ps (normF ps fs) = true := by
  unfold normF
  split
  · exact right_nil ps
  · split
    · exact right_meet ps fs
    · exact right_nil ps
theorem ok_same {f p : Int × Int} (h : okF f p = true) : meetB f p = true ∧ meetP f p = f := by
  unfold okF at h
  simp only [Bool.and_eq_true, decide_eq_true_eq] at h
  have h1 : max f.1 p.1 = f.1 := by omega
  have h2 : min f.2 p.2 = f.2 := by omega
  unfold meetB meetP
  rw [h1, h2]
  exact ⟨decide_eq_true h.1.1, if_pos h.1.1⟩
theorem zip_same : ∀ (fs ps : List (Int × Int)), fs.length = ps.length → ((fs.zip ps).all fun x => okF x.1 x.2) = true → ((fs.zip ps).all fun x => meetB x.1 x.2) = true ∧ ((fs.zip ps).map fun x => meetP x.1 x.2) = fs
  | [], _, _, _ => ⟨rfl, rfl⟩
  | _ :: _, [], h, _ => by cases h
  | f :: fs, p :: ps, hl, h => by
    simp only [List.zip_cons_cons, List.all_cons, Bool.and_eq_true, List.map_cons] at h ⊢
    obtain ⟨h1, h2⟩ := ok_same h.1
    obtain ⟨h3, h4⟩ := zip_same fs ps (by simpa using hl) h.2
    exact ⟨⟨h1, h3⟩, by rw [h2, h4]⟩
theorem right_same {ps fs : List (Int × Int)} (h : rightF ps fs = true) : normF ps fs = fs := by
  unfold rightF at h
  simp only [Bool.and_eq_true, Bool.or_eq_true, decide_eq_true_eq] at h
  unfold normF
  rcases h with h | ⟨h1, h2⟩
  · rw [if_pos h]; exact (List.eq_nil_of_length_eq_zero h).symm
  · by_cases h0 : fs.length = 0
    · rw [if_pos h0]; exact (List.eq_nil_of_length_eq_zero h0).symm
    · obtain ⟨h3, h4⟩ := zip_same fs ps h1 h2
      rw [if_neg h0, if_pos h1]
      unfold meetF
      rw [if_pos ⟨h1, h3⟩, h4]
theorem norm_same (ps fs : List (Int × Int)) : normF ps (normF ps fs) = normF ps fs := right_same (norm_right ps fs)
theorem right_iff (ps fs : List (Int × Int)) : rightF ps fs = sameF (normF ps fs) fs := by
  unfold sameF
  cases h : rightF ps fs with
  | true => rw [right_same h]; exact (decide_eq_true rfl).symm
  | false =>
    refine (decide_eq_false fun e => ?_).symm
    have := norm_right ps fs
    rw [e, h] at this
    cases this
theorem right_err {ps fs : List (Int × Int)} (h : rightF ps fs = true) : normE ps fs = 0 := by
  unfold rightF at h
  simp only [Bool.and_eq_true, Bool.or_eq_true, decide_eq_true_eq] at h
  unfold normE
  rcases h with h | ⟨h1, h2⟩
  · rw [if_pos h]
  · by_cases h0 : fs.length = 0
    · rw [if_pos h0]
    · rw [if_neg h0, if_pos h1]
theorem norm_err (ps fs : List (Int × Int)) : normE ps (normF ps fs) = 0 := right_err (norm_right ps fs)
theorem norm_ok {ps fs : List (Int × Int)} (h : fs.length = 0 ∨ fs.length = ps.length) : normE ps fs = 0 := by
  unfold normE
  split
  · rfl
  · rename_i h0; rw [if_pos (h.resolve_left h0)]
theorem norm_bad {ps fs : List (Int × Int)} (h0 : ¬ fs.length = 0) (h1 : ¬ fs.length = ps.length) : normE ps fs = 50 ∧ normF ps fs = [] := by
  unfold normE normF
  rw [if_neg h0, if_neg h1, if_neg h0, if_neg h1]; exact ⟨rfl, rfl⟩
end Go.Proofs.YtmajempbncllgaaDoor
