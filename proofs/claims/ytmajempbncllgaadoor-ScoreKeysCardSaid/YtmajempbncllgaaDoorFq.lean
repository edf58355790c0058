/- Layer 5: plain facts of filters. No program is named here. -/
import Derived.Test.YtmajempbncllgaaDoorFw
namespace Go.Proofs.YtmajempbncllgaaDoor
open Go.RowKit
set_option linter.unusedVariables false
theorem meetP_in {p q : Int × Int} (hp : inR p) (hq : inR q) : inR (meetP p q) := by
  obtain ⟨⟨_, _⟩, _, _⟩ := hp
  obtain ⟨⟨_, _⟩, _, _⟩ := hq
  unfold meetP inR
  split
  · simp only [Int.max_def, Int.min_def]
    repeat' split
    all_goals omega
  · simp
theorem meetF_in' {es bs : List (Int × Int)} (he : ∀ p ∈ es, inR p) (hb : ∀ p ∈ bs, inR p) : ∀ p ∈ meetF es bs, inR p := by
  intro p hp
  unfold meetF at hp
  split at hp
  · obtain ⟨x, hx, rfl⟩ := List.mem_map.1 hp
    have := List.of_mem_zip hx
    exact meetP_in (he _ this.1) (hb _ this.2)
  · cases hp
theorem meetF_len (es bs : List (Int × Int)) : (meetF es bs).length ≤ es.length := by
  unfold meetF
  split
  · simp; omega
  · simp
theorem has_meet {p q : Int × Int} (v : Int) (h : meetB p q = true) : hasB (meetP p q) v = (hasB p v && hasB q v) := by
  have h' : max p.1 q.1 ≤ min p.2 q.2 := of_decide_eq_true h
  unfold meetP
  rw [if_pos h']
  unfold hasB
  rw [Bool.eq_iff_iff]
  simp only [Bool.and_eq_true, decide_eq_true_eq, Int.max_def, Int.min_def] at h' ⊢
  split <;> split <;> omega
theorem has_none {p q : Int × Int} (v : Int) (h : meetB p q = false) : (hasB p v && hasB q v) = false := by
  have h' : ¬ max p.1 q.1 ≤ min p.2 q.2 := of_decide_eq_false h
  unfold hasB
  rw [← Bool.not_eq_true]
  simp only [Bool.and_eq_true, decide_eq_true_eq, Int.max_def, Int.min_def] at h' ⊢
  split at h' <;> split at h' <;> omega
theorem cov_meet {p q : Int × Int} (h : meetB p q = true) : covB p (meetP p q) = true := by
  have h' : max p.1 q.1 ≤ min p.2 q.2 := of_decide_eq_true h
  unfold meetP
  rw [if_pos h']
  unfold covB
  simp only [Bool.and_eq_true, Bool.or_eq_true, decide_eq_true_eq, Int.max_def, Int.min_def] at h' ⊢
  split at h' <;> split at h' <;> simp_all <;> omega
/-- What two have in common, one by one. -/
theorem meet_cons (e b : Int × Int) (es bs : List (Int × Int)) (h : meetB e b = true) (hl : es.length = bs.length) (ha : ((es.zip bs).all fun x => meetB x.1 x.2) = true) : meetF (e :: es) (b :: bs) = meetP e b :: meetF es bs := by
  unfold meetF
  rw [if_pos ⟨by simp [hl], by simp [h]; simpa using ha⟩, if_pos ⟨hl, ha⟩]
  rfl
theorem match_cons (e : Int × Int) (x : Int) (es : List (Int × Int)) (xs : List Int) (h : 0 < es.length) : matchF (e :: es) (x :: xs) = (hasB e x && matchF es xs) := by
  unfold matchF
  simp only [List.length_cons, List.zip_cons_cons, List.all_cons]
  rw [show decide (es.length + 1 = xs.length + 1) = decide (es.length = xs.length) from decide_eq_decide.2 (by omega), decide_eq_true h, decide_eq_true (show 0 < es.length + 1 by omega)]
  simp only [Bool.and_true]
  exact Bool.and_left_comm _ _ _
theorem all_and {α : Type} (l : List α) (f g : α → Bool) : l.all (fun x => f x && g x) = (l.all f && l.all g) := by
  induction l with
  | nil => rfl
  | cons a l ih =>
    rw [List.all_cons, List.all_cons, List.all_cons, ih]
    cases f a <;> cases g a <;> simp
theorem zip3_all : ∀ (es bs : List (Int × Int)) (xs : List Int), es.length = bs.length → bs.length = xs.length → ((es.zip bs).all fun x => meetB x.1 x.2) = true →
    ((((es.zip bs).map fun x => meetP x.1 x.2).zip xs).all fun x => hasB x.1 x.2) = (((es.zip xs).all fun x => hasB x.1 x.2) && ((bs.zip xs).all fun x => hasB x.1 x.2))
  | [], [], [], _, _, _ => rfl
  | e :: es, b :: bs, x :: xs, h1, h2, h3 => by
    simp only [List.zip_cons_cons, List.all_cons, Bool.and_eq_true] at h3
    simp only [List.zip_cons_cons, List.map_cons, List.all_cons]
    rw [zip3_all es bs xs (by simpa using h1) (by simpa using h2) h3.2, has_meet x h3.1]
    cases hasB e x <;> cases hasB b x <;> simp
  | [], _ :: _, _, h, _, _ => by cases h
  | _ :: _, [], _, h, _, _ => by cases h
  | _ :: _, _ :: _, [], _, h, _ => by cases h
theorem zip3_none : ∀ (es bs : List (Int × Int)) (xs : List Int), es.length = bs.length → bs.length = xs.length → ((es.zip bs).all fun x => meetB x.1 x.2) = false →
    (((es.zip xs).all fun x => hasB x.1 x.2) && ((bs.zip xs).all fun x => hasB x.1 x.2)) = false
  | [], [], [], _, _, h => by cases h
  | e :: es, b :: bs, x :: xs, h1, h2, h3 => by
    simp only [List.zip_cons_cons, List.all_cons] at h3 ⊢
    cases hm : meetB e b with
    | false =>
      have := has_none x hm
      cases h4 : hasB e x <;> cases h5 : hasB b x <;> simp_all
    | true =>
      rw [hm, Bool.true_and] at h3
      have := zip3_none es bs xs (by simpa using h1) (by simpa using h2) h3
      cases h4 : hasB e x <;> cases h5 : hasB b x <;> simp_all
  | [], _ :: _, _, h, _, _ => by cases h
  | _ :: _, [], _, h, _, _ => by cases h
  | _ :: _, _ :: _, [], _, h, _ => by cases h
theorem match_meet (es bs : List (Int × Int)) (xs : List Int) : matchF (meetF es bs) xs = (matchF es xs && matchF bs xs) := by
  by_cases hl : es.length = bs.length
  · by_cases hx : bs.length = xs.length
    · cases ha : (es.zip bs).all fun x => meetB x.1 x.2 with
      | true =>
        have hF : meetF es bs = (es.zip bs).map (fun x => meetP x.1 x.2) := if_pos ⟨hl, ha⟩
        rw [hF]
        unfold matchF
        rw [zip3_all es bs xs hl hx ha]
        simp only [List.length_map, List.length_zip, hl, Nat.min_self]
        cases decide (bs.length = xs.length) <;> cases decide (0 < bs.length) <;> simp
      | false =>
        have hF : meetF es bs = [] := if_neg fun h => by rw [ha] at h; cases h.2
        have := zip3_none es bs xs hl hx ha
        rw [hF]
        unfold matchF
        rw [show (decide (([] : List (Int × Int)).length = xs.length) && decide (0 < ([] : List (Int × Int)).length) && (([] : List (Int × Int)).zip xs).all fun x => hasB x.1 x.2) = false by simp]
        cases h4 : (es.zip xs).all fun x => hasB x.1 x.2 <;> cases h5 : (bs.zip xs).all fun x => hasB x.1 x.2 <;> simp_all
    · have h1 : matchF bs xs = false := by unfold matchF; rw [decide_eq_false hx]; simp
      have h2 : matchF (meetF es bs) xs = false := by
        unfold matchF
        by_cases h : 0 < (meetF es bs).length
        · have : (meetF es bs).length = bs.length := by
            unfold meetF at h ⊢
            split
            · simp [hl]
            · rename_i hc; rw [if_neg hc] at h; cases h
          rw [this, decide_eq_false hx]; simp
        · rw [decide_eq_false h]; simp
      rw [h1, h2]; simp
  · have hF : meetF es bs = [] := if_neg fun h => hl h.1
    rw [hF]
    have h2 : matchF ([] : List (Int × Int)) xs = false := by unfold matchF; simp
    rw [h2]
    unfold matchF
    by_cases h : es.length = xs.length
    · rw [decide_eq_false (show ¬ bs.length = xs.length from fun e => hl (h.trans e.symm))]; simp
    · rw [decide_eq_false h]; simp
theorem zip_cov : ∀ (es bs : List (Int × Int)), ((es.zip bs).all fun x => meetB x.1 x.2) = true → ((es.zip ((es.zip bs).map fun x => meetP x.1 x.2)).all fun x => covB x.1 x.2) = true
  | [], _, _ => rfl
  | _ :: _, [], _ => rfl
  | e :: es, b :: bs, h => by
    simp only [List.zip_cons_cons, List.all_cons, Bool.and_eq_true, List.map_cons] at h ⊢
    exact ⟨cov_meet h.1, zip_cov es bs h.2⟩
theorem covers_meet (es bs : List (Int × Int)) : coversF es (meetF es bs) = true := by
  unfold coversF
  by_cases h : es.length = bs.length ∧ ((es.zip bs).all fun x => meetB x.1 x.2) = true
  · have hF : meetF es bs = (es.zip bs).map (fun x => meetP x.1 x.2) := if_pos h
    rw [hF, zip_cov es bs h.2]
    simp [h.1]
  · rw [show meetF es bs = [] from if_neg h]; simp
theorem covers_meet' (es bs : List (Int × Int)) : coversF bs (meetF es bs) = true := by rw [meetF_comm]; exact covers_meet bs es
theorem same_self (es : List (Int × Int)) : sameF es es = true := decide_eq_true rfl
end Go.Proofs.YtmajempbncllgaaDoor
