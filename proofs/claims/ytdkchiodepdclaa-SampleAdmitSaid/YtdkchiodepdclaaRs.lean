/- Layer 9: the references Oldest, Right; Few, one. -/
import Derived.Test.YtdkchiodepdclaaRr
namespace Go.Proofs.Ytdkchiodepdclaa
open Go.RowKit
set_option linter.unusedVariables false
def oldP : List Dsc → Option (Nat × Int)
  | [] => none
  | d :: t => match oldP t with
    | none => some (0, d.2.2.1)
    | some (k, a) => if d.2.2.1 < a then some (k + 1, a) else some (0, d.2.2.1)
def oldI (ds : List Dsc) : Int := match oldP ds with
  | none => -1
  | some (k, _) => (k : Int)
/-- The k-th one is the oldest, and no earlier one is as old. -/
structure IsOld (ds : List Dsc) (k : Nat) (a : Int) : Prop where
  at_ : ∃ d, ds[k]? = some d ∧ d.2.2.1 = a
  all : ∀ e ∈ ds, e.2.2.1 ≤ a
  first : ∀ i e, i < k → ds[i]? = some e → e.2.2.1 < a
theorem oldP_spec : ∀ ds : List Dsc, (oldP ds = none → ds = []) ∧ ∀ k a, oldP ds = some (k, a) → IsOld ds k a
  | [] => ⟨fun _ => rfl, fun k a h => by cases h⟩
  | d :: t => by
    obtain ⟨h1, h2⟩ := oldP_spec t
    unfold oldP
    cases ht : oldP t with
    | none =>
      have := h1 ht
      subst this
      refine ⟨fun h => (by cases h), fun k a h => ?_⟩
      simp only [Option.some.injEq, Prod.mk.injEq] at h
      obtain ⟨rfl, rfl⟩ := h
      exact ⟨⟨d, rfl, rfl⟩, fun e he => by simp at he; rw [he]; exact Int.le_refl _, fun i e hi => absurd hi (Nat.not_lt_zero _)⟩
    | some p =>
      obtain ⟨k, a⟩ := p
      have hk := h2 k a ht
      simp only
      split
      · rename_i hlt
        refine ⟨fun h => (by cases h), fun k' a' h => ?_⟩
        simp only [Option.some.injEq, Prod.mk.injEq] at h
        obtain ⟨rfl, rfl⟩ := h
        obtain ⟨e, he, hea⟩ := hk.at_
        refine ⟨⟨e, by simpa using he, hea⟩, fun e' he' => ?_, fun i e' hi he' => ?_⟩
        · rcases List.mem_cons.1 he' with rfl | he'
          · omega
          · exact hk.all e' he'
        · cases i with
          | zero => simp at he'; rw [← he']; exact hlt
          | succ i => exact hk.first i e' (by omega) (by simpa using he')
      · rename_i hge
        refine ⟨fun h => (by cases h), fun k' a' h => ?_⟩
        simp only [Option.some.injEq, Prod.mk.injEq] at h
        obtain ⟨rfl, rfl⟩ := h
        refine ⟨⟨d, rfl, rfl⟩, fun e' he' => ?_, fun i e' hi => absurd hi (Nat.not_lt_zero _)⟩
        rcases List.mem_cons.1 he' with rfl | he'
        · exact Int.le_refl _
        · have := hk.all e' he'; omega
theorem IsOld.uniq {ds : List Dsc} {k k' : Nat} {a a' : Int} (h : IsOld ds k a) (h' : IsOld ds k' a') : k = k' ∧ a = a' := by
  obtain ⟨d, hd, hda⟩ := h.at_
  obtain ⟨e, he, hea⟩ := h'.at_
  have h1 := h.all e (List.mem_of_getElem? he)
  have h2 := h'.all d (List.mem_of_getElem? hd)
  have ea : a = a' := by omega
  refine ⟨?_, ea⟩
  rcases Nat.lt_trichotomy k k' with h3 | h3 | h3
  · have := h'.first k d h3 hd; omega
  · exact h3
  · have := h.first k' e h3 he; omega
theorem oldI_of {ds : List Dsc} {k : Nat} {a : Int} (h : IsOld ds k a) : oldI ds = k := by
  obtain ⟨h1, h2⟩ := oldP_spec ds
  unfold oldI
  cases ho : oldP ds with
  | none =>
    have := h1 ho
    subst this
    obtain ⟨d, hd, _⟩ := h.at_
    simp at hd
  | some p =>
    obtain ⟨k', a'⟩ := p
    have := (h2 k' a' ho).uniq h
    simp only
    omega
theorem oldI_nil : oldI [] = -1 := rfl
theorem oldI_is {ds : List Dsc} (h : ds ≠ []) : ∃ k a, IsOld ds k a ∧ oldI ds = (k : Int) := by
  obtain ⟨h1, h2⟩ := oldP_spec ds
  unfold oldI
  cases ho : oldP ds with
  | none => exact absurd (h1 ho) h
  | some p => exact ⟨p.1, p.2, h2 _ _ ho, rfl⟩
set_option maxHeartbeats 1000000 in
theorem refoldest_any (A : Option Addr) (n c : Nat) (xs : List (Dsc × Hd)) (w : World) (h : Sds w A n c xs) (hR : ∀ x ∈ xs, dscR x.1) : Calls Try.prog 35 #[.slice A n c] w fun e w' => e = .returned (.int .i64 (oldI (xs.map (·.1)))) ∧ Below w.heap.size w w' := by
  have HR := Lib.hid hR
  have HL : Hid (n = xs.length) := h.len
  have hm := h.max
  have hc := h.cap
  unfold maxLen at hm
  have HS := Lib.hid h
  clear h hR
  go_enter Try.func35, Try.ntmps35
  go_wp2
  go_loopw [3, 4] (fun av _ wr => ∃ a : Int, -1 ≤ a ∧ a ≤ 255 ∧ av = .int .i64 a ∧ Hid (∀ x ∈ xs, x.1.2.2.1 ≤ a) ∧ Hid (Below w.heap.size w wr)) (fun av _ _ => (intOf av + 1).toNat)
  case atStart => exact ⟨255, by omega, by omega, rfl, fun x hx => (HR.out x hx).2.2.2, Below.refl _ _⟩
  case round =>
    obtain ⟨a, a0, a1, rfl, HA, B⟩ := hrel
    by_cases ha : 0 ≤ a
    rotate_left
    · replace ha : a < 0 := by omega
      have HN : Hid (oldI (xs.map (·.1)) = -1) := by
        have : xs = [] := List.eq_nil_iff_forall_not_mem.2 fun x hx => by
          have h1 := HA.out x hx
          have h2 := (HR.out x hx).2.2.1
          omega
        unfold Hid
        rw [this]; rfl
      go_wp2
      go_ret
      exact ⟨by rw [HN.out]; rfl, B.out⟩
    · go_wp2
      obtain ⟨wo, rfl⟩ : ∃ wo, wo = wr := ⟨_, rfl⟩
      go_loopw [4] (fun iv wq => ∃ j : Nat, j ≤ n ∧ iv = .int .i64 j ∧ Hid (∀ i x, i < j → xs[i]? = some x → x.1.2.2.1 ≠ a) ∧ wq = wo) (fun iv _ => n - (intOf iv).toNat)
      case atStart => exact ⟨0, Nat.zero_le _, rfl, fun i x hi => absurd hi (Nat.not_lt_zero _), rfl⟩
      case round =>
        obtain ⟨j, hj, rfl, HB, rfl⟩ := hrel
        have i0 : (0 : Int) ≤ (j : Int) := by omega
        by_cases hlt : j < n
        · obtain ⟨b, off, x, rfl, hb, hx, hxm, c0, c1, c2, c3⟩ := (HS.out.next B.out).at_ hlt
          have i1 : (j : Int) < (n : Int) := by omega
          obtain ⟨_, _, x0, x1⟩ := HR.out x hxm
          by_cases he : x.1.2.2.1 = a
          · have HF : Hid (oldI (xs.map (·.1)) = j) := by
              refine oldI_of (a := a) ⟨⟨x.1, by rw [List.getElem?_map, hx]; rfl, he⟩, fun e hem => ?_, fun i e hi hie => ?_⟩
              · obtain ⟨y, hy, rfl⟩ := List.mem_map.1 hem
                exact HA.out y hy
              · rw [List.getElem?_map] at hie
                cases hxi : xs[i]? with
                | none => rw [hxi] at hie; cases hie
                | some y =>
                  rw [hxi] at hie; injection hie with hie
                  have h1 := HB.out i y hi hxi
                  have h2 := HA.out y (List.mem_of_getElem? hxi)
                  rw [← hie]
                  show y.1.2.2.1 < a
                  omega
            have heb : (x.1.2.2.1 == a) = true := by simpa using he
            clear he hx hxm hb
            go_wp2
            go_ret
            exact ⟨by rw [HF.out]; rfl, B.out⟩
          · have HB2 : Hid (∀ i x, i < j + 1 → xs[i]? = some x → x.1.2.2.1 ≠ a) := fun i y hi hy => by
              rcases Nat.lt_or_ge i j with h1 | h1
              · exact HB.out i y h1 hy
              · obtain rfl : i = j := by omega
                rw [hx] at hy; injection hy with hy; rw [← hy]; exact he
            have heb : (x.1.2.2.1 == a) = false := by simpa using he
            clear he hx hxm hb HB
            go_wp2
            go_roundw
            case rel => exact ⟨j + 1, by omega, by go_num, HB2, trivial⟩
            case measure => simp [intOf]; omega
        · obtain rfl : j = n := by omega
          have HA2 : Hid (∀ x ∈ xs, x.1.2.2.1 ≤ a - 1) := fun x hx => by
            obtain ⟨i, hi, e⟩ := List.mem_iff_getElem.1 hx
            have h1 := HB.out i x (by rw [HL.out]; exact hi) (by rw [← e]; exact List.getElem?_eq_getElem hi)
            have h2 := HA.out x hx
            omega
          go_wp2
          go_roundw
          case rel => exact ⟨a - 1, by omega, by omega, rfl, HA2, B⟩
          case measure => simp [intOf]; omega
/-- Few. -/
def fewB (ds : List Dsc) : Bool := decide ((∀ d ∈ ds, d.2.2.2.length ≤ 8) ∧ ds.length ≤ 20)
theorem few_any (A : Option Addr) (n c : Nat) (xs : List (Dsc × Hd)) (w : World) (h : Sds w A n c xs) : Calls Try.prog 8 #[.slice A n c] w fun e w' => e = .returned (.bool (fewB (xs.map (·.1)))) ∧ Below w.heap.size w w' := by
  have HL : Hid (n = xs.length) := h.len
  have hm := h.max
  have hc := h.cap
  unfold maxLen at hm
  have HS := Lib.hid h
  clear h
  go_enter Try.func8, Try.ntmps8
  go_wp2
  go_loopw [7] (fun i wr => ∃ j : Nat, j ≤ n ∧ i = .int .i64 j ∧ Hid (∀ i x, i < j → xs[i]? = some x → x.1.2.2.2.length ≤ 8) ∧ Hid (Below w.heap.size w wr)) (fun i _ => n - (intOf i).toNat)
  case atStart => exact ⟨0, Nat.zero_le _, rfl, fun i x hi => absurd hi (Nat.not_lt_zero _), Below.refl _ _⟩
  case round =>
    obtain ⟨j, hj, rfl, HB, B⟩ := hrel
    have i0 : (0 : Int) ≤ (j : Int) := by omega
    by_cases hlt : j < n
    · obtain ⟨b, off, x, rfl, hb, hx, hxm, c0, c1, c2, c3⟩ := (HS.out.next B.out).at_ hlt
      have i1 : (j : Int) < (n : Int) := by omega
      have hfl : x.2.2.1 = x.1.2.2.2.length := sp_len ((HS.out.next B.out).fl x hxm)
      have BL := Lib.hid (thn B.out (below_lit wr (.cells #[.int .u8 x.1.1, .int .u16 x.1.2.1, .int .u8 x.1.2.2.1, .slice x.2.1 x.2.2.1 x.2.2.2] 27)))
      by_cases he : x.1.2.2.2.length ≤ 8
      · have HB2 : Hid (∀ i x, i < j + 1 → xs[i]? = some x → x.1.2.2.2.length ≤ 8) := fun i y hi hy => by
          rcases Nat.lt_or_ge i j with h1 | h1
          · exact HB.out i y h1 hy
          · obtain rfl : i = j := by omega
            rw [hx] at hy; injection hy with hy; rw [← hy]; exact he
        have heb : (x.2.2.1 : Int) ≤ 8 := by omega
        clear he hx hxm hb HB hfl
        go_wp2
        go_roundw
        case rel => exact ⟨j + 1, by omega, by go_num, HB2, BL⟩
        case measure => simp [intOf]; omega
      · have HF : Hid (fewB (xs.map (·.1)) = false) := decide_eq_false fun h => he (h.1 x.1 (List.mem_map.2 ⟨x, hxm, rfl⟩))
        have heb : (8 : Int) < (x.2.2.1 : Int) := by omega
        clear he hx hxm hb HB hfl
        go_wp2
        go_ret
        exact ⟨ret_bool HF.out.symm, BL.out⟩
    · obtain rfl : j = n := by omega
      have HF : Hid (fewB (xs.map (·.1)) = decide ((j : Int) ≤ 20)) := by
        unfold Hid fewB
        rw [decide_eq_decide, List.length_map, ← HL.out]
        constructor
        · intro h; omega
        · intro h
          refine ⟨fun d hd => ?_, by omega⟩
          obtain ⟨x, hx, rfl⟩ := List.mem_map.1 hd
          obtain ⟨i, hi, e⟩ := List.mem_iff_getElem.1 hx
          exact HB.out i x (by rw [HL.out]; exact hi) (by rw [← e]; exact List.getElem?_eq_getElem hi)
      go_wp2
      go_ret
      exact ⟨ret_bool HF.out.symm, B.out⟩
end Go.Proofs.Ytdkchiodepdclaa
