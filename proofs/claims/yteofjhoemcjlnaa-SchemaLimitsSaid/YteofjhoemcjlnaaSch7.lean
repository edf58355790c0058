import Derived.Test.YteofjhoemcjlnaaSch6
namespace Go.Proofs.Yteofjhoemcjlnaa
open Go.RowKit
set_option linter.unusedVariables false
theorem Nl_snoc (k : IntKind) (xs : List Int) (x : Int) : Nl k (xs ++ [x]) = Nl k xs ++ [.int k x] := by simp [Nl]
theorem own_last {w : World} {B : Nat} {E : TypeId} {A : Option Addr} {n c : Nat} {zs : List Value} {y z : Int} (h : Own w B E A n c (zs ++ [.int .i32 y])) (e : z = y) : Own w B E A n c (zs ++ [.int .i32 z]) := e ▸ h
theorem bringL_snoc {ps : List (Int × Int)} {xs : List Int} {j : Nat} {p : Int × Int} (hp : ps[j]? = some p) : (bringL ps xs).take (j + 1) = (bringL ps xs).take j ++ [bro (xs.getD j 0) p] := by
  rw [List.take_add_one, bringL_get ps xs j p hp]; rfl
theorem refBring_any (A : Option Addr) (n c k : Nat) (ps : List (Int × Int)) (A' : Option Addr) (n' c' k' : Nat) (xs : List Int) (w : World) (h : Sp w k A n c ps) (hk : k ≤ w.heap.size) (h' : Si w k' A' n' c' xs) (hk' : k' ≤ w.heap.size) (h4 : n ≤ 4) :
    Calls Try.prog 19 #[.slice A n c, .slice A' n' c'] w (GaveI (bringL ps xs) w) := by
  have HL : Hid (n = ps.length) := sp_len h
  have HL' : Hid (n' = xs.length) := si_len h'
  have hm := h.max
  have hc := h.cap
  have hm' := h'.max
  have hc' := h'.cap
  unfold maxLen at hm hm'
  have HS : Hid (Sp w w.heap.size A n c ps) := h.more hk
  have HS' : Hid (Si w w.heap.size A' n' c' xs) := h'.more hk'
  clear h h'
  go_enter Try.func19, Try.ntmps19
  go_wp2
  go_loopw [5, 6] (fun v i wr => ∃ (j : Nat) (A2 : Option Addr) (c2 : Nat), j ≤ n ∧ i = .int .i64 j ∧ v = .slice A2 j c2 ∧ Hid (Own wr w.heap.size 21 A2 j c2 (Nl .i32 ((bringL ps xs).take j))) ∧ Below w.heap.size w wr) (fun _ i _ => n - (intOf i).toNat)
  case atStart => exact ⟨0, none, 0, Nat.zero_le _, rfl, rfl, Own.nil _ _ _, Below.refl _ _⟩
  case round =>
    obtain ⟨j, A2, c2, hj, rfl, rfl, O3, b3⟩ := hrel
    by_cases hlt : j < n
    · obtain ⟨b, off, p, rfl, hb, hp, c1, c3⟩ := sp_at (HS.out.next b3) hlt
      have HP : Hid (ps[j]? = some p) := hp
      clear hp
      have hsz := b3.size
      have HT : Hid ((bringL ps xs).take (j + 1) = (bringL ps xs).take j ++ [bro (xs.getD j 0) p]) := bringL_snoc HP.out
      -- the value that is looked at
      have HX : (j < n' ∧ ∃ b' off' x, A' = some ⟨b', off', none⟩ ∧ wr.cell? ⟨b', off' + j, none⟩ = some (.int .i32 x) ∧ Hid (xs.getD j 0 = x)) ∨ (n' ≤ j ∧ Hid (xs.getD j 0 = 0)) := by
        rcases Nat.lt_or_ge j n' with h | h
        · obtain ⟨b', off', x, e, _, hx, cx⟩ := si_at (HS'.out.next b3) h
          exact .inl ⟨h, b', off', x, e, cx, by unfold Hid; simp [List.getD, hx]⟩
        · exact .inr ⟨h, by unfold Hid; have := HL'.out; simp [List.getD]; rw [List.getElem?_eq_none (by omega)]; rfl⟩
      rcases HX with ⟨hjn, b', off', x, rfl, cx, HX⟩ | ⟨hjn, HX⟩
      all_goals
        rw [HX.out] at HT
        have HT2 := Lib.hid HT.out
        clear HT HX
        go_wp2_with (at_builtin; go_must (refine wpList_app rfl _ _ 28 rfl Try.underlying28 infoI32 rfl rfl (O3.out.below (below_lit _ _)) rfl (Sv.one _ _ _) (by intro u hu; simp at hu; subst hu; rfl) (by omega) (by decide) (by simp; omega) ?_); intro A4 c4 w4 o4 g4)
        all_goals
          have b4 := (b3.alloc hsz _).grown g4 (by simp; omega) O3.out.lt
          have O5 : Hid (Own w4 w.heap.size 21 A4 (j + 1) c4 (Nl .i32 ((bringL ps xs).take (j + 1)))) := by
            unfold Hid
            rw [HT2.out, Nl_snoc]
            exact own_last o4 (by unfold bro; omega)
          clear o4 g4
          go_wp2
          go_roundw
          case rel => exact ⟨j + 1, A4, c4, by omega, by go_num, rfl, O5, b4⟩
          case measure => simp [intOf]; omega
    · obtain rfl : j = n := by omega
      have HX : Hid ((bringL ps xs).take j = bringL ps xs) := List.take_of_length_le (by rw [bringL_length, ← HL.out]; exact Nat.le_refl _)
      go_wp2
      go_ret
      have hl : (bringL ps xs).length = j := by rw [bringL_length, HL.out]
      rw [HX.out] at O3
      exact ⟨A2, c2, by rw [hl]; rfl, by rw [hl]; exact O3.out, b3⟩
end Go.Proofs.Yteofjhoemcjlnaa
