/- Layer 6: the closure of ScoreKeys: a filter of one number each; plain facts of its keys. -/
import Derived.Test.YtmajempbncllgaaDoorKw
import Derived.Test.YtmajempbncllgaaDoorSch6
namespace Go.Proofs.YtmajempbncllgaaDoor
open Go.RowKit
set_option linter.unusedVariables false
def dupL (l : List Int) : List (Int × Int) := l.map fun v => (v, v)
theorem dupL_length (l : List Int) : (dupL l).length = l.length := List.length_map _
theorem dupL_get {l : List Int} {i : Nat} {v : Int} (h : l[i]? = some v) : (dupL l)[i]? = some (v, v) := by unfold dupL; rw [List.getElem?_map, h]; rfl
theorem bro_in {x : Int} {p : Int × Int} (h : p.1 ≤ p.2) : p.1 ≤ bro x p ∧ bro x p ≤ p.2 := bro_within x p h
theorem dup_right {ps : List (Int × Int)} (xs : List Int) (hr : ∀ p ∈ ps, p.1 ≤ p.2) : rightF ps (dupL (bringL ps xs)) = true := by
  unfold rightF
  simp only [Bool.or_eq_true, Bool.and_eq_true, decide_eq_true_eq]
  refine .inr ⟨by rw [dupL_length, bringL_length], List.all_eq_true.2 fun x hx => ?_⟩
  obtain ⟨i, hi⟩ := List.mem_iff_getElem?.1 hx
  rw [List.getElem?_zip_eq_some] at hi
  have h1 := bringL_get ps xs i x.2 hi.2
  have h2 := dupL_get h1
  rw [hi.1] at h2
  injection h2 with h2
  have h3 := bro_in (x := xs.getD i 0) (hr x.2 (List.mem_of_getElem? hi.2))
  unfold okF
  rw [h2]
  simp only [Bool.and_eq_true, decide_eq_true_eq]
  omega
theorem dup_in {ps : List (Int × Int)} (xs : List Int) (hi : ∀ p ∈ ps, inR p) (hr : ∀ p ∈ ps, p.1 ≤ p.2) : ∀ q ∈ dupL (bringL ps xs), inR q := by
  intro q hq
  obtain ⟨v, hv, rfl⟩ := List.mem_map.1 hq
  obtain ⟨i, h1⟩ := List.mem_iff_getElem?.1 hv
  have hlt : i < ps.length := by
    have := (List.getElem?_eq_some_iff.1 h1).1
    rwa [bringL_length] at this
  have h2 := bringL_get ps xs i ps[i] (List.getElem?_eq_getElem hlt)
  rw [h1] at h2
  injection h2 with h2
  have h3 := bro_in (x := xs.getD i 0) (hr ps[i] (List.getElem_mem hlt))
  obtain ⟨⟨_, _⟩, _, _⟩ := hi ps[i] (List.getElem_mem hlt)
  rw [h2]
  exact ⟨⟨by simp only; omega, by simp only; omega⟩, by simp only; omega, by simp only; omega⟩
theorem Nl_get {k : IntKind} {xs : List Int} {j : Nat} {x : Int} (h : xs[j]? = some x) : (Nl k xs)[j]? = some (.int k x) := by unfold Nl; rw [List.getElem?_map, h]; rfl
theorem spl_snoc (l : List (Int × Int)) (v : Int) : spl (l ++ [(v, v)]) = spl l ++ [.int .i32 v, .int .i32 v] := by rw [spl_append]; rfl
/-- One span out of many. -/
theorem sp_one {w : World} {k n c b off i : Nat} {ps : List (Int × Int)} {p : Int × Int} (h : Sp w k (some ⟨b, off, none⟩) n c ps) (hi : i < n) (hp : ps[i]? = some p) : Sp w k (some ⟨b, off + i * 2, none⟩) 1 (c - i) [p] := by
  have h1 := h.from_ (Nat.le_of_lt hi)
  have h2 := h.cap
  have h3 := h1.upto (hi := 1) (by omega)
  have hA : (if c = i then (some ⟨b, off, none⟩ : Option Addr) else (some ⟨b, off, none⟩ : Option Addr).map (·.add (i * 2))) = some ⟨b, off + i * 2, none⟩ := by
    rw [if_neg (by omega)]
    simp only [Option.map_some, Addr.add]
    split
    · rename_i h0; rw [h0]; rfl
    · rfl
  rw [hA] at h3
  have hl : ((spl ps).drop (i * 2)).take (1 * 2) = spl [p] := by
    have h4 : ps.drop i = p :: ps.drop (i + 1) := by
      have hlt := (List.getElem?_eq_some_iff.1 hp).1
      rw [List.drop_eq_getElem_cons hlt]
      congr 1
      exact (List.getElem?_eq_some_iff.1 hp).2
    have h5 : ∀ (l : List (Int × Int)) (i : Nat), (spl l).drop (i * 2) = spl (l.drop i) := by
      intro l
      induction l with
      | nil => intro i; simp [spl]
      | cons q l ih =>
        intro i
        cases i with
        | zero => rfl
        | succ i =>
          show (spv q ++ spl l).drop ((i + 1) * 2) = spl (l.drop i)
          rw [← ih i, Nat.succ_mul]
          rfl
    rw [h5, h4]
    rfl
  rw [hl] at h3
  exact h3
theorem one_right {p : Int × Int} {v : Int} (h1 : p.1 ≤ v) (h2 : v ≤ p.2) : rightF [p] [(v, v)] = true := by
  unfold rightF okF; simp; omega
set_option maxHeartbeats 2000000 in
theorem point_any {w : World} {B : Nat} (A : Option Addr) (n c : Nat) (ps : List (Int × Int)) (A' : Option Addr) (n' c' : Nat) (xs : List Int) (hb : Boxed w B 23 (.slice A n c)) (h : Sp w w.heap.size A n c ps) (h' : Si w w.heap.size A' n' c' xs) (h4 : n ≤ 4) :
    Calls Tryd.prog 22 #[.slice A' n' c', .pointer (some ⟨B, 0, none⟩)] w fun e w' => ∃ A2 c2, e = .returned (.slice A2 n c2) ∧ Sp w' w'.heap.size A2 n c2 (dupL (bringL ps xs)) ∧ Below w.heap.size w w' := by
  have hc := bring_any A n c w.heap.size ps A' n' c' w.heap.size xs w h (Nat.le_refl _) h' (Nat.le_refl _) h4
  have HL : Hid (n = ps.length) := sp_len h
  have HLL : Hid ((bringL ps xs).length = n) := by unfold Hid; rw [bringL_length, HL.out]
  generalize bringL ps xs = l at *
  have c1 := hb.cell
  have HC := Lib.hid hc
  clear hc h h' hb
  go_enter Tryd.func22, Tryd.ntmps22
  go_wp2_with fail
  refine HC.out.mono ?_
  rintro e W ⟨A1, c2, rfl, o1, b1⟩
  rw [HLL.out] at o1 ⊢
  have S1 := Lib.hid o1.sv
  have B1 := Lib.hid b1
  clear o1 b1 c1 HC
  go_wp2
  go_loopw [4, 11] (fun v i wr => ∃ (j : Nat) (A2 : Option Addr) (c2 : Nat), j ≤ n ∧ i = .int .i64 j ∧ v = .slice A2 j c2 ∧ Hid (Ows wr W.heap.size 36 2 A2 j c2 (spl (dupL (l.take j)))) ∧ Below W.heap.size W wr) (fun _ i _ => n - (intOf i).toNat)
  case atStart => exact ⟨0, none, 0, Nat.zero_le _, rfl, rfl, Ows.nil _ _ _ _, Below.refl _ _⟩
  case round =>
    obtain ⟨j, A2, c2, hj, rfl, rfl, O3, b2⟩ := hrel
    have j0 : (0 : Int) ≤ (j : Int) := by omega
    by_cases hlt : j < n
    · obtain ⟨b, off, x, hA, hp, HX⟩ := si_cells (S1.out.next b2) hlt
      subst hA
      have j1 : (j : Int) < (n : Int) := by omega
      have HP : Hid (dupL (l.take (j + 1)) = dupL (l.take j) ++ [(x, x)]) := by
        unfold Hid dupL
        rw [List.take_add_one, hp, List.map_append]; rfl
      clear hp
      have B2 := Lib.hid b2
      have hsz := b2.size
      have O5 : Hid (Ows (wr.alloc (.cells #[.int .i32 x, .int .i32 x] 36)) W.heap.size 36 2 A2 j c2 (spl (dupL (l.take j)))) := O3.out.below (below_lit _ _)
      have B5 := Lib.hid (thn B2.out (below_lit wr (.cells #[.int .i32 x, .int .i32 x] 36)))
      clear b2
      have u0 := HX.out wr (Below.refl _ _)
      go_wp2_with (at_builtin; go_must (refine wpList_apps rfl _ _ 24 rfl Tryd.underlying24 infoSpan rfl (by decide) rfl O5.out rfl (Sn.lit_at _ _ _ _ 2 1 _ (by simp) rfl (by decide)) (span_one _ _) (by omega) (by omega) (by decide) (by simp only [World.size_alloc]; omega) ?_); intro A4 c4 w4 o4 g4)
      have O6 : Hid (Ows w4 W.heap.size 36 2 A4 (j + 1) c4 (spl (dupL (l.take (j + 1))))) := by
        unfold Hid
        rw [HP.out, spl_snoc]
        exact o4
      have b6 := B5.out.grown g4 (by simp only [World.size_alloc]; omega) O5.out.lt
      clear o4 g4
      go_wp2
      go_roundw
      case rel => exact ⟨j + 1, A4, c4, by omega, by go_num, rfl, O6, b6⟩
      case measure => simp [intOf]; omega
    · obtain rfl : n = j := by omega
      have j1 : ¬ (n : Int) < (n : Int) := by omega
      go_wp2
      go_ret
      refine ⟨A2, c2, rfl, ?_, B1.out.trans (b2.mono B1.out.size)⟩
      have := Sn.of_own O3.out
      rwa [show l.take n = l by rw [List.take_of_length_le (by rw [HLL.out]; exact Nat.le_refl _)]] at this
end Go.Proofs.YtmajempbncllgaaDoor
