/- Layer 6: the closure of ScoreCounts: small spans out of any. -/
import Derived.Test.YtmajempbncllgaaDoorKw
namespace Go.Proofs.YtmajempbncllgaaDoor
open Go.RowKit
set_option linter.unusedVariables false
def fr6 (x : Int) : Int := Int.tmod (Int.tmod x 6 + 6) 6
def md4 (x : Int) : Int := Int.tmod (Int.tmod x 4 + 4) 4
def smlP (p : Int × Int) : Int × Int := (fr6 p.1, min (fr6 p.1 + md4 p.2) 5)
theorem fr6_bounds (x : Int) : 0 ≤ fr6 x ∧ fr6 x ≤ 5 := by
  unfold fr6
  have h1 := Int.tmod_lt_of_pos (Int.tmod x 6 + 6) (show (0 : Int) < 6 by decide)
  have h3 : -6 < Int.tmod x 6 := by
    have h4 := Int.tmod_lt_of_pos (-x) (show (0 : Int) < 6 by decide)
    rw [Int.neg_tmod] at h4
    omega
  have h2 := Int.tmod_nonneg 6 (show 0 ≤ Int.tmod x 6 + 6 by omega)
  omega
theorem md4_bounds (x : Int) : 0 ≤ md4 x ∧ md4 x ≤ 3 := by
  unfold md4
  have h1 := Int.tmod_lt_of_pos (Int.tmod x 4 + 4) (show (0 : Int) < 4 by decide)
  have h3 : -4 < Int.tmod x 4 := by
    have h4 := Int.tmod_lt_of_pos (-x) (show (0 : Int) < 4 by decide)
    rw [Int.neg_tmod] at h4
    omega
  have h2 := Int.tmod_nonneg 4 (show 0 ≤ Int.tmod x 4 + 4 by omega)
  omega
theorem smlP_small (p : Int × Int) : 0 ≤ (smlP p).1 ∧ (smlP p).1 ≤ (smlP p).2 ∧ (smlP p).2 ≤ 5 := by
  have h1 := fr6_bounds p.1
  have h2 := md4_bounds p.2
  unfold smlP
  simp only
  omega
theorem sml_small (ps : List (Int × Int)) : ∀ p ∈ ps.map smlP, 0 ≤ p.1 ∧ p.1 ≤ p.2 ∧ p.2 ≤ 5 := by
  intro p hp
  obtain ⟨q, _, rfl⟩ := List.mem_map.1 hp
  exact smlP_small q
theorem sml_in (ps : List (Int × Int)) : ∀ p ∈ ps.map smlP, inR p := by
  intro p hp
  have := sml_small ps p hp
  exact ⟨by omega, by omega⟩
abbrev arr3 (p q r : Int × Int) : Value := .agg #[.int .i32 p.1, .int .i32 p.2, .int .i32 q.1, .int .i32 q.2, .int .i32 r.1, .int .i32 r.2]
theorem rem_bounds {x m : Int} (hm : 0 < m) : -m < Int.tmod x m ∧ Int.tmod x m < m := by
  have h1 := Int.tmod_lt_of_pos x hm
  have h4 := Int.tmod_lt_of_pos (-x) hm
  rw [Int.neg_tmod] at h4
  omega
theorem three_take (p0 p1 p2 : Int × Int) {n : Nat} (h1 : 1 ≤ n) (h3 : n ≤ 3) : (spl [p0, p1, p2]).take (n * 2) = spl ([p0, p1, p2].take n) ∧ ([p0, p1, p2].take n).length = n := by
  match n, h1, h3 with
  | 1, _, _ => exact ⟨rfl, rfl⟩
  | 2, _, _ => exact ⟨rfl, rfl⟩
  | 3, _, _ => exact ⟨rfl, rfl⟩
abbrev litA (p q r : Int × Int) : Obj := .cells #[.int .i32 p.1, .int .i32 p.2, .int .i32 q.1, .int .i32 q.2, .int .i32 r.1, .int .i32 r.2] 37
set_option maxHeartbeats 2000000 in
theorem small_any {w : World} {B : Nat} {n : Nat} (p0 p1 p2 : Int × Int) (hb : Boxed w B 3 (.int .i64 n)) (hn1 : 1 ≤ n) (hn3 : n ≤ 3) (i0 : inR p0) (i1 : inR p1) (i2 : inR p2) :
    Calls Tryd.prog 18 #[arr3 p0 p1 p2, .pointer (some ⟨B, 0, none⟩)] w fun e w' => ∃ A c, e = .returned (.slice A n c) ∧ Sp w' w'.heap.size A n c (([p0, p1, p2].take n).map smlP) ∧ Below w.heap.size w w' := by
  have HI : Hid (∀ p ∈ [p0, p1, p2].take n, inR p) := fun p hp => by
    have := List.mem_of_mem_take hp
    simp only [List.mem_cons, List.not_mem_nil, or_false] at this
    rcases this with rfl | rfl | rfl
    · exact i0
    · exact i1
    · exact i2
  have hS : Sp (w.alloc (litA p0 p1 p2)) (w.alloc (litA p0 p1 p2)).heap.size (some ⟨w.heap.size, 0, none⟩) 3 3 [p0, p1, p2] := (Sn.lit w _ _ _ 2 3 rfl (by decide)).more (by simp)
  have hS2 := hS.upto hn3
  obtain ⟨h1, h2⟩ := three_take p0 p1 p2 hn1 hn3
  have c1 := (hb.alloc (litA p0 p1 p2)).cell
  have BB := Lib.hid (below_lit w (litA p0 p1 p2))
  rw [h1] at hS2
  have S0 := Lib.hid hS2
  clear hS hS2 h1 hb i0 i1 i2
  have n1 : (1 : Int) ≤ (n : Int) := by omega
  have n3 : (n : Int) ≤ 3 := by omega
  generalize [p0, p1, p2].take n = l at *
  have HL := Lib.hid h2
  clear h2
  go_enter Tryd.func18, Tryd.ntmps18
  go_wp2
  clear c1
  generalize w.alloc _ = W at *
  obtain ⟨g0, hg0⟩ : ∃ g0, w.heap.size = g0 := ⟨_, rfl⟩
  have B0 : Hid (Below g0 w W) := by rw [← hg0]; exact BB.out
  have hgW : g0 ≤ W.heap.size := by rw [← hg0]; exact BB.out.size
  rw [hg0] at S0 ⊢
  go_loopw [4, 10] (fun v i wr => ∃ (j : Nat) (A2 : Option Addr) (c2 : Nat), j ≤ n ∧ i = .int .i64 j ∧ v = .slice A2 j c2 ∧ Hid (Ows wr W.heap.size 36 2 A2 j c2 (spl ((l.take j).map smlP))) ∧ Below W.heap.size W wr) (fun _ i _ => n - (intOf i).toNat)
  case atStart => exact ⟨0, none, 0, Nat.zero_le _, rfl, rfl, Ows.nil _ _ _ _, Below.refl _ _⟩
  case round =>
    obtain ⟨j, A2, c2, hj, rfl, rfl, O3, b2⟩ := hrel
    have j0 : (0 : Int) ≤ (j : Int) := by omega
    by_cases hlt : j < n
    · obtain ⟨b, off, p, hA, hp, HX⟩ := sp_cells (S0.out.next b2) hlt
      cases hA
      have j1 : (j : Int) < (n : Int) := by omega
      obtain ⟨⟨x0, x1⟩, x2, x3⟩ := HI.out p (List.mem_of_getElem? hp)
      have HP : Hid ((l.take (j + 1)).map smlP = (l.take j).map smlP ++ [smlP p]) := by
        unfold Hid
        rw [List.take_add_one, hp, List.map_append]; rfl
      clear hp
      obtain ⟨a1, ea⟩ : ∃ a1, Int.tmod p.1 6 = a1 := ⟨_, rfl⟩
      obtain ⟨f, ef⟩ : ∃ f, Int.tmod (a1 + 6) 6 = f := ⟨_, rfl⟩
      obtain ⟨b1, eb⟩ : ∃ b1, Int.tmod p.2 4 = b1 := ⟨_, rfl⟩
      obtain ⟨d, ed⟩ : ∃ d, Int.tmod (b1 + 4) 4 = d := ⟨_, rfl⟩
      obtain ⟨m, em⟩ : ∃ m, (if 5 < f + d then 5 else f + d) = m := ⟨_, rfl⟩
      have ha := rem_bounds (x := p.1) (m := 6) (by decide)
      have hbb := rem_bounds (x := p.2) (m := 4) (by decide)
      rw [ea] at ha
      rw [eb] at hbb
      obtain ⟨ha0, ha1⟩ := ha
      obtain ⟨hb0, hb1⟩ := hbb
      have hf : fr6 p.1 = f := by unfold fr6; rw [ea, ef]
      have hd : md4 p.2 = d := by unfold md4; rw [eb, ed]
      have hfb := fr6_bounds p.1
      have hdb := md4_bounds p.2
      rw [hf] at hfb
      rw [hd] at hdb
      obtain ⟨hf0, hf1⟩ := hfb
      obtain ⟨hd0, hd1⟩ := hdb
      have HM : Hid (smlP p = (f, m)) := by
        unfold Hid smlP
        rw [hf, hd, ← em, Int.min_def]
        split <;> split <;> first | rfl | (congr 1; omega)
      rw [HM.out] at HP
      clear HM hf hd
      have B2 := Lib.hid b2
      have hsz := b2.size
      clear b2
      obtain ⟨u0, u1⟩ := HX.out wr (Below.refl _ _)
      rw [Nat.zero_add] at u0 u1
      have b5 := Go.Joins.below_alloc2 wr (.cells #[.int .i32 f, .int .i32 p.2] 36) (.cells #[.int .i32 f, .int .i32 m] 36)
      have B5 := Lib.hid (thn B2.out b5)
      have O5 : Hid (Ows ((wr.alloc (.cells #[.int .i32 f, .int .i32 p.2] 36)).alloc (.cells #[.int .i32 f, .int .i32 m] 36)) W.heap.size 36 2 A2 j c2 (spl ((l.take j).map smlP))) := O3.out.below b5
      clear b5
      go_wp2_with (at_builtin; go_must (refine wpList_apps rfl _ _ 24 rfl Tryd.underlying24 infoSpan rfl (by decide) rfl O5.out rfl (Sn.lit_at _ _ _ _ 2 1 _ (by simp) rfl (by decide)) (span_one _ _) (by omega) (by omega) (by decide) (by simp only [World.size_alloc]; omega) ?_); intro A4 c4 w4 o4 g4)
      have O6 : Hid (Ows w4 W.heap.size 36 2 A4 (j + 1) c4 (spl ((l.take (j + 1)).map smlP))) := by
        unfold Hid
        rw [HP.out, spl_append]
        exact o4
      have b6 := B5.out.grown g4 (by simp only [World.size_alloc]; omega) O5.out.lt
      clear o4 g4 em
      go_wp2
      go_roundw
      case rel => exact ⟨j + 1, A4, c4, by omega, by go_num, rfl, O6, b6⟩
      case measure => simp [intOf]; omega
    · obtain rfl : j = n := by omega
      have j1 : ¬ (j : Int) < (j : Int) := by omega
      go_wp2
      go_ret
      refine ⟨A2, c2, rfl, ?_, B0.out.trans (b2.mono hgW)⟩
      have := Sn.of_own O3.out
      rwa [show l.take j = l by rw [← HL.out, List.take_length]] at this
end Go.Proofs.YtmajempbncllgaaDoor
