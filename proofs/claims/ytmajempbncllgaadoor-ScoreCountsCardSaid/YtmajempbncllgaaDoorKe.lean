/- Layer 6: ScoreCounts. -/
import Derived.Test.YtmajempbncllgaaDoorKc
namespace Go.Proofs.YtmajempbncllgaaDoor
open Go.RowKit
set_option linter.unusedVariables false
theorem digs_get : ∀ (n k j : Nat), j < n → (digs n k)[j]? = some (((k / 6 ^ j % 6 : Nat) : Int))
  | 0, _, j, h => by omega
  | n + 1, k, 0, _ => by simp [digs]
  | n + 1, k, j + 1, h => by
    show (digs n (k / 6))[j]? = _
    rw [digs_get n (k / 6) j (by omega), Nat.div_div_eq_div_mul, Nat.pow_succ, Nat.mul_comm 6]
theorem Nl_snoc (k : IntKind) (xs : List Int) (x : Int) : Nl k (xs ++ [x]) = Nl k xs ++ [.int k x] := by unfold Nl; rw [List.map_append]; rfl
theorem box6_cells {w : World} {g : Nat} {a b c d e f : Value} {t : TypeId} (h : w.heap[g]? = some (.cells #[a, b, c, d, e, f] t (0, 0))) :
    w.cell? ⟨g, 0, none⟩ = some a ∧ w.cell? ⟨g, 1, none⟩ = some b ∧ w.cell? ⟨g, 2, none⟩ = some c ∧ w.cell? ⟨g, 3, none⟩ = some d ∧ w.cell? ⟨g, 4, none⟩ = some e ∧ w.cell? ⟨g, 5, none⟩ = some f := by
  simp [World.cell?, h]
def lenS : Value → Nat
  | .slice _ j _ => j
  | _ => 0
def smallL (p q r : Int × Int) (n : Nat) : List (Int × Int) := ([p, q, r].take n).map smlP
theorem smallL_len {p q r : Int × Int} {n : Nat} (h : n ≤ 3) : (smallL p q r n).length = n := by
  unfold smallL; simp; omega
def tySp (xs : List (Int × Int)) (n : Nat) : Ty := .pred (fun v w => ∃ A c, v = .slice A n c ∧ Sp w w.heap.size A n c xs) (fun _ _ _ ⟨A, c, h, s⟩ hb => ⟨A, c, h, s.next hb⟩)
set_option maxHeartbeats 4000000 in
theorem scounts_walk (p0 p1 p2 q0 q1 q2 : Int × Int) (u : Int) (w : World) (hT : Tab w) (i0 : inR p0) (i1 : inR p1) (i2 : inR p2) (k0 : inR q0) (k1 : inR q1) (k2 : inR q2) (hu0 : 0 ≤ u) (hu1 : u ≤ 255) :
    Calls Tryd.prog 6 #[arr3 p0 p1 p2, arr3 q0 q1 q2, .int .u8 u] w fun e w' => e = .returned (.bool true) ∧ Below w.heap.size w w' := by
  obtain ⟨m, em⟩ : ∃ m, Int.tmod u 3 = m := ⟨_, rfl⟩
  have hm0 : 0 ≤ m := by rw [← em]; exact Int.tmod_nonneg _ hu0
  have hm2 : m < 3 := by rw [← em]; exact Int.tmod_lt_of_pos _ (by decide)
  obtain ⟨n, en⟩ : ∃ n : Nat, 1 + m = (n : Int) := ⟨(1 + m).toNat, by omega⟩
  have hn1 : 1 ≤ n := by omega
  have hn3 : n ≤ 3 := by omega
  have h8 := hT.next (below_lit w (litA p0 p1 p2))
  have h9 := h8.next (below_lit _ (litA q0 q1 q2))
  have h10 := h9.next (below_lit _ (.cells #[.int .i64 (n : Int)] 3))
  have HT := Lib.hid h10
  have hw1 : (w.alloc (litA p0 p1 p2)).heap[w.heap.size]? = some (litA p0 p1 p2) := World.alloc_heap_new w _
  have hw2 : ((w.alloc (litA p0 p1 p2)).alloc (litA q0 q1 q2)).heap[w.heap.size + 1]? = some (litA q0 q1 q2) := by
    have := World.alloc_heap_new (w.alloc (litA p0 p1 p2)) (litA q0 q1 q2)
    simpa using this
  have hB1 : (((w.alloc (litA p0 p1 p2)).alloc (litA q0 q1 q2)).alloc (.cells #[.int .i64 (n : Int)] 3)).heap[w.heap.size]? = some (litA p0 p1 p2) := by
    have e1 : (((w.alloc (litA p0 p1 p2)).alloc (litA q0 q1 q2)).alloc (.cells #[.int .i64 (n : Int)] 3)).heap[w.heap.size]? = ((w.alloc (litA p0 p1 p2)).alloc (litA q0 q1 q2)).heap[w.heap.size]? := heap_alloc_old _ _ (by simp; try omega)
    have e2 : ((w.alloc (litA p0 p1 p2)).alloc (litA q0 q1 q2)).heap[w.heap.size]? = (w.alloc (litA p0 p1 p2)).heap[w.heap.size]? := heap_alloc_old _ _ (by simp; try omega)
    rw [e1, e2]; exact hw1
  have hB2 : (((w.alloc (litA p0 p1 p2)).alloc (litA q0 q1 q2)).alloc (.cells #[.int .i64 (n : Int)] 3)).heap[w.heap.size + 1]? = some (litA q0 q1 q2) := by
    have e1 : (((w.alloc (litA p0 p1 p2)).alloc (litA q0 q1 q2)).alloc (.cells #[.int .i64 (n : Int)] 3)).heap[w.heap.size + 1]? = ((w.alloc (litA p0 p1 p2)).alloc (litA q0 q1 q2)).heap[w.heap.size + 1]? := heap_alloc_old _ _ (by simp; try omega)
    rw [e1]; exact hw2
  have hB3 := Boxed.new ((w.alloc (litA p0 p1 p2)).alloc (litA q0 q1 q2)) 3 (.int .i64 (n : Int))
  rw [show ((w.alloc (litA p0 p1 p2)).alloc (litA q0 q1 q2)).heap.size = w.heap.size + 1 + 1 by simp] at hB3
  have HB : Hid (Below w.heap.size w (((w.alloc (litA p0 p1 p2)).alloc (litA q0 q1 q2)).alloc (.cells #[.int .i64 (n : Int)] 3))) := ((below_lit w _).trans ((below_lit _ _).mono (by simp))).trans ((below_lit _ _).mono (by simp; try omega))
  have hlt1 : w.heap.size < (((w.alloc (litA p0 p1 p2)).alloc (litA q0 q1 q2)).alloc (.cells #[.int .i64 (n : Int)] 3)).heap.size := by simp; try omega
  have hlt2 : w.heap.size + 1 < (((w.alloc (litA p0 p1 p2)).alloc (litA q0 q1 q2)).alloc (.cells #[.int .i64 (n : Int)] 3)).heap.size := by simp; try omega
  clear h8 h9 h10 hw1 hw2 hT
  go_enter Tryd.func6, Tryd.ntmps6
  go_wp2
  obtain ⟨W0, hW0⟩ : ∃ W0, (((w.alloc (litA p0 p1 p2)).alloc (litA q0 q1 q2)).alloc (.cells #[.int .i64 (n : Int)] 3)) = W0 := ⟨_, rfl⟩
  obtain ⟨g0, hg0⟩ : ∃ g0, w.heap.size = g0 := ⟨_, rfl⟩
  rw [hW0] at HT hB1 hB2 hB3 HB hlt1 hlt2
  rw [hg0] at hB1 hB2 hB3 hlt1 hlt2
  change Code.wp _ _ _ _ (((w.alloc (litA p0 p1 p2)).alloc (litA q0 q1 q2)).alloc (.cells #[.int .i64 (n : Int)] 3))
  rw [hW0]
  have HC1 : Hid (∀ w', Below W0.heap.size W0 w' → w'.heap[g0]? = some (litA p0 p1 p2)) := fun w' hb => (hb.block _ hlt1).trans hB1
  have HC2 : Hid (∀ w', Below W0.heap.size W0 w' → w'.heap[g0 + 1]? = some (litA q0 q1 q2)) := fun w' hb => (hb.block _ hlt2).trans hB2
  have HC3 : Hid (∀ w', Below W0.heap.size W0 w' → Boxed w' (g0 + 1 + 1) 3 (.int .i64 (n : Int))) := fun w' hb => boxed_next hB3 hb
  clear hW0 hlt1 hlt2 hB1 hB2 hB3
  obtain ⟨xs, Hxs⟩ : ∃ xs, Hid (smallL p0 p1 p2 n = xs) := ⟨_, rfl⟩
  obtain ⟨ys, Hys⟩ : ∃ ys, Hid (smallL q0 q1 q2 n = ys) := ⟨_, rfl⟩
  rw [hg0]
  refine wp_region_typed 6 [(21, .val (.func (.func 18) #[] #[.pointer (some ⟨g0 + 1 + 1, 0, none⟩)])), (22, .val (arr3 p0 p1 p2)), (23, tySp xs n), (24, .val (.func (.func 18) #[] #[.pointer (some ⟨g0 + 1 + 1, 0, none⟩)])), (25, .val (arr3 q0 q1 q2)), (26, tySp ys n)]
    [[], [], [21, 22], [], [], [24, 25]] (by kernel_rfl) (by kernel_rfl) ?_ ?_
  rotate_left
  · intro w5 hb
    simp only [List.take_succ_cons, List.take_zero, List.drop_succ_cons, List.drop_zero]
    repeat (first | refine over_val rfl ?_ | (refine over_pred rfl ?_; rintro _ ⟨Ax, cx, rfl, sx⟩; refine over_val rfl ?_; refine over_val rfl ?_; refine over_pred rfl ?_; rintro _ ⟨Ay, cy, rfl, sy⟩))
    refine over_nil ?_
    simp only [put_lit, List.set_cons_succ, List.set_cons_zero]
    have SX := Lib.hid sx
    have SY := Lib.hid sy
    have B5 := Lib.hid (HB.out.trans (hb.mono HB.out.size))
    have HT5 := Lib.hid (HT.out.next hb)
    have K5 := HC3.out w5 hb
    have c3 := K5.cell
    have HXY : Hid (overF xs ys = cntF xs ys n (6 ^ n)) := by
      unfold Hid
      rw [← Hxs.out, ← Hys.out]
      exact overF_count (smallL_len hn3) (smallL_len hn3) hn3 (sml_small _) (sml_small _)
    have IX : Hid (∀ p ∈ xs, inR p) := by rw [← Hxs.out]; exact sml_in _
    have IY : Hid (∀ p ∈ ys, inR p) := by rw [← Hys.out]; exact sml_in _
    clear sx sy hb HC1 HC2 HC3 HT HB Hxs Hys
    generalize g0 + 1 + 1 = g3 at *
    have hpw : ∀ j : Nat, j ≤ n → 1 ≤ 6 ^ j ∧ 6 ^ j ≤ 216 := fun j hj => by
      have : j ≤ 3 := by omega
      match j, this with
      | 0, _ => decide
      | 1, _ => decide
      | 2, _ => decide
      | 3, _ => decide
    have Hpw := Lib.hid hpw
    clear hpw
    go_wp2
    go_loopw [11, 28] (fun v i wr => ∃ (j : Nat), j ≤ n ∧ i = .int .i64 j ∧ v = .int .i64 ((6 ^ j : Nat) : Int) ∧ wr = w5) (fun _ i _ => n - (intOf i).toNat)
    case atStart => exact ⟨0, Nat.zero_le _, rfl, rfl, rfl⟩
    case round =>
      obtain ⟨j, hj, rfl, rfl, hw⟩ := hrel
      obtain rfl : w5 = wr := hw.symm
      have j0 : (0 : Int) ≤ (j : Int) := by omega
      obtain ⟨hp1, hp2⟩ := Hpw.out j hj
      obtain ⟨P, eP⟩ : ∃ P, 6 ^ j = P := ⟨_, rfl⟩
      by_cases hlt : j < n
      · have j1 : (j : Int) < (n : Int) := by omega
        obtain ⟨hq1, hq2⟩ := Hpw.out (j + 1) hlt
        obtain ⟨P2, eP2⟩ : ∃ P2, P * 6 = P2 := ⟨_, rfl⟩
        have hPP : Hid (6 ^ (j + 1) = P2) := by unfold Hid; rw [Nat.pow_succ, eP, eP2]
        rw [hPP.out] at hq1 hq2
        rw [eP] at hp1 hp2 ⊢
        have eQ : (P : Int) * 6 = (P2 : Int) := by rw [← eP2]; simp
        clear eP eP2
        go_wp2
        go_roundw
        case rel => exact ⟨j + 1, by omega, by go_num, by rw [hPP.out], by first | rfl | trivial⟩
        case measure => simp [intOf]; omega
      · obtain rfl : n = j := by omega
        have j1 : ¬ (n : Int) < (n : Int) := by omega
        have HXY' : Hid (overF xs ys = cntF xs ys n P) := by rw [← eP]; exact HXY.out
        rw [eP] at hp1 hp2 ⊢
        clear HXY eP Hpw j0 hj
        go_wp2
        go_loopw [12, 34] (fun mv kv wr => ∃ (k : Nat), k ≤ P ∧ kv = .int .i64 k ∧ mv = .int .u32 ((cntF xs ys n k : Nat) : Int) ∧ Below w5.heap.size w5 wr) (fun _ kv _ => P - (intOf kv).toNat)
        case atStart => exact ⟨0, Nat.zero_le _, rfl, rfl, Below.refl _ _⟩
        case round =>
          obtain ⟨k, hk, rfl, rfl, b2⟩ := hrel
          obtain ⟨wo, rfl⟩ : ∃ wo, wo = wr := ⟨_, rfl⟩
          have k0 : (0 : Int) ≤ (k : Int) := by omega
          have hck := cntF_le xs ys n k
          have HCs := Lib.hid (cntF_succ xs ys n k)
          obtain ⟨ct, hct⟩ : ∃ ct, cntF xs ys n k = ct := ⟨_, rfl⟩
          have Hct := Lib.hid hct
          rw [hct] at hck HCs ⊢
          clear hct
          have SX2 := Lib.hid (SX.out.next b2)
          have SY2 := Lib.hid (SY.out.next b2)
          have KO := Lib.hid (boxed_next K5 b2)
          have B2 := Lib.hid b2
          clear b2
          by_cases hlt : k < P
          · have k1 : (k : Int) < (P : Int) := by omega
            go_wp2
            go_loopw [14, 15] (fun v r wr => ∃ (j : Nat) (A2 : Option Addr) (c2 : Nat), j ≤ n ∧ v = .slice A2 j c2 ∧ r = .int .i64 ((k / 6 ^ j : Nat) : Int) ∧ Hid (Own wr wo.heap.size 21 A2 j c2 (Nl .i32 ((digs n k).take j))) ∧ Below wo.heap.size wo wr) (fun v _ _ => n - lenS v)
            case atStart => exact ⟨0, none, 0, Nat.zero_le _, rfl, by simp, Own.nil _ _ _, Below.refl _ _⟩
            case round =>
              obtain ⟨j, A2, c2, hj, rfl, rfl, O3, b3⟩ := hrel
              have c3 := (boxed_next KO.out b3).cell
              have j0 : (0 : Int) ≤ (j : Int) := by omega
              by_cases hlt2 : j < n
              · have j1 : (j : Int) < (n : Int) := by omega
                have hg := digs_get n k j hlt2
                obtain ⟨R, hR⟩ : ∃ R, k / 6 ^ j = R := ⟨_, rfl⟩
                have hR0 : R ≤ k := by rw [← hR]; exact Nat.div_le_self _ _
                have HR2 : Hid (k / 6 ^ (j + 1) = R / 6) := by unfold Hid; rw [Nat.pow_succ, ← Nat.div_div_eq_div_mul, hR]
                rw [hR] at hg ⊢
                obtain ⟨d, hd⟩ : ∃ d, R % 6 = d := ⟨_, rfl⟩
                obtain ⟨R2, hR2⟩ : ∃ R2, R / 6 = R2 := ⟨_, rfl⟩
                have e1 : Int.tmod (R : Int) 6 = (d : Int) := by rw [← hd]; exact Int.tmod_eq_emod_of_nonneg (by omega)
                have e2 : Int.tdiv (R : Int) 6 = (R2 : Int) := by rw [← hR2]; exact Int.tdiv_eq_ediv_of_nonneg (by omega)
                have hd5 : d ≤ 5 := by omega
                rw [hR2] at HR2
                have HP : Hid (Nl .i32 ((digs n k).take (j + 1)) = Nl .i32 ((digs n k).take j) ++ [.int .i32 (d : Int)]) := by
                  unfold Hid
                  rw [List.take_add_one, hg, hd]
                  exact Nl_snoc _ _ _
                have hr0 : (0 : Int) ≤ (R : Int) := by omega
                have hr1 : (R : Int) ≤ 216 := by omega
                have hd0 : (0 : Int) ≤ (d : Int) := by omega
                have hd1 : (d : Int) ≤ 5 := by omega
                have h20 : (0 : Int) ≤ (R2 : Int) := by omega
                have h21 : (R2 : Int) ≤ 216 := by omega
                clear hg hR hd hR2
                have B3 := Lib.hid b3
                have hsz := b3.size
                clear b3
                have O5 : Hid (Own (wr.alloc (.cells #[.int .i32 (d : Int)] 21)) wo.heap.size 21 A2 j c2 (Nl .i32 ((digs n k).take j))) := O3.out.below (below_lit _ _)
                have B5' := Lib.hid (thn B3.out (below_lit wr (.cells #[.int .i32 (d : Int)] 21)))
                go_wp2_with (at_builtin; go_must (refine wpList_app rfl _ _ 39 rfl Tryd.underlying39 infoI32 rfl rfl O5.out rfl (Sv.one _ _ _) (fun u hu => by simp at hu; subst hu; rfl) (by omega) (by decide) (by simp only [World.size_alloc]; omega) ?_); intro A4 c4 w4 o4 g4)
                have O6 : Hid (Own w4 wo.heap.size 21 A4 (j + 1) c4 (Nl .i32 ((digs n k).take (j + 1)))) := by
                  unfold Hid
                  rw [HP.out]
                  exact o4
                have b6 := B5'.out.grown g4 (by simp only [World.size_alloc]; omega) O5.out.lt
                clear o4 g4 c3
                go_wp2
                go_roundw
                case rel => exact ⟨j + 1, A4, c4, by omega, rfl, by rw [HR2.out], O6, b6⟩
                case measure => simp [lenS]; omega
              · obtain rfl : n = j := by omega
                have j1 : ¬ (n : Int) < (n : Int) := by omega
                have sv : Si wr wr.heap.size A2 n c2 (digs n k) := by
                  have := O3.out.sv
                  rwa [show (digs n k).take n = digs n k by rw [List.take_of_length_le (by rw [digs_length]; exact Nat.le_refl _)]] at this
                have SV := Lib.hid sv
                have SX3 := Lib.hid (SX2.out.next b3)
                have SY3 := Lib.hid (SY2.out.next b3)
                have B6 := Lib.hid (thn B2.out b3)
                generalize k / 6 ^ n = R at *
                obtain ⟨z1, H1⟩ : ∃ z, Hid (matchF xs (digs n k) = z) := ⟨_, rfl⟩
                obtain ⟨z2, H2⟩ : ∃ z, Hid (matchF ys (digs n k) = z) := ⟨_, rfl⟩
                rw [H1.out, H2.out] at HCs
                clear sv b3 O3 hj
                cases z1
                · have HCs' : Hid (cntF xs ys n (k + 1) = ct) := HCs.out
                  go_wp2_with fail
                  clear c3
                  have hc := matchF_any Ax n cx xs A2 n c2 (digs n k) wr IX.out SX3.out SV.out
                  rw [H1.out] at hc
                  refine hc.mono ?_
                  clear hc
                  rintro e w7 ⟨rfl, b7⟩
                  have B7 := Lib.hid (thn B6.out b7)
                  clear b7
                  go_wp2
                  go_roundw
                  case rel => exact ⟨k + 1, by omega, by go_num, by rw [HCs'.out], B7.out⟩
                  case measure => simp [intOf]; omega
                · cases z2
                  · have HCs' : Hid (cntF xs ys n (k + 1) = ct) := HCs.out
                    go_wp2_with fail
                    clear c3
                    have hc := matchF_any Ax n cx xs A2 n c2 (digs n k) wr IX.out SX3.out SV.out
                    rw [H1.out] at hc
                    refine hc.mono ?_
                    clear hc
                    rintro e w6 ⟨rfl, b7⟩
                    have B7 := Lib.hid (thn B6.out b7)
                    have SY4 := Lib.hid (SY3.out.next b7)
                    have SV4 := Lib.hid (SV.out.next b7)
                    clear b7
                    go_wp2_with fail
                    have hc := matchF_any Ay n cy ys A2 n c2 (digs n k) w6 IY.out SY4.out SV4.out
                    rw [H2.out] at hc
                    refine hc.mono ?_
                    clear hc
                    rintro e w7 ⟨rfl, b7⟩
                    replace B7 := Lib.hid (thn B7.out b7)
                    clear b7
                    go_wp2
                    go_roundw
                    case rel => exact ⟨k + 1, by omega, by go_num, by rw [HCs'.out], B7.out⟩
                    case measure => simp [intOf]; omega
                  · have HCs' : Hid (cntF xs ys n (k + 1) = ct + 1) := HCs.out
                    have hc1 : (ct : Int) + 1 ≤ 217 := by omega
                    have hc0 : (0 : Int) ≤ (ct : Int) := by omega
                    go_wp2_with fail
                    clear c3
                    have hc := matchF_any Ax n cx xs A2 n c2 (digs n k) wr IX.out SX3.out SV.out
                    rw [H1.out] at hc
                    refine hc.mono ?_
                    clear hc
                    rintro e w6 ⟨rfl, b7⟩
                    have B7 := Lib.hid (thn B6.out b7)
                    have SY4 := Lib.hid (SY3.out.next b7)
                    have SV4 := Lib.hid (SV.out.next b7)
                    clear b7
                    go_wp2_with fail
                    have hc := matchF_any Ay n cy ys A2 n c2 (digs n k) w6 IY.out SY4.out SV4.out
                    rw [H2.out] at hc
                    refine hc.mono ?_
                    clear hc
                    rintro e w7 ⟨rfl, b7⟩
                    replace B7 := Lib.hid (thn B7.out b7)
                    clear b7
                    go_wp2
                    go_roundw
                    case rel => exact ⟨k + 1, by omega, by go_num, by rw [HCs'.out]; first | rfl | (congr 1; omega) | simp, B7.out⟩
                    case measure => simp [intOf]; omega
          · obtain rfl : P = k := by omega
            have k1 : ¬ (P : Int) < (P : Int) := by omega
            rw [Hct.out] at HXY'
            have HT6 := Lib.hid (HT5.out.next B2.out)
            go_wp2_with fail
            have hc := over_any Ax n cx xs Ay n cy ys wo HT6.out IX.out IY.out SX2.out SY2.out (by omega)
            rw [HXY'.out] at hc
            refine hc.mono ?_
            clear hc
            rintro e w7 ⟨rfl, b7⟩
            have HT7 := Lib.hid (HT6.out.next b7)
            have B7 := Lib.hid (B5.out.trans ((thn B2.out b7).mono B5.out.size))
            clear b7
            go_wp2_with fail
            refine (awake_any w7 HT7.out).mono ?_
            rintro e w8 ⟨rfl, b8⟩
            have B8 := Lib.hid (thn B7.out b8)
            go_wp2
            go_ret
            exact ⟨rfl, B8.out⟩
  simp only [List.take_succ_cons, List.take_zero]
  refine ⟨?g0, ?g1, ?g2, ?g3, ?g4, ?g5, trivial⟩
  case g0 =>
    intro w5 hb
    repeat refine over_val rfl ?_
    refine over_nil ?_
    go_wp2
    exact post_of (by rfl) (by rfl) (Below.refl _ _) (by rfl)
  case g1 =>
    intro w5 hb
    repeat refine over_val rfl ?_
    refine over_nil ?_
    obtain ⟨c0, c1, c2, c3, c4, c5⟩ := box6_cells (HC1.out w5 hb)
    go_wp2
    exact post_of (by rfl) (by rfl) (Below.refl _ _) (by rfl)
  case g2 =>
    intro w5 hb
    repeat refine over_val rfl ?_
    refine over_nil ?_
    go_wp2_with fail
    refine (small_any p0 p1 p2 (HC3.out w5 hb) hn1 hn3 i0 i1 i2).mono ?_
    rintro e w6 ⟨A6, c6, rfl, s6, b6⟩
    go_wp2
    exact post_of (by rfl) (by rfl) b6 (by exact ⟨A6, c6, rfl, by rw [← Hxs.out]; exact s6⟩)
  case g3 =>
    intro w5 hb
    repeat refine over_val rfl ?_
    refine over_nil ?_
    go_wp2
    exact post_of (by rfl) (by rfl) (Below.refl _ _) (by rfl)
  case g4 =>
    intro w5 hb
    repeat refine over_val rfl ?_
    refine over_nil ?_
    obtain ⟨c0, c1, c2, c3, c4, c5⟩ := box6_cells (HC2.out w5 hb)
    go_wp2
    exact post_of (by rfl) (by rfl) (Below.refl _ _) (by rfl)
  case g5 =>
    intro w5 hb
    repeat refine over_val rfl ?_
    refine over_nil ?_
    go_wp2_with fail
    refine (small_any q0 q1 q2 (HC3.out w5 hb) hn1 hn3 k0 k1 k2).mono ?_
    rintro e w6 ⟨A6, c6, rfl, s6, b6⟩
    go_wp2
    exact post_of (by rfl) (by rfl) b6 (by exact ⟨A6, c6, rfl, by rw [← Hys.out]; exact s6⟩)
end Go.Proofs.YtmajempbncllgaaDoor
