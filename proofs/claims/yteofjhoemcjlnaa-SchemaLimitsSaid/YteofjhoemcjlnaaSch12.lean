/- Layer 3: the chapter's examples. -/
import Derived.Test.YteofjhoemcjlnaaSch11
import Derived.Test.YteofjhoemcjlnaaOw
namespace Go.Proofs.Yteofjhoemcjlnaa
open Go.RowKit
set_option linter.unusedVariables false
def tyB (b : Bool) : Ty := .val (.bool b)
def tyRI (xs : List Int) : Ty := .pred (fun v w => ∃ A n c, v = .slice A n c ∧ Si w w.heap.size A n c xs) (fun _ _ _ ⟨A, n, c, h, o⟩ hb => ⟨A, n, c, h, o.next hb⟩)
def tyRB (l : List UInt8) : Ty := .pred (fun v w => ∃ A n c, v = .slice A n c ∧ Sl w w.heap.size A n c l) (fun _ _ _ ⟨A, n, c, h, o⟩ hb => ⟨A, n, c, h, o.next hb⟩)
def tyRS (ps : List (Int × Int)) : Ty := .pred (fun v w => ∃ A n c, v = .slice A n c ∧ Sp w w.heap.size A n c ps) (fun _ _ _ ⟨A, n, c, h, o⟩ hb => ⟨A, n, c, h, o.next hb⟩)
def tyRE (e : Ev) : Ty := .pred (fun v w => EvR w v e) (fun _ _ _ h hb => h.next hb)
def exE : Ev := ⟨0, 1, 1, [3, 5], List.replicate 64 0⟩
def exL : Ev := ⟨0, 1, 1, [3, 5], List.replicate 65 0⟩
theorem made_u8 (n : Nat) : (madeCells (Value.cells (.int .u8 0)) (n * 1)).toList = (List.replicate n (0 : UInt8)).map Bv := by
  apply List.ext_getElem?
  intro i
  by_cases h : i < n
  · simp [madeCells, h, Value.cells, Nat.mod_one, Bv]
  · simp [madeCells, h, Value.cells]
theorem one_one (v : Value) (h : v.oneCell' = true) : ∀ u ∈ (#[v] : Array Value).toList, u.oneCell' = true := by
  intro u hu
  simp at hu
  subst hu
  exact h
theorem exB1 : eventB twoL exE = true := by decide +kernel
theorem exB2 : eventB twoL exL = false := by decide +kernel
theorem exB3 : sameB exE exE = true := by decide +kernel
theorem exB4 : sameB exE exL = false := by decide +kernel
set_option maxRecDepth 100000 in
set_option maxHeartbeats 4000000 in
theorem awake_any (w : World) : Calls Try.prog 9 #[] w fun e w' => e = .returned (.bool true) ∧ Below w.heap.size w w' := by
  obtain ⟨i0, hi, hz0, hz1, hz2⟩ := info_parts infoU8
  go_enter Try.func9, Try.ntmps9
  go_wp2_with fail
  refine (two_any w).mono ?_
  rintro r w1 ⟨A, c, rfl, s1, b1⟩
  have S1 := Lib.hid s1
  clear s1
  go_wp2_with (at_make; go_must (refine wpList_make_full _ rfl _ _ 29 rfl (w1.heap.size + 1) 5 i0 (.int .u8 0) 1 Try.underlying29 hi hz0 hz1 .i64 .i64 _ _ 64 rfl rfl rfl rfl (by rw [hz2]; omega) (by unfold maxLen; omega) (by simp) ?_); intro w2 o2 g2)
  rw [made_u8] at o2
  have bA := below_lit w1 (.cells #[.int .i32 3, .int .i32 5] 21)
  have b2 : Below (w1.alloc (.cells #[.int .i32 3, .int .i32 5] 21)).heap.size (w1.alloc (.cells #[.int .i32 3, .int .i32 5] 21)) w2 := (Below.refl _ _).grown g2 (Nat.le_refl _) (by simp)
  have sV : Si (w1.alloc (.cells #[.int .i32 3, .int .i32 5] 21)) (w1.alloc (.cells #[.int .i32 3, .int .i32 5] 21)).heap.size (some ⟨w1.heap.size, 0, none⟩) 2 2 [3, 5] := by
    have := Sv.lit w1 #[.int .i32 3, .int .i32 5] 21 (0, 0) 2 rfl (by decide)
    exact this.more (by simp)
  have sD : Sl w2 w2.heap.size (some ⟨w1.heap.size + 1, 0, none⟩) 64 64 (List.replicate 64 0) := by
    have := Own.sv o2
    rw [World.size_alloc] at this
    exact this
  have E1 : EvR w2 (.agg #[.int .u8 0, .int .u16 1, .int .u32 1, .slice (some ⟨w1.heap.size, 0, none⟩) 2 2, .slice (some ⟨w1.heap.size + 1, 0, none⟩) 64 64]) exE := ⟨_, _, _, _, _, _, rfl, sV.next b2, sD⟩
  have b12 : Below w.heap.size w w2 := b1.trans ((bA.trans (b2.mono bA.size)).mono b1.size)
  have s2 := Lib.hid ((S1.out.next (bA.trans (b2.mono bA.size))))
  clear g2 o2 sV sD b2 bA hi hz0 hz1 hz2 S1
  have bB := below_lit w2 (.cells #[.int .u8 0, .int .u16 1, .int .u32 1, .slice (some ⟨w1.heap.size, 0, none⟩) 2 2, .slice (some ⟨w1.heap.size + 1, 0, none⟩) 64 64] 31)
  have K2 : Hid ((w2.alloc (.cells #[.int .u8 0, .int .u16 1, .int .u32 1, .slice (some ⟨w1.heap.size, 0, none⟩) 2 2, .slice (some ⟨w1.heap.size + 1, 0, none⟩) 64 64] 31)).heap[w2.heap.size]? = some (.cells #[.int .u8 0, .int .u16 1, .int .u32 1, .slice (some ⟨w1.heap.size, 0, none⟩) 2 2, .slice (some ⟨w1.heap.size + 1, 0, none⟩) 64 64] 31 (0, 0))) := heap_alloc_new w2 _
  have hz2 : w2.heap.size < (w2.alloc (.cells #[.int .u8 0, .int .u16 1, .int .u32 1, .slice (some ⟨w1.heap.size, 0, none⟩) 2 2, .slice (some ⟨w1.heap.size + 1, 0, none⟩) 64 64] 31)).heap.size := by simp
  have E2 := Lib.hid (E1.next bB)
  have S2 := Lib.hid (s2.out.next bB)
  have b13 := b12.trans (bB.mono b12.size)
  clear E1 s2 b12
  generalize w2.alloc _ = W2 at *
  generalize w2.heap.size = G2 at *
  generalize w1.heap.size = G1 at *
  refine (copy_any _ exE W2 E2.out (by decide) (by decide)).mono ?_
  rintro r w3 ⟨_, rfl, ⟨V3, vc3, D3, dc3, rfl, oV, oD⟩, b3⟩
  rw [show exE.xs.length = 2 from rfl] at oV
  rw [show exE.l.length = 64 from by simp only [exE, List.length_replicate]] at oD
  rw [show exE.xs.length = 2 from rfl, show exE.l.length = 64 from by simp only [exE, List.length_replicate], show exE.node = 0 from rfl, show exE.inc = 1 from rfl, show exE.seq = 1 from rfl]
  have OV := Lib.hid oV
  have OD := Lib.hid oD
  clear oV oD
  have K3 : Hid (((w3.alloc (.cells #[.int .u8 0, .int .u16 1, .int .u32 1, .slice V3 2 vc3, .slice D3 64 dc3] 31)).alloc (.cells #[.int .u8 0] 5)).heap[w3.heap.size]? = some (.cells #[.int .u8 0, .int .u16 1, .int .u32 1, .slice V3 2 vc3, .slice D3 64 dc3] 31 (0, 0))) := by
    unfold Hid; rw [heap_alloc_old _ _ (by simp)]; exact heap_alloc_new w3 _
  have hz3 := b3.size
  go_wp2_with (at_builtin; go_must (refine wpList_app rfl _ _ 29 rfl Try.underlying29 infoU8 rfl rfl (OD.out.below (Go.Joins.below_alloc2 w3 _ _)) rfl (Sv.lit_at _ #[.int .u8 0] 5 (0, 0) 1 _ (by simp) rfl (by decide)) (one_one _ rfl) (by omega) (by decide) (by simp only [World.size_alloc]; omega) ?_); intro A4 c4 w4 o4 g4
               have k4 := block_grown K3.out (OD.out.below (Go.Joins.below_alloc2 w3 _ _)) (by decide) g4
               have V4 := Lib.hid ((OV.out.below (Go.Joins.below_alloc2 w3 _ _)).grown_other (OD.out.below (Go.Joins.below_alloc2 w3 _ _)) (by decide) g4)
               have O4 := Lib.hid o4
               have b4 := (Go.Joins.below_alloc2 w3 (.cells #[.int .u8 0, .int .u16 1, .int .u32 1, .slice V3 2 vc3, .slice D3 64 dc3] 31) (.cells #[.int .u8 0] 5)).mono hz3 |>.grown g4 (by simp only [World.size_alloc]; omega) OD.out.lt
               have K4 := Lib.hid k4
               obtain ⟨c0, c1, c2, c3, c4'⟩ := ev_cells k4
               have f4 := ev_free k4
               clear g4 o4 k4)
  have b5 := (b3.trans b4).setCell (p := ⟨w3.heap.size, 4, none⟩) hz3 (.slice A4 65 c4)
  have K5 : Hid ((w4.setCell ⟨w3.heap.size, 4, none⟩ (.slice A4 65 c4)).heap[w3.heap.size]? = some (.cells #[.int .u8 0, .int .u16 1, .int .u32 1, .slice V3 2 vc3, .slice A4 65 c4] 31 (0, 0))) := by
    have := Go.Joins.block_setCell (i := 4) K4.out (.slice A4 65 c4)
    exact this
  have L5 : Hid (EvR (w4.setCell ⟨w3.heap.size, 4, none⟩ (.slice A4 65 c4)) (.agg #[.int .u8 0, .int .u16 1, .int .u32 1, .slice V3 2 vc3, .slice A4 65 c4]) exL) := by
    refine ⟨V3, 2, vc3, A4, 65, c4, rfl, (V4.out.off K4.out (by decide) 4 _).sv, ?_⟩
    have e : exL.l.map Bv = exE.l.map Bv ++ (#[.int .u8 0] : Array Value).toList := by
      simp only [exL, exE]
      rw [show (65 : Nat) = 64 + 1 from rfl, List.replicate_succ', List.map_append]
      rfl
    change Sv _ _ _ _ _ (exL.l.map Bv)
    rw [e]
    exact (O4.out.off K4.out (by decide) 4 _).sv
  have E5 := Lib.hid (E2.out.next b5)
  have S5 : Hid (Sp (w4.setCell ⟨w3.heap.size, 4, none⟩ (.slice A4 65 c4)) (w4.setCell ⟨w3.heap.size, 4, none⟩ (.slice A4 65 c4)).heap.size A 2 c twoL) := S2.out.next b5
  have K25 := Lib.hid ((b5.block G2 hz2).trans K2.out)
  have bb := b13.trans (b5.mono b13.size)
  have z2 : G2 < (w4.setCell ⟨w3.heap.size, 4, none⟩ (.slice A4 65 c4)).heap.size := (Array.getElem?_eq_some_iff.1 K25.out).1
  have z3 : w3.heap.size < (w4.setCell ⟨w3.heap.size, 4, none⟩ (.slice A4 65 c4)).heap.size := (Array.getElem?_eq_some_iff.1 K5.out).1
  clear b5 O4 V4 K4 c0 c1 c2 c3 c4' f4 b4 OV OD K3 E2 S2 K2 b3 b13 bB hz3
  change (Code.wp _ _ _ _ _)
  generalize w4.setCell ⟨w3.heap.size, 4, none⟩ (.slice A4 65 c4) = W at *
  generalize w3.heap.size = G3 at *
  rw [show twoL.length = 2 from rfl]
  refine wp_region_typed_end 57 [(16, (.val (.slice A 2 c))), (17, tyB true), (18, tyB true), (19, (.val (.slice A 2 c))), (20, tyRI [3, 5]), (21, tyB true), (22, tyB true), (23, tyB true), (24, (.val (.slice A 2 c))), (25, tyRI [3, 6]), (26, tyB false), (27, tyB true), (28, tyB true), (29, tyB true), (30, (.val (.slice A 2 c))), (31, tyRI [3]), (32, tyB false), (33, tyB true), (34, tyB true), (35, tyB true), (36, (.val (.slice A 2 c))), (37, tyRI [12, -9]), (38, tyRI [9, -5]), (39, tyRI [9, -5]), (40, tyB true), (41, tyB true), (42, tyB true), (43, (.val (.slice A 2 c))), (44, tyRI [4]), (45, tyRI [4, 0]), (46, tyRI [4, 0]), (47, tyB true), (48, tyB true), (49, tyB true), (50, (.val (.slice A 2 c))), (51, (.val (.agg #[.int .u8 0, .int .u16 1, .int .u32 1, .slice (some ⟨G1, 0, none⟩) 2 2, .slice (some ⟨G1 + 1, 0, none⟩) 64 64]))), (52, tyB true), (53, tyB true), (54, tyB true), (55, (.val (.slice A 2 c))), (56, (.val (.agg #[.int .u8 0, .int .u16 1, .int .u32 1, .slice V3 2 vc3, .slice A4 65 c4]))), (57, tyB false), (58, tyB true), (59, tyB true), (60, tyB true), (61, (.val (.agg #[.int .u8 0, .int .u16 1, .int .u32 1, .slice (some ⟨G1, 0, none⟩) 2 2, .slice (some ⟨G1 + 1, 0, none⟩) 64 64]))), (62, (.val (.agg #[.int .u8 0, .int .u16 1, .int .u32 1, .slice (some ⟨G1, 0, none⟩) 2 2, .slice (some ⟨G1 + 1, 0, none⟩) 64 64]))), (63, tyRE exE), (64, tyB true), (65, tyB true), (66, tyB true), (67, (.val (.agg #[.int .u8 0, .int .u16 1, .int .u32 1, .slice (some ⟨G1, 0, none⟩) 2 2, .slice (some ⟨G1 + 1, 0, none⟩) 64 64]))), (68, (.val (.agg #[.int .u8 0, .int .u16 1, .int .u32 1, .slice V3 2 vc3, .slice A4 65 c4]))), (69, tyB false), (70, tyB true), (71, tyB true), (0, tyB true)]
    [[], [16], [17], [18], [18], [18, 19, 20], [18, 21], [22], [23], [23], [23, 24, 25], [23, 26], [23, 27], [28], [29], [29], [29, 30, 31], [29, 32], [29, 33], [34], [35], [35], [35, 36, 37], [35], [35, 38, 39], [35, 40], [41], [42], [42], [42, 43, 44], [42], [42, 45, 46], [42, 47], [48], [49], [49], [49, 50, 51], [49, 52], [53], [54], [54], [54, 55, 56], [54, 57], [54, 58], [59], [60], [60], [60, 62], [60, 61, 63], [60, 64], [65], [66], [66], [66, 67, 68], [66, 69], [66, 70], [71]] (by kernel_rfl) (by kernel_rfl) ?_ ?_
  rotate_left
  · intro w5 a hb hB
    have h0 : a.tmps.getD 0 undef = .bool true := hB.new 0 (of_decide_eq_true (by kernel_rfl))
    have hd : a.defers = [] := hB.defers
    clear hB
    simp only [List.drop_succ_cons, List.drop_zero]
    refine wpList_nil ?_
    go_wp2
    exact bodyPost_ret (v := .bool true) ((results_tmp Try.results9 a.tmps _ _).trans (by rw [h0])) hd ⟨rfl, bb.trans (hb.mono bb.size)⟩
  simp only [List.take_succ_cons, List.take_zero]
  refine ⟨?g0, ?g1, ?g2, ?g3, ?g4, ?g5, ?g6, ?g7, ?g8, ?g9, ?g10, ?g11, ?g12, ?g13, ?g14, ?g15, ?g16, ?g17, ?g18, ?g19, ?g20, ?g21, ?g22, ?g23, ?g24, ?g25, ?g26, ?g27, ?g28, ?g29, ?g30, ?g31, ?g32, ?g33, ?g34, ?g35, ?g36, ?g37, ?g38, ?g39, ?g40, ?g41, ?g42, ?g43, ?g44, ?g45, ?g46, ?g47, ?g48, ?g49, ?g50, ?g51, ?g52, ?g53, ?g54, ?g55, ?g56, trivial⟩
  case g4 =>
    intro w5 hb
    repeat refine over_val rfl ?_
    refine over_nil ?_
    go_wp2
    exact post_of (by rfl) (by rfl) (below_lit _ _) (by exact ⟨_, _, _, rfl, (Sv.lit _ _ _ _ 2 rfl (by decide)).more (by simp)⟩)
  case g9 =>
    intro w5 hb
    repeat refine over_val rfl ?_
    refine over_nil ?_
    go_wp2
    exact post_of (by rfl) (by rfl) (below_lit _ _) (by exact ⟨_, _, _, rfl, (Sv.lit _ _ _ _ 2 rfl (by decide)).more (by simp)⟩)
  case g15 =>
    intro w5 hb
    repeat refine over_val rfl ?_
    refine over_nil ?_
    go_wp2
    exact post_of (by rfl) (by rfl) (below_lit _ _) (by exact ⟨_, _, _, rfl, (Sv.lit _ _ _ _ 1 rfl (by decide)).more (by simp)⟩)
  case g21 =>
    intro w5 hb
    repeat refine over_val rfl ?_
    refine over_nil ?_
    go_wp2
    exact post_of (by rfl) (by rfl) (below_lit _ _) (by exact ⟨_, _, _, rfl, (Sv.lit _ _ _ _ 2 rfl (by decide)).more (by simp)⟩)
  case g23 =>
    intro w5 hb
    repeat refine over_val rfl ?_
    refine over_nil ?_
    go_wp2
    exact post_of (by rfl) (by rfl) (below_lit _ _) (by exact ⟨_, _, _, rfl, (Sv.lit _ _ _ _ 2 rfl (by decide)).more (by simp)⟩)
  case g28 =>
    intro w5 hb
    repeat refine over_val rfl ?_
    refine over_nil ?_
    go_wp2
    exact post_of (by rfl) (by rfl) (below_lit _ _) (by exact ⟨_, _, _, rfl, (Sv.lit _ _ _ _ 1 rfl (by decide)).more (by simp)⟩)
  case g30 =>
    intro w5 hb
    repeat refine over_val rfl ?_
    refine over_nil ?_
    go_wp2
    exact post_of (by rfl) (by rfl) (below_lit _ _) (by exact ⟨_, _, _, rfl, (Sv.lit _ _ _ _ 2 rfl (by decide)).more (by simp)⟩)
  case g1 =>
    intro w5 hb
    repeat refine over_val rfl ?_
    refine over_nil ?_
    go_wp2_with fail
    refine (right_any _ _ _ _ twoL w5 (S5.out.next hb) (Nat.le_refl _)).mono ?_
    rintro r w6 ⟨he, b⟩
    rw [show rightB twoL = true from by decide] at he
    subst he
    go_wp2
    exact post_of (by rfl) (by rfl) b (by rfl)
  case g5 =>
    intro w5 hb
    repeat refine over_val rfl ?_
    refine over_pred rfl ?_
    rintro _ ⟨A', n', c', rfl, s'⟩
    refine over_nil ?_
    go_wp2_with fail
    refine (fits_any _ _ _ _ twoL _ _ _ _ [3, 5] w5 (S5.out.next hb) (Nat.le_refl _) s' (Nat.le_refl _) (by decide)).mono ?_
    rintro r w6 ⟨he, b⟩
    rw [show fitsB twoL [3, 5] = true from by decide] at he
    subst he
    go_wp2
    exact post_of (by rfl) (by rfl) b (by rfl)
  case g10 =>
    intro w5 hb
    repeat refine over_val rfl ?_
    refine over_pred rfl ?_
    rintro _ ⟨A', n', c', rfl, s'⟩
    refine over_nil ?_
    go_wp2_with fail
    refine (fits_any _ _ _ _ twoL _ _ _ _ [3, 6] w5 (S5.out.next hb) (Nat.le_refl _) s' (Nat.le_refl _) (by decide)).mono ?_
    rintro r w6 ⟨he, b⟩
    rw [show fitsB twoL [3, 6] = false from by decide] at he
    subst he
    go_wp2
    exact post_of (by rfl) (by rfl) b (by rfl)
  case g16 =>
    intro w5 hb
    repeat refine over_val rfl ?_
    refine over_pred rfl ?_
    rintro _ ⟨A', n', c', rfl, s'⟩
    refine over_nil ?_
    go_wp2_with fail
    refine (fits_any _ _ _ _ twoL _ _ _ _ [3] w5 (S5.out.next hb) (Nat.le_refl _) s' (Nat.le_refl _) (by decide)).mono ?_
    rintro r w6 ⟨he, b⟩
    rw [show fitsB twoL [3] = false from by decide] at he
    subst he
    go_wp2
    exact post_of (by rfl) (by rfl) b (by rfl)
  case g22 =>
    intro w5 hb
    repeat refine over_val rfl ?_
    refine over_pred rfl ?_
    rintro _ ⟨A', n', c', rfl, s'⟩
    refine over_nil ?_
    go_wp2_with fail
    refine (bring_any _ _ _ _ twoL _ _ _ _ [12, -9] w5 (S5.out.next hb) (Nat.le_refl _) s' (Nat.le_refl _) (by decide)).mono ?_
    rintro r w6 ⟨A6, c6, rfl, o6, b⟩
    go_wp2
    exact post_of (by rfl) (by rfl) b (by exact ⟨_, _, _, rfl, (show bringL twoL [12, -9] = [9, -5] from by decide) ▸ o6.sv⟩)
  case g29 =>
    intro w5 hb
    repeat refine over_val rfl ?_
    refine over_pred rfl ?_
    rintro _ ⟨A', n', c', rfl, s'⟩
    refine over_nil ?_
    go_wp2_with fail
    refine (bring_any _ _ _ _ twoL _ _ _ _ [4] w5 (S5.out.next hb) (Nat.le_refl _) s' (Nat.le_refl _) (by decide)).mono ?_
    rintro r w6 ⟨A6, c6, rfl, o6, b⟩
    go_wp2
    exact post_of (by rfl) (by rfl) b (by exact ⟨_, _, _, rfl, (show bringL twoL [4] = [4, 0] from by decide) ▸ o6.sv⟩)
  case g24 =>
    intro w5 hb
    repeat refine over_val rfl ?_
    refine over_pred rfl ?_
    rintro _ ⟨A', n', c', rfl, s'⟩
    refine over_pred rfl ?_
    rintro _ ⟨A2, n2, c2, rfl, s2⟩
    refine over_nil ?_
    go_wp2_with fail
    refine (vals_any _ _ _ _ [9, -5] _ _ _ _ [9, -5] w5 s' (Nat.le_refl _) s2 (Nat.le_refl _)).mono ?_
    rintro r w6 ⟨he, b⟩
    rw [show decide ([9, -5] = ([9, -5] : List Int)) = true from by decide] at he
    subst he
    go_wp2
    exact post_of (by rfl) (by rfl) b (by rfl)
  case g31 =>
    intro w5 hb
    repeat refine over_val rfl ?_
    refine over_pred rfl ?_
    rintro _ ⟨A', n', c', rfl, s'⟩
    refine over_pred rfl ?_
    rintro _ ⟨A2, n2, c2, rfl, s2⟩
    refine over_nil ?_
    go_wp2_with fail
    refine (vals_any _ _ _ _ [4, 0] _ _ _ _ [4, 0] w5 s' (Nat.le_refl _) s2 (Nat.le_refl _)).mono ?_
    rintro r w6 ⟨he, b⟩
    rw [show decide ([4, 0] = ([4, 0] : List Int)) = true from by decide] at he
    subst he
    go_wp2
    exact post_of (by rfl) (by rfl) b (by rfl)
  case g36 =>
    intro w5 hb
    repeat refine over_val rfl ?_
    refine over_nil ?_
    go_wp2_with fail
    refine (event_any _ _ _ twoL _ exE w5 (S5.out.next hb) (by decide) (E5.out.next hb)).mono ?_
    rintro r w6 ⟨he, b⟩
    rw [exB1] at he
    subst he
    go_wp2
    exact post_of (by rfl) (by rfl) b (by rfl)
  case g41 =>
    intro w5 hb
    repeat refine over_val rfl ?_
    refine over_nil ?_
    go_wp2_with fail
    refine (event_any _ _ _ twoL _ exL w5 (S5.out.next hb) (by decide) (L5.out.next hb)).mono ?_
    rintro r w6 ⟨he, b⟩
    rw [exB2] at he
    subst he
    go_wp2
    exact post_of (by rfl) (by rfl) b (by rfl)
  case g47 =>
    intro w5 hb
    repeat refine over_val rfl ?_
    refine over_nil ?_
    go_wp2_with fail
    refine (copy_any _ exE w5 (E5.out.next hb) (by decide) (by decide)).mono ?_
    rintro r w6 ⟨v6, rfl, o6, b⟩
    go_wp2
    exact post_of (by rfl) (by rfl) b (by exact o6.reads)
  case g48 =>
    intro w5 hb
    repeat refine over_val rfl ?_
    refine over_pred rfl ?_
    intro v7 h7
    refine over_nil ?_
    go_wp2_with fail
    refine (same_any _ exE _ exE w5 (E5.out.next hb) h7).mono ?_
    rintro r w6 ⟨he, b⟩
    rw [exB3] at he
    subst he
    go_wp2
    exact post_of (by rfl) (by rfl) b (by rfl)
  case g53 =>
    intro w5 hb
    repeat refine over_val rfl ?_
    refine over_nil ?_
    go_wp2_with fail
    refine (same_any _ exE _ exL w5 (E5.out.next hb) (L5.out.next hb)).mono ?_
    rintro r w6 ⟨he, b⟩
    rw [exB4] at he
    subst he
    go_wp2
    exact post_of (by rfl) (by rfl) b (by rfl)
  all_goals
    intro w5 hb
    repeat (first | refine over_val rfl ?_ | (refine over_pred rfl ?_; intro _ _))
    refine over_nil ?_
    obtain ⟨c0, c1, c2, c3, c4'⟩ := ev_cells ((hb.block G2 z2).trans K25.out)
    obtain ⟨d0, d1, d2, d3, d4⟩ := ev_cells ((hb.block G3 z3).trans K5.out)
    go_wp2
    exact post_of (by rfl) (by rfl) (Below.refl _ _) (by rfl)
end Go.Proofs.Yteofjhoemcjlnaa
