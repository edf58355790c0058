/- Layer 3: the walk of SchemaTells. Written by a program out of the operations' list (wip/gen/mk3t.py). -/
import Derived.Test.YtaiaaglggkhjpaaSch12
namespace Go.Proofs.Ytaiaaglggkhjpaa
open Go.RowKit
set_option linter.unusedVariables false
theorem few_of {n i s : Int} {A : Option Addr} {vn vc : Nat} {D : Option Addr} {dn dc : Nat} {b : Bool} (w : World) (hb : (decide (vn ≤ 20) && decide (dn ≤ 200)) = b) :
    Calls Try.prog 8 #[.agg #[.int .u8 n, .int .u16 i, .int .u32 s, .slice A vn vc, .slice D dn dc]] w fun e w' => e = .returned (.bool b) ∧ Below w.heap.size w w' := by
  subst hb; exact few_any n i s A vn vc D dn dc w
theorem right_ranges {ps : List (Int × Int)} (h : rightB ps = true) : ∀ p ∈ ps, p.1 ≤ p.2 := by
  simp only [rightB, Bool.and_eq_true, decide_eq_true_eq] at h
  exact fun p hp => of_decide_eq_true (List.all_eq_true.1 h.2 p hp)
theorem right_len {ps : List (Int × Int)} (h : rightB ps = true) : ps.length ≤ 4 := by
  simp only [rightB, Bool.and_eq_true, decide_eq_true_eq] at h
  exact h.1.2
theorem sameB_refl (e : Ev) : sameB e e = true := by simp [sameB]
theorem ev_lens {w : World} {e : Ev} {n i s : Int} {V : Option Addr} {vn vc : Nat} {D : Option Addr} {dn dc : Nat} (h : EvR w (.agg #[.int .u8 n, .int .u16 i, .int .u32 s, .slice V vn vc, .slice D dn dc]) e) : vn = e.xs.length ∧ dn = e.l.length := by
  obtain ⟨V', vn', vc', D', dn', dc', hv, h1, h2⟩ := h
  have l1 := si_len h1
  have l2 := sl_len h2
  simp at hv
  omega
section
variable {A : Option Addr} {n c : Nat} {ps : List (Int × Int)} {a b : Ev} {V : Option Addr} {vn vc : Nat} {D : Option Addr} {dn dc : Nat} {V' : Option Addr} {vn' vc' : Nat} {D' : Option Addr} {dn' dc' : Nat}

set_option maxRecDepth 100000 in
set_option maxHeartbeats 4000000 in
theorem tells_main (w : World) (h : Sp w w.heap.size A n c ps) (h1 : Si w w.heap.size V vn vc a.xs) (h2 : Sl w w.heap.size D dn dc a.l) (h3 : Si w w.heap.size V' vn' vc' b.xs) (h4' : Sl w w.heap.size D' dn' dc' b.l)
    (g1 : n ≤ 8) (g2 : vn ≤ 20) (g3 : dn ≤ 200) (g4 : vn' ≤ 20) (g5 : dn' ≤ 200) :
    Calls Try.prog 3 #[.slice A n c, .agg #[.int .u8 a.node, .int .u16 a.inc, .int .u32 a.seq, .slice V vn vc, .slice D dn dc], .agg #[.int .u8 b.node, .int .u16 b.inc, .int .u32 b.seq, .slice V' vn' vc', .slice D' dn' dc']] w fun e w' => e = .returned (.bool true) ∧ Below w.heap.size w w' := by
  have AA : EvR w (.agg #[.int .u8 a.node, .int .u16 a.inc, .int .u32 a.seq, .slice V vn vc, .slice D dn dc]) a := ⟨_, _, _, _, _, _, rfl, h1, h2⟩
  have BB : EvR w (.agg #[.int .u8 b.node, .int .u16 b.inc, .int .u32 b.seq, .slice V' vn' vc', .slice D' dn' dc']) b := ⟨_, _, _, _, _, _, rfl, h3, h4'⟩
  have XA : Hid (a.xs.length ≤ 1000000) := by have := si_len h1; unfold Hid; omega
  have XD : Hid (a.l.length ≤ 1000000) := by have := sl_len h2; unfold Hid; omega
  have hb0 := Go.Joins.below_alloc2 w (.cells #[.int .u8 a.node, .int .u16 a.inc, .int .u32 a.seq, .slice V vn vc, .slice D dn dc] 31) (.cells #[.int .u8 b.node, .int .u16 b.inc, .int .u32 b.seq, .slice V' vn' vc', .slice D' dn' dc'] 31)
  have K1 : Hid (((w.alloc (.cells #[.int .u8 a.node, .int .u16 a.inc, .int .u32 a.seq, .slice V vn vc, .slice D dn dc] 31)).alloc (.cells #[.int .u8 b.node, .int .u16 b.inc, .int .u32 b.seq, .slice V' vn' vc', .slice D' dn' dc'] 31)).heap[w.heap.size]? = some (.cells #[.int .u8 a.node, .int .u16 a.inc, .int .u32 a.seq, .slice V vn vc, .slice D dn dc] 31 (0, 0))) := by unfold Hid; rw [heap_alloc_old _ _ (by simp)]; exact heap_alloc_new w _
  have K2 : Hid (((w.alloc (.cells #[.int .u8 a.node, .int .u16 a.inc, .int .u32 a.seq, .slice V vn vc, .slice D dn dc] 31)).alloc (.cells #[.int .u8 b.node, .int .u16 b.inc, .int .u32 b.seq, .slice V' vn' vc', .slice D' dn' dc'] 31)).heap[w.heap.size + 1]? = some (.cells #[.int .u8 b.node, .int .u16 b.inc, .int .u32 b.seq, .slice V' vn' vc', .slice D' dn' dc'] 31 (0, 0))) := by
    unfold Hid
    have := heap_alloc_new (w.alloc (.cells #[.int .u8 a.node, .int .u16 a.inc, .int .u32 a.seq, .slice V vn vc, .slice D dn dc] 31)) (.cells #[.int .u8 b.node, .int .u16 b.inc, .int .u32 b.seq, .slice V' vn' vc', .slice D' dn' dc'] 31)
    simpa using this
  have F1 : Hid ((decide (vn ≤ 20) && decide (dn ≤ 200)) = true) := by unfold Hid; simp [g2, g3]
  have F2 : Hid ((decide (vn' ≤ 20) && decide (dn' ≤ 200)) = true) := by unfold Hid; simp [g4, g5]
  have S0 := Lib.hid (h.next hb0)
  have A0 := Lib.hid (AA.next hb0)
  have B0 := Lib.hid (BB.next hb0)
  have V0 := Lib.hid (h1.next hb0)
  have hm := h.max
  have hc := h.cap
  have hm1 := h1.max
  have hc1 := h1.cap
  unfold maxLen at hm hm1
  have HL : Hid (n = ps.length) := sp_len h
  have hH : ∃ H, w.heap.size = H := ⟨_, rfl⟩
  obtain ⟨H, hH⟩ := hH
  have HH := Lib.hid hH
  clear h h1 h2 h3 h4' AA BB hH
  go_enter Try.func3, Try.ntmps3
  go_wp2_with fail
  generalize (w.alloc (.cells #[.int .u8 a.node, .int .u16 a.inc, .int .u32 a.seq, .slice V vn vc, .slice D dn dc] 31)).alloc (.cells #[.int .u8 b.node, .int .u16 b.inc, .int .u32 b.seq, .slice V' vn' vc', .slice D' dn' dc'] 31) = W0 at *
  have y1 : w.heap.size < W0.heap.size := (Array.getElem?_eq_some_iff.1 K1.out).1
  have y2 : w.heap.size + 1 < W0.heap.size := (Array.getElem?_eq_some_iff.1 K2.out).1
  refine (few_of W0 F1.out).mono ?_
  rintro r w1 ⟨rfl, b1⟩
  obtain ⟨c0, c1, c2, c3, c4⟩ := ev_cells ((b1.block _ y1).trans K1.out)
  obtain ⟨d0, d1, d2, d3, d4⟩ := ev_cells ((b1.block _ y2).trans K2.out)
  go_wp2_with fail
  refine (few_of w1 F2.out).mono ?_
  rintro r w2 ⟨rfl, b2⟩
  clear c0 c1 c2 c3 c4 d0 d1 d2 d3 d4
  go_wp2_with fail
  have b02 := thn b1 b2
  have S5 := Lib.hid (S0.out.next b02)
  have A5 := Lib.hid (A0.out.next b02)
  have B5 := Lib.hid (B0.out.next b02)
  have V5 := Lib.hid (V0.out.next b02)
  have K1' := Lib.hid ((b02.block _ y1).trans K1.out)
  have K2' := Lib.hid ((b02.block _ y2).trans K2.out)
  have bb := thn hb0 (b02.mono (Nat.le_refl _))
  clear K1 K2 b1 b2 S0 A0 B0 V0 F1 F2
  have K1 := K1'
  have K2 := K2'
  have z1 : w.heap.size < w2.heap.size := by have := b02.size; omega
  have z2 : w.heap.size + 1 < w2.heap.size := by have := b02.size; omega
  clear K1' K2' hb0 y1 y2 b02
  have RB : ∃ rb, Hid (rightB ps = rb) := ⟨_, rfl⟩
  obtain ⟨rb, RB⟩ := RB
  have SB : ∃ sb, Hid (sameB a b = sb) := ⟨_, rfl⟩
  obtain ⟨sb, SB⟩ := SB
  have HG : ∃ G1 G2, Hid (w.heap.size = G1) ∧ Hid (w.heap.size + 1 = G2) := ⟨_, _, rfl, rfl⟩
  obtain ⟨G1, G2, HG1, HG2⟩ := HG
  rw [HG1.out] at z1 K1 
  rw [HG2.out] at z2 K2
  rw [HG2.out]
  rw [HG1.out]
  refine wp_region_typed 21 [(22, (.val (.slice A n c))), (23, tyB rb), (24, (.val (.slice A n c))), (25, tyB rb), (26, tyB false), (27, tyB false), (28, (.val (.agg #[.int .u8 a.node, .int .u16 a.inc, .int .u32 a.seq, .slice V vn vc, .slice D dn dc]))), (29, (.val (.agg #[.int .u8 b.node, .int .u16 b.inc, .int .u32 b.seq, .slice V' vn' vc', .slice D' dn' dc']))), (30, tyB sb), (31, (.val (.agg #[.int .u8 a.node, .int .u16 a.inc, .int .u32 a.seq, .slice V vn vc, .slice D dn dc]))), (32, (.val (.agg #[.int .u8 b.node, .int .u16 b.inc, .int .u32 b.seq, .slice V' vn' vc', .slice D' dn' dc']))), (33, tyB sb), (34, tyB false), (35, tyB false), (36, tyB false), (37, (.val (.agg #[.int .u8 a.node, .int .u16 a.inc, .int .u32 a.seq, .slice V vn vc, .slice D dn dc]))), (38, tyRE a), (39, (.val (.agg #[.int .u8 a.node, .int .u16 a.inc, .int .u32 a.seq, .slice V vn vc, .slice D dn dc]))), (40, tyB true), (41, tyB false), (42, tyB false)]
    [[], [22], [], [24], [23, 25], [26], [27], [27], [27, 28, 29], [27], [27], [27, 31, 32], [27, 30, 33], [27, 34], [35], [36], [36, 37], [36], [36, 38, 39], [36, 40], [36, 41]] (by kernel_rfl) (by kernel_rfl) ?_ ?_
  rotate_left
  · intro w5 hb
    simp only [List.take_succ_cons, List.take_zero, List.drop_succ_cons, List.drop_zero]
    repeat (first | refine over_val rfl ?_ | (refine over_pred rfl ?_; intro _ _))
    refine over_nil ?_
    refine wpList_nil ?_
    simp only [put_lit, List.set_cons_succ, List.set_cons_zero]
    have S6 := Lib.hid (S5.out.next hb)
    have A6 := Lib.hid (A5.out.next hb)
    have V6 := Lib.hid (V5.out.next hb)
    have K6 := Lib.hid ((hb.block _ z1).trans K1.out)
    have z6 : G1 < w5.heap.size := by have := hb.size; omega
    have bb6 := thn bb hb
    clear S5 A5 B5 V5 K1 K2 z1 z2 hb bb
    go_wp2_with fail
    refine (refRight_any _ _ _ _ ps w5 S6.out (Nat.le_refl _)).mono ?_
    rintro r w6 ⟨he, b6⟩
    rw [RB.out] at he
    subst he
    cases rb with
    | false =>
      go_wp2_with fail
      refine (awake_any w6).mono ?_
      rintro r w7 ⟨rfl, b7⟩
      go_wp2
      go_ret
      exact ⟨rfl, thn (thn bb6 b6) b7⟩
    | true =>
      have HR : Hid (∀ p ∈ ps, p.1 ≤ p.2) := right_ranges RB.out
      have h4 : n ≤ 4 := by rw [HL.out]; exact right_len RB.out
      have S7 := Lib.hid (S6.out.next b6)
      have A7' := Lib.hid (A6.out.next b6)
      have V7 := Lib.hid (V6.out.next b6)
      have k7 := (b6.block _ z6).trans K6.out
      have K7 := Lib.hid k7
      have z7 : G1 < w6.heap.size := by have := b6.size; omega
      have bb7 := thn bb6 b6
      obtain ⟨c0, c1, c2, c3, c4⟩ := ev_cells k7
      clear S6 A6 V6 K6 z6 bb6 b6 k7
      go_wp2_with (at_builtin; go_must (refine wpList_app rfl _ _ 28 rfl Try.underlying28 infoI32 rfl rfl (Own.lit0 _ 21) rfl (V7.out.next (below_lit _ _)) (Nl_one _ _) (by omega) (by decide) (by simp) ?_); intro A8 c8 w8 o8 g8)
      rw [Nat.zero_add, List.nil_append] at o8
      have b8 : Below w6.heap.size w6 w8 := (below_lit w6 _).grown g8 (by simp) (fun k hk => by simp [Value.ownBlock] at hk; omega)
      have S5 := Lib.hid (S7.out.next b8)
      have A5 := Lib.hid (A7'.out.next b8)
      have V5 := Lib.hid (V7.out.next b8)
      have W5 := Lib.hid o8.sv
      have K1 := Lib.hid ((b8.block _ z7).trans K7.out)
      have z1 : G1 < w8.heap.size := by have := b8.size; omega
      have bb8 := thn bb7 b8
      clear S7 A7' V7 K7 z7 bb7 b8 o8 g8 c0 c1 c2 c3 c4
      have FB : ∃ fb, Hid (fitsB ps a.xs = fb) := ⟨_, rfl⟩
      obtain ⟨fb, FB⟩ := FB
      have EB : ∃ eb, Hid (eventB ps a = eb) := ⟨_, rfl⟩
      obtain ⟨eb, EB⟩ := EB
      go_wp2_with fail
      refine wp_region_typed_end 39 [(51, (.val (.slice A n c))), (52, (.val (.pointer (some ⟨G1, 3, none⟩)))), (53, (.val (.slice V vn vc))), (54, tyB fb), (55, (.val (.slice A n c))), (56, (.val (.pointer (some ⟨G1, 3, none⟩)))), (57, (.val (.slice V vn vc))), (58, tyB fb), (59, tyB true), (60, tyB true), (61, (.val (.slice A n c))), (62, (.val (.pointer (some ⟨G1, 3, none⟩)))), (63, (.val (.slice V vn vc))), (64, tyRI (bringL ps a.xs)), (65, (.val (.slice A n c))), (66, (.val (.pointer (some ⟨G1, 3, none⟩)))), (67, (.val (.slice V vn vc))), (68, tyRI (bringL ps a.xs)), (69, tyB true), (70, tyB true), (71, tyB true), (72, (.val (.slice A n c))), (73, (.val (.agg #[.int .u8 a.node, .int .u16 a.inc, .int .u32 a.seq, .slice V vn vc, .slice D dn dc]))), (74, tyB eb), (75, (.val (.slice A n c))), (76, (.val (.agg #[.int .u8 a.node, .int .u16 a.inc, .int .u32 a.seq, .slice V vn vc, .slice D dn dc]))), (77, tyB eb), (78, tyB true), (79, tyB true), (80, tyB true), (81, (.val (.pointer (some ⟨G1, 3, none⟩)))), (82, (.val (.slice V vn vc))), (83, (.val (.slice A8 vn c8))), (84, tyB true), (85, tyB true), (86, tyB true), (87, tyB true), (88, tyB true), (6, tyB true)]
        [[], [], [52], [51, 53], [], [], [56], [55, 57], [54, 58], [59], [60], [60], [60, 62], [60, 61, 63], [60], [60], [60, 66], [60, 65, 67], [60, 64, 68], [60, 69], [70], [71], [71], [71, 72, 73], [71], [71], [71, 75, 76], [71, 74, 77], [71, 78], [79], [80], [80, 81], [80], [80, 82, 83], [80, 84], [85], [86], [86, 87], [88]] (by kernel_rfl) (by kernel_rfl) ?_ ?_
      rotate_left
      · intro w9 af hb hB
        have h0 : af.tmps.getD 6 undef = .bool true := hB.new 6 (of_decide_eq_true (by kernel_rfl))
        have hd : af.defers = [] := hB.defers
        clear hB
        simp only [List.drop_succ_cons, List.drop_zero]
        refine wpList_nil ?_
        go_wp2
        exact bodyPost_ret (v := .bool true) ((results_tmp Try.results3 af.tmps _ _).trans (by rw [h0])) hd ⟨rfl, thn bb8 hb⟩
      simp only [List.take_succ_cons, List.take_zero]
      refine ⟨?g0, ?g1, ?g2, ?g3, ?g4, ?g5, ?g6, ?g7, ?g8, ?g9, ?g10, ?g11, ?g12, ?g13, ?g14, ?g15, ?g16, ?g17, ?g18, ?g19, ?g20, ?g21, ?g22, ?g23, ?g24, ?g25, ?g26, ?g27, ?g28, ?g29, ?g30, ?g31, ?g32, ?g33, ?g34, ?g35, ?g36, ?g37, ?g38, trivial⟩
      case g3 =>
        intro w5 hb
        repeat refine over_val rfl ?_
        refine over_nil ?_
        go_wp2_with fail
        refine (fits_any _ _ _ _ ps _ _ _ _ a.xs w5 (S5.out.next hb) (Nat.le_refl _) (V5.out.next hb) (Nat.le_refl _) HR.out).mono ?_
        rintro r w6 ⟨he, b5⟩
        rw [FB.out] at he
        subst he
        go_wp2
        exact post_of (by rfl) (by rfl) b5 (by rfl)
      case g7 =>
        intro w5 hb
        repeat refine over_val rfl ?_
        refine over_nil ?_
        go_wp2_with fail
        refine (refFits_any _ _ _ _ ps _ _ _ _ a.xs w5 (S5.out.next hb) (Nat.le_refl _) (V5.out.next hb) (Nat.le_refl _)).mono ?_
        rintro r w6 ⟨he, b5⟩
        rw [FB.out] at he
        subst he
        go_wp2
        exact post_of (by rfl) (by rfl) b5 (by rfl)
      case g13 =>
        intro w5 hb
        repeat refine over_val rfl ?_
        refine over_nil ?_
        go_wp2_with fail
        refine (bring_any _ _ _ _ ps _ _ _ _ a.xs w5 (S5.out.next hb) (Nat.le_refl _) (V5.out.next hb) (Nat.le_refl _) h4).mono ?_
        rintro r w6 ⟨A6, c6, rfl, o6, b5⟩
        go_wp2
        exact post_of (by rfl) (by rfl) b5 (by exact ⟨_, _, _, rfl, o6.sv⟩)
      case g17 =>
        intro w5 hb
        repeat refine over_val rfl ?_
        refine over_nil ?_
        go_wp2_with fail
        refine (refBring_any _ _ _ _ ps _ _ _ _ a.xs w5 (S5.out.next hb) (Nat.le_refl _) (V5.out.next hb) (Nat.le_refl _) h4).mono ?_
        rintro r w6 ⟨A6, c6, rfl, o6, b5⟩
        go_wp2
        exact post_of (by rfl) (by rfl) b5 (by exact ⟨_, _, _, rfl, o6.sv⟩)
      case g18 =>
        intro w5 hb
        repeat refine over_val rfl ?_
        refine over_pred rfl ?_
        rintro _ ⟨A', n', c', rfl, s'⟩
        refine over_pred rfl ?_
        rintro _ ⟨A2, n2, c2, rfl, s2⟩
        refine over_nil ?_
        go_wp2_with fail
        refine (vals_any _ _ _ _ _ _ _ _ _ _ w5 s' (Nat.le_refl _) s2 (Nat.le_refl _)).mono ?_
        rintro r w6 ⟨he, b5⟩
        rw [decide_eq_true rfl] at he
        subst he
        go_wp2
        exact post_of (by rfl) (by rfl) b5 (by rfl)
      case g23 =>
        intro w5 hb
        repeat refine over_val rfl ?_
        refine over_nil ?_
        go_wp2_with fail
        refine (event_any _ _ _ ps _ a w5 (S5.out.next hb) HR.out (A5.out.next hb)).mono ?_
        rintro r w6 ⟨he, b5⟩
        rw [EB.out] at he
        subst he
        go_wp2
        exact post_of (by rfl) (by rfl) b5 (by rfl)
      case g26 =>
        intro w5 hb
        repeat refine over_val rfl ?_
        refine over_nil ?_
        go_wp2_with fail
        refine (refEvent_any _ _ _ ps _ a w5 (S5.out.next hb) (A5.out.next hb)).mono ?_
        rintro r w6 ⟨he, b5⟩
        rw [EB.out] at he
        subst he
        go_wp2
        exact post_of (by rfl) (by rfl) b5 (by rfl)
      case g33 =>
        intro w5 hb
        repeat refine over_val rfl ?_
        refine over_nil ?_
        go_wp2_with fail
        refine (vals_any _ _ _ _ a.xs _ _ _ _ a.xs w5 (V5.out.next hb) (Nat.le_refl _) (W5.out.next hb) (Nat.le_refl _)).mono ?_
        rintro r w6 ⟨he, b5⟩
        rw [decide_eq_true rfl] at he
        subst he
        go_wp2
        exact post_of (by rfl) (by rfl) b5 (by rfl)
      case g36 =>
        intro w5 hb
        repeat refine over_val rfl ?_
        refine over_nil ?_
        go_wp2_with fail
        refine (awake_any w5).mono ?_
        rintro r w6 ⟨rfl, b5⟩
        go_wp2
        exact post_of (by rfl) (by rfl) b5 (by rfl)
      all_goals
        intro w5 hb
        repeat (first | refine over_val rfl ?_ | (refine over_pred rfl ?_; intro _ _))
        refine over_nil ?_
        obtain ⟨c0, c1, c2, c3, c4⟩ := ev_cells ((hb.block G1 z1).trans K1.out)
        go_wp2
        exact post_of (by rfl) (by rfl) (Below.refl _ _) (by first | rfl | (simp [Ty.holds, tyOf]; done))
  simp only [List.take_succ_cons, List.take_zero]
  refine ⟨?q0, ?q1, ?q2, ?q3, ?q4, ?q5, ?q6, ?q7, ?q8, ?q9, ?q10, ?q11, ?q12, ?q13, ?q14, ?q15, ?q16, ?q17, ?q18, ?q19, ?q20, trivial⟩
  case q1 =>
    intro w5 hb
    repeat refine over_val rfl ?_
    refine over_nil ?_
    go_wp2_with fail
    refine (right_any _ _ _ _ ps w5 (S5.out.next hb) (Nat.le_refl _)).mono ?_
    rintro r w6 ⟨he, b5⟩
    rw [RB.out] at he
    subst he
    go_wp2
    exact post_of (by rfl) (by rfl) b5 (by rfl)
  case q3 =>
    intro w5 hb
    repeat refine over_val rfl ?_
    refine over_nil ?_
    go_wp2_with fail
    refine (refRight_any _ _ _ _ ps w5 (S5.out.next hb) (Nat.le_refl _)).mono ?_
    rintro r w6 ⟨he, b5⟩
    rw [RB.out] at he
    subst he
    go_wp2
    exact post_of (by rfl) (by rfl) b5 (by rfl)
  case q8 =>
    intro w5 hb
    repeat refine over_val rfl ?_
    refine over_nil ?_
    go_wp2_with fail
    refine (same_any _ a _ b w5 (A5.out.next hb) (B5.out.next hb)).mono ?_
    rintro r w6 ⟨he, b5⟩
    rw [SB.out] at he
    subst he
    go_wp2
    exact post_of (by rfl) (by rfl) b5 (by rfl)
  case q11 =>
    intro w5 hb
    repeat refine over_val rfl ?_
    refine over_nil ?_
    go_wp2_with fail
    refine (refSame_any _ a _ b w5 (A5.out.next hb) (B5.out.next hb)).mono ?_
    rintro r w6 ⟨he, b5⟩
    rw [SB.out] at he
    subst he
    go_wp2
    exact post_of (by rfl) (by rfl) b5 (by rfl)
  case q16 =>
    intro w5 hb
    repeat refine over_val rfl ?_
    refine over_nil ?_
    go_wp2_with fail
    refine (copy_any _ a w5 (A5.out.next hb) XA.out XD.out).mono ?_
    rintro r w6 ⟨v6, rfl, o6, b5⟩
    go_wp2
    exact post_of (by rfl) (by rfl) b5 (by exact o6.reads)
  case q18 =>
    intro w5 hb
    repeat refine over_val rfl ?_
    refine over_pred rfl ?_
    intro v7 h7
    repeat refine over_val rfl ?_
    refine over_nil ?_
    go_wp2_with fail
    refine (refSame_any _ a _ a w5 h7 (A5.out.next hb)).mono ?_
    rintro r w6 ⟨he, b5⟩
    rw [sameB_refl] at he
    subst he
    go_wp2
    exact post_of (by rfl) (by rfl) b5 (by rfl)
  all_goals
    intro w5 hb
    repeat (first | refine over_val rfl ?_ | (refine over_pred rfl ?_; intro _ _))
    refine over_nil ?_
    obtain ⟨c0, c1, c2, c3, c4⟩ := ev_cells ((hb.block G1 z1).trans K1.out)
    obtain ⟨d0, d1, d2, d3, d4⟩ := ev_cells ((hb.block G2 z2).trans K2.out)
    go_wp2
    exact post_of (by rfl) (by rfl) (Below.refl _ _) (by first | rfl | (simp [Ty.holds, tyOf]; done))

end
end Go.Proofs.Ytaiaaglggkhjpaa
