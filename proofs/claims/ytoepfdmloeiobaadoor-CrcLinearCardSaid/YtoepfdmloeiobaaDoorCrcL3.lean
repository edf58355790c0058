/- Walk of CrcLinear. -/
import Derived.Test.YtoepfdmloeiobaaDoorCrcL2
import Derived.OwnWalk
import Derived.Laws.OwnMore
import Derived.StillTailTactics
import Derived.WalkLawsBesides
namespace Go.Proofs.YtoepfdmloeiobaaDoor
open Go.RowKit
set_option linter.unusedVariables false

theorem x3_length (a b c : List UInt8) (h1 : a.length = b.length) (h2 : a.length = c.length) : (x3 a b c).length = a.length := by
  induction a generalizing b c with
  | nil => simp [x3]
  | cons x a ih =>
    match b, c, h1, h2 with
    | y :: b, z :: c, h1, h2 => simp only [x3, List.length_cons]; rw [ih b c (by simpa using h1) (by simpa using h2)]
theorem x3_get (a b c : List UInt8) (h1 : a.length = b.length) (h2 : a.length = c.length) (j : Nat) (h : j < a.length) (h' : j < (x3 a b c).length) : (x3 a b c)[j] = a[j] ^^^ b[j]'(by omega) ^^^ c[j]'(by omega) := by
  induction a generalizing b c j with
  | nil => simp at h
  | cons x a ih =>
    match b, c, h1, h2 with
    | y :: b, z :: c, h1, h2 =>
      cases j with
      | zero => rfl
      | succ j => exact ih b c (by simpa using h1) (by simpa using h2) j (by simpa using h) (by simpa [x3] using h')
/-- A row that is filled from the front. -/
def part (l : List UInt8) (j : Nat) : List Value := (l.take j).map Bv ++ List.replicate (l.length - j) (.int .u8 0)
theorem part_zero (l : List UInt8) : part l 0 = (madeCells (Value.cells (.int .u8 0)) (l.length * 1)).toList := by
  simp only [part, List.take_zero, List.map_nil, List.nil_append, Nat.sub_zero, Nat.mul_one]
  apply List.ext_getElem (by simp [size_madeCells])
  intro i h1 h2
  simp [madeCells, Value.cells, Nat.mod_one]
theorem part_succ (l : List UInt8) (j : Nat) (h : j < l.length) : (part l j).set j (Bv l[j]) = part l (j + 1) := by
  unfold part
  rw [List.set_append_right _ _ (by simp; omega), List.take_succ_eq_append_getElem h, show l.length - j = (l.length - (j + 1)) + 1 from by omega, List.replicate_succ]
  simp only [List.length_map, List.length_take, Nat.min_eq_left (Nat.le_of_lt h), Nat.sub_self, List.set_cons_zero, List.map_append, List.map_cons, List.map_nil, List.append_assoc, List.singleton_append]
theorem part_all (l : List UInt8) : part l l.length = l.map Bv := by simp [part]

theorem stl {P : Program} {f : Nat} {args : Array Value} {w : World} {v : Value} (h : Calls P f args w fun e w' => e = .returned v ∧ w = w') : Calls P f args w fun e w' => e = .returned v ∧ w' = w := h.mono fun _ _ ⟨a, b⟩ => ⟨a, b.symm⟩
theorem run_min4 (ts : Array TypeId) (t : TypeId) (k : IntKind) (x y z : Nat) : ∃ m : Nat, m ≤ x ∧ m ≤ y ∧ m ≤ z ∧ m ≤ 200 ∧ ∀ w : World, (Builtin.min_ ts t #[.int k x, .int k y, .int k z, .int k 200]).run Tryd.prog w = .ok (.int k m) w := by
  refine ⟨min (min (min x y) z) 200, by omega, by omega, by omega, by omega, fun w => ?_⟩
  simp [Builtin.min_, Builtin.min2]
  repeat' split
  all_goals omega

theorem linear_any (A : Option Addr) (n c : Nat) (l : List UInt8) (A' : Option Addr) (n' c' : Nat) (t : List UInt8) (A2 : Option Addr) (n2 c2 : Nat) (u : List UInt8) (w : World) (h : Sl w w.heap.size A n c l) (h' : Sl w w.heap.size A' n' c' t) (h2 : Sl w w.heap.size A2 n2 c2 u) (hT : Tab w) :
    Calls Tryd.prog 5 #[.slice A n c, .slice A' n' c', .slice A2 n2 c2] w fun e w' => e = .returned (.bool true) ∧ Below w.heap.size w w' := by
  have hB := Below.refl w.heap.size w
  have HT : Hid (Tab w) := hT
  have m1 := h.max
  have m2 := h'.max
  have m3 := h2.max
  have k1 := h.cap
  have k2 := h'.cap
  have k3 := h2.cap
  unfold maxLen at m1 m2 m3
  obtain ⟨m, e1, e2, e3, e4, hmin⟩ := run_min4 #[3, 3, 3, 3] 3 .i64 n n' n2
  have HL : Hid (m ≤ l.length ∧ m ≤ t.length ∧ m ≤ u.length) := by
    have := sl_len h; have := sl_len h'; have := sl_len h2
    exact ⟨by omega, by omega, by omega⟩
  have f1 := h.upto (hi := m) (by omega)
  have f2 := h'.upto (hi := m) (by omega)
  have f3 := h2.upto (hi := m) (by omega)
  rw [← List.map_take] at f1 f2 f3
  have E : Env w [(A2, m, c2, (u.take m).map Bv), (A', m, c', (t.take m).map Bv), (A, m, c, (l.take m).map Bv)] := (((Env.nil w).add f1).add f2).add f3
  have g1 : (l.take m).length = m := by rw [List.length_take]; have := HL.out; omega
  have g2 : (t.take m).length = m := by rw [List.length_take]; have := HL.out; omega
  have g3 : (u.take m).length = m := by rw [List.length_take]; have := HL.out; omega
  have HX : Hid (csum (x3 (l.take m) (t.take m) (u.take m)) = csum (l.take m) ^^^ csum (t.take m) ^^^ csum (u.take m)) := csum_x3 _ _ _ (by omega) (by omega)
  have HG : Hid (∀ j, j < m → ∃ a b c d, (l.take m)[j]? = some a ∧ (t.take m)[j]? = some b ∧ (u.take m)[j]? = some c ∧ (x3 (l.take m) (t.take m) (u.take m))[j]? = some d ∧ d = a ^^^ b ^^^ c) := fun j hj => by
    have q := x3_length (l.take m) (t.take m) (u.take m) (by omega) (by omega)
    refine ⟨_, _, _, _, List.getElem?_eq_getElem (by omega), List.getElem?_eq_getElem (by omega), List.getElem?_eq_getElem (by omega), List.getElem?_eq_getElem (by omega), ?_⟩
    exact x3_get _ _ _ (by omega) (by omega) j (by omega) (by omega)
  have HN : Hid ((x3 (l.take m) (t.take m) (u.take m)).length = m) := (x3_length (l.take m) (t.take m) (u.take m) (by omega) (by omega)).trans g1
  have hc1 := csum_le (l.take m)
  have hc2 := csum_le (t.take m)
  have hc3 := csum_le (u.take m)
  clear h h' h2 hT f1 f2 f3 g1 g2 g3 HL
  generalize l.take m = l at *
  generalize t.take m = t at *
  generalize u.take m = u at *
  generalize x3 l t u = xx at *
  have m0 : 0 ≤ (m : Int) := by omega
  have m9 : (m : Int) ≤ 200 := by omega
  have q1 : (m : Int) ≤ c := by omega
  have q2 : (m : Int) ≤ c' := by omega
  have q3 : (m : Int) ≤ c2 := by omega
  obtain ⟨i0, hi, hz0, hz1, hz2⟩ := info_parts infoU8
  go_enter Tryd.func5, Tryd.ntmps5
  go_wp2_with (at_make; go_must (refine wpList_make_full _ rfl _ _ 23 rfl w.heap.size 5 i0 (.int .u8 0) 1 Tryd.underlying23 hi hz0 hz1 .i64 .i64 _ _ m rfl rfl rfl rfl (by rw [hz2]; omega) (by unfold maxLen; omega) (Nat.le_refl _) ?_); intro w1 o1 g1; have b1 := (Below.refl w.heap.size w).grown g1 (Nat.le_refl _) (by simp))
  clear g1
  have HP0 : part xx 0 = (madeCells (Value.cells (.int .u8 0)) (m * 1)).toList := by rw [part_zero, HN.out]
  rw [← HP0] at o1
  clear HP0 hB hmin
  have HE : Hid (Env w [(A2, m, c2, u.map Bv), (A', m, c', t.map Bv), (A, m, c, l.map Bv)]) := E
  clear E
  go_loopw [21] (fun i wr => ∃ j : Nat, j ≤ m ∧ i = .int .i64 j ∧ Own wr w.heap.size 5 (some ⟨w.heap.size, 0, none⟩) m m (part xx j) ∧ Below w.heap.size w wr) (fun i _ => m - (intOf i).toNat)
  case atStart => exact ⟨0, Nat.zero_le _, rfl, o1, b1⟩
  case round =>
    obtain ⟨j, hj, rfl, o2, b2⟩ := hrel
    clear o1 b1
    by_cases hlt : j < m
    · obtain ⟨a, b, cc, d, ha, hb, hcc, hd, hx⟩ := HG.out j hlt
      have E2 := HE.out.next b2
      obtain ⟨bA, oA, rfl, _, hA⟩ := E2.tl.tl.hd.at_ (by omega)
      obtain ⟨bB, oB, rfl, _, hB⟩ := E2.tl.hd.at_ (by omega)
      obtain ⟨bC, oC, rfl, _, hC⟩ := E2.hd.at_ (by omega)
      have cA : wr.cell? ⟨bA, oA + j, none⟩ = some (.int .u8 (a.toNat : Nat)) := hA j _ (by rw [List.getElem?_map, ha]; rfl)
      have cB : wr.cell? ⟨bB, oB + j, none⟩ = some (.int .u8 (b.toNat : Nat)) := hB j _ (by rw [List.getElem?_map, hb]; rfl)
      have cC : wr.cell? ⟨bC, oC + j, none⟩ = some (.int .u8 (cc.toNat : Nat)) := hC j _ (by rw [List.getElem?_map, hcc]; rfl)
      have o3 := o2.stored j (Bv d)
      have b3 := b2.setCell (p := ⟨w.heap.size, j, none⟩) (Nat.le_refl _) (Bv d)
      have hjx : j < xx.length := by rw [HN.out]; exact hlt
      have hdx : d = xx[j] := by rw [List.getElem?_eq_getElem hjx] at hd; injection hd with hd; exact hd.symm
      have p3 := part_succ xx j hjx
      rw [← hdx] at p3
      rw [p3] at o3
      have x1 : bits .xor .u8 (a.toNat : Int) (b.toNat : Int) = ((a.toNat ^^^ b.toNat : Nat) : Int) := u8_xor_nat _ _ a.toNat_lt b.toNat_lt
      have x2 : bits .xor .u8 ((a.toNat ^^^ b.toNat : Nat) : Int) (cc.toNat : Int) = (d.toNat : Int) := by
        rw [u8_xor_nat _ _ (Nat.xor_lt_two_pow (n := 8) a.toNat_lt b.toNat_lt) cc.toNat_lt, hx, UInt8.toNat_xor, UInt8.toNat_xor]
      have HO : Hid (Own (wr.setCell ⟨w.heap.size, j, none⟩ (Bv d)) w.heap.size 5 (some ⟨w.heap.size, 0, none⟩) m m (part xx (j + 1))) := o3.1
      have HB : Hid (Below w.heap.size w (wr.setCell ⟨w.heap.size, j, none⟩ (Bv d))) := b3
      obtain ⟨cur, hg, hjc⟩ : ∃ cur : Array Value, wr.heap[w.heap.size]? = some (.cells cur 5 (0, 0)) ∧ j < cur.size := by
        obtain ⟨_, ⟨hv, h0⟩ | ⟨g, cap, cur, hv, _, hg, _, _, hcs, _⟩⟩ := o2
        · omega
        · injection hv with e1 e2 e3
          injection e1 with e1
          injection e1 with e1
          subst e1
          exact ⟨cur, hg, by omega⟩
      have cD : ∃ v, wr.cell? ⟨w.heap.size, j, none⟩ = some v := ⟨_, by rw [cell_of_row wr _ j cur 5 (0, 0) hg, Array.getElem?_eq_getElem hjc]⟩
      obtain ⟨v, cD⟩ := cD
      have fD : wr.frozen? ⟨w.heap.size, j, none⟩ = false := by simp [World.frozen?, hg]
      clear hA hB hC E2 o2 b2 o3 b3 hd hdx p3 hg ha hb hcc hx hjx hjc HG HX HN
      go_wp2
      go_region
      go_wp2
      go_roundw
      case rel => exact ⟨j + 1, by omega, by go_num, HO.out, HB.out.drew⟩
      case measure => simp [intOf]; omega
    · obtain rfl : j = m := by omega
      have HS : Hid (part xx j = xx.map Bv) := by unfold Hid; rw [← HN.out, part_all]
      rw [HS.out] at o2
      have s2 := o2.sv
      have E2 : Hid (Env wr [(A2, j, c2, u.map Bv), (A', j, c', t.map Bv), (A, j, c, l.map Bv)]) := HE.out.next b2
      have hT2 : Hid (Tab wr) := HT.out.next b2
      have x1 : bits .xor .u32 ((csum l : Nat) : Int) ((csum t : Nat) : Int) = ((csum l ^^^ csum t : Nat) : Int) := u32_xor_nat _ _ (by omega) (by omega)
      have x2 : bits .xor .u32 ((csum l ^^^ csum t : Nat) : Int) ((csum u : Nat) : Int) = ((csum xx : Nat) : Int) := by
        rw [u32_xor_nat _ _ (Nat.xor_lt_two_pow (n := 32) (by omega) (by omega)) (by omega), HX.out]
      clear HE HT HX HN HG HS o2 hi hz0 hz1 hz2
      go_wp2
      refine wp_region_still_tail 18 (by kernel_rfl) (by kernel_rfl) ?_
      change wpStill _ _ wr.drew _ _ _
      simp only [List.take_succ_cons, List.take_zero, List.drop_succ_cons, List.drop_zero]
      repeat still_step
      still_call (stl (sum_of _ _ _ _ xx _ wr.drew s2.drew hT2.out rfl rfl))
      repeat still_step
      still_call (stl (sum_of _ _ _ _ l _ wr.drew (E2.out.of (by repeat (first | exact List.Mem.head _ | apply List.Mem.tail))).drew hT2.out rfl rfl))
      repeat still_step
      still_call (stl (sum_of _ _ _ _ t _ wr.drew (E2.out.of (by repeat (first | exact List.Mem.head _ | apply List.Mem.tail))).drew hT2.out rfl rfl))
      repeat still_step
      still_call (stl (sum_of _ _ _ _ u _ wr.drew (E2.out.of (by repeat (first | exact List.Mem.head _ | apply List.Mem.tail))).drew hT2.out rfl rfl))
      repeat still_step
      refine wpStill_nil ?_
      change wpList _ _ _ _ _ wr.drew
      have hT3 : Hid (Tab wr.drew) := hT2.out
      have b3 : Below w.heap.size w wr.drew := b2.drew
      generalize wr.drew = w2 at *
      go_wp2_with (go_at_call 7; go_must (refine (awake_any _ hT3.out).mono ?_); rintro e w3 ⟨rfl, b4⟩)
      go_ret
      exact ⟨rfl, b3.trans (b4.mono b3.size)⟩
end Go.Proofs.YtoepfdmloeiobaaDoor
