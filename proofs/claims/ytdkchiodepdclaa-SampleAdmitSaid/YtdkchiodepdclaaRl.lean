/- Layer 9 and on: grapevinelow: Spans, Desc, Descs. -/
import Derived.Test.YtdkchiodepdclaaRw
import Derived.BigQuiet
import Derived.BigCall
namespace Go.Proofs.Ytdkchiodepdclaa
open Go.RowKit
set_option linter.unusedVariables false
theorem ret_bool {a b : Bool} (h : a = b) : Ending.returned (.bool a) = .returned (.bool b) := by rw [h]
theorem sneq_run (p q : Int × Int) (w : World) : (binOp .neq 52 (.agg #[.int .i32 p.1, .int .i32 p.2]) (.agg #[.int .i32 q.1, .int .i32 q.2])).run Try.prog w = .ok (.bool (!decide (p = q))) w := by
  have e : decide (p = q) = decide (p.1 = q.1 ∧ p.2 = q.2) := by
    rw [decide_eq_decide]; exact ⟨fun h => by rw [h]; exact ⟨rfl, rfl⟩, fun h => Prod.ext h.1 h.2⟩
  rw [e]
  by_cases h1 : p.1 = q.1
  · by_cases h2 : p.2 = q.2
    · simp [go_sem, h1, h2]
    · simp [go_sem, h1, h2]
  · simp [go_sem, h1]
theorem sp_cellsH {w : World} {A : Option Addr} {n c : Nat} {ps : List (Int × Int)} (h : Sp w w.heap.size A n c ps) {j : Nat} (hj : j < n) :
    ∃ b off p, A = some ⟨b, off, none⟩ ∧ ps[j]? = some p ∧ Hid (∀ w', Below w.heap.size w w' → w'.cell? ⟨b, off + j * 2, none⟩ = some (.int .i32 p.1) ∧ w'.cell? ⟨b, off + j * 2 + 1, none⟩ = some (.int .i32 p.2)) := by
  obtain ⟨b, off, p, rfl, hb, hp, c0, c1⟩ := sp_at h hj
  exact ⟨b, off, p, rfl, hp, fun w' hw => ⟨(hw.cell (p := ⟨b, off + j * 2, none⟩) hb).trans c0, (hw.cell (p := ⟨b, off + j * 2 + 1, none⟩) hb).trans c1⟩⟩
theorem spans_any (A : Option Addr) (n c : Nat) (es : List (Int × Int)) (A' : Option Addr) (n' c' : Nat) (bs : List (Int × Int)) (w : World) (h : Sp w w.heap.size A n c es) (h' : Sp w w.heap.size A' n' c' bs) :
    Calls Try.prog 39 #[.slice A n c, .slice A' n' c'] w fun e w' => e = .returned (.bool (decide (es = bs))) ∧ Below w.heap.size w w' := by
  have HL : Hid (n = es.length) := sp_len h
  have HL' : Hid (n' = bs.length) := sp_len h'
  have hm := h.max
  have hc := h.cap
  have hm' := h'.max
  have hc' := h'.cap
  unfold maxLen at hm hm'
  have HS := Lib.hid h
  have HS' := Lib.hid h'
  clear h h'
  by_cases hn : n = n'
  · subst hn
    go_enter Try.func39, Try.ntmps39
    go_wp2
    go_loopw [13] (fun i wr => ∃ j : Nat, j ≤ n ∧ i = .int .i64 j ∧ Hid (es.take j = bs.take j) ∧ Below w.heap.size w wr) (fun i _ => n - (intOf i).toNat)
    case atStart => exact ⟨0, Nat.zero_le _, rfl, rfl, Below.refl _ _⟩
    case round =>
      obtain ⟨j, hj, rfl, HT, b1⟩ := hrel
      have i0 : (0 : Int) ≤ (j : Int) := by omega
      by_cases hlt : j < n
      · obtain ⟨b, off, p, rfl, hp, HC⟩ := sp_cellsH (HS.out.next b1) hlt
        obtain ⟨b', off', q, rfl, hq, HC'⟩ := sp_cellsH (HS'.out.next b1) hlt
        have HP := Lib.hid hp
        have HQ := Lib.hid hq
        have i1 : (j : Int) < (n : Int) := by omega
        obtain ⟨c1, c2⟩ := HC.out wr (Below.refl _ _)
        obtain ⟨c3, c4⟩ := HC'.out wr (Below.refl _ _)
        clear hp hq
        by_cases hpq : p = q
        · have heq := fun w' : World => (sneq_run p q w').trans (by rw [decide_eq_true hpq])
          simp only [Bool.not_true] at heq
          have HPQ := Lib.hid hpq
          clear hpq
          go_wp2
          go_quiet (fail)
          have b2 := dN b1 nq
          generalize wr.drewN nq = w2 at *
          go_wp2
          go_roundw
          case rel =>
            refine ⟨j + 1, by omega, by go_num, ?_, b2⟩
            unfold Hid
            rw [List.take_add_one, List.take_add_one, HP.out, HQ.out, HT.out, HPQ.out]
          case measure => simp [intOf]; omega
        · have heq := fun w' : World => (sneq_run p q w').trans (by rw [decide_eq_false hpq])
          simp only [Bool.not_false] at heq
          have HPQ := Lib.hid hpq
          clear hpq
          go_wp2
          go_quiet (fail)
          have b2 := dN b1 nq
          generalize wr.drewN nq = w2 at *
          go_wp2
          go_ret
          refine ⟨ret_bool (Eq.symm (decide_eq_false fun e => ?_)), b2⟩
          have h1 := HP.out
          rw [e] at h1
          exact HPQ.out (Option.some.inj (h1.symm.trans HQ.out))
      · obtain rfl : j = n := by omega
        go_wp2
        go_ret
        refine ⟨ret_bool (Eq.symm (decide_eq_true ?_)), b1⟩
        have := HT.out
        rwa [HL.out, List.take_length, ← HL.out, HL'.out, List.take_length] at this
  · go_enter Try.func39, Try.ntmps39
    go_wp2
    go_ret
    refine ⟨ret_bool (Eq.symm (decide_eq_false fun e => hn ?_)), Below.refl _ _⟩
    rw [HL.out, HL'.out, e]
theorem dboxes2 (w : World) (x y : Dsc × Hd) : Hid (DBlk ((w.alloc (.cells #[.int .u8 x.1.1, .int .u16 x.1.2.1, .int .u8 x.1.2.2.1, .slice x.2.1 x.2.2.1 x.2.2.2] 27)).alloc (.cells #[.int .u8 y.1.1, .int .u16 y.1.2.1, .int .u8 y.1.2.2.1, .slice y.2.1 y.2.2.1 y.2.2.2] 27)) w.heap.size x.1 x.2) ∧ Hid (DBlk ((w.alloc (.cells #[.int .u8 x.1.1, .int .u16 x.1.2.1, .int .u8 x.1.2.2.1, .slice x.2.1 x.2.2.1 x.2.2.2] 27)).alloc (.cells #[.int .u8 y.1.1, .int .u16 y.1.2.1, .int .u8 y.1.2.2.1, .slice y.2.1 y.2.2.1 y.2.2.2] 27)) (w.heap.size + 1) y.1 y.2) ∧
    Hid (Below w.heap.size w ((w.alloc (.cells #[.int .u8 x.1.1, .int .u16 x.1.2.1, .int .u8 x.1.2.2.1, .slice x.2.1 x.2.2.1 x.2.2.2] 27)).alloc (.cells #[.int .u8 y.1.1, .int .u16 y.1.2.1, .int .u8 y.1.2.2.1, .slice y.2.1 y.2.2.1 y.2.2.2] 27))) := by
  unfold Hid
  refine ⟨(DBlk.new w x.1 x.2).next (below_lit _ _), ?_, thn (below_lit _ _) (below_lit _ _)⟩
  have := DBlk.new (w.alloc (.cells #[.int .u8 x.1.1, .int .u16 x.1.2.1, .int .u8 x.1.2.2.1, .slice x.2.1 x.2.2.1 x.2.2.2] 27)) y.1 y.2; simpa using this
theorem dsc_eq (d e : Dsc) : decide (d = e) = (decide (d.1 = e.1) && (decide (d.2.1 = e.2.1) && (decide (d.2.2.1 = e.2.2.1) && decide (d.2.2.2 = e.2.2.2)))) := by
  rw [Bool.eq_iff_iff]
  simp only [Bool.and_eq_true, decide_eq_true_eq]
  exact ⟨fun h => by rw [h]; exact ⟨rfl, rfl, rfl, rfl⟩, fun ⟨h1, h2, h3, h4⟩ => Prod.ext h1 (Prod.ext h2 (Prod.ext h3 h4))⟩
theorem desc_any (x y : Dsc × Hd) (w : World) (hx : Fl w x) (hy : Fl w y) : Calls Try.prog 29 #[(.agg #[.int .u8 x.1.1, .int .u16 x.1.2.1, .int .u8 x.1.2.2.1, .slice x.2.1 x.2.2.1 x.2.2.2]), (.agg #[.int .u8 y.1.1, .int .u16 y.1.2.1, .int .u8 y.1.2.2.1, .slice y.2.1 y.2.2.1 y.2.2.2])] w fun e w' => e = .returned (.bool (decide (x.1 = y.1))) ∧ Below w.heap.size w w' := by
  obtain ⟨KX, KY, B⟩ := dboxes2 w x y
  have hc := spans_any x.2.1 x.2.2.1 x.2.2.2 x.1.2.2.2 y.2.1 y.2.2.1 y.2.2.2 y.1.2.2.2 ((w.alloc (.cells #[.int .u8 x.1.1, .int .u16 x.1.2.1, .int .u8 x.1.2.2.1, .slice x.2.1 x.2.2.1 x.2.2.2] 27)).alloc (.cells #[.int .u8 y.1.1, .int .u16 y.1.2.1, .int .u8 y.1.2.2.1, .slice y.2.1 y.2.2.1 y.2.2.2] 27)) (Sn.next (Sn.next hx (below_lit _ _)) (below_lit _ _)) (Sn.next (Sn.next hy (below_lit _ _)) (below_lit _ _))
  have HE := Lib.hid (dsc_eq x.1 y.1)
  rw [HE.out]
  clear HE hx hy
  by_cases h0 : x.1.1 = y.1.1
  rotate_left
  · rw [decide_eq_false h0]
    have h0b : (x.1.1 == y.1.1) = false := by simpa using h0
    clear h0
    go_enter Try.func29, Try.ntmps29
    go_wp2
    go_ret
    exact ⟨ret_bool (by simp), B.out⟩
  · rw [decide_eq_true h0]
    have h0b : (x.1.1 == y.1.1) = true := by simpa using h0
    clear h0
    by_cases h1 : x.1.2.1 = y.1.2.1
    rotate_left
    · rw [decide_eq_false h1]
      have h1b : (x.1.2.1 == y.1.2.1) = false := by simpa using h1
      clear h1
      go_enter Try.func29, Try.ntmps29
      go_wp2
      go_ret
      exact ⟨ret_bool (by simp), B.out⟩
    · rw [decide_eq_true h1]
      have h1b : (x.1.2.1 == y.1.2.1) = true := by simpa using h1
      clear h1
      by_cases h2 : x.1.2.2.1 = y.1.2.2.1
      rotate_left
      · rw [decide_eq_false h2]
        have h2b : (x.1.2.2.1 == y.1.2.2.1) = false := by simpa using h2
        clear h2
        go_enter Try.func29, Try.ntmps29
        go_wp2
        go_ret
        exact ⟨ret_bool (by simp), B.out⟩
      · rw [decide_eq_true h2]
        have h2b : (x.1.2.2.1 == y.1.2.2.1) = true := by simpa using h2
        clear h2
        obtain ⟨q, HQ⟩ : ∃ q, Hid (decide (x.1.2.2.2 = y.1.2.2.2) = q) := ⟨_, rfl⟩
        rw [HQ.out] at hc ⊢
        go_enter Try.func29, Try.ntmps29
        go_wp2_with fail
        refine hc.mono ?_
        rintro e w2 ⟨rfl, b5⟩
        go_wp2
        go_ret
        exact ⟨ret_bool (by simp), thn B.out b5⟩
theorem map_take_eq {xs ys : List (Dsc × Hd)} {j : Nat} {x y : Dsc × Hd} (hx : xs[j]? = some x) (hy : ys[j]? = some y) (h : (xs.take j).map (·.1) = (ys.take j).map (·.1)) (e : x.1 = y.1) : (xs.take (j + 1)).map (·.1) = (ys.take (j + 1)).map (·.1) := by
  rw [List.take_add_one, List.take_add_one, hx, hy]
  simp [h, e]
set_option maxHeartbeats 1000000 in
theorem descs_any (A : Option Addr) (n c : Nat) (xs : List (Dsc × Hd)) (A' : Option Addr) (n' c' : Nat) (ys : List (Dsc × Hd)) (w : World) (h : Sds w A n c xs) (h' : Sds w A' n' c' ys) :
    Calls Try.prog 17 #[.slice A n c, .slice A' n' c'] w fun e w' => e = .returned (.bool (decide (xs.map (·.1) = ys.map (·.1)))) ∧ Below w.heap.size w w' := by
  have HL : Hid (n = xs.length) := h.len
  have HL' : Hid (n' = ys.length) := h'.len
  have hm := h.max
  have hc := h.cap
  have hm' := h'.max
  have hc' := h'.cap
  unfold maxLen at hm hm'
  have HS := Lib.hid h
  have HS' := Lib.hid h'
  clear h h'
  by_cases hn : n = n'
  rotate_left
  · go_enter Try.func17, Try.ntmps17
    go_wp2
    go_ret
    refine ⟨ret_bool (Eq.symm (decide_eq_false fun e => hn ?_)), Below.refl _ _⟩
    have := congrArg List.length e
    simp only [List.length_map] at this
    rw [HL.out, HL'.out, this]
  · subst hn
    go_enter Try.func17, Try.ntmps17
    go_wp2
    go_loopw [13] (fun i wr => ∃ j : Nat, j ≤ n ∧ i = .int .i64 j ∧ Hid ((xs.take j).map (·.1) = (ys.take j).map (·.1)) ∧ Hid (Below w.heap.size w wr)) (fun i _ => n - (intOf i).toNat)
    case atStart => exact ⟨0, Nat.zero_le _, rfl, rfl, Below.refl _ _⟩
    case round =>
      obtain ⟨j, hj, rfl, HE, B⟩ := hrel
      have i0 : (0 : Int) ≤ (j : Int) := by omega
      by_cases hlt : j < n
      rotate_left
      · obtain rfl : j = n := by omega
        go_wp2
        go_ret
        refine ⟨ret_bool (Eq.symm (decide_eq_true ?_)), B.out⟩
        have := HE.out
        rwa [HL.out, List.take_length, ← HL.out, HL'.out, List.take_length] at this
      · have SX := Lib.hid (HS.out.next B.out)
        have SY := Lib.hid (HS'.out.next B.out)
        obtain ⟨b, off, x, rfl, hx, hxm, HC⟩ := SX.out.cells hlt
        obtain ⟨b', off', y, rfl, hy, hym, HC'⟩ := SY.out.cells hlt
        have HX := Lib.hid hx
        have HY := Lib.hid hy
        have FX := Lib.hid (SX.out.fl x hxm)
        have FY := Lib.hid (SY.out.fl y hym)
        have i1 : (j : Int) < (n : Int) := by omega
        clear hx hy hxm hym
        cases hq : decide (x.1 = y.1) with
        | false =>
          have HQ := Lib.hid hq
          clear hq
          go_wp2
          refine wp_region_typed 9 [(16, .val (.slice (some ⟨b, off, none⟩) n c)), (17, .val (.int .i64 (j : Int))), (18, .val (.pointer (some ⟨b, off + j * 4, none⟩))), (19, .val (.agg #[.int .u8 x.1.1, .int .u16 x.1.2.1, .int .u8 x.1.2.2.1, .slice x.2.1 x.2.2.1 x.2.2.2])), (20, .val (.slice (some ⟨b', off', none⟩) n c')), (21, .val (.int .i64 (j : Int))), (22, .val (.pointer (some ⟨b', off' + j * 4, none⟩))), (23, .val (.agg #[.int .u8 y.1.1, .int .u16 y.1.2.1, .int .u8 y.1.2.2.1, .slice y.2.1 y.2.2.1 y.2.2.2])), (24, .val (.bool false))]
            [[], [], [16, 17], [18], [], [], [20, 21], [22], [19, 23]] (by kernel_rfl) (by kernel_rfl) ?_ ?_
          rotate_left
          · intro v1 hb
            simp only [List.take_succ_cons, List.take_zero, List.drop_succ_cons, List.drop_zero]
            refine over_ds (ds := [16, 17, 18, 19, 20, 21, 22, 23, 24]) (by kernel_rfl) ?_
            refine over_some (ds1 := [16, 17, 18, 19, 20, 21, 22, 23, 24]) (ds2 := []) [(.slice (some ⟨b, off, none⟩) n c), (.int .i64 (j : Int)), (.pointer (some ⟨b, off + j * 4, none⟩)), (.agg #[.int .u8 x.1.1, .int .u16 x.1.2.1, .int .u8 x.1.2.2.1, .slice x.2.1 x.2.2.1 x.2.2.2]), (.slice (some ⟨b', off', none⟩) n c'), (.int .i64 (j : Int)), (.pointer (some ⟨b', off' + j * 4, none⟩)), (.agg #[.int .u8 y.1.1, .int .u16 y.1.2.1, .int .u8 y.1.2.2.1, .slice y.2.1 y.2.2.1 y.2.2.2]), (.bool false)] (by kernel_rfl) ?_
            refine over_nil ?_
            simp only [putAll, put_lit, List.set_cons_succ, List.set_cons_zero]
            replace B := Lib.hid (thn B.out hb)
            clear hb
            go_wp2
            go_ret
            refine ⟨ret_bool (Eq.symm (decide_eq_false fun e => ?_)), B.out⟩
            have h1 : (xs.map (·.1))[j]? = some x.1 := by rw [List.getElem?_map, HX.out]; rfl
            have h2 : (ys.map (·.1))[j]? = some y.1 := by rw [List.getElem?_map, HY.out]; rfl
            rw [e, h2] at h1
            exact of_decide_eq_false HQ.out (Option.some.inj h1).symm
          simp only [List.take_succ_cons, List.take_zero]
          refine ⟨?r6g0, ?r6g1, ?r6g2, ?r6g3, ?r6g4, ?r6g5, ?r6g6, ?r6g7, ?r6g8, trivial⟩
          case r6g0 =>
            intro w9 hb
            refine over_nil ?_
            go_wp2
            first | exact post_of (by rfl) (by rfl) (Below.refl _ _) (by rfl) | exact rfl
          case r6g1 =>
            intro w9 hb
            refine over_nil ?_
            go_wp2
            first | exact post_of (by rfl) (by rfl) (Below.refl _ _) (by rfl) | exact rfl
          case r6g2 =>
            intro w9 hb
            refine over_some (ds1 := [16, 17]) (ds2 := []) [(.slice (some ⟨b, off, none⟩) n c), (.int .i64 (j : Int))] (by kernel_rfl) ?_
            refine over_nil ?_
            simp only [putAll, put_lit, List.set_cons_succ, List.set_cons_zero]
            go_wp2
            first | exact post_of (by rfl) (by rfl) (Below.refl _ _) (by rfl) | exact rfl
          case r6g3 =>
            intro w9 hb
            refine over_some (ds1 := [18]) (ds2 := []) [(.pointer (some ⟨b, off + j * 4, none⟩))] (by kernel_rfl) ?_
            refine over_nil ?_
            simp only [putAll, put_lit, List.set_cons_succ, List.set_cons_zero]
            obtain ⟨p0, q0, r0, s0⟩ := HC.out w9 hb
            go_wp2
            first | exact post_of (by rfl) (by rfl) (Below.refl _ _) (by rfl) | exact rfl
          case r6g4 =>
            intro w9 hb
            refine over_nil ?_
            go_wp2
            first | exact post_of (by rfl) (by rfl) (Below.refl _ _) (by rfl) | exact rfl
          case r6g5 =>
            intro w9 hb
            refine over_nil ?_
            go_wp2
            first | exact post_of (by rfl) (by rfl) (Below.refl _ _) (by rfl) | exact rfl
          case r6g6 =>
            intro w9 hb
            refine over_some (ds1 := [20, 21]) (ds2 := []) [(.slice (some ⟨b', off', none⟩) n c'), (.int .i64 (j : Int))] (by kernel_rfl) ?_
            refine over_nil ?_
            simp only [putAll, put_lit, List.set_cons_succ, List.set_cons_zero]
            go_wp2
            first | exact post_of (by rfl) (by rfl) (Below.refl _ _) (by rfl) | exact rfl
          case r6g7 =>
            intro w9 hb
            refine over_some (ds1 := [22]) (ds2 := []) [(.pointer (some ⟨b', off' + j * 4, none⟩))] (by kernel_rfl) ?_
            refine over_nil ?_
            simp only [putAll, put_lit, List.set_cons_succ, List.set_cons_zero]
            obtain ⟨p0, q0, r0, s0⟩ := HC'.out w9 hb
            go_wp2
            first | exact post_of (by rfl) (by rfl) (Below.refl _ _) (by rfl) | exact rfl
          case r6g8 =>
            intro w9 hb
            refine over_some (ds1 := [19, 23]) (ds2 := []) [(.agg #[.int .u8 x.1.1, .int .u16 x.1.2.1, .int .u8 x.1.2.2.1, .slice x.2.1 x.2.2.1 x.2.2.2]), (.agg #[.int .u8 y.1.1, .int .u16 y.1.2.1, .int .u8 y.1.2.2.1, .slice y.2.1 y.2.2.1 y.2.2.2])] (by kernel_rfl) ?_
            refine over_nil ?_
            simp only [putAll, put_lit, List.set_cons_succ, List.set_cons_zero]
            go_wp2_with fail
            have hc2 := desc_any x y w9 (Sn.next FX.out hb) (Sn.next FY.out hb)
            rw [HQ.out] at hc2
            refine hc2.mono ?_
            clear hc2
            rintro e w8 ⟨rfl, b6⟩
            go_wp2
            exact post_of (by rfl) (by rfl) b6 (by rfl)
        | true =>
          have HQ := Lib.hid hq
          clear hq
          go_wp2
          refine wp_region_typed 9 [(16, .val (.slice (some ⟨b, off, none⟩) n c)), (17, .val (.int .i64 (j : Int))), (18, .val (.pointer (some ⟨b, off + j * 4, none⟩))), (19, .val (.agg #[.int .u8 x.1.1, .int .u16 x.1.2.1, .int .u8 x.1.2.2.1, .slice x.2.1 x.2.2.1 x.2.2.2])), (20, .val (.slice (some ⟨b', off', none⟩) n c')), (21, .val (.int .i64 (j : Int))), (22, .val (.pointer (some ⟨b', off' + j * 4, none⟩))), (23, .val (.agg #[.int .u8 y.1.1, .int .u16 y.1.2.1, .int .u8 y.1.2.2.1, .slice y.2.1 y.2.2.1 y.2.2.2])), (24, .val (.bool true))]
            [[], [], [16, 17], [18], [], [], [20, 21], [22], [19, 23]] (by kernel_rfl) (by kernel_rfl) ?_ ?_
          rotate_left
          · intro v1 hb
            simp only [List.take_succ_cons, List.take_zero, List.drop_succ_cons, List.drop_zero]
            refine over_ds (ds := [16, 17, 18, 19, 20, 21, 22, 23, 24]) (by kernel_rfl) ?_
            refine over_some (ds1 := [16, 17, 18, 19, 20, 21, 22, 23, 24]) (ds2 := []) [(.slice (some ⟨b, off, none⟩) n c), (.int .i64 (j : Int)), (.pointer (some ⟨b, off + j * 4, none⟩)), (.agg #[.int .u8 x.1.1, .int .u16 x.1.2.1, .int .u8 x.1.2.2.1, .slice x.2.1 x.2.2.1 x.2.2.2]), (.slice (some ⟨b', off', none⟩) n c'), (.int .i64 (j : Int)), (.pointer (some ⟨b', off' + j * 4, none⟩)), (.agg #[.int .u8 y.1.1, .int .u16 y.1.2.1, .int .u8 y.1.2.2.1, .slice y.2.1 y.2.2.1 y.2.2.2]), (.bool true)] (by kernel_rfl) ?_
            refine over_nil ?_
            simp only [putAll, put_lit, List.set_cons_succ, List.set_cons_zero]
            replace B := Lib.hid (thn B.out hb)
            clear hb
            go_wp2
            go_roundw
            case rel => exact ⟨j + 1, by omega, by go_num, map_take_eq HX.out HY.out HE.out (of_decide_eq_true HQ.out), B⟩
            case measure => simp [intOf]; omega
          simp only [List.take_succ_cons, List.take_zero]
          refine ⟨?r6g0, ?r6g1, ?r6g2, ?r6g3, ?r6g4, ?r6g5, ?r6g6, ?r6g7, ?r6g8, trivial⟩
          case r6g0 =>
            intro w9 hb
            refine over_nil ?_
            go_wp2
            first | exact post_of (by rfl) (by rfl) (Below.refl _ _) (by rfl) | exact rfl
          case r6g1 =>
            intro w9 hb
            refine over_nil ?_
            go_wp2
            first | exact post_of (by rfl) (by rfl) (Below.refl _ _) (by rfl) | exact rfl
          case r6g2 =>
            intro w9 hb
            refine over_some (ds1 := [16, 17]) (ds2 := []) [(.slice (some ⟨b, off, none⟩) n c), (.int .i64 (j : Int))] (by kernel_rfl) ?_
            refine over_nil ?_
            simp only [putAll, put_lit, List.set_cons_succ, List.set_cons_zero]
            go_wp2
            first | exact post_of (by rfl) (by rfl) (Below.refl _ _) (by rfl) | exact rfl
          case r6g3 =>
            intro w9 hb
            refine over_some (ds1 := [18]) (ds2 := []) [(.pointer (some ⟨b, off + j * 4, none⟩))] (by kernel_rfl) ?_
            refine over_nil ?_
            simp only [putAll, put_lit, List.set_cons_succ, List.set_cons_zero]
            obtain ⟨p0, q0, r0, s0⟩ := HC.out w9 hb
            go_wp2
            first | exact post_of (by rfl) (by rfl) (Below.refl _ _) (by rfl) | exact rfl
          case r6g4 =>
            intro w9 hb
            refine over_nil ?_
            go_wp2
            first | exact post_of (by rfl) (by rfl) (Below.refl _ _) (by rfl) | exact rfl
          case r6g5 =>
            intro w9 hb
            refine over_nil ?_
            go_wp2
            first | exact post_of (by rfl) (by rfl) (Below.refl _ _) (by rfl) | exact rfl
          case r6g6 =>
            intro w9 hb
            refine over_some (ds1 := [20, 21]) (ds2 := []) [(.slice (some ⟨b', off', none⟩) n c'), (.int .i64 (j : Int))] (by kernel_rfl) ?_
            refine over_nil ?_
            simp only [putAll, put_lit, List.set_cons_succ, List.set_cons_zero]
            go_wp2
            first | exact post_of (by rfl) (by rfl) (Below.refl _ _) (by rfl) | exact rfl
          case r6g7 =>
            intro w9 hb
            refine over_some (ds1 := [22]) (ds2 := []) [(.pointer (some ⟨b', off' + j * 4, none⟩))] (by kernel_rfl) ?_
            refine over_nil ?_
            simp only [putAll, put_lit, List.set_cons_succ, List.set_cons_zero]
            obtain ⟨p0, q0, r0, s0⟩ := HC'.out w9 hb
            go_wp2
            first | exact post_of (by rfl) (by rfl) (Below.refl _ _) (by rfl) | exact rfl
          case r6g8 =>
            intro w9 hb
            refine over_some (ds1 := [19, 23]) (ds2 := []) [(.agg #[.int .u8 x.1.1, .int .u16 x.1.2.1, .int .u8 x.1.2.2.1, .slice x.2.1 x.2.2.1 x.2.2.2]), (.agg #[.int .u8 y.1.1, .int .u16 y.1.2.1, .int .u8 y.1.2.2.1, .slice y.2.1 y.2.2.1 y.2.2.2])] (by kernel_rfl) ?_
            refine over_nil ?_
            simp only [putAll, put_lit, List.set_cons_succ, List.set_cons_zero]
            go_wp2_with fail
            have hc2 := desc_any x y w9 (Sn.next FX.out hb) (Sn.next FY.out hb)
            rw [HQ.out] at hc2
            refine hc2.mono ?_
            clear hc2
            rintro e w8 ⟨rfl, b6⟩
            go_wp2
            exact post_of (by rfl) (by rfl) b6 (by rfl)
end Go.Proofs.Ytdkchiodepdclaa
