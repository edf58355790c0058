/- Layer 5: filters: words, and the reference's contracts. -/
import Derived.Test.YtdgobdfggdmnpaaDoorFr
import Derived.Test.YtdgobdfggdmnpaaDoorReg6
import Derived.Test.YtdgobdfggdmnpaaDoorGn
import Derived.Test.YtdgobdfggdmnpaaDoorOw
import Derived.LoopTactic
import Derived.RegionTactic
import Derived.Deep.QuietTactic
import Derived.OwnWalk
namespace Go.Proofs.YtdgobdfggdmnpaaDoor
open Go.RowKit
set_option linter.unusedVariables false
def okF (f s : Int × Int) : Bool := decide (f.1 ≤ f.2) && decide (s.1 ≤ f.1) && decide (f.2 ≤ s.2)
def rightF (ps fs : List (Int × Int)) : Bool := decide (fs.length = 0) || (decide (fs.length = ps.length) && (fs.zip ps).all fun x => okF x.1 x.2)
def matchF (fs : List (Int × Int)) (xs : List Int) : Bool := decide (fs.length = xs.length) && decide (0 < fs.length) && (fs.zip xs).all fun x => hasB x.1 x.2
def coversF (es bs : List (Int × Int)) : Bool := decide (bs.length = 0) || (decide (es.length = bs.length) && (es.zip bs).all fun x => covB x.1 x.2)
def meetF (es bs : List (Int × Int)) : List (Int × Int) := if es.length = bs.length ∧ ((es.zip bs).all fun x => meetB x.1 x.2) = true then (es.zip bs).map (fun x => meetP x.1 x.2) else []
def sameF (es bs : List (Int × Int)) : Bool := decide (es = bs)
theorem zip_at {α β : Type} {es : List α} {bs : List β} {j : Nat} {p : α} {q : β} (hp : es[j]? = some p) (hq : bs[j]? = some q) : (es.zip bs)[j]? = some (p, q) := by
  rw [List.getElem?_zip_eq_some]; exact ⟨hp, hq⟩
theorem all_step {α : Type} {l : List α} {f : α → Bool} {j : Nat} {x : α} (h : l[j]? = some x) : (l.take (j + 1)).all f = ((l.take j).all f && f x) := by
  simp [List.take_add_one, h]
theorem all_whole {α : Type} {l : List α} {f : α → Bool} {j : Nat} (h : l.length ≤ j) : (l.take j).all f = l.all f := by rw [List.take_of_length_le h]
theorem zip_len {α β : Type} {es : List α} {bs : List β} (h : es.length = bs.length) : (es.zip bs).length = es.length := by simp [h]
/-- Cells of one element, in whatever world follows. -/
theorem sp_cells {w : World} {A : Option Addr} {n c : Nat} {ps : List (Int × Int)} (h : Sp w w.heap.size A n c ps) {j : Nat} (hj : j < n) :
    ∃ b off p, A = some ⟨b, off, none⟩ ∧ ps[j]? = some p ∧ Hid (∀ w', Below w.heap.size w w' → w'.cell? ⟨b, off + j * 2, none⟩ = some (.int .i32 p.1) ∧ w'.cell? ⟨b, off + j * 2 + 1, none⟩ = some (.int .i32 p.2)) := by
  obtain ⟨b, off, p, rfl, hb, hp, c1, c2⟩ := sp_at h hj
  exact ⟨b, off, p, rfl, hp, fun w' hw => ⟨(hw.cell (p := ⟨b, off + j * 2, none⟩) hb).trans c1, (hw.cell (p := ⟨b, off + j * 2 + 1, none⟩) hb).trans c2⟩⟩
theorem si_cells {w : World} {A : Option Addr} {n c : Nat} {xs : List Int} (h : Si w w.heap.size A n c xs) {j : Nat} (hj : j < n) :
    ∃ b off x, A = some ⟨b, off, none⟩ ∧ xs[j]? = some x ∧ Hid (∀ w', Below w.heap.size w w' → w'.cell? ⟨b, off + j, none⟩ = some (.int .i32 x)) := by
  obtain ⟨b, off, x, rfl, hb, hp, c1⟩ := si_at h hj
  exact ⟨b, off, x, rfl, hp, fun w' hw => (hw.cell (p := ⟨b, off + j, none⟩) hb).trans c1⟩
theorem refSame_any (A : Option Addr) (n c : Nat) (es : List (Int × Int)) (A' : Option Addr) (n' c' : Nat) (bs : List (Int × Int)) (w : World) (h : Sp w w.heap.size A n c es) (h' : Sp w w.heap.size A' n' c' bs) :
    Calls Tryd.prog 11 #[.slice A n c, .slice A' n' c'] w fun e w' => e = .returned (.bool (sameF es bs)) ∧ Below w.heap.size w w' := by
  have HL : Hid (n = es.length) := sp_len h
  have HL' : Hid (n' = bs.length) := sp_len h'
  have hm := h.max
  have hc := h.cap
  have hm' := h'.max
  have hc' := h'.cap
  unfold maxLen at hm hm'
  have HS := Lib.hid h
  have HS' := Lib.hid h'
  clear h h'
  by_cases hn : n = n'
  · subst hn
    go_enter Tryd.func11, Tryd.ntmps11
    go_wp2
    go_loopw [5] (fun i wr => ∃ j : Nat, j ≤ n ∧ i = .int .i64 j ∧ Hid (es.take j = bs.take j) ∧ Below w.heap.size w wr) (fun i _ => n - (intOf i).toNat)
    case atStart => exact ⟨0, Nat.zero_le _, rfl, rfl, Below.refl _ _⟩
    case round =>
      obtain ⟨j, hj, rfl, HT, b1⟩ := hrel
      by_cases hlt : j < n
      · obtain ⟨b, off, p, rfl, hp, HC⟩ := sp_cells (HS.out.next b1) hlt
        obtain ⟨b', off', q, rfl, hq, HC'⟩ := sp_cells (HS'.out.next b1) hlt
        have HP := Lib.hid hp
        have HQ := Lib.hid hq
        have i0 : (0 : Int) ≤ (j : Int) := by omega
        have i1 : (j : Int) < (n : Int) := by omega
        obtain ⟨c1, c2⟩ := HC.out wr (Below.refl _ _)
        obtain ⟨c3, c4⟩ := HC'.out wr (Below.refl _ _)
        clear hp hq
        obtain ⟨z, HZ⟩ : ∃ z, Hid (decide (p.1 = q.1 ∧ p.2 = q.2) = z) := ⟨_, rfl⟩
        have heq : ∀ w' : World, (binOp .neq 42 (.agg #[.int .i32 p.1, .int .i32 p.2]) (.agg #[.int .i32 q.1, .int .i32 q.2])).run Tryd.prog w' = .ok (.bool (!z)) w' := fun w' => (neq_run p q w').trans (congrArg (fun b => Result.ok (Value.bool (!b)) w') HZ.out)
        cases z
        · go_wp2
          go_quiet (fail)
          go_wp2
          go_ret
          refine ⟨congrArg (fun b => Ending.returned (.bool b)) (Eq.symm (decide_eq_false fun e => ?_)), dN b1 nq⟩
          have h1 := of_decide_eq_false HZ.out
          rw [e] at HP
          have : p = q := Option.some.inj (HP.out.symm.trans HQ.out)
          exact h1 (by rw [this]; exact ⟨rfl, rfl⟩)
        · go_wp2
          go_quiet (fail)
          have b2 := dN b1 nq
          generalize wr.drewN nq = w2 at *
          go_wp2
          go_roundw
          case rel =>
            refine ⟨j + 1, by omega, by go_num, ?_, b2⟩
            have h1 := of_decide_eq_true HZ.out
            unfold Hid
            rw [List.take_add_one, List.take_add_one, HP.out, HQ.out, HT.out, show p = q from Prod.ext h1.1 h1.2]
          case measure => simp [intOf]; omega
      · obtain rfl : j = n := by omega
        go_wp2
        go_ret
        refine ⟨congrArg (fun b => Ending.returned (.bool b)) (Eq.symm (decide_eq_true ?_)), b1⟩
        have := HT.out
        rwa [HL.out, List.take_length, ← HL.out, HL'.out, List.take_length] at this
  · go_enter Tryd.func11, Tryd.ntmps11
    go_wp2
    go_ret
    refine ⟨congrArg (fun b => Ending.returned (.bool b)) (Eq.symm (decide_eq_false fun e => hn ?_)), Below.refl _ _⟩
    rw [HL.out, HL'.out, e]
set_option maxHeartbeats 4000000 in
theorem refCoversF_any (A : Option Addr) (n c : Nat) (es : List (Int × Int)) (A' : Option Addr) (n' c' : Nat) (bs : List (Int × Int)) (w : World) (h : Sp w w.heap.size A n c es) (h' : Sp w w.heap.size A' n' c' bs) :
    Calls Tryd.prog 17 #[.slice A n c, .slice A' n' c'] w fun e w' => e = .returned (.bool (coversF es bs)) ∧ Below w.heap.size w w' := by
  have HL : Hid (n = es.length) := sp_len h
  have HL' : Hid (n' = bs.length) := sp_len h'
  have hm := h.max
  have hc := h.cap
  have hm' := h'.max
  have hc' := h'.cap
  unfold maxLen at hm hm'
  have HS := Lib.hid h
  have HS' := Lib.hid h'
  clear h h'
  by_cases h0 : n' = 0
  · subst h0
    go_enter Tryd.func17, Tryd.ntmps17
    go_wp2
    go_ret
    exact ⟨congrArg (fun b => Ending.returned (.bool b)) (show true = _ from Eq.symm (by unfold coversF; rw [← HL'.out]; rfl)), Below.refl _ _⟩
  by_cases hn : n = n'
  · subst hn
    have HF : Hid (coversF es bs = (es.zip bs).all fun x => covB x.1 x.2) := by
      unfold Hid coversF
      rw [← HL.out, ← HL'.out, decide_eq_false h0, decide_eq_true rfl]; rfl
    go_enter Tryd.func17, Tryd.ntmps17
    go_wp2
    go_loopw [5, 6] (fun v i wr => ∃ j : Nat, j ≤ n ∧ i = .int .i64 j ∧ v = .bool (((es.zip bs).take j).all fun x => covB x.1 x.2) ∧ Below w.heap.size w wr) (fun _ i _ => n - (intOf i).toNat)
    case atStart => exact ⟨0, Nat.zero_le _, rfl, rfl, Below.refl _ _⟩
    case round =>
      obtain ⟨j, hj, rfl, rfl, b1⟩ := hrel
      by_cases hlt : j < n
      · obtain ⟨b, off, p, rfl, hp, HC⟩ := sp_cells (HS.out.next b1) hlt
        obtain ⟨b', off', q, rfl, hq, HC'⟩ := sp_cells (HS'.out.next b1) hlt
        have HP : Hid (((es.zip bs).take (j + 1)).all (fun x => covB x.1 x.2) = (((es.zip bs).take j).all (fun x => covB x.1 x.2) && covB p q)) := all_step (zip_at hp hq)
        have i0 : (0 : Int) ≤ (j : Int) := by omega
        have i1 : (j : Int) < (n : Int) := by omega
        clear hp hq
        obtain ⟨z, HZ⟩ : ∃ z, Hid (covB p q = z) := ⟨_, rfl⟩
        rw [HZ.out] at HP
        generalize ((es.zip bs).take j).all (fun x => covB x.1 x.2) = g at *
        go_wp2
        refine wp_region_vals 12 [(21, (.bool g)), (22, (.bool g)), (23, (cond g (.slice (some ⟨b, off, none⟩) n c) undef)), (24, (cond g (.int .i64 j) undef)), (25, (cond g (.pointer (some ⟨b, off + j * 2, none⟩)) undef)), (26, (cond g (.agg #[.int .i32 p.1, .int .i32 p.2]) undef)), (27, (cond g (.slice (some ⟨b', off', none⟩) n c') undef)), (28, (cond g (.int .i64 j) undef)), (29, (cond g (.pointer (some ⟨b', off' + j * 2, none⟩)) undef)), (30, (cond g (.agg #[.int .i32 q.1, .int .i32 q.2]) undef)), (31, (cond g (.bool z) undef)), (32, (.bool (g && z)))]
          [[], [21], [22], [22], [22, 23, 24], [22, 25], [22], [22], [22, 27, 28], [22, 29], [22, 26, 30], [22, 31]] (by kernel_rfl) (by kernel_rfl) (by kernel_rfl) (by kernel_rfl) ?_ ?_
        · simp only [List.take_succ_cons, List.take_zero]
          refine ⟨?r9g0, ?r9g1, ?r9g2, ?r9g3, ?r9g4, ?r9g5, ?r9g6, ?r9g7, ?r9g8, ?r9g9, ?r9g10, ?r9g11, trivial⟩
          case r9g0 =>
            intro w5 hb
            refine over_nil ?_
            exact post_run (.bool g) rfl (by kernel_rfl) (by kernel_rfl) (by kernel_rfl) (by kernel_rfl) (by kernel_rfl)
          case r9g1 =>
            intro w5 hb
            refine over_vals (ds := [21]) [(.bool g)] (by kernel_rfl) ?_
            exact post_run (.bool g) rfl (by kernel_rfl) (by kernel_rfl) (by kernel_rfl) (by kernel_rfl) (by kernel_rfl)
          case r9g2 =>
            intro w5 hb
            refine over_vals (ds := [22]) [(.bool g)] (by kernel_rfl) ?_
            cases g
            · exact post_skip rfl (by kernel_rfl) (by kernel_rfl) (by kernel_rfl) (by kernel_rfl)
            · exact post_run (.slice (some ⟨b, off, none⟩) n c) rfl (by kernel_rfl) (by kernel_rfl) (by kernel_rfl) (by kernel_rfl) (by kernel_rfl)
          case r9g3 =>
            intro w5 hb
            refine over_vals (ds := [22]) [(.bool g)] (by kernel_rfl) ?_
            cases g
            · exact post_skip rfl (by kernel_rfl) (by kernel_rfl) (by kernel_rfl) (by kernel_rfl)
            · exact post_run (.int .i64 j) rfl (by kernel_rfl) (by kernel_rfl) (by kernel_rfl) (by kernel_rfl) (by kernel_rfl)
          case r9g4 =>
            intro w5 hb
            refine over_vals (ds := [22, 23, 24]) [(.bool g), (cond g (.slice (some ⟨b, off, none⟩) n c) undef), (cond g (.int .i64 j) undef)] (by kernel_rfl) ?_
            simp only [putAll, put_lit, List.set_cons_succ, List.set_cons_zero]
            cases g
            · exact post_skip rfl (by kernel_rfl) (by kernel_rfl) (by kernel_rfl) (by kernel_rfl)
            · try dsimp only [cond]
              (go_wp2; all_goals (first | exact post_of (by rfl) (by rfl) (Below.refl _ _) (by rfl) | (exfalso; simp_all; done)))
          case r9g5 =>
            intro w5 hb
            refine over_vals (ds := [22, 25]) [(.bool g), (cond g (.pointer (some ⟨b, off + j * 2, none⟩)) undef)] (by kernel_rfl) ?_
            obtain ⟨u0, u1⟩ := HC.out w5 hb
            simp only [putAll, put_lit, List.set_cons_succ, List.set_cons_zero]
            cases g
            · exact post_skip rfl (by kernel_rfl) (by kernel_rfl) (by kernel_rfl) (by kernel_rfl)
            · try dsimp only [cond]
              (go_wp2; all_goals (first | exact post_of (by rfl) (by rfl) (Below.refl _ _) (by rfl) | (exfalso; simp_all; done)))
          case r9g6 =>
            intro w5 hb
            refine over_vals (ds := [22]) [(.bool g)] (by kernel_rfl) ?_
            cases g
            · exact post_skip rfl (by kernel_rfl) (by kernel_rfl) (by kernel_rfl) (by kernel_rfl)
            · exact post_run (.slice (some ⟨b', off', none⟩) n c') rfl (by kernel_rfl) (by kernel_rfl) (by kernel_rfl) (by kernel_rfl) (by kernel_rfl)
          case r9g7 =>
            intro w5 hb
            refine over_vals (ds := [22]) [(.bool g)] (by kernel_rfl) ?_
            cases g
            · exact post_skip rfl (by kernel_rfl) (by kernel_rfl) (by kernel_rfl) (by kernel_rfl)
            · exact post_run (.int .i64 j) rfl (by kernel_rfl) (by kernel_rfl) (by kernel_rfl) (by kernel_rfl) (by kernel_rfl)
          case r9g8 =>
            intro w5 hb
            refine over_vals (ds := [22, 27, 28]) [(.bool g), (cond g (.slice (some ⟨b', off', none⟩) n c') undef), (cond g (.int .i64 j) undef)] (by kernel_rfl) ?_
            simp only [putAll, put_lit, List.set_cons_succ, List.set_cons_zero]
            cases g
            · exact post_skip rfl (by kernel_rfl) (by kernel_rfl) (by kernel_rfl) (by kernel_rfl)
            · try dsimp only [cond]
              (go_wp2; all_goals (first | exact post_of (by rfl) (by rfl) (Below.refl _ _) (by rfl) | (exfalso; simp_all; done)))
          case r9g9 =>
            intro w5 hb
            refine over_vals (ds := [22, 29]) [(.bool g), (cond g (.pointer (some ⟨b', off' + j * 2, none⟩)) undef)] (by kernel_rfl) ?_
            obtain ⟨u2, u3⟩ := HC'.out w5 hb
            simp only [putAll, put_lit, List.set_cons_succ, List.set_cons_zero]
            cases g
            · exact post_skip rfl (by kernel_rfl) (by kernel_rfl) (by kernel_rfl) (by kernel_rfl)
            · try dsimp only [cond]
              (go_wp2; all_goals (first | exact post_of (by rfl) (by rfl) (Below.refl _ _) (by rfl) | (exfalso; simp_all; done)))
          case r9g10 =>
            intro w5 hb
            refine over_vals (ds := [22, 26, 30]) [(.bool g), (cond g (.agg #[.int .i32 p.1, .int .i32 p.2]) undef), (cond g (.agg #[.int .i32 q.1, .int .i32 q.2]) undef)] (by kernel_rfl) ?_
            simp only [putAll, put_lit, List.set_cons_succ, List.set_cons_zero]
            cases g
            · exact post_skip rfl (by kernel_rfl) (by kernel_rfl) (by kernel_rfl) (by kernel_rfl)
            · try dsimp only [cond]
              (go_wp2_with (go_at_call 37; go_must (refine (refCovers_of HZ.out).mono ?_); rintro r w6 ⟨rfl, b6⟩); all_goals (first | exact post_of (by rfl) (by rfl) (Below.refl _ _) (by rfl) | exact post_of (by rfl) (by rfl) b6 (by rfl) | (exfalso; simp_all; done)))
          case r9g11 =>
            intro w5 hb
            refine over_vals (ds := [22, 31]) [(.bool g), (cond g (.bool z) undef)] (by kernel_rfl) ?_
            cases g <;> cases z
            · exact post_run (.bool false) rfl (by kernel_rfl) (by kernel_rfl) (by kernel_rfl) (by kernel_rfl) (by kernel_rfl)
            · exact post_run (.bool false) rfl (by kernel_rfl) (by kernel_rfl) (by kernel_rfl) (by kernel_rfl) (by kernel_rfl)
            · exact post_run (.bool false) rfl (by kernel_rfl) (by kernel_rfl) (by kernel_rfl) (by kernel_rfl) (by kernel_rfl)
            · exact post_run (.bool true) rfl (by kernel_rfl) (by kernel_rfl) (by kernel_rfl) (by kernel_rfl) (by kernel_rfl)
        intro w9 b9
        simp only [List.drop_succ_cons, List.drop_zero]
        simp only [List.map_cons, List.map_nil, putAll, put_lit, List.set_cons_succ, List.set_cons_zero]
        have b2 := thn b1 b9
        go_wp2
        go_roundw
        case rel => exact ⟨j + 1, by omega, by go_num, by rw [HP.out], b2⟩
        case measure => simp [intOf]; omega
      · obtain rfl : j = n := by omega
        have HW : Hid (((es.zip bs).take j).all (fun x => covB x.1 x.2) = (es.zip bs).all (fun x => covB x.1 x.2)) := all_whole (by rw [zip_len (HL.out.symm.trans HL'.out), ← HL.out]; exact Nat.le_refl _)
        go_wp2
        go_ret
        exact ⟨by rw [HW.out]; exact congrArg (fun b => Ending.returned (.bool b)) HF.out.symm, b1⟩
  · skip
    go_enter Tryd.func17, Tryd.ntmps17
    go_wp2
    go_ret
    exact ⟨congrArg (fun b => Ending.returned (.bool b)) (show false = _ from Eq.symm (by unfold coversF; rw [← HL.out, ← HL'.out, decide_eq_false h0, decide_eq_false hn]; rfl)), Below.refl _ _⟩
set_option maxHeartbeats 4000000 in
theorem refMatchF_any (A : Option Addr) (n c : Nat) (es : List (Int × Int)) (A' : Option Addr) (n' c' : Nat) (bs : List Int) (w : World) (h : Sp w w.heap.size A n c es) (h' : Si w w.heap.size A' n' c' bs) :
    Calls Tryd.prog 15 #[.slice A n c, .slice A' n' c'] w fun e w' => e = .returned (.bool (matchF es bs)) ∧ Below w.heap.size w w' := by
  have HL : Hid (n = es.length) := sp_len h
  have HL' : Hid (n' = bs.length) := si_len h'
  have hm := h.max
  have hc := h.cap
  have hm' := h'.max
  have hc' := h'.cap
  unfold maxLen at hm hm'
  have HS := Lib.hid h
  have HS' := Lib.hid h'
  clear h h'
  by_cases hn : n = n'
  · subst hn
    by_cases h0 : n = 0
    · subst h0
      go_enter Tryd.func15, Tryd.ntmps15
      go_wp2
      go_ret
      exact ⟨congrArg (fun b => Ending.returned (.bool b)) (show false = _ from Eq.symm (by unfold matchF; rw [← HL.out, ← HL'.out]; rfl)), Below.refl _ _⟩
    have HF : Hid (matchF es bs = (es.zip bs).all fun x => hasB x.1 x.2) := by
      unfold Hid matchF
      rw [← HL.out, ← HL'.out, decide_eq_true rfl, decide_eq_true (show 0 < n by omega)]; rfl
    go_enter Tryd.func15, Tryd.ntmps15
    go_wp2
    go_loopw [5, 6] (fun v i wr => ∃ j : Nat, j ≤ n ∧ i = .int .i64 j ∧ v = .bool (((es.zip bs).take j).all fun x => hasB x.1 x.2) ∧ Below w.heap.size w wr) (fun _ i _ => n - (intOf i).toNat)
    case atStart => exact ⟨0, Nat.zero_le _, rfl, rfl, Below.refl _ _⟩
    case round =>
      obtain ⟨j, hj, rfl, rfl, b1⟩ := hrel
      by_cases hlt : j < n
      · obtain ⟨b, off, p, rfl, hp, HC⟩ := sp_cells (HS.out.next b1) hlt
        obtain ⟨b', off', q, rfl, hq, HC'⟩ := si_cells (HS'.out.next b1) hlt
        have HP : Hid (((es.zip bs).take (j + 1)).all (fun x => hasB x.1 x.2) = (((es.zip bs).take j).all (fun x => hasB x.1 x.2) && hasB p q)) := all_step (zip_at hp hq)
        have i0 : (0 : Int) ≤ (j : Int) := by omega
        have i1 : (j : Int) < (n : Int) := by omega
        clear hp hq
        obtain ⟨z, HZ⟩ : ∃ z, Hid (hasB p q = z) := ⟨_, rfl⟩
        rw [HZ.out] at HP
        generalize ((es.zip bs).take j).all (fun x => hasB x.1 x.2) = g at *
        go_wp2
        refine wp_region_vals 12 [(23, (.bool g)), (24, (.bool g)), (25, (cond g (.slice (some ⟨b, off, none⟩) n c) undef)), (26, (cond g (.int .i64 j) undef)), (27, (cond g (.pointer (some ⟨b, off + j * 2, none⟩)) undef)), (28, (cond g (.agg #[.int .i32 p.1, .int .i32 p.2]) undef)), (29, (cond g (.slice (some ⟨b', off', none⟩) n c') undef)), (30, (cond g (.int .i64 j) undef)), (31, (cond g (.pointer (some ⟨b', off' + j, none⟩)) undef)), (32, (cond g (.int .i32 q) undef)), (33, (cond g (.bool z) undef)), (34, (.bool (g && z)))]
          [[], [23], [24], [24], [24, 25, 26], [24, 27], [24], [24], [24, 29, 30], [24, 31], [24, 28, 32], [24, 33]] (by kernel_rfl) (by kernel_rfl) (by kernel_rfl) (by kernel_rfl) ?_ ?_
        · simp only [List.take_succ_cons, List.take_zero]
          refine ⟨?r7g0, ?r7g1, ?r7g2, ?r7g3, ?r7g4, ?r7g5, ?r7g6, ?r7g7, ?r7g8, ?r7g9, ?r7g10, ?r7g11, trivial⟩
          case r7g0 =>
            intro w5 hb
            refine over_nil ?_
            exact post_run (.bool g) rfl (by kernel_rfl) (by kernel_rfl) (by kernel_rfl) (by kernel_rfl) (by kernel_rfl)
          case r7g1 =>
            intro w5 hb
            refine over_vals (ds := [23]) [(.bool g)] (by kernel_rfl) ?_
            exact post_run (.bool g) rfl (by kernel_rfl) (by kernel_rfl) (by kernel_rfl) (by kernel_rfl) (by kernel_rfl)
          case r7g2 =>
            intro w5 hb
            refine over_vals (ds := [24]) [(.bool g)] (by kernel_rfl) ?_
            cases g
            · exact post_skip rfl (by kernel_rfl) (by kernel_rfl) (by kernel_rfl) (by kernel_rfl)
            · exact post_run (.slice (some ⟨b, off, none⟩) n c) rfl (by kernel_rfl) (by kernel_rfl) (by kernel_rfl) (by kernel_rfl) (by kernel_rfl)
          case r7g3 =>
            intro w5 hb
            refine over_vals (ds := [24]) [(.bool g)] (by kernel_rfl) ?_
            cases g
            · exact post_skip rfl (by kernel_rfl) (by kernel_rfl) (by kernel_rfl) (by kernel_rfl)
            · exact post_run (.int .i64 j) rfl (by kernel_rfl) (by kernel_rfl) (by kernel_rfl) (by kernel_rfl) (by kernel_rfl)
          case r7g4 =>
            intro w5 hb
            refine over_vals (ds := [24, 25, 26]) [(.bool g), (cond g (.slice (some ⟨b, off, none⟩) n c) undef), (cond g (.int .i64 j) undef)] (by kernel_rfl) ?_
            simp only [putAll, put_lit, List.set_cons_succ, List.set_cons_zero]
            cases g
            · exact post_skip rfl (by kernel_rfl) (by kernel_rfl) (by kernel_rfl) (by kernel_rfl)
            · try dsimp only [cond]
              (go_wp2; all_goals (first | exact post_of (by rfl) (by rfl) (Below.refl _ _) (by rfl) | (exfalso; simp_all; done)))
          case r7g5 =>
            intro w5 hb
            refine over_vals (ds := [24, 27]) [(.bool g), (cond g (.pointer (some ⟨b, off + j * 2, none⟩)) undef)] (by kernel_rfl) ?_
            obtain ⟨u0, u1⟩ := HC.out w5 hb
            simp only [putAll, put_lit, List.set_cons_succ, List.set_cons_zero]
            cases g
            · exact post_skip rfl (by kernel_rfl) (by kernel_rfl) (by kernel_rfl) (by kernel_rfl)
            · try dsimp only [cond]
              (go_wp2; all_goals (first | exact post_of (by rfl) (by rfl) (Below.refl _ _) (by rfl) | (exfalso; simp_all; done)))
          case r7g6 =>
            intro w5 hb
            refine over_vals (ds := [24]) [(.bool g)] (by kernel_rfl) ?_
            cases g
            · exact post_skip rfl (by kernel_rfl) (by kernel_rfl) (by kernel_rfl) (by kernel_rfl)
            · exact post_run (.slice (some ⟨b', off', none⟩) n c') rfl (by kernel_rfl) (by kernel_rfl) (by kernel_rfl) (by kernel_rfl) (by kernel_rfl)
          case r7g7 =>
            intro w5 hb
            refine over_vals (ds := [24]) [(.bool g)] (by kernel_rfl) ?_
            cases g
            · exact post_skip rfl (by kernel_rfl) (by kernel_rfl) (by kernel_rfl) (by kernel_rfl)
            · exact post_run (.int .i64 j) rfl (by kernel_rfl) (by kernel_rfl) (by kernel_rfl) (by kernel_rfl) (by kernel_rfl)
          case r7g8 =>
            intro w5 hb
            refine over_vals (ds := [24, 29, 30]) [(.bool g), (cond g (.slice (some ⟨b', off', none⟩) n c') undef), (cond g (.int .i64 j) undef)] (by kernel_rfl) ?_
            simp only [putAll, put_lit, List.set_cons_succ, List.set_cons_zero]
            cases g
            · exact post_skip rfl (by kernel_rfl) (by kernel_rfl) (by kernel_rfl) (by kernel_rfl)
            · try dsimp only [cond]
              (go_wp2; all_goals (first | exact post_of (by rfl) (by rfl) (Below.refl _ _) (by rfl) | (exfalso; simp_all; done)))
          case r7g9 =>
            intro w5 hb
            refine over_vals (ds := [24, 31]) [(.bool g), (cond g (.pointer (some ⟨b', off' + j, none⟩)) undef)] (by kernel_rfl) ?_
            have u2 := HC'.out w5 hb
            simp only [putAll, put_lit, List.set_cons_succ, List.set_cons_zero]
            cases g
            · exact post_skip rfl (by kernel_rfl) (by kernel_rfl) (by kernel_rfl) (by kernel_rfl)
            · try dsimp only [cond]
              (go_wp2; all_goals (first | exact post_of (by rfl) (by rfl) (Below.refl _ _) (by rfl) | (exfalso; simp_all; done)))
          case r7g10 =>
            intro w5 hb
            refine over_vals (ds := [24, 28, 32]) [(.bool g), (cond g (.agg #[.int .i32 p.1, .int .i32 p.2]) undef), (cond g (.int .i32 q) undef)] (by kernel_rfl) ?_
            simp only [putAll, put_lit, List.set_cons_succ, List.set_cons_zero]
            cases g
            · exact post_skip rfl (by kernel_rfl) (by kernel_rfl) (by kernel_rfl) (by kernel_rfl)
            · try dsimp only [cond]
              (go_wp2_with (go_at_call 34; go_must (refine (refHas_of HZ.out).mono ?_); rintro r w6 ⟨rfl, b6⟩); all_goals (first | exact post_of (by rfl) (by rfl) (Below.refl _ _) (by rfl) | exact post_of (by rfl) (by rfl) b6 (by rfl) | (exfalso; simp_all; done)))
          case r7g11 =>
            intro w5 hb
            refine over_vals (ds := [24, 33]) [(.bool g), (cond g (.bool z) undef)] (by kernel_rfl) ?_
            cases g <;> cases z
            · exact post_run (.bool false) rfl (by kernel_rfl) (by kernel_rfl) (by kernel_rfl) (by kernel_rfl) (by kernel_rfl)
            · exact post_run (.bool false) rfl (by kernel_rfl) (by kernel_rfl) (by kernel_rfl) (by kernel_rfl) (by kernel_rfl)
            · exact post_run (.bool false) rfl (by kernel_rfl) (by kernel_rfl) (by kernel_rfl) (by kernel_rfl) (by kernel_rfl)
            · exact post_run (.bool true) rfl (by kernel_rfl) (by kernel_rfl) (by kernel_rfl) (by kernel_rfl) (by kernel_rfl)
        intro w9 b9
        simp only [List.drop_succ_cons, List.drop_zero]
        simp only [List.map_cons, List.map_nil, putAll, put_lit, List.set_cons_succ, List.set_cons_zero]
        have b2 := thn b1 b9
        go_wp2
        go_roundw
        case rel => exact ⟨j + 1, by omega, by go_num, by rw [HP.out], b2⟩
        case measure => simp [intOf]; omega
      · obtain rfl : j = n := by omega
        have HW : Hid (((es.zip bs).take j).all (fun x => hasB x.1 x.2) = (es.zip bs).all (fun x => hasB x.1 x.2)) := all_whole (by rw [zip_len (HL.out.symm.trans HL'.out), ← HL.out]; exact Nat.le_refl _)
        go_wp2
        go_ret
        exact ⟨by rw [HW.out]; exact congrArg (fun b => Ending.returned (.bool b)) HF.out.symm, b1⟩
  · skip
    go_enter Tryd.func15, Tryd.ntmps15
    go_wp2
    go_ret
    exact ⟨congrArg (fun b => Ending.returned (.bool b)) (show false = _ from Eq.symm (by unfold matchF; rw [← HL.out, ← HL'.out, decide_eq_false hn]; rfl)), Below.refl _ _⟩
end Go.Proofs.YtdgobdfggdmnpaaDoor
