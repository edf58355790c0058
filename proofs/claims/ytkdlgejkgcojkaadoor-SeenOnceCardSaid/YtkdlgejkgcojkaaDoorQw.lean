/- Layer 8: the chapter's examples. -/
import Derived.Test.YtkdlgejkgcojkaaDoorQt
namespace Go.Proofs.YtkdlgejkgcojkaaDoor
open Go.RowKit
set_option linter.unusedVariables false
def egB (w : World) (g : Nat) : Prop := w.heap[g]? = some (.cells #[.int .i64 1, .int .i64 2, .bool true, .int .u16 1, .int .u32 0, .int .u64 2, .int .i64 1, .int .i64 1, .bool true, .int .u16 1, .int .u32 2, .int .u64 0, .int .i64 1, .int .i64 2, .bool false, .int .u16 1, .int .u32 2, .int .u64 0, .int .i64 1, .int .i64 7, .bool false, .int .u16 1, .int .u32 2, .int .u64 0, .int .i64 1, .int .i64 6, .bool true, .int .u16 1, .int .u32 2, .int .u64 8, .int .i64 2, .int .i64 1, .bool true, .int .u16 2, .int .u32 1, .int .u64 0, .int .i64 1, .int .i64 3, .bool false, .int .u16 2, .int .u32 1, .int .u64 0] 51 (0, 0))
theorem egB.lt {w : World} {g : Nat} (h : egB w g) : g < w.heap.size := (Array.getElem?_eq_some_iff.1 h).1
theorem egB.next {w w' : World} {g : Nat} (h : egB w g) (hb : Below w.heap.size w w') : egB w' g := (hb.block g h.lt).trans h
theorem egB.grown {w w' : World} {b g : Nat} (h : egB w b) (hg : w.grownBy w' (some g)) (hne : b ≠ g) : egB w' b := (hg.block b h.lt (by simpa using hne)).trans h
def egRow : Nat → Row3
  | 0 => (0, 0, 0)
  | 1 => (1, 0, 2)
  | 2 => (1, 2, 0)
  | 3 => (1, 2, 0)
  | 4 => (1, 2, 0)
  | 5 => (1, 2, 8)
  | _ => (2, 1, 0)
structure EgAt (w : World) (g j : Nat) (i s : Int) (b : Bool) (q : Row3) : Prop where
  c0 : w.cell? ⟨g, j * 6, none⟩ = some (.int .i64 i)
  c1 : w.cell? ⟨g, j * 6 + 1, none⟩ = some (.int .i64 s)
  c2 : w.cell? ⟨g, j * 6 + 2, none⟩ = some (.bool b)
  c3 : w.cell? ⟨g, j * 6 + 3, none⟩ = some (.int .u16 q.1)
  c4 : w.cell? ⟨g, j * 6 + 4, none⟩ = some (.int .u32 q.2.1)
  c5 : w.cell? ⟨g, j * 6 + 5, none⟩ = some (.int .u64 q.2.2)
  rr : rowR (egRow j)
  ir : idR (0, i, s)
  right : rightI (egRow j) 4 = true
  may : mayI (egRow j) (0, i, s) 4 = b
  yes : b = true → takeI (egRow j) (0, i, s) = q
  no : b = false → egRow j = q
  next : egRow (j + 1) = q
theorem eg_at {w : World} {g : Nat} (h : egB w g) {j : Nat} (hj : j < 7) : ∃ i s b q, EgAt w g j i s b q := by
  have hc : ∀ (k : Nat) (v : Value), (#[.int .i64 1, .int .i64 2, .bool true, .int .u16 1, .int .u32 0, .int .u64 2, .int .i64 1, .int .i64 1, .bool true, .int .u16 1, .int .u32 2, .int .u64 0, .int .i64 1, .int .i64 2, .bool false, .int .u16 1, .int .u32 2, .int .u64 0, .int .i64 1, .int .i64 7, .bool false, .int .u16 1, .int .u32 2, .int .u64 0, .int .i64 1, .int .i64 6, .bool true, .int .u16 1, .int .u32 2, .int .u64 8, .int .i64 2, .int .i64 1, .bool true, .int .u16 2, .int .u32 1, .int .u64 0, .int .i64 1, .int .i64 3, .bool false, .int .u16 2, .int .u32 1, .int .u64 0] : Array Value)[k]? = some v → w.cell? ⟨g, k, none⟩ = some v := fun k v hk => by
    unfold egB at h; unfold World.cell?; simp only [h]; exact hk
  have hj' : j = 0 ∨ j = 1 ∨ j = 2 ∨ j = 3 ∨ j = 4 ∨ j = 5 ∨ j = 6 := by omega
  rcases hj' with rfl | rfl | rfl | rfl | rfl | rfl | rfl
  · exact ⟨1, 2, true, (1, 0, 2), hc 0 _ rfl, hc 1 _ rfl, hc 2 _ rfl, hc 3 _ rfl, hc 4 _ rfl, hc 5 _ rfl, by unfold rowR egRow; decide, by unfold idR; decide, by decide +kernel, by decide +kernel, by decide +kernel, by decide +kernel, rfl⟩
  · exact ⟨1, 1, true, (1, 2, 0), hc 6 _ rfl, hc 7 _ rfl, hc 8 _ rfl, hc 9 _ rfl, hc 10 _ rfl, hc 11 _ rfl, by unfold rowR egRow; decide, by unfold idR; decide, by decide +kernel, by decide +kernel, by decide +kernel, by decide +kernel, rfl⟩
  · exact ⟨1, 2, false, (1, 2, 0), hc 12 _ rfl, hc 13 _ rfl, hc 14 _ rfl, hc 15 _ rfl, hc 16 _ rfl, hc 17 _ rfl, by unfold rowR egRow; decide, by unfold idR; decide, by decide +kernel, by decide +kernel, by decide +kernel, by decide +kernel, rfl⟩
  · exact ⟨1, 7, false, (1, 2, 0), hc 18 _ rfl, hc 19 _ rfl, hc 20 _ rfl, hc 21 _ rfl, hc 22 _ rfl, hc 23 _ rfl, by unfold rowR egRow; decide, by unfold idR; decide, by decide +kernel, by decide +kernel, by decide +kernel, by decide +kernel, rfl⟩
  · exact ⟨1, 6, true, (1, 2, 8), hc 24 _ rfl, hc 25 _ rfl, hc 26 _ rfl, hc 27 _ rfl, hc 28 _ rfl, hc 29 _ rfl, by unfold rowR egRow; decide, by unfold idR; decide, by decide +kernel, by decide +kernel, by decide +kernel, by decide +kernel, rfl⟩
  · exact ⟨2, 1, true, (2, 1, 0), hc 30 _ rfl, hc 31 _ rfl, hc 32 _ rfl, hc 33 _ rfl, hc 34 _ rfl, hc 35 _ rfl, by unfold rowR egRow; decide, by unfold idR; decide, by decide +kernel, by decide +kernel, by decide +kernel, by decide +kernel, rfl⟩
  · exact ⟨1, 3, false, (2, 1, 0), hc 36 _ rfl, hc 37 _ rfl, hc 38 _ rfl, hc 39 _ rfl, hc 40 _ rfl, hc 41 _ rfl, by unfold rowR egRow; decide, by unfold idR; decide, by decide +kernel, by decide +kernel, by decide +kernel, by decide +kernel, rfl⟩
set_option maxRecDepth 100000 in
set_option maxHeartbeats 4000000 in
theorem awake_any (w : World) (hT : Tab w) : Calls Tryd.prog 12 #[] w fun e w' => e = .returned (.bool true) ∧ Below w.heap.size w w' := by
  have HT := Lib.hid hT
  clear hT
  have B := Lib.hid (below_lit w (.cells #[.int .u16 0, .int .u32 0, .int .u64 0] 26))
  have KR := Lib.hid (RowBlk.new w (0, 0, 0))
  have hmk := fun w' : World => markeql (5, 2, 1) (5, 2, 1) w'
  simp only [decide_true] at hmk
  have heq : ∀ (b : Bool) (w' : World), (binOp .neq 4 (.bool b) (.bool b)).run Tryd.prog w' = .ok (.bool false) w' := fun b w' => (neq_bool b b w').trans (by cases b <;> rfl)
  go_enter Tryd.func12, Tryd.ntmps12
  go_upto_region 2 with fail
  generalize w.alloc (.cells #[.int .u16 0, .int .u32 0, .int .u64 0] 26) = w1 at *
  go_wp2
  have hbl := below_lit w1 (.cells #[.int .i64 1, .int .i64 2, .bool true, .int .u16 1, .int .u32 0, .int .u64 2, .int .i64 1, .int .i64 1, .bool true, .int .u16 1, .int .u32 2, .int .u64 0, .int .i64 1, .int .i64 2, .bool false, .int .u16 1, .int .u32 2, .int .u64 0, .int .i64 1, .int .i64 7, .bool false, .int .u16 1, .int .u32 2, .int .u64 0, .int .i64 1, .int .i64 6, .bool true, .int .u16 1, .int .u32 2, .int .u64 8, .int .i64 2, .int .i64 1, .bool true, .int .u16 2, .int .u32 1, .int .u64 0, .int .i64 1, .int .i64 3, .bool false, .int .u16 2, .int .u32 1, .int .u64 0] 51)
  have KG : Hid (egB (w1.alloc (.cells #[.int .i64 1, .int .i64 2, .bool true, .int .u16 1, .int .u32 0, .int .u64 2, .int .i64 1, .int .i64 1, .bool true, .int .u16 1, .int .u32 2, .int .u64 0, .int .i64 1, .int .i64 2, .bool false, .int .u16 1, .int .u32 2, .int .u64 0, .int .i64 1, .int .i64 7, .bool false, .int .u16 1, .int .u32 2, .int .u64 0, .int .i64 1, .int .i64 6, .bool true, .int .u16 1, .int .u32 2, .int .u64 8, .int .i64 2, .int .i64 1, .bool true, .int .u16 2, .int .u32 1, .int .u64 0, .int .i64 1, .int .i64 3, .bool false, .int .u16 2, .int .u32 1, .int .u64 0] 51)) w1.heap.size) := heap_alloc_new w1 _
  have LT : Hid (w.heap.size < w1.heap.size) := KR.out.lt
  replace KR := Lib.hid (KR.out.next hbl)
  replace B := Lib.hid (thn B.out hbl)
  clear hbl
  generalize w1.alloc (.cells #[.int .i64 1, .int .i64 2, .bool true, .int .u16 1, .int .u32 0, .int .u64 2, .int .i64 1, .int .i64 1, .bool true, .int .u16 1, .int .u32 2, .int .u64 0, .int .i64 1, .int .i64 2, .bool false, .int .u16 1, .int .u32 2, .int .u64 0, .int .i64 1, .int .i64 7, .bool false, .int .u16 1, .int .u32 2, .int .u64 0, .int .i64 1, .int .i64 6, .bool true, .int .u16 1, .int .u32 2, .int .u64 8, .int .i64 2, .int .i64 1, .bool true, .int .u16 2, .int .u32 1, .int .u64 0, .int .i64 1, .int .i64 3, .bool false, .int .u16 2, .int .u32 1, .int .u64 0] 51) = w2 at *
  obtain ⟨gg, hgg⟩ : ∃ g, w1.heap.size = g := ⟨_, rfl⟩
  rw [hgg] at KG LT ⊢
  clear hgg
  obtain ⟨gr, hgr⟩ : ∃ g, w.heap.size = g := ⟨_, rfl⟩
  rw [hgr] at KR LT ⊢
  have n1 : gr ≠ gg := Nat.ne_of_lt LT.out
  have n2 : gg ≠ gr := n1.symm
  have HGR := Lib.hid hgr
  have LR : Hid (w.heap.size ≤ gr) := Nat.le_of_eq hgr
  clear hgr LT
  go_loopw [23] (fun i wr => ∃ j : Nat, j ≤ 7 ∧ i = .int .i64 j ∧ Hid (RowBlk wr gr (egRow j)) ∧ Hid (egB wr gg) ∧ Hid (Below w.heap.size w wr)) (fun i _ => 7 - (intOf i).toNat)
  case atStart => exact ⟨0, by omega, rfl, KR, KG, B⟩
  case round =>
    clear KR KG B
    obtain ⟨j, hj, rfl, KR, KG, B⟩ := hrel
    have i0 : (0 : Int) ≤ (j : Int) := by omega
    by_cases hlt : j < 7
    · have i1 : (j : Int) < 7 := by omega
      obtain ⟨i, s, b, q, E⟩ := eg_at KG.out hlt
      have HE := Lib.hid E
      obtain ⟨_, ⟨ir0, ir1⟩, sr0, sr1⟩ := E.ir
      have HR := Lib.hid E.right
      have hrow := E.next
      have hneq := fun w' : World => (rowneq q q w').trans (by rw [decide_eq_true rfl])
      simp only [Bool.not_true] at hneq
      have hbb := heq b
      have HH := Lib.hid heq
      clear heq E
      simp only at ir0 ir1 sr0 sr1
      obtain ⟨ro, hro⟩ : ∃ r, egRow j = r := ⟨_, rfl⟩
      have HRO := Lib.hid hro
      have HROW := Lib.hid hrow
      rw [hro] at KR
      clear hro hrow
      obtain ⟨e0, e1, e2, e3, e4, e5⟩ : _ ∧ _ ∧ _ ∧ _ ∧ _ ∧ _ := ⟨HE.out.c0, HE.out.c1, HE.out.c2, HE.out.c3, HE.out.c4, HE.out.c5⟩
      go_upto_region 5 with fail
      clear e0 e1 e2 e3 e4 e5
      have KEh : Hid ((wr.alloc (.cells #[.int .i64 i, .int .i64 s, .bool b, .int .u16 q.1, .int .u32 q.2.1, .int .u64 q.2.2] 51)).heap[wr.heap.size]? = some (.cells #[.int .i64 i, .int .i64 s, .bool b, .int .u16 q.1, .int .u32 q.2.1, .int .u64 q.2.2] 51 (0, 0))) := heap_alloc_new wr _
      have hbl := below_lit wr (.cells #[.int .i64 i, .int .i64 s, .bool b, .int .u16 q.1, .int .u32 q.2.1, .int .u64 q.2.2] 51)
      replace KR := Lib.hid (KR.out.next hbl)
      replace KG := Lib.hid (KG.out.next hbl)
      replace B := Lib.hid (thn B.out hbl)
      clear hbl
      generalize wr.alloc (.cells #[.int .i64 i, .int .i64 s, .bool b, .int .u16 q.1, .int .u32 q.2.1, .int .u64 q.2.2] 51) = wa at *
      obtain ⟨ge, hge⟩ : ∃ g, wr.heap.size = g := ⟨_, rfl⟩
      rw [hge] at KEh ⊢
      clear hge
      obtain ⟨e0, e1, e2⟩ : wa.cell? ⟨ge, 0, none⟩ = some (.int .i64 i) ∧ wa.cell? ⟨ge, 1, none⟩ = some (.int .i64 s) ∧ wa.cell? ⟨ge, 2, none⟩ = some (.bool b) := by have h := KEh.out; simp [World.cell?, h]
      obtain ⟨pKR, qKR, rKR⟩ := KR.out.cells
      go_wp2_with fail
      have hc : Calls Tryd.prog 13 #[(.agg #[.int .u16 ro.1, .int .u32 ro.2.1, .int .u64 ro.2.2]), .agg #[.int .u8 0, .int .u16 i, .int .u32 s], .int .i64 4] wa fun e w' => e = .returned (.tuple #[(.agg #[.int .u16 q.1, .int .u32 q.2.1, .int .u64 q.2.2]), .bool b]) ∧ Below wa.heap.size wa w' := by
        have E := HE.out
        have h1 := HR.out
        have r1 := E.rr
        have m1 := E.may
        rw [HRO.out] at h1 r1 m1
        cases b with
        | true =>
          have y1 := E.yes rfl
          rw [HRO.out] at y1
          have := take_yes ro (0, i, s) 4 wa r1 E.ir h1 m1 (HT.out.next B.out)
          rw [y1] at this
          exact this
        | false =>
          have y1 := E.no rfl
          rw [HRO.out] at y1
          have := take_no ro (0, i, s) 4 wa r1 E.ir m1
          rw [← y1]
          exact this
      refine hc.mono ?_
      clear hc
      clear pKR qKR rKR
      clear e0 e1 e2
      rintro e wb ⟨rfl, b5⟩
      replace KEh := Lib.hid ((b5.block ge (Array.getElem?_eq_some_iff.1 KEh.out).1).trans KEh.out)
      replace KR := Lib.hid (KR.out.next b5)
      replace KG := Lib.hid (KG.out.next b5)
      replace B := Lib.hid (thn B.out b5)
      clear b5
      go_upto_region 6 with fail
      have KN : Hid (RowBlk (wb.alloc (.cells #[.int .u16 q.1, .int .u32 q.2.1, .int .u64 q.2.2] 26)) wb.heap.size q) := RowBlk.new wb q
      have hbl := below_lit wb (.cells #[.int .u16 q.1, .int .u32 q.2.1, .int .u64 q.2.2] 26)
      have hge5 := (Array.getElem?_eq_some_iff.1 KEh.out).1
      replace KEh := Lib.hid ((hbl.block ge (Array.getElem?_eq_some_iff.1 KEh.out).1).trans KEh.out)
      have hn1 : Hid (gr < wb.heap.size ∧ gg < wb.heap.size ∧ ge < wb.heap.size) := ⟨KR.out.lt, KG.out.lt, hge5⟩
      replace KR := Lib.hid (KR.out.next hbl)
      replace KG := Lib.hid (KG.out.next hbl)
      replace B := Lib.hid (thn B.out hbl)
      clear hbl hge5
      generalize wb.alloc (.cells #[.int .u16 q.1, .int .u32 q.2.1, .int .u64 q.2.2] 26) = wc at *
      obtain ⟨gn, hgn⟩ : ∃ g, wb.heap.size = g := ⟨_, rfl⟩
      rw [hgn] at KN hn1 ⊢
      clear hgn
      have n3 : gr ≠ gn := Nat.ne_of_lt hn1.out.1
      have n4 : gn ≠ gr := n3.symm
      have n5 : ge ≠ gn := Nat.ne_of_lt hn1.out.2.2
      have n6 : gn ≠ ge := n5.symm
      clear hn1
      obtain ⟨e2, e3, e4, e5⟩ : wc.cell? ⟨ge, 2, none⟩ = some (.bool b) ∧ wc.cell? ⟨ge, 3, none⟩ = some (.int .u16 q.1) ∧ wc.cell? ⟨ge, 4, none⟩ = some (.int .u32 q.2.1) ∧ wc.cell? ⟨ge, 5, none⟩ = some (.int .u64 q.2.2) := by have h := KEh.out; simp [World.cell?, h]
      obtain ⟨pKR, qKR, rKR⟩ := KR.out.cells
      obtain ⟨pKN, qKN, rKN⟩ := KN.out.cells
      have fKR := KR.out.free
      go_wp2
      have hgw := grown_set3 wc gr (.int .u16 q.1) (.int .u32 q.2.1) (.int .u64 q.2.2)
      have KR2 : Hid (RowBlk (((wc.setCell ⟨gr, 0, none⟩ (.int .u16 q.1)).setCell ⟨gr, 1, none⟩ (.int .u32 q.2.1)).setCell ⟨gr, 2, none⟩ (.int .u64 q.2.2)) gr (egRow (j + 1))) := by unfold Hid; rw [HROW.out]; exact KR.out.store q
      go_roundw
      case rel => exact ⟨j + 1, by omega, by go_num, KR2, KG.out.grown hgw n2, belowG B.out hgw B.out.size LR.out⟩
      case measure => simp [intOf]; omega
    · obtain rfl : j = 7 := by omega
      replace KR : Hid (RowBlk wr gr (2, 1, 0)) := KR
      obtain ⟨pKR, qKR, rKR⟩ := KR.out.cells
      go_wp2_with fail
      have hc := mark_any 5 (2, 1, 0) wr
      refine hc.mono ?_
      clear hc
      clear pKR qKR rKR
      rintro e w71 ⟨rfl, b5⟩
      replace KR := Lib.hid (KR.out.next b5)
      replace B := Lib.hid (thn B.out b5)
      clear b5
      go_wp2
      go_ret
      exact ⟨rfl, by rw [HGR.out]; exact HGR.out ▸ B.out⟩
end Go.Proofs.YtkdlgejkgcojkaaDoor
