/- Layer 11: waits: sample.Start, Tick, Answer, and the reference's; the law's Same. -/
import Derived.Test.YtdkchiodepdclaaZa
import Derived.Test.YtdkchiodepdclaaRbc
namespace Go.Proofs.Ytdkchiodepdclaa
open Go.RowKit
set_option linter.unusedVariables false
/-- A wait in a block of its own. -/
def WBlk (w : World) (g : Nat) (s : Wn) (h : Hd) : Prop := w.heap[g]? = some (.cells #[.bool s.1, .int .u8 s.2.1, .int .u8 s.2.2, .slice h.1 h.2.1 h.2.2] 31 (0, 0))
section
variable {w w' : World} {g b : Nat} {s : Wn} {h : Hd}
theorem WBlk.new (w : World) (s : Wn) (h : Hd) : WBlk (w.alloc (.cells #[.bool s.1, .int .u8 s.2.1, .int .u8 s.2.2, .slice h.1 h.2.1 h.2.2] 31)) w.heap.size s h := heap_alloc_new w _
theorem WBlk.lt (k : WBlk w g s h) : g < w.heap.size := (Array.getElem?_eq_some_iff.1 k).1
theorem WBlk.next (k : WBlk w g s h) (hb : Below w.heap.size w w') : WBlk w' g s h := (hb.block g k.lt).trans k
theorem WBlk.cells (k : WBlk w g s h) : w.cell? ⟨g, 0, none⟩ = some (.bool s.1) ∧ w.cell? ⟨g, 1, none⟩ = some (.int .u8 s.2.1) ∧ w.cell? ⟨g, 2, none⟩ = some (.int .u8 s.2.2) ∧ w.cell? ⟨g, 3, none⟩ = some (.slice h.1 h.2.1 h.2.2) := by
  unfold WBlk at k; simp [World.cell?, k]
theorem WBlk.free (k : WBlk w g s h) : ∀ i, w.frozen? ⟨g, i, none⟩ = false := fun i => by unfold WBlk at k; simp [World.frozen?, k]
theorem WBlk.grown (k : WBlk w b s h) (hg : w.grownBy w' (some g)) (hne : b ≠ g) : WBlk w' b s h := (hg.block b k.lt (by simpa using hne)).trans k
theorem WBlk.wrote (k : WBlk w g s h) (s2 : Wn) (h2 : Hd) : WBlk ((((w.setCell ⟨g, 0, none⟩ (.bool s2.1)).setCell ⟨g, 1, none⟩ (.int .u8 s2.2.1)).setCell ⟨g, 2, none⟩ (.int .u8 s2.2.2)).setCell ⟨g, 3, none⟩ (.slice h2.1 h2.2.1 h2.2.2)) g s2 h2 := by
  have k0 : WBlk (w.setCell ⟨g, 0, none⟩ (.bool s2.1)) g (s2.1, s.2) h := Go.Joins.block_setCell (i := 0) k (.bool s2.1)
  have k1 : WBlk ((w.setCell ⟨g, 0, none⟩ (.bool s2.1)).setCell ⟨g, 1, none⟩ (.int .u8 s2.2.1)) g (s2.1, s2.2.1, s.2.2) h := Go.Joins.block_setCell (i := 1) k0 (.int .u8 s2.2.1)
  have k2 : WBlk (((w.setCell ⟨g, 0, none⟩ (.bool s2.1)).setCell ⟨g, 1, none⟩ (.int .u8 s2.2.1)).setCell ⟨g, 2, none⟩ (.int .u8 s2.2.2)) g (s2.1, s2.2.1, s2.2.2) h := Go.Joins.block_setCell (i := 2) k1 (.int .u8 s2.2.2)
  exact Go.Joins.block_setCell (i := 3) k2 (.slice h2.1 h2.2.1 h2.2.2)
theorem WBlk.put3 (k : WBlk w g s h) (h' : Hd) : WBlk (w.setCell ⟨g, 3, none⟩ (.slice h'.1 h'.2.1 h'.2.2)) g s h' := Go.Joins.block_setCell (i := 3) k (.slice h'.1 h'.2.1 h'.2.2)
theorem WBlk.put2 (k : WBlk w g s h) (v : Int) : WBlk (w.setCell ⟨g, 2, none⟩ (.int .u8 v)) g (s.1, s.2.1, v) h := Go.Joins.block_setCell (i := 2) k (.int .u8 v)
end
theorem grown_setv (w : World) (g : Nat) (v0 v1 v2 v3 : Value) : w.grownBy ((((w.setCell ⟨g, 0, none⟩ v0).setCell ⟨g, 1, none⟩ v1).setCell ⟨g, 2, none⟩ v2).setCell ⟨g, 3, none⟩ v3) (some g) :=
  grown_two (grown_two (grown_two (grown_set _ _ _ _) (grown_set _ _ _ _)) (grown_set _ _ _ _)) (grown_set _ _ _ _)
theorem Dow.grownN {w w' : World} {B g : Nat} {A : Option Addr} {n c : Nat} {xs : List (Dsc × Hd)} (h : Dow w B A n c xs) (hg : w.grownBy w' (some g)) (hlt : g < B) : Dow w' B A n c xs :=
  ⟨h.ow.grown hg fun q hq => by have := (h.ow.near q hq).1; omega, fun x hx => (h.fo x hx).grown hg fun q hq => by have := ((h.fo x hx).near q hq).1; omega⟩
theorem Sn.grownO {w w' : World} {k s : Nat} {A : Option Addr} {n c : Nat} {xs : List Value} (h : Sn w k s A n c xs) (hg : Below k w w') : Sn w' k s A n c xs := h.below hg
abbrev wz : Wn := (false, 0, 0)
abbrev hz0 : Hd := (none, 0, 0)
def mx (l : Int) : Int := max l 1
/-- What a call hands back: a wait; a wait, a node and whether it is given up; a wait, what was sent, and whether it is answered: in memory of its own. -/
def GaveW (s : Wn) (ds : List Dsc) (w : World) (e : Ending) (w' : World) : Prop := ∃ (h : Hd) (zs : List (Dsc × Hd)), e = .returned (.agg #[.bool s.1, .int .u8 s.2.1, .int .u8 s.2.2, .slice h.1 h.2.1 h.2.2]) ∧ zs.map (·.1) = ds ∧ Dow w' w.heap.size h.1 h.2.1 h.2.2 zs ∧ Below w.heap.size w w'
def GaveWt (s : Wn) (ds : List Dsc) (p : Int) (b : Bool) (w : World) (e : Ending) (w' : World) : Prop := ∃ (h : Hd) (zs : List (Dsc × Hd)), e = .returned (.tuple #[(.agg #[.bool s.1, .int .u8 s.2.1, .int .u8 s.2.2, .slice h.1 h.2.1 h.2.2]), .int .u8 p, .bool b]) ∧ zs.map (·.1) = ds ∧ Dow w' w.heap.size h.1 h.2.1 h.2.2 zs ∧ Below w.heap.size w w'
def GaveWa (s : Wn) (ds : List Dsc) (bs : List Dsc) (b : Bool) (w : World) (e : Ending) (w' : World) : Prop := ∃ (h : Hd) (zs : List (Dsc × Hd)) (k : Hd) (ys : List (Dsc × Hd)), e = .returned (.tuple #[(.agg #[.bool s.1, .int .u8 s.2.1, .int .u8 s.2.2, .slice h.1 h.2.1 h.2.2]), .slice k.1 k.2.1 k.2.2, .bool b]) ∧ zs.map (·.1) = ds ∧ Dow w' w.heap.size h.1 h.2.1 h.2.2 zs ∧ ys.map (·.1) = bs ∧ Dow w' w.heap.size k.1 k.2.1 k.2.2 ys ∧ Below w.heap.size w w'
def ansB (s : Wn) (f : Int) : Bool := s.1 && decide (s.2.1 = f)
def ansW (s : Wn) (f : Int) : Wn := if ansB s f = true then wz else s
def ansL (s : Wn) (f : Int) (ds : List Dsc) : List Dsc := if ansB s f = true then [] else ds
def ansG (s : Wn) (f : Int) (ds : List Dsc) : List Dsc := if ansB s f = true then ds else []
theorem box_w (w : World) : WBlk (w.alloc (.cells #[.bool false, .int .u8 0, .int .u8 0, .slice none 0 0] 31)) w.heap.size wz hz0 := WBlk.new w wz hz0
set_option maxHeartbeats 2000000 in
theorem start_any (node left : Int) (A : Option Addr) (n c : Nat) (xs : List (Dsc × Hd)) (w : World) (h : Sds w A n c xs) (hf : Fit n xs) : Calls Try.prog 10 #[.int .u8 node, .int .u8 left, .slice A n c] w (GaveW (true, node, mx left) (xs.map (·.1)) w) := by
  have hbl := below_lit w (.cells #[.bool false, .int .u8 0, .int .u8 0, .slice none 0 0] 31)
  have KR := Lib.hid (box_w w)
  have HS := Lib.hid (h.next hbl)
  have HF := Lib.hid hf
  have LG : Hid (w.heap.size ≤ w.heap.size) := Nat.le_refl _
  have B := Lib.hid hbl
  obtain ⟨m, hm⟩ : ∃ m, max left 1 = m := ⟨_, rfl⟩
  have HM : Hid (mx left = m) := hm
  clear h hf hbl
  go_enter Try.func10, Try.ntmps10
  go_upto_region 1 with fail
  generalize w.alloc (.cells #[.bool false, .int .u8 0, .int .u8 0, .slice none 0 0] 31) = w1 at *
  obtain ⟨r, hr⟩ : ∃ r, w.heap.size = r := ⟨_, rfl⟩
  have LR : Hid (w.heap.size ≤ r) := Nat.le_of_eq hr
  rw [hr] at KR ⊢
  clear hr LG
  go_wp2_with fail
  refine (copyX_any A n c xs w1 HS.out (by have := HF.out.len; omega) (fun x hx => by have := (HF.out.all x hx).2; omega)).mono ?_
  rintro e w2 ⟨g, zs, rfl, hz, dz, b2⟩
  have HZ := Lib.hid hz
  have D2 := Lib.hid dz
  have LT := Lib.hid KR.out.lt
  have KR2 := Lib.hid (KR.out.next b2)
  have L1 := Lib.hid B.out.size
  have B2 := Lib.hid (thn B.out b2)
  clear hz dz b2 KR HS B
  obtain ⟨q0, q1, q2, q3⟩ := KR2.out.cells
  have f0 := KR2.out.free 0
  have f1 := KR2.out.free 1
  have f2 := KR2.out.free 2
  have f3 := KR2.out.free 3
  go_wp2
  have KR4 := KR2.out.wrote (true, node, m) (some ⟨g, 0, none⟩, n, n)
  have hg4 := grown_setv w2 r (.bool true) (.int .u8 node) (.int .u8 m) (.slice (some ⟨g, 0, none⟩) n n)
  have D4 := D2.out.grownN hg4 LT.out
  have B4 := belowG B2.out hg4 B2.out.size LR.out
  clear q0 q1 q2 q3 f0 f1 f2 f3
  obtain ⟨p0, p1, p2, p3⟩ := KR4.cells
  dsimp only at p0 p1 p2 p3
  refine bodyPost_ret (v := (.agg #[.bool ((true, node, m) : Wn).1, .int .u8 ((true, node, m) : Wn).2.1, .int .u8 ((true, node, m) : Wn).2.2, .slice ((some ⟨g, 0, none⟩, n, n) : Hd).1 ((some ⟨g, 0, none⟩, n, n) : Hd).2.1 ((some ⟨g, 0, none⟩, n, n) : Hd).2.2])) (by simp [results, Try.results10, go_sem, p0, p1, p2, p3]) rfl ⟨(some ⟨g, 0, none⟩, n, n), zs, by rw [HM.out], HZ.out, D4.mono L1.out, B4⟩
set_option maxHeartbeats 2000000 in
theorem refstart_any (node left : Int) (A : Option Addr) (n c : Nat) (w : World) (h0 : 0 ≤ left) : Calls Try.prog 11 #[.int .u8 node, .int .u8 left, .slice A n c] w fun e w' => e = .returned (.agg #[.bool ((true, node, mx left) : Wn).1, .int .u8 ((true, node, mx left) : Wn).2.1, .int .u8 ((true, node, mx left) : Wn).2.2, .slice ((A, n, c) : Hd).1 ((A, n, c) : Hd).2.1 ((A, n, c) : Hd).2.2]) ∧ Below w.heap.size w w' := by
  obtain ⟨m, hm⟩ : ∃ m, mx left = m := ⟨_, rfl⟩
  rw [hm]
  by_cases hl : left = 0
  · have hb : (left == 0) = true := by simp [hl]
    obtain rfl : m = 1 := by rw [← hm, hl]; decide
    clear hl hm
    go_enter Try.func11, Try.ntmps11
    go_wp2
    have KR := WBlk.new w (true, node, 1) (A, n, c)
    obtain ⟨p0, p1, p2, p3⟩ := KR.cells
    dsimp only at p0 p1 p2 p3
    refine bodyPost_ret (v := (.agg #[.bool ((true, node, 1) : Wn).1, .int .u8 ((true, node, 1) : Wn).2.1, .int .u8 ((true, node, 1) : Wn).2.2, .slice ((A, n, c) : Hd).1 ((A, n, c) : Hd).2.1 ((A, n, c) : Hd).2.2])) (by simp [results, Try.results11, go_sem, p0, p1, p2, p3]) rfl ⟨rfl, below_lit _ _⟩
  · have hb : (left == 0) = false := by simp [hl]
    obtain rfl : m = left := by rw [← hm]; unfold mx; omega
    clear hl hm
    go_enter Try.func11, Try.ntmps11
    go_wp2
    have KR := WBlk.new w (true, node, m) (A, n, c)
    obtain ⟨p0, p1, p2, p3⟩ := KR.cells
    dsimp only at p0 p1 p2 p3
    refine bodyPost_ret (v := (.agg #[.bool ((true, node, m) : Wn).1, .int .u8 ((true, node, m) : Wn).2.1, .int .u8 ((true, node, m) : Wn).2.2, .slice ((A, n, c) : Hd).1 ((A, n, c) : Hd).2.1 ((A, n, c) : Hd).2.2])) (by simp [results, Try.results11, go_sem, p0, p1, p2, p3]) rfl ⟨rfl, below_lit _ _⟩
end Go.Proofs.Ytdkchiodepdclaa
