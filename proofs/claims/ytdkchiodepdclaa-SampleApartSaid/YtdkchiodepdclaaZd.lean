/- Layer 11: waits: the reference's Tick; sample.Answer, and the reference's. -/
import Derived.Test.YtdkchiodepdclaaZc
namespace Go.Proofs.Ytdkchiodepdclaa
open Go.RowKit
set_option linter.unusedVariables false
def tickH (s : Wn) (h : Hd) : Hd := if s.1 = true ∧ 1 < s.2.2 then h else hz0
set_option maxHeartbeats 2000000 in
theorem reftick_any (s : Wn) (h : Hd) (w : World) (hs : s.1 = true → 1 ≤ s.2.2 ∧ s.2.2 ≤ 255) : Calls Try.prog 13 #[(.agg #[.bool s.1, .int .u8 s.2.1, .int .u8 s.2.2, .slice h.1 h.2.1 h.2.2])] w fun e w' => e = .returned (.tuple #[(.agg #[.bool (tickW s).1, .int .u8 (tickW s).2.1, .int .u8 (tickW s).2.2, .slice (tickH s h).1 (tickH s h).2.1 (tickH s h).2.2]), .int .u8 (tickP s), .bool (tickB s)]) ∧ Below w.heap.size w w' := by
  obtain ⟨b, nd, lf⟩ := s
  obtain ⟨A, n, c⟩ := h
  dsimp only at hs ⊢
  obtain ⟨KW, KR, B⟩ := box2_w w (b, nd, lf) (A, n, c)
  dsimp only at KW KR B
  cases b
  · skip
    clear hs
    have e1 : tickW (false, nd, lf) = wz := by unfold tickW; rw [if_neg (by simp)]
    have e2 : tickH (false, nd, lf) (A, n, c) = hz0 := by unfold tickH; rw [if_neg (by simp)]
    have e3 : tickP (false, nd, lf) = 0 := by unfold tickP; rw [if_neg (by simp)]
    have e4 : tickB (false, nd, lf) = false := by unfold tickB; simp
    rw [e1, e2, e3, e4]
    clear e1 e2 e3 e4
    go_enter Try.func13, Try.ntmps13
    go_upto_region 1 with fail
    generalize (w.alloc _).alloc _ = w1 at *
    obtain ⟨g, hg⟩ : ∃ g, w.heap.size = g := ⟨_, rfl⟩
    obtain ⟨r, hr⟩ : ∃ r, w.heap.size + 1 = r := ⟨_, rfl⟩
    have LR : Hid (w.heap.size ≤ r) := by unfold Hid; omega
    rw [hr] at KR ⊢
    rw [hg] at KW ⊢
    clear hg hr
    obtain ⟨p0, p1, p2, p3⟩ := KW.out.cells
    obtain ⟨q0, q1, q2, q3⟩ := KR.out.cells
    have f0 := KR.out.free 0
    have f1 := KR.out.free 1
    have f2 := KR.out.free 2
    have f3 := KR.out.free 3
    dsimp only at p0 p1 p2 p3
    go_wp2
    have KR4 := KR.out.wrote wz hz0
    have hg4 := grown_setv w1 r (.bool false) (.int .u8 0) (.int .u8 0) (.slice none 0 0)
    have B4 := belowG B.out hg4 B.out.size LR.out
    clear p0 p1 p2 p3 q0 q1 q2 q3 f0 f1 f2 f3
    obtain ⟨p0, p1, p2, p3⟩ := KR4.cells
    dsimp only at p0 p1 p2 p3
    refine bodyPost_ret (v := .tuple #[(.agg #[.bool wz.1, .int .u8 wz.2.1, .int .u8 wz.2.2, .slice hz0.1 hz0.2.1 hz0.2.2]), .int .u8 0, .bool false]) (by simp [results, Try.results13, go_sem, p0, p1, p2, p3]) rfl ⟨rfl, B4⟩
  · skip
    obtain ⟨hl1, hl2⟩ := hs rfl
    by_cases hl : lf = 1
    · have e1 : tickW (true, nd, lf) = wz := by unfold tickW; rw [if_neg (by simp; omega)]
      have e2 : tickH (true, nd, lf) (A, n, c) = hz0 := by unfold tickH; rw [if_neg (by simp; omega)]
      have e3 : tickP (true, nd, lf) = nd := by unfold tickP; rw [if_pos ⟨rfl, by show lf ≤ 1; omega⟩]
      have e4 : tickB (true, nd, lf) = true := by unfold tickB; simp; omega
      have hb : (lf == 1) = true := by simp [hl]
      rw [e1, e2, e3, e4]
      clear e1 e2 e3 e4 hl hl1 hl2 hs
      go_enter Try.func13, Try.ntmps13
      go_upto_region 1 with fail
      generalize (w.alloc _).alloc _ = w1 at *
      obtain ⟨g, hg⟩ : ∃ g, w.heap.size = g := ⟨_, rfl⟩
      obtain ⟨r, hr⟩ : ∃ r, w.heap.size + 1 = r := ⟨_, rfl⟩
      have LR : Hid (w.heap.size ≤ r) := by unfold Hid; omega
      have ne1 : g ≠ r := by omega
      have ne2 : r ≠ g := by omega
      rw [hr] at KR ⊢
      rw [hg] at KW ⊢
      clear hg hr
      obtain ⟨p0, p1, p2, p3⟩ := KW.out.cells
      obtain ⟨q0, q1, q2, q3⟩ := KR.out.cells
      have f0 := KR.out.free 0
      have f1 := KR.out.free 1
      have f2 := KR.out.free 2
      have f3 := KR.out.free 3
      dsimp only at p0 p1 p2 p3
      go_upto_region 4 with fail
      go_region
      go_wp2
      have KR4 := KR.out.wrote wz hz0
      have hg4 := grown_setv w1 r (.bool false) (.int .u8 0) (.int .u8 0) (.slice none 0 0)
      have B4 := drewB (belowG B.out hg4 B.out.size LR.out)
      clear p0 p1 p2 p3 q0 q1 q2 q3 f0 f1 f2 f3
      obtain ⟨p0, p1, p2, p3⟩ := KR4.cells
      dsimp only at p0 p1 p2 p3
      refine bodyPost_ret (v := .tuple #[(.agg #[.bool wz.1, .int .u8 wz.2.1, .int .u8 wz.2.2, .slice hz0.1 hz0.2.1 hz0.2.2]), .int .u8 nd, .bool true]) (by simp [results, Try.results13, go_sem, p0, p1, p2, p3]) rfl ⟨rfl, B4⟩
    · have e1 : tickW (true, nd, lf) = (true, nd, lf - 1) := by unfold tickW; rw [if_pos ⟨rfl, by show 1 < lf; omega⟩]
      have e2 : tickH (true, nd, lf) (A, n, c) = (A, n, c) := by unfold tickH; rw [if_pos ⟨rfl, by show 1 < lf; omega⟩]
      have e3 : tickP (true, nd, lf) = 0 := by unfold tickP; rw [if_neg (by simp; omega)]
      have e4 : tickB (true, nd, lf) = false := by unfold tickB; simp; omega
      have hl3 : (1 : Int) < lf := by omega
      have hb : (lf == 1) = false := by simp [hl]
      rw [e1, e2, e3, e4]
      clear e1 e2 e3 e4 hl hl1 hs
      go_enter Try.func13, Try.ntmps13
      go_upto_region 1 with fail
      generalize (w.alloc _).alloc _ = w1 at *
      obtain ⟨g, hg⟩ : ∃ g, w.heap.size = g := ⟨_, rfl⟩
      obtain ⟨r, hr⟩ : ∃ r, w.heap.size + 1 = r := ⟨_, rfl⟩
      have LR : Hid (w.heap.size ≤ r) := by unfold Hid; omega
      have LG : Hid (w.heap.size ≤ g) := by unfold Hid; omega
      have NE : Hid (r ≠ g) := by unfold Hid; omega
      rw [hr] at KR ⊢
      rw [hg] at KW ⊢
      clear hg hr
      obtain ⟨p0, p1, p2, p3⟩ := KW.out.cells
      have f2 := KW.out.free 2
      dsimp only at p0 p1 p2 p3
      go_upto_region 6 with fail
      have hgs := grown_set w1 g 2 (.int .u8 (lf - 1))
      have KW2 := Lib.hid (KW.out.put2 (lf - 1))
      have KR2 := Lib.hid (KR.out.grown hgs NE.out)
      have B2 := Lib.hid (belowG B.out hgs B.out.size LG.out)
      clear p0 p1 p2 p3 f2 hgs KW KR B
      generalize w1.setCell ⟨g, 2, none⟩ (.int .u8 (lf - 1)) = w2 at *
      obtain ⟨p0, p1, p2, p3⟩ := KW2.out.cells
      obtain ⟨q0, q1, q2, q3⟩ := KR2.out.cells
      have f0 := KR2.out.free 0
      have f1 := KR2.out.free 1
      have f2 := KR2.out.free 2
      have f3 := KR2.out.free 3
      dsimp only at p0 p1 p2 p3
      go_wp2
      have KR4 := KR2.out.wrote (true, nd, lf - 1) (A, n, c)
      have hg4 := grown_setv w2 r (.bool true) (.int .u8 nd) (.int .u8 (lf - 1)) (.slice A n c)
      have B4 := belowG B2.out hg4 B2.out.size LR.out
      clear p0 p1 p2 p3 q0 q1 q2 q3 f0 f1 f2 f3
      obtain ⟨p0, p1, p2, p3⟩ := KR4.cells
      dsimp only at p0 p1 p2 p3
      refine bodyPost_ret (v := .tuple #[(.agg #[.bool ((true, nd, lf - 1) : Wn).1, .int .u8 ((true, nd, lf - 1) : Wn).2.1, .int .u8 ((true, nd, lf - 1) : Wn).2.2, .slice ((A, n, c) : Hd).1 ((A, n, c) : Hd).2.1 ((A, n, c) : Hd).2.2]), .int .u8 0, .bool false]) (by simp [results, Try.results13, go_sem, p0, p1, p2, p3]) rfl ⟨rfl, B4⟩
end Go.Proofs.Ytdkchiodepdclaa
