/- Layer 11: waits: sample.Tick, Answer, and the reference's. -/
import Derived.Test.YtdkchiodepdclaaZb
import Derived.RegionTactic
import Derived.Deep.Cut
namespace Go.Proofs.Ytdkchiodepdclaa
open Go.RowKit
set_option linter.unusedVariables false
theorem box2_w (w : World) (s : Wn) (h : Hd) : Hid (WBlk ((w.alloc (.cells #[.bool s.1, .int .u8 s.2.1, .int .u8 s.2.2, .slice h.1 h.2.1 h.2.2] 31)).alloc (.cells #[.bool false, .int .u8 0, .int .u8 0, .slice none 0 0] 31)) w.heap.size s h) ∧ Hid (WBlk ((w.alloc (.cells #[.bool s.1, .int .u8 s.2.1, .int .u8 s.2.2, .slice h.1 h.2.1 h.2.2] 31)).alloc (.cells #[.bool false, .int .u8 0, .int .u8 0, .slice none 0 0] 31)) (w.heap.size + 1) wz hz0) ∧ Hid (Below w.heap.size w ((w.alloc (.cells #[.bool s.1, .int .u8 s.2.1, .int .u8 s.2.2, .slice h.1 h.2.1 h.2.2] 31)).alloc (.cells #[.bool false, .int .u8 0, .int .u8 0, .slice none 0 0] 31))) := by
  refine ⟨(WBlk.new w s h).next (below_lit _ _), ?_, thn (below_lit _ _) (below_lit _ _)⟩
  have := WBlk.new (w.alloc (.cells #[.bool s.1, .int .u8 s.2.1, .int .u8 s.2.2, .slice h.1 h.2.1 h.2.2] 31)) wz hz0; unfold Hid; simpa using this
theorem drewB {n0 : Nat} {w w' : World} (h : Below n0 w w') : Below n0 w w'.drew := h.drew
theorem WBlk.drew {w : World} {g : Nat} {s : Wn} {h : Hd} (k : WBlk w g s h) : WBlk w.drew g s h := k
set_option maxHeartbeats 2000000 in
theorem tick_any (s : Wn) (A : Option Addr) (n c : Nat) (xs : List (Dsc × Hd)) (w : World) (h : Sds w A n c xs) (hf : Fit n xs) (hs : s.2.2 ≤ 255) : Calls Try.prog 12 #[(.agg #[.bool s.1, .int .u8 s.2.1, .int .u8 s.2.2, .slice ((A, n, c) : Hd).1 ((A, n, c) : Hd).2.1 ((A, n, c) : Hd).2.2])] w (GaveWt (tickW s) (tickS s (xs.map (·.1))) (tickP s) (tickB s) w) := by
  obtain ⟨b, nd, lf⟩ := s
  dsimp only at hs ⊢
  obtain ⟨KW, KR, B⟩ := box2_w w (b, nd, lf) (A, n, c)
  have HS := Lib.hid (h.next B.out)
  have HF := Lib.hid hf
  clear h hf
  dsimp only at KW KR B HS
  cases b
  · skip
    go_enter Try.func12, Try.ntmps12
    go_upto_region 1 with fail
    generalize (w.alloc _).alloc _ = w1 at *
    obtain ⟨g, hg⟩ : ∃ g, w.heap.size = g := ⟨_, rfl⟩
    obtain ⟨r, hr⟩ : ∃ r, w.heap.size + 1 = r := ⟨_, rfl⟩
    have LR : Hid (w.heap.size ≤ r) := by unfold Hid; omega
    rw [hr] at KR ⊢
    rw [hg] at KW ⊢
    clear hg hr
    obtain ⟨p0, p1, p2, p3⟩ := KW.out.cells
    obtain ⟨q0, q1, q2, q3⟩ := KR.out.cells
    have f0 := KR.out.free 0
    have f1 := KR.out.free 1
    have f2 := KR.out.free 2
    have f3 := KR.out.free 3
    dsimp only at p0 p1 p2 p3
    go_wp2
    have KR4 := KR.out.wrote wz hz0
    have hg4 := grown_setv w1 r (.bool false) (.int .u8 0) (.int .u8 0) (.slice none 0 0)
    have B4 := belowG B.out hg4 B.out.size LR.out
    clear p0 p1 p2 p3 q0 q1 q2 q3 f0 f1 f2 f3
    obtain ⟨p0, p1, p2, p3⟩ := KR4.cells
    dsimp only at p0 p1 p2 p3
    refine bodyPost_ret (v := .tuple #[(.agg #[.bool wz.1, .int .u8 wz.2.1, .int .u8 wz.2.2, .slice hz0.1 hz0.2.1 hz0.2.2]), .int .u8 0, .bool false]) (by simp [results, Try.results12, go_sem, p0, p1, p2, p3]) rfl ⟨hz0, [], rfl, rfl, Dow.nil _ _, B4⟩
  · skip
    by_cases hl : lf ≤ 1
    · have e1 : tickW (true, nd, lf) = wz := by unfold tickW; rw [if_neg (by simp; omega)]
      have e2 : tickS (true, nd, lf) (xs.map (·.1)) = [] := by unfold tickS; rw [if_neg (by simp; omega)]
      have e3 : tickP (true, nd, lf) = nd := by unfold tickP; rw [if_pos ⟨rfl, hl⟩]
      have e4 : tickB (true, nd, lf) = true := by unfold tickB; simpa using hl
      rw [e1, e2, e3, e4]
      clear e1 e2 e3 e4
      go_enter Try.func12, Try.ntmps12
      go_upto_region 1 with fail
      generalize (w.alloc _).alloc _ = w1 at *
      obtain ⟨g, hg⟩ : ∃ g, w.heap.size = g := ⟨_, rfl⟩
      obtain ⟨r, hr⟩ : ∃ r, w.heap.size + 1 = r := ⟨_, rfl⟩
      have LR : Hid (w.heap.size ≤ r) := by unfold Hid; omega
      have ne1 : g ≠ r := by omega
      have ne2 : r ≠ g := by omega
      rw [hr] at KR ⊢
      rw [hg] at KW ⊢
      clear hg hr
      obtain ⟨p0, p1, p2, p3⟩ := KW.out.cells
      obtain ⟨q0, q1, q2, q3⟩ := KR.out.cells
      have f0 := KR.out.free 0
      have f1 := KR.out.free 1
      have f2 := KR.out.free 2
      have f3 := KR.out.free 3
      dsimp only at p0 p1 p2 p3
      go_upto_region 4 with fail
      go_region
      go_wp2
      have KR4 := KR.out.wrote wz hz0
      have hg4 := grown_setv w1 r (.bool false) (.int .u8 0) (.int .u8 0) (.slice none 0 0)
      have B4 := drewB (belowG B.out hg4 B.out.size LR.out)
      clear p0 p1 p2 p3 q0 q1 q2 q3 f0 f1 f2 f3
      obtain ⟨p0, p1, p2, p3⟩ := KR4.cells
      dsimp only at p0 p1 p2 p3
      refine bodyPost_ret (v := .tuple #[(.agg #[.bool wz.1, .int .u8 wz.2.1, .int .u8 wz.2.2, .slice hz0.1 hz0.2.1 hz0.2.2]), .int .u8 nd, .bool true]) (by simp [results, Try.results12, go_sem, p0, p1, p2, p3]) rfl ⟨hz0, [], rfl, rfl, Dow.nil _ _, B4⟩
    · have e1 : tickW (true, nd, lf) = (true, nd, mx (lf - 1)) := by unfold tickW mx; rw [if_pos ⟨rfl, by show 1 < lf; omega⟩, show max (lf - 1) 1 = lf - 1 by omega]
      have e2 : tickS (true, nd, lf) (xs.map (·.1)) = xs.map (·.1) := by unfold tickS; rw [if_pos ⟨rfl, by show 1 < lf; omega⟩]
      have e3 : tickP (true, nd, lf) = 0 := by unfold tickP; rw [if_neg (by simp; omega)]
      have e4 : tickB (true, nd, lf) = false := by unfold tickB; simp; omega
      have hl1 : (1 : Int) < lf := by omega
      rw [e1, e2, e3, e4]
      clear e1 e2 e3 e4
      go_enter Try.func12, Try.ntmps12
      go_upto_region 1 with fail
      generalize (w.alloc _).alloc _ = w1 at *
      obtain ⟨g, hg⟩ : ∃ g, w.heap.size = g := ⟨_, rfl⟩
      obtain ⟨r, hr⟩ : ∃ r, w.heap.size + 1 = r := ⟨_, rfl⟩
      have LR : Hid (w.heap.size ≤ r) := by unfold Hid; omega
      rw [hr] at KR ⊢
      rw [hg] at KW ⊢
      clear hg hr
      obtain ⟨p0, p1, p2, p3⟩ := KW.out.cells
      dsimp only at p0 p1 p2 p3
      go_wp2_with fail
      refine (start_any nd (lf - 1) A n c xs w1 HS.out HF.out).mono ?_
      rintro e w2 ⟨k, zs, rfl, hz, dz, b2⟩
      have HZ := Lib.hid hz
      have D2 := Lib.hid dz
      have LT := Lib.hid KR.out.lt
      have KR2 := Lib.hid (KR.out.next b2)
      have L1 := Lib.hid B.out.size
      have B2 := Lib.hid (thn B.out b2)
      clear hz dz b2 KR KW HS B p0 p1 p2 p3
      obtain ⟨m, hm⟩ : ∃ m, mx (lf - 1) = m := ⟨_, rfl⟩
      have HM := Lib.hid hm
      rw [hm]
      clear hm
      obtain ⟨q0, q1, q2, q3⟩ := KR2.out.cells
      have f0 := KR2.out.free 0
      have f1 := KR2.out.free 1
      have f2 := KR2.out.free 2
      have f3 := KR2.out.free 3
      go_wp2
      have KR4 := KR2.out.wrote (true, nd, m) k
      have hg4 := grown_setv w2 r (.bool true) (.int .u8 nd) (.int .u8 m) (.slice k.1 k.2.1 k.2.2)
      have D4 := D2.out.grownN hg4 LT.out
      have B4 := belowG B2.out hg4 B2.out.size LR.out
      clear q0 q1 q2 q3 f0 f1 f2 f3
      obtain ⟨p0, p1, p2, p3⟩ := KR4.cells
      dsimp only at p0 p1 p2 p3
      refine bodyPost_ret (v := .tuple #[(.agg #[.bool ((true, nd, m) : Wn).1, .int .u8 ((true, nd, m) : Wn).2.1, .int .u8 ((true, nd, m) : Wn).2.2, .slice k.1 k.2.1 k.2.2]), .int .u8 0, .bool false]) (by simp [results, Try.results12, go_sem, p0, p1, p2, p3]) rfl ⟨k, zs, by rw [HM.out], HZ.out, D4.mono L1.out, B4⟩
end Go.Proofs.Ytdkchiodepdclaa
