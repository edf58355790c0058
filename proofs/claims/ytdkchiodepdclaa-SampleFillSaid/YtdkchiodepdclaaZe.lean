/- Layer 11: sample.Answer, and the reference's. -/
import Derived.Test.YtdkchiodepdclaaZd
namespace Go.Proofs.Ytdkchiodepdclaa
open Go.RowKit
set_option linter.unusedVariables false
def ansH (s : Wn) (f : Int) (h : Hd) : Hd := if ansB s f = true then hz0 else h
def ansK (s : Wn) (f : Int) (h : Hd) : Hd := if ansB s f = true then h else hz0
set_option maxHeartbeats 2000000 in
theorem refanswer_any (s : Wn) (f : Int) (h : Hd) (w : World) : Calls Try.prog 16 #[(.agg #[.bool s.1, .int .u8 s.2.1, .int .u8 s.2.2, .slice h.1 h.2.1 h.2.2]), .int .u8 f] w fun e w' => e = .returned (.tuple #[(.agg #[.bool (ansW s f).1, .int .u8 (ansW s f).2.1, .int .u8 (ansW s f).2.2, .slice (ansH s f h).1 (ansH s f h).2.1 (ansH s f h).2.2]), .slice (ansK s f h).1 (ansK s f h).2.1 (ansK s f h).2.2, .bool (ansB s f)]) ∧ Below w.heap.size w w' := by
  obtain ⟨A, n, c⟩ := h
  obtain ⟨b, nd, lf⟩ := s
  dsimp only
  obtain ⟨KW, KR, B⟩ := box2_w w (b, nd, lf) (A, n, c)
  dsimp only at KW KR B
  cases b
  · skip
    have e0 : ansB (false, nd, lf) f = false := by unfold ansB; simp
    rw [show ansW (false, nd, lf) f = (false, nd, lf) from if_neg (by rw [e0]; decide), show ansH (false, nd, lf) f (A, n, c) = (A, n, c) from if_neg (by rw [e0]; decide), show ansK (false, nd, lf) f (A, n, c) = hz0 from if_neg (by rw [e0]; decide), e0]
    clear e0
    go_enter Try.func16, Try.ntmps16
    go_upto_region 1 with fail
    generalize (w.alloc _).alloc _ = w1 at *
    obtain ⟨g, hg⟩ : ∃ g, w.heap.size = g := ⟨_, rfl⟩
    obtain ⟨r, hr⟩ : ∃ r, w.heap.size + 1 = r := ⟨_, rfl⟩
    have LR : Hid (w.heap.size ≤ r) := by unfold Hid; omega
    have LG : Hid (w.heap.size ≤ g) := by unfold Hid; omega
    have ne1 : g ≠ r := by omega
    have ne2 : r ≠ g := by omega
    rw [hr] at KR ⊢
    rw [hg] at KW ⊢
    clear hg hr
    obtain ⟨p0, p1, p2, p3⟩ := KW.out.cells
    dsimp only at p0 p1 p2 p3
    obtain ⟨q0, q1, q2, q3⟩ := KR.out.cells
    have f0 := KR.out.free 0
    have f1 := KR.out.free 1
    have f2 := KR.out.free 2
    have f3 := KR.out.free 3
    go_wp2
    have KR4 := KR.out.wrote (false, nd, lf) (A, n, c)
    have hg4 := grown_setv w1 r (.bool false) (.int .u8 nd) (.int .u8 lf) (.slice A n c)
    have B4 := (belowG B.out hg4 B.out.size LR.out)
    clear p0 p1 p2 p3 q0 q1 q2 q3 f0 f1 f2 f3
    obtain ⟨p0, p1, p2, p3⟩ := KR4.cells
    dsimp only at p0 p1 p2 p3
    refine bodyPost_ret (v := .tuple #[(.agg #[.bool ((false, nd, lf) : Wn).1, .int .u8 ((false, nd, lf) : Wn).2.1, .int .u8 ((false, nd, lf) : Wn).2.2, .slice ((A, n, c) : Hd).1 ((A, n, c) : Hd).2.1 ((A, n, c) : Hd).2.2]), .slice none 0 0, .bool false]) (by simp [results, Try.results16, go_sem, p0, p1, p2, p3]) rfl ⟨rfl, B4⟩
  · skip
    by_cases he : nd = f
    · skip
      have hb : (nd == f) = true := by simp [he]
      have e0 : ansB (true, nd, lf) f = true := by unfold ansB; simp [he]
      rw [show ansW (true, nd, lf) f = wz from if_pos e0, show ansH (true, nd, lf) f (A, n, c) = hz0 from if_pos e0, show ansK (true, nd, lf) f (A, n, c) = (A, n, c) from if_pos e0, e0]
      clear e0
      clear he
      go_enter Try.func16, Try.ntmps16
      go_upto_region 1 with fail
      generalize (w.alloc _).alloc _ = w1 at *
      obtain ⟨g, hg⟩ : ∃ g, w.heap.size = g := ⟨_, rfl⟩
      obtain ⟨r, hr⟩ : ∃ r, w.heap.size + 1 = r := ⟨_, rfl⟩
      have LR : Hid (w.heap.size ≤ r) := by unfold Hid; omega
      have LG : Hid (w.heap.size ≤ g) := by unfold Hid; omega
      have ne1 : g ≠ r := by omega
      have ne2 : r ≠ g := by omega
      rw [hr] at KR ⊢
      rw [hg] at KW ⊢
      clear hg hr
      obtain ⟨p0, p1, p2, p3⟩ := KW.out.cells
      dsimp only at p0 p1 p2 p3
      obtain ⟨q0, q1, q2, q3⟩ := KR.out.cells
      have f0 := KR.out.free 0
      have f1 := KR.out.free 1
      have f2 := KR.out.free 2
      have f3 := KR.out.free 3
      go_upto_region 2 with fail
      go_region
      go_wp2
      have KR4 := KR.out.wrote wz hz0
      have hg4 := grown_setv w1 r (.bool false) (.int .u8 0) (.int .u8 0) (.slice none 0 0)
      have B4 := drewB (belowG B.out hg4 B.out.size LR.out)
      clear p0 p1 p2 p3 q0 q1 q2 q3 f0 f1 f2 f3
      obtain ⟨p0, p1, p2, p3⟩ := KR4.cells
      dsimp only at p0 p1 p2 p3
      refine bodyPost_ret (v := .tuple #[(.agg #[.bool wz.1, .int .u8 wz.2.1, .int .u8 wz.2.2, .slice hz0.1 hz0.2.1 hz0.2.2]), .slice A n c, .bool true]) (by simp [results, Try.results16, go_sem, p0, p1, p2, p3]) rfl ⟨rfl, B4⟩
    · skip
      have hb : (nd == f) = false := by simp [he]
      have e0 : ansB (true, nd, lf) f = false := by unfold ansB; simp [he]
      rw [show ansW (true, nd, lf) f = (true, nd, lf) from if_neg (by rw [e0]; decide), show ansH (true, nd, lf) f (A, n, c) = (A, n, c) from if_neg (by rw [e0]; decide), show ansK (true, nd, lf) f (A, n, c) = hz0 from if_neg (by rw [e0]; decide), e0]
      clear e0
      clear he
      go_enter Try.func16, Try.ntmps16
      go_upto_region 1 with fail
      generalize (w.alloc _).alloc _ = w1 at *
      obtain ⟨g, hg⟩ : ∃ g, w.heap.size = g := ⟨_, rfl⟩
      obtain ⟨r, hr⟩ : ∃ r, w.heap.size + 1 = r := ⟨_, rfl⟩
      have LR : Hid (w.heap.size ≤ r) := by unfold Hid; omega
      have LG : Hid (w.heap.size ≤ g) := by unfold Hid; omega
      have ne1 : g ≠ r := by omega
      have ne2 : r ≠ g := by omega
      rw [hr] at KR ⊢
      rw [hg] at KW ⊢
      clear hg hr
      obtain ⟨p0, p1, p2, p3⟩ := KW.out.cells
      dsimp only at p0 p1 p2 p3
      obtain ⟨q0, q1, q2, q3⟩ := KR.out.cells
      have f0 := KR.out.free 0
      have f1 := KR.out.free 1
      have f2 := KR.out.free 2
      have f3 := KR.out.free 3
      go_wp2
      have KR4 := KR.out.wrote (true, nd, lf) (A, n, c)
      have hg4 := grown_setv w1 r (.bool true) (.int .u8 nd) (.int .u8 lf) (.slice A n c)
      have B4 := (belowG B.out hg4 B.out.size LR.out)
      clear p0 p1 p2 p3 q0 q1 q2 q3 f0 f1 f2 f3
      obtain ⟨p0, p1, p2, p3⟩ := KR4.cells
      dsimp only at p0 p1 p2 p3
      refine bodyPost_ret (v := .tuple #[(.agg #[.bool ((true, nd, lf) : Wn).1, .int .u8 ((true, nd, lf) : Wn).2.1, .int .u8 ((true, nd, lf) : Wn).2.2, .slice ((A, n, c) : Hd).1 ((A, n, c) : Hd).2.1 ((A, n, c) : Hd).2.2]), .slice none 0 0, .bool false]) (by simp [results, Try.results16, go_sem, p0, p1, p2, p3]) rfl ⟨rfl, B4⟩
set_option maxHeartbeats 2000000 in
theorem answer_any (s : Wn) (f : Int) (A : Option Addr) (n c : Nat) (xs : List (Dsc × Hd)) (w : World) (h : Sds w A n c xs) (hf : Fit n xs) : Calls Try.prog 15 #[(.agg #[.bool s.1, .int .u8 s.2.1, .int .u8 s.2.2, .slice ((A, n, c) : Hd).1 ((A, n, c) : Hd).2.1 ((A, n, c) : Hd).2.2]), .int .u8 f] w (GaveWa (ansW s f) (ansL s f (xs.map (·.1))) (ansG s f (xs.map (·.1))) (ansB s f) w) := by
  obtain ⟨b, nd, lf⟩ := s
  dsimp only
  obtain ⟨KW, KR, B⟩ := box2_w w (b, nd, lf) (A, n, c)
  have HS := Lib.hid (h.next B.out)
  have HF := Lib.hid hf
  clear h hf
  dsimp only at KW KR B
  cases b
  · skip
    have e0 : ansB (false, nd, lf) f = false := by unfold ansB; simp
    rw [show ansW (false, nd, lf) f = (false, nd, lf) from if_neg (by rw [e0]; decide), show ansL (false, nd, lf) f (xs.map (·.1)) = xs.map (·.1) from if_neg (by rw [e0]; decide), show ansG (false, nd, lf) f (xs.map (·.1)) = [] from if_neg (by rw [e0]; decide), e0]
    clear e0
    go_enter Try.func15, Try.ntmps15
    go_upto_region 1 with fail
    generalize (w.alloc _).alloc _ = w1 at *
    obtain ⟨g, hg⟩ : ∃ g, w.heap.size = g := ⟨_, rfl⟩
    obtain ⟨r, hr⟩ : ∃ r, w.heap.size + 1 = r := ⟨_, rfl⟩
    have LR : Hid (w.heap.size ≤ r) := by unfold Hid; omega
    have LG : Hid (w.heap.size ≤ g) := by unfold Hid; omega
    have ne1 : g ≠ r := by omega
    have ne2 : r ≠ g := by omega
    rw [hr] at KR ⊢
    rw [hg] at KW ⊢
    clear hg hr
    obtain ⟨p0, p1, p2, p3⟩ := KW.out.cells
    dsimp only at p0 p1 p2 p3
    go_wp2_with fail
    refine (copyX_any A n c xs w1 HS.out (by have := HF.out.len; omega) (fun x hx => by have := (HF.out.all x hx).2; omega)).mono ?_
    rintro e w2 ⟨gz, zs, rfl, hz, dz, b2⟩
    have HZ := Lib.hid hz
    have D2 := Lib.hid dz
    have LT := Lib.hid KR.out.lt
    have LTG := Lib.hid KW.out.lt
    have NE := Lib.hid ne2
    have KW2 := Lib.hid (KW.out.next b2)
    have KR2 := Lib.hid (KR.out.next b2)
    have L1 := Lib.hid B.out.size
    have B2 := Lib.hid (thn B.out b2)
    clear hz dz b2 KR KW HS B p0 p1 p2 p3
    obtain ⟨p0, p1, p2, p3⟩ := KW2.out.cells
    have f3 := KW2.out.free 3
    dsimp only at p0 p1 p2 p3
    go_upto_region 4 with fail
    have hgs := grown_set w2 g 3 (.slice (some ⟨gz, 0, none⟩) n n)
    have KW3 := Lib.hid (KW2.out.put3 (some ⟨gz, 0, none⟩, n, n))
    have KR3 := Lib.hid (KR2.out.grown hgs NE.out)
    have D3 := Lib.hid (D2.out.grownN hgs LTG.out)
    have B3 := Lib.hid (belowG B2.out hgs B2.out.size LG.out)
    clear p0 p1 p2 p3 f3 hgs KW2 KR2 B2 D2
    dsimp only at KW3
    generalize w2.setCell ⟨g, 3, none⟩ (.slice (some ⟨gz, 0, none⟩) n n) = w3 at *
    obtain ⟨p0, p1, p2, p3⟩ := KW3.out.cells
    dsimp only at p0 p1 p2 p3
    obtain ⟨q0, q1, q2, q3⟩ := KR3.out.cells
    have f0 := KR3.out.free 0
    have f1 := KR3.out.free 1
    have f2 := KR3.out.free 2
    have f3 := KR3.out.free 3
    go_wp2
    have KR4 := KR3.out.wrote (false, nd, lf) (some ⟨gz, 0, none⟩, n, n)
    have hg4 := grown_setv w3 r (.bool false) (.int .u8 nd) (.int .u8 lf) (.slice (some ⟨gz, 0, none⟩) n n)
    have B4 := (belowG B3.out hg4 B3.out.size LR.out)
    have D4 := D3.out.grownN hg4 LT.out
    clear p0 p1 p2 p3 q0 q1 q2 q3 f0 f1 f2 f3
    obtain ⟨p0, p1, p2, p3⟩ := KR4.cells
    dsimp only at p0 p1 p2 p3
    refine bodyPost_ret (v := .tuple #[(.agg #[.bool ((false, nd, lf) : Wn).1, .int .u8 ((false, nd, lf) : Wn).2.1, .int .u8 ((false, nd, lf) : Wn).2.2, .slice ((some ⟨gz, 0, none⟩, n, n) : Hd).1 ((some ⟨gz, 0, none⟩, n, n) : Hd).2.1 ((some ⟨gz, 0, none⟩, n, n) : Hd).2.2]), .slice none 0 0, .bool false]) (by simp [results, Try.results15, go_sem, p0, p1, p2, p3]) rfl ⟨(some ⟨gz, 0, none⟩, n, n), zs, hz0, [], rfl, HZ.out, D4.mono L1.out, rfl, Dow.nil _ _, B4⟩
  · skip
    by_cases he : nd = f
    · skip
      have hb : (nd == f) = true := by simp [he]
      have e0 : ansB (true, nd, lf) f = true := by unfold ansB; simp [he]
      rw [show ansW (true, nd, lf) f = wz from if_pos e0, show ansL (true, nd, lf) f (xs.map (·.1)) = [] from if_pos e0, show ansG (true, nd, lf) f (xs.map (·.1)) = xs.map (·.1) from if_pos e0, e0]
      clear e0
      clear he
      go_enter Try.func15, Try.ntmps15
      go_upto_region 1 with fail
      generalize (w.alloc _).alloc _ = w1 at *
      obtain ⟨g, hg⟩ : ∃ g, w.heap.size = g := ⟨_, rfl⟩
      obtain ⟨r, hr⟩ : ∃ r, w.heap.size + 1 = r := ⟨_, rfl⟩
      have LR : Hid (w.heap.size ≤ r) := by unfold Hid; omega
      have LG : Hid (w.heap.size ≤ g) := by unfold Hid; omega
      have ne1 : g ≠ r := by omega
      have ne2 : r ≠ g := by omega
      rw [hr] at KR ⊢
      rw [hg] at KW ⊢
      clear hg hr
      obtain ⟨p0, p1, p2, p3⟩ := KW.out.cells
      dsimp only at p0 p1 p2 p3
      go_wp2_with fail
      refine (copyX_any A n c xs w1 HS.out (by have := HF.out.len; omega) (fun x hx => by have := (HF.out.all x hx).2; omega)).mono ?_
      rintro e w2 ⟨gz, zs, rfl, hz, dz, b2⟩
      have HZ := Lib.hid hz
      have D2 := Lib.hid dz
      have LT := Lib.hid KR.out.lt
      have KR2 := Lib.hid (KR.out.next b2)
      have L1 := Lib.hid B.out.size
      have B2 := Lib.hid (thn B.out b2)
      clear hz dz b2 KR KW HS B
      obtain ⟨q0, q1, q2, q3⟩ := KR2.out.cells
      have f0 := KR2.out.free 0
      have f1 := KR2.out.free 1
      have f2 := KR2.out.free 2
      have f3 := KR2.out.free 3
      go_wp2
      have KR4 := KR2.out.wrote wz hz0
      have hg4 := grown_setv w2 r (.bool false) (.int .u8 0) (.int .u8 0) (.slice none 0 0)
      have B4 := (belowG B2.out hg4 B2.out.size LR.out)
      have D4 := D2.out.grownN hg4 LT.out
      clear p0 p1 p2 p3 q0 q1 q2 q3 f0 f1 f2 f3
      obtain ⟨p0, p1, p2, p3⟩ := KR4.cells
      dsimp only at p0 p1 p2 p3
      refine bodyPost_ret (v := .tuple #[(.agg #[.bool wz.1, .int .u8 wz.2.1, .int .u8 wz.2.2, .slice hz0.1 hz0.2.1 hz0.2.2]), .slice (some ⟨gz, 0, none⟩) n n, .bool true]) (by simp [results, Try.results15, go_sem, p0, p1, p2, p3]) rfl ⟨hz0, [], (some ⟨gz, 0, none⟩, n, n), zs, rfl, rfl, Dow.nil _ _, HZ.out, D4.mono L1.out, B4⟩
    · skip
      have hb : (nd == f) = false := by simp [he]
      have e0 : ansB (true, nd, lf) f = false := by unfold ansB; simp [he]
      rw [show ansW (true, nd, lf) f = (true, nd, lf) from if_neg (by rw [e0]; decide), show ansL (true, nd, lf) f (xs.map (·.1)) = xs.map (·.1) from if_neg (by rw [e0]; decide), show ansG (true, nd, lf) f (xs.map (·.1)) = [] from if_neg (by rw [e0]; decide), e0]
      clear e0
      clear he
      go_enter Try.func15, Try.ntmps15
      go_upto_region 1 with fail
      generalize (w.alloc _).alloc _ = w1 at *
      obtain ⟨g, hg⟩ : ∃ g, w.heap.size = g := ⟨_, rfl⟩
      obtain ⟨r, hr⟩ : ∃ r, w.heap.size + 1 = r := ⟨_, rfl⟩
      have LR : Hid (w.heap.size ≤ r) := by unfold Hid; omega
      have LG : Hid (w.heap.size ≤ g) := by unfold Hid; omega
      have ne1 : g ≠ r := by omega
      have ne2 : r ≠ g := by omega
      rw [hr] at KR ⊢
      rw [hg] at KW ⊢
      clear hg hr
      obtain ⟨p0, p1, p2, p3⟩ := KW.out.cells
      dsimp only at p0 p1 p2 p3
      go_wp2_with fail
      refine (copyX_any A n c xs w1 HS.out (by have := HF.out.len; omega) (fun x hx => by have := (HF.out.all x hx).2; omega)).mono ?_
      rintro e w2 ⟨gz, zs, rfl, hz, dz, b2⟩
      have HZ := Lib.hid hz
      have D2 := Lib.hid dz
      have LT := Lib.hid KR.out.lt
      have LTG := Lib.hid KW.out.lt
      have NE := Lib.hid ne2
      have KW2 := Lib.hid (KW.out.next b2)
      have KR2 := Lib.hid (KR.out.next b2)
      have L1 := Lib.hid B.out.size
      have B2 := Lib.hid (thn B.out b2)
      clear hz dz b2 KR KW HS B p0 p1 p2 p3
      obtain ⟨p0, p1, p2, p3⟩ := KW2.out.cells
      have f3 := KW2.out.free 3
      dsimp only at p0 p1 p2 p3
      go_upto_region 4 with fail
      have hgs := grown_set w2 g 3 (.slice (some ⟨gz, 0, none⟩) n n)
      have KW3 := Lib.hid (KW2.out.put3 (some ⟨gz, 0, none⟩, n, n))
      have KR3 := Lib.hid (KR2.out.grown hgs NE.out)
      have D3 := Lib.hid (D2.out.grownN hgs LTG.out)
      have B3 := Lib.hid (belowG B2.out hgs B2.out.size LG.out)
      clear p0 p1 p2 p3 f3 hgs KW2 KR2 B2 D2
      dsimp only at KW3
      generalize w2.setCell ⟨g, 3, none⟩ (.slice (some ⟨gz, 0, none⟩) n n) = w3 at *
      obtain ⟨p0, p1, p2, p3⟩ := KW3.out.cells
      dsimp only at p0 p1 p2 p3
      obtain ⟨q0, q1, q2, q3⟩ := KR3.out.cells
      have f0 := KR3.out.free 0
      have f1 := KR3.out.free 1
      have f2 := KR3.out.free 2
      have f3 := KR3.out.free 3
      go_wp2
      have KR4 := KR3.out.wrote (true, nd, lf) (some ⟨gz, 0, none⟩, n, n)
      have hg4 := grown_setv w3 r (.bool true) (.int .u8 nd) (.int .u8 lf) (.slice (some ⟨gz, 0, none⟩) n n)
      have B4 := (belowG B3.out hg4 B3.out.size LR.out)
      have D4 := D3.out.grownN hg4 LT.out
      clear p0 p1 p2 p3 q0 q1 q2 q3 f0 f1 f2 f3
      obtain ⟨p0, p1, p2, p3⟩ := KR4.cells
      dsimp only at p0 p1 p2 p3
      refine bodyPost_ret (v := .tuple #[(.agg #[.bool ((true, nd, lf) : Wn).1, .int .u8 ((true, nd, lf) : Wn).2.1, .int .u8 ((true, nd, lf) : Wn).2.2, .slice ((some ⟨gz, 0, none⟩, n, n) : Hd).1 ((some ⟨gz, 0, none⟩, n, n) : Hd).2.1 ((some ⟨gz, 0, none⟩, n, n) : Hd).2.2]), .slice none 0 0, .bool false]) (by simp [results, Try.results15, go_sem, p0, p1, p2, p3]) rfl ⟨(some ⟨gz, 0, none⟩, n, n), zs, hz0, [], rfl, HZ.out, D4.mono L1.out, rfl, Dow.nil _ _, B4⟩
end Go.Proofs.Ytdkchiodepdclaa
