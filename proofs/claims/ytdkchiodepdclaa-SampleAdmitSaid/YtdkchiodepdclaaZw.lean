/- Layer 11: the law's Same, one; the chapter's examples. -/
import Derived.Test.YtdkchiodepdclaaZe
import Derived.Test.YtdkchiodepdclaaZg
import Derived.Test.YtdkchiodepdclaaRl
namespace Go.Proofs.Ytdkchiodepdclaa
open Go.RowKit
set_option linter.unusedVariables false
theorem beqlB (z : Bool) (w : World) : (binOp .eql 4 (.bool z) (.bool z)).run Try.prog w = .ok (.bool true) w := by cases z <;> rfl
theorem box2s (w : World) (s t : Wn) (h k : Hd) : Hid (WBlk ((w.alloc (.cells #[.bool s.1, .int .u8 s.2.1, .int .u8 s.2.2, .slice h.1 h.2.1 h.2.2] 31)).alloc (.cells #[.bool t.1, .int .u8 t.2.1, .int .u8 t.2.2, .slice k.1 k.2.1 k.2.2] 31)) w.heap.size s h) ∧ Hid (WBlk ((w.alloc (.cells #[.bool s.1, .int .u8 s.2.1, .int .u8 s.2.2, .slice h.1 h.2.1 h.2.2] 31)).alloc (.cells #[.bool t.1, .int .u8 t.2.1, .int .u8 t.2.2, .slice k.1 k.2.1 k.2.2] 31)) (w.heap.size + 1) t k) ∧ Hid (Below w.heap.size w ((w.alloc (.cells #[.bool s.1, .int .u8 s.2.1, .int .u8 s.2.2, .slice h.1 h.2.1 h.2.2] 31)).alloc (.cells #[.bool t.1, .int .u8 t.2.1, .int .u8 t.2.2, .slice k.1 k.2.1 k.2.2] 31))) := by
  refine ⟨(WBlk.new w s h).next (below_lit _ _), ?_, thn (below_lit _ _) (below_lit _ _)⟩
  have := WBlk.new (w.alloc (.cells #[.bool s.1, .int .u8 s.2.1, .int .u8 s.2.2, .slice h.1 h.2.1 h.2.2] 31)) t k; unfold Hid; simpa using this
set_option maxHeartbeats 2000000 in
theorem samew_any (s : Wn) (h k : Hd) (xs ys : List (Dsc × Hd)) (w : World) (hx : Sds w h.1 h.2.1 h.2.2 xs) (hy : Sds w k.1 k.2.1 k.2.2 ys) (he : xs.map (·.1) = ys.map (·.1)) : Calls Try.prog 14 #[(.agg #[.bool s.1, .int .u8 s.2.1, .int .u8 s.2.2, .slice h.1 h.2.1 h.2.2]), (.agg #[.bool s.1, .int .u8 s.2.1, .int .u8 s.2.2, .slice k.1 k.2.1 k.2.2])] w fun e w' => e = .returned (.bool true) ∧ Below w.heap.size w w' := by
  obtain ⟨KA, KB, B⟩ := box2s w s s h k
  have HX := Lib.hid (hx.next B.out)
  have HY := Lib.hid (hy.next B.out)
  have HE := Lib.hid he
  have hb := beqlB s.1
  clear hx hy he
  go_enter Try.func14, Try.ntmps14
  go_upto_region 1 with fail
  generalize (w.alloc _).alloc _ = w1 at *
  obtain ⟨g, hg⟩ : ∃ g, w.heap.size = g := ⟨_, rfl⟩
  obtain ⟨r, hr⟩ : ∃ r, w.heap.size + 1 = r := ⟨_, rfl⟩
  rw [hr] at KB ⊢
  rw [hg] at KA ⊢
  clear hg hr
  obtain ⟨p0, p1, p2, p3⟩ := KA.out.cells
  obtain ⟨q0, q1, q2, q3⟩ := KB.out.cells
  go_wp2_with fail
  have hc := descs_any h.1 h.2.1 h.2.2 xs k.1 k.2.1 k.2.2 ys w1 HX.out HY.out
  rw [show decide (xs.map (·.1) = ys.map (·.1)) = true from decide_eq_true HE.out] at hc
  refine hc.mono ?_
  clear hc p0 p1 p2 p3 q0 q1 q2 q3
  rintro e w2 ⟨rfl, b2⟩
  have B2 := Lib.hid (thn B.out b2)
  clear b2
  go_wp2
  go_ret
  exact ⟨rfl, B2.out⟩
abbrev oD (n a : Int) : Dsc × Hd := ((n, 1, a, []), (none, 0, 0))
theorem one11_any (n a : Int) (w : World) : Calls Try.prog 27 #[.int .u8 n, .int .u8 a] w fun e w' => e = .returned (.agg #[.int .u8 n, .int .u16 1, .int .u8 a, .slice none 0 0]) ∧ Below w.heap.size w w' := by
  go_enter Try.func27, Try.ntmps27
  go_wp2
  have hB := below_lit w (.cells #[.int .u8 n, .int .u16 1, .int .u8 a, .slice none 0 0] 27)
  obtain ⟨p0, p1, p2, p3⟩ := (DBlk.new w (n, 1, a, []) (none, 0, 0)).cells
  dsimp only at p0 p1 p2 p3
  refine bodyPost_ret (v := .agg #[.int .u8 n, .int .u16 1, .int .u8 a, .slice none 0 0]) (by simp [results, Try.results27, go_sem, p0, p1, p2, p3]) rfl ⟨rfl, hB⟩
theorem sds_lit (w : World) (cs : Array Value) (xs : List (Dsc × Hd)) (n : Nat) (hc : cs.toList = dcs xs) (hn : xs.length = n) (hm : n ≤ 1000) (hx : ∀ x ∈ xs, x.2 = (none, 0, 0) ∧ x.1.2.2.2 = []) : Sds (w.alloc (.cells cs 27)) (some ⟨w.heap.size, 0, none⟩) n n xs := by
  have hsz : cs.size = n * 4 := by rw [← Array.length_toList, hc, dcs_length, hn]
  refine ⟨?_, fun x h => ?_⟩
  · have := Sn.lit w cs 27 (0, 0) 4 n hsz (by unfold maxLen; omega)
    rw [hc] at this
    exact this.more (by show _ ≤ (w.heap.push _).size; simp)
  · obtain ⟨h1, h2⟩ := hx x h
    obtain ⟨⟨a, b, c, d⟩, hd⟩ := x
    dsimp only at h1 h2
    subst h1 h2
    exact Sn.nil rfl
theorem fl_nil (w : World) (d : Dsc) (h : d.2.2.2 = []) : Fl w (d, (none, 0, 0)) := by show Sp w _ none 0 0 d.2.2.2; rw [h]; exact Sn.nil rfl
theorem fit1L : Fit 1 [oD 9 0] := fit_of (ds := [oD 9 0].map (·.1)) rfl (by decide) (by simp [dscR, oD])
theorem fit7L : Fit 1 [oD 7 0] := fit_of (ds := [oD 7 0].map (·.1)) rfl (by decide) (by simp [dscR, oD])
theorem fit2L : Fit 2 [oD 1 5, oD 2 1] := fit_of (ds := [oD 1 5, oD 2 1].map (·.1)) rfl (by decide) (by simp [dscR, oD])
theorem aw_admit : admitD ([oD 1 5, oD 2 1].map (·.1)) (7, 1, 0, []) 0 2 = [oD 2 1, oD 7 0].map (·.1) := by decide +kernel
theorem aw_fill : fillD ([oD 1 5, oD 2 1].map (·.1)) ([oD 7 0].map (·.1)) 0 2 = [oD 1 5, oD 2 1].map (·.1) := by decide +kernel
theorem fit_map {n m : Nat} {xs ys : List (Dsc × Hd)} (h : Fit m ys) (e : xs.map (·.1) = ys.map (·.1)) (hn : n = xs.length) (hm : m = ys.length) : Fit n xs :=
  fit_of e (by have h1 := congrArg List.length e; rw [List.length_map, List.length_map] at h1; have := h.len; omega) fun d hd => by obtain ⟨y, hy, rfl⟩ := List.mem_map.1 hd; exact h.all y hy
set_option maxRecDepth 100000 in
set_option maxHeartbeats 8000000 in
theorem awake_any (w : World) : Calls Try.prog 9 #[] w fun e w' => e = .returned (.bool true) ∧ Below w.heap.size w w' := by
  have B := Lib.hid (Below.refl w.heap.size w)
  go_enter Try.func9, Try.ntmps9
  go_wp2_with fail
  have hc := one11_any 9 0 w
  refine hc.mono ?_
  clear hc
  rintro e w1 ⟨rfl, b5⟩
  replace B := Lib.hid (thn B.out b5)
  clear b5
  have hbl := below_lit w1 (.cells #[.int .u8 9, .int .u16 1, .int .u8 0, .slice none 0 0] 27)
  have hS := sds_lit w1 #[.int .u8 9, .int .u16 1, .int .u8 0, .slice none 0 0] [oD 9 0] 1 rfl rfl (by decide) (by simp [oD])
  go_wp2_with fail
  have hc := start_any 3 2 _ 1 1 [oD 9 0] _ hS fit1L
  rw [show mx 2 = 2 by decide] at hc
  refine hc.mono ?_
  clear hc hS
  rintro e w2 ⟨⟨Aw, nw, cw⟩, zw, rfl, mw, dw, b5⟩
  replace b5 := thn hbl b5
  clear hbl
  have MW := Lib.hid (mw)
  have SW := Lib.hid (dw.sds)
  replace B := Lib.hid (thn B.out b5)
  clear b5
  clear mw dw
  have LB0 := Lib.hid B.out.size
  have NWL := Lib.hid SW.out.len
  have FW := Lib.hid (fit_map fit1L MW.out SW.out.len rfl)
  dsimp only at FW SW
  go_upto_region 2 with fail
  have hbl := below_lit w2 (.cells #[.bool ((true, 3, 2) : Wn).1, .int .u8 ((true, 3, 2) : Wn).2.1, .int .u8 ((true, 3, 2) : Wn).2.2, .slice ((Aw, nw, cw) : Hd).1 ((Aw, nw, cw) : Hd).2.1 ((Aw, nw, cw) : Hd).2.2] 31)
  have K1 := Lib.hid (WBlk.new w2 (true, 3, 2) (Aw, nw, cw))
  replace SW := Lib.hid (SW.out.next hbl)
  replace B := Lib.hid (thn B.out hbl)
  clear hbl
  dsimp only at K1
  generalize w2.alloc _ = w3 at *
  obtain ⟨gK1, hg⟩ : ∃ q, w2.heap.size = q := ⟨_, rfl⟩
  have LB : Hid (w.heap.size ≤ gK1) := Nat.le_trans LB0.out (Nat.le_of_eq hg)
  rw [hg] at K1 ⊢
  clear hg
  obtain ⟨K10, K11, K12, K13⟩ := K1.out.cells
  go_wp2_with fail
  have hc := answer_any (true, 3, 2) 4 Aw nw cw zw w3 SW.out FW.out
  rw [show ansW (true, 3, 2) 4 = (true, 3, 2) by decide] at hc
  rw [show ansB (true, 3, 2) 4 = false by decide] at hc
  rw [show ansL (true, 3, 2) 4 (zw.map (·.1)) = zw.map (·.1) from if_neg (by decide)] at hc
  rw [show ansG (true, 3, 2) 4 (zw.map (·.1)) = [] from if_neg (by decide)] at hc
  refine hc.mono ?_
  clear hc
  rintro e w4 ⟨⟨Aa, na, ca⟩, za, ⟨Aka, nka, cka⟩, ya, rfl, ma, da, mka, dka, b5⟩
  clear K10 K11 K12 K13
  replace SW := Lib.hid (SW.out.next b5)
  replace K1 := Lib.hid (K1.out.next b5)
  replace B := Lib.hid (thn B.out b5)
  clear b5
  clear ma da mka dka
  dsimp only
  go_upto_region 3 with fail
  have hbl := below_lit w4 (.cells #[.bool ((true, 3, 2) : Wn).1, .int .u8 ((true, 3, 2) : Wn).2.1, .int .u8 ((true, 3, 2) : Wn).2.2, .slice ((Aa, na, ca) : Hd).1 ((Aa, na, ca) : Hd).2.1 ((Aa, na, ca) : Hd).2.2] 31)
  have Ka := Lib.hid (WBlk.new w4 (true, 3, 2) (Aa, na, ca))
  replace SW := Lib.hid (SW.out.next hbl)
  replace K1 := Lib.hid (K1.out.next hbl)
  replace B := Lib.hid (thn B.out hbl)
  clear hbl
  dsimp only at Ka
  generalize w4.alloc _ = w5 at *
  obtain ⟨gKa, hg⟩ : ∃ q, w4.heap.size = q := ⟨_, rfl⟩
  rw [hg] at Ka ⊢
  clear hg
  clear Ka
  obtain ⟨K10, K11, K12, K13⟩ := K1.out.cells
  go_wp2_with fail
  have hc := answer_any (true, 3, 2) 3 Aw nw cw zw w5 SW.out FW.out
  rw [show ansW (true, 3, 2) 3 = wz by decide] at hc
  rw [show ansB (true, 3, 2) 3 = true by decide] at hc
  rw [show ansL (true, 3, 2) 3 (zw.map (·.1)) = [] from if_pos (by decide)] at hc
  rw [show ansG (true, 3, 2) 3 (zw.map (·.1)) = zw.map (·.1) from if_pos (by decide)] at hc
  refine hc.mono ?_
  clear hc
  rintro e w6 ⟨⟨Ab, nb, cb⟩, zb, ⟨Akb, nkb, ckb⟩, yb, rfl, mb, db, mkb, dkb, b5⟩
  clear K10 K11 K12 K13
  replace SW := Lib.hid (SW.out.next b5)
  replace K1 := Lib.hid (K1.out.next b5)
  replace B := Lib.hid (thn B.out b5)
  clear b5
  obtain rfl : nkb = 1 := by have h1 := dkb.len; have h2 := congrArg List.length mkb; rw [List.length_map, List.length_map] at h2; have h3 := congrArg List.length MW.out; rw [List.length_map] at h3; exact h1.trans (h2.trans h3)
  clear mb db mkb dkb
  dsimp only
  go_upto_region 4 with fail
  have hbl := below_lit w6 (.cells #[.bool ((false, 0, 0) : Wn).1, .int .u8 ((false, 0, 0) : Wn).2.1, .int .u8 ((false, 0, 0) : Wn).2.2, .slice ((Ab, nb, cb) : Hd).1 ((Ab, nb, cb) : Hd).2.1 ((Ab, nb, cb) : Hd).2.2] 31)
  have Kb := Lib.hid (WBlk.new w6 (false, 0, 0) (Ab, nb, cb))
  replace SW := Lib.hid (SW.out.next hbl)
  replace K1 := Lib.hid (K1.out.next hbl)
  replace B := Lib.hid (thn B.out hbl)
  clear hbl
  dsimp only at Kb
  generalize w6.alloc _ = w7 at *
  obtain ⟨gKb, hg⟩ : ∃ q, w6.heap.size = q := ⟨_, rfl⟩
  rw [hg] at Kb ⊢
  clear hg
  clear Kb
  have LG := Lib.hid K1.out.lt
  obtain ⟨K10, K11, K12, K13⟩ := K1.out.cells
  go_wp2_with fail
  have hc := tick_any (true, 3, 2) Aw nw cw zw w7 SW.out FW.out (by decide)
  rw [show tickW (true, 3, 2) = (true, 3, 1) by decide] at hc
  rw [show tickP (true, 3, 2) = 0 by decide] at hc
  rw [show tickB (true, 3, 2) = false by decide] at hc
  rw [show tickS (true, 3, 2) (zw.map (·.1)) = zw.map (·.1) from if_pos (by decide)] at hc
  refine hc.mono ?_
  clear hc
  rintro e w8 ⟨⟨At, nt, ct⟩, zt, rfl, mt, dt, b5⟩
  clear K10 K11 K12 K13
  have MT := Lib.hid (mt)
  have DT := Lib.hid (dt)
  replace SW := Lib.hid (SW.out.next b5)
  replace K1 := Lib.hid (K1.out.next b5)
  replace B := Lib.hid (thn B.out b5)
  clear b5
  clear mt dt SW
  dsimp only at DT ⊢
  obtain ⟨K10, K11, K12, K13⟩ := K1.out.cells
  have f0 := K1.out.free 0
  have f1 := K1.out.free 1
  have f2 := K1.out.free 2
  have f3 := K1.out.free 3
  go_upto_region 5 with fail
  clear f0 f1 f2 f3
  clear K10 K11 K12 K13
  have hgs := grown_setv w8 gK1 (.bool true) (.int .u8 3) (.int .u8 1) (.slice At nt ct)
  replace K1 := Lib.hid (K1.out.wrote (true, 3, 1) (At, nt, ct))
  replace DT := Lib.hid (DT.out.grownN hgs LG.out)
  replace B := Lib.hid (belowG B.out hgs B.out.size LB.out)
  clear hgs
  dsimp only at K1
  generalize (((w8.setCell ⟨gK1, 0, none⟩ (.bool true)).setCell ⟨gK1, 1, none⟩ (.int .u8 3)).setCell ⟨gK1, 2, none⟩ (.int .u8 1)).setCell ⟨gK1, 3, none⟩ (.slice At nt ct) = w9 at *
  have ST := Lib.hid DT.out.sds
  have FT := Lib.hid (fit_map FW.out MT.out ST.out.len (by have h1 := congrArg List.length MW.out; have := FW.out; exact NWL.out))
  clear DT
  obtain ⟨K10, K11, K12, K13⟩ := K1.out.cells
  go_wp2_with fail
  have hc := tick_any (true, 3, 1) At nt ct zt w9 ST.out FT.out (by decide)
  rw [show tickW (true, 3, 1) = wz by decide] at hc
  rw [show tickP (true, 3, 1) = 3 by decide] at hc
  rw [show tickB (true, 3, 1) = true by decide] at hc
  rw [show tickS (true, 3, 1) (zt.map (·.1)) = [] from if_neg (by decide)] at hc
  refine hc.mono ?_
  clear hc
  rintro e w10 ⟨⟨Ax, nx, cx⟩, zx, rfl, mx, dx, b5⟩
  clear K10 K11 K12 K13
  have MX := Lib.hid (mx)
  have SX := Lib.hid (dx.sds)
  replace K1 := Lib.hid (K1.out.next b5)
  replace ST := Lib.hid (ST.out.next b5)
  replace B := Lib.hid (thn B.out b5)
  clear b5
  clear mx dx
  dsimp only at SX ⊢
  go_upto_region 6 with fail
  have hbl := below_lit w10 (.cells #[.bool ((false, 0, 0) : Wn).1, .int .u8 ((false, 0, 0) : Wn).2.1, .int .u8 ((false, 0, 0) : Wn).2.2, .slice ((Ax, nx, cx) : Hd).1 ((Ax, nx, cx) : Hd).2.1 ((Ax, nx, cx) : Hd).2.2] 31)
  have K2 := Lib.hid (WBlk.new w10 (false, 0, 0) (Ax, nx, cx))
  replace K1 := Lib.hid (K1.out.next hbl)
  replace ST := Lib.hid (ST.out.next hbl)
  replace SX := Lib.hid (SX.out.next hbl)
  replace B := Lib.hid (thn B.out hbl)
  clear hbl
  dsimp only at K2
  generalize w10.alloc _ = w11 at *
  obtain ⟨gK2, hg⟩ : ∃ q, w10.heap.size = q := ⟨_, rfl⟩
  rw [hg] at K2 ⊢
  clear hg
  go_wp2_with fail
  have hc := one11_any 1 5 w11
  refine hc.mono ?_
  clear hc
  rintro e w12 ⟨rfl, b5⟩
  replace K1 := Lib.hid (K1.out.next b5)
  replace ST := Lib.hid (ST.out.next b5)
  replace SX := Lib.hid (SX.out.next b5)
  replace K2 := Lib.hid (K2.out.next b5)
  replace B := Lib.hid (thn B.out b5)
  clear b5
  go_wp2_with fail
  have hc := one11_any 2 1 w12
  refine hc.mono ?_
  clear hc
  rintro e w13 ⟨rfl, b5⟩
  replace K1 := Lib.hid (K1.out.next b5)
  replace ST := Lib.hid (ST.out.next b5)
  replace SX := Lib.hid (SX.out.next b5)
  replace K2 := Lib.hid (K2.out.next b5)
  replace B := Lib.hid (thn B.out b5)
  clear b5
  go_upto_region 7 with fail
  have hbl := below_lit w13 (.cells #[.int .u8 1, .int .u16 1, .int .u8 5, .slice none 0 0, .int .u8 2, .int .u16 1, .int .u8 1, .slice none 0 0] 27)
  have hS := sds_lit w13 #[.int .u8 1, .int .u16 1, .int .u8 5, .slice none 0 0, .int .u8 2, .int .u16 1, .int .u8 1, .slice none 0 0] [oD 1 5, oD 2 1] 2 rfl rfl (by decide) (by simp [oD])
  replace K1 := Lib.hid (K1.out.next hbl)
  replace ST := Lib.hid (ST.out.next hbl)
  replace SX := Lib.hid (SX.out.next hbl)
  replace K2 := Lib.hid (K2.out.next hbl)
  replace B := Lib.hid (thn B.out hbl)
  have SL := Lib.hid hS
  clear hS hbl
  generalize w13.alloc _ = w14 at *
  obtain ⟨gL, hg⟩ : ∃ q, w13.heap.size = q := ⟨_, rfl⟩
  rw [hg] at SL ⊢
  clear hg
  obtain ⟨K10, K11, K12, K13⟩ := K1.out.cells
  obtain ⟨K20, K21, K22, K23⟩ := K2.out.cells
  go_wp2_with fail
  have hc := samew_any wz (Ax, nx, cx) hz0 zx [] w14 SX.out (Sds.nil _) MX.out
  refine hc.mono ?_
  clear hc
  rintro e w15 ⟨rfl, b5⟩
  clear K10 K11 K12 K13 K20 K21 K22 K23
  replace K1 := Lib.hid (K1.out.next b5)
  replace ST := Lib.hid (ST.out.next b5)
  replace SX := Lib.hid (SX.out.next b5)
  replace K2 := Lib.hid (K2.out.next b5)
  replace SL := Lib.hid (SL.out.next b5)
  replace B := Lib.hid (thn B.out b5)
  clear b5
  clear K1 K2 ST SX MX FT MT FW MW LG LB NWL
  go_wp2_with fail
  have hc := one11_any 7 0 w15
  refine hc.mono ?_
  clear hc
  rintro e w16 ⟨rfl, b5⟩
  replace SL := Lib.hid (SL.out.next b5)
  replace B := Lib.hid (thn B.out b5)
  clear b5
  go_wp2_with fail
  have hc := admit_any _ 2 2 [oD 1 5, oD 2 1] (7, 1, 0, []) (none, 0, 0) 0 2 w16 SL.out fit2L (fl_nil _ _ rfl) ⟨by simp [dscR], by decide⟩ (by show RightD [(1, 1, 5, []), (2, 1, 1, [])] 0 2; decide)
  rw [aw_admit] at hc
  refine hc.mono ?_
  clear hc
  rintro e w17 ⟨Am, nm, cm, zm, rfl, mm, dm, b5⟩
  have MM := Lib.hid (mm)
  have SM := Lib.hid (dm.sds)
  replace SL := Lib.hid (SL.out.next b5)
  replace B := Lib.hid (thn B.out b5)
  clear b5
  clear mm dm
  go_wp2_with fail
  have hc := one11_any 2 1 w17
  refine hc.mono ?_
  clear hc
  rintro e w18 ⟨rfl, b5⟩
  replace SL := Lib.hid (SL.out.next b5)
  replace SM := Lib.hid (SM.out.next b5)
  replace B := Lib.hid (thn B.out b5)
  clear b5
  go_wp2_with fail
  have hc := one11_any 7 0 w18
  refine hc.mono ?_
  clear hc
  rintro e w19 ⟨rfl, b5⟩
  replace SL := Lib.hid (SL.out.next b5)
  replace SM := Lib.hid (SM.out.next b5)
  replace B := Lib.hid (thn B.out b5)
  clear b5
  have hbl := below_lit w19 (.cells #[.int .u8 2, .int .u16 1, .int .u8 1, .slice none 0 0, .int .u8 7, .int .u16 1, .int .u8 0, .slice none 0 0] 27)
  have hS := sds_lit w19 #[.int .u8 2, .int .u16 1, .int .u8 1, .slice none 0 0, .int .u8 7, .int .u16 1, .int .u8 0, .slice none 0 0] [oD 2 1, oD 7 0] 2 rfl rfl (by decide) (by simp [oD])
  go_wp2_with fail
  have hc := descs_any Am nm cm zm _ 2 2 [oD 2 1, oD 7 0] _ (SM.out.next hbl) hS
  rw [show decide (zm.map (·.1) = [oD 2 1, oD 7 0].map (·.1)) = true from decide_eq_true MM.out] at hc
  refine hc.mono ?_
  clear hc hS
  rintro e w20 ⟨rfl, b5⟩
  replace b5 := thn hbl b5
  clear hbl
  replace SL := Lib.hid (SL.out.next b5)
  replace SM := Lib.hid (SM.out.next b5)
  replace B := Lib.hid (thn B.out b5)
  clear b5
  go_wp2_with fail
  have hc := one11_any 7 0 w20
  refine hc.mono ?_
  clear hc
  rintro e w21 ⟨rfl, b5⟩
  replace SL := Lib.hid (SL.out.next b5)
  replace SM := Lib.hid (SM.out.next b5)
  replace B := Lib.hid (thn B.out b5)
  clear b5
  have hbl := below_lit w21 (.cells #[.int .u8 7, .int .u16 1, .int .u8 0, .slice none 0 0] 27)
  have hS := sds_lit w21 #[.int .u8 7, .int .u16 1, .int .u8 0, .slice none 0 0] [oD 7 0] 1 rfl rfl (by decide) (by simp [oD])
  go_wp2_with fail
  have hc := fill_any _ 2 2 [oD 1 5, oD 2 1] _ 1 1 [oD 7 0] 0 2 _ (SL.out.next hbl) fit2L hS fit7L (by decide) (by show RightD [(1, 1, 5, []), (2, 1, 1, [])] 0 2; decide)
  rw [aw_fill] at hc
  refine hc.mono ?_
  clear hc hS
  rintro e w22 ⟨Af, nf, cf, zf, rfl, mf, df, b5⟩
  replace b5 := thn hbl b5
  clear hbl
  have MF := Lib.hid (mf)
  have SF := Lib.hid (df.sds)
  replace SL := Lib.hid (SL.out.next b5)
  replace SM := Lib.hid (SM.out.next b5)
  replace B := Lib.hid (thn B.out b5)
  clear b5
  clear mf df
  go_wp2_with fail
  have hc := descs_any Af nf cf zf _ 2 2 [oD 1 5, oD 2 1] w22 SF.out SL.out
  rw [show decide (zf.map (·.1) = [oD 1 5, oD 2 1].map (·.1)) = true from decide_eq_true MF.out] at hc
  refine hc.mono ?_
  clear hc
  rintro e w23 ⟨rfl, b5⟩
  replace SL := Lib.hid (SL.out.next b5)
  replace SM := Lib.hid (SM.out.next b5)
  replace SF := Lib.hid (SF.out.next b5)
  replace B := Lib.hid (thn B.out b5)
  clear b5
  go_wp2
  go_ret
  exact ⟨rfl, B.out⟩
end Go.Proofs.Ytdkchiodepdclaa
