/- Layer 11: SampleWait. -/
import Derived.Test.YtdkchiodepdclaaZw
import Derived.Deep.Cut
namespace Go.Proofs.Ytdkchiodepdclaa
open Go.RowKit
set_option linter.unusedVariables false
theorem neq_bool (a b : Bool) (w : World) : (binOp .neq 4 (.bool a) (.bool b)).run Try.prog w = .ok (.bool (!(a == b))) w := by
  cases a <;> cases b <;> simp [go_sem]
/-- What one is waited for at round k: it answered; it is waited for; it was given up. -/
def WaitSt (node m ar : Int) (ds : List Dsc) (k ga ba : Nat) (s : Wn) (es : List Dsc) : Prop :=
  (ba = 1 ∧ ga = 0 ∧ ar < (k : Int) ∧ ar < m ∧ s = wz ∧ es = []) ∨ (ba = 0 ∧ ga = 0 ∧ (k : Int) < m ∧ (k : Int) ≤ ar ∧ (∃ l, s = (true, node, l) ∧ l = m - (k : Int)) ∧ es = ds) ∨ (ba = 0 ∧ ga = 1 ∧ m ≤ (k : Int) ∧ m ≤ ar ∧ s = wz ∧ es = [])
theorem fit0 : Fit 0 ([] : List (Dsc × Hd)) := ⟨by decide, fun x hx => by cases hx⟩
theorem fit_nil {n : Nat} {xs : List (Dsc × Hd)} (e : xs.map (·.1) = []) (hn : n = xs.length) : Fit n xs := fit_map (ys := []) fit0 e hn rfl
set_option maxRecDepth 100000 in
set_option maxHeartbeats 40000000 in
theorem waitlaw_walk (node other left : Int) (A : Option Addr) (n c : Nat) (xs : List (Dsc × Hd)) (at_ : Int) (w : World) (h : Sds w A n c xs) (hR : ∀ x ∈ xs, dscR x.1) (hno : byt node) (hot : byt other) (hle : byt left) (hat : 0 ≤ at_ ∧ at_ ≤ 65535) :
    Calls Try.prog 4 #[.int .u8 node, .int .u8 other, .int .u8 left, .slice A n c, .int .u16 at_] w fun e w' => e = .returned (.bool true) ∧ Below w.heap.size w w' := by
  have HL := Lib.hid h.len
  have HR := Lib.hid hR
  have HS := Lib.hid h
  have B := Lib.hid (Below.refl w.heap.size w)
  obtain ⟨f1, HF1⟩ : ∃ f, Hid (fewB (xs.map (·.1)) = f) := ⟨_, rfl⟩
  obtain ⟨ar, har⟩ : ∃ r, Int.tmod at_ 300 = r := ⟨_, rfl⟩
  have ar0 : 0 ≤ ar := by rw [← har]; exact Int.tmod_nonneg _ hat.1
  have ar1 : ar ≤ 299 := by rw [← har]; have := Int.tmod_lt_of_pos at_ (show (0 : Int) < 300 by decide); omega
  obtain ⟨m, hm⟩ : ∃ m, max left 1 = m := ⟨_, rfl⟩
  have HMX : Hid (mx left = m) := hm
  have m0 : 1 ≤ m := by omega
  have m1 : m ≤ 255 := by have := hle.2; omega
  obtain ⟨hat0, hat1⟩ := hat
  obtain ⟨hle0, hle1⟩ := hle
  clear h hR hno hot
  go_enter Try.func4, Try.ntmps4
  go_wp2_with fail
  have hc := few_any A n c xs w HS.out
  rw [HF1.out] at hc
  refine hc.mono ?_
  clear hc
  rintro e w1 ⟨rfl, b5⟩
  replace B := Lib.hid (thn B.out b5)
  clear b5
  cases f1
  · skip
    go_wp2_with fail
    have hc := awake_any w1
    refine hc.mono ?_
    clear hc
    rintro e w2 ⟨rfl, b5⟩
    replace B := Lib.hid (thn B.out b5)
    clear b5
    go_wp2
    go_ret
    exact ⟨rfl, B.out⟩
  · skip
    have HFX := Lib.hid (few_fit HF1.out HL.out HR.out)
    go_wp2_with fail
    have hc := start_any node left A n c xs w1 (HS.out.next B.out) HFX.out
    rw [HMX.out] at hc
    refine hc.mono ?_
    clear hc
    rintro e w2 ⟨⟨Aw, nw, cw⟩, zw, rfl, mw, dw, b5⟩
    have MW := Lib.hid (mw)
    have SW := Lib.hid (dw.sds)
    replace B := Lib.hid (thn B.out b5)
    clear b5
    clear mw dw
    dsimp only at SW
    have FW := Lib.hid (fit_map HFX.out MW.out SW.out.len HL.out)
    have LB0 := Lib.hid B.out.size
    go_upto_region 4 with fail
    have hbl := below_lit w2 (.cells #[.bool ((true, node, m) : Wn).1, .int .u8 ((true, node, m) : Wn).2.1, .int .u8 ((true, node, m) : Wn).2.2, .slice ((Aw, nw, cw) : Hd).1 ((Aw, nw, cw) : Hd).2.1 ((Aw, nw, cw) : Hd).2.2] 31)
    have KW := Lib.hid (WBlk.new w2 (true, node, m) (Aw, nw, cw))
    replace SW := Lib.hid (SW.out.next hbl)
    replace B := Lib.hid (thn B.out hbl)
    clear hbl
    dsimp only at KW
    generalize w2.alloc _ = w3 at *
    obtain ⟨gKW, hgKW⟩ : ∃ q, w2.heap.size = q := ⟨_, rfl⟩
    rw [hgKW] at KW ⊢
    have LB : Hid (w.heap.size ≤ gKW) := Nat.le_trans LB0.out (Nat.le_of_eq hgKW)
    clear hgKW LB0
    go_wp2
    go_loopw [10, 13, 14, 15, 16, 17, 18, 19, 20, 21, 22, 23, 24, 37] (fun _ s13 s14 _ _ _ _ _ _ _ _ _ _ s37 wr => ∃ (k ga ba : Nat) (s : Wn) (h : Hd) (zs : List (Dsc × Hd)), k ≤ 260 ∧ s13 = .int .i64 (ga : Int) ∧ s14 = .int .i64 (ba : Int) ∧ s37 = .int .i64 (k : Int) ∧ Hid (WaitSt node m ar (xs.map (·.1)) k ga ba s (zs.map (·.1))) ∧ Hid (WBlk wr gKW s h) ∧ Hid (Sds wr h.1 h.2.1 h.2.2 zs) ∧ Hid (Fit h.2.1 zs) ∧ Hid (Below w.heap.size w wr)) (fun _ _ _ _ _ _ _ _ _ _ _ _ _ s37 _ => 260 - (intOf s37).toNat)
    case atStart => exact ⟨0, 0, 0, (true, node, m), (Aw, nw, cw), zw, by decide, rfl, rfl, rfl, .inr (.inl ⟨rfl, rfl, by omega, by omega, ⟨m, rfl, by omega⟩, MW.out⟩), KW, SW, FW, B⟩
    case round =>
      clear KW SW FW B MW
      obtain ⟨k, ga, ba, s, ⟨Aw, nw, cw⟩, zw, hk, rfl, rfl, rfl, ST, KW, SW, FW, B⟩ := hrel
      dsimp only at KW SW FW
      obtain ⟨v3, rfl⟩ : ∃ v, v = wr := ⟨_, rfl⟩
      have i0 : (0 : Int) ≤ (k : Int) := by omega
      by_cases hlt : k < 260
      · skip
        have i1 : (k : Int) < 260 := by omega
        rcases ST.out with ⟨rfl, rfl, ha1, ha2, rfl, he⟩ | ⟨rfl, rfl, hb1, hb2, ⟨l, rfl, hl⟩, he⟩ | ⟨rfl, rfl, hc1, hc2, rfl, he⟩
        · skip
          as_aux_lemma =>
            have HE := Lib.hid he
            have hke : ((k : Int) == ar) = false := beq_eq_false_iff_ne.2 (by omega)
            have HA : Hid (ar < (k : Int)) := ha1
            clear ST he
            have LT := Lib.hid KW.out.lt
            obtain ⟨KW0, KW1, KW2, KW3⟩ := KW.out.cells
            go_wp2_with fail
            have hc := tick_any wz Aw nw cw zw v3 SW.out FW.out (by decide)
            rw [show tickW wz = wz by decide] at hc
            rw [show tickP wz = 0 by decide] at hc
            rw [show tickB wz = false by decide] at hc
            rw [show tickS wz (zw.map (·.1)) = [] from if_neg (by decide)] at hc
            refine hc.mono ?_
            clear hc
            rintro e w31 ⟨⟨At, nt, ct⟩, zt, rfl, mt, dt, b5⟩
            clear KW0 KW1 KW2 KW3
            have MT := Lib.hid (mt)
            have DT := Lib.hid (dt)
            replace KW := Lib.hid (KW.out.next b5)
            replace SW := Lib.hid (SW.out.next b5)
            replace B := Lib.hid (thn B.out b5)
            clear b5
            clear mt dt
            dsimp only at DT ⊢
            have FT := Lib.hid (fit_nil MT.out DT.out.sds.len)
            replace MT : Hid (zt.map (·.1) = []) := MT.out
            clear SW FW HE
            go_upto_region 20 with fail
            have hbl := below_lit w31 (.cells #[.bool ((false, 0, 0) : Wn).1, .int .u8 ((false, 0, 0) : Wn).2.1, .int .u8 ((false, 0, 0) : Wn).2.2, .slice ((At, nt, ct) : Hd).1 ((At, nt, ct) : Hd).2.1 ((At, nt, ct) : Hd).2.2] 31)
            have KT := Lib.hid (WBlk.new w31 (false, 0, 0) (At, nt, ct))
            replace KW := Lib.hid (KW.out.next hbl)
            replace DT := Lib.hid (DT.out.next hbl)
            replace B := Lib.hid (thn B.out hbl)
            clear hbl
            dsimp only at KT
            generalize w31.alloc _ = w32 at *
            obtain ⟨gKT, hgKT⟩ : ∃ q, w31.heap.size = q := ⟨_, rfl⟩
            rw [hgKT] at KT ⊢
            clear hgKT
            obtain ⟨KW0, KW1, KW2, KW3⟩ := KW.out.cells
            obtain ⟨KT0, KT1, KT2, KT3⟩ := KT.out.cells
            have fr0 := KW.out.free 0
            have fr1 := KW.out.free 1
            have fr2 := KW.out.free 2
            have fr3 := KW.out.free 3
            go_upto_region 25 with fail
            clear fr0 fr1 fr2 fr3
            clear KW0 KW1 KW2 KW3 KT0 KT1 KT2 KT3
            have hgs := grown_setv w32 gKW (.bool false) (.int .u8 0) (.int .u8 0) (.slice At nt ct)
            replace KW := Lib.hid (KW.out.wrote (false, 0, 0) (At, nt, ct))
            replace DT := Lib.hid (DT.out.grownN hgs LT.out)
            replace B := Lib.hid (belowG B.out hgs B.out.size LB.out)
            clear hgs KT
            dsimp only at KW
            generalize (((w32.setCell ⟨gKW, 0, none⟩ (.bool false)).setCell ⟨gKW, 1, none⟩ (.int .u8 0)).setCell ⟨gKW, 2, none⟩ (.int .u8 0)).setCell ⟨gKW, 3, none⟩ (.slice At nt ct) = w33 at *
            have SW := Lib.hid DT.out.sds
            clear DT LT
            have FW := FT
            go_wp2
            go_roundw
            case rel => exact ⟨k + 1, 0, 1, (false, 0, 0), (At, nt, ct), zt, by omega, by first | rfl | go_num, by first | rfl | go_num, by go_num, .inl ⟨rfl, rfl, by have := HA.out; omega, ha2, rfl, MT.out⟩, KW, SW, FW, B⟩
            case measure => simp [intOf]; omega
        · skip
          by_cases hka : (k : Int) = ar
          · skip
            as_aux_lemma =>
              have HE := Lib.hid he
              have hkd : decide ((k : Int) < m) = true := decide_eq_true hb1
              have ntt : ∀ w', (binOp .neq 4 (.bool true) (.bool true)).run Try.prog w' = .ok (.bool false) w' := fun w' => (neq_bool true true w').trans (by simp)
              have hl3 : 1 ≤ l := by omega
              have hl4 : l ≤ 255 := by omega
              have HKA := Lib.hid hka
              clear ST he hl
              have hke : ((k : Int) == ar) = true := by simp [hka]
              clear hka
              by_cases ho : other = node
              · skip
                as_aux_lemma =>
                  have hb : (other != node) = false := by simp [ho]
                  clear ho
                  obtain ⟨sx, hsx⟩ : ∃ q, ansW (true, node, l) other = q := ⟨_, rfl⟩
                  obtain ⟨bx, hbx⟩ : ∃ q, ansB (true, node, l) other = q := ⟨_, rfl⟩
                  obtain ⟨KW0, KW1, KW2, KW3⟩ := KW.out.cells
                  go_wp2_with fail
                  have hc := answer_any (true, node, l) other Aw nw cw zw v3 SW.out FW.out
                  rw [hsx] at hc
                  rw [hbx] at hc
                  refine hc.mono ?_
                  clear hc
                  rintro e w31 ⟨⟨Ax, nx, cx⟩, zx, ⟨Ap, np, cp⟩, yx, rfl, mx, dx, mk, dk, b5⟩
                  clear KW0 KW1 KW2 KW3
                  replace KW := Lib.hid (KW.out.next b5)
                  replace SW := Lib.hid (SW.out.next b5)
                  replace B := Lib.hid (thn B.out b5)
                  clear b5
                  clear mx dx mk dk hsx hbx
                  dsimp only
                  go_upto_region 11 with fail
                  have hbl := below_lit w31 (.cells #[.bool (sx : Wn).1, .int .u8 (sx : Wn).2.1, .int .u8 (sx : Wn).2.2, .slice ((Ax, nx, cx) : Hd).1 ((Ax, nx, cx) : Hd).2.1 ((Ax, nx, cx) : Hd).2.2] 31)
                  have KX := Lib.hid (WBlk.new w31 sx (Ax, nx, cx))
                  replace KW := Lib.hid (KW.out.next hbl)
                  replace SW := Lib.hid (SW.out.next hbl)
                  replace B := Lib.hid (thn B.out hbl)
                  clear hbl
                  dsimp only at KX
                  generalize w31.alloc _ = w32 at *
                  obtain ⟨gKX, hgKX⟩ : ∃ q, w31.heap.size = q := ⟨_, rfl⟩
                  rw [hgKX] at KX ⊢
                  clear hgKX KX
                  have LN := Lib.hid KW.out.lt
                  have hab : ansB (true, node, l) node = true := by unfold ansB; simp
                  obtain ⟨KW0, KW1, KW2, KW3⟩ := KW.out.cells
                  go_wp2_with fail
                  have hc := answer_any (true, node, l) node Aw nw cw zw w32 SW.out FW.out
                  rw [show ansW (true, node, l) node = wz from if_pos hab] at hc
                  rw [show ansL (true, node, l) node (zw.map (·.1)) = [] from if_pos hab] at hc
                  rw [show ansG (true, node, l) node (zw.map (·.1)) = zw.map (·.1) from if_pos hab] at hc
                  rw [hab] at hc
                  refine hc.mono ?_
                  clear hc
                  rintro e w33 ⟨⟨An, nn, cn⟩, zn, ⟨Ak, nk, ck⟩, yk, rfl, mn, dn, mk, dk, b5⟩
                  clear KW0 KW1 KW2 KW3
                  have MN := Lib.hid (mn)
                  have DN := Lib.hid (dn)
                  have MK := Lib.hid (mk)
                  have SK := Lib.hid (dk.sds)
                  replace KW := Lib.hid (KW.out.next b5)
                  replace SW := Lib.hid (SW.out.next b5)
                  replace B := Lib.hid (thn B.out b5)
                  clear b5
                  clear mn dn mk dk hab
                  dsimp only at DN SK ⊢
                  replace MN : Hid (zn.map (·.1) = []) := MN.out
                  replace MK : Hid (yk.map (·.1) = xs.map (·.1)) := MK.out.trans HE.out
                  have FN := Lib.hid (fit_nil MN.out DN.out.sds.len)
                  clear SW FW HE
                  go_upto_region 14 with fail
                  have hbl := below_lit w33 (.cells #[.bool ((false, 0, 0) : Wn).1, .int .u8 ((false, 0, 0) : Wn).2.1, .int .u8 ((false, 0, 0) : Wn).2.2, .slice ((An, nn, cn) : Hd).1 ((An, nn, cn) : Hd).2.1 ((An, nn, cn) : Hd).2.2] 31)
                  have KN := Lib.hid (WBlk.new w33 (false, 0, 0) (An, nn, cn))
                  replace KW := Lib.hid (KW.out.next hbl)
                  replace DN := Lib.hid (DN.out.next hbl)
                  replace SK := Lib.hid (SK.out.next hbl)
                  replace B := Lib.hid (thn B.out hbl)
                  clear hbl
                  dsimp only at KN
                  generalize w33.alloc _ = w34 at *
                  obtain ⟨gKN, hgKN⟩ : ∃ q, w33.heap.size = q := ⟨_, rfl⟩
                  rw [hgKN] at KN ⊢
                  clear hgKN
                  go_wp2_with fail
                  have hc := descs_any Ak nk ck yk A n c xs w34 SK.out (HS.out.next B.out)
                  rw [show decide (yk.map (·.1) = xs.map (·.1)) = true from decide_eq_true MK.out] at hc
                  refine hc.mono ?_
                  clear hc
                  rintro e w35 ⟨rfl, b5⟩
                  replace KW := Lib.hid (KW.out.next b5)
                  replace DN := Lib.hid (DN.out.next b5)
                  replace SK := Lib.hid (SK.out.next b5)
                  replace KN := Lib.hid (KN.out.next b5)
                  replace B := Lib.hid (thn B.out b5)
                  clear b5
                  clear SK MK
                  obtain ⟨KW0, KW1, KW2, KW3⟩ := KW.out.cells
                  obtain ⟨KN0, KN1, KN2, KN3⟩ := KN.out.cells
                  have fr0 := KW.out.free 0
                  have fr1 := KW.out.free 1
                  have fr2 := KW.out.free 2
                  have fr3 := KW.out.free 3
                  go_upto_region 17 with fail
                  clear fr0 fr1 fr2 fr3
                  clear KW0 KW1 KW2 KW3 KN0 KN1 KN2 KN3
                  have hgs := grown_setv w35 gKW (.bool false) (.int .u8 0) (.int .u8 0) (.slice An nn cn)
                  replace KW := Lib.hid (KW.out.wrote (false, 0, 0) (An, nn, cn))
                  replace DN := Lib.hid (DN.out.grownN hgs LN.out)
                  replace B := Lib.hid (belowG B.out hgs B.out.size LB.out)
                  clear hgs KN
                  dsimp only at KW
                  generalize (((w35.setCell ⟨gKW, 0, none⟩ (.bool false)).setCell ⟨gKW, 1, none⟩ (.int .u8 0)).setCell ⟨gKW, 2, none⟩ (.int .u8 0)).setCell ⟨gKW, 3, none⟩ (.slice An nn cn) = w36 at *
                  have SW := Lib.hid DN.out.sds
                  clear DN LN
                  have FW := FN
                  have HE := MN
                  clear FN MN
                  have LT := Lib.hid KW.out.lt
                  obtain ⟨KW0, KW1, KW2, KW3⟩ := KW.out.cells
                  go_wp2_with fail
                  have hc := tick_any wz An nn cn zn w36 SW.out FW.out (by decide)
                  rw [show tickW wz = wz by decide] at hc
                  rw [show tickP wz = 0 by decide] at hc
                  rw [show tickB wz = false by decide] at hc
                  rw [show tickS wz (zn.map (·.1)) = [] from if_neg (by decide)] at hc
                  refine hc.mono ?_
                  clear hc
                  rintro e w37 ⟨⟨At, nt, ct⟩, zt, rfl, mt, dt, b5⟩
                  clear KW0 KW1 KW2 KW3
                  have MT := Lib.hid (mt)
                  have DT := Lib.hid (dt)
                  replace KW := Lib.hid (KW.out.next b5)
                  replace SW := Lib.hid (SW.out.next b5)
                  replace B := Lib.hid (thn B.out b5)
                  clear b5
                  clear mt dt
                  dsimp only at DT ⊢
                  have FT := Lib.hid (fit_nil MT.out DT.out.sds.len)
                  replace MT : Hid (zt.map (·.1) = []) := MT.out
                  clear SW FW HE
                  go_upto_region 20 with fail
                  have hbl := below_lit w37 (.cells #[.bool ((false, 0, 0) : Wn).1, .int .u8 ((false, 0, 0) : Wn).2.1, .int .u8 ((false, 0, 0) : Wn).2.2, .slice ((At, nt, ct) : Hd).1 ((At, nt, ct) : Hd).2.1 ((At, nt, ct) : Hd).2.2] 31)
                  have KT := Lib.hid (WBlk.new w37 (false, 0, 0) (At, nt, ct))
                  replace KW := Lib.hid (KW.out.next hbl)
                  replace DT := Lib.hid (DT.out.next hbl)
                  replace B := Lib.hid (thn B.out hbl)
                  clear hbl
                  dsimp only at KT
                  generalize w37.alloc _ = w38 at *
                  obtain ⟨gKT, hgKT⟩ : ∃ q, w37.heap.size = q := ⟨_, rfl⟩
                  rw [hgKT] at KT ⊢
                  clear hgKT
                  obtain ⟨KW0, KW1, KW2, KW3⟩ := KW.out.cells
                  obtain ⟨KT0, KT1, KT2, KT3⟩ := KT.out.cells
                  have fr0 := KW.out.free 0
                  have fr1 := KW.out.free 1
                  have fr2 := KW.out.free 2
                  have fr3 := KW.out.free 3
                  go_upto_region 25 with fail
                  clear fr0 fr1 fr2 fr3
                  clear KW0 KW1 KW2 KW3 KT0 KT1 KT2 KT3
                  have hgs := grown_setv w38 gKW (.bool false) (.int .u8 0) (.int .u8 0) (.slice At nt ct)
                  replace KW := Lib.hid (KW.out.wrote (false, 0, 0) (At, nt, ct))
                  replace DT := Lib.hid (DT.out.grownN hgs LT.out)
                  replace B := Lib.hid (belowG B.out hgs B.out.size LB.out)
                  clear hgs KT
                  dsimp only at KW
                  generalize (((w38.setCell ⟨gKW, 0, none⟩ (.bool false)).setCell ⟨gKW, 1, none⟩ (.int .u8 0)).setCell ⟨gKW, 2, none⟩ (.int .u8 0)).setCell ⟨gKW, 3, none⟩ (.slice At nt ct) = w39 at *
                  have SW := Lib.hid DT.out.sds
                  clear DT LT
                  have FW := FT
                  go_wp2
                  go_roundw
                  case rel => exact ⟨k + 1, 0, 1, (false, 0, 0), (At, nt, ct), zt, by omega, by first | rfl | go_num, by first | rfl | go_num, by go_num, .inl ⟨rfl, rfl, by have := HKA.out; omega, by have := HKA.out; omega, rfl, MT.out⟩, KW, SW, FW, B⟩
                  case measure => simp [intOf]; omega
              · skip
                as_aux_lemma =>
                  have hb : (other != node) = true := by simp [ho]
                  have hab : ansB (true, node, l) other = false := by unfold ansB; simp; exact fun e => ho e.symm
                  obtain ⟨KW0, KW1, KW2, KW3⟩ := KW.out.cells
                  go_wp2_with fail
                  have hc := answer_any (true, node, l) other Aw nw cw zw v3 SW.out FW.out
                  rw [show ansW (true, node, l) other = (true, node, l) from if_neg (by rw [hab]; decide)] at hc
                  rw [show ansL (true, node, l) other (zw.map (·.1)) = zw.map (·.1) from if_neg (by rw [hab]; decide)] at hc
                  rw [hab] at hc
                  refine hc.mono ?_
                  clear hc
                  rintro e w31 ⟨⟨Ax, nx, cx⟩, zx, ⟨Ap, np, cp⟩, yx, rfl, mx, dx, mk, dk, b5⟩
                  clear KW0 KW1 KW2 KW3
                  have MX := Lib.hid (mx)
                  have SX := Lib.hid (dx.sds)
                  replace KW := Lib.hid (KW.out.next b5)
                  replace SW := Lib.hid (SW.out.next b5)
                  replace B := Lib.hid (thn B.out b5)
                  clear b5
                  clear mx dx mk dk ho hab
                  dsimp only at SX ⊢
                  go_upto_region 11 with fail
                  have hbl := below_lit w31 (.cells #[.bool ((true, node, l) : Wn).1, .int .u8 ((true, node, l) : Wn).2.1, .int .u8 ((true, node, l) : Wn).2.2, .slice ((Ax, nx, cx) : Hd).1 ((Ax, nx, cx) : Hd).2.1 ((Ax, nx, cx) : Hd).2.2] 31)
                  have KX := Lib.hid (WBlk.new w31 (true, node, l) (Ax, nx, cx))
                  replace KW := Lib.hid (KW.out.next hbl)
                  replace SW := Lib.hid (SW.out.next hbl)
                  replace SX := Lib.hid (SX.out.next hbl)
                  replace B := Lib.hid (thn B.out hbl)
                  clear hbl
                  dsimp only at KX
                  generalize w31.alloc _ = w32 at *
                  obtain ⟨gKX, hgKX⟩ : ∃ q, w31.heap.size = q := ⟨_, rfl⟩
                  rw [hgKX] at KX ⊢
                  clear hgKX
                  obtain ⟨KW0, KW1, KW2, KW3⟩ := KW.out.cells
                  obtain ⟨KX0, KX1, KX2, KX3⟩ := KX.out.cells
                  go_wp2_with fail
                  have hc := samew_any (true, node, l) (Ax, nx, cx) (Aw, nw, cw) zx zw w32 SX.out SW.out MX.out
                  refine hc.mono ?_
                  clear hc
                  rintro e w33 ⟨rfl, b5⟩
                  clear KW0 KW1 KW2 KW3 KX0 KX1 KX2 KX3
                  replace KW := Lib.hid (KW.out.next b5)
                  replace SW := Lib.hid (SW.out.next b5)
                  replace SX := Lib.hid (SX.out.next b5)
                  replace KX := Lib.hid (KX.out.next b5)
                  replace B := Lib.hid (thn B.out b5)
                  clear b5
                  clear KX SX MX
                  have LN := Lib.hid KW.out.lt
                  have hab : ansB (true, node, l) node = true := by unfold ansB; simp
                  obtain ⟨KW0, KW1, KW2, KW3⟩ := KW.out.cells
                  go_wp2_with fail
                  have hc := answer_any (true, node, l) node Aw nw cw zw w33 SW.out FW.out
                  rw [show ansW (true, node, l) node = wz from if_pos hab] at hc
                  rw [show ansL (true, node, l) node (zw.map (·.1)) = [] from if_pos hab] at hc
                  rw [show ansG (true, node, l) node (zw.map (·.1)) = zw.map (·.1) from if_pos hab] at hc
                  rw [hab] at hc
                  refine hc.mono ?_
                  clear hc
                  rintro e w34 ⟨⟨An, nn, cn⟩, zn, ⟨Ak, nk, ck⟩, yk, rfl, mn, dn, mk, dk, b5⟩
                  clear KW0 KW1 KW2 KW3
                  have MN := Lib.hid (mn)
                  have DN := Lib.hid (dn)
                  have MK := Lib.hid (mk)
                  have SK := Lib.hid (dk.sds)
                  replace KW := Lib.hid (KW.out.next b5)
                  replace SW := Lib.hid (SW.out.next b5)
                  replace B := Lib.hid (thn B.out b5)
                  clear b5
                  clear mn dn mk dk hab
                  dsimp only at DN SK ⊢
                  replace MN : Hid (zn.map (·.1) = []) := MN.out
                  replace MK : Hid (yk.map (·.1) = xs.map (·.1)) := MK.out.trans HE.out
                  have FN := Lib.hid (fit_nil MN.out DN.out.sds.len)
                  clear SW FW HE
                  go_upto_region 14 with fail
                  have hbl := below_lit w34 (.cells #[.bool ((false, 0, 0) : Wn).1, .int .u8 ((false, 0, 0) : Wn).2.1, .int .u8 ((false, 0, 0) : Wn).2.2, .slice ((An, nn, cn) : Hd).1 ((An, nn, cn) : Hd).2.1 ((An, nn, cn) : Hd).2.2] 31)
                  have KN := Lib.hid (WBlk.new w34 (false, 0, 0) (An, nn, cn))
                  replace KW := Lib.hid (KW.out.next hbl)
                  replace DN := Lib.hid (DN.out.next hbl)
                  replace SK := Lib.hid (SK.out.next hbl)
                  replace B := Lib.hid (thn B.out hbl)
                  clear hbl
                  dsimp only at KN
                  generalize w34.alloc _ = w35 at *
                  obtain ⟨gKN, hgKN⟩ : ∃ q, w34.heap.size = q := ⟨_, rfl⟩
                  rw [hgKN] at KN ⊢
                  clear hgKN
                  go_wp2_with fail
                  have hc := descs_any Ak nk ck yk A n c xs w35 SK.out (HS.out.next B.out)
                  rw [show decide (yk.map (·.1) = xs.map (·.1)) = true from decide_eq_true MK.out] at hc
                  refine hc.mono ?_
                  clear hc
                  rintro e w36 ⟨rfl, b5⟩
                  replace KW := Lib.hid (KW.out.next b5)
                  replace DN := Lib.hid (DN.out.next b5)
                  replace SK := Lib.hid (SK.out.next b5)
                  replace KN := Lib.hid (KN.out.next b5)
                  replace B := Lib.hid (thn B.out b5)
                  clear b5
                  clear SK MK
                  obtain ⟨KW0, KW1, KW2, KW3⟩ := KW.out.cells
                  obtain ⟨KN0, KN1, KN2, KN3⟩ := KN.out.cells
                  have fr0 := KW.out.free 0
                  have fr1 := KW.out.free 1
                  have fr2 := KW.out.free 2
                  have fr3 := KW.out.free 3
                  go_upto_region 17 with fail
                  clear fr0 fr1 fr2 fr3
                  clear KW0 KW1 KW2 KW3 KN0 KN1 KN2 KN3
                  have hgs := grown_setv w36 gKW (.bool false) (.int .u8 0) (.int .u8 0) (.slice An nn cn)
                  replace KW := Lib.hid (KW.out.wrote (false, 0, 0) (An, nn, cn))
                  replace DN := Lib.hid (DN.out.grownN hgs LN.out)
                  replace B := Lib.hid (belowG B.out hgs B.out.size LB.out)
                  clear hgs KN
                  dsimp only at KW
                  generalize (((w36.setCell ⟨gKW, 0, none⟩ (.bool false)).setCell ⟨gKW, 1, none⟩ (.int .u8 0)).setCell ⟨gKW, 2, none⟩ (.int .u8 0)).setCell ⟨gKW, 3, none⟩ (.slice An nn cn) = w37 at *
                  have SW := Lib.hid DN.out.sds
                  clear DN LN
                  have FW := FN
                  have HE := MN
                  clear FN MN
                  have LT := Lib.hid KW.out.lt
                  obtain ⟨KW0, KW1, KW2, KW3⟩ := KW.out.cells
                  go_wp2_with fail
                  have hc := tick_any wz An nn cn zn w37 SW.out FW.out (by decide)
                  rw [show tickW wz = wz by decide] at hc
                  rw [show tickP wz = 0 by decide] at hc
                  rw [show tickB wz = false by decide] at hc
                  rw [show tickS wz (zn.map (·.1)) = [] from if_neg (by decide)] at hc
                  refine hc.mono ?_
                  clear hc
                  rintro e w38 ⟨⟨At, nt, ct⟩, zt, rfl, mt, dt, b5⟩
                  clear KW0 KW1 KW2 KW3
                  have MT := Lib.hid (mt)
                  have DT := Lib.hid (dt)
                  replace KW := Lib.hid (KW.out.next b5)
                  replace SW := Lib.hid (SW.out.next b5)
                  replace B := Lib.hid (thn B.out b5)
                  clear b5
                  clear mt dt
                  dsimp only at DT ⊢
                  have FT := Lib.hid (fit_nil MT.out DT.out.sds.len)
                  replace MT : Hid (zt.map (·.1) = []) := MT.out
                  clear SW FW HE
                  go_upto_region 20 with fail
                  have hbl := below_lit w38 (.cells #[.bool ((false, 0, 0) : Wn).1, .int .u8 ((false, 0, 0) : Wn).2.1, .int .u8 ((false, 0, 0) : Wn).2.2, .slice ((At, nt, ct) : Hd).1 ((At, nt, ct) : Hd).2.1 ((At, nt, ct) : Hd).2.2] 31)
                  have KT := Lib.hid (WBlk.new w38 (false, 0, 0) (At, nt, ct))
                  replace KW := Lib.hid (KW.out.next hbl)
                  replace DT := Lib.hid (DT.out.next hbl)
                  replace B := Lib.hid (thn B.out hbl)
                  clear hbl
                  dsimp only at KT
                  generalize w38.alloc _ = w39 at *
                  obtain ⟨gKT, hgKT⟩ : ∃ q, w38.heap.size = q := ⟨_, rfl⟩
                  rw [hgKT] at KT ⊢
                  clear hgKT
                  obtain ⟨KW0, KW1, KW2, KW3⟩ := KW.out.cells
                  obtain ⟨KT0, KT1, KT2, KT3⟩ := KT.out.cells
                  have fr0 := KW.out.free 0
                  have fr1 := KW.out.free 1
                  have fr2 := KW.out.free 2
                  have fr3 := KW.out.free 3
                  go_upto_region 25 with fail
                  clear fr0 fr1 fr2 fr3
                  clear KW0 KW1 KW2 KW3 KT0 KT1 KT2 KT3
                  have hgs := grown_setv w39 gKW (.bool false) (.int .u8 0) (.int .u8 0) (.slice At nt ct)
                  replace KW := Lib.hid (KW.out.wrote (false, 0, 0) (At, nt, ct))
                  replace DT := Lib.hid (DT.out.grownN hgs LT.out)
                  replace B := Lib.hid (belowG B.out hgs B.out.size LB.out)
                  clear hgs KT
                  dsimp only at KW
                  generalize (((w39.setCell ⟨gKW, 0, none⟩ (.bool false)).setCell ⟨gKW, 1, none⟩ (.int .u8 0)).setCell ⟨gKW, 2, none⟩ (.int .u8 0)).setCell ⟨gKW, 3, none⟩ (.slice At nt ct) = w40 at *
                  have SW := Lib.hid DT.out.sds
                  clear DT LT
                  have FW := FT
                  go_wp2
                  go_roundw
                  case rel => exact ⟨k + 1, 0, 1, (false, 0, 0), (At, nt, ct), zt, by omega, by first | rfl | go_num, by first | rfl | go_num, by go_num, .inl ⟨rfl, rfl, by have := HKA.out; omega, by have := HKA.out; omega, rfl, MT.out⟩, KW, SW, FW, B⟩
                  case measure => simp [intOf]; omega
          · skip
            have HE := Lib.hid he
            have hke : ((k : Int) == ar) = false := beq_eq_false_iff_ne.2 hka
            have hka2 : (k : Int) + 1 ≤ ar := by omega
            have HLL := Lib.hid hl
            have hl3 : 1 ≤ l := by omega
            have hl4 : l ≤ 255 := by omega
            clear ST he hka hl
            by_cases hl1 : l ≤ 1
            · skip
              as_aux_lemma =>
                have hk1 : ((k : Int) != m - 1) = false := by have := HLL.out; simp; omega
                have LT := Lib.hid KW.out.lt
                obtain ⟨KW0, KW1, KW2, KW3⟩ := KW.out.cells
                go_wp2_with fail
                have hc := tick_any (true, node, l) Aw nw cw zw v3 SW.out FW.out (by show l ≤ 255; omega)
                rw [show tickW (true, node, l) = wz from if_neg (by simp; omega)] at hc
                rw [show tickP (true, node, l) = node from if_pos ⟨rfl, hl1⟩] at hc
                rw [show tickB (true, node, l) = true by unfold tickB; simp; omega] at hc
                rw [show tickS (true, node, l) (zw.map (·.1)) = [] from if_neg (by simp; omega)] at hc
                refine hc.mono ?_
                clear hc
                rintro e w31 ⟨⟨At, nt, ct⟩, zt, rfl, mt, dt, b5⟩
                clear KW0 KW1 KW2 KW3
                have MT := Lib.hid (mt)
                have DT := Lib.hid (dt)
                replace KW := Lib.hid (KW.out.next b5)
                replace SW := Lib.hid (SW.out.next b5)
                replace B := Lib.hid (thn B.out b5)
                clear b5
                clear mt dt
                dsimp only at DT ⊢
                have FT := Lib.hid (fit_nil MT.out DT.out.sds.len)
                replace MT : Hid (zt.map (·.1) = []) := MT.out
                clear SW FW HE
                go_upto_region 20 with fail
                have hbl := below_lit w31 (.cells #[.bool ((false, 0, 0) : Wn).1, .int .u8 ((false, 0, 0) : Wn).2.1, .int .u8 ((false, 0, 0) : Wn).2.2, .slice ((At, nt, ct) : Hd).1 ((At, nt, ct) : Hd).2.1 ((At, nt, ct) : Hd).2.2] 31)
                have KT := Lib.hid (WBlk.new w31 (false, 0, 0) (At, nt, ct))
                replace KW := Lib.hid (KW.out.next hbl)
                replace DT := Lib.hid (DT.out.next hbl)
                replace B := Lib.hid (thn B.out hbl)
                clear hbl
                dsimp only at KT
                generalize w31.alloc _ = w32 at *
                obtain ⟨gKT, hgKT⟩ : ∃ q, w31.heap.size = q := ⟨_, rfl⟩
                rw [hgKT] at KT ⊢
                clear hgKT
                obtain ⟨KT0, KT1, KT2, KT3⟩ := KT.out.cells
                go_wp2_with fail
                have hc := samew_any wz (At, nt, ct) hz0 zt [] w32 DT.out.sds (Sds.nil _) MT.out
                refine hc.mono ?_
                clear hc
                rintro e w33 ⟨rfl, b5⟩
                clear KT0 KT1 KT2 KT3
                replace KW := Lib.hid (KW.out.next b5)
                replace DT := Lib.hid (DT.out.next b5)
                replace KT := Lib.hid (KT.out.next b5)
                replace B := Lib.hid (thn B.out b5)
                clear b5
                obtain ⟨KW0, KW1, KW2, KW3⟩ := KW.out.cells
                obtain ⟨KT0, KT1, KT2, KT3⟩ := KT.out.cells
                have fr0 := KW.out.free 0
                have fr1 := KW.out.free 1
                have fr2 := KW.out.free 2
                have fr3 := KW.out.free 3
                go_upto_region 25 with fail
                clear fr0 fr1 fr2 fr3
                clear KW0 KW1 KW2 KW3 KT0 KT1 KT2 KT3
                have hgs := grown_setv w33 gKW (.bool false) (.int .u8 0) (.int .u8 0) (.slice At nt ct)
                replace KW := Lib.hid (KW.out.wrote (false, 0, 0) (At, nt, ct))
                replace DT := Lib.hid (DT.out.grownN hgs LT.out)
                replace B := Lib.hid (belowG B.out hgs B.out.size LB.out)
                clear hgs KT
                dsimp only at KW
                generalize (((w33.setCell ⟨gKW, 0, none⟩ (.bool false)).setCell ⟨gKW, 1, none⟩ (.int .u8 0)).setCell ⟨gKW, 2, none⟩ (.int .u8 0)).setCell ⟨gKW, 3, none⟩ (.slice At nt ct) = w34 at *
                have SW := Lib.hid DT.out.sds
                clear DT LT
                have FW := FT
                go_wp2
                go_roundw
                case rel => exact ⟨k + 1, 1, 0, (false, 0, 0), (At, nt, ct), zt, by omega, by first | rfl | go_num, by first | rfl | go_num, by go_num, .inr (.inr ⟨rfl, rfl, by have := HLL.out; omega, by have := HLL.out; omega, rfl, MT.out⟩), KW, SW, FW, B⟩
                case measure => simp [intOf]; omega
            · skip
              as_aux_lemma =>
                obtain ⟨l2, hl2⟩ : ∃ q, l - 1 = q := ⟨_, rfl⟩
                have HL2 := Lib.hid hl2
                have LT := Lib.hid KW.out.lt
                obtain ⟨KW0, KW1, KW2, KW3⟩ := KW.out.cells
                go_wp2_with fail
                have hc := tick_any (true, node, l) Aw nw cw zw v3 SW.out FW.out (by show l ≤ 255; omega)
                rw [show tickW (true, node, l) = (true, node, l2) by rw [← hl2]; exact if_pos ⟨rfl, by show 1 < l; omega⟩] at hc
                rw [show tickP (true, node, l) = 0 from if_neg (by simp; omega)] at hc
                rw [show tickB (true, node, l) = false by unfold tickB; simp; omega] at hc
                rw [show tickS (true, node, l) (zw.map (·.1)) = zw.map (·.1) from if_pos ⟨rfl, by show 1 < l; omega⟩] at hc
                refine hc.mono ?_
                clear hc
                rintro e w31 ⟨⟨At, nt, ct⟩, zt, rfl, mt, dt, b5⟩
                clear KW0 KW1 KW2 KW3
                have MT := Lib.hid (mt)
                have DT := Lib.hid (dt)
                replace KW := Lib.hid (KW.out.next b5)
                replace SW := Lib.hid (SW.out.next b5)
                replace B := Lib.hid (thn B.out b5)
                clear b5
                clear mt dt
                dsimp only at DT ⊢
                have FT := Lib.hid (fit_map FW.out MT.out DT.out.sds.len SW.out.len)
                replace MT : Hid (zt.map (·.1) = xs.map (·.1)) := MT.out.trans HE.out
                clear SW FW HE
                go_upto_region 20 with fail
                have hbl := below_lit w31 (.cells #[.bool ((true, node, l2) : Wn).1, .int .u8 ((true, node, l2) : Wn).2.1, .int .u8 ((true, node, l2) : Wn).2.2, .slice ((At, nt, ct) : Hd).1 ((At, nt, ct) : Hd).2.1 ((At, nt, ct) : Hd).2.2] 31)
                have KT := Lib.hid (WBlk.new w31 (true, node, l2) (At, nt, ct))
                replace KW := Lib.hid (KW.out.next hbl)
                replace DT := Lib.hid (DT.out.next hbl)
                replace B := Lib.hid (thn B.out hbl)
                clear hbl
                dsimp only at KT
                generalize w31.alloc _ = w32 at *
                obtain ⟨gKT, hgKT⟩ : ∃ q, w31.heap.size = q := ⟨_, rfl⟩
                rw [hgKT] at KT ⊢
                clear hgKT
                obtain ⟨KW0, KW1, KW2, KW3⟩ := KW.out.cells
                obtain ⟨KT0, KT1, KT2, KT3⟩ := KT.out.cells
                have fr0 := KW.out.free 0
                have fr1 := KW.out.free 1
                have fr2 := KW.out.free 2
                have fr3 := KW.out.free 3
                go_upto_region 25 with fail
                clear fr0 fr1 fr2 fr3
                clear KW0 KW1 KW2 KW3 KT0 KT1 KT2 KT3
                have hgs := grown_setv w32 gKW (.bool true) (.int .u8 node) (.int .u8 l2) (.slice At nt ct)
                replace KW := Lib.hid (KW.out.wrote (true, node, l2) (At, nt, ct))
                replace DT := Lib.hid (DT.out.grownN hgs LT.out)
                replace B := Lib.hid (belowG B.out hgs B.out.size LB.out)
                clear hgs KT
                dsimp only at KW
                generalize (((w32.setCell ⟨gKW, 0, none⟩ (.bool true)).setCell ⟨gKW, 1, none⟩ (.int .u8 node)).setCell ⟨gKW, 2, none⟩ (.int .u8 l2)).setCell ⟨gKW, 3, none⟩ (.slice At nt ct) = w33 at *
                have SW := Lib.hid DT.out.sds
                clear DT LT
                have FW := FT
                go_wp2
                go_roundw
                case rel => exact ⟨k + 1, 0, 0, (true, node, l2), (At, nt, ct), zt, by omega, by first | rfl | go_num, by first | rfl | go_num, by go_num, .inr (.inl ⟨rfl, rfl, by have := HLL.out; have := HL2.out; omega, by omega, ⟨l2, rfl, by have := HLL.out; have := HL2.out; omega⟩, MT.out⟩), KW, SW, FW, B⟩
                case measure => simp [intOf]; omega
        · skip
          by_cases hka : (k : Int) = ar
          · skip
            as_aux_lemma =>
              have HE := Lib.hid he
              have hkm : ¬ (k : Int) < m := by omega
              have hkd : decide ((k : Int) < m) = false := decide_eq_false hkm
              have nff : ∀ w', (binOp .neq 4 (.bool false) (.bool false)).run Try.prog w' = .ok (.bool false) w' := fun w' => (neq_bool false false w').trans (by simp)
              have HKA := Lib.hid hka
              clear ST he
              have hke : ((k : Int) == ar) = true := by simp [hka]
              clear hka
              by_cases ho : other = node
              · skip
                as_aux_lemma =>
                  have hb : (other != node) = false := by simp [ho]
                  clear ho
                  obtain ⟨sx, hsx⟩ : ∃ q, ansW (false, 0, 0) other = q := ⟨_, rfl⟩
                  obtain ⟨bx, hbx⟩ : ∃ q, ansB (false, 0, 0) other = q := ⟨_, rfl⟩
                  obtain ⟨KW0, KW1, KW2, KW3⟩ := KW.out.cells
                  go_wp2_with fail
                  have hc := answer_any (false, 0, 0) other Aw nw cw zw v3 SW.out FW.out
                  rw [hsx] at hc
                  rw [hbx] at hc
                  refine hc.mono ?_
                  clear hc
                  rintro e w31 ⟨⟨Ax, nx, cx⟩, zx, ⟨Ap, np, cp⟩, yx, rfl, mx, dx, mk, dk, b5⟩
                  clear KW0 KW1 KW2 KW3
                  replace KW := Lib.hid (KW.out.next b5)
                  replace SW := Lib.hid (SW.out.next b5)
                  replace B := Lib.hid (thn B.out b5)
                  clear b5
                  clear mx dx mk dk hsx hbx
                  dsimp only
                  go_upto_region 11 with fail
                  have hbl := below_lit w31 (.cells #[.bool (sx : Wn).1, .int .u8 (sx : Wn).2.1, .int .u8 (sx : Wn).2.2, .slice ((Ax, nx, cx) : Hd).1 ((Ax, nx, cx) : Hd).2.1 ((Ax, nx, cx) : Hd).2.2] 31)
                  have KX := Lib.hid (WBlk.new w31 sx (Ax, nx, cx))
                  replace KW := Lib.hid (KW.out.next hbl)
                  replace SW := Lib.hid (SW.out.next hbl)
                  replace B := Lib.hid (thn B.out hbl)
                  clear hbl
                  dsimp only at KX
                  generalize w31.alloc _ = w32 at *
                  obtain ⟨gKX, hgKX⟩ : ∃ q, w31.heap.size = q := ⟨_, rfl⟩
                  rw [hgKX] at KX ⊢
                  clear hgKX KX
                  have LN := Lib.hid KW.out.lt
                  have hab : ansB (false, 0, 0) node = false := by unfold ansB; simp
                  obtain ⟨KW0, KW1, KW2, KW3⟩ := KW.out.cells
                  go_wp2_with fail
                  have hc := answer_any (false, 0, 0) node Aw nw cw zw w32 SW.out FW.out
                  rw [show ansW (false, 0, 0) node = (false, 0, 0) from if_neg (by rw [hab]; decide)] at hc
                  rw [show ansL (false, 0, 0) node (zw.map (·.1)) = zw.map (·.1) from if_neg (by rw [hab]; decide)] at hc
                  rw [show ansG (false, 0, 0) node (zw.map (·.1)) = [] from if_neg (by rw [hab]; decide)] at hc
                  rw [hab] at hc
                  refine hc.mono ?_
                  clear hc
                  rintro e w33 ⟨⟨An, nn, cn⟩, zn, ⟨Ak, nk, ck⟩, yk, rfl, mn, dn, mk, dk, b5⟩
                  clear KW0 KW1 KW2 KW3
                  have MN := Lib.hid (mn)
                  have DN := Lib.hid (dn)
                  have MK := Lib.hid (mk)
                  have SK := Lib.hid (dk.sds)
                  replace KW := Lib.hid (KW.out.next b5)
                  replace SW := Lib.hid (SW.out.next b5)
                  replace B := Lib.hid (thn B.out b5)
                  clear b5
                  clear mn dn mk dk hab
                  dsimp only at DN SK ⊢
                  replace MN : Hid (zn.map (·.1) = []) := MN.out.trans HE.out
                  obtain rfl : nk = 0 := by have h1 := SK.out.len; have h2 := congrArg List.length MK.out; rw [List.length_map] at h2; exact h1.trans h2
                  have FN := Lib.hid (fit_nil MN.out DN.out.sds.len)
                  clear SW FW HE
                  clear SK MK
                  go_upto_region 14 with fail
                  have hbl := below_lit w33 (.cells #[.bool ((false, 0, 0) : Wn).1, .int .u8 ((false, 0, 0) : Wn).2.1, .int .u8 ((false, 0, 0) : Wn).2.2, .slice ((An, nn, cn) : Hd).1 ((An, nn, cn) : Hd).2.1 ((An, nn, cn) : Hd).2.2] 31)
                  have KN := Lib.hid (WBlk.new w33 (false, 0, 0) (An, nn, cn))
                  replace KW := Lib.hid (KW.out.next hbl)
                  replace DN := Lib.hid (DN.out.next hbl)
                  replace B := Lib.hid (thn B.out hbl)
                  clear hbl
                  dsimp only at KN
                  generalize w33.alloc _ = w34 at *
                  obtain ⟨gKN, hgKN⟩ : ∃ q, w33.heap.size = q := ⟨_, rfl⟩
                  rw [hgKN] at KN ⊢
                  clear hgKN
                  obtain ⟨KW0, KW1, KW2, KW3⟩ := KW.out.cells
                  obtain ⟨KN0, KN1, KN2, KN3⟩ := KN.out.cells
                  have fr0 := KW.out.free 0
                  have fr1 := KW.out.free 1
                  have fr2 := KW.out.free 2
                  have fr3 := KW.out.free 3
                  go_upto_region 17 with fail
                  clear fr0 fr1 fr2 fr3
                  clear KW0 KW1 KW2 KW3 KN0 KN1 KN2 KN3
                  have hgs := grown_setv w34 gKW (.bool false) (.int .u8 0) (.int .u8 0) (.slice An nn cn)
                  replace KW := Lib.hid (KW.out.wrote (false, 0, 0) (An, nn, cn))
                  replace DN := Lib.hid (DN.out.grownN hgs LN.out)
                  replace B := Lib.hid (belowG B.out hgs B.out.size LB.out)
                  clear hgs KN
                  dsimp only at KW
                  generalize (((w34.setCell ⟨gKW, 0, none⟩ (.bool false)).setCell ⟨gKW, 1, none⟩ (.int .u8 0)).setCell ⟨gKW, 2, none⟩ (.int .u8 0)).setCell ⟨gKW, 3, none⟩ (.slice An nn cn) = w35 at *
                  have SW := Lib.hid DN.out.sds
                  clear DN LN
                  have FW := FN
                  have HE := MN
                  clear FN MN
                  have LT := Lib.hid KW.out.lt
                  obtain ⟨KW0, KW1, KW2, KW3⟩ := KW.out.cells
                  go_wp2_with fail
                  have hc := tick_any wz An nn cn zn w35 SW.out FW.out (by decide)
                  rw [show tickW wz = wz by decide] at hc
                  rw [show tickP wz = 0 by decide] at hc
                  rw [show tickB wz = false by decide] at hc
                  rw [show tickS wz (zn.map (·.1)) = [] from if_neg (by decide)] at hc
                  refine hc.mono ?_
                  clear hc
                  rintro e w36 ⟨⟨At, nt, ct⟩, zt, rfl, mt, dt, b5⟩
                  clear KW0 KW1 KW2 KW3
                  have MT := Lib.hid (mt)
                  have DT := Lib.hid (dt)
                  replace KW := Lib.hid (KW.out.next b5)
                  replace SW := Lib.hid (SW.out.next b5)
                  replace B := Lib.hid (thn B.out b5)
                  clear b5
                  clear mt dt
                  dsimp only at DT ⊢
                  have FT := Lib.hid (fit_nil MT.out DT.out.sds.len)
                  replace MT : Hid (zt.map (·.1) = []) := MT.out
                  clear SW FW HE
                  go_upto_region 20 with fail
                  have hbl := below_lit w36 (.cells #[.bool ((false, 0, 0) : Wn).1, .int .u8 ((false, 0, 0) : Wn).2.1, .int .u8 ((false, 0, 0) : Wn).2.2, .slice ((At, nt, ct) : Hd).1 ((At, nt, ct) : Hd).2.1 ((At, nt, ct) : Hd).2.2] 31)
                  have KT := Lib.hid (WBlk.new w36 (false, 0, 0) (At, nt, ct))
                  replace KW := Lib.hid (KW.out.next hbl)
                  replace DT := Lib.hid (DT.out.next hbl)
                  replace B := Lib.hid (thn B.out hbl)
                  clear hbl
                  dsimp only at KT
                  generalize w36.alloc _ = w37 at *
                  obtain ⟨gKT, hgKT⟩ : ∃ q, w36.heap.size = q := ⟨_, rfl⟩
                  rw [hgKT] at KT ⊢
                  clear hgKT
                  obtain ⟨KW0, KW1, KW2, KW3⟩ := KW.out.cells
                  obtain ⟨KT0, KT1, KT2, KT3⟩ := KT.out.cells
                  have fr0 := KW.out.free 0
                  have fr1 := KW.out.free 1
                  have fr2 := KW.out.free 2
                  have fr3 := KW.out.free 3
                  go_upto_region 25 with fail
                  clear fr0 fr1 fr2 fr3
                  clear KW0 KW1 KW2 KW3 KT0 KT1 KT2 KT3
                  have hgs := grown_setv w37 gKW (.bool false) (.int .u8 0) (.int .u8 0) (.slice At nt ct)
                  replace KW := Lib.hid (KW.out.wrote (false, 0, 0) (At, nt, ct))
                  replace DT := Lib.hid (DT.out.grownN hgs LT.out)
                  replace B := Lib.hid (belowG B.out hgs B.out.size LB.out)
                  clear hgs KT
                  dsimp only at KW
                  generalize (((w37.setCell ⟨gKW, 0, none⟩ (.bool false)).setCell ⟨gKW, 1, none⟩ (.int .u8 0)).setCell ⟨gKW, 2, none⟩ (.int .u8 0)).setCell ⟨gKW, 3, none⟩ (.slice At nt ct) = w38 at *
                  have SW := Lib.hid DT.out.sds
                  clear DT LT
                  have FW := FT
                  go_wp2
                  go_roundw
                  case rel => exact ⟨k + 1, 1, 0, (false, 0, 0), (At, nt, ct), zt, by omega, by first | rfl | go_num, by first | rfl | go_num, by go_num, .inr (.inr ⟨rfl, rfl, by omega, hc2, rfl, MT.out⟩), KW, SW, FW, B⟩
                  case measure => simp [intOf]; omega
              · skip
                as_aux_lemma =>
                  have hb : (other != node) = true := by simp [ho]
                  have hab : ansB (false, 0, 0) other = false := by unfold ansB; simp
                  obtain ⟨KW0, KW1, KW2, KW3⟩ := KW.out.cells
                  go_wp2_with fail
                  have hc := answer_any (false, 0, 0) other Aw nw cw zw v3 SW.out FW.out
                  rw [show ansW (false, 0, 0) other = (false, 0, 0) from if_neg (by rw [hab]; decide)] at hc
                  rw [show ansL (false, 0, 0) other (zw.map (·.1)) = zw.map (·.1) from if_neg (by rw [hab]; decide)] at hc
                  rw [hab] at hc
                  refine hc.mono ?_
                  clear hc
                  rintro e w31 ⟨⟨Ax, nx, cx⟩, zx, ⟨Ap, np, cp⟩, yx, rfl, mx, dx, mk, dk, b5⟩
                  clear KW0 KW1 KW2 KW3
                  have MX := Lib.hid (mx)
                  have SX := Lib.hid (dx.sds)
                  replace KW := Lib.hid (KW.out.next b5)
                  replace SW := Lib.hid (SW.out.next b5)
                  replace B := Lib.hid (thn B.out b5)
                  clear b5
                  clear mx dx mk dk ho hab
                  dsimp only at SX ⊢
                  go_upto_region 11 with fail
                  have hbl := below_lit w31 (.cells #[.bool ((false, 0, 0) : Wn).1, .int .u8 ((false, 0, 0) : Wn).2.1, .int .u8 ((false, 0, 0) : Wn).2.2, .slice ((Ax, nx, cx) : Hd).1 ((Ax, nx, cx) : Hd).2.1 ((Ax, nx, cx) : Hd).2.2] 31)
                  have KX := Lib.hid (WBlk.new w31 (false, 0, 0) (Ax, nx, cx))
                  replace KW := Lib.hid (KW.out.next hbl)
                  replace SW := Lib.hid (SW.out.next hbl)
                  replace SX := Lib.hid (SX.out.next hbl)
                  replace B := Lib.hid (thn B.out hbl)
                  clear hbl
                  dsimp only at KX
                  generalize w31.alloc _ = w32 at *
                  obtain ⟨gKX, hgKX⟩ : ∃ q, w31.heap.size = q := ⟨_, rfl⟩
                  rw [hgKX] at KX ⊢
                  clear hgKX
                  obtain ⟨KW0, KW1, KW2, KW3⟩ := KW.out.cells
                  obtain ⟨KX0, KX1, KX2, KX3⟩ := KX.out.cells
                  go_wp2_with fail
                  have hc := samew_any (false, 0, 0) (Ax, nx, cx) (Aw, nw, cw) zx zw w32 SX.out SW.out MX.out
                  refine hc.mono ?_
                  clear hc
                  rintro e w33 ⟨rfl, b5⟩
                  clear KW0 KW1 KW2 KW3 KX0 KX1 KX2 KX3
                  replace KW := Lib.hid (KW.out.next b5)
                  replace SW := Lib.hid (SW.out.next b5)
                  replace SX := Lib.hid (SX.out.next b5)
                  replace KX := Lib.hid (KX.out.next b5)
                  replace B := Lib.hid (thn B.out b5)
                  clear b5
                  clear KX SX MX
                  have LN := Lib.hid KW.out.lt
                  have hab : ansB (false, 0, 0) node = false := by unfold ansB; simp
                  obtain ⟨KW0, KW1, KW2, KW3⟩ := KW.out.cells
                  go_wp2_with fail
                  have hc := answer_any (false, 0, 0) node Aw nw cw zw w33 SW.out FW.out
                  rw [show ansW (false, 0, 0) node = (false, 0, 0) from if_neg (by rw [hab]; decide)] at hc
                  rw [show ansL (false, 0, 0) node (zw.map (·.1)) = zw.map (·.1) from if_neg (by rw [hab]; decide)] at hc
                  rw [show ansG (false, 0, 0) node (zw.map (·.1)) = [] from if_neg (by rw [hab]; decide)] at hc
                  rw [hab] at hc
                  refine hc.mono ?_
                  clear hc
                  rintro e w34 ⟨⟨An, nn, cn⟩, zn, ⟨Ak, nk, ck⟩, yk, rfl, mn, dn, mk, dk, b5⟩
                  clear KW0 KW1 KW2 KW3
                  have MN := Lib.hid (mn)
                  have DN := Lib.hid (dn)
                  have MK := Lib.hid (mk)
                  have SK := Lib.hid (dk.sds)
                  replace KW := Lib.hid (KW.out.next b5)
                  replace SW := Lib.hid (SW.out.next b5)
                  replace B := Lib.hid (thn B.out b5)
                  clear b5
                  clear mn dn mk dk hab
                  dsimp only at DN SK ⊢
                  replace MN : Hid (zn.map (·.1) = []) := MN.out.trans HE.out
                  obtain rfl : nk = 0 := by have h1 := SK.out.len; have h2 := congrArg List.length MK.out; rw [List.length_map] at h2; exact h1.trans h2
                  have FN := Lib.hid (fit_nil MN.out DN.out.sds.len)
                  clear SW FW HE
                  clear SK MK
                  go_upto_region 14 with fail
                  have hbl := below_lit w34 (.cells #[.bool ((false, 0, 0) : Wn).1, .int .u8 ((false, 0, 0) : Wn).2.1, .int .u8 ((false, 0, 0) : Wn).2.2, .slice ((An, nn, cn) : Hd).1 ((An, nn, cn) : Hd).2.1 ((An, nn, cn) : Hd).2.2] 31)
                  have KN := Lib.hid (WBlk.new w34 (false, 0, 0) (An, nn, cn))
                  replace KW := Lib.hid (KW.out.next hbl)
                  replace DN := Lib.hid (DN.out.next hbl)
                  replace B := Lib.hid (thn B.out hbl)
                  clear hbl
                  dsimp only at KN
                  generalize w34.alloc _ = w35 at *
                  obtain ⟨gKN, hgKN⟩ : ∃ q, w34.heap.size = q := ⟨_, rfl⟩
                  rw [hgKN] at KN ⊢
                  clear hgKN
                  obtain ⟨KW0, KW1, KW2, KW3⟩ := KW.out.cells
                  obtain ⟨KN0, KN1, KN2, KN3⟩ := KN.out.cells
                  have fr0 := KW.out.free 0
                  have fr1 := KW.out.free 1
                  have fr2 := KW.out.free 2
                  have fr3 := KW.out.free 3
                  go_upto_region 17 with fail
                  clear fr0 fr1 fr2 fr3
                  clear KW0 KW1 KW2 KW3 KN0 KN1 KN2 KN3
                  have hgs := grown_setv w35 gKW (.bool false) (.int .u8 0) (.int .u8 0) (.slice An nn cn)
                  replace KW := Lib.hid (KW.out.wrote (false, 0, 0) (An, nn, cn))
                  replace DN := Lib.hid (DN.out.grownN hgs LN.out)
                  replace B := Lib.hid (belowG B.out hgs B.out.size LB.out)
                  clear hgs KN
                  dsimp only at KW
                  generalize (((w35.setCell ⟨gKW, 0, none⟩ (.bool false)).setCell ⟨gKW, 1, none⟩ (.int .u8 0)).setCell ⟨gKW, 2, none⟩ (.int .u8 0)).setCell ⟨gKW, 3, none⟩ (.slice An nn cn) = w36 at *
                  have SW := Lib.hid DN.out.sds
                  clear DN LN
                  have FW := FN
                  have HE := MN
                  clear FN MN
                  have LT := Lib.hid KW.out.lt
                  obtain ⟨KW0, KW1, KW2, KW3⟩ := KW.out.cells
                  go_wp2_with fail
                  have hc := tick_any wz An nn cn zn w36 SW.out FW.out (by decide)
                  rw [show tickW wz = wz by decide] at hc
                  rw [show tickP wz = 0 by decide] at hc
                  rw [show tickB wz = false by decide] at hc
                  rw [show tickS wz (zn.map (·.1)) = [] from if_neg (by decide)] at hc
                  refine hc.mono ?_
                  clear hc
                  rintro e w37 ⟨⟨At, nt, ct⟩, zt, rfl, mt, dt, b5⟩
                  clear KW0 KW1 KW2 KW3
                  have MT := Lib.hid (mt)
                  have DT := Lib.hid (dt)
                  replace KW := Lib.hid (KW.out.next b5)
                  replace SW := Lib.hid (SW.out.next b5)
                  replace B := Lib.hid (thn B.out b5)
                  clear b5
                  clear mt dt
                  dsimp only at DT ⊢
                  have FT := Lib.hid (fit_nil MT.out DT.out.sds.len)
                  replace MT : Hid (zt.map (·.1) = []) := MT.out
                  clear SW FW HE
                  go_upto_region 20 with fail
                  have hbl := below_lit w37 (.cells #[.bool ((false, 0, 0) : Wn).1, .int .u8 ((false, 0, 0) : Wn).2.1, .int .u8 ((false, 0, 0) : Wn).2.2, .slice ((At, nt, ct) : Hd).1 ((At, nt, ct) : Hd).2.1 ((At, nt, ct) : Hd).2.2] 31)
                  have KT := Lib.hid (WBlk.new w37 (false, 0, 0) (At, nt, ct))
                  replace KW := Lib.hid (KW.out.next hbl)
                  replace DT := Lib.hid (DT.out.next hbl)
                  replace B := Lib.hid (thn B.out hbl)
                  clear hbl
                  dsimp only at KT
                  generalize w37.alloc _ = w38 at *
                  obtain ⟨gKT, hgKT⟩ : ∃ q, w37.heap.size = q := ⟨_, rfl⟩
                  rw [hgKT] at KT ⊢
                  clear hgKT
                  obtain ⟨KW0, KW1, KW2, KW3⟩ := KW.out.cells
                  obtain ⟨KT0, KT1, KT2, KT3⟩ := KT.out.cells
                  have fr0 := KW.out.free 0
                  have fr1 := KW.out.free 1
                  have fr2 := KW.out.free 2
                  have fr3 := KW.out.free 3
                  go_upto_region 25 with fail
                  clear fr0 fr1 fr2 fr3
                  clear KW0 KW1 KW2 KW3 KT0 KT1 KT2 KT3
                  have hgs := grown_setv w38 gKW (.bool false) (.int .u8 0) (.int .u8 0) (.slice At nt ct)
                  replace KW := Lib.hid (KW.out.wrote (false, 0, 0) (At, nt, ct))
                  replace DT := Lib.hid (DT.out.grownN hgs LT.out)
                  replace B := Lib.hid (belowG B.out hgs B.out.size LB.out)
                  clear hgs KT
                  dsimp only at KW
                  generalize (((w38.setCell ⟨gKW, 0, none⟩ (.bool false)).setCell ⟨gKW, 1, none⟩ (.int .u8 0)).setCell ⟨gKW, 2, none⟩ (.int .u8 0)).setCell ⟨gKW, 3, none⟩ (.slice At nt ct) = w39 at *
                  have SW := Lib.hid DT.out.sds
                  clear DT LT
                  have FW := FT
                  go_wp2
                  go_roundw
                  case rel => exact ⟨k + 1, 1, 0, (false, 0, 0), (At, nt, ct), zt, by omega, by first | rfl | go_num, by first | rfl | go_num, by go_num, .inr (.inr ⟨rfl, rfl, by omega, hc2, rfl, MT.out⟩), KW, SW, FW, B⟩
                  case measure => simp [intOf]; omega
          · skip
            as_aux_lemma =>
              have HE := Lib.hid he
              have hke : ((k : Int) == ar) = false := beq_eq_false_iff_ne.2 hka
              clear ST he hka
              have LT := Lib.hid KW.out.lt
              obtain ⟨KW0, KW1, KW2, KW3⟩ := KW.out.cells
              go_wp2_with fail
              have hc := tick_any wz Aw nw cw zw v3 SW.out FW.out (by decide)
              rw [show tickW wz = wz by decide] at hc
              rw [show tickP wz = 0 by decide] at hc
              rw [show tickB wz = false by decide] at hc
              rw [show tickS wz (zw.map (·.1)) = [] from if_neg (by decide)] at hc
              refine hc.mono ?_
              clear hc
              rintro e w31 ⟨⟨At, nt, ct⟩, zt, rfl, mt, dt, b5⟩
              clear KW0 KW1 KW2 KW3
              have MT := Lib.hid (mt)
              have DT := Lib.hid (dt)
              replace KW := Lib.hid (KW.out.next b5)
              replace SW := Lib.hid (SW.out.next b5)
              replace B := Lib.hid (thn B.out b5)
              clear b5
              clear mt dt
              dsimp only at DT ⊢
              have FT := Lib.hid (fit_nil MT.out DT.out.sds.len)
              replace MT : Hid (zt.map (·.1) = []) := MT.out
              clear SW FW HE
              go_upto_region 20 with fail
              have hbl := below_lit w31 (.cells #[.bool ((false, 0, 0) : Wn).1, .int .u8 ((false, 0, 0) : Wn).2.1, .int .u8 ((false, 0, 0) : Wn).2.2, .slice ((At, nt, ct) : Hd).1 ((At, nt, ct) : Hd).2.1 ((At, nt, ct) : Hd).2.2] 31)
              have KT := Lib.hid (WBlk.new w31 (false, 0, 0) (At, nt, ct))
              replace KW := Lib.hid (KW.out.next hbl)
              replace DT := Lib.hid (DT.out.next hbl)
              replace B := Lib.hid (thn B.out hbl)
              clear hbl
              dsimp only at KT
              generalize w31.alloc _ = w32 at *
              obtain ⟨gKT, hgKT⟩ : ∃ q, w31.heap.size = q := ⟨_, rfl⟩
              rw [hgKT] at KT ⊢
              clear hgKT
              obtain ⟨KW0, KW1, KW2, KW3⟩ := KW.out.cells
              obtain ⟨KT0, KT1, KT2, KT3⟩ := KT.out.cells
              have fr0 := KW.out.free 0
              have fr1 := KW.out.free 1
              have fr2 := KW.out.free 2
              have fr3 := KW.out.free 3
              go_upto_region 25 with fail
              clear fr0 fr1 fr2 fr3
              clear KW0 KW1 KW2 KW3 KT0 KT1 KT2 KT3
              have hgs := grown_setv w32 gKW (.bool false) (.int .u8 0) (.int .u8 0) (.slice At nt ct)
              replace KW := Lib.hid (KW.out.wrote (false, 0, 0) (At, nt, ct))
              replace DT := Lib.hid (DT.out.grownN hgs LT.out)
              replace B := Lib.hid (belowG B.out hgs B.out.size LB.out)
              clear hgs KT
              dsimp only at KW
              generalize (((w32.setCell ⟨gKW, 0, none⟩ (.bool false)).setCell ⟨gKW, 1, none⟩ (.int .u8 0)).setCell ⟨gKW, 2, none⟩ (.int .u8 0)).setCell ⟨gKW, 3, none⟩ (.slice At nt ct) = w33 at *
              have SW := Lib.hid DT.out.sds
              clear DT LT
              have FW := FT
              go_wp2
              go_roundw
              case rel => exact ⟨k + 1, 1, 0, (false, 0, 0), (At, nt, ct), zt, by omega, by first | rfl | go_num, by first | rfl | go_num, by go_num, .inr (.inr ⟨rfl, rfl, by omega, hc2, rfl, MT.out⟩), KW, SW, FW, B⟩
              case measure => simp [intOf]; omega
      · skip
        obtain rfl : k = 260 := by omega
        rcases ST.out with ⟨rfl, rfl, ha1, ha2, rfl, he⟩ | ⟨rfl, rfl, hb1, hb2, ⟨l, rfl, hl⟩, he⟩ | ⟨rfl, rfl, hc1, hc2, rfl, he⟩
        · skip
          as_aux_lemma =>
            have ha3 : ar < 260 := by omega
            have HE := Lib.hid he
            clear ST he
            obtain ⟨KW0, KW1, KW2, KW3⟩ := KW.out.cells
            go_wp2_with fail
            have hc := samew_any wz (Aw, nw, cw) hz0 zw [] v3 SW.out (Sds.nil _) HE.out
            refine hc.mono ?_
            clear hc
            rintro e w31 ⟨rfl, b5⟩
            clear KW0 KW1 KW2 KW3
            replace KW := Lib.hid (KW.out.next b5)
            replace SW := Lib.hid (SW.out.next b5)
            replace B := Lib.hid (thn B.out b5)
            clear b5
            go_wp2_with fail
            have hc := awake_any w31
            refine hc.mono ?_
            clear hc
            rintro e w32 ⟨rfl, b5⟩
            replace KW := Lib.hid (KW.out.next b5)
            replace SW := Lib.hid (SW.out.next b5)
            replace B := Lib.hid (thn B.out b5)
            clear b5
            go_wp2
            go_ret
            exact ⟨rfl, B.out⟩
        · omega
        · skip
          as_aux_lemma =>
            have hc3 : ¬ ar < m := by omega
            have hc4 : decide (ar < m) = false := decide_eq_false hc3
            have HE := Lib.hid he
            clear ST he
            obtain ⟨KW0, KW1, KW2, KW3⟩ := KW.out.cells
            go_wp2_with fail
            have hc := samew_any wz (Aw, nw, cw) hz0 zw [] v3 SW.out (Sds.nil _) HE.out
            refine hc.mono ?_
            clear hc
            rintro e w31 ⟨rfl, b5⟩
            clear KW0 KW1 KW2 KW3
            replace KW := Lib.hid (KW.out.next b5)
            replace SW := Lib.hid (SW.out.next b5)
            replace B := Lib.hid (thn B.out b5)
            clear b5
            go_wp2_with fail
            have hc := awake_any w31
            refine hc.mono ?_
            clear hc
            rintro e w32 ⟨rfl, b5⟩
            replace KW := Lib.hid (KW.out.next b5)
            replace SW := Lib.hid (SW.out.next b5)
            replace B := Lib.hid (thn B.out b5)
            clear b5
            go_wp2
            go_ret
            exact ⟨rfl, B.out⟩
end Go.Proofs.Ytdkchiodepdclaa
