/- Layer 11: SampleTells. -/
import Derived.Test.YtdkchiodepdclaaZw
import Derived.Test.YtdkchiodepdclaaRb9
import Derived.Deep.Cut
import Derived.Test.YtdkchiodepdclaaZr
import Derived.Test.YtdkchiodepdclaaReg6
namespace Go.Proofs.Ytdkchiodepdclaa
open Go.RowKit
set_option linter.unusedVariables false
theorem neqB (a : Bool) (w : World) : (binOp .neq 4 (.bool a) (.bool a)).run Try.prog w = .ok (.bool false) w := by
  cases a <;> simp [go_sem]
def tyL10 (ds : List Dsc) : Ty := .pred (fun v u => ∃ (A : Option Addr) (n c : Nat) (xs : List (Dsc × Hd)), v = .slice A n c ∧ xs.map (·.1) = ds ∧ Sds u A n c xs) (fun _ _ _ ⟨A, n, c, xs, h1, h2, h3⟩ hb => ⟨A, n, c, xs, h1, h2, h3.next hb⟩)
/-- A wait that has ticks, if it is one. -/
def WG (s : Wn) : Prop := (s.1 = true → 1 ≤ s.2.2 ∧ s.2.2 ≤ 255) ∧ s.2.2 ≤ 255
def xH (s : Wn) (h : Hd) : Hd := if s.1 = true then h else hz0
def xL (s : Wn) (gs : List (Dsc × Hd)) : List (Dsc × Hd) := if s.1 = true then gs else []
theorem WG.tick {s : Wn} (h : WG s) : WG (tickW s) := by
  unfold tickW
  by_cases q : s.1 = true ∧ 1 < s.2.2
  · rw [if_pos q]; exact ⟨fun _ => ⟨by show 1 ≤ s.2.2 - 1; omega, by show s.2.2 - 1 ≤ 255; have := h.2; omega⟩, by show s.2.2 - 1 ≤ 255; have := h.2; omega⟩
  · rw [if_neg q]; exact ⟨(fun e => by cases e), by decide⟩
theorem tickW_1 (s : Wn) : (tickW s).1 = true ↔ (s.1 = true ∧ 1 < s.2.2) := by
  unfold tickW
  by_cases q : s.1 = true ∧ 1 < s.2.2
  · rw [if_pos q]; simp [q]
  · rw [if_neg q]; constructor
    · intro e; cases e
    · intro e; exact absurd e q
theorem tickH_x (s : Wn) (h : Hd) : tickH s (xH s h) = xH (tickW s) h := by
  unfold tickH xH
  by_cases q : s.1 = true ∧ 1 < s.2.2
  · rw [if_pos q, if_pos q.1, if_pos ((tickW_1 s).2 q)]
  · rw [if_neg q, if_neg (fun e => q ((tickW_1 s).1 e))]
theorem tickS_x (s : Wn) (gs : List (Dsc × Hd)) : tickS s ((xL s gs).map (·.1)) = (xL (tickW s) gs).map (·.1) := by
  unfold tickS xL
  by_cases q : s.1 = true ∧ 1 < s.2.2
  · rw [if_pos q, if_pos q.1, if_pos ((tickW_1 s).2 q)]
  · rw [if_neg q, if_neg (fun e => q ((tickW_1 s).1 e))]; rfl
theorem xsds {w : World} {A : Option Addr} {n c : Nat} {gs : List (Dsc × Hd)} (h : Sds w A n c gs) (s : Wn) : Sds w (xH s (A, n, c)).1 (xH s (A, n, c)).2.1 (xH s (A, n, c)).2.2 (xL s gs) := by
  unfold xH xL
  by_cases q : s.1 = true
  · rw [if_pos q, if_pos q]; exact h
  · rw [if_neg q, if_neg q]; exact Sds.nil _
theorem xfit {n : Nat} {gs zs : List (Dsc × Hd)} (h : Fit n gs) (hl : n = gs.length) (s : Wn) {m : Nat} (e : zs.map (·.1) = (xL s gs).map (·.1)) (hm : m = zs.length) : Fit m zs := by
  unfold xL at e
  by_cases q : s.1 = true
  · rw [if_pos q] at e; exact fit_map h e hm hl
  · rw [if_neg q] at e; exact fit_map (ys := []) (m := 0) ⟨by decide, fun x hx => by cases hx⟩ e hm rfl
/-- What the reference's answer hands back. -/
theorem ans_h {w : World} {h : Hd} {gs : List (Dsc × Hd)} (hs : Sds w h.1 h.2.1 h.2.2 gs) (s : Wn) (f : Int) : ∃ ys, Sds w (ansH s f h).1 (ansH s f h).2.1 (ansH s f h).2.2 ys ∧ ys.map (·.1) = ansL s f (gs.map (·.1)) := by
  unfold ansH ansL
  by_cases q : ansB s f = true
  · rw [if_pos q, if_pos q]; exact ⟨[], Sds.nil _, rfl⟩
  · rw [if_neg q, if_neg q]; exact ⟨gs, hs, rfl⟩
theorem ans_k {w : World} {h : Hd} {gs : List (Dsc × Hd)} (hs : Sds w h.1 h.2.1 h.2.2 gs) (s : Wn) (f : Int) : ∃ ys, Sds w (ansK s f h).1 (ansK s f h).2.1 (ansK s f h).2.2 ys ∧ ys.map (·.1) = ansG s f (gs.map (·.1)) := by
  unfold ansK ansG
  by_cases q : ansB s f = true
  · rw [if_pos q, if_pos q]; exact ⟨gs, hs, rfl⟩
  · rw [if_neg q, if_neg q]; exact ⟨[], Sds.nil _, rfl⟩
set_option maxRecDepth 100000 in
set_option maxHeartbeats 40000000 in
theorem tells_walk (node left from_ : Int) (some_ : Bool) (ticks : Int) (A : Option Addr) (n c : Nat) (xs : List (Dsc × Hd)) (Ag : Option Addr) (ng cg : Nat) (gs : List (Dsc × Hd)) (d : Dsc) (hd : Hd) (self room : Int) (w : World) (h : Sds w A n c xs) (hR : ∀ x ∈ xs, dscR x.1) (hg : Sds w Ag ng cg gs) (hRg : ∀ x ∈ gs, dscR x.1) (fd : Fl w (d, hd)) (rd : dscR d) (hle : byt left) (hti : 0 ≤ ticks ∧ ticks ≤ 65535) (hse : byt self) (hrm : byt room) :
    Calls Try.prog 3 #[.int .u8 node, .int .u8 left, .int .u8 from_, .bool some_, .int .u16 ticks, .slice A n c, .slice Ag ng cg, (.agg #[.int .u8 d.1, .int .u16 d.2.1, .int .u8 d.2.2.1, .slice hd.1 hd.2.1 hd.2.2]), .int .u8 self, .int .u8 room] w fun e w' => e = .returned (.bool true) ∧ Below w.heap.size w w' := by
  have HL := Lib.hid h.len
  have HLg := Lib.hid hg.len
  have HR := Lib.hid hR
  have HRg := Lib.hid hRg
  have HS := Lib.hid h
  have HG := Lib.hid hg
  have HSF := Lib.hid hse
  have FD : Hid (Fl w (d, hd)) := fd
  have HLD : Hid (hd.2.1 = d.2.2.2.length) := sp_len fd
  have HRD := Lib.hid rd
  have B := Lib.hid (below_lit w (.cells #[.int .u8 d.1, .int .u16 d.2.1, .int .u8 d.2.2.1, .slice hd.1 hd.2.1 hd.2.2] 27))
  have KD : Hid (DBlk (w.alloc (.cells #[.int .u8 d.1, .int .u16 d.2.1, .int .u8 d.2.2.1, .slice hd.1 hd.2.1 hd.2.2] 27)) w.heap.size d hd) := DBlk.new w d hd
  obtain ⟨f1, HF1⟩ : ∃ f, Hid (fewB (xs.map (·.1)) = f) := ⟨_, rfl⟩
  obtain ⟨f2, HF2⟩ : ∃ f, Hid (fewB (gs.map (·.1)) = f) := ⟨_, rfl⟩
  obtain ⟨rm, hrm1⟩ : ∃ r, Int.tmod room 21 = r := ⟨_, rfl⟩
  have rm0 : 0 ≤ rm := by rw [← hrm1]; exact Int.tmod_nonneg _ hrm.1
  have rm1 : rm ≤ 20 := by rw [← hrm1]; have := Int.tmod_lt_of_pos room (show (0 : Int) < 21 by decide); omega
  obtain ⟨tn, htn, htn1⟩ : ∃ tn : Nat, Int.tmod ticks 300 = (tn : Int) ∧ tn ≤ 299 := ⟨(Int.tmod ticks 300).toNat, by have := Int.tmod_nonneg 300 hti.1; omega, by have := Int.tmod_lt_of_pos ticks (show (0 : Int) < 300 by decide); omega⟩
  obtain ⟨hrmL, hrmU⟩ := hrm
  obtain ⟨htiL, htiU⟩ := hti
  obtain ⟨ml, hml⟩ : ∃ m, mx left = m := ⟨_, rfl⟩
  have HML := Lib.hid hml
  have HWG : Hid (WG (true, node, ml)) := ⟨fun _ => ⟨by show 1 ≤ ml; rw [← hml]; unfold mx; omega, by show ml ≤ 255; rw [← hml]; unfold mx; have := hle.2; omega⟩, by show ml ≤ 255; rw [← hml]; unfold mx; have := hle.2; omega⟩
  have hle0 := hle.1
  clear h hR hg hRg fd rd hse hml hle
  go_enter Try.func3, Try.ntmps3
  go_upto_region 1 with fail
  generalize w.alloc _ = w1 at *
  obtain ⟨gKD, hg⟩ : ∃ g, w.heap.size = g := ⟨_, rfl⟩
  rw [hg] at KD ⊢
  clear hg
  obtain ⟨KD0, KD1, KD2, KD3⟩ := KD.out.cells
  go_wp2_with fail
  have hc := few_any A n c xs w1 (HS.out.next B.out)
  rw [HF1.out] at hc
  refine hc.mono ?_
  clear hc
  rintro e w2 ⟨rfl, b5⟩
  clear KD0 KD1 KD2 KD3
  replace KD := Lib.hid (KD.out.next b5)
  replace B := Lib.hid (thn B.out b5)
  clear b5
  cases f1
  · skip
    obtain ⟨KD0, KD1, KD2, KD3⟩ := KD.out.cells
    go_wp2_with fail
    have hc := awake_any w2
    refine hc.mono ?_
    clear hc
    rintro e w3 ⟨rfl, b5⟩
    clear KD0 KD1 KD2 KD3
    replace KD := Lib.hid (KD.out.next b5)
    replace B := Lib.hid (thn B.out b5)
    clear b5
    go_wp2
    go_ret
    exact ⟨rfl, B.out⟩
  · skip
    obtain ⟨KD0, KD1, KD2, KD3⟩ := KD.out.cells
    go_wp2_with fail
    have hc := few_any Ag ng cg gs w2 (HG.out.next B.out)
    rw [HF2.out] at hc
    refine hc.mono ?_
    clear hc
    rintro e w3 ⟨rfl, b5⟩
    clear KD0 KD1 KD2 KD3
    replace KD := Lib.hid (KD.out.next b5)
    replace B := Lib.hid (thn B.out b5)
    clear b5
    cases f2
    · skip
      obtain ⟨KD0, KD1, KD2, KD3⟩ := KD.out.cells
      go_wp2_with fail
      have hc := awake_any w3
      refine hc.mono ?_
      clear hc
      rintro e w4 ⟨rfl, b5⟩
      clear KD0 KD1 KD2 KD3
      replace KD := Lib.hid (KD.out.next b5)
      replace B := Lib.hid (thn B.out b5)
      clear b5
      go_wp2
      go_ret
      exact ⟨rfl, B.out⟩
    · skip
      by_cases l8 : (8 : Int) < (hd.2.1 : Int)
      · skip
        obtain ⟨KD0, KD1, KD2, KD3⟩ := KD.out.cells
        go_wp2_with fail
        have hc := awake_any w3
        refine hc.mono ?_
        clear hc
        rintro e w4 ⟨rfl, b5⟩
        clear KD0 KD1 KD2 KD3
        replace KD := Lib.hid (KD.out.next b5)
        replace B := Lib.hid (thn B.out b5)
        clear b5
        go_wp2
        go_ret
        exact ⟨rfl, B.out⟩
      · skip
        have HFX := Lib.hid (few_fit HF1.out HL.out HR.out)
        have HFG := Lib.hid (few_fit HF2.out HLg.out HRg.out)
        have F1D : Hid (Fit1 d) := ⟨HRD.out, by have := HLD.out; omega⟩
        obtain ⟨KD0, KD1, KD2, KD3⟩ := KD.out.cells
        go_wp2_with fail
        have hc := start_any node left Ag ng cg gs w3 (HG.out.next B.out) HFG.out
        rw [HML.out] at hc
        refine hc.mono ?_
        clear hc
        rintro e w4 ⟨⟨Aw, nw, cw⟩, zw, rfl, mw, dw, b5⟩
        clear KD0 KD1 KD2 KD3
        have MW := Lib.hid (mw)
        have SW := Lib.hid (dw.sds)
        replace KD := Lib.hid (KD.out.next b5)
        replace B := Lib.hid (thn B.out b5)
        clear b5
        clear mw dw
        dsimp only at SW ⊢
        obtain ⟨KD0, KD1, KD2, KD3⟩ := KD.out.cells
        go_wp2_with fail
        have hc := refstart_any node left Ag ng cg w4 hle0
        rw [HML.out] at hc
        refine hc.mono ?_
        clear hc
        rintro e w5 ⟨rfl, b5⟩
        clear KD0 KD1 KD2 KD3
        replace KD := Lib.hid (KD.out.next b5)
        replace SW := Lib.hid (SW.out.next b5)
        replace B := Lib.hid (thn B.out b5)
        clear b5
        go_upto_region 4 with fail
        obtain ⟨K1, K2, BX⟩ := box2s w5 (true, node, ml) (true, node, ml) (Aw, nw, cw) (Ag, ng, cg)
        dsimp only at K1 K2 BX
        have LB0 := Lib.hid B.out.size
        have LD0 := Lib.hid KD.out.lt
        replace KD := Lib.hid (KD.out.next BX.out)
        replace SW := Lib.hid (SW.out.next BX.out)
        replace B := Lib.hid (thn B.out BX.out)
        clear BX
        generalize (w5.alloc _).alloc _ = w6 at *
        obtain ⟨g1, hg1⟩ : ∃ q, w5.heap.size = q := ⟨_, rfl⟩
        obtain ⟨g2, hg2⟩ : ∃ q, w5.heap.size + 1 = q := ⟨_, rfl⟩
        rw [hg2] at K2 ⊢
        rw [hg1] at K1 ⊢
        have LB1 : Hid (w.heap.size ≤ g1) := by have := LB0.out; unfold Hid; omega
        have LB2 : Hid (w.heap.size ≤ g2) := by have := LB0.out; unfold Hid; omega
        have n12 : g1 ≠ g2 := by omega
        have n21 : g2 ≠ g1 := by omega
        have nd1 : gKD ≠ g1 := by have := LD0.out; omega
        have nd2 : gKD ≠ g2 := by have := LD0.out; omega
        clear hg1 hg2 LB0 LD0
        cases some_
        · skip
          obtain ⟨K10, K11, K12, K13⟩ := K1.out.cells
          obtain ⟨K20, K21, K22, K23⟩ := K2.out.cells
          have frK10 := K1.out.free 0
          have frK11 := K1.out.free 1
          have frK12 := K1.out.free 2
          have frK13 := K1.out.free 3
          have frK20 := K2.out.free 0
          have frK21 := K2.out.free 1
          have frK22 := K2.out.free 2
          have frK23 := K2.out.free 3
          go_upto_region 6 with fail
          clear frK10 frK11 frK12 frK13 frK20 frK21 frK22 frK23
          clear K10 K11 K12 K13 K20 K21 K22 K23
          clear SW
          have hga := grown_setv w6 g1 (.bool false) (.int .u8 0) (.int .u8 0) (.slice none 0 0)
          have hgb := grown_setv ((((w6.setCell ⟨g1, 0, none⟩ (.bool false)).setCell ⟨g1, 1, none⟩ (.int .u8 0)).setCell ⟨g1, 2, none⟩ (.int .u8 0)).setCell ⟨g1, 3, none⟩ (.slice none 0 0)) g2 (.bool false) (.int .u8 0) (.int .u8 0) (.slice none 0 0)
          have K1N : Hid (WBlk ((((((((w6.setCell ⟨g1, 0, none⟩ (.bool false)).setCell ⟨g1, 1, none⟩ (.int .u8 0)).setCell ⟨g1, 2, none⟩ (.int .u8 0)).setCell ⟨g1, 3, none⟩ (.slice none 0 0)).setCell ⟨g2, 0, none⟩ (.bool false)).setCell ⟨g2, 1, none⟩ (.int .u8 0)).setCell ⟨g2, 2, none⟩ (.int .u8 0)).setCell ⟨g2, 3, none⟩ (.slice none 0 0)) g1 wz hz0) := (K1.out.wrote wz hz0).grown hgb n12
          have K2N : Hid (WBlk ((((((((w6.setCell ⟨g1, 0, none⟩ (.bool false)).setCell ⟨g1, 1, none⟩ (.int .u8 0)).setCell ⟨g1, 2, none⟩ (.int .u8 0)).setCell ⟨g1, 3, none⟩ (.slice none 0 0)).setCell ⟨g2, 0, none⟩ (.bool false)).setCell ⟨g2, 1, none⟩ (.int .u8 0)).setCell ⟨g2, 2, none⟩ (.int .u8 0)).setCell ⟨g2, 3, none⟩ (.slice none 0 0)) g2 wz hz0) := (K2.out.grown hga n21).wrote wz hz0
          have KDN := Lib.hid ((KD.out.grown hga nd1).grown hgb nd2)
          have BN : Hid (Below w.heap.size w ((((((((w6.setCell ⟨g1, 0, none⟩ (.bool false)).setCell ⟨g1, 1, none⟩ (.int .u8 0)).setCell ⟨g1, 2, none⟩ (.int .u8 0)).setCell ⟨g1, 3, none⟩ (.slice none 0 0)).setCell ⟨g2, 0, none⟩ (.bool false)).setCell ⟨g2, 1, none⟩ (.int .u8 0)).setCell ⟨g2, 2, none⟩ (.int .u8 0)).setCell ⟨g2, 3, none⟩ (.slice none 0 0))) := (belowG (belowG B.out hga B.out.size LB1.out) hgb (belowG B.out hga B.out.size LB1.out).size LB2.out)
          clear hga hgb K1 K2 B KD
          generalize ((((((((w6.setCell ⟨g1, 0, none⟩ (.bool false)).setCell ⟨g1, 1, none⟩ (.int .u8 0)).setCell ⟨g1, 2, none⟩ (.int .u8 0)).setCell ⟨g1, 3, none⟩ (.slice none 0 0)).setCell ⟨g2, 0, none⟩ (.bool false)).setCell ⟨g2, 1, none⟩ (.int .u8 0)).setCell ⟨g2, 2, none⟩ (.int .u8 0)).setCell ⟨g2, 3, none⟩ (.slice none 0 0)) = w7 at *
          have K1 := K1N
          clear K1N
          have K2 := K2N
          clear K2N
          have B := BN
          clear BN
          have KD := KDN
          clear KDN
          have SW : Hid (Sds w7 none 0 0 []) := Sds.nil _
          as_aux_lemma =>
            go_wp2
            go_loopw [20, 23, 24, 25, 26, 27, 28, 67] (fun _ _ _ _ _ _ _ s67 wr => ∃ (j : Nat) (s : Wn) (h : Hd) (zs : List (Dsc × Hd)), j ≤ tn ∧ s67 = .int .u16 (j : Int) ∧ Hid (WG s) ∧ Hid (zs.map (·.1) = (xL s gs).map (·.1)) ∧ Hid (WBlk wr g1 s h) ∧ Hid (WBlk wr g2 s (xH s (Ag, ng, cg))) ∧ Hid (Sds wr h.1 h.2.1 h.2.2 zs) ∧ Hid (DBlk wr gKD d hd) ∧ Hid (Below w.heap.size w wr)) (fun _ _ _ _ _ _ _ s67 _ => tn - (intOf s67).toNat)
            case atStart => exact ⟨0, wz, hz0, [], Nat.zero_le _, rfl, ⟨(fun e => by cases e), by decide⟩, rfl, K1, K2, SW, KD, B⟩
            case round =>
              clear K1 K2 SW KD B HWG
              obtain ⟨j, s, ⟨Aw, nw, cw⟩, zs, hj, rfl, HWG, HM, K1, K2, SW, KD, B⟩ := hrel
              dsimp only at K1 SW
              obtain ⟨v3, rfl⟩ : ∃ v, v = wr := ⟨_, rfl⟩
              have FW := Lib.hid (xfit HFG.out HLg.out s HM.out SW.out.len)
              obtain ⟨hx, hhx⟩ : ∃ q, xH s (Ag, ng, cg) = q := ⟨_, rfl⟩
              rw [hhx] at K2
              have HHX := Lib.hid hhx
              have i0 : (0 : Int) ≤ (j : Int) := by omega
              by_cases hlt : j < tn
              · skip
                as_aux_lemma =>
                  have i1 : (j : Int) < (tn : Int) := by omega
                  have i2 : (tn : Int) ≤ 299 := by omega
                  obtain ⟨s2, hs2⟩ : ∃ q, tickW s = q := ⟨_, rfl⟩
                  obtain ⟨p, hp⟩ : ∃ q, tickP s = q := ⟨_, rfl⟩
                  obtain ⟨b, hb⟩ : ∃ q, tickB s = q := ⟨_, rfl⟩
                  obtain ⟨hx2, hhx2⟩ : ∃ q, xH s2 (Ag, ng, cg) = q := ⟨_, rfl⟩
                  have HES : Hid (tickS s (zs.map (·.1)) = (xL s2 gs).map (·.1)) := by unfold Hid; rw [HM.out, tickS_x, hs2]
                  have HTH : Hid (tickH s hx = hx2) := by unfold Hid; rw [← hhx, tickH_x, hs2, hhx2]
                  have HWG2 : Hid (WG s2) := by rw [← hs2]; exact HWG.out.tick
                  have HHX2 := Lib.hid hhx2
                  have HS2 := Lib.hid hs2
                  have HP := Lib.hid hp
                  have HB := Lib.hid hb
                  have nb : ∀ w', (binOp .neq 4 (.bool b) (.bool b)).run Try.prog w' = .ok (.bool false) w' := fun w' => neqB b w'
                  clear hs2 hp hb hhx hhx2
                  have LT1 := Lib.hid K1.out.lt
                  have LT2 := Lib.hid K2.out.lt
                  obtain ⟨K10, K11, K12, K13⟩ := K1.out.cells
                  go_wp2_with fail
                  have hc := tick_any s Aw nw cw zs v3 SW.out FW.out HWG.out.2
                  rw [HS2.out] at hc
                  rw [HP.out] at hc
                  rw [HB.out] at hc
                  rw [HES.out] at hc
                  refine hc.mono ?_
                  clear hc
                  rintro e w31 ⟨⟨At, nt, ct⟩, zt, rfl, mt, dt, b5⟩
                  clear K10 K11 K12 K13
                  have MT := Lib.hid (mt)
                  have DT := Lib.hid (dt)
                  replace K1 := Lib.hid (K1.out.next b5)
                  replace K2 := Lib.hid (K2.out.next b5)
                  replace SW := Lib.hid (SW.out.next b5)
                  replace KD := Lib.hid (KD.out.next b5)
                  replace B := Lib.hid (thn B.out b5)
                  clear b5
                  clear mt dt SW
                  dsimp only at DT ⊢
                  have LA1 := Lib.hid K1.out.lt
                  have LA2 := Lib.hid K2.out.lt
                  go_upto_region 9 with fail
                  have hbl := below_lit w31 (.cells #[.bool (s2 : Wn).1, .int .u8 (s2 : Wn).2.1, .int .u8 (s2 : Wn).2.2, .slice ((At, nt, ct) : Hd).1 ((At, nt, ct) : Hd).2.1 ((At, nt, ct) : Hd).2.2] 31)
                  have KA := Lib.hid (WBlk.new w31 s2 (At, nt, ct))
                  replace K1 := Lib.hid (K1.out.next hbl)
                  replace K2 := Lib.hid (K2.out.next hbl)
                  replace KD := Lib.hid (KD.out.next hbl)
                  replace DT := Lib.hid (DT.out.next hbl)
                  replace B := Lib.hid (thn B.out hbl)
                  clear hbl
                  try dsimp only at KA
                  generalize w31.alloc _ = w32 at *
                  obtain ⟨gKA, hgKA⟩ : ∃ q, w31.heap.size = q := ⟨_, rfl⟩
                  rw [hgKA] at KA ⊢
                  have na1 : gKA ≠ g1 := by have := LA1.out; omega
                  have na2 : gKA ≠ g2 := by have := LA2.out; omega
                  clear hgKA LA1 LA2
                  obtain ⟨K20, K21, K22, K23⟩ := K2.out.cells
                  go_wp2_with fail
                  have hc := reftick_any s hx w32 HWG.out.1
                  rw [HS2.out] at hc
                  rw [HP.out] at hc
                  rw [HB.out] at hc
                  rw [HTH.out] at hc
                  refine hc.mono ?_
                  clear hc
                  rintro e w33 ⟨rfl, b5⟩
                  clear K20 K21 K22 K23
                  replace K1 := Lib.hid (K1.out.next b5)
                  replace K2 := Lib.hid (K2.out.next b5)
                  replace KD := Lib.hid (KD.out.next b5)
                  replace DT := Lib.hid (DT.out.next b5)
                  replace KA := Lib.hid (KA.out.next b5)
                  replace B := Lib.hid (thn B.out b5)
                  clear b5
                  have LA1 := Lib.hid K1.out.lt
                  have LA2 := Lib.hid K2.out.lt
                  go_upto_region 10 with fail
                  have hbl := below_lit w33 (.cells #[.bool (s2 : Wn).1, .int .u8 (s2 : Wn).2.1, .int .u8 (s2 : Wn).2.2, .slice (hx2 : Hd).1 (hx2 : Hd).2.1 (hx2 : Hd).2.2] 31)
                  have KB := Lib.hid (WBlk.new w33 s2 hx2)
                  replace K1 := Lib.hid (K1.out.next hbl)
                  replace K2 := Lib.hid (K2.out.next hbl)
                  replace KD := Lib.hid (KD.out.next hbl)
                  replace DT := Lib.hid (DT.out.next hbl)
                  replace KA := Lib.hid (KA.out.next hbl)
                  replace B := Lib.hid (thn B.out hbl)
                  clear hbl
                  try dsimp only at KB
                  generalize w33.alloc _ = w34 at *
                  obtain ⟨gKB, hgKB⟩ : ∃ q, w33.heap.size = q := ⟨_, rfl⟩
                  rw [hgKB] at KB ⊢
                  have nb1 : gKB ≠ g1 := by have := LA1.out; omega
                  have nb2 : gKB ≠ g2 := by have := LA2.out; omega
                  clear hgKB LA1 LA2
                  have na1' := na1.symm
                  have na2' := na2.symm
                  have nb1' := nb1.symm
                  have nb2' := nb2.symm
                  refine two_gen (ga := gKA) (gb := gKB) (g1 := g1) (g2 := g2) (s := s2) (t := s2) (h := (At, nt, ct)) (k := hx2) (x0 := 23) (x1 := 26) (x2 := 21) (x3 := 22) (d0 := 81) (d1 := 82) ⟨rfl, rfl, rfl⟩ ⟨rfl, rfl, rfl⟩ ⟨rfl, rfl, rfl⟩ ⟨rfl, rfl, rfl⟩ (by kernel_rfl) (by kernel_rfl) (by kernel_rfl) (by kernel_rfl) (by decide) (Nat.le_of_ble_eq_true (by kernel_rfl)) (Nat.le_of_ble_eq_true (by kernel_rfl)) (by kernel_rfl) (by kernel_rfl) (by kernel_rfl) (by kernel_rfl) KA.out KB.out K1.out K2.out na1 na2 nb1 nb2 n12 ?_
                  intro w35 hb9
                  replace K1 := Lib.hid (K1.out.next hb9)
                  replace K2 := Lib.hid (K2.out.next hb9)
                  replace KD := Lib.hid (KD.out.next hb9)
                  replace DT := Lib.hid (DT.out.next hb9)
                  replace KA := Lib.hid (KA.out.next hb9)
                  replace KB := Lib.hid (KB.out.next hb9)
                  replace B := Lib.hid (thn B.out hb9)
                  clear hb9
                  simp only [putAll, put_lit, List.set_cons_succ, List.set_cons_zero]
                  have hga := grown_setv w35 g1 (.bool s2.1) (.int .u8 s2.2.1) (.int .u8 s2.2.2) (.slice At nt ct)
                  have hgb := grown_setv ((((w35.setCell ⟨g1, 0, none⟩ (.bool s2.1)).setCell ⟨g1, 1, none⟩ (.int .u8 s2.2.1)).setCell ⟨g1, 2, none⟩ (.int .u8 s2.2.2)).setCell ⟨g1, 3, none⟩ (.slice At nt ct)) g2 (.bool s2.1) (.int .u8 s2.2.1) (.int .u8 s2.2.2) (.slice hx2.1 hx2.2.1 hx2.2.2)
                  have K1N : Hid (WBlk ((((((((w35.setCell ⟨g1, 0, none⟩ (.bool s2.1)).setCell ⟨g1, 1, none⟩ (.int .u8 s2.2.1)).setCell ⟨g1, 2, none⟩ (.int .u8 s2.2.2)).setCell ⟨g1, 3, none⟩ (.slice At nt ct)).setCell ⟨g2, 0, none⟩ (.bool s2.1)).setCell ⟨g2, 1, none⟩ (.int .u8 s2.2.1)).setCell ⟨g2, 2, none⟩ (.int .u8 s2.2.2)).setCell ⟨g2, 3, none⟩ (.slice hx2.1 hx2.2.1 hx2.2.2)) g1 s2 (At, nt, ct)) := (K1.out.wrote s2 (At, nt, ct)).grown hgb n12
                  have K2N : Hid (WBlk ((((((((w35.setCell ⟨g1, 0, none⟩ (.bool s2.1)).setCell ⟨g1, 1, none⟩ (.int .u8 s2.2.1)).setCell ⟨g1, 2, none⟩ (.int .u8 s2.2.2)).setCell ⟨g1, 3, none⟩ (.slice At nt ct)).setCell ⟨g2, 0, none⟩ (.bool s2.1)).setCell ⟨g2, 1, none⟩ (.int .u8 s2.2.1)).setCell ⟨g2, 2, none⟩ (.int .u8 s2.2.2)).setCell ⟨g2, 3, none⟩ (.slice hx2.1 hx2.2.1 hx2.2.2)) g2 s2 hx2) := (K2.out.grown hga n21).wrote s2 hx2
                  have KAN := Lib.hid ((KA.out.grown hga na1).grown hgb na2)
                  have KBN := Lib.hid ((KB.out.grown hga nb1).grown hgb nb2)
                  have KDN := Lib.hid ((KD.out.grown hga nd1).grown hgb nd2)
                  have DTN := Lib.hid ((DT.out.grownN hga LT1.out).grownN hgb LT2.out)
                  have BN : Hid (Below w.heap.size w ((((((((w35.setCell ⟨g1, 0, none⟩ (.bool s2.1)).setCell ⟨g1, 1, none⟩ (.int .u8 s2.2.1)).setCell ⟨g1, 2, none⟩ (.int .u8 s2.2.2)).setCell ⟨g1, 3, none⟩ (.slice At nt ct)).setCell ⟨g2, 0, none⟩ (.bool s2.1)).setCell ⟨g2, 1, none⟩ (.int .u8 s2.2.1)).setCell ⟨g2, 2, none⟩ (.int .u8 s2.2.2)).setCell ⟨g2, 3, none⟩ (.slice hx2.1 hx2.2.1 hx2.2.2))) := (belowG (belowG B.out hga B.out.size LB1.out) hgb (belowG B.out hga B.out.size LB1.out).size LB2.out)
                  clear hga hgb K1 K2 B KA KB KD DT
                  generalize ((((((((w35.setCell ⟨g1, 0, none⟩ (.bool s2.1)).setCell ⟨g1, 1, none⟩ (.int .u8 s2.2.1)).setCell ⟨g1, 2, none⟩ (.int .u8 s2.2.2)).setCell ⟨g1, 3, none⟩ (.slice At nt ct)).setCell ⟨g2, 0, none⟩ (.bool s2.1)).setCell ⟨g2, 1, none⟩ (.int .u8 s2.2.1)).setCell ⟨g2, 2, none⟩ (.int .u8 s2.2.2)).setCell ⟨g2, 3, none⟩ (.slice hx2.1 hx2.2.1 hx2.2.2)) = w36 at *
                  have K1 := K1N
                  clear K1N
                  have K2 := K2N
                  clear K2N
                  have B := BN
                  clear BN
                  have KA := KAN
                  clear KAN
                  have KB := KBN
                  clear KBN
                  have KD := KDN
                  clear KDN
                  have DT := DTN
                  clear DTN
                  have SW := Lib.hid DT.out.sds
                  clear DT LT1 LT2
                  go_wp2_with (first | (refine wpList_loadW (.tmp 23) rfl (by rfl) (by kernel_rfl) KA.out ?_; simp only [put_lit, List.set_cons_succ, List.set_cons_zero]) | (refine wpList_loadW (.tmp 26) rfl (by rfl) (by kernel_rfl) KB.out ?_; simp only [put_lit, List.set_cons_succ, List.set_cons_zero]))
                  have hc := samew_any s2 (At, nt, ct) hx2 zt (xL s2 gs) w36 SW.out (by rw [← HHX2.out]; exact xsds (HG.out.next B.out) s2) MT.out
                  refine hc.mono ?_
                  clear hc
                  rintro e w37 ⟨rfl, b5⟩
                  replace K1 := Lib.hid (K1.out.next b5)
                  replace K2 := Lib.hid (K2.out.next b5)
                  replace KA := Lib.hid (KA.out.next b5)
                  replace KB := Lib.hid (KB.out.next b5)
                  replace KD := Lib.hid (KD.out.next b5)
                  replace SW := Lib.hid (SW.out.next b5)
                  replace B := Lib.hid (thn B.out b5)
                  clear b5
                  clear KA KB
                  have K2R : Hid (WBlk w37 g2 s2 (xH s2 (Ag, ng, cg))) := by unfold Hid; rw [HHX2.out]; exact K2.out
                  go_wp2
                  go_roundw
                  case rel => exact ⟨j + 1, s2, (At, nt, ct), zt, by omega, by go_num, HWG2, MT, K1, K2R, SW, KD, B⟩
                  case measure => simp [intOf]; omega
              · skip
                as_aux_lemma =>
                  obtain rfl : j = tn := by omega
                  clear hhx
                  obtain ⟨s3, hs3⟩ : ∃ q, ansW s from_ = q := ⟨_, rfl⟩
                  obtain ⟨b, hb⟩ : ∃ q, ansB s from_ = q := ⟨_, rfl⟩
                  obtain ⟨ha, hha⟩ : ∃ q, ansH s from_ hx = q := ⟨_, rfl⟩
                  obtain ⟨hk, hhk⟩ : ∃ q, ansK s from_ hx = q := ⟨_, rfl⟩
                  have nb : ∀ w', (binOp .neq 4 (.bool b) (.bool b)).run Try.prog w' = .ok (.bool false) w' := fun w' => neqB b w'
                  have H3 := Lib.hid hs3
                  have HB := Lib.hid hb
                  have HHA := Lib.hid hha
                  have HHK := Lib.hid hhk
                  clear hs3 hb hha hhk
                  obtain ⟨K10, K11, K12, K13⟩ := K1.out.cells
                  go_wp2_with fail
                  have hc := answer_any s from_ Aw nw cw zs v3 SW.out FW.out
                  rw [H3.out] at hc
                  rw [HB.out] at hc
                  refine hc.mono ?_
                  clear hc
                  rintro e w31 ⟨⟨Aa, na, ca⟩, za, ⟨Ap, np, cp⟩, ya, rfl, ma, da, mp, dp, b5⟩
                  clear K10 K11 K12 K13
                  have MA := Lib.hid (ma)
                  have SA := Lib.hid (da.sds)
                  have MP := Lib.hid (mp)
                  have SP := Lib.hid (dp.sds)
                  replace K1 := Lib.hid (K1.out.next b5)
                  replace K2 := Lib.hid (K2.out.next b5)
                  replace SW := Lib.hid (SW.out.next b5)
                  replace KD := Lib.hid (KD.out.next b5)
                  replace B := Lib.hid (thn B.out b5)
                  clear b5
                  clear ma da mp dp SW FW K1
                  dsimp only at SA SP ⊢
                  go_upto_region 15 with fail
                  have hbl := below_lit w31 (.cells #[.bool (s3 : Wn).1, .int .u8 (s3 : Wn).2.1, .int .u8 (s3 : Wn).2.2, .slice ((Aa, na, ca) : Hd).1 ((Aa, na, ca) : Hd).2.1 ((Aa, na, ca) : Hd).2.2] 31)
                  have KE := Lib.hid (WBlk.new w31 s3 (Aa, na, ca))
                  replace K2 := Lib.hid (K2.out.next hbl)
                  replace KD := Lib.hid (KD.out.next hbl)
                  replace SA := Lib.hid (SA.out.next hbl)
                  replace SP := Lib.hid (SP.out.next hbl)
                  replace B := Lib.hid (thn B.out hbl)
                  clear hbl
                  try dsimp only at KE
                  generalize w31.alloc _ = w32 at *
                  obtain ⟨gKE, hgKE⟩ : ∃ q, w31.heap.size = q := ⟨_, rfl⟩
                  rw [hgKE] at KE ⊢
                  clear hgKE
                  obtain ⟨K20, K21, K22, K23⟩ := K2.out.cells
                  go_wp2_with fail
                  have hc := refanswer_any s from_ hx w32
                  rw [H3.out] at hc
                  rw [HB.out] at hc
                  rw [HHA.out] at hc
                  rw [HHK.out] at hc
                  refine hc.mono ?_
                  clear hc
                  rintro e w33 ⟨rfl, b5⟩
                  clear K20 K21 K22 K23
                  replace K2 := Lib.hid (K2.out.next b5)
                  replace KD := Lib.hid (KD.out.next b5)
                  replace SA := Lib.hid (SA.out.next b5)
                  replace SP := Lib.hid (SP.out.next b5)
                  replace KE := Lib.hid (KE.out.next b5)
                  replace B := Lib.hid (thn B.out b5)
                  clear b5
                  clear K2
                  go_upto_region 16 with fail
                  have hbl := below_lit w33 (.cells #[.bool (s3 : Wn).1, .int .u8 (s3 : Wn).2.1, .int .u8 (s3 : Wn).2.2, .slice (ha : Hd).1 (ha : Hd).2.1 (ha : Hd).2.2] 31)
                  have KF := Lib.hid (WBlk.new w33 s3 ha)
                  replace KD := Lib.hid (KD.out.next hbl)
                  replace SA := Lib.hid (SA.out.next hbl)
                  replace SP := Lib.hid (SP.out.next hbl)
                  replace KE := Lib.hid (KE.out.next hbl)
                  replace B := Lib.hid (thn B.out hbl)
                  clear hbl
                  try dsimp only at KF
                  generalize w33.alloc _ = w34 at *
                  obtain ⟨gKF, hgKF⟩ : ∃ q, w33.heap.size = q := ⟨_, rfl⟩
                  rw [hgKF] at KF ⊢
                  clear hgKF
                  obtain ⟨yh, shh, eh⟩ := ans_h (xsds (HG.out.next B.out) s) s from_
                  obtain ⟨yk, shk, ek⟩ := ans_k (xsds (HG.out.next B.out) s) s from_
                  rw [HHX.out] at shh shk
                  rw [HHA.out] at shh
                  rw [HHK.out] at shk
                  have SH := Lib.hid shh
                  have SK := Lib.hid shk
                  have EH : Hid (za.map (·.1) = yh.map (·.1)) := by unfold Hid; rw [MA.out, eh, HM.out]
                  have EK : Hid (ya.map (·.1) = yk.map (·.1)) := by unfold Hid; rw [MP.out, ek, HM.out]
                  clear shh shk eh ek MA MP HM
                  obtain ⟨KE0, KE1, KE2, KE3⟩ := KE.out.cells
                  obtain ⟨KF0, KF1, KF2, KF3⟩ := KF.out.cells
                  go_wp2_with fail
                  have hc := samew_any s3 (Aa, na, ca) ha za yh w34 SA.out SH.out EH.out
                  refine hc.mono ?_
                  clear hc
                  rintro e w35 ⟨rfl, b5⟩
                  clear KE0 KE1 KE2 KE3 KF0 KF1 KF2 KF3
                  replace KD := Lib.hid (KD.out.next b5)
                  replace SA := Lib.hid (SA.out.next b5)
                  replace SP := Lib.hid (SP.out.next b5)
                  replace KE := Lib.hid (KE.out.next b5)
                  replace KF := Lib.hid (KF.out.next b5)
                  replace SH := Lib.hid (SH.out.next b5)
                  replace SK := Lib.hid (SK.out.next b5)
                  replace B := Lib.hid (thn B.out b5)
                  clear b5
                  clear KE KF SA SH
                  go_wp2_with fail
                  have hc := descs_any Ap np cp ya hk.1 hk.2.1 hk.2.2 yk w35 SP.out SK.out
                  rw [show decide (ya.map (·.1) = yk.map (·.1)) = true from decide_eq_true EK.out] at hc
                  refine hc.mono ?_
                  clear hc
                  rintro e w36 ⟨rfl, b5⟩
                  replace KD := Lib.hid (KD.out.next b5)
                  replace SP := Lib.hid (SP.out.next b5)
                  replace SK := Lib.hid (SK.out.next b5)
                  replace B := Lib.hid (thn B.out b5)
                  clear b5
                  clear SP SK
                  go_wp2_with fail
                  have hc := view_any A n c xs self rm w36 (HS.out.next B.out) HR.out rm0
                  refine hc.mono ?_
                  clear hc
                  rintro e w37 ⟨Av, nv, cv, vs, rfl, hv, sv, b5⟩
                  have SV := Lib.hid (sv.sds)
                  have HVV := Lib.hid (hv)
                  replace KD := Lib.hid (KD.out.next b5)
                  replace B := Lib.hid (thn B.out b5)
                  clear b5
                  clear sv hv
                  have HFV : Hid (Fit nv vs) := view_fit HVV.out HFX.out (by omega) SV.out.len
                  have HRV : Hid (RightD (vs.map (·.1)) self rm) := HVV.out.right
                  have HLV := Lib.hid SV.out.len
                  go_wp2_with fail
                  have hc := anew_any Av nv cv vs w37 SV.out (by have := HFV.out.len; omega) (fun x hx => by have := (HFV.out.all x hx).2; omega)
                  refine hc.mono ?_
                  clear hc
                  rintro e w38 ⟨Ao, no, co, os, rfl, mo, dO, b5⟩
                  have SO := Lib.hid (dO.sds)
                  have MO := Lib.hid (mo)
                  replace KD := Lib.hid (KD.out.next b5)
                  replace SV := Lib.hid (SV.out.next b5)
                  replace B := Lib.hid (thn B.out b5)
                  clear b5
                  clear dO mo
                  go_upto_region 21 with fail
                  have F4 : Hid (Fl w38 (d, hd)) := Sn.next FD.out B.out
                  have G4 : Hid (Sds w38 Ag ng cg gs) := HG.out.next B.out
                  refine wp_region_typed 32 [(136, .val (.slice Av nv cv)), (137, .val (.agg #[.int .u8 d.1, .int .u16 d.2.1, .int .u8 d.2.2.1, .slice hd.1 hd.2.1 hd.2.2])), (138, .val (.int .u8 self)), (139, .val (.int .i64 rm)), (140, tyL10 (admitD (vs.map (·.1)) d self rm)), (141, .val (.slice Av nv cv)), (142, .val (.agg #[.int .u8 d.1, .int .u16 d.2.1, .int .u8 d.2.2.1, .slice hd.1 hd.2.1 hd.2.2])), (143, .val (.int .u8 self)), (144, .val (.int .i64 rm)), (145, tyL10 (admitD (vs.map (·.1)) d self rm)), (146, .val (.bool true)), (147, .val (.bool true)), (148, .val (.slice Av nv cv)), (149, .val (.slice Ag ng cg)), (150, .val (.int .u8 self)), (151, .val (.int .i64 rm)), (152, tyL10 (fillD (vs.map (·.1)) (gs.map (·.1)) self rm)), (153, .val (.slice Av nv cv)), (154, .val (.slice Ag ng cg)), (155, .val (.int .u8 self)), (156, .val (.int .i64 rm)), (157, tyL10 (fillD (vs.map (·.1)) (gs.map (·.1)) self rm)), (158, .val (.bool true)), (159, .val (.bool true)), (160, .val (.bool true)), (161, .val (.slice Av nv cv)), (162, .val (.slice Ao no co)), (163, .val (.bool true)), (164, .val (.bool true)), (165, .val (.bool true)), (166, .val (.bool true)), (167, .val (.bool true))]
                    [[], [], [], [], [136, 137, 138, 139], [], [], [], [], [141, 142, 143, 144], [140, 145], [146], [147], [147], [147], [147], [147, 148, 149, 150, 151], [147], [147], [147], [147], [147, 153, 154, 155, 156], [147, 152, 157], [147, 158], [159], [160], [160], [160, 161, 162], [160, 163], [164], [165], [165, 166]] (by kernel_rfl) (by kernel_rfl) ?_ ?_
                  rotate_left
                  · intro v39 hb
                    simp only [List.take_succ_cons, List.take_zero, List.drop_succ_cons, List.drop_zero]
                    refine over_ds (ds := [136, 137, 138, 139, 140, 141, 142, 143, 144, 145, 146, 147, 148, 149, 150, 151, 152, 153, 154, 155, 156, 157, 158, 159, 160, 161, 162, 163, 164, 165, 166, 167]) (by kernel_rfl) ?_
                    refine over_some (ds1 := [136, 137, 138, 139]) (ds2 := [140, 141, 142, 143, 144, 145, 146, 147, 148, 149, 150, 151, 152, 153, 154, 155, 156, 157, 158, 159, 160, 161, 162, 163, 164, 165, 166, 167]) [(.slice Av nv cv), (.agg #[.int .u8 d.1, .int .u16 d.2.1, .int .u8 d.2.2.1, .slice hd.1 hd.2.1 hd.2.2]), (.int .u8 self), (.int .i64 rm)] (by kernel_rfl) ?_
                    refine over_pred rfl ?_
                    rintro _ ⟨A140, n140, c140, p140, rfl, m140, s140⟩
                    refine over_some (ds1 := [141, 142, 143, 144]) (ds2 := [145, 146, 147, 148, 149, 150, 151, 152, 153, 154, 155, 156, 157, 158, 159, 160, 161, 162, 163, 164, 165, 166, 167]) [(.slice Av nv cv), (.agg #[.int .u8 d.1, .int .u16 d.2.1, .int .u8 d.2.2.1, .slice hd.1 hd.2.1 hd.2.2]), (.int .u8 self), (.int .i64 rm)] (by kernel_rfl) ?_
                    refine over_pred rfl ?_
                    rintro _ ⟨A145, n145, c145, p145, rfl, m145, s145⟩
                    refine over_some (ds1 := [146, 147, 148, 149, 150, 151]) (ds2 := [152, 153, 154, 155, 156, 157, 158, 159, 160, 161, 162, 163, 164, 165, 166, 167]) [(.bool true), (.bool true), (.slice Av nv cv), (.slice Ag ng cg), (.int .u8 self), (.int .i64 rm)] (by kernel_rfl) ?_
                    refine over_pred rfl ?_
                    rintro _ ⟨A152, n152, c152, p152, rfl, m152, s152⟩
                    refine over_some (ds1 := [153, 154, 155, 156]) (ds2 := [157, 158, 159, 160, 161, 162, 163, 164, 165, 166, 167]) [(.slice Av nv cv), (.slice Ag ng cg), (.int .u8 self), (.int .i64 rm)] (by kernel_rfl) ?_
                    refine over_pred rfl ?_
                    rintro _ ⟨A157, n157, c157, p157, rfl, m157, s157⟩
                    refine over_some (ds1 := [158, 159, 160, 161, 162, 163, 164, 165, 166, 167]) (ds2 := []) [(.bool true), (.bool true), (.bool true), (.slice Av nv cv), (.slice Ao no co), (.bool true), (.bool true), (.bool true), (.bool true), (.bool true)] (by kernel_rfl) ?_
                    refine over_nil ?_
                    simp only [putAll, put_lit, List.set_cons_succ, List.set_cons_zero]
                    replace KD := Lib.hid (KD.out.next hb)
                    replace SV := Lib.hid (SV.out.next hb)
                    replace SO := Lib.hid (SO.out.next hb)
                    replace B := Lib.hid (thn B.out hb)
                    clear hb
                    go_wp2
                    go_ret
                    exact ⟨rfl, B.out⟩
                  simp only [List.take_succ_cons, List.take_zero]
                  refine ⟨?r21g0, ?r21g1, ?r21g2, ?r21g3, ?r21g4, ?r21g5, ?r21g6, ?r21g7, ?r21g8, ?r21g9, ?r21g10, ?r21g11, ?r21g12, ?r21g13, ?r21g14, ?r21g15, ?r21g16, ?r21g17, ?r21g18, ?r21g19, ?r21g20, ?r21g21, ?r21g22, ?r21g23, ?r21g24, ?r21g25, ?r21g26, ?r21g27, ?r21g28, ?r21g29, ?r21g30, ?r21g31, trivial⟩
                  case r21g0 =>
                    intro w9 hb
                    refine over_nil ?_
                    go_wp2
                    first | exact post_of (by rfl) (by rfl) (Below.refl _ _) (by rfl) | exact rfl
                  case r21g1 =>
                    intro w9 hb
                    refine over_nil ?_
                    obtain ⟨p0, q0, r0, s0⟩ := (KD.out.next hb).cells
                    go_wp2
                    first | exact post_of (by rfl) (by rfl) (Below.refl _ _) (by rfl) | exact rfl
                  case r21g2 =>
                    intro w9 hb
                    refine over_nil ?_
                    go_wp2
                    first | exact post_of (by rfl) (by rfl) (Below.refl _ _) (by rfl) | exact rfl
                  case r21g3 =>
                    intro w9 hb
                    refine over_nil ?_
                    go_wp2
                    first | exact post_of (by rfl) (by rfl) (Below.refl _ _) (by rfl) | exact rfl
                  case r21g4 =>
                    intro w9 hb
                    refine over_some (ds1 := [136, 137, 138, 139]) (ds2 := []) [(.slice Av nv cv), (.agg #[.int .u8 d.1, .int .u16 d.2.1, .int .u8 d.2.2.1, .slice hd.1 hd.2.1 hd.2.2]), (.int .u8 self), (.int .i64 rm)] (by kernel_rfl) ?_
                    refine over_nil ?_
                    simp only [putAll, put_lit, List.set_cons_succ, List.set_cons_zero]
                    go_wp2_with fail
                    refine (admit_any Av nv cv vs d hd self rm w9 (SV.out.next hb) HFV.out (Sn.next F4.out hb) F1D.out HRV.out).mono ?_
                    rintro e w8 ⟨A8, n8, c8, z8, rfl, m8, d8, b6⟩
                    have S8 := Lib.hid d8.sds
                    have M8 := Lib.hid m8
                    clear d8 m8
                    go_wp2
                    exact post_of (by rfl) (by rfl) b6 (by exact ⟨_, _, _, _, rfl, M8.out, S8.out⟩)
                  case r21g5 =>
                    intro w9 hb
                    refine over_nil ?_
                    go_wp2
                    first | exact post_of (by rfl) (by rfl) (Below.refl _ _) (by rfl) | exact rfl
                  case r21g6 =>
                    intro w9 hb
                    refine over_nil ?_
                    obtain ⟨p0, q0, r0, s0⟩ := (KD.out.next hb).cells
                    go_wp2
                    first | exact post_of (by rfl) (by rfl) (Below.refl _ _) (by rfl) | exact rfl
                  case r21g7 =>
                    intro w9 hb
                    refine over_nil ?_
                    go_wp2
                    first | exact post_of (by rfl) (by rfl) (Below.refl _ _) (by rfl) | exact rfl
                  case r21g8 =>
                    intro w9 hb
                    refine over_nil ?_
                    go_wp2
                    first | exact post_of (by rfl) (by rfl) (Below.refl _ _) (by rfl) | exact rfl
                  case r21g9 =>
                    intro w9 hb
                    refine over_some (ds1 := [141, 142, 143, 144]) (ds2 := []) [(.slice Av nv cv), (.agg #[.int .u8 d.1, .int .u16 d.2.1, .int .u8 d.2.2.1, .slice hd.1 hd.2.1 hd.2.2]), (.int .u8 self), (.int .i64 rm)] (by kernel_rfl) ?_
                    refine over_nil ?_
                    simp only [putAll, put_lit, List.set_cons_succ, List.set_cons_zero]
                    go_wp2_with fail
                    refine (refadmit_any Av nv cv vs d hd self rm w9 (SV.out.next hb) HFV.out (Sn.next F4.out hb)).mono ?_
                    rintro e w8 ⟨A8, n8, c8, z8, rfl, m8, d8, b6⟩
                    have S8 := Lib.hid d8
                    have M8 := Lib.hid m8
                    clear d8 m8
                    go_wp2
                    exact post_of (by rfl) (by rfl) b6 (by exact ⟨_, _, _, _, rfl, M8.out, S8.out⟩)
                  case r21g10 =>
                    intro w9 hb
                    refine over_pred rfl ?_
                    rintro _ ⟨A140, n140, c140, p140, rfl, m140, s140⟩
                    refine over_pred rfl ?_
                    rintro _ ⟨A145, n145, c145, p145, rfl, m145, s145⟩
                    refine over_nil ?_
                    simp only [put_lit, List.set_cons_succ, List.set_cons_zero]
                    go_wp2_with fail
                    have hc2 := descs_any A140 n140 c140 p140 A145 n145 c145 p145 w9 s140 s145
                    rw [show decide (p140.map (·.1) = p145.map (·.1)) = true from decide_eq_true (m140.trans m145.symm)] at hc2
                    refine hc2.mono ?_
                    clear hc2
                    rintro e w8 ⟨rfl, b6⟩
                    go_wp2
                    exact post_of (by rfl) (by rfl) b6 (by rfl)
                  case r21g11 =>
                    intro w9 hb
                    refine over_some (ds1 := [146]) (ds2 := []) [(.bool true)] (by kernel_rfl) ?_
                    refine over_nil ?_
                    simp only [putAll, put_lit, List.set_cons_succ, List.set_cons_zero]
                    go_wp2
                    first | exact post_of (by rfl) (by rfl) (Below.refl _ _) (by rfl) | exact rfl
                  case r21g12 =>
                    intro w9 hb
                    refine over_some (ds1 := [147]) (ds2 := []) [(.bool true)] (by kernel_rfl) ?_
                    refine over_nil ?_
                    simp only [putAll, put_lit, List.set_cons_succ, List.set_cons_zero]
                    go_wp2
                    first | exact post_of (by rfl) (by rfl) (Below.refl _ _) (by rfl) | exact rfl
                  case r21g13 =>
                    intro w9 hb
                    refine over_some (ds1 := [147]) (ds2 := []) [(.bool true)] (by kernel_rfl) ?_
                    refine over_nil ?_
                    simp only [putAll, put_lit, List.set_cons_succ, List.set_cons_zero]
                    go_wp2
                    first | exact post_of (by rfl) (by rfl) (Below.refl _ _) (by rfl) | exact rfl
                  case r21g14 =>
                    intro w9 hb
                    refine over_some (ds1 := [147]) (ds2 := []) [(.bool true)] (by kernel_rfl) ?_
                    refine over_nil ?_
                    simp only [putAll, put_lit, List.set_cons_succ, List.set_cons_zero]
                    go_wp2
                    first | exact post_of (by rfl) (by rfl) (Below.refl _ _) (by rfl) | exact rfl
                  case r21g15 =>
                    intro w9 hb
                    refine over_some (ds1 := [147]) (ds2 := []) [(.bool true)] (by kernel_rfl) ?_
                    refine over_nil ?_
                    simp only [putAll, put_lit, List.set_cons_succ, List.set_cons_zero]
                    go_wp2
                    first | exact post_of (by rfl) (by rfl) (Below.refl _ _) (by rfl) | exact rfl
                  case r21g16 =>
                    intro w9 hb
                    refine over_some (ds1 := [147, 148, 149, 150, 151]) (ds2 := []) [(.bool true), (.slice Av nv cv), (.slice Ag ng cg), (.int .u8 self), (.int .i64 rm)] (by kernel_rfl) ?_
                    refine over_nil ?_
                    simp only [putAll, put_lit, List.set_cons_succ, List.set_cons_zero]
                    go_wp2_with fail
                    refine (fill_any Av nv cv vs Ag ng cg gs self rm w9 (SV.out.next hb) HFV.out (G4.out.next hb) HFG.out (by omega) HRV.out).mono ?_
                    rintro e w8 ⟨A8, n8, c8, z8, rfl, m8, d8, b6⟩
                    have S8 := Lib.hid d8.sds
                    have M8 := Lib.hid m8
                    clear d8 m8
                    go_wp2
                    exact post_of (by rfl) (by rfl) b6 (by exact ⟨_, _, _, _, rfl, M8.out, S8.out⟩)
                  case r21g17 =>
                    intro w9 hb
                    refine over_some (ds1 := [147]) (ds2 := []) [(.bool true)] (by kernel_rfl) ?_
                    refine over_nil ?_
                    simp only [putAll, put_lit, List.set_cons_succ, List.set_cons_zero]
                    go_wp2
                    first | exact post_of (by rfl) (by rfl) (Below.refl _ _) (by rfl) | exact rfl
                  case r21g18 =>
                    intro w9 hb
                    refine over_some (ds1 := [147]) (ds2 := []) [(.bool true)] (by kernel_rfl) ?_
                    refine over_nil ?_
                    simp only [putAll, put_lit, List.set_cons_succ, List.set_cons_zero]
                    go_wp2
                    first | exact post_of (by rfl) (by rfl) (Below.refl _ _) (by rfl) | exact rfl
                  case r21g19 =>
                    intro w9 hb
                    refine over_some (ds1 := [147]) (ds2 := []) [(.bool true)] (by kernel_rfl) ?_
                    refine over_nil ?_
                    simp only [putAll, put_lit, List.set_cons_succ, List.set_cons_zero]
                    go_wp2
                    first | exact post_of (by rfl) (by rfl) (Below.refl _ _) (by rfl) | exact rfl
                  case r21g20 =>
                    intro w9 hb
                    refine over_some (ds1 := [147]) (ds2 := []) [(.bool true)] (by kernel_rfl) ?_
                    refine over_nil ?_
                    simp only [putAll, put_lit, List.set_cons_succ, List.set_cons_zero]
                    go_wp2
                    first | exact post_of (by rfl) (by rfl) (Below.refl _ _) (by rfl) | exact rfl
                  case r21g21 =>
                    intro w9 hb
                    refine over_some (ds1 := [147, 153, 154, 155, 156]) (ds2 := []) [(.bool true), (.slice Av nv cv), (.slice Ag ng cg), (.int .u8 self), (.int .i64 rm)] (by kernel_rfl) ?_
                    refine over_nil ?_
                    simp only [putAll, put_lit, List.set_cons_succ, List.set_cons_zero]
                    go_wp2_with fail
                    refine (reffill_any Av nv cv vs Ag ng cg gs self rm w9 (SV.out.next hb) HFV.out (G4.out.next hb) HFG.out (by omega) HRV.out).mono ?_
                    rintro e w8 ⟨A8, n8, c8, z8, rfl, m8, d8, b6⟩
                    have S8 := Lib.hid d8
                    have M8 := Lib.hid m8
                    clear d8 m8
                    go_wp2
                    exact post_of (by rfl) (by rfl) b6 (by exact ⟨_, _, _, _, rfl, M8.out, S8.out⟩)
                  case r21g22 =>
                    intro w9 hb
                    refine over_some (ds1 := [147]) (ds2 := [152, 157]) [(.bool true)] (by kernel_rfl) ?_
                    refine over_pred rfl ?_
                    rintro _ ⟨A152, n152, c152, p152, rfl, m152, s152⟩
                    refine over_pred rfl ?_
                    rintro _ ⟨A157, n157, c157, p157, rfl, m157, s157⟩
                    refine over_nil ?_
                    simp only [putAll, put_lit, List.set_cons_succ, List.set_cons_zero]
                    go_wp2_with fail
                    have hc2 := descs_any A152 n152 c152 p152 A157 n157 c157 p157 w9 s152 s157
                    rw [show decide (p152.map (·.1) = p157.map (·.1)) = true from decide_eq_true (m152.trans m157.symm)] at hc2
                    refine hc2.mono ?_
                    clear hc2
                    rintro e w8 ⟨rfl, b6⟩
                    go_wp2
                    exact post_of (by rfl) (by rfl) b6 (by rfl)
                  case r21g23 =>
                    intro w9 hb
                    refine over_some (ds1 := [147, 158]) (ds2 := []) [(.bool true), (.bool true)] (by kernel_rfl) ?_
                    refine over_nil ?_
                    simp only [putAll, put_lit, List.set_cons_succ, List.set_cons_zero]
                    go_wp2
                    first | exact post_of (by rfl) (by rfl) (Below.refl _ _) (by rfl) | exact rfl
                  case r21g24 =>
                    intro w9 hb
                    refine over_some (ds1 := [159]) (ds2 := []) [(.bool true)] (by kernel_rfl) ?_
                    refine over_nil ?_
                    simp only [putAll, put_lit, List.set_cons_succ, List.set_cons_zero]
                    go_wp2
                    first | exact post_of (by rfl) (by rfl) (Below.refl _ _) (by rfl) | exact rfl
                  case r21g25 =>
                    intro w9 hb
                    refine over_some (ds1 := [160]) (ds2 := []) [(.bool true)] (by kernel_rfl) ?_
                    refine over_nil ?_
                    simp only [putAll, put_lit, List.set_cons_succ, List.set_cons_zero]
                    go_wp2
                    first | exact post_of (by rfl) (by rfl) (Below.refl _ _) (by rfl) | exact rfl
                  case r21g26 =>
                    intro w9 hb
                    refine over_some (ds1 := [160]) (ds2 := []) [(.bool true)] (by kernel_rfl) ?_
                    refine over_nil ?_
                    simp only [putAll, put_lit, List.set_cons_succ, List.set_cons_zero]
                    go_wp2
                    first | exact post_of (by rfl) (by rfl) (Below.refl _ _) (by rfl) | exact rfl
                  case r21g27 =>
                    intro w9 hb
                    refine over_some (ds1 := [160, 161, 162]) (ds2 := []) [(.bool true), (.slice Av nv cv), (.slice Ao no co)] (by kernel_rfl) ?_
                    refine over_nil ?_
                    simp only [putAll, put_lit, List.set_cons_succ, List.set_cons_zero]
                    go_wp2_with fail
                    have hc2 := descs_any Av nv cv vs Ao no co os w9 (SV.out.next hb) (SO.out.next hb)
                    rw [show decide (vs.map (·.1) = os.map (·.1)) = true from decide_eq_true MO.out.symm] at hc2
                    refine hc2.mono ?_
                    clear hc2
                    rintro e w8 ⟨rfl, b6⟩
                    go_wp2
                    exact post_of (by rfl) (by rfl) b6 (by rfl)
                  case r21g28 =>
                    intro w9 hb
                    refine over_some (ds1 := [160, 163]) (ds2 := []) [(.bool true), (.bool true)] (by kernel_rfl) ?_
                    refine over_nil ?_
                    simp only [putAll, put_lit, List.set_cons_succ, List.set_cons_zero]
                    go_wp2
                    first | exact post_of (by rfl) (by rfl) (Below.refl _ _) (by rfl) | exact rfl
                  case r21g29 =>
                    intro w9 hb
                    refine over_some (ds1 := [164]) (ds2 := []) [(.bool true)] (by kernel_rfl) ?_
                    refine over_nil ?_
                    simp only [putAll, put_lit, List.set_cons_succ, List.set_cons_zero]
                    go_wp2
                    first | exact post_of (by rfl) (by rfl) (Below.refl _ _) (by rfl) | exact rfl
                  case r21g30 =>
                    intro w9 hb
                    refine over_some (ds1 := [165]) (ds2 := []) [(.bool true)] (by kernel_rfl) ?_
                    refine over_nil ?_
                    simp only [putAll, put_lit, List.set_cons_succ, List.set_cons_zero]
                    go_wp2_with fail
                    have hc2 := awake_any w9
                    refine hc2.mono ?_
                    clear hc2
                    rintro e w8 ⟨rfl, b6⟩
                    go_wp2
                    exact post_of (by rfl) (by rfl) b6 (by rfl)
                  case r21g31 =>
                    intro w9 hb
                    refine over_some (ds1 := [165, 166]) (ds2 := []) [(.bool true), (.bool true)] (by kernel_rfl) ?_
                    refine over_nil ?_
                    simp only [putAll, put_lit, List.set_cons_succ, List.set_cons_zero]
                    go_wp2
                    first | exact post_of (by rfl) (by rfl) (Below.refl _ _) (by rfl) | exact rfl
        · skip
          as_aux_lemma =>
            go_wp2
            go_loopw [20, 23, 24, 25, 26, 27, 28, 67] (fun _ _ _ _ _ _ _ s67 wr => ∃ (j : Nat) (s : Wn) (h : Hd) (zs : List (Dsc × Hd)), j ≤ tn ∧ s67 = .int .u16 (j : Int) ∧ Hid (WG s) ∧ Hid (zs.map (·.1) = (xL s gs).map (·.1)) ∧ Hid (WBlk wr g1 s h) ∧ Hid (WBlk wr g2 s (xH s (Ag, ng, cg))) ∧ Hid (Sds wr h.1 h.2.1 h.2.2 zs) ∧ Hid (DBlk wr gKD d hd) ∧ Hid (Below w.heap.size w wr)) (fun _ _ _ _ _ _ _ s67 _ => tn - (intOf s67).toNat)
            case atStart => exact ⟨0, (true, node, ml), (Aw, nw, cw), zw, Nat.zero_le _, rfl, HWG, MW, K1, K2, SW, KD, B⟩
            case round =>
              clear K1 K2 SW KD B HWG
              obtain ⟨j, s, ⟨Aw, nw, cw⟩, zs, hj, rfl, HWG, HM, K1, K2, SW, KD, B⟩ := hrel
              dsimp only at K1 SW
              obtain ⟨v3, rfl⟩ : ∃ v, v = wr := ⟨_, rfl⟩
              have FW := Lib.hid (xfit HFG.out HLg.out s HM.out SW.out.len)
              obtain ⟨hx, hhx⟩ : ∃ q, xH s (Ag, ng, cg) = q := ⟨_, rfl⟩
              rw [hhx] at K2
              have HHX := Lib.hid hhx
              have i0 : (0 : Int) ≤ (j : Int) := by omega
              by_cases hlt : j < tn
              · skip
                as_aux_lemma =>
                  have i1 : (j : Int) < (tn : Int) := by omega
                  have i2 : (tn : Int) ≤ 299 := by omega
                  obtain ⟨s2, hs2⟩ : ∃ q, tickW s = q := ⟨_, rfl⟩
                  obtain ⟨p, hp⟩ : ∃ q, tickP s = q := ⟨_, rfl⟩
                  obtain ⟨b, hb⟩ : ∃ q, tickB s = q := ⟨_, rfl⟩
                  obtain ⟨hx2, hhx2⟩ : ∃ q, xH s2 (Ag, ng, cg) = q := ⟨_, rfl⟩
                  have HES : Hid (tickS s (zs.map (·.1)) = (xL s2 gs).map (·.1)) := by unfold Hid; rw [HM.out, tickS_x, hs2]
                  have HTH : Hid (tickH s hx = hx2) := by unfold Hid; rw [← hhx, tickH_x, hs2, hhx2]
                  have HWG2 : Hid (WG s2) := by rw [← hs2]; exact HWG.out.tick
                  have HHX2 := Lib.hid hhx2
                  have HS2 := Lib.hid hs2
                  have HP := Lib.hid hp
                  have HB := Lib.hid hb
                  have nb : ∀ w', (binOp .neq 4 (.bool b) (.bool b)).run Try.prog w' = .ok (.bool false) w' := fun w' => neqB b w'
                  clear hs2 hp hb hhx hhx2
                  have LT1 := Lib.hid K1.out.lt
                  have LT2 := Lib.hid K2.out.lt
                  obtain ⟨K10, K11, K12, K13⟩ := K1.out.cells
                  go_wp2_with fail
                  have hc := tick_any s Aw nw cw zs v3 SW.out FW.out HWG.out.2
                  rw [HS2.out] at hc
                  rw [HP.out] at hc
                  rw [HB.out] at hc
                  rw [HES.out] at hc
                  refine hc.mono ?_
                  clear hc
                  rintro e w31 ⟨⟨At, nt, ct⟩, zt, rfl, mt, dt, b5⟩
                  clear K10 K11 K12 K13
                  have MT := Lib.hid (mt)
                  have DT := Lib.hid (dt)
                  replace K1 := Lib.hid (K1.out.next b5)
                  replace K2 := Lib.hid (K2.out.next b5)
                  replace SW := Lib.hid (SW.out.next b5)
                  replace KD := Lib.hid (KD.out.next b5)
                  replace B := Lib.hid (thn B.out b5)
                  clear b5
                  clear mt dt SW
                  dsimp only at DT ⊢
                  have LA1 := Lib.hid K1.out.lt
                  have LA2 := Lib.hid K2.out.lt
                  go_upto_region 9 with fail
                  have hbl := below_lit w31 (.cells #[.bool (s2 : Wn).1, .int .u8 (s2 : Wn).2.1, .int .u8 (s2 : Wn).2.2, .slice ((At, nt, ct) : Hd).1 ((At, nt, ct) : Hd).2.1 ((At, nt, ct) : Hd).2.2] 31)
                  have KA := Lib.hid (WBlk.new w31 s2 (At, nt, ct))
                  replace K1 := Lib.hid (K1.out.next hbl)
                  replace K2 := Lib.hid (K2.out.next hbl)
                  replace KD := Lib.hid (KD.out.next hbl)
                  replace DT := Lib.hid (DT.out.next hbl)
                  replace B := Lib.hid (thn B.out hbl)
                  clear hbl
                  try dsimp only at KA
                  generalize w31.alloc _ = w32 at *
                  obtain ⟨gKA, hgKA⟩ : ∃ q, w31.heap.size = q := ⟨_, rfl⟩
                  rw [hgKA] at KA ⊢
                  have na1 : gKA ≠ g1 := by have := LA1.out; omega
                  have na2 : gKA ≠ g2 := by have := LA2.out; omega
                  clear hgKA LA1 LA2
                  obtain ⟨K20, K21, K22, K23⟩ := K2.out.cells
                  go_wp2_with fail
                  have hc := reftick_any s hx w32 HWG.out.1
                  rw [HS2.out] at hc
                  rw [HP.out] at hc
                  rw [HB.out] at hc
                  rw [HTH.out] at hc
                  refine hc.mono ?_
                  clear hc
                  rintro e w33 ⟨rfl, b5⟩
                  clear K20 K21 K22 K23
                  replace K1 := Lib.hid (K1.out.next b5)
                  replace K2 := Lib.hid (K2.out.next b5)
                  replace KD := Lib.hid (KD.out.next b5)
                  replace DT := Lib.hid (DT.out.next b5)
                  replace KA := Lib.hid (KA.out.next b5)
                  replace B := Lib.hid (thn B.out b5)
                  clear b5
                  have LA1 := Lib.hid K1.out.lt
                  have LA2 := Lib.hid K2.out.lt
                  go_upto_region 10 with fail
                  have hbl := below_lit w33 (.cells #[.bool (s2 : Wn).1, .int .u8 (s2 : Wn).2.1, .int .u8 (s2 : Wn).2.2, .slice (hx2 : Hd).1 (hx2 : Hd).2.1 (hx2 : Hd).2.2] 31)
                  have KB := Lib.hid (WBlk.new w33 s2 hx2)
                  replace K1 := Lib.hid (K1.out.next hbl)
                  replace K2 := Lib.hid (K2.out.next hbl)
                  replace KD := Lib.hid (KD.out.next hbl)
                  replace DT := Lib.hid (DT.out.next hbl)
                  replace KA := Lib.hid (KA.out.next hbl)
                  replace B := Lib.hid (thn B.out hbl)
                  clear hbl
                  try dsimp only at KB
                  generalize w33.alloc _ = w34 at *
                  obtain ⟨gKB, hgKB⟩ : ∃ q, w33.heap.size = q := ⟨_, rfl⟩
                  rw [hgKB] at KB ⊢
                  have nb1 : gKB ≠ g1 := by have := LA1.out; omega
                  have nb2 : gKB ≠ g2 := by have := LA2.out; omega
                  clear hgKB LA1 LA2
                  have na1' := na1.symm
                  have na2' := na2.symm
                  have nb1' := nb1.symm
                  have nb2' := nb2.symm
                  refine two_gen (ga := gKA) (gb := gKB) (g1 := g1) (g2 := g2) (s := s2) (t := s2) (h := (At, nt, ct)) (k := hx2) (x0 := 23) (x1 := 26) (x2 := 21) (x3 := 22) (d0 := 81) (d1 := 82) ⟨rfl, rfl, rfl⟩ ⟨rfl, rfl, rfl⟩ ⟨rfl, rfl, rfl⟩ ⟨rfl, rfl, rfl⟩ (by kernel_rfl) (by kernel_rfl) (by kernel_rfl) (by kernel_rfl) (by decide) (Nat.le_of_ble_eq_true (by kernel_rfl)) (Nat.le_of_ble_eq_true (by kernel_rfl)) (by kernel_rfl) (by kernel_rfl) (by kernel_rfl) (by kernel_rfl) KA.out KB.out K1.out K2.out na1 na2 nb1 nb2 n12 ?_
                  intro w35 hb9
                  replace K1 := Lib.hid (K1.out.next hb9)
                  replace K2 := Lib.hid (K2.out.next hb9)
                  replace KD := Lib.hid (KD.out.next hb9)
                  replace DT := Lib.hid (DT.out.next hb9)
                  replace KA := Lib.hid (KA.out.next hb9)
                  replace KB := Lib.hid (KB.out.next hb9)
                  replace B := Lib.hid (thn B.out hb9)
                  clear hb9
                  simp only [putAll, put_lit, List.set_cons_succ, List.set_cons_zero]
                  have hga := grown_setv w35 g1 (.bool s2.1) (.int .u8 s2.2.1) (.int .u8 s2.2.2) (.slice At nt ct)
                  have hgb := grown_setv ((((w35.setCell ⟨g1, 0, none⟩ (.bool s2.1)).setCell ⟨g1, 1, none⟩ (.int .u8 s2.2.1)).setCell ⟨g1, 2, none⟩ (.int .u8 s2.2.2)).setCell ⟨g1, 3, none⟩ (.slice At nt ct)) g2 (.bool s2.1) (.int .u8 s2.2.1) (.int .u8 s2.2.2) (.slice hx2.1 hx2.2.1 hx2.2.2)
                  have K1N : Hid (WBlk ((((((((w35.setCell ⟨g1, 0, none⟩ (.bool s2.1)).setCell ⟨g1, 1, none⟩ (.int .u8 s2.2.1)).setCell ⟨g1, 2, none⟩ (.int .u8 s2.2.2)).setCell ⟨g1, 3, none⟩ (.slice At nt ct)).setCell ⟨g2, 0, none⟩ (.bool s2.1)).setCell ⟨g2, 1, none⟩ (.int .u8 s2.2.1)).setCell ⟨g2, 2, none⟩ (.int .u8 s2.2.2)).setCell ⟨g2, 3, none⟩ (.slice hx2.1 hx2.2.1 hx2.2.2)) g1 s2 (At, nt, ct)) := (K1.out.wrote s2 (At, nt, ct)).grown hgb n12
                  have K2N : Hid (WBlk ((((((((w35.setCell ⟨g1, 0, none⟩ (.bool s2.1)).setCell ⟨g1, 1, none⟩ (.int .u8 s2.2.1)).setCell ⟨g1, 2, none⟩ (.int .u8 s2.2.2)).setCell ⟨g1, 3, none⟩ (.slice At nt ct)).setCell ⟨g2, 0, none⟩ (.bool s2.1)).setCell ⟨g2, 1, none⟩ (.int .u8 s2.2.1)).setCell ⟨g2, 2, none⟩ (.int .u8 s2.2.2)).setCell ⟨g2, 3, none⟩ (.slice hx2.1 hx2.2.1 hx2.2.2)) g2 s2 hx2) := (K2.out.grown hga n21).wrote s2 hx2
                  have KAN := Lib.hid ((KA.out.grown hga na1).grown hgb na2)
                  have KBN := Lib.hid ((KB.out.grown hga nb1).grown hgb nb2)
                  have KDN := Lib.hid ((KD.out.grown hga nd1).grown hgb nd2)
                  have DTN := Lib.hid ((DT.out.grownN hga LT1.out).grownN hgb LT2.out)
                  have BN : Hid (Below w.heap.size w ((((((((w35.setCell ⟨g1, 0, none⟩ (.bool s2.1)).setCell ⟨g1, 1, none⟩ (.int .u8 s2.2.1)).setCell ⟨g1, 2, none⟩ (.int .u8 s2.2.2)).setCell ⟨g1, 3, none⟩ (.slice At nt ct)).setCell ⟨g2, 0, none⟩ (.bool s2.1)).setCell ⟨g2, 1, none⟩ (.int .u8 s2.2.1)).setCell ⟨g2, 2, none⟩ (.int .u8 s2.2.2)).setCell ⟨g2, 3, none⟩ (.slice hx2.1 hx2.2.1 hx2.2.2))) := (belowG (belowG B.out hga B.out.size LB1.out) hgb (belowG B.out hga B.out.size LB1.out).size LB2.out)
                  clear hga hgb K1 K2 B KA KB KD DT
                  generalize ((((((((w35.setCell ⟨g1, 0, none⟩ (.bool s2.1)).setCell ⟨g1, 1, none⟩ (.int .u8 s2.2.1)).setCell ⟨g1, 2, none⟩ (.int .u8 s2.2.2)).setCell ⟨g1, 3, none⟩ (.slice At nt ct)).setCell ⟨g2, 0, none⟩ (.bool s2.1)).setCell ⟨g2, 1, none⟩ (.int .u8 s2.2.1)).setCell ⟨g2, 2, none⟩ (.int .u8 s2.2.2)).setCell ⟨g2, 3, none⟩ (.slice hx2.1 hx2.2.1 hx2.2.2)) = w36 at *
                  have K1 := K1N
                  clear K1N
                  have K2 := K2N
                  clear K2N
                  have B := BN
                  clear BN
                  have KA := KAN
                  clear KAN
                  have KB := KBN
                  clear KBN
                  have KD := KDN
                  clear KDN
                  have DT := DTN
                  clear DTN
                  have SW := Lib.hid DT.out.sds
                  clear DT LT1 LT2
                  go_wp2_with (first | (refine wpList_loadW (.tmp 23) rfl (by rfl) (by kernel_rfl) KA.out ?_; simp only [put_lit, List.set_cons_succ, List.set_cons_zero]) | (refine wpList_loadW (.tmp 26) rfl (by rfl) (by kernel_rfl) KB.out ?_; simp only [put_lit, List.set_cons_succ, List.set_cons_zero]))
                  have hc := samew_any s2 (At, nt, ct) hx2 zt (xL s2 gs) w36 SW.out (by rw [← HHX2.out]; exact xsds (HG.out.next B.out) s2) MT.out
                  refine hc.mono ?_
                  clear hc
                  rintro e w37 ⟨rfl, b5⟩
                  replace K1 := Lib.hid (K1.out.next b5)
                  replace K2 := Lib.hid (K2.out.next b5)
                  replace KA := Lib.hid (KA.out.next b5)
                  replace KB := Lib.hid (KB.out.next b5)
                  replace KD := Lib.hid (KD.out.next b5)
                  replace SW := Lib.hid (SW.out.next b5)
                  replace B := Lib.hid (thn B.out b5)
                  clear b5
                  clear KA KB
                  have K2R : Hid (WBlk w37 g2 s2 (xH s2 (Ag, ng, cg))) := by unfold Hid; rw [HHX2.out]; exact K2.out
                  go_wp2
                  go_roundw
                  case rel => exact ⟨j + 1, s2, (At, nt, ct), zt, by omega, by go_num, HWG2, MT, K1, K2R, SW, KD, B⟩
                  case measure => simp [intOf]; omega
              · skip
                as_aux_lemma =>
                  obtain rfl : j = tn := by omega
                  clear hhx
                  obtain ⟨s3, hs3⟩ : ∃ q, ansW s from_ = q := ⟨_, rfl⟩
                  obtain ⟨b, hb⟩ : ∃ q, ansB s from_ = q := ⟨_, rfl⟩
                  obtain ⟨ha, hha⟩ : ∃ q, ansH s from_ hx = q := ⟨_, rfl⟩
                  obtain ⟨hk, hhk⟩ : ∃ q, ansK s from_ hx = q := ⟨_, rfl⟩
                  have nb : ∀ w', (binOp .neq 4 (.bool b) (.bool b)).run Try.prog w' = .ok (.bool false) w' := fun w' => neqB b w'
                  have H3 := Lib.hid hs3
                  have HB := Lib.hid hb
                  have HHA := Lib.hid hha
                  have HHK := Lib.hid hhk
                  clear hs3 hb hha hhk
                  obtain ⟨K10, K11, K12, K13⟩ := K1.out.cells
                  go_wp2_with fail
                  have hc := answer_any s from_ Aw nw cw zs v3 SW.out FW.out
                  rw [H3.out] at hc
                  rw [HB.out] at hc
                  refine hc.mono ?_
                  clear hc
                  rintro e w31 ⟨⟨Aa, na, ca⟩, za, ⟨Ap, np, cp⟩, ya, rfl, ma, da, mp, dp, b5⟩
                  clear K10 K11 K12 K13
                  have MA := Lib.hid (ma)
                  have SA := Lib.hid (da.sds)
                  have MP := Lib.hid (mp)
                  have SP := Lib.hid (dp.sds)
                  replace K1 := Lib.hid (K1.out.next b5)
                  replace K2 := Lib.hid (K2.out.next b5)
                  replace SW := Lib.hid (SW.out.next b5)
                  replace KD := Lib.hid (KD.out.next b5)
                  replace B := Lib.hid (thn B.out b5)
                  clear b5
                  clear ma da mp dp SW FW K1
                  dsimp only at SA SP ⊢
                  go_upto_region 15 with fail
                  have hbl := below_lit w31 (.cells #[.bool (s3 : Wn).1, .int .u8 (s3 : Wn).2.1, .int .u8 (s3 : Wn).2.2, .slice ((Aa, na, ca) : Hd).1 ((Aa, na, ca) : Hd).2.1 ((Aa, na, ca) : Hd).2.2] 31)
                  have KE := Lib.hid (WBlk.new w31 s3 (Aa, na, ca))
                  replace K2 := Lib.hid (K2.out.next hbl)
                  replace KD := Lib.hid (KD.out.next hbl)
                  replace SA := Lib.hid (SA.out.next hbl)
                  replace SP := Lib.hid (SP.out.next hbl)
                  replace B := Lib.hid (thn B.out hbl)
                  clear hbl
                  try dsimp only at KE
                  generalize w31.alloc _ = w32 at *
                  obtain ⟨gKE, hgKE⟩ : ∃ q, w31.heap.size = q := ⟨_, rfl⟩
                  rw [hgKE] at KE ⊢
                  clear hgKE
                  obtain ⟨K20, K21, K22, K23⟩ := K2.out.cells
                  go_wp2_with fail
                  have hc := refanswer_any s from_ hx w32
                  rw [H3.out] at hc
                  rw [HB.out] at hc
                  rw [HHA.out] at hc
                  rw [HHK.out] at hc
                  refine hc.mono ?_
                  clear hc
                  rintro e w33 ⟨rfl, b5⟩
                  clear K20 K21 K22 K23
                  replace K2 := Lib.hid (K2.out.next b5)
                  replace KD := Lib.hid (KD.out.next b5)
                  replace SA := Lib.hid (SA.out.next b5)
                  replace SP := Lib.hid (SP.out.next b5)
                  replace KE := Lib.hid (KE.out.next b5)
                  replace B := Lib.hid (thn B.out b5)
                  clear b5
                  clear K2
                  go_upto_region 16 with fail
                  have hbl := below_lit w33 (.cells #[.bool (s3 : Wn).1, .int .u8 (s3 : Wn).2.1, .int .u8 (s3 : Wn).2.2, .slice (ha : Hd).1 (ha : Hd).2.1 (ha : Hd).2.2] 31)
                  have KF := Lib.hid (WBlk.new w33 s3 ha)
                  replace KD := Lib.hid (KD.out.next hbl)
                  replace SA := Lib.hid (SA.out.next hbl)
                  replace SP := Lib.hid (SP.out.next hbl)
                  replace KE := Lib.hid (KE.out.next hbl)
                  replace B := Lib.hid (thn B.out hbl)
                  clear hbl
                  try dsimp only at KF
                  generalize w33.alloc _ = w34 at *
                  obtain ⟨gKF, hgKF⟩ : ∃ q, w33.heap.size = q := ⟨_, rfl⟩
                  rw [hgKF] at KF ⊢
                  clear hgKF
                  obtain ⟨yh, shh, eh⟩ := ans_h (xsds (HG.out.next B.out) s) s from_
                  obtain ⟨yk, shk, ek⟩ := ans_k (xsds (HG.out.next B.out) s) s from_
                  rw [HHX.out] at shh shk
                  rw [HHA.out] at shh
                  rw [HHK.out] at shk
                  have SH := Lib.hid shh
                  have SK := Lib.hid shk
                  have EH : Hid (za.map (·.1) = yh.map (·.1)) := by unfold Hid; rw [MA.out, eh, HM.out]
                  have EK : Hid (ya.map (·.1) = yk.map (·.1)) := by unfold Hid; rw [MP.out, ek, HM.out]
                  clear shh shk eh ek MA MP HM
                  obtain ⟨KE0, KE1, KE2, KE3⟩ := KE.out.cells
                  obtain ⟨KF0, KF1, KF2, KF3⟩ := KF.out.cells
                  go_wp2_with fail
                  have hc := samew_any s3 (Aa, na, ca) ha za yh w34 SA.out SH.out EH.out
                  refine hc.mono ?_
                  clear hc
                  rintro e w35 ⟨rfl, b5⟩
                  clear KE0 KE1 KE2 KE3 KF0 KF1 KF2 KF3
                  replace KD := Lib.hid (KD.out.next b5)
                  replace SA := Lib.hid (SA.out.next b5)
                  replace SP := Lib.hid (SP.out.next b5)
                  replace KE := Lib.hid (KE.out.next b5)
                  replace KF := Lib.hid (KF.out.next b5)
                  replace SH := Lib.hid (SH.out.next b5)
                  replace SK := Lib.hid (SK.out.next b5)
                  replace B := Lib.hid (thn B.out b5)
                  clear b5
                  clear KE KF SA SH
                  go_wp2_with fail
                  have hc := descs_any Ap np cp ya hk.1 hk.2.1 hk.2.2 yk w35 SP.out SK.out
                  rw [show decide (ya.map (·.1) = yk.map (·.1)) = true from decide_eq_true EK.out] at hc
                  refine hc.mono ?_
                  clear hc
                  rintro e w36 ⟨rfl, b5⟩
                  replace KD := Lib.hid (KD.out.next b5)
                  replace SP := Lib.hid (SP.out.next b5)
                  replace SK := Lib.hid (SK.out.next b5)
                  replace B := Lib.hid (thn B.out b5)
                  clear b5
                  clear SP SK
                  go_wp2_with fail
                  have hc := view_any A n c xs self rm w36 (HS.out.next B.out) HR.out rm0
                  refine hc.mono ?_
                  clear hc
                  rintro e w37 ⟨Av, nv, cv, vs, rfl, hv, sv, b5⟩
                  have SV := Lib.hid (sv.sds)
                  have HVV := Lib.hid (hv)
                  replace KD := Lib.hid (KD.out.next b5)
                  replace B := Lib.hid (thn B.out b5)
                  clear b5
                  clear sv hv
                  have HFV : Hid (Fit nv vs) := view_fit HVV.out HFX.out (by omega) SV.out.len
                  have HRV : Hid (RightD (vs.map (·.1)) self rm) := HVV.out.right
                  have HLV := Lib.hid SV.out.len
                  go_wp2_with fail
                  have hc := anew_any Av nv cv vs w37 SV.out (by have := HFV.out.len; omega) (fun x hx => by have := (HFV.out.all x hx).2; omega)
                  refine hc.mono ?_
                  clear hc
                  rintro e w38 ⟨Ao, no, co, os, rfl, mo, dO, b5⟩
                  have SO := Lib.hid (dO.sds)
                  have MO := Lib.hid (mo)
                  replace KD := Lib.hid (KD.out.next b5)
                  replace SV := Lib.hid (SV.out.next b5)
                  replace B := Lib.hid (thn B.out b5)
                  clear b5
                  clear dO mo
                  go_upto_region 21 with fail
                  have F4 : Hid (Fl w38 (d, hd)) := Sn.next FD.out B.out
                  have G4 : Hid (Sds w38 Ag ng cg gs) := HG.out.next B.out
                  refine wp_region_typed 32 [(136, .val (.slice Av nv cv)), (137, .val (.agg #[.int .u8 d.1, .int .u16 d.2.1, .int .u8 d.2.2.1, .slice hd.1 hd.2.1 hd.2.2])), (138, .val (.int .u8 self)), (139, .val (.int .i64 rm)), (140, tyL10 (admitD (vs.map (·.1)) d self rm)), (141, .val (.slice Av nv cv)), (142, .val (.agg #[.int .u8 d.1, .int .u16 d.2.1, .int .u8 d.2.2.1, .slice hd.1 hd.2.1 hd.2.2])), (143, .val (.int .u8 self)), (144, .val (.int .i64 rm)), (145, tyL10 (admitD (vs.map (·.1)) d self rm)), (146, .val (.bool true)), (147, .val (.bool true)), (148, .val (.slice Av nv cv)), (149, .val (.slice Ag ng cg)), (150, .val (.int .u8 self)), (151, .val (.int .i64 rm)), (152, tyL10 (fillD (vs.map (·.1)) (gs.map (·.1)) self rm)), (153, .val (.slice Av nv cv)), (154, .val (.slice Ag ng cg)), (155, .val (.int .u8 self)), (156, .val (.int .i64 rm)), (157, tyL10 (fillD (vs.map (·.1)) (gs.map (·.1)) self rm)), (158, .val (.bool true)), (159, .val (.bool true)), (160, .val (.bool true)), (161, .val (.slice Av nv cv)), (162, .val (.slice Ao no co)), (163, .val (.bool true)), (164, .val (.bool true)), (165, .val (.bool true)), (166, .val (.bool true)), (167, .val (.bool true))]
                    [[], [], [], [], [136, 137, 138, 139], [], [], [], [], [141, 142, 143, 144], [140, 145], [146], [147], [147], [147], [147], [147, 148, 149, 150, 151], [147], [147], [147], [147], [147, 153, 154, 155, 156], [147, 152, 157], [147, 158], [159], [160], [160], [160, 161, 162], [160, 163], [164], [165], [165, 166]] (by kernel_rfl) (by kernel_rfl) ?_ ?_
                  rotate_left
                  · intro v39 hb
                    simp only [List.take_succ_cons, List.take_zero, List.drop_succ_cons, List.drop_zero]
                    refine over_ds (ds := [136, 137, 138, 139, 140, 141, 142, 143, 144, 145, 146, 147, 148, 149, 150, 151, 152, 153, 154, 155, 156, 157, 158, 159, 160, 161, 162, 163, 164, 165, 166, 167]) (by kernel_rfl) ?_
                    refine over_some (ds1 := [136, 137, 138, 139]) (ds2 := [140, 141, 142, 143, 144, 145, 146, 147, 148, 149, 150, 151, 152, 153, 154, 155, 156, 157, 158, 159, 160, 161, 162, 163, 164, 165, 166, 167]) [(.slice Av nv cv), (.agg #[.int .u8 d.1, .int .u16 d.2.1, .int .u8 d.2.2.1, .slice hd.1 hd.2.1 hd.2.2]), (.int .u8 self), (.int .i64 rm)] (by kernel_rfl) ?_
                    refine over_pred rfl ?_
                    rintro _ ⟨A140, n140, c140, p140, rfl, m140, s140⟩
                    refine over_some (ds1 := [141, 142, 143, 144]) (ds2 := [145, 146, 147, 148, 149, 150, 151, 152, 153, 154, 155, 156, 157, 158, 159, 160, 161, 162, 163, 164, 165, 166, 167]) [(.slice Av nv cv), (.agg #[.int .u8 d.1, .int .u16 d.2.1, .int .u8 d.2.2.1, .slice hd.1 hd.2.1 hd.2.2]), (.int .u8 self), (.int .i64 rm)] (by kernel_rfl) ?_
                    refine over_pred rfl ?_
                    rintro _ ⟨A145, n145, c145, p145, rfl, m145, s145⟩
                    refine over_some (ds1 := [146, 147, 148, 149, 150, 151]) (ds2 := [152, 153, 154, 155, 156, 157, 158, 159, 160, 161, 162, 163, 164, 165, 166, 167]) [(.bool true), (.bool true), (.slice Av nv cv), (.slice Ag ng cg), (.int .u8 self), (.int .i64 rm)] (by kernel_rfl) ?_
                    refine over_pred rfl ?_
                    rintro _ ⟨A152, n152, c152, p152, rfl, m152, s152⟩
                    refine over_some (ds1 := [153, 154, 155, 156]) (ds2 := [157, 158, 159, 160, 161, 162, 163, 164, 165, 166, 167]) [(.slice Av nv cv), (.slice Ag ng cg), (.int .u8 self), (.int .i64 rm)] (by kernel_rfl) ?_
                    refine over_pred rfl ?_
                    rintro _ ⟨A157, n157, c157, p157, rfl, m157, s157⟩
                    refine over_some (ds1 := [158, 159, 160, 161, 162, 163, 164, 165, 166, 167]) (ds2 := []) [(.bool true), (.bool true), (.bool true), (.slice Av nv cv), (.slice Ao no co), (.bool true), (.bool true), (.bool true), (.bool true), (.bool true)] (by kernel_rfl) ?_
                    refine over_nil ?_
                    simp only [putAll, put_lit, List.set_cons_succ, List.set_cons_zero]
                    replace KD := Lib.hid (KD.out.next hb)
                    replace SV := Lib.hid (SV.out.next hb)
                    replace SO := Lib.hid (SO.out.next hb)
                    replace B := Lib.hid (thn B.out hb)
                    clear hb
                    go_wp2
                    go_ret
                    exact ⟨rfl, B.out⟩
                  simp only [List.take_succ_cons, List.take_zero]
                  refine ⟨?r21g0, ?r21g1, ?r21g2, ?r21g3, ?r21g4, ?r21g5, ?r21g6, ?r21g7, ?r21g8, ?r21g9, ?r21g10, ?r21g11, ?r21g12, ?r21g13, ?r21g14, ?r21g15, ?r21g16, ?r21g17, ?r21g18, ?r21g19, ?r21g20, ?r21g21, ?r21g22, ?r21g23, ?r21g24, ?r21g25, ?r21g26, ?r21g27, ?r21g28, ?r21g29, ?r21g30, ?r21g31, trivial⟩
                  case r21g0 =>
                    intro w9 hb
                    refine over_nil ?_
                    go_wp2
                    first | exact post_of (by rfl) (by rfl) (Below.refl _ _) (by rfl) | exact rfl
                  case r21g1 =>
                    intro w9 hb
                    refine over_nil ?_
                    obtain ⟨p0, q0, r0, s0⟩ := (KD.out.next hb).cells
                    go_wp2
                    first | exact post_of (by rfl) (by rfl) (Below.refl _ _) (by rfl) | exact rfl
                  case r21g2 =>
                    intro w9 hb
                    refine over_nil ?_
                    go_wp2
                    first | exact post_of (by rfl) (by rfl) (Below.refl _ _) (by rfl) | exact rfl
                  case r21g3 =>
                    intro w9 hb
                    refine over_nil ?_
                    go_wp2
                    first | exact post_of (by rfl) (by rfl) (Below.refl _ _) (by rfl) | exact rfl
                  case r21g4 =>
                    intro w9 hb
                    refine over_some (ds1 := [136, 137, 138, 139]) (ds2 := []) [(.slice Av nv cv), (.agg #[.int .u8 d.1, .int .u16 d.2.1, .int .u8 d.2.2.1, .slice hd.1 hd.2.1 hd.2.2]), (.int .u8 self), (.int .i64 rm)] (by kernel_rfl) ?_
                    refine over_nil ?_
                    simp only [putAll, put_lit, List.set_cons_succ, List.set_cons_zero]
                    go_wp2_with fail
                    refine (admit_any Av nv cv vs d hd self rm w9 (SV.out.next hb) HFV.out (Sn.next F4.out hb) F1D.out HRV.out).mono ?_
                    rintro e w8 ⟨A8, n8, c8, z8, rfl, m8, d8, b6⟩
                    have S8 := Lib.hid d8.sds
                    have M8 := Lib.hid m8
                    clear d8 m8
                    go_wp2
                    exact post_of (by rfl) (by rfl) b6 (by exact ⟨_, _, _, _, rfl, M8.out, S8.out⟩)
                  case r21g5 =>
                    intro w9 hb
                    refine over_nil ?_
                    go_wp2
                    first | exact post_of (by rfl) (by rfl) (Below.refl _ _) (by rfl) | exact rfl
                  case r21g6 =>
                    intro w9 hb
                    refine over_nil ?_
                    obtain ⟨p0, q0, r0, s0⟩ := (KD.out.next hb).cells
                    go_wp2
                    first | exact post_of (by rfl) (by rfl) (Below.refl _ _) (by rfl) | exact rfl
                  case r21g7 =>
                    intro w9 hb
                    refine over_nil ?_
                    go_wp2
                    first | exact post_of (by rfl) (by rfl) (Below.refl _ _) (by rfl) | exact rfl
                  case r21g8 =>
                    intro w9 hb
                    refine over_nil ?_
                    go_wp2
                    first | exact post_of (by rfl) (by rfl) (Below.refl _ _) (by rfl) | exact rfl
                  case r21g9 =>
                    intro w9 hb
                    refine over_some (ds1 := [141, 142, 143, 144]) (ds2 := []) [(.slice Av nv cv), (.agg #[.int .u8 d.1, .int .u16 d.2.1, .int .u8 d.2.2.1, .slice hd.1 hd.2.1 hd.2.2]), (.int .u8 self), (.int .i64 rm)] (by kernel_rfl) ?_
                    refine over_nil ?_
                    simp only [putAll, put_lit, List.set_cons_succ, List.set_cons_zero]
                    go_wp2_with fail
                    refine (refadmit_any Av nv cv vs d hd self rm w9 (SV.out.next hb) HFV.out (Sn.next F4.out hb)).mono ?_
                    rintro e w8 ⟨A8, n8, c8, z8, rfl, m8, d8, b6⟩
                    have S8 := Lib.hid d8
                    have M8 := Lib.hid m8
                    clear d8 m8
                    go_wp2
                    exact post_of (by rfl) (by rfl) b6 (by exact ⟨_, _, _, _, rfl, M8.out, S8.out⟩)
                  case r21g10 =>
                    intro w9 hb
                    refine over_pred rfl ?_
                    rintro _ ⟨A140, n140, c140, p140, rfl, m140, s140⟩
                    refine over_pred rfl ?_
                    rintro _ ⟨A145, n145, c145, p145, rfl, m145, s145⟩
                    refine over_nil ?_
                    simp only [put_lit, List.set_cons_succ, List.set_cons_zero]
                    go_wp2_with fail
                    have hc2 := descs_any A140 n140 c140 p140 A145 n145 c145 p145 w9 s140 s145
                    rw [show decide (p140.map (·.1) = p145.map (·.1)) = true from decide_eq_true (m140.trans m145.symm)] at hc2
                    refine hc2.mono ?_
                    clear hc2
                    rintro e w8 ⟨rfl, b6⟩
                    go_wp2
                    exact post_of (by rfl) (by rfl) b6 (by rfl)
                  case r21g11 =>
                    intro w9 hb
                    refine over_some (ds1 := [146]) (ds2 := []) [(.bool true)] (by kernel_rfl) ?_
                    refine over_nil ?_
                    simp only [putAll, put_lit, List.set_cons_succ, List.set_cons_zero]
                    go_wp2
                    first | exact post_of (by rfl) (by rfl) (Below.refl _ _) (by rfl) | exact rfl
                  case r21g12 =>
                    intro w9 hb
                    refine over_some (ds1 := [147]) (ds2 := []) [(.bool true)] (by kernel_rfl) ?_
                    refine over_nil ?_
                    simp only [putAll, put_lit, List.set_cons_succ, List.set_cons_zero]
                    go_wp2
                    first | exact post_of (by rfl) (by rfl) (Below.refl _ _) (by rfl) | exact rfl
                  case r21g13 =>
                    intro w9 hb
                    refine over_some (ds1 := [147]) (ds2 := []) [(.bool true)] (by kernel_rfl) ?_
                    refine over_nil ?_
                    simp only [putAll, put_lit, List.set_cons_succ, List.set_cons_zero]
                    go_wp2
                    first | exact post_of (by rfl) (by rfl) (Below.refl _ _) (by rfl) | exact rfl
                  case r21g14 =>
                    intro w9 hb
                    refine over_some (ds1 := [147]) (ds2 := []) [(.bool true)] (by kernel_rfl) ?_
                    refine over_nil ?_
                    simp only [putAll, put_lit, List.set_cons_succ, List.set_cons_zero]
                    go_wp2
                    first | exact post_of (by rfl) (by rfl) (Below.refl _ _) (by rfl) | exact rfl
                  case r21g15 =>
                    intro w9 hb
                    refine over_some (ds1 := [147]) (ds2 := []) [(.bool true)] (by kernel_rfl) ?_
                    refine over_nil ?_
                    simp only [putAll, put_lit, List.set_cons_succ, List.set_cons_zero]
                    go_wp2
                    first | exact post_of (by rfl) (by rfl) (Below.refl _ _) (by rfl) | exact rfl
                  case r21g16 =>
                    intro w9 hb
                    refine over_some (ds1 := [147, 148, 149, 150, 151]) (ds2 := []) [(.bool true), (.slice Av nv cv), (.slice Ag ng cg), (.int .u8 self), (.int .i64 rm)] (by kernel_rfl) ?_
                    refine over_nil ?_
                    simp only [putAll, put_lit, List.set_cons_succ, List.set_cons_zero]
                    go_wp2_with fail
                    refine (fill_any Av nv cv vs Ag ng cg gs self rm w9 (SV.out.next hb) HFV.out (G4.out.next hb) HFG.out (by omega) HRV.out).mono ?_
                    rintro e w8 ⟨A8, n8, c8, z8, rfl, m8, d8, b6⟩
                    have S8 := Lib.hid d8.sds
                    have M8 := Lib.hid m8
                    clear d8 m8
                    go_wp2
                    exact post_of (by rfl) (by rfl) b6 (by exact ⟨_, _, _, _, rfl, M8.out, S8.out⟩)
                  case r21g17 =>
                    intro w9 hb
                    refine over_some (ds1 := [147]) (ds2 := []) [(.bool true)] (by kernel_rfl) ?_
                    refine over_nil ?_
                    simp only [putAll, put_lit, List.set_cons_succ, List.set_cons_zero]
                    go_wp2
                    first | exact post_of (by rfl) (by rfl) (Below.refl _ _) (by rfl) | exact rfl
                  case r21g18 =>
                    intro w9 hb
                    refine over_some (ds1 := [147]) (ds2 := []) [(.bool true)] (by kernel_rfl) ?_
                    refine over_nil ?_
                    simp only [putAll, put_lit, List.set_cons_succ, List.set_cons_zero]
                    go_wp2
                    first | exact post_of (by rfl) (by rfl) (Below.refl _ _) (by rfl) | exact rfl
                  case r21g19 =>
                    intro w9 hb
                    refine over_some (ds1 := [147]) (ds2 := []) [(.bool true)] (by kernel_rfl) ?_
                    refine over_nil ?_
                    simp only [putAll, put_lit, List.set_cons_succ, List.set_cons_zero]
                    go_wp2
                    first | exact post_of (by rfl) (by rfl) (Below.refl _ _) (by rfl) | exact rfl
                  case r21g20 =>
                    intro w9 hb
                    refine over_some (ds1 := [147]) (ds2 := []) [(.bool true)] (by kernel_rfl) ?_
                    refine over_nil ?_
                    simp only [putAll, put_lit, List.set_cons_succ, List.set_cons_zero]
                    go_wp2
                    first | exact post_of (by rfl) (by rfl) (Below.refl _ _) (by rfl) | exact rfl
                  case r21g21 =>
                    intro w9 hb
                    refine over_some (ds1 := [147, 153, 154, 155, 156]) (ds2 := []) [(.bool true), (.slice Av nv cv), (.slice Ag ng cg), (.int .u8 self), (.int .i64 rm)] (by kernel_rfl) ?_
                    refine over_nil ?_
                    simp only [putAll, put_lit, List.set_cons_succ, List.set_cons_zero]
                    go_wp2_with fail
                    refine (reffill_any Av nv cv vs Ag ng cg gs self rm w9 (SV.out.next hb) HFV.out (G4.out.next hb) HFG.out (by omega) HRV.out).mono ?_
                    rintro e w8 ⟨A8, n8, c8, z8, rfl, m8, d8, b6⟩
                    have S8 := Lib.hid d8
                    have M8 := Lib.hid m8
                    clear d8 m8
                    go_wp2
                    exact post_of (by rfl) (by rfl) b6 (by exact ⟨_, _, _, _, rfl, M8.out, S8.out⟩)
                  case r21g22 =>
                    intro w9 hb
                    refine over_some (ds1 := [147]) (ds2 := [152, 157]) [(.bool true)] (by kernel_rfl) ?_
                    refine over_pred rfl ?_
                    rintro _ ⟨A152, n152, c152, p152, rfl, m152, s152⟩
                    refine over_pred rfl ?_
                    rintro _ ⟨A157, n157, c157, p157, rfl, m157, s157⟩
                    refine over_nil ?_
                    simp only [putAll, put_lit, List.set_cons_succ, List.set_cons_zero]
                    go_wp2_with fail
                    have hc2 := descs_any A152 n152 c152 p152 A157 n157 c157 p157 w9 s152 s157
                    rw [show decide (p152.map (·.1) = p157.map (·.1)) = true from decide_eq_true (m152.trans m157.symm)] at hc2
                    refine hc2.mono ?_
                    clear hc2
                    rintro e w8 ⟨rfl, b6⟩
                    go_wp2
                    exact post_of (by rfl) (by rfl) b6 (by rfl)
                  case r21g23 =>
                    intro w9 hb
                    refine over_some (ds1 := [147, 158]) (ds2 := []) [(.bool true), (.bool true)] (by kernel_rfl) ?_
                    refine over_nil ?_
                    simp only [putAll, put_lit, List.set_cons_succ, List.set_cons_zero]
                    go_wp2
                    first | exact post_of (by rfl) (by rfl) (Below.refl _ _) (by rfl) | exact rfl
                  case r21g24 =>
                    intro w9 hb
                    refine over_some (ds1 := [159]) (ds2 := []) [(.bool true)] (by kernel_rfl) ?_
                    refine over_nil ?_
                    simp only [putAll, put_lit, List.set_cons_succ, List.set_cons_zero]
                    go_wp2
                    first | exact post_of (by rfl) (by rfl) (Below.refl _ _) (by rfl) | exact rfl
                  case r21g25 =>
                    intro w9 hb
                    refine over_some (ds1 := [160]) (ds2 := []) [(.bool true)] (by kernel_rfl) ?_
                    refine over_nil ?_
                    simp only [putAll, put_lit, List.set_cons_succ, List.set_cons_zero]
                    go_wp2
                    first | exact post_of (by rfl) (by rfl) (Below.refl _ _) (by rfl) | exact rfl
                  case r21g26 =>
                    intro w9 hb
                    refine over_some (ds1 := [160]) (ds2 := []) [(.bool true)] (by kernel_rfl) ?_
                    refine over_nil ?_
                    simp only [putAll, put_lit, List.set_cons_succ, List.set_cons_zero]
                    go_wp2
                    first | exact post_of (by rfl) (by rfl) (Below.refl _ _) (by rfl) | exact rfl
                  case r21g27 =>
                    intro w9 hb
                    refine over_some (ds1 := [160, 161, 162]) (ds2 := []) [(.bool true), (.slice Av nv cv), (.slice Ao no co)] (by kernel_rfl) ?_
                    refine over_nil ?_
                    simp only [putAll, put_lit, List.set_cons_succ, List.set_cons_zero]
                    go_wp2_with fail
                    have hc2 := descs_any Av nv cv vs Ao no co os w9 (SV.out.next hb) (SO.out.next hb)
                    rw [show decide (vs.map (·.1) = os.map (·.1)) = true from decide_eq_true MO.out.symm] at hc2
                    refine hc2.mono ?_
                    clear hc2
                    rintro e w8 ⟨rfl, b6⟩
                    go_wp2
                    exact post_of (by rfl) (by rfl) b6 (by rfl)
                  case r21g28 =>
                    intro w9 hb
                    refine over_some (ds1 := [160, 163]) (ds2 := []) [(.bool true), (.bool true)] (by kernel_rfl) ?_
                    refine over_nil ?_
                    simp only [putAll, put_lit, List.set_cons_succ, List.set_cons_zero]
                    go_wp2
                    first | exact post_of (by rfl) (by rfl) (Below.refl _ _) (by rfl) | exact rfl
                  case r21g29 =>
                    intro w9 hb
                    refine over_some (ds1 := [164]) (ds2 := []) [(.bool true)] (by kernel_rfl) ?_
                    refine over_nil ?_
                    simp only [putAll, put_lit, List.set_cons_succ, List.set_cons_zero]
                    go_wp2
                    first | exact post_of (by rfl) (by rfl) (Below.refl _ _) (by rfl) | exact rfl
                  case r21g30 =>
                    intro w9 hb
                    refine over_some (ds1 := [165]) (ds2 := []) [(.bool true)] (by kernel_rfl) ?_
                    refine over_nil ?_
                    simp only [putAll, put_lit, List.set_cons_succ, List.set_cons_zero]
                    go_wp2_with fail
                    have hc2 := awake_any w9
                    refine hc2.mono ?_
                    clear hc2
                    rintro e w8 ⟨rfl, b6⟩
                    go_wp2
                    exact post_of (by rfl) (by rfl) b6 (by rfl)
                  case r21g31 =>
                    intro w9 hb
                    refine over_some (ds1 := [165, 166]) (ds2 := []) [(.bool true), (.bool true)] (by kernel_rfl) ?_
                    refine over_nil ?_
                    simp only [putAll, put_lit, List.set_cons_succ, List.set_cons_zero]
                    go_wp2
                    first | exact post_of (by rfl) (by rfl) (Below.refl _ _) (by rfl) | exact rfl
end Go.Proofs.Ytdkchiodepdclaa
