/- Layer 9: DescNewer. -/
import Derived.Test.YtlkjlmmdllkdcaaRn
import Derived.Deep.RegionLaw
import Derived.Shelf.Abstract
namespace Go.Proofs.Ytlkjlmmdllkdcaa
open Go.RowKit
set_option linter.unusedVariables false
/-- A block of one cell. -/
def CBlk (w : World) (g : Nat) (v : Value) (t : TypeId) : Prop := w.heap[g]? = some (.cells #[v] t (0, 0))
section
variable {w w' : World} {g b : Nat} {v : Value} {t : TypeId}
theorem CBlk.new (w : World) (v : Value) (t : TypeId) : CBlk (w.alloc (.cells #[v] t)) w.heap.size v t := heap_alloc_new w _
theorem CBlk.lt (k : CBlk w g v t) : g < w.heap.size := (Array.getElem?_eq_some_iff.1 k).1
theorem CBlk.next (k : CBlk w g v t) (hb : Below w.heap.size w w') : CBlk w' g v t := (hb.block g k.lt).trans k
theorem CBlk.cell (k : CBlk w g v t) : w.cell? ⟨g, 0, none⟩ = some v := by unfold CBlk at k; simp [World.cell?, k]
theorem CBlk.free (k : CBlk w g v t) : w.frozen? ⟨g, 0, none⟩ = false := by unfold CBlk at k; simp [World.frozen?, k]
theorem CBlk.grown (k : CBlk w b v t) (hg : w.grownBy w' (some g)) (hne : b ≠ g) : CBlk w' b v t := (hg.block b k.lt (by simpa using hne)).trans k
theorem CBlk.put (k : CBlk w g v t) (u : Value) : CBlk (w.setCell ⟨g, 0, none⟩ u) g u t := Go.Joins.block_setCell (i := 0) k u
/-- One's own slice stays when a block of another type is written. -/
theorem Ows.offC {B : Nat} {E : TypeId} {s : Nat} {A : Option Addr} {n c : Nat} {xs : List Value} (h : Ows w B E s A n c xs) (k : CBlk w g v t) (hne : E ≠ t) (u : Value) : Ows (w.setCell ⟨g, 0, none⟩ u) B E s A n c xs :=
  h.grown (grown_set w g 0 u) fun q hq e => by
    subst e
    rcases h.2 with ⟨hv, _⟩ | ⟨b1, cap, cur, hv, _, hh, _⟩
    · rw [hv] at hq; cases hq
    · rw [hv] at hq
      injection hq with hq
      have e1 : b1 = q := hq
      subst e1
      unfold CBlk at k
      rw [k] at hh
      injection hh with hh
      injection hh with _ h2
      exact hne h2.symm
end
theorem Dow.offC {w : World} {g B : Nat} {v : Value} {t : TypeId} {A : Option Addr} {n c : Nat} {xs : List (Dsc × Hd)} (h : Dow w B A n c xs) (k : CBlk w g v t) (h1 : 27 ≠ t) (h2 : 49 ≠ t) (u : Value) : Dow (w.setCell ⟨g, 0, none⟩ u) B A n c xs := ⟨h.ow.offC k h1 u, fun x hx => (h.fo x hx).offC k h2 u⟩
theorem DBlk.put0 {w : World} {g : Nat} {d : Dsc} {h : Hd} (k : DBlk w g d h) (v : Int) : DBlk (w.setCell ⟨g, 0, none⟩ (.int .u8 v)) g (v, d.2) h := Go.Joins.block_setCell (i := 0) k (.int .u8 v)
theorem DBlk.rewrote {w : World} {g : Nat} {d : Dsc} {h : Hd} (k : DBlk w g d h) (e : Dsc) (h2 : Hd) : DBlk ((((w.setCell ⟨g, 0, none⟩ (.int .u8 e.1)).setCell ⟨g, 1, none⟩ (.int .u16 e.2.1)).setCell ⟨g, 2, none⟩ (.int .u8 e.2.2.1)).setCell ⟨g, 3, none⟩ (.slice h2.1 h2.2.1 h2.2.2)) g e h2 := (((k.put0 e.1).put1 e.2.1).put2 e.2.2.1).put3 h2
theorem grown_twice {w w1 w2 : World} {g : Nat} (h1 : w.grownBy w1 (some g)) (h2 : w1.grownBy w2 (some g)) : w.grownBy w2 (some g) := ⟨h2.os.trans h1.os, h2.tape.trans h1.tape, h2.output.trans h1.output, Nat.le_trans h1.size h2.size, fun k hk hne => (h2.block k (Nat.lt_of_lt_of_le hk h1.size) hne).trans (h1.block k hk hne)⟩
theorem grown_cells4 (w : World) (g : Nat) (u0 u1 u2 u3 : Value) : w.grownBy ((((w.setCell ⟨g, 0, none⟩ u0).setCell ⟨g, 1, none⟩ u1).setCell ⟨g, 2, none⟩ u2).setCell ⟨g, 3, none⟩ u3) (some g) := grown_twice (grown_twice (grown_twice (grown_set _ _ _ _) (grown_set _ _ _ _)) (grown_set _ _ _ _)) (grown_set _ _ _ _)
def nwW (w : World) (x y : Dsc) (hx hy : Hd) (self : Int) : World := ((w.alloc (.cells #[.int .u8 x.1, .int .u16 x.2.1, .int .u8 x.2.2.1, .slice hx.1 hx.2.1 hx.2.2] 27)).alloc (.cells #[.int .u8 y.1, .int .u16 y.2.1, .int .u8 y.2.2.1, .slice hy.1 hy.2.1 hy.2.2] 27)).alloc (.cells #[.int .u8 self] 5)
theorem nwboxes (w : World) (x y : Dsc) (hx hy : Hd) (self : Int) : Hid (DBlk (nwW w x y hx hy self) w.heap.size x hx) ∧ Hid (DBlk (nwW w x y hx hy self) (w.heap.size + 1) y hy) ∧ Hid (CBlk (nwW w x y hx hy self) (w.heap.size + 2) (.int .u8 self) 5) ∧ Hid (Below w.heap.size w (nwW w x y hx hy self)) := by
  obtain ⟨a, b, c⟩ := dboxes2 w (x, hx) (y, hy)
  unfold Hid nwW
  refine ⟨DBlk.next a.out (below_lit _ _), DBlk.next b.out (below_lit _ _), ?_, thn c.out (below_lit _ _)⟩
  have := CBlk.new ((w.alloc (.cells #[.int .u8 x.1, .int .u16 x.2.1, .int .u8 x.2.2.1, .slice hx.1 hx.2.1 hx.2.2] 27)).alloc (.cells #[.int .u8 y.1, .int .u16 y.2.1, .int .u8 y.2.2.1, .slice hy.1 hy.2.1 hy.2.2] 27)) (.int .u8 self) 5
  simpa using this
/-- The view that the law makes. -/
def tyVw (xs : List (Dsc × Hd)) (self : Int) : Ty := .pred (fun v u => ∃ (A : Option Addr) (n c : Nat) (zs : List (Dsc × Hd)), v = .slice A n c ∧ ViewX xs zs self 20 256 ∧ Sds u A n c zs) (fun _ _ _ ⟨A, n, c, zs, h1, h2, h3⟩ hb => ⟨A, n, c, zs, h1, h2, h3.next hb⟩)
/-- .. without a node. -/
def tyVd (xs : List (Dsc × Hd)) (self node : Int) (B : Nat) : Ty := .pred (fun v u => ∃ (A : Option Addr) (n c : Nat) (os zs : List (Dsc × Hd)), v = .slice A n c ∧ ViewX xs zs self 20 256 ∧ os.map (·.1) = dropD (zs.map (·.1)) node ∧ Dow u B A n c os) (fun _ _ _ ⟨A, n, c, os, zs, h1, h2, h3, h4⟩ hb => ⟨A, n, c, os, zs, h1, h2, h3, h4.below hb⟩)
def tyC (v0 : Value) (t : TypeId) (B : Nat) : Ty := .pred (fun v u => ∃ g, v = .pointer (some ⟨g, 0, none⟩) ∧ B ≤ g ∧ CBlk u g v0 t) (fun _ _ _ ⟨g, h1, h2, h3⟩ hb => ⟨g, h1, h2, h3.next hb⟩)
def tyD9 (ds : List Dsc) : Ty := .pred (fun v u => ∃ (A : Option Addr) (n c : Nat) (xs : List (Dsc × Hd)), v = .slice A n c ∧ xs.map (·.1) = ds ∧ Sds u A n c xs) (fun _ _ _ ⟨A, n, c, xs, h1, h2, h3⟩ hb => ⟨A, n, c, xs, h1, h2, h3.next hb⟩)
/-- What the two orders come to. -/
structure Two (ds : List Dsc) (X Y Z : Dsc) (me : Int) (P : List Dsc) : Prop where
  one : putD (putD ds X me 30) Y me 30 = P
  two : putD (putD ds Y me 30) X me 30 = P
  right : RightD P me 30
  at_ : ∃ k : Nat, findI P X.1 = k ∧ k < P.length ∧ P[k]? = some Z
  againX : refuseD P X me 30 = true
  againY : refuseD P Y me 30 = true
theorem Two.fit {ds P : List Dsc} {X Y Z : Dsc} {me : Int} (h : Two ds X Y Z me P) (hr : RightD ds me 20) (hX : Fit1 X) (hY : Fit1 Y) (hd : ∀ d ∈ ds, Fit1 d) : ∀ d ∈ P, Fit1 d := fun d hd2 => by
  rw [← h.one] at hd2
  have hr3 := hr.wider (r2 := 30) (by omega)
  rcases put_mem (right_put hr3 X) hd2 with rfl | h2
  · exact hY
  · rcases put_mem hr3 h2 with rfl | h2
    · exact hX
    · exact hd d h2
theorem two_of {ds : List Dsc} {X Y : Dsc} {self : Int} (hr : RightD ds self 20) (hn : findI ds X.1 < 0) (hab : Y.1 = X.1) (ha : X.1 ≠ self) (hx : X.2.1 ≠ 0) (hy : Y.2.1 ≠ 0) (hne : ¬ (X.2.1 = Y.2.1 ∧ X.2.2.1 = Y.2.2.1)) {Z : Dsc} (hZ : Z = if newerD Y X then Y else X) : Two ds X Y Z self (insL ds Z) := by
  have hr3 := hr.wider (r2 := 30) (by omega)
  have hl : (ds.length : Int) < 30 := by have := hr.2.2.2; omega
  have hn2 : findI ds Y.1 < 0 := by rw [hab]; exact hn
  have h1 := put_two hr3 hab ha hx hy hn hl
  have h2 := put_two hr3 hab.symm (by rw [hab]; exact ha) hy hx hn2 hl
  have hanti := newer_anti hne
  have hanti2 : newerD X Y = !newerD Y X := by rw [hanti]; simp
  have hP : putD (putD ds X self 30) Y self 30 = insL ds Z := by
    rw [h1, hZ]; split <;> rfl
  have hR : RightD (insL ds Z) self 30 := by rw [← hP]; exact right_put (right_put hr3 X) Y
  have hZ1 : Z.1 = X.1 := by rw [hZ]; split; exact hab; rfl
  obtain ⟨t0, t1, t2⟩ := ins_there (c := Z) hr.2.1
  rw [hZ1] at t0 t1 t2
  refine ⟨hP, ?_, hR, ⟨(findI (insL ds Z) X.1).toNat, by omega, by omega, t2⟩, ?_, ?_⟩
  · rw [h2, hanti2, hZ]; cases newerD Y X <;> rfl
  · refine put_again hr3 hZ1.symm (by rw [hZ1]; exact ha) hx ?_ hR
    rw [hZ]; cases h : newerD Y X
    · exact newer_irrefl X
    · show newerD X Y = false
      rw [hanti2, h]; rfl
  · refine put_again hr3 (hab.trans hZ1.symm) (by rw [hZ1]; exact ha) hy ?_ hR
    rw [hZ]; cases h : newerD Y X
    · exact h
    · exact newer_irrefl Y
set_option maxRecDepth 100000 in
set_option maxHeartbeats 40000000 in
theorem newer_walk (HD : DescOK) (A : Option Addr) (n c : Nat) (xs : List (Dsc × Hd)) (x : Dsc) (hx : Hd) (y : Dsc) (hy : Hd) (self : Int) (w : World) (h : Sds w A n c xs) (fx : Fl w (x, hx)) (fy : Fl w (y, hy)) (hR : ∀ x ∈ xs, dscR x.1) (rx : dscR x) (ry : dscR y) (hs : byt self) : Calls Try.prog 5 #[.slice A n c, (.agg #[.int .u8 x.1, .int .u16 x.2.1, .int .u8 x.2.2.1, .slice hx.1 hx.2.1 hx.2.2]), (.agg #[.int .u8 y.1, .int .u16 y.2.1, .int .u8 y.2.2.1, .slice hy.1 hy.2.1 hy.2.2]), .int .u8 self] w fun e w' => e = .returned (.bool true) ∧ Below w.heap.size w w' := by
  have HDD := Lib.hid HD
  have HL := Lib.hid h.len
  have HR := Lib.hid hR
  have HSF := Lib.hid hs
  have HRX := Lib.hid rx
  have HRY := Lib.hid ry
  have HLX : Hid (hx.2.1 = x.2.2.2.length) := sp_len fx
  have HLY : Hid (hy.2.1 = y.2.2.2.length) := sp_len fy
  obtain ⟨KX, KY, KS, B⟩ := nwboxes w x y hx hy self
  have HS := Lib.hid h
  have FX : Hid (Fl w (x, hx)) := fx
  have FY : Hid (Fl w (y, hy)) := fy
  obtain ⟨f, HFW⟩ : ∃ f, Hid (fewB (xs.map (·.1)) = f) := ⟨_, rfl⟩
  have eg : ∀ args w, (callFunc 29 args).run Try.prog w = .ok (.enter 29 args) w := enters_of Try.func29 (by kernel_rfl) rfl
  clear h fx fy hR rx ry HD hs
  go_enter Try.func5, Try.ntmps5
  go_upto_region 1 with fail
  unfold nwW at KX KY KS B
  generalize ((w.alloc (.cells #[.int .u8 x.1, .int .u16 x.2.1, .int .u8 x.2.2.1, .slice hx.1 hx.2.1 hx.2.2] 27)).alloc (.cells #[.int .u8 y.1, .int .u16 y.2.1, .int .u8 y.2.2.1, .slice hy.1 hy.2.1 hy.2.2] 27)).alloc (.cells #[.int .u8 self] 5) = w1 at *
  obtain ⟨g5, hg5⟩ : ∃ g, w.heap.size = g := ⟨_, rfl⟩
  obtain ⟨g6, hg6⟩ : ∃ g, w.heap.size + 1 = g := ⟨_, rfl⟩
  obtain ⟨g7, hg7⟩ : ∃ g, w.heap.size + 2 = g := ⟨_, rfl⟩
  have L5 : Hid (w.heap.size ≤ g5) := by unfold Hid; omega
  have L6 : Hid (w.heap.size ≤ g6) := by unfold Hid; omega
  rw [hg7] at KS ⊢
  rw [hg6] at KY ⊢
  rw [hg5] at KX ⊢
  have n56 : g5 ≠ g6 := by omega
  have n65 : g6 ≠ g5 := by omega
  have n57 : g5 ≠ g7 := by omega
  have n75 : g7 ≠ g5 := by omega
  have n67 : g6 ≠ g7 := by omega
  have n76 : g7 ≠ g6 := by omega
  clear hg5 hg6 hg7
  obtain ⟨x0, x1, x2, x3⟩ := KX.out.cells
  obtain ⟨y0, y1, y2, y3⟩ := KY.out.cells
  have s0 := KS.out.cell
  go_wp2_with fail
  have hc := few_any A n c xs w1 (HS.out.next B.out)
  rw [HFW.out] at hc
  refine hc.mono ?_
  clear hc
  rintro e w2 ⟨rfl, b5⟩
  clear x0 x1 x2 x3 y0 y1 y2 y3 s0
  replace KX := Lib.hid (KX.out.next b5)
  replace KY := Lib.hid (KY.out.next b5)
  replace KS := Lib.hid (KS.out.next b5)
  replace B := Lib.hid (thn B.out b5)
  clear b5
  cases f
  · skip
    obtain ⟨x0, x1, x2, x3⟩ := KX.out.cells
    obtain ⟨y0, y1, y2, y3⟩ := KY.out.cells
    have s0 := KS.out.cell
    go_wp2_with fail
    refine (awake_any HDD.out w2).mono ?_
    rintro e w3 ⟨rfl, b5⟩
    replace B := Lib.hid (thn B.out b5)
    clear b5
    go_wp2
    go_ret
    exact ⟨rfl, B.out⟩
  · skip
    have HFX := Lib.hid (few_fit HFW.out HL.out HR.out)
    by_cases lx : (8 : Int) < (hx.2.1 : Int)
    · skip
      obtain ⟨x0, x1, x2, x3⟩ := KX.out.cells
      obtain ⟨y0, y1, y2, y3⟩ := KY.out.cells
      have s0 := KS.out.cell
      go_wp2_with fail
      refine (awake_any HDD.out w2).mono ?_
      rintro e w3 ⟨rfl, b5⟩
      replace B := Lib.hid (thn B.out b5)
      clear b5
      go_wp2
      go_ret
      exact ⟨rfl, B.out⟩
    · skip
      by_cases ly : (8 : Int) < (hy.2.1 : Int)
      · skip
        obtain ⟨x0, x1, x2, x3⟩ := KX.out.cells
        obtain ⟨y0, y1, y2, y3⟩ := KY.out.cells
        have s0 := KS.out.cell
        go_wp2_with fail
        refine (awake_any HDD.out w2).mono ?_
        rintro e w3 ⟨rfl, b5⟩
        replace B := Lib.hid (thn B.out b5)
        clear b5
        go_wp2
        go_ret
        exact ⟨rfl, B.out⟩
      · skip
        obtain ⟨ma, hma⟩ : ∃ m, (if x.2.1 < 1 then 1 else x.2.1) = m := ⟨_, rfl⟩
        obtain ⟨mb, hmb⟩ : ∃ m, (if y.2.1 < 1 then 1 else y.2.1) = m := ⟨_, rfl⟩
        have H1X : Hid (Fit1 (x.1, ma, x.2.2)) := by have := HLX.out; have h2 := HRX.out; refine ⟨⟨h2.1, ?_, h2.2.2⟩, ?_⟩; (show 0 ≤ ma ∧ ma ≤ 65535; have h3 := h2.2.1; rw [← hma]; split <;> omega); (show x.2.2.2.length ≤ 1000; omega)
        have H1Y : Hid (Fit1 (x.1, mb, y.2.2)) := by have := HLY.out; have h2 := HRY.out; refine ⟨⟨HRX.out.1, ?_, h2.2.2⟩, ?_⟩; (show 0 ≤ mb ∧ mb ≤ 65535; have h3 := h2.2.1; rw [← hmb]; split <;> omega); (show y.2.2.2.length ≤ 1000; omega)
        have HA0 : Hid (ma ≠ 0) := by have h2 := HRX.out.2.1; unfold Hid; rw [← hma]; split <;> omega
        have HB0 : Hid (mb ≠ 0) := by have h2 := HRY.out.2.1; unfold Hid; rw [← hmb]; split <;> omega
        obtain ⟨x0, x1, x2, x3⟩ := KX.out.cells
        obtain ⟨y0, y1, y2, y3⟩ := KY.out.cells
        have s0 := KS.out.cell
        have fx1 := KX.out.free 1
        have fy0 := KY.out.free 0
        have fy1 := KY.out.free 1
        go_upto_region 3 with fail
        go_region
        clear fx1 fy0 fy1
        clear x0 x1 x2 x3 y0 y1 y2 y3 s0
        obtain ⟨X, hX⟩ : ∃ X : Dsc, X = (x.1, ma, x.2.2) := ⟨_, rfl⟩
        obtain ⟨Y, hY⟩ : ∃ Y : Dsc, Y = (x.1, mb, y.2.2) := ⟨_, rfl⟩
        have KX3 : Hid (DBlk ((((w2.setCell ⟨g6, 0, none⟩ (.int .u8 x.1)).setCell ⟨g5, 1, none⟩ (.int .u16 ma)).setCell ⟨g6, 1, none⟩ (.int .u16 mb)).drew) g5 X hx) := show DBlk (((w2.setCell ⟨g6, 0, none⟩ (.int .u8 x.1)).setCell ⟨g5, 1, none⟩ (.int .u16 ma)).setCell ⟨g6, 1, none⟩ (.int .u16 mb)) g5 X hx from by rw [hX]; exact ((KX.out.grown (grown_set _ g6 0 _) n56).put1 ma).grown (grown_set _ g6 1 _) n56
        have KY3 : Hid (DBlk ((((w2.setCell ⟨g6, 0, none⟩ (.int .u8 x.1)).setCell ⟨g5, 1, none⟩ (.int .u16 ma)).setCell ⟨g6, 1, none⟩ (.int .u16 mb)).drew) g6 Y hy) := show DBlk (((w2.setCell ⟨g6, 0, none⟩ (.int .u8 x.1)).setCell ⟨g5, 1, none⟩ (.int .u16 ma)).setCell ⟨g6, 1, none⟩ (.int .u16 mb)) g6 Y hy from by rw [hY]; exact ((KY.out.put0 x.1).grown (grown_set _ g5 1 _) n65).put1 mb
        have KS3 : Hid (CBlk ((((w2.setCell ⟨g6, 0, none⟩ (.int .u8 x.1)).setCell ⟨g5, 1, none⟩ (.int .u16 ma)).setCell ⟨g6, 1, none⟩ (.int .u16 mb)).drew) g7 (.int .u8 self) 5) := show CBlk (((w2.setCell ⟨g6, 0, none⟩ (.int .u8 x.1)).setCell ⟨g5, 1, none⟩ (.int .u16 ma)).setCell ⟨g6, 1, none⟩ (.int .u16 mb)) g7 (.int .u8 self) 5 from ((KS.out.grown (grown_set _ g6 0 _) n76).grown (grown_set _ g5 1 _) n75).grown (grown_set _ g6 1 _) n76
        have B3 : Hid (Below w.heap.size w ((((w2.setCell ⟨g6, 0, none⟩ (.int .u8 x.1)).setCell ⟨g5, 1, none⟩ (.int .u16 ma)).setCell ⟨g6, 1, none⟩ (.int .u16 mb)).drew)) := dN (((B.out.setCell (p := ⟨g6, 0, none⟩) L6.out _).setCell (p := ⟨g5, 1, none⟩) L5.out _).setCell (p := ⟨g6, 1, none⟩) L6.out _) 1
        clear KX KY KS B
        generalize (((w2.setCell ⟨g6, 0, none⟩ (.int .u8 x.1)).setCell ⟨g5, 1, none⟩ (.int .u16 ma)).setCell ⟨g6, 1, none⟩ (.int .u16 mb)).drew = w3 at *
        have KX := KX3
        have KY := KY3
        have KS := KS3
        have B := B3
        clear KX3 KY3 KS3 B3
        replace FX : Hid (Fl w (X, hx)) := by rw [hX]; exact FX.out
        replace FY : Hid (Fl w (Y, hy)) := by rw [hY]; exact FY.out
        rw [← hX] at H1X
        rw [← hY] at H1Y
        replace HA0 : Hid (X.2.1 ≠ 0) := by rw [hX]; exact HA0.out
        replace HB0 : Hid (Y.2.1 ≠ 0) := by rw [hY]; exact HB0.out
        have HXY : Hid (Y.1 = X.1) := by rw [hX, hY]; rfl
        have HXB : Hid (byt X.1) := by rw [hX]; exact HRX.out.1
        clear hX hY
        by_cases e1 : X.1 = self
        · skip
          have eb : (X.1 == self) = true := by simpa using e1
          clear e1
          obtain ⟨x0, x1, x2, x3⟩ := KX.out.cells
          obtain ⟨y0, y1, y2, y3⟩ := KY.out.cells
          have s0 := KS.out.cell
          go_wp2_with fail
          refine (awake_any HDD.out w3).mono ?_
          rintro e w4 ⟨rfl, b5⟩
          replace B := Lib.hid (thn B.out b5)
          clear b5
          go_wp2
          go_ret
          exact ⟨rfl, B.out⟩
        · skip
          have eb : (X.1 == self) = false := by simpa using e1
          have HNS := Lib.hid e1
          clear e1
          rcases Int.lt_trichotomy X.2.1 Y.2.1 with e2 | e2 | e2
          · as_aux_lemma =>
              have HNE : Hid (¬ (X.2.1 = Y.2.1 ∧ X.2.2.1 = Y.2.2.1)) := by unfold Hid; omega
              have HNV : Hid (newerD Y X = true) := by unfold Hid newerD; rw [if_neg (by omega), decide_eq_true e2]
              have e2b : (X.2.1 == Y.2.1) = false := by simp; omega
              obtain ⟨x0, x1, x2, x3⟩ := KX.out.cells
              obtain ⟨y0, y1, y2, y3⟩ := KY.out.cells
              have s0 := KS.out.cell
              go_upto_region 6 with fail
              clear x0 x1 x2 x3 y0 y1 y2 y3 s0
              have HB3 : Hid (w.heap.size ≤ w3.heap.size) := B.out.size
              have HL5 : Hid (g5 < w3.heap.size) := KX.out.lt
              have HL6 : Hid (g6 < w3.heap.size) := KY.out.lt
              have HL7 : Hid (g7 < w3.heap.size) := KS.out.lt
              refine wp_region_typed 7 [(65, .val (.slice A n c)), (66, .val (.int .u8 self)), (67, tyVw xs self), (68, .val (.pointer (some ⟨g5, 0, none⟩))), (69, .val (.int .u8 X.1)), (70, tyVd xs self X.1 w.heap.size), (9, tyC (.slice none 0 0) 22 w3.heap.size)]
                [[], [], [65, 66], [], [68], [67, 69], []] (by kernel_rfl) (by kernel_rfl) ?_ ?_
              rotate_left
              · intro v4 hb
                simp only [List.take_succ_cons, List.take_zero, List.drop_succ_cons, List.drop_zero]
                refine over_ds (ds := [65, 66, 67, 68, 69, 70, 9]) (by kernel_rfl) ?_
                refine over_some (ds1 := [65, 66]) (ds2 := [67, 68, 69, 70, 9]) [(.slice A n c), (.int .u8 self)] (by kernel_rfl) ?_
                refine over_pred rfl ?_
                rintro _ ⟨A67, n67, c67, z67, rfl, v67, s67⟩
                refine over_some (ds1 := [68, 69]) (ds2 := [70, 9]) [(.pointer (some ⟨g5, 0, none⟩)), (.int .u8 X.1)] (by kernel_rfl) ?_
                refine over_pred rfl ?_
                rintro _ ⟨A70, n70, c70, o70, zv, rfl, v70, m70, d70⟩
                refine over_pred rfl ?_
                rintro _ ⟨g9, rfl, b9, k9⟩
                refine over_nil ?_
                simp only [putAll, put_lit, List.set_cons_succ, List.set_cons_zero]
                replace KX := Lib.hid (KX.out.next hb)
                replace KY := Lib.hid (KY.out.next hb)
                replace KS := Lib.hid (KS.out.next hb)
                replace B := Lib.hid (thn B.out hb)
                clear hb
                as_aux_lemma =>
                  have K9 := Lib.hid k9
                  have K9 := Lib.hid k9
                  have V70 := Lib.hid v70
                  have M70 := Lib.hid m70
                  have D70 := Lib.hid d70
                  have L9 : Hid (w.heap.size ≤ g9) := Nat.le_trans HB3.out b9
                  have n95 : g9 ≠ g5 := by have := HL5.out; omega
                  have n96 : g9 ≠ g6 := by have := HL6.out; omega
                  have n97 : g9 ≠ g7 := by have := HL7.out; omega
                  have n59 : g5 ≠ g9 := n95.symm
                  have n69 : g6 ≠ g9 := n96.symm
                  have n79 : g7 ≠ g9 := n97.symm
                  clear k9 v70 m70 d70 v67 s67 b9
                  have c9 := K9.out.cell
                  have f9 := K9.out.free
                  go_upto_region 8 with fail
                  have hgs := grown_set v4 g9 0 (.slice A70 n70 c70)
                  replace KX := Lib.hid (KX.out.grown hgs n59)
                  replace KY := Lib.hid (KY.out.grown hgs n69)
                  replace KS := Lib.hid (KS.out.grown hgs n79)
                  replace B := Lib.hid (belowG B.out hgs B.out.size L9.out)
                  replace D70 := Lib.hid (D70.out.offC K9.out (by decide) (by decide) (.slice A70 n70 c70))
                  replace K9 := Lib.hid (K9.out.put (.slice A70 n70 c70))
                  clear hgs c9 f9
                  generalize v4.setCell ⟨g9, 0, none⟩ (.slice A70 n70 c70) = u5 at *
                  have SO := Lib.hid D70.out.sds
                  clear D70
                  have HRO : Hid (RightD (o70.map (·.1)) self 20) := by unfold Hid; rw [M70.out]; exact right_drop V70.out.right X.1
                  have HFO : Hid (Fit n70 o70) := fit_of M70.out (by have h1 := HRO.out.2.2.2; rw [List.length_map] at h1; have := SO.out.len; omega) fun d hd => by obtain ⟨z, hz, rfl⟩ := List.mem_map.1 (dropD_mem.1 hd).1; exact V70.out.well HFX.out.all z hz
                  have HNF : Hid (findI (o70.map (·.1)) X.1 < 0) := by unfold Hid; rw [M70.out, find_drop]; decide
                  obtain ⟨PD, hPD⟩ : ∃ PD, PD = insL (o70.map (·.1)) Y := ⟨_, rfl⟩
                  have HTW : Hid (Two (o70.map (·.1)) X Y Y self PD) := by rw [hPD]; exact two_of HRO.out HNF.out HXY.out HNS.out HA0.out HB0.out HNE.out (by rw [HNV.out]; rfl)
                  have HFPD : Hid (∀ d ∈ PD, Fit1 d) := HTW.out.fit HRO.out H1X.out H1Y.out fun d hd => by obtain ⟨z, hz, rfl⟩ := List.mem_map.1 hd; exact HFO.out.all z hz
                  clear hPD V70 M70 HB3 HL5 HL6 HL7
                  refine wp_region_typed 8 [(72, .val (.func (.func 29) #[] #[.pointer (some ⟨g9, 0, none⟩), .pointer (some ⟨g7, 0, none⟩)])), (73, .val (.agg #[.int .u8 X.1, .int .u16 X.2.1, .int .u8 X.2.2.1, .slice hx.1 hx.2.1 hx.2.2])), (74, .val (.agg #[.int .u8 Y.1, .int .u16 Y.2.1, .int .u8 Y.2.2.1, .slice hy.1 hy.2.1 hy.2.2])), (75, tyD9 PD), (76, .val (.func (.func 29) #[] #[.pointer (some ⟨g9, 0, none⟩), .pointer (some ⟨g7, 0, none⟩)])), (77, .val (.agg #[.int .u8 Y.1, .int .u16 Y.2.1, .int .u8 Y.2.2.1, .slice hy.1 hy.2.1 hy.2.2])), (78, .val (.agg #[.int .u8 X.1, .int .u16 X.2.1, .int .u8 X.2.2.1, .slice hx.1 hx.2.1 hx.2.2])), (79, tyD9 PD)]
                    [[], [], [], [72, 73, 74], [], [], [], [76, 77, 78]] (by kernel_rfl) (by kernel_rfl) ?_ ?_
                  rotate_left
                  · intro v6 hb
                    simp only [List.take_succ_cons, List.take_zero, List.drop_succ_cons, List.drop_zero]
                    refine over_ds (ds := [72, 73, 74, 75, 76, 77, 78, 79]) (by kernel_rfl) ?_
                    refine over_some (ds1 := [72, 73, 74]) (ds2 := [75, 76, 77, 78, 79]) [(.func (.func 29) #[] #[.pointer (some ⟨g9, 0, none⟩), .pointer (some ⟨g7, 0, none⟩)]), (.agg #[.int .u8 X.1, .int .u16 X.2.1, .int .u8 X.2.2.1, .slice hx.1 hx.2.1 hx.2.2]), (.agg #[.int .u8 Y.1, .int .u16 Y.2.1, .int .u8 Y.2.2.1, .slice hy.1 hy.2.1 hy.2.2])] (by kernel_rfl) ?_
                    refine over_pred rfl ?_
                    rintro _ ⟨A75, n75, c75, p75, rfl, m75, s75⟩
                    refine over_some (ds1 := [76, 77, 78]) (ds2 := [79]) [(.func (.func 29) #[] #[.pointer (some ⟨g9, 0, none⟩), .pointer (some ⟨g7, 0, none⟩)]), (.agg #[.int .u8 Y.1, .int .u16 Y.2.1, .int .u8 Y.2.2.1, .slice hy.1 hy.2.1 hy.2.2]), (.agg #[.int .u8 X.1, .int .u16 X.2.1, .int .u8 X.2.2.1, .slice hx.1 hx.2.1 hx.2.2])] (by kernel_rfl) ?_
                    refine over_pred rfl ?_
                    rintro _ ⟨A79, n79, c79, p79, rfl, m79, s79⟩
                    refine over_nil ?_
                    simp only [putAll, put_lit, List.set_cons_succ, List.set_cons_zero]
                    replace KX := Lib.hid (KX.out.next hb)
                    replace KY := Lib.hid (KY.out.next hb)
                    replace KS := Lib.hid (KS.out.next hb)
                    replace K9 := Lib.hid (K9.out.next hb)
                    replace SO := Lib.hid (SO.out.next hb)
                    replace B := Lib.hid (thn B.out hb)
                    clear hb
                    as_aux_lemma =>
                      have SP := Lib.hid s75
                      have MP := Lib.hid m75
                      have SQ := Lib.hid s79
                      have MQ := Lib.hid m79
                      clear s75 m75 s79 m79
                      clear K9 SO HFO HRO HNF
                      obtain ⟨kk, hk1, hk2, hk3⟩ := HTW.out.at_
                      have HLP := Lib.hid SP.out.len
                      have HRP : Hid (RightD (p75.map (·.1)) self 30) := by unfold Hid; rw [MP.out]; exact HTW.out.right
                      have HFP : Hid (Fit n75 p75) := fit_of MP.out (by have h1 := HRP.out.2.2.2; rw [List.length_map] at h1; have := HLP.out; omega) HFPD.out
                      have hkn : kk < n75 := by have h1 := congrArg List.length MP.out; rw [List.length_map] at h1; rw [HLP.out, h1]; exact hk2
                      obtain ⟨bp, op, zp, rfl, hzp, _, HCZ⟩ := SP.out.cells hkn
                      have HZP : Hid (zp.1 = Y) := by have h1 := congrArg (fun l : List Dsc => l[kk]?) MP.out; simp only [List.getElem?_map, hzp, hk3, Option.map_some] at h1; exact Option.some.inj h1
                      have FZP := Lib.hid (SP.out.fl zp (List.mem_of_getElem? hzp))
                      have HK1 : Hid (findI (p75.map (·.1)) X.1 = (kk : Int)) := by unfold Hid; rw [MP.out]; exact hk1
                      clear hzp hk1 hk2 hk3
                      have k0 : (0 : Int) ≤ (kk : Int) := by omega
                      have k1 : (kk : Int) < (n75 : Int) := by omega
                      have k2 : ¬ ((kk : Int) < 0) := by omega
                      have k3 : ¬ ((n75 : Int) ≤ (kk : Int)) := by omega
                      have hmp := SP.out.max
                      have hcp := SP.out.cap
                      unfold maxLen at hmp
                      obtain ⟨x0, x1, x2, x3⟩ := KX.out.cells
                      obtain ⟨y0, y1, y2, y3⟩ := KY.out.cells
                      have s0 := KS.out.cell
                      go_wp2_with fail
                      have hc := HDD.out.find (some ⟨bp, op, none⟩) n75 c75 p75 X.1 v6 SP.out HFP.out ⟨self, 30, HRP.out⟩ HXB.out
                      rw [HK1.out] at hc
                      refine hc.mono ?_
                      clear hc
                      rintro e w7 ⟨rfl, b5⟩
                      clear x0 x1 x2 x3 y0 y1 y2 y3 s0
                      replace KX := Lib.hid (KX.out.next b5)
                      replace KY := Lib.hid (KY.out.next b5)
                      replace KS := Lib.hid (KS.out.next b5)
                      replace SP := Lib.hid (SP.out.next b5)
                      replace SQ := Lib.hid (SQ.out.next b5)
                      replace B := Lib.hid (thn B.out b5)
                      clear b5
                      clear HCZ
                      obtain ⟨x0, x1, x2, x3⟩ := KX.out.cells
                      obtain ⟨y0, y1, y2, y3⟩ := KY.out.cells
                      have s0 := KS.out.cell
                      go_wp2_with fail
                      have hc := descs_any (some ⟨bp, op, none⟩) n75 c75 p75 A79 n79 c79 p79 w7 SP.out SQ.out
                      rw [show decide (p75.map (·.1) = p79.map (·.1)) = true from decide_eq_true (MP.out.trans MQ.out.symm)] at hc
                      refine hc.mono ?_
                      clear hc
                      rintro e w8 ⟨rfl, b5⟩
                      clear x0 x1 x2 x3 y0 y1 y2 y3 s0
                      replace KX := Lib.hid (KX.out.next b5)
                      replace KY := Lib.hid (KY.out.next b5)
                      replace KS := Lib.hid (KS.out.next b5)
                      replace SP := Lib.hid (SP.out.next b5)
                      replace SQ := Lib.hid (SQ.out.next b5)
                      replace B := Lib.hid (thn B.out b5)
                      clear b5
                      obtain ⟨x0, x1, x2, x3⟩ := KX.out.cells
                      obtain ⟨y0, y1, y2, y3⟩ := KY.out.cells
                      have s0 := KS.out.cell
                      go_upto_region 13 with fail
                      clear x0 x1 x2 x3 y0 y1 y2 y3 s0
                      as_aux_lemma =>
                        have BU : Hid (Below w8.heap.size w8 (w8.alloc (.cells #[.int .u8 X.1, .int .u16 X.2.1, .int .u8 X.2.2.1, .slice hx.1 hx.2.1 hx.2.2] 27))) := below_lit w8 (.cells #[.int .u8 X.1, .int .u16 X.2.1, .int .u8 X.2.2.1, .slice hx.1 hx.2.1 hx.2.2] 27)
                        have KW : Hid (DBlk (w8.alloc (.cells #[.int .u8 X.1, .int .u16 X.2.1, .int .u8 X.2.2.1, .slice hx.1 hx.2.1 hx.2.2] 27)) w8.heap.size X hx) := DBlk.new w8 X hx
                        generalize w8.alloc (.cells #[.int .u8 X.1, .int .u16 X.2.1, .int .u8 X.2.2.1, .slice hx.1 hx.2.1 hx.2.2] 27) = u9 at *
                        obtain ⟨g14, h14⟩ : ∃ g, w8.heap.size = g := ⟨_, rfl⟩
                        have LU : Hid (w8.heap.size ≤ g14) := Nat.le_of_eq h14
                        rw [h14] at KW ⊢
                        clear h14
                        obtain ⟨x0, x1, x2, x3⟩ := (KX.out.next BU.out).cells
                        obtain ⟨y0, y1, y2, y3⟩ := (KY.out.next BU.out).cells
                        have s0 := (KS.out.next BU.out).cell
                        obtain ⟨v0, v1, v2, v3⟩ := KW.out.cells
                        have fv0 := KW.out.free 0
                        have fv1 := KW.out.free 1
                        have fv2 := KW.out.free 2
                        have fv3 := KW.out.free 3
                        go_upto_region 15 with fail
                        clear x0 x1 x2 x3 y0 y1 y2 y3 s0
                        clear v0 v1 v2 v3 fv0 fv1 fv2 fv3
                        replace BU := Lib.hid (belowG BU.out (grown_cells4 u9 g14 (.int .u8 Y.1) (.int .u16 Y.2.1) (.int .u8 Y.2.2.1) (.slice hy.1 hy.2.1 hy.2.2)) BU.out.size LU.out)
                        replace KW := Lib.hid (KW.out.rewrote Y hy)
                        generalize (((u9.setCell ⟨g14, 0, none⟩ (.int .u8 Y.1)).setCell ⟨g14, 1, none⟩ (.int .u16 Y.2.1)).setCell ⟨g14, 2, none⟩ (.int .u8 Y.2.2.1)).setCell ⟨g14, 3, none⟩ (.slice hy.1 hy.2.1 hy.2.2) = u10 at *
                        replace KX := Lib.hid (KX.out.next BU.out)
                        replace KY := Lib.hid (KY.out.next BU.out)
                        replace KS := Lib.hid (KS.out.next BU.out)
                        replace SP := Lib.hid (SP.out.next BU.out)
                        replace SQ := Lib.hid (SQ.out.next BU.out)
                        replace B := Lib.hid (thn B.out BU.out)
                        clear BU LU
                        as_aux_lemma =>
                          obtain ⟨x0, x1, x2, x3⟩ := KX.out.cells
                          obtain ⟨y0, y1, y2, y3⟩ := KY.out.cells
                          have s0 := KS.out.cell
                          go_wp2_with fail
                          have hc := HDD.out.put (some ⟨bp, op, none⟩) n75 c75 p75 X hx self 30 u10 SP.out HFP.out (Sn.next FX.out B.out) H1X.out HSF.out (by decide) HRP.out
                          rw [put_yes (by rw [MP.out]; exact HTW.out.againX), show refuseD (p75.map (·.1)) X self 30 = true from by rw [MP.out]; exact HTW.out.againX] at hc
                          refine hc.mono ?_
                          clear hc
                          rintro e w11 ⟨A15, n15, c15, q15, rfl, m15, d15, b5⟩
                          clear x0 x1 x2 x3 y0 y1 y2 y3 s0
                          have S15 := Lib.hid d15.sds
                          have M15 := Lib.hid m15
                          clear d15 m15
                          replace KX := Lib.hid (KX.out.next b5)
                          replace KY := Lib.hid (KY.out.next b5)
                          replace KS := Lib.hid (KS.out.next b5)
                          replace SP := Lib.hid (SP.out.next b5)
                          replace SQ := Lib.hid (SQ.out.next b5)
                          replace KW := Lib.hid (KW.out.next b5)
                          replace B := Lib.hid (thn B.out b5)
                          clear b5
                          obtain ⟨x0, x1, x2, x3⟩ := KX.out.cells
                          obtain ⟨y0, y1, y2, y3⟩ := KY.out.cells
                          have s0 := KS.out.cell
                          go_wp2_with fail
                          have hc := HDD.out.put (some ⟨bp, op, none⟩) n75 c75 p75 Y hy self 30 w11 SP.out HFP.out (Sn.next FY.out B.out) H1Y.out HSF.out (by decide) HRP.out
                          rw [put_yes (by rw [MP.out]; exact HTW.out.againY), show refuseD (p75.map (·.1)) Y self 30 = true from by rw [MP.out]; exact HTW.out.againY] at hc
                          refine hc.mono ?_
                          clear hc
                          rintro e w12 ⟨A17, n17, c17, q17, rfl, m17, d17, b5⟩
                          clear x0 x1 x2 x3 y0 y1 y2 y3 s0
                          have S17 := Lib.hid d17.sds
                          have M17 := Lib.hid m17
                          clear d17 m17
                          replace KX := Lib.hid (KX.out.next b5)
                          replace KY := Lib.hid (KY.out.next b5)
                          replace KS := Lib.hid (KS.out.next b5)
                          replace SP := Lib.hid (SP.out.next b5)
                          replace SQ := Lib.hid (SQ.out.next b5)
                          replace KW := Lib.hid (KW.out.next b5)
                          replace S15 := Lib.hid (S15.out.next b5)
                          replace B := Lib.hid (thn B.out b5)
                          clear b5
                          obtain ⟨x0, x1, x2, x3⟩ := KX.out.cells
                          obtain ⟨y0, y1, y2, y3⟩ := KY.out.cells
                          have s0 := KS.out.cell
                          go_upto_region 17 with fail
                          clear x0 x1 x2 x3 y0 y1 y2 y3 s0
                          obtain ⟨b2, o2, z2, hA, hz2, hm2, HCZ⟩ := SP.out.cells hkn
                          injection hA with hA
                          injection hA with e1 e2 e3
                          subst e1 e2
                          clear e3
                          have HZ2 : Hid (z2.1 = Y) := by have h1 := congrArg (fun l : List Dsc => l[kk]?) MP.out; obtain ⟨kq, hq1, hq2, hq3⟩ := HTW.out.at_; have hq : kq = kk := (by have h2 := HK1.out; rw [MP.out] at h2; omega); subst hq; simp only [List.getElem?_map, hz2, hq3, Option.map_some] at h1; exact Option.some.inj h1
                          have FZ2 := Lib.hid (SP.out.fl z2 hm2)
                          have F1Z : Hid (Fit1 z2.1) := HFP.out.all z2 hm2
                          clear hz2 hm2
                          refine wp_region_typed 27 [(133, .val (.slice (some ⟨bp, op, none⟩) n75 c75)), (134, .val (.int .i64 (kk : Int))), (135, .val (.pointer (some ⟨bp, op + kk * 4, none⟩))), (136, .val (.agg #[.int .u8 z2.1.1, .int .u16 z2.1.2.1, .int .u8 z2.1.2.2.1, .slice z2.2.1 z2.2.2.1 z2.2.2.2])), (137, .val (.agg #[.int .u8 Y.1, .int .u16 Y.2.1, .int .u8 Y.2.2.1, .slice hy.1 hy.2.1 hy.2.2])), (138, .val (.bool true)), (139, .val (.bool true)), (140, .val (.bool false)), (141, .val (.bool true)), (142, .val (.bool true)), (143, .val (.bool true)), (144, .val (.bool false)), (145, .val (.bool true)), (146, .val (.bool true)), (147, .val (.bool true)), (148, .val (.slice A15 n15 c15)), (149, .val (.slice (some ⟨bp, op, none⟩) n75 c75)), (150, .val (.bool true)), (151, .val (.bool true)), (152, .val (.bool true)), (153, .val (.slice A17 n17 c17)), (154, .val (.slice (some ⟨bp, op, none⟩) n75 c75)), (155, .val (.bool true)), (156, .val (.bool true)), (157, .val (.bool true)), (158, .val (.bool true)), (159, .val (.bool true))]
                            [[], [], [133, 134], [135], [], [136, 137], [138], [139], [139, 140], [139, 141], [142], [143], [143, 144], [143, 145], [146], [147], [147], [147, 148, 149], [147, 150], [151], [152], [152], [152, 153, 154], [152, 155], [156], [157], [157, 158]] (by kernel_rfl) (by kernel_rfl) ?_ ?_
                          rotate_left
                          · intro v13 hb
                            simp only [List.take_succ_cons, List.take_zero, List.drop_succ_cons, List.drop_zero]
                            refine over_ds (ds := [133, 134, 135, 136, 137, 138, 139, 140, 141, 142, 143, 144, 145, 146, 147, 148, 149, 150, 151, 152, 153, 154, 155, 156, 157, 158, 159]) (by kernel_rfl) ?_
                            refine over_some (ds1 := [133, 134, 135, 136, 137, 138, 139, 140, 141, 142, 143, 144, 145, 146, 147, 148, 149, 150, 151, 152, 153, 154, 155, 156, 157, 158, 159]) (ds2 := []) [(.slice (some ⟨bp, op, none⟩) n75 c75), (.int .i64 (kk : Int)), (.pointer (some ⟨bp, op + kk * 4, none⟩)), (.agg #[.int .u8 z2.1.1, .int .u16 z2.1.2.1, .int .u8 z2.1.2.2.1, .slice z2.2.1 z2.2.2.1 z2.2.2.2]), (.agg #[.int .u8 Y.1, .int .u16 Y.2.1, .int .u8 Y.2.2.1, .slice hy.1 hy.2.1 hy.2.2]), (.bool true), (.bool true), (.bool false), (.bool true), (.bool true), (.bool true), (.bool false), (.bool true), (.bool true), (.bool true), (.slice A15 n15 c15), (.slice (some ⟨bp, op, none⟩) n75 c75), (.bool true), (.bool true), (.bool true), (.slice A17 n17 c17), (.slice (some ⟨bp, op, none⟩) n75 c75), (.bool true), (.bool true), (.bool true), (.bool true), (.bool true)] (by kernel_rfl) ?_
                            refine over_nil ?_
                            simp only [putAll, put_lit, List.set_cons_succ, List.set_cons_zero]
                            replace KX := Lib.hid (KX.out.next hb)
                            replace KY := Lib.hid (KY.out.next hb)
                            replace KS := Lib.hid (KS.out.next hb)
                            replace SP := Lib.hid (SP.out.next hb)
                            replace SQ := Lib.hid (SQ.out.next hb)
                            replace KW := Lib.hid (KW.out.next hb)
                            replace S15 := Lib.hid (S15.out.next hb)
                            replace S17 := Lib.hid (S17.out.next hb)
                            replace B := Lib.hid (thn B.out hb)
                            clear hb
                            go_wp2
                            go_ret
                            exact ⟨rfl, B.out⟩
                          simp only [List.take_succ_cons, List.take_zero]
                          refine ⟨?r17g0, ?r17g1, ?r17g2, ?r17g3, ?r17g4, ?r17g5, ?r17g6, ?r17g7, ?r17g8, ?r17g9, ?r17g10, ?r17g11, ?r17g12, ?r17g13, ?r17g14, ?r17g15, ?r17g16, ?r17g17, ?r17g18, ?r17g19, ?r17g20, ?r17g21, ?r17g22, ?r17g23, ?r17g24, ?r17g25, ?r17g26, trivial⟩
                          case r17g0 => as_aux_lemma =>
                            intro w9 hb
                            refine over_nil ?_
                            go_wp2
                            first | exact post_of (by rfl) (by rfl) (Below.refl _ _) (by rfl) | exact rfl
                          case r17g1 => as_aux_lemma =>
                            intro w9 hb
                            refine over_nil ?_
                            go_wp2
                            first | exact post_of (by rfl) (by rfl) (Below.refl _ _) (by rfl) | exact rfl
                          case r17g2 => as_aux_lemma =>
                            intro w9 hb
                            refine over_some (ds1 := [133, 134]) (ds2 := []) [(.slice (some ⟨bp, op, none⟩) n75 c75), (.int .i64 (kk : Int))] (by kernel_rfl) ?_
                            refine over_nil ?_
                            simp only [putAll, put_lit, List.set_cons_succ, List.set_cons_zero]
                            go_wp2
                            first | exact post_of (by rfl) (by rfl) (Below.refl _ _) (by rfl) | exact rfl
                          case r17g3 => as_aux_lemma =>
                            intro w9 hb
                            refine over_some (ds1 := [135]) (ds2 := []) [(.pointer (some ⟨bp, op + kk * 4, none⟩))] (by kernel_rfl) ?_
                            refine over_nil ?_
                            simp only [putAll, put_lit, List.set_cons_succ, List.set_cons_zero]
                            obtain ⟨p0, q0, r0, s0⟩ := HCZ.out w9 hb
                            go_wp2
                            first | exact post_of (by rfl) (by rfl) (Below.refl _ _) (by rfl) | exact rfl
                          case r17g4 => as_aux_lemma =>
                            intro w9 hb
                            refine over_nil ?_
                            obtain ⟨p0, q0, r0, s0⟩ := (KW.out.next hb).cells
                            go_wp2
                            first | exact post_of (by rfl) (by rfl) (Below.refl _ _) (by rfl) | exact rfl
                          case r17g5 => as_aux_lemma =>
                            intro w9 hb
                            refine over_some (ds1 := [136, 137]) (ds2 := []) [(.agg #[.int .u8 z2.1.1, .int .u16 z2.1.2.1, .int .u8 z2.1.2.2.1, .slice z2.2.1 z2.2.2.1 z2.2.2.2]), (.agg #[.int .u8 Y.1, .int .u16 Y.2.1, .int .u8 Y.2.2.1, .slice hy.1 hy.2.1 hy.2.2])] (by kernel_rfl) ?_
                            refine over_nil ?_
                            simp only [putAll, put_lit, List.set_cons_succ, List.set_cons_zero]
                            go_wp2_with fail
                            have hc2 := HDD.out.same z2 (Y, hy) w9 (Sn.next FZ2.out hb) (Sn.next FY.out (thn B.out hb)) F1Z.out H1Y.out
                            rw [show decide (z2.1 = ((Y, hy) : Dsc × Hd).1) = true from decide_eq_true HZ2.out] at hc2
                            refine hc2.mono ?_
                            clear hc2
                            rintro e w8 ⟨rfl, b6⟩
                            go_wp2
                            exact post_of (by rfl) (by rfl) b6 (by rfl)
                          case r17g6 => as_aux_lemma =>
                            intro w9 hb
                            refine over_some (ds1 := [138]) (ds2 := []) [(.bool true)] (by kernel_rfl) ?_
                            refine over_nil ?_
                            simp only [putAll, put_lit, List.set_cons_succ, List.set_cons_zero]
                            go_wp2
                            first | exact post_of (by rfl) (by rfl) (Below.refl _ _) (by rfl) | exact rfl
                          case r17g7 => as_aux_lemma =>
                            intro w9 hb
                            refine over_some (ds1 := [139]) (ds2 := []) [(.bool true)] (by kernel_rfl) ?_
                            refine over_nil ?_
                            simp only [putAll, put_lit, List.set_cons_succ, List.set_cons_zero]
                            go_wp2
                            first | exact post_of (by rfl) (by rfl) (Below.refl _ _) (by rfl) | exact rfl
                          case r17g8 => as_aux_lemma =>
                            intro w9 hb
                            refine over_some (ds1 := [139, 140]) (ds2 := []) [(.bool true), (.bool false)] (by kernel_rfl) ?_
                            refine over_nil ?_
                            simp only [putAll, put_lit, List.set_cons_succ, List.set_cons_zero]
                            go_wp2
                            first | exact post_of (by rfl) (by rfl) (Below.refl _ _) (by rfl) | exact rfl
                          case r17g9 => as_aux_lemma =>
                            intro w9 hb
                            refine over_some (ds1 := [139, 141]) (ds2 := []) [(.bool true), (.bool true)] (by kernel_rfl) ?_
                            refine over_nil ?_
                            simp only [putAll, put_lit, List.set_cons_succ, List.set_cons_zero]
                            go_wp2
                            first | exact post_of (by rfl) (by rfl) (Below.refl _ _) (by rfl) | exact rfl
                          case r17g10 => as_aux_lemma =>
                            intro w9 hb
                            refine over_some (ds1 := [142]) (ds2 := []) [(.bool true)] (by kernel_rfl) ?_
                            refine over_nil ?_
                            simp only [putAll, put_lit, List.set_cons_succ, List.set_cons_zero]
                            go_wp2
                            first | exact post_of (by rfl) (by rfl) (Below.refl _ _) (by rfl) | exact rfl
                          case r17g11 => as_aux_lemma =>
                            intro w9 hb
                            refine over_some (ds1 := [143]) (ds2 := []) [(.bool true)] (by kernel_rfl) ?_
                            refine over_nil ?_
                            simp only [putAll, put_lit, List.set_cons_succ, List.set_cons_zero]
                            go_wp2
                            first | exact post_of (by rfl) (by rfl) (Below.refl _ _) (by rfl) | exact rfl
                          case r17g12 => as_aux_lemma =>
                            intro w9 hb
                            refine over_some (ds1 := [143, 144]) (ds2 := []) [(.bool true), (.bool false)] (by kernel_rfl) ?_
                            refine over_nil ?_
                            simp only [putAll, put_lit, List.set_cons_succ, List.set_cons_zero]
                            go_wp2
                            first | exact post_of (by rfl) (by rfl) (Below.refl _ _) (by rfl) | exact rfl
                          case r17g13 => as_aux_lemma =>
                            intro w9 hb
                            refine over_some (ds1 := [143, 145]) (ds2 := []) [(.bool true), (.bool true)] (by kernel_rfl) ?_
                            refine over_nil ?_
                            simp only [putAll, put_lit, List.set_cons_succ, List.set_cons_zero]
                            go_wp2
                            first | exact post_of (by rfl) (by rfl) (Below.refl _ _) (by rfl) | exact rfl
                          case r17g14 => as_aux_lemma =>
                            intro w9 hb
                            refine over_some (ds1 := [146]) (ds2 := []) [(.bool true)] (by kernel_rfl) ?_
                            refine over_nil ?_
                            simp only [putAll, put_lit, List.set_cons_succ, List.set_cons_zero]
                            go_wp2
                            first | exact post_of (by rfl) (by rfl) (Below.refl _ _) (by rfl) | exact rfl
                          case r17g15 => as_aux_lemma =>
                            intro w9 hb
                            refine over_some (ds1 := [147]) (ds2 := []) [(.bool true)] (by kernel_rfl) ?_
                            refine over_nil ?_
                            simp only [putAll, put_lit, List.set_cons_succ, List.set_cons_zero]
                            go_wp2
                            first | exact post_of (by rfl) (by rfl) (Below.refl _ _) (by rfl) | exact rfl
                          case r17g16 => as_aux_lemma =>
                            intro w9 hb
                            refine over_some (ds1 := [147]) (ds2 := []) [(.bool true)] (by kernel_rfl) ?_
                            refine over_nil ?_
                            simp only [putAll, put_lit, List.set_cons_succ, List.set_cons_zero]
                            go_wp2
                            first | exact post_of (by rfl) (by rfl) (Below.refl _ _) (by rfl) | exact rfl
                          case r17g17 => as_aux_lemma =>
                            intro w9 hb
                            refine over_some (ds1 := [147, 148, 149]) (ds2 := []) [(.bool true), (.slice A15 n15 c15), (.slice (some ⟨bp, op, none⟩) n75 c75)] (by kernel_rfl) ?_
                            refine over_nil ?_
                            simp only [putAll, put_lit, List.set_cons_succ, List.set_cons_zero]
                            go_wp2_with fail
                            have hc2 := descs_any A15 n15 c15 q15 (some ⟨bp, op, none⟩) n75 c75 p75 w9 (S15.out.next hb) (SP.out.next hb)
                            rw [show decide (q15.map (·.1) = p75.map (·.1)) = true from decide_eq_true M15.out] at hc2
                            refine hc2.mono ?_
                            clear hc2
                            rintro e w8 ⟨rfl, b6⟩
                            go_wp2
                            exact post_of (by rfl) (by rfl) b6 (by rfl)
                          case r17g18 => as_aux_lemma =>
                            intro w9 hb
                            refine over_some (ds1 := [147, 150]) (ds2 := []) [(.bool true), (.bool true)] (by kernel_rfl) ?_
                            refine over_nil ?_
                            simp only [putAll, put_lit, List.set_cons_succ, List.set_cons_zero]
                            go_wp2
                            first | exact post_of (by rfl) (by rfl) (Below.refl _ _) (by rfl) | exact rfl
                          case r17g19 => as_aux_lemma =>
                            intro w9 hb
                            refine over_some (ds1 := [151]) (ds2 := []) [(.bool true)] (by kernel_rfl) ?_
                            refine over_nil ?_
                            simp only [putAll, put_lit, List.set_cons_succ, List.set_cons_zero]
                            go_wp2
                            first | exact post_of (by rfl) (by rfl) (Below.refl _ _) (by rfl) | exact rfl
                          case r17g20 => as_aux_lemma =>
                            intro w9 hb
                            refine over_some (ds1 := [152]) (ds2 := []) [(.bool true)] (by kernel_rfl) ?_
                            refine over_nil ?_
                            simp only [putAll, put_lit, List.set_cons_succ, List.set_cons_zero]
                            go_wp2
                            first | exact post_of (by rfl) (by rfl) (Below.refl _ _) (by rfl) | exact rfl
                          case r17g21 => as_aux_lemma =>
                            intro w9 hb
                            refine over_some (ds1 := [152]) (ds2 := []) [(.bool true)] (by kernel_rfl) ?_
                            refine over_nil ?_
                            simp only [putAll, put_lit, List.set_cons_succ, List.set_cons_zero]
                            go_wp2
                            first | exact post_of (by rfl) (by rfl) (Below.refl _ _) (by rfl) | exact rfl
                          case r17g22 => as_aux_lemma =>
                            intro w9 hb
                            refine over_some (ds1 := [152, 153, 154]) (ds2 := []) [(.bool true), (.slice A17 n17 c17), (.slice (some ⟨bp, op, none⟩) n75 c75)] (by kernel_rfl) ?_
                            refine over_nil ?_
                            simp only [putAll, put_lit, List.set_cons_succ, List.set_cons_zero]
                            go_wp2_with fail
                            have hc2 := descs_any A17 n17 c17 q17 (some ⟨bp, op, none⟩) n75 c75 p75 w9 (S17.out.next hb) (SP.out.next hb)
                            rw [show decide (q17.map (·.1) = p75.map (·.1)) = true from decide_eq_true M17.out] at hc2
                            refine hc2.mono ?_
                            clear hc2
                            rintro e w8 ⟨rfl, b6⟩
                            go_wp2
                            exact post_of (by rfl) (by rfl) b6 (by rfl)
                          case r17g23 => as_aux_lemma =>
                            intro w9 hb
                            refine over_some (ds1 := [152, 155]) (ds2 := []) [(.bool true), (.bool true)] (by kernel_rfl) ?_
                            refine over_nil ?_
                            simp only [putAll, put_lit, List.set_cons_succ, List.set_cons_zero]
                            go_wp2
                            first | exact post_of (by rfl) (by rfl) (Below.refl _ _) (by rfl) | exact rfl
                          case r17g24 => as_aux_lemma =>
                            intro w9 hb
                            refine over_some (ds1 := [156]) (ds2 := []) [(.bool true)] (by kernel_rfl) ?_
                            refine over_nil ?_
                            simp only [putAll, put_lit, List.set_cons_succ, List.set_cons_zero]
                            go_wp2
                            first | exact post_of (by rfl) (by rfl) (Below.refl _ _) (by rfl) | exact rfl
                          case r17g25 => as_aux_lemma =>
                            intro w9 hb
                            refine over_some (ds1 := [157]) (ds2 := []) [(.bool true)] (by kernel_rfl) ?_
                            refine over_nil ?_
                            simp only [putAll, put_lit, List.set_cons_succ, List.set_cons_zero]
                            go_wp2_with fail
                            have hc2 := awake_any HDD.out w9
                            refine hc2.mono ?_
                            clear hc2
                            rintro e w8 ⟨rfl, b6⟩
                            go_wp2
                            exact post_of (by rfl) (by rfl) b6 (by rfl)
                          case r17g26 => as_aux_lemma =>
                            intro w9 hb
                            refine over_some (ds1 := [157, 158]) (ds2 := []) [(.bool true), (.bool true)] (by kernel_rfl) ?_
                            refine over_nil ?_
                            simp only [putAll, put_lit, List.set_cons_succ, List.set_cons_zero]
                            go_wp2
                            first | exact post_of (by rfl) (by rfl) (Below.refl _ _) (by rfl) | exact rfl
                  simp only [List.take_succ_cons, List.take_zero]
                  refine ⟨?r8g0, ?r8g1, ?r8g2, ?r8g3, ?r8g4, ?r8g5, ?r8g6, ?r8g7, trivial⟩
                  case r8g0 => as_aux_lemma =>
                    intro w9 hb
                    refine over_nil ?_
                    go_wp2
                    first | exact post_of (by rfl) (by rfl) (Below.refl _ _) (by rfl) | exact rfl
                  case r8g1 => as_aux_lemma =>
                    intro w9 hb
                    refine over_nil ?_
                    obtain ⟨p0, q0, r0, s0⟩ := (KX.out.next hb).cells
                    go_wp2
                    first | exact post_of (by rfl) (by rfl) (Below.refl _ _) (by rfl) | exact rfl
                  case r8g2 => as_aux_lemma =>
                    intro w9 hb
                    refine over_nil ?_
                    obtain ⟨p0, q0, r0, s0⟩ := (KY.out.next hb).cells
                    go_wp2
                    first | exact post_of (by rfl) (by rfl) (Below.refl _ _) (by rfl) | exact rfl
                  case r8g3 => as_aux_lemma =>
                    intro w9 hb
                    refine over_some (ds1 := [72, 73, 74]) (ds2 := []) [(.func (.func 29) #[] #[.pointer (some ⟨g9, 0, none⟩), .pointer (some ⟨g7, 0, none⟩)]), (.agg #[.int .u8 X.1, .int .u16 X.2.1, .int .u8 X.2.2.1, .slice hx.1 hx.2.1 hx.2.2]), (.agg #[.int .u8 Y.1, .int .u16 Y.2.1, .int .u8 Y.2.2.1, .slice hy.1 hy.2.1 hy.2.2])] (by kernel_rfl) ?_
                    refine over_nil ?_
                    simp only [putAll, put_lit, List.set_cons_succ, List.set_cons_zero]
                    go_wp2_with fail
                    refine (new1_any HDD.out g9 g7 A70 n70 c70 o70 X Y hx hy self w9 (K9.out.next hb).cell (KS.out.next hb).cell (K9.out.next hb).lt (KS.out.next hb).lt (SO.out.next hb) HFO.out (HRO.out.wider (by decide)) HSF.out (Sn.next FX.out (thn B.out hb)) (Sn.next FY.out (thn B.out hb)) H1X.out H1Y.out).mono ?_
                    rintro e w8 ⟨A8, n8, c8, o8, rfl, m8, d8, b6⟩
                    have D8 := Lib.hid d8.sds
                    have M8 := Lib.hid (m8.trans HTW.out.one)
                    clear d8 m8
                    go_wp2
                    exact post_of (by rfl) (by rfl) b6 (by exact ⟨_, _, _, _, rfl, M8.out, D8.out⟩)
                  case r8g4 => as_aux_lemma =>
                    intro w9 hb
                    refine over_nil ?_
                    go_wp2
                    first | exact post_of (by rfl) (by rfl) (Below.refl _ _) (by rfl) | exact rfl
                  case r8g5 => as_aux_lemma =>
                    intro w9 hb
                    refine over_nil ?_
                    obtain ⟨p0, q0, r0, s0⟩ := (KY.out.next hb).cells
                    go_wp2
                    first | exact post_of (by rfl) (by rfl) (Below.refl _ _) (by rfl) | exact rfl
                  case r8g6 => as_aux_lemma =>
                    intro w9 hb
                    refine over_nil ?_
                    obtain ⟨p0, q0, r0, s0⟩ := (KX.out.next hb).cells
                    go_wp2
                    first | exact post_of (by rfl) (by rfl) (Below.refl _ _) (by rfl) | exact rfl
                  case r8g7 => as_aux_lemma =>
                    intro w9 hb
                    refine over_some (ds1 := [76, 77, 78]) (ds2 := []) [(.func (.func 29) #[] #[.pointer (some ⟨g9, 0, none⟩), .pointer (some ⟨g7, 0, none⟩)]), (.agg #[.int .u8 Y.1, .int .u16 Y.2.1, .int .u8 Y.2.2.1, .slice hy.1 hy.2.1 hy.2.2]), (.agg #[.int .u8 X.1, .int .u16 X.2.1, .int .u8 X.2.2.1, .slice hx.1 hx.2.1 hx.2.2])] (by kernel_rfl) ?_
                    refine over_nil ?_
                    simp only [putAll, put_lit, List.set_cons_succ, List.set_cons_zero]
                    go_wp2_with fail
                    refine (new1_any HDD.out g9 g7 A70 n70 c70 o70 Y X hy hx self w9 (K9.out.next hb).cell (KS.out.next hb).cell (K9.out.next hb).lt (KS.out.next hb).lt (SO.out.next hb) HFO.out (HRO.out.wider (by decide)) HSF.out (Sn.next FY.out (thn B.out hb)) (Sn.next FX.out (thn B.out hb)) H1Y.out H1X.out).mono ?_
                    rintro e w8 ⟨A8, n8, c8, o8, rfl, m8, d8, b6⟩
                    have D8 := Lib.hid d8.sds
                    have M8 := Lib.hid (m8.trans HTW.out.two)
                    clear d8 m8
                    go_wp2
                    exact post_of (by rfl) (by rfl) b6 (by exact ⟨_, _, _, _, rfl, M8.out, D8.out⟩)
              simp only [List.take_succ_cons, List.take_zero]
              refine ⟨?r6g0, ?r6g1, ?r6g2, ?r6g3, ?r6g4, ?r6g5, ?r6g6, trivial⟩
              case r6g0 => as_aux_lemma =>
                intro w9 hb
                refine over_nil ?_
                go_wp2
                first | exact post_of (by rfl) (by rfl) (Below.refl _ _) (by rfl) | exact rfl
              case r6g1 => as_aux_lemma =>
                intro w9 hb
                refine over_nil ?_
                have p0 := (KS.out.next hb).cell
                go_wp2
                first | exact post_of (by rfl) (by rfl) (Below.refl _ _) (by rfl) | exact rfl
              case r6g2 => as_aux_lemma =>
                intro w9 hb
                refine over_some (ds1 := [65, 66]) (ds2 := []) [(.slice A n c), (.int .u8 self)] (by kernel_rfl) ?_
                refine over_nil ?_
                simp only [putAll, put_lit, List.set_cons_succ, List.set_cons_zero]
                go_wp2_with fail
                refine (view_any A n c xs self 20 w9 (HS.out.next (thn B.out hb)) HR.out (by decide)).mono ?_
                rintro e w8 ⟨A8, n8, c8, z8, rfl, v8, s8, b6⟩
                have S8 := Lib.hid s8.sds
                have V8 := Lib.hid v8
                clear s8 v8
                go_wp2
                exact post_of (by rfl) (by rfl) b6 (by exact ⟨_, _, _, _, rfl, V8.out, S8.out⟩)
              case r6g3 => as_aux_lemma =>
                intro w9 hb
                refine over_nil ?_
                go_wp2
                first | exact post_of (by rfl) (by rfl) (Below.refl _ _) (by rfl) | exact rfl
              case r6g4 => as_aux_lemma =>
                intro w9 hb
                refine over_some (ds1 := [68]) (ds2 := []) [(.pointer (some ⟨g5, 0, none⟩))] (by kernel_rfl) ?_
                refine over_nil ?_
                simp only [putAll, put_lit, List.set_cons_succ, List.set_cons_zero]
                obtain ⟨p0, q0, r0, s0⟩ := (KX.out.next hb).cells
                go_wp2
                first | exact post_of (by rfl) (by rfl) (Below.refl _ _) (by rfl) | exact rfl
              case r6g5 => as_aux_lemma =>
                intro w9 hb
                refine over_pred rfl ?_
                rintro _ ⟨A67, n67, c67, z67, rfl, v67, s67⟩
                refine over_some (ds1 := [69]) (ds2 := []) [(.int .u8 X.1)] (by kernel_rfl) ?_
                refine over_nil ?_
                simp only [putAll, put_lit, List.set_cons_succ, List.set_cons_zero]
                have V67 := Lib.hid v67
                have S67 := Lib.hid s67
                clear v67 s67
                go_wp2_with fail
                refine (HDD.out.drop A67 n67 c67 z67 X.1 w9 S67.out (view_fit V67.out HFX.out (by decide) S67.out.len) ⟨self, 20, V67.out.right⟩ HXB.out).mono ?_
                rintro e w8 ⟨A8, n8, c8, o8, rfl, m8, d8, b6⟩
                have D8 := Lib.hid (d8.mono (thn B.out hb).size)
                have M8 := Lib.hid m8
                clear d8 m8
                go_wp2
                exact post_of (by rfl) (by rfl) b6 (by exact ⟨_, _, _, _, _, rfl, V67.out, M8.out, D8.out⟩)
              case r6g6 => as_aux_lemma =>
                intro w9 hb
                refine over_nil ?_
                go_wp2
                exact post_of (by rfl) (by rfl) (below_lit _ _) (by exact ⟨_, rfl, hb.size, CBlk.new _ _ _⟩)
          · as_aux_lemma =>
              rcases Int.lt_trichotomy X.2.2.1 Y.2.2.1 with e3 | e3 | e3
              · as_aux_lemma =>
                  have HNE : Hid (¬ (X.2.1 = Y.2.1 ∧ X.2.2.1 = Y.2.2.1)) := by unfold Hid; omega
                  have HNV : Hid (newerD Y X = false) := by unfold Hid newerD; rw [if_pos e2.symm, decide_eq_false (by omega)]
                  have e2b : (X.2.1 == Y.2.1) = true := by simpa using e2
                  have e2c : (Y.2.1 == X.2.1) = true := by simpa using e2.symm
                  have e2d : ¬ X.2.1 < Y.2.1 := by omega
                  have e3b : (X.2.2.1 == Y.2.2.1) = false := by simp; omega
                  have e3c : ¬ Y.2.2.1 < X.2.2.1 := by omega
                  clear e2
                  clear e3
                  obtain ⟨x0, x1, x2, x3⟩ := KX.out.cells
                  obtain ⟨y0, y1, y2, y3⟩ := KY.out.cells
                  have s0 := KS.out.cell
                  go_upto_region 6 with fail
                  clear x0 x1 x2 x3 y0 y1 y2 y3 s0
                  have HB3 : Hid (w.heap.size ≤ w3.heap.size) := B.out.size
                  have HL5 : Hid (g5 < w3.heap.size) := KX.out.lt
                  have HL6 : Hid (g6 < w3.heap.size) := KY.out.lt
                  have HL7 : Hid (g7 < w3.heap.size) := KS.out.lt
                  refine wp_region_typed 7 [(65, .val (.slice A n c)), (66, .val (.int .u8 self)), (67, tyVw xs self), (68, .val (.pointer (some ⟨g5, 0, none⟩))), (69, .val (.int .u8 X.1)), (70, tyVd xs self X.1 w.heap.size), (9, tyC (.slice none 0 0) 22 w3.heap.size)]
                    [[], [], [65, 66], [], [68], [67, 69], []] (by kernel_rfl) (by kernel_rfl) ?_ ?_
                  rotate_left
                  · intro v4 hb
                    simp only [List.take_succ_cons, List.take_zero, List.drop_succ_cons, List.drop_zero]
                    refine over_ds (ds := [65, 66, 67, 68, 69, 70, 9]) (by kernel_rfl) ?_
                    refine over_some (ds1 := [65, 66]) (ds2 := [67, 68, 69, 70, 9]) [(.slice A n c), (.int .u8 self)] (by kernel_rfl) ?_
                    refine over_pred rfl ?_
                    rintro _ ⟨A67, n67, c67, z67, rfl, v67, s67⟩
                    refine over_some (ds1 := [68, 69]) (ds2 := [70, 9]) [(.pointer (some ⟨g5, 0, none⟩)), (.int .u8 X.1)] (by kernel_rfl) ?_
                    refine over_pred rfl ?_
                    rintro _ ⟨A70, n70, c70, o70, zv, rfl, v70, m70, d70⟩
                    refine over_pred rfl ?_
                    rintro _ ⟨g9, rfl, b9, k9⟩
                    refine over_nil ?_
                    simp only [putAll, put_lit, List.set_cons_succ, List.set_cons_zero]
                    replace KX := Lib.hid (KX.out.next hb)
                    replace KY := Lib.hid (KY.out.next hb)
                    replace KS := Lib.hid (KS.out.next hb)
                    replace B := Lib.hid (thn B.out hb)
                    clear hb
                    as_aux_lemma =>
                      have K9 := Lib.hid k9
                      have K9 := Lib.hid k9
                      have V70 := Lib.hid v70
                      have M70 := Lib.hid m70
                      have D70 := Lib.hid d70
                      have L9 : Hid (w.heap.size ≤ g9) := Nat.le_trans HB3.out b9
                      have n95 : g9 ≠ g5 := by have := HL5.out; omega
                      have n96 : g9 ≠ g6 := by have := HL6.out; omega
                      have n97 : g9 ≠ g7 := by have := HL7.out; omega
                      have n59 : g5 ≠ g9 := n95.symm
                      have n69 : g6 ≠ g9 := n96.symm
                      have n79 : g7 ≠ g9 := n97.symm
                      clear k9 v70 m70 d70 v67 s67 b9
                      have c9 := K9.out.cell
                      have f9 := K9.out.free
                      go_upto_region 8 with fail
                      have hgs := grown_set v4 g9 0 (.slice A70 n70 c70)
                      replace KX := Lib.hid (KX.out.grown hgs n59)
                      replace KY := Lib.hid (KY.out.grown hgs n69)
                      replace KS := Lib.hid (KS.out.grown hgs n79)
                      replace B := Lib.hid (belowG B.out hgs B.out.size L9.out)
                      replace D70 := Lib.hid (D70.out.offC K9.out (by decide) (by decide) (.slice A70 n70 c70))
                      replace K9 := Lib.hid (K9.out.put (.slice A70 n70 c70))
                      clear hgs c9 f9
                      generalize v4.setCell ⟨g9, 0, none⟩ (.slice A70 n70 c70) = u5 at *
                      have SO := Lib.hid D70.out.sds
                      clear D70
                      have HRO : Hid (RightD (o70.map (·.1)) self 20) := by unfold Hid; rw [M70.out]; exact right_drop V70.out.right X.1
                      have HFO : Hid (Fit n70 o70) := fit_of M70.out (by have h1 := HRO.out.2.2.2; rw [List.length_map] at h1; have := SO.out.len; omega) fun d hd => by obtain ⟨z, hz, rfl⟩ := List.mem_map.1 (dropD_mem.1 hd).1; exact V70.out.well HFX.out.all z hz
                      have HNF : Hid (findI (o70.map (·.1)) X.1 < 0) := by unfold Hid; rw [M70.out, find_drop]; decide
                      obtain ⟨PD, hPD⟩ : ∃ PD, PD = insL (o70.map (·.1)) X := ⟨_, rfl⟩
                      have HTW : Hid (Two (o70.map (·.1)) X Y X self PD) := by rw [hPD]; exact two_of HRO.out HNF.out HXY.out HNS.out HA0.out HB0.out HNE.out (by rw [HNV.out]; rfl)
                      have HFPD : Hid (∀ d ∈ PD, Fit1 d) := HTW.out.fit HRO.out H1X.out H1Y.out fun d hd => by obtain ⟨z, hz, rfl⟩ := List.mem_map.1 hd; exact HFO.out.all z hz
                      clear hPD V70 M70 HB3 HL5 HL6 HL7
                      refine wp_region_typed 8 [(72, .val (.func (.func 29) #[] #[.pointer (some ⟨g9, 0, none⟩), .pointer (some ⟨g7, 0, none⟩)])), (73, .val (.agg #[.int .u8 X.1, .int .u16 X.2.1, .int .u8 X.2.2.1, .slice hx.1 hx.2.1 hx.2.2])), (74, .val (.agg #[.int .u8 Y.1, .int .u16 Y.2.1, .int .u8 Y.2.2.1, .slice hy.1 hy.2.1 hy.2.2])), (75, tyD9 PD), (76, .val (.func (.func 29) #[] #[.pointer (some ⟨g9, 0, none⟩), .pointer (some ⟨g7, 0, none⟩)])), (77, .val (.agg #[.int .u8 Y.1, .int .u16 Y.2.1, .int .u8 Y.2.2.1, .slice hy.1 hy.2.1 hy.2.2])), (78, .val (.agg #[.int .u8 X.1, .int .u16 X.2.1, .int .u8 X.2.2.1, .slice hx.1 hx.2.1 hx.2.2])), (79, tyD9 PD)]
                        [[], [], [], [72, 73, 74], [], [], [], [76, 77, 78]] (by kernel_rfl) (by kernel_rfl) ?_ ?_
                      rotate_left
                      · intro v6 hb
                        simp only [List.take_succ_cons, List.take_zero, List.drop_succ_cons, List.drop_zero]
                        refine over_ds (ds := [72, 73, 74, 75, 76, 77, 78, 79]) (by kernel_rfl) ?_
                        refine over_some (ds1 := [72, 73, 74]) (ds2 := [75, 76, 77, 78, 79]) [(.func (.func 29) #[] #[.pointer (some ⟨g9, 0, none⟩), .pointer (some ⟨g7, 0, none⟩)]), (.agg #[.int .u8 X.1, .int .u16 X.2.1, .int .u8 X.2.2.1, .slice hx.1 hx.2.1 hx.2.2]), (.agg #[.int .u8 Y.1, .int .u16 Y.2.1, .int .u8 Y.2.2.1, .slice hy.1 hy.2.1 hy.2.2])] (by kernel_rfl) ?_
                        refine over_pred rfl ?_
                        rintro _ ⟨A75, n75, c75, p75, rfl, m75, s75⟩
                        refine over_some (ds1 := [76, 77, 78]) (ds2 := [79]) [(.func (.func 29) #[] #[.pointer (some ⟨g9, 0, none⟩), .pointer (some ⟨g7, 0, none⟩)]), (.agg #[.int .u8 Y.1, .int .u16 Y.2.1, .int .u8 Y.2.2.1, .slice hy.1 hy.2.1 hy.2.2]), (.agg #[.int .u8 X.1, .int .u16 X.2.1, .int .u8 X.2.2.1, .slice hx.1 hx.2.1 hx.2.2])] (by kernel_rfl) ?_
                        refine over_pred rfl ?_
                        rintro _ ⟨A79, n79, c79, p79, rfl, m79, s79⟩
                        refine over_nil ?_
                        simp only [putAll, put_lit, List.set_cons_succ, List.set_cons_zero]
                        replace KX := Lib.hid (KX.out.next hb)
                        replace KY := Lib.hid (KY.out.next hb)
                        replace KS := Lib.hid (KS.out.next hb)
                        replace K9 := Lib.hid (K9.out.next hb)
                        replace SO := Lib.hid (SO.out.next hb)
                        replace B := Lib.hid (thn B.out hb)
                        clear hb
                        as_aux_lemma =>
                          have SP := Lib.hid s75
                          have MP := Lib.hid m75
                          have SQ := Lib.hid s79
                          have MQ := Lib.hid m79
                          clear s75 m75 s79 m79
                          clear K9 SO HFO HRO HNF
                          obtain ⟨kk, hk1, hk2, hk3⟩ := HTW.out.at_
                          have HLP := Lib.hid SP.out.len
                          have HRP : Hid (RightD (p75.map (·.1)) self 30) := by unfold Hid; rw [MP.out]; exact HTW.out.right
                          have HFP : Hid (Fit n75 p75) := fit_of MP.out (by have h1 := HRP.out.2.2.2; rw [List.length_map] at h1; have := HLP.out; omega) HFPD.out
                          have hkn : kk < n75 := by have h1 := congrArg List.length MP.out; rw [List.length_map] at h1; rw [HLP.out, h1]; exact hk2
                          obtain ⟨bp, op, zp, rfl, hzp, _, HCZ⟩ := SP.out.cells hkn
                          have HZP : Hid (zp.1 = X) := by have h1 := congrArg (fun l : List Dsc => l[kk]?) MP.out; simp only [List.getElem?_map, hzp, hk3, Option.map_some] at h1; exact Option.some.inj h1
                          have FZP := Lib.hid (SP.out.fl zp (List.mem_of_getElem? hzp))
                          have HK1 : Hid (findI (p75.map (·.1)) X.1 = (kk : Int)) := by unfold Hid; rw [MP.out]; exact hk1
                          clear hzp hk1 hk2 hk3
                          have k0 : (0 : Int) ≤ (kk : Int) := by omega
                          have k1 : (kk : Int) < (n75 : Int) := by omega
                          have k2 : ¬ ((kk : Int) < 0) := by omega
                          have k3 : ¬ ((n75 : Int) ≤ (kk : Int)) := by omega
                          have hmp := SP.out.max
                          have hcp := SP.out.cap
                          unfold maxLen at hmp
                          obtain ⟨x0, x1, x2, x3⟩ := KX.out.cells
                          obtain ⟨y0, y1, y2, y3⟩ := KY.out.cells
                          have s0 := KS.out.cell
                          go_wp2_with fail
                          have hc := HDD.out.find (some ⟨bp, op, none⟩) n75 c75 p75 X.1 v6 SP.out HFP.out ⟨self, 30, HRP.out⟩ HXB.out
                          rw [HK1.out] at hc
                          refine hc.mono ?_
                          clear hc
                          rintro e w7 ⟨rfl, b5⟩
                          clear x0 x1 x2 x3 y0 y1 y2 y3 s0
                          replace KX := Lib.hid (KX.out.next b5)
                          replace KY := Lib.hid (KY.out.next b5)
                          replace KS := Lib.hid (KS.out.next b5)
                          replace SP := Lib.hid (SP.out.next b5)
                          replace SQ := Lib.hid (SQ.out.next b5)
                          replace B := Lib.hid (thn B.out b5)
                          clear b5
                          clear HCZ
                          obtain ⟨x0, x1, x2, x3⟩ := KX.out.cells
                          obtain ⟨y0, y1, y2, y3⟩ := KY.out.cells
                          have s0 := KS.out.cell
                          go_wp2_with fail
                          have hc := descs_any (some ⟨bp, op, none⟩) n75 c75 p75 A79 n79 c79 p79 w7 SP.out SQ.out
                          rw [show decide (p75.map (·.1) = p79.map (·.1)) = true from decide_eq_true (MP.out.trans MQ.out.symm)] at hc
                          refine hc.mono ?_
                          clear hc
                          rintro e w8 ⟨rfl, b5⟩
                          clear x0 x1 x2 x3 y0 y1 y2 y3 s0
                          replace KX := Lib.hid (KX.out.next b5)
                          replace KY := Lib.hid (KY.out.next b5)
                          replace KS := Lib.hid (KS.out.next b5)
                          replace SP := Lib.hid (SP.out.next b5)
                          replace SQ := Lib.hid (SQ.out.next b5)
                          replace B := Lib.hid (thn B.out b5)
                          clear b5
                          obtain ⟨x0, x1, x2, x3⟩ := KX.out.cells
                          obtain ⟨y0, y1, y2, y3⟩ := KY.out.cells
                          have s0 := KS.out.cell
                          go_upto_region 13 with fail
                          clear x0 x1 x2 x3 y0 y1 y2 y3 s0
                          as_aux_lemma =>
                            have BU : Hid (Below w8.heap.size w8 (w8.alloc (.cells #[.int .u8 X.1, .int .u16 X.2.1, .int .u8 X.2.2.1, .slice hx.1 hx.2.1 hx.2.2] 27))) := below_lit w8 (.cells #[.int .u8 X.1, .int .u16 X.2.1, .int .u8 X.2.2.1, .slice hx.1 hx.2.1 hx.2.2] 27)
                            have KW : Hid (DBlk (w8.alloc (.cells #[.int .u8 X.1, .int .u16 X.2.1, .int .u8 X.2.2.1, .slice hx.1 hx.2.1 hx.2.2] 27)) w8.heap.size X hx) := DBlk.new w8 X hx
                            generalize w8.alloc (.cells #[.int .u8 X.1, .int .u16 X.2.1, .int .u8 X.2.2.1, .slice hx.1 hx.2.1 hx.2.2] 27) = u9 at *
                            obtain ⟨g14, h14⟩ : ∃ g, w8.heap.size = g := ⟨_, rfl⟩
                            have LU : Hid (w8.heap.size ≤ g14) := Nat.le_of_eq h14
                            rw [h14] at KW ⊢
                            clear h14
                            obtain ⟨x0, x1, x2, x3⟩ := (KX.out.next BU.out).cells
                            obtain ⟨y0, y1, y2, y3⟩ := (KY.out.next BU.out).cells
                            have s0 := (KS.out.next BU.out).cell
                            obtain ⟨v0, v1, v2, v3⟩ := KW.out.cells
                            have fv0 := KW.out.free 0
                            have fv1 := KW.out.free 1
                            have fv2 := KW.out.free 2
                            have fv3 := KW.out.free 3
                            go_upto_region 15 with fail
                            clear x0 x1 x2 x3 y0 y1 y2 y3 s0
                            clear v0 v1 v2 v3 fv0 fv1 fv2 fv3
                            replace KX := Lib.hid (KX.out.next BU.out)
                            replace KY := Lib.hid (KY.out.next BU.out)
                            replace KS := Lib.hid (KS.out.next BU.out)
                            replace SP := Lib.hid (SP.out.next BU.out)
                            replace SQ := Lib.hid (SQ.out.next BU.out)
                            replace B := Lib.hid (thn B.out BU.out)
                            clear BU LU
                            as_aux_lemma =>
                              obtain ⟨x0, x1, x2, x3⟩ := KX.out.cells
                              obtain ⟨y0, y1, y2, y3⟩ := KY.out.cells
                              have s0 := KS.out.cell
                              go_wp2_with fail
                              have hc := HDD.out.put (some ⟨bp, op, none⟩) n75 c75 p75 X hx self 30 u9 SP.out HFP.out (Sn.next FX.out B.out) H1X.out HSF.out (by decide) HRP.out
                              rw [put_yes (by rw [MP.out]; exact HTW.out.againX), show refuseD (p75.map (·.1)) X self 30 = true from by rw [MP.out]; exact HTW.out.againX] at hc
                              refine hc.mono ?_
                              clear hc
                              rintro e w10 ⟨A15, n15, c15, q15, rfl, m15, d15, b5⟩
                              clear x0 x1 x2 x3 y0 y1 y2 y3 s0
                              have S15 := Lib.hid d15.sds
                              have M15 := Lib.hid m15
                              clear d15 m15
                              replace KX := Lib.hid (KX.out.next b5)
                              replace KY := Lib.hid (KY.out.next b5)
                              replace KS := Lib.hid (KS.out.next b5)
                              replace SP := Lib.hid (SP.out.next b5)
                              replace SQ := Lib.hid (SQ.out.next b5)
                              replace KW := Lib.hid (KW.out.next b5)
                              replace B := Lib.hid (thn B.out b5)
                              clear b5
                              obtain ⟨x0, x1, x2, x3⟩ := KX.out.cells
                              obtain ⟨y0, y1, y2, y3⟩ := KY.out.cells
                              have s0 := KS.out.cell
                              go_wp2_with fail
                              have hc := HDD.out.put (some ⟨bp, op, none⟩) n75 c75 p75 Y hy self 30 w10 SP.out HFP.out (Sn.next FY.out B.out) H1Y.out HSF.out (by decide) HRP.out
                              rw [put_yes (by rw [MP.out]; exact HTW.out.againY), show refuseD (p75.map (·.1)) Y self 30 = true from by rw [MP.out]; exact HTW.out.againY] at hc
                              refine hc.mono ?_
                              clear hc
                              rintro e w11 ⟨A17, n17, c17, q17, rfl, m17, d17, b5⟩
                              clear x0 x1 x2 x3 y0 y1 y2 y3 s0
                              have S17 := Lib.hid d17.sds
                              have M17 := Lib.hid m17
                              clear d17 m17
                              replace KX := Lib.hid (KX.out.next b5)
                              replace KY := Lib.hid (KY.out.next b5)
                              replace KS := Lib.hid (KS.out.next b5)
                              replace SP := Lib.hid (SP.out.next b5)
                              replace SQ := Lib.hid (SQ.out.next b5)
                              replace KW := Lib.hid (KW.out.next b5)
                              replace S15 := Lib.hid (S15.out.next b5)
                              replace B := Lib.hid (thn B.out b5)
                              clear b5
                              obtain ⟨x0, x1, x2, x3⟩ := KX.out.cells
                              obtain ⟨y0, y1, y2, y3⟩ := KY.out.cells
                              have s0 := KS.out.cell
                              go_upto_region 17 with fail
                              clear x0 x1 x2 x3 y0 y1 y2 y3 s0
                              obtain ⟨b2, o2, z2, hA, hz2, hm2, HCZ⟩ := SP.out.cells hkn
                              injection hA with hA
                              injection hA with e1 e2 e3
                              subst e1 e2
                              clear e3
                              have HZ2 : Hid (z2.1 = X) := by have h1 := congrArg (fun l : List Dsc => l[kk]?) MP.out; obtain ⟨kq, hq1, hq2, hq3⟩ := HTW.out.at_; have hq : kq = kk := (by have h2 := HK1.out; rw [MP.out] at h2; omega); subst hq; simp only [List.getElem?_map, hz2, hq3, Option.map_some] at h1; exact Option.some.inj h1
                              have FZ2 := Lib.hid (SP.out.fl z2 hm2)
                              have F1Z : Hid (Fit1 z2.1) := HFP.out.all z2 hm2
                              clear hz2 hm2
                              refine wp_region_typed 27 [(133, .val (.slice (some ⟨bp, op, none⟩) n75 c75)), (134, .val (.int .i64 (kk : Int))), (135, .val (.pointer (some ⟨bp, op + kk * 4, none⟩))), (136, .val (.agg #[.int .u8 z2.1.1, .int .u16 z2.1.2.1, .int .u8 z2.1.2.2.1, .slice z2.2.1 z2.2.2.1 z2.2.2.2])), (137, .val (.agg #[.int .u8 X.1, .int .u16 X.2.1, .int .u8 X.2.2.1, .slice hx.1 hx.2.1 hx.2.2])), (138, .val (.bool true)), (139, .val (.bool true)), (140, .val (.bool false)), (141, .val (.bool true)), (142, .val (.bool true)), (143, .val (.bool true)), (144, .val (.bool false)), (145, .val (.bool true)), (146, .val (.bool true)), (147, .val (.bool true)), (148, .val (.slice A15 n15 c15)), (149, .val (.slice (some ⟨bp, op, none⟩) n75 c75)), (150, .val (.bool true)), (151, .val (.bool true)), (152, .val (.bool true)), (153, .val (.slice A17 n17 c17)), (154, .val (.slice (some ⟨bp, op, none⟩) n75 c75)), (155, .val (.bool true)), (156, .val (.bool true)), (157, .val (.bool true)), (158, .val (.bool true)), (159, .val (.bool true))]
                                [[], [], [133, 134], [135], [], [136, 137], [138], [139], [139, 140], [139, 141], [142], [143], [143, 144], [143, 145], [146], [147], [147], [147, 148, 149], [147, 150], [151], [152], [152], [152, 153, 154], [152, 155], [156], [157], [157, 158]] (by kernel_rfl) (by kernel_rfl) ?_ ?_
                              rotate_left
                              · intro v12 hb
                                simp only [List.take_succ_cons, List.take_zero, List.drop_succ_cons, List.drop_zero]
                                refine over_ds (ds := [133, 134, 135, 136, 137, 138, 139, 140, 141, 142, 143, 144, 145, 146, 147, 148, 149, 150, 151, 152, 153, 154, 155, 156, 157, 158, 159]) (by kernel_rfl) ?_
                                refine over_some (ds1 := [133, 134, 135, 136, 137, 138, 139, 140, 141, 142, 143, 144, 145, 146, 147, 148, 149, 150, 151, 152, 153, 154, 155, 156, 157, 158, 159]) (ds2 := []) [(.slice (some ⟨bp, op, none⟩) n75 c75), (.int .i64 (kk : Int)), (.pointer (some ⟨bp, op + kk * 4, none⟩)), (.agg #[.int .u8 z2.1.1, .int .u16 z2.1.2.1, .int .u8 z2.1.2.2.1, .slice z2.2.1 z2.2.2.1 z2.2.2.2]), (.agg #[.int .u8 X.1, .int .u16 X.2.1, .int .u8 X.2.2.1, .slice hx.1 hx.2.1 hx.2.2]), (.bool true), (.bool true), (.bool false), (.bool true), (.bool true), (.bool true), (.bool false), (.bool true), (.bool true), (.bool true), (.slice A15 n15 c15), (.slice (some ⟨bp, op, none⟩) n75 c75), (.bool true), (.bool true), (.bool true), (.slice A17 n17 c17), (.slice (some ⟨bp, op, none⟩) n75 c75), (.bool true), (.bool true), (.bool true), (.bool true), (.bool true)] (by kernel_rfl) ?_
                                refine over_nil ?_
                                simp only [putAll, put_lit, List.set_cons_succ, List.set_cons_zero]
                                replace KX := Lib.hid (KX.out.next hb)
                                replace KY := Lib.hid (KY.out.next hb)
                                replace KS := Lib.hid (KS.out.next hb)
                                replace SP := Lib.hid (SP.out.next hb)
                                replace SQ := Lib.hid (SQ.out.next hb)
                                replace KW := Lib.hid (KW.out.next hb)
                                replace S15 := Lib.hid (S15.out.next hb)
                                replace S17 := Lib.hid (S17.out.next hb)
                                replace B := Lib.hid (thn B.out hb)
                                clear hb
                                go_wp2
                                go_ret
                                exact ⟨rfl, B.out⟩
                              simp only [List.take_succ_cons, List.take_zero]
                              refine ⟨?r17g0, ?r17g1, ?r17g2, ?r17g3, ?r17g4, ?r17g5, ?r17g6, ?r17g7, ?r17g8, ?r17g9, ?r17g10, ?r17g11, ?r17g12, ?r17g13, ?r17g14, ?r17g15, ?r17g16, ?r17g17, ?r17g18, ?r17g19, ?r17g20, ?r17g21, ?r17g22, ?r17g23, ?r17g24, ?r17g25, ?r17g26, trivial⟩
                              case r17g0 => as_aux_lemma =>
                                intro w9 hb
                                refine over_nil ?_
                                go_wp2
                                first | exact post_of (by rfl) (by rfl) (Below.refl _ _) (by rfl) | exact rfl
                              case r17g1 => as_aux_lemma =>
                                intro w9 hb
                                refine over_nil ?_
                                go_wp2
                                first | exact post_of (by rfl) (by rfl) (Below.refl _ _) (by rfl) | exact rfl
                              case r17g2 => as_aux_lemma =>
                                intro w9 hb
                                refine over_some (ds1 := [133, 134]) (ds2 := []) [(.slice (some ⟨bp, op, none⟩) n75 c75), (.int .i64 (kk : Int))] (by kernel_rfl) ?_
                                refine over_nil ?_
                                simp only [putAll, put_lit, List.set_cons_succ, List.set_cons_zero]
                                go_wp2
                                first | exact post_of (by rfl) (by rfl) (Below.refl _ _) (by rfl) | exact rfl
                              case r17g3 => as_aux_lemma =>
                                intro w9 hb
                                refine over_some (ds1 := [135]) (ds2 := []) [(.pointer (some ⟨bp, op + kk * 4, none⟩))] (by kernel_rfl) ?_
                                refine over_nil ?_
                                simp only [putAll, put_lit, List.set_cons_succ, List.set_cons_zero]
                                obtain ⟨p0, q0, r0, s0⟩ := HCZ.out w9 hb
                                go_wp2
                                first | exact post_of (by rfl) (by rfl) (Below.refl _ _) (by rfl) | exact rfl
                              case r17g4 => as_aux_lemma =>
                                intro w9 hb
                                refine over_nil ?_
                                obtain ⟨p0, q0, r0, s0⟩ := (KW.out.next hb).cells
                                go_wp2
                                first | exact post_of (by rfl) (by rfl) (Below.refl _ _) (by rfl) | exact rfl
                              case r17g5 => as_aux_lemma =>
                                intro w9 hb
                                refine over_some (ds1 := [136, 137]) (ds2 := []) [(.agg #[.int .u8 z2.1.1, .int .u16 z2.1.2.1, .int .u8 z2.1.2.2.1, .slice z2.2.1 z2.2.2.1 z2.2.2.2]), (.agg #[.int .u8 X.1, .int .u16 X.2.1, .int .u8 X.2.2.1, .slice hx.1 hx.2.1 hx.2.2])] (by kernel_rfl) ?_
                                refine over_nil ?_
                                simp only [putAll, put_lit, List.set_cons_succ, List.set_cons_zero]
                                go_wp2_with fail
                                have hc2 := HDD.out.same z2 (X, hx) w9 (Sn.next FZ2.out hb) (Sn.next FX.out (thn B.out hb)) F1Z.out H1X.out
                                rw [show decide (z2.1 = ((X, hx) : Dsc × Hd).1) = true from decide_eq_true HZ2.out] at hc2
                                refine hc2.mono ?_
                                clear hc2
                                rintro e w8 ⟨rfl, b6⟩
                                go_wp2
                                exact post_of (by rfl) (by rfl) b6 (by rfl)
                              case r17g6 => as_aux_lemma =>
                                intro w9 hb
                                refine over_some (ds1 := [138]) (ds2 := []) [(.bool true)] (by kernel_rfl) ?_
                                refine over_nil ?_
                                simp only [putAll, put_lit, List.set_cons_succ, List.set_cons_zero]
                                go_wp2
                                first | exact post_of (by rfl) (by rfl) (Below.refl _ _) (by rfl) | exact rfl
                              case r17g7 => as_aux_lemma =>
                                intro w9 hb
                                refine over_some (ds1 := [139]) (ds2 := []) [(.bool true)] (by kernel_rfl) ?_
                                refine over_nil ?_
                                simp only [putAll, put_lit, List.set_cons_succ, List.set_cons_zero]
                                go_wp2
                                first | exact post_of (by rfl) (by rfl) (Below.refl _ _) (by rfl) | exact rfl
                              case r17g8 => as_aux_lemma =>
                                intro w9 hb
                                refine over_some (ds1 := [139, 140]) (ds2 := []) [(.bool true), (.bool false)] (by kernel_rfl) ?_
                                refine over_nil ?_
                                simp only [putAll, put_lit, List.set_cons_succ, List.set_cons_zero]
                                go_wp2
                                first | exact post_of (by rfl) (by rfl) (Below.refl _ _) (by rfl) | exact rfl
                              case r17g9 => as_aux_lemma =>
                                intro w9 hb
                                refine over_some (ds1 := [139, 141]) (ds2 := []) [(.bool true), (.bool true)] (by kernel_rfl) ?_
                                refine over_nil ?_
                                simp only [putAll, put_lit, List.set_cons_succ, List.set_cons_zero]
                                go_wp2
                                first | exact post_of (by rfl) (by rfl) (Below.refl _ _) (by rfl) | exact rfl
                              case r17g10 => as_aux_lemma =>
                                intro w9 hb
                                refine over_some (ds1 := [142]) (ds2 := []) [(.bool true)] (by kernel_rfl) ?_
                                refine over_nil ?_
                                simp only [putAll, put_lit, List.set_cons_succ, List.set_cons_zero]
                                go_wp2
                                first | exact post_of (by rfl) (by rfl) (Below.refl _ _) (by rfl) | exact rfl
                              case r17g11 => as_aux_lemma =>
                                intro w9 hb
                                refine over_some (ds1 := [143]) (ds2 := []) [(.bool true)] (by kernel_rfl) ?_
                                refine over_nil ?_
                                simp only [putAll, put_lit, List.set_cons_succ, List.set_cons_zero]
                                go_wp2
                                first | exact post_of (by rfl) (by rfl) (Below.refl _ _) (by rfl) | exact rfl
                              case r17g12 => as_aux_lemma =>
                                intro w9 hb
                                refine over_some (ds1 := [143, 144]) (ds2 := []) [(.bool true), (.bool false)] (by kernel_rfl) ?_
                                refine over_nil ?_
                                simp only [putAll, put_lit, List.set_cons_succ, List.set_cons_zero]
                                go_wp2
                                first | exact post_of (by rfl) (by rfl) (Below.refl _ _) (by rfl) | exact rfl
                              case r17g13 => as_aux_lemma =>
                                intro w9 hb
                                refine over_some (ds1 := [143, 145]) (ds2 := []) [(.bool true), (.bool true)] (by kernel_rfl) ?_
                                refine over_nil ?_
                                simp only [putAll, put_lit, List.set_cons_succ, List.set_cons_zero]
                                go_wp2
                                first | exact post_of (by rfl) (by rfl) (Below.refl _ _) (by rfl) | exact rfl
                              case r17g14 => as_aux_lemma =>
                                intro w9 hb
                                refine over_some (ds1 := [146]) (ds2 := []) [(.bool true)] (by kernel_rfl) ?_
                                refine over_nil ?_
                                simp only [putAll, put_lit, List.set_cons_succ, List.set_cons_zero]
                                go_wp2
                                first | exact post_of (by rfl) (by rfl) (Below.refl _ _) (by rfl) | exact rfl
                              case r17g15 => as_aux_lemma =>
                                intro w9 hb
                                refine over_some (ds1 := [147]) (ds2 := []) [(.bool true)] (by kernel_rfl) ?_
                                refine over_nil ?_
                                simp only [putAll, put_lit, List.set_cons_succ, List.set_cons_zero]
                                go_wp2
                                first | exact post_of (by rfl) (by rfl) (Below.refl _ _) (by rfl) | exact rfl
                              case r17g16 => as_aux_lemma =>
                                intro w9 hb
                                refine over_some (ds1 := [147]) (ds2 := []) [(.bool true)] (by kernel_rfl) ?_
                                refine over_nil ?_
                                simp only [putAll, put_lit, List.set_cons_succ, List.set_cons_zero]
                                go_wp2
                                first | exact post_of (by rfl) (by rfl) (Below.refl _ _) (by rfl) | exact rfl
                              case r17g17 => as_aux_lemma =>
                                intro w9 hb
                                refine over_some (ds1 := [147, 148, 149]) (ds2 := []) [(.bool true), (.slice A15 n15 c15), (.slice (some ⟨bp, op, none⟩) n75 c75)] (by kernel_rfl) ?_
                                refine over_nil ?_
                                simp only [putAll, put_lit, List.set_cons_succ, List.set_cons_zero]
                                go_wp2_with fail
                                have hc2 := descs_any A15 n15 c15 q15 (some ⟨bp, op, none⟩) n75 c75 p75 w9 (S15.out.next hb) (SP.out.next hb)
                                rw [show decide (q15.map (·.1) = p75.map (·.1)) = true from decide_eq_true M15.out] at hc2
                                refine hc2.mono ?_
                                clear hc2
                                rintro e w8 ⟨rfl, b6⟩
                                go_wp2
                                exact post_of (by rfl) (by rfl) b6 (by rfl)
                              case r17g18 => as_aux_lemma =>
                                intro w9 hb
                                refine over_some (ds1 := [147, 150]) (ds2 := []) [(.bool true), (.bool true)] (by kernel_rfl) ?_
                                refine over_nil ?_
                                simp only [putAll, put_lit, List.set_cons_succ, List.set_cons_zero]
                                go_wp2
                                first | exact post_of (by rfl) (by rfl) (Below.refl _ _) (by rfl) | exact rfl
                              case r17g19 => as_aux_lemma =>
                                intro w9 hb
                                refine over_some (ds1 := [151]) (ds2 := []) [(.bool true)] (by kernel_rfl) ?_
                                refine over_nil ?_
                                simp only [putAll, put_lit, List.set_cons_succ, List.set_cons_zero]
                                go_wp2
                                first | exact post_of (by rfl) (by rfl) (Below.refl _ _) (by rfl) | exact rfl
                              case r17g20 => as_aux_lemma =>
                                intro w9 hb
                                refine over_some (ds1 := [152]) (ds2 := []) [(.bool true)] (by kernel_rfl) ?_
                                refine over_nil ?_
                                simp only [putAll, put_lit, List.set_cons_succ, List.set_cons_zero]
                                go_wp2
                                first | exact post_of (by rfl) (by rfl) (Below.refl _ _) (by rfl) | exact rfl
                              case r17g21 => as_aux_lemma =>
                                intro w9 hb
                                refine over_some (ds1 := [152]) (ds2 := []) [(.bool true)] (by kernel_rfl) ?_
                                refine over_nil ?_
                                simp only [putAll, put_lit, List.set_cons_succ, List.set_cons_zero]
                                go_wp2
                                first | exact post_of (by rfl) (by rfl) (Below.refl _ _) (by rfl) | exact rfl
                              case r17g22 => as_aux_lemma =>
                                intro w9 hb
                                refine over_some (ds1 := [152, 153, 154]) (ds2 := []) [(.bool true), (.slice A17 n17 c17), (.slice (some ⟨bp, op, none⟩) n75 c75)] (by kernel_rfl) ?_
                                refine over_nil ?_
                                simp only [putAll, put_lit, List.set_cons_succ, List.set_cons_zero]
                                go_wp2_with fail
                                have hc2 := descs_any A17 n17 c17 q17 (some ⟨bp, op, none⟩) n75 c75 p75 w9 (S17.out.next hb) (SP.out.next hb)
                                rw [show decide (q17.map (·.1) = p75.map (·.1)) = true from decide_eq_true M17.out] at hc2
                                refine hc2.mono ?_
                                clear hc2
                                rintro e w8 ⟨rfl, b6⟩
                                go_wp2
                                exact post_of (by rfl) (by rfl) b6 (by rfl)
                              case r17g23 => as_aux_lemma =>
                                intro w9 hb
                                refine over_some (ds1 := [152, 155]) (ds2 := []) [(.bool true), (.bool true)] (by kernel_rfl) ?_
                                refine over_nil ?_
                                simp only [putAll, put_lit, List.set_cons_succ, List.set_cons_zero]
                                go_wp2
                                first | exact post_of (by rfl) (by rfl) (Below.refl _ _) (by rfl) | exact rfl
                              case r17g24 => as_aux_lemma =>
                                intro w9 hb
                                refine over_some (ds1 := [156]) (ds2 := []) [(.bool true)] (by kernel_rfl) ?_
                                refine over_nil ?_
                                simp only [putAll, put_lit, List.set_cons_succ, List.set_cons_zero]
                                go_wp2
                                first | exact post_of (by rfl) (by rfl) (Below.refl _ _) (by rfl) | exact rfl
                              case r17g25 => as_aux_lemma =>
                                intro w9 hb
                                refine over_some (ds1 := [157]) (ds2 := []) [(.bool true)] (by kernel_rfl) ?_
                                refine over_nil ?_
                                simp only [putAll, put_lit, List.set_cons_succ, List.set_cons_zero]
                                go_wp2_with fail
                                have hc2 := awake_any HDD.out w9
                                refine hc2.mono ?_
                                clear hc2
                                rintro e w8 ⟨rfl, b6⟩
                                go_wp2
                                exact post_of (by rfl) (by rfl) b6 (by rfl)
                              case r17g26 => as_aux_lemma =>
                                intro w9 hb
                                refine over_some (ds1 := [157, 158]) (ds2 := []) [(.bool true), (.bool true)] (by kernel_rfl) ?_
                                refine over_nil ?_
                                simp only [putAll, put_lit, List.set_cons_succ, List.set_cons_zero]
                                go_wp2
                                first | exact post_of (by rfl) (by rfl) (Below.refl _ _) (by rfl) | exact rfl
                      simp only [List.take_succ_cons, List.take_zero]
                      refine ⟨?r8g0, ?r8g1, ?r8g2, ?r8g3, ?r8g4, ?r8g5, ?r8g6, ?r8g7, trivial⟩
                      case r8g0 => as_aux_lemma =>
                        intro w9 hb
                        refine over_nil ?_
                        go_wp2
                        first | exact post_of (by rfl) (by rfl) (Below.refl _ _) (by rfl) | exact rfl
                      case r8g1 => as_aux_lemma =>
                        intro w9 hb
                        refine over_nil ?_
                        obtain ⟨p0, q0, r0, s0⟩ := (KX.out.next hb).cells
                        go_wp2
                        first | exact post_of (by rfl) (by rfl) (Below.refl _ _) (by rfl) | exact rfl
                      case r8g2 => as_aux_lemma =>
                        intro w9 hb
                        refine over_nil ?_
                        obtain ⟨p0, q0, r0, s0⟩ := (KY.out.next hb).cells
                        go_wp2
                        first | exact post_of (by rfl) (by rfl) (Below.refl _ _) (by rfl) | exact rfl
                      case r8g3 => as_aux_lemma =>
                        intro w9 hb
                        refine over_some (ds1 := [72, 73, 74]) (ds2 := []) [(.func (.func 29) #[] #[.pointer (some ⟨g9, 0, none⟩), .pointer (some ⟨g7, 0, none⟩)]), (.agg #[.int .u8 X.1, .int .u16 X.2.1, .int .u8 X.2.2.1, .slice hx.1 hx.2.1 hx.2.2]), (.agg #[.int .u8 Y.1, .int .u16 Y.2.1, .int .u8 Y.2.2.1, .slice hy.1 hy.2.1 hy.2.2])] (by kernel_rfl) ?_
                        refine over_nil ?_
                        simp only [putAll, put_lit, List.set_cons_succ, List.set_cons_zero]
                        go_wp2_with fail
                        refine (new1_any HDD.out g9 g7 A70 n70 c70 o70 X Y hx hy self w9 (K9.out.next hb).cell (KS.out.next hb).cell (K9.out.next hb).lt (KS.out.next hb).lt (SO.out.next hb) HFO.out (HRO.out.wider (by decide)) HSF.out (Sn.next FX.out (thn B.out hb)) (Sn.next FY.out (thn B.out hb)) H1X.out H1Y.out).mono ?_
                        rintro e w8 ⟨A8, n8, c8, o8, rfl, m8, d8, b6⟩
                        have D8 := Lib.hid d8.sds
                        have M8 := Lib.hid (m8.trans HTW.out.one)
                        clear d8 m8
                        go_wp2
                        exact post_of (by rfl) (by rfl) b6 (by exact ⟨_, _, _, _, rfl, M8.out, D8.out⟩)
                      case r8g4 => as_aux_lemma =>
                        intro w9 hb
                        refine over_nil ?_
                        go_wp2
                        first | exact post_of (by rfl) (by rfl) (Below.refl _ _) (by rfl) | exact rfl
                      case r8g5 => as_aux_lemma =>
                        intro w9 hb
                        refine over_nil ?_
                        obtain ⟨p0, q0, r0, s0⟩ := (KY.out.next hb).cells
                        go_wp2
                        first | exact post_of (by rfl) (by rfl) (Below.refl _ _) (by rfl) | exact rfl
                      case r8g6 => as_aux_lemma =>
                        intro w9 hb
                        refine over_nil ?_
                        obtain ⟨p0, q0, r0, s0⟩ := (KX.out.next hb).cells
                        go_wp2
                        first | exact post_of (by rfl) (by rfl) (Below.refl _ _) (by rfl) | exact rfl
                      case r8g7 => as_aux_lemma =>
                        intro w9 hb
                        refine over_some (ds1 := [76, 77, 78]) (ds2 := []) [(.func (.func 29) #[] #[.pointer (some ⟨g9, 0, none⟩), .pointer (some ⟨g7, 0, none⟩)]), (.agg #[.int .u8 Y.1, .int .u16 Y.2.1, .int .u8 Y.2.2.1, .slice hy.1 hy.2.1 hy.2.2]), (.agg #[.int .u8 X.1, .int .u16 X.2.1, .int .u8 X.2.2.1, .slice hx.1 hx.2.1 hx.2.2])] (by kernel_rfl) ?_
                        refine over_nil ?_
                        simp only [putAll, put_lit, List.set_cons_succ, List.set_cons_zero]
                        go_wp2_with fail
                        refine (new1_any HDD.out g9 g7 A70 n70 c70 o70 Y X hy hx self w9 (K9.out.next hb).cell (KS.out.next hb).cell (K9.out.next hb).lt (KS.out.next hb).lt (SO.out.next hb) HFO.out (HRO.out.wider (by decide)) HSF.out (Sn.next FY.out (thn B.out hb)) (Sn.next FX.out (thn B.out hb)) H1Y.out H1X.out).mono ?_
                        rintro e w8 ⟨A8, n8, c8, o8, rfl, m8, d8, b6⟩
                        have D8 := Lib.hid d8.sds
                        have M8 := Lib.hid (m8.trans HTW.out.two)
                        clear d8 m8
                        go_wp2
                        exact post_of (by rfl) (by rfl) b6 (by exact ⟨_, _, _, _, rfl, M8.out, D8.out⟩)
                  simp only [List.take_succ_cons, List.take_zero]
                  refine ⟨?r6g0, ?r6g1, ?r6g2, ?r6g3, ?r6g4, ?r6g5, ?r6g6, trivial⟩
                  case r6g0 => as_aux_lemma =>
                    intro w9 hb
                    refine over_nil ?_
                    go_wp2
                    first | exact post_of (by rfl) (by rfl) (Below.refl _ _) (by rfl) | exact rfl
                  case r6g1 => as_aux_lemma =>
                    intro w9 hb
                    refine over_nil ?_
                    have p0 := (KS.out.next hb).cell
                    go_wp2
                    first | exact post_of (by rfl) (by rfl) (Below.refl _ _) (by rfl) | exact rfl
                  case r6g2 => as_aux_lemma =>
                    intro w9 hb
                    refine over_some (ds1 := [65, 66]) (ds2 := []) [(.slice A n c), (.int .u8 self)] (by kernel_rfl) ?_
                    refine over_nil ?_
                    simp only [putAll, put_lit, List.set_cons_succ, List.set_cons_zero]
                    go_wp2_with fail
                    refine (view_any A n c xs self 20 w9 (HS.out.next (thn B.out hb)) HR.out (by decide)).mono ?_
                    rintro e w8 ⟨A8, n8, c8, z8, rfl, v8, s8, b6⟩
                    have S8 := Lib.hid s8.sds
                    have V8 := Lib.hid v8
                    clear s8 v8
                    go_wp2
                    exact post_of (by rfl) (by rfl) b6 (by exact ⟨_, _, _, _, rfl, V8.out, S8.out⟩)
                  case r6g3 => as_aux_lemma =>
                    intro w9 hb
                    refine over_nil ?_
                    go_wp2
                    first | exact post_of (by rfl) (by rfl) (Below.refl _ _) (by rfl) | exact rfl
                  case r6g4 => as_aux_lemma =>
                    intro w9 hb
                    refine over_some (ds1 := [68]) (ds2 := []) [(.pointer (some ⟨g5, 0, none⟩))] (by kernel_rfl) ?_
                    refine over_nil ?_
                    simp only [putAll, put_lit, List.set_cons_succ, List.set_cons_zero]
                    obtain ⟨p0, q0, r0, s0⟩ := (KX.out.next hb).cells
                    go_wp2
                    first | exact post_of (by rfl) (by rfl) (Below.refl _ _) (by rfl) | exact rfl
                  case r6g5 => as_aux_lemma =>
                    intro w9 hb
                    refine over_pred rfl ?_
                    rintro _ ⟨A67, n67, c67, z67, rfl, v67, s67⟩
                    refine over_some (ds1 := [69]) (ds2 := []) [(.int .u8 X.1)] (by kernel_rfl) ?_
                    refine over_nil ?_
                    simp only [putAll, put_lit, List.set_cons_succ, List.set_cons_zero]
                    have V67 := Lib.hid v67
                    have S67 := Lib.hid s67
                    clear v67 s67
                    go_wp2_with fail
                    refine (HDD.out.drop A67 n67 c67 z67 X.1 w9 S67.out (view_fit V67.out HFX.out (by decide) S67.out.len) ⟨self, 20, V67.out.right⟩ HXB.out).mono ?_
                    rintro e w8 ⟨A8, n8, c8, o8, rfl, m8, d8, b6⟩
                    have D8 := Lib.hid (d8.mono (thn B.out hb).size)
                    have M8 := Lib.hid m8
                    clear d8 m8
                    go_wp2
                    exact post_of (by rfl) (by rfl) b6 (by exact ⟨_, _, _, _, _, rfl, V67.out, M8.out, D8.out⟩)
                  case r6g6 => as_aux_lemma =>
                    intro w9 hb
                    refine over_nil ?_
                    go_wp2
                    exact post_of (by rfl) (by rfl) (below_lit _ _) (by exact ⟨_, rfl, hb.size, CBlk.new _ _ _⟩)
              · as_aux_lemma =>
                  have e2b : (X.2.1 == Y.2.1) = true := by simpa using e2
                  have e3b : (X.2.2.1 == Y.2.2.1) = true := by simpa using e3
                  clear e2 e3
                  obtain ⟨x0, x1, x2, x3⟩ := KX.out.cells
                  obtain ⟨y0, y1, y2, y3⟩ := KY.out.cells
                  have s0 := KS.out.cell
                  go_wp2_with fail
                  refine (awake_any HDD.out w3).mono ?_
                  rintro e w4 ⟨rfl, b5⟩
                  replace B := Lib.hid (thn B.out b5)
                  clear b5
                  go_wp2
                  go_ret
                  exact ⟨rfl, B.out⟩
              · as_aux_lemma =>
                  have HNE : Hid (¬ (X.2.1 = Y.2.1 ∧ X.2.2.1 = Y.2.2.1)) := by unfold Hid; omega
                  have HNV : Hid (newerD Y X = true) := by unfold Hid newerD; rw [if_pos e2.symm, decide_eq_true e3]
                  have e2b : (X.2.1 == Y.2.1) = true := by simpa using e2
                  have e2c : (Y.2.1 == X.2.1) = true := by simpa using e2.symm
                  have e2d : ¬ X.2.1 < Y.2.1 := by omega
                  have e3b : (X.2.2.1 == Y.2.2.1) = false := by simp; omega
                  clear e2
                  obtain ⟨x0, x1, x2, x3⟩ := KX.out.cells
                  obtain ⟨y0, y1, y2, y3⟩ := KY.out.cells
                  have s0 := KS.out.cell
                  go_upto_region 6 with fail
                  clear x0 x1 x2 x3 y0 y1 y2 y3 s0
                  have HB3 : Hid (w.heap.size ≤ w3.heap.size) := B.out.size
                  have HL5 : Hid (g5 < w3.heap.size) := KX.out.lt
                  have HL6 : Hid (g6 < w3.heap.size) := KY.out.lt
                  have HL7 : Hid (g7 < w3.heap.size) := KS.out.lt
                  refine wp_region_typed 7 [(65, .val (.slice A n c)), (66, .val (.int .u8 self)), (67, tyVw xs self), (68, .val (.pointer (some ⟨g5, 0, none⟩))), (69, .val (.int .u8 X.1)), (70, tyVd xs self X.1 w.heap.size), (9, tyC (.slice none 0 0) 22 w3.heap.size)]
                    [[], [], [65, 66], [], [68], [67, 69], []] (by kernel_rfl) (by kernel_rfl) ?_ ?_
                  rotate_left
                  · intro v4 hb
                    simp only [List.take_succ_cons, List.take_zero, List.drop_succ_cons, List.drop_zero]
                    refine over_ds (ds := [65, 66, 67, 68, 69, 70, 9]) (by kernel_rfl) ?_
                    refine over_some (ds1 := [65, 66]) (ds2 := [67, 68, 69, 70, 9]) [(.slice A n c), (.int .u8 self)] (by kernel_rfl) ?_
                    refine over_pred rfl ?_
                    rintro _ ⟨A67, n67, c67, z67, rfl, v67, s67⟩
                    refine over_some (ds1 := [68, 69]) (ds2 := [70, 9]) [(.pointer (some ⟨g5, 0, none⟩)), (.int .u8 X.1)] (by kernel_rfl) ?_
                    refine over_pred rfl ?_
                    rintro _ ⟨A70, n70, c70, o70, zv, rfl, v70, m70, d70⟩
                    refine over_pred rfl ?_
                    rintro _ ⟨g9, rfl, b9, k9⟩
                    refine over_nil ?_
                    simp only [putAll, put_lit, List.set_cons_succ, List.set_cons_zero]
                    replace KX := Lib.hid (KX.out.next hb)
                    replace KY := Lib.hid (KY.out.next hb)
                    replace KS := Lib.hid (KS.out.next hb)
                    replace B := Lib.hid (thn B.out hb)
                    clear hb
                    as_aux_lemma =>
                      have K9 := Lib.hid k9
                      have K9 := Lib.hid k9
                      have V70 := Lib.hid v70
                      have M70 := Lib.hid m70
                      have D70 := Lib.hid d70
                      have L9 : Hid (w.heap.size ≤ g9) := Nat.le_trans HB3.out b9
                      have n95 : g9 ≠ g5 := by have := HL5.out; omega
                      have n96 : g9 ≠ g6 := by have := HL6.out; omega
                      have n97 : g9 ≠ g7 := by have := HL7.out; omega
                      have n59 : g5 ≠ g9 := n95.symm
                      have n69 : g6 ≠ g9 := n96.symm
                      have n79 : g7 ≠ g9 := n97.symm
                      clear k9 v70 m70 d70 v67 s67 b9
                      have c9 := K9.out.cell
                      have f9 := K9.out.free
                      go_upto_region 8 with fail
                      have hgs := grown_set v4 g9 0 (.slice A70 n70 c70)
                      replace KX := Lib.hid (KX.out.grown hgs n59)
                      replace KY := Lib.hid (KY.out.grown hgs n69)
                      replace KS := Lib.hid (KS.out.grown hgs n79)
                      replace B := Lib.hid (belowG B.out hgs B.out.size L9.out)
                      replace D70 := Lib.hid (D70.out.offC K9.out (by decide) (by decide) (.slice A70 n70 c70))
                      replace K9 := Lib.hid (K9.out.put (.slice A70 n70 c70))
                      clear hgs c9 f9
                      generalize v4.setCell ⟨g9, 0, none⟩ (.slice A70 n70 c70) = u5 at *
                      have SO := Lib.hid D70.out.sds
                      clear D70
                      have HRO : Hid (RightD (o70.map (·.1)) self 20) := by unfold Hid; rw [M70.out]; exact right_drop V70.out.right X.1
                      have HFO : Hid (Fit n70 o70) := fit_of M70.out (by have h1 := HRO.out.2.2.2; rw [List.length_map] at h1; have := SO.out.len; omega) fun d hd => by obtain ⟨z, hz, rfl⟩ := List.mem_map.1 (dropD_mem.1 hd).1; exact V70.out.well HFX.out.all z hz
                      have HNF : Hid (findI (o70.map (·.1)) X.1 < 0) := by unfold Hid; rw [M70.out, find_drop]; decide
                      obtain ⟨PD, hPD⟩ : ∃ PD, PD = insL (o70.map (·.1)) Y := ⟨_, rfl⟩
                      have HTW : Hid (Two (o70.map (·.1)) X Y Y self PD) := by rw [hPD]; exact two_of HRO.out HNF.out HXY.out HNS.out HA0.out HB0.out HNE.out (by rw [HNV.out]; rfl)
                      have HFPD : Hid (∀ d ∈ PD, Fit1 d) := HTW.out.fit HRO.out H1X.out H1Y.out fun d hd => by obtain ⟨z, hz, rfl⟩ := List.mem_map.1 hd; exact HFO.out.all z hz
                      clear hPD V70 M70 HB3 HL5 HL6 HL7
                      refine wp_region_typed 8 [(72, .val (.func (.func 29) #[] #[.pointer (some ⟨g9, 0, none⟩), .pointer (some ⟨g7, 0, none⟩)])), (73, .val (.agg #[.int .u8 X.1, .int .u16 X.2.1, .int .u8 X.2.2.1, .slice hx.1 hx.2.1 hx.2.2])), (74, .val (.agg #[.int .u8 Y.1, .int .u16 Y.2.1, .int .u8 Y.2.2.1, .slice hy.1 hy.2.1 hy.2.2])), (75, tyD9 PD), (76, .val (.func (.func 29) #[] #[.pointer (some ⟨g9, 0, none⟩), .pointer (some ⟨g7, 0, none⟩)])), (77, .val (.agg #[.int .u8 Y.1, .int .u16 Y.2.1, .int .u8 Y.2.2.1, .slice hy.1 hy.2.1 hy.2.2])), (78, .val (.agg #[.int .u8 X.1, .int .u16 X.2.1, .int .u8 X.2.2.1, .slice hx.1 hx.2.1 hx.2.2])), (79, tyD9 PD)]
                        [[], [], [], [72, 73, 74], [], [], [], [76, 77, 78]] (by kernel_rfl) (by kernel_rfl) ?_ ?_
                      rotate_left
                      · intro v6 hb
                        simp only [List.take_succ_cons, List.take_zero, List.drop_succ_cons, List.drop_zero]
                        refine over_ds (ds := [72, 73, 74, 75, 76, 77, 78, 79]) (by kernel_rfl) ?_
                        refine over_some (ds1 := [72, 73, 74]) (ds2 := [75, 76, 77, 78, 79]) [(.func (.func 29) #[] #[.pointer (some ⟨g9, 0, none⟩), .pointer (some ⟨g7, 0, none⟩)]), (.agg #[.int .u8 X.1, .int .u16 X.2.1, .int .u8 X.2.2.1, .slice hx.1 hx.2.1 hx.2.2]), (.agg #[.int .u8 Y.1, .int .u16 Y.2.1, .int .u8 Y.2.2.1, .slice hy.1 hy.2.1 hy.2.2])] (by kernel_rfl) ?_
                        refine over_pred rfl ?_
                        rintro _ ⟨A75, n75, c75, p75, rfl, m75, s75⟩
                        refine over_some (ds1 := [76, 77, 78]) (ds2 := [79]) [(.func (.func 29) #[] #[.pointer (some ⟨g9, 0, none⟩), .pointer (some ⟨g7, 0, none⟩)]), (.agg #[.int .u8 Y.1, .int .u16 Y.2.1, .int .u8 Y.2.2.1, .slice hy.1 hy.2.1 hy.2.2]), (.agg #[.int .u8 X.1, .int .u16 X.2.1, .int .u8 X.2.2.1, .slice hx.1 hx.2.1 hx.2.2])] (by kernel_rfl) ?_
                        refine over_pred rfl ?_
                        rintro _ ⟨A79, n79, c79, p79, rfl, m79, s79⟩
                        refine over_nil ?_
                        simp only [putAll, put_lit, List.set_cons_succ, List.set_cons_zero]
                        replace KX := Lib.hid (KX.out.next hb)
                        replace KY := Lib.hid (KY.out.next hb)
                        replace KS := Lib.hid (KS.out.next hb)
                        replace K9 := Lib.hid (K9.out.next hb)
                        replace SO := Lib.hid (SO.out.next hb)
                        replace B := Lib.hid (thn B.out hb)
                        clear hb
                        as_aux_lemma =>
                          have SP := Lib.hid s75
                          have MP := Lib.hid m75
                          have SQ := Lib.hid s79
                          have MQ := Lib.hid m79
                          clear s75 m75 s79 m79
                          clear K9 SO HFO HRO HNF
                          obtain ⟨kk, hk1, hk2, hk3⟩ := HTW.out.at_
                          have HLP := Lib.hid SP.out.len
                          have HRP : Hid (RightD (p75.map (·.1)) self 30) := by unfold Hid; rw [MP.out]; exact HTW.out.right
                          have HFP : Hid (Fit n75 p75) := fit_of MP.out (by have h1 := HRP.out.2.2.2; rw [List.length_map] at h1; have := HLP.out; omega) HFPD.out
                          have hkn : kk < n75 := by have h1 := congrArg List.length MP.out; rw [List.length_map] at h1; rw [HLP.out, h1]; exact hk2
                          obtain ⟨bp, op, zp, rfl, hzp, _, HCZ⟩ := SP.out.cells hkn
                          have HZP : Hid (zp.1 = Y) := by have h1 := congrArg (fun l : List Dsc => l[kk]?) MP.out; simp only [List.getElem?_map, hzp, hk3, Option.map_some] at h1; exact Option.some.inj h1
                          have FZP := Lib.hid (SP.out.fl zp (List.mem_of_getElem? hzp))
                          have HK1 : Hid (findI (p75.map (·.1)) X.1 = (kk : Int)) := by unfold Hid; rw [MP.out]; exact hk1
                          clear hzp hk1 hk2 hk3
                          have k0 : (0 : Int) ≤ (kk : Int) := by omega
                          have k1 : (kk : Int) < (n75 : Int) := by omega
                          have k2 : ¬ ((kk : Int) < 0) := by omega
                          have k3 : ¬ ((n75 : Int) ≤ (kk : Int)) := by omega
                          have hmp := SP.out.max
                          have hcp := SP.out.cap
                          unfold maxLen at hmp
                          obtain ⟨x0, x1, x2, x3⟩ := KX.out.cells
                          obtain ⟨y0, y1, y2, y3⟩ := KY.out.cells
                          have s0 := KS.out.cell
                          go_wp2_with fail
                          have hc := HDD.out.find (some ⟨bp, op, none⟩) n75 c75 p75 X.1 v6 SP.out HFP.out ⟨self, 30, HRP.out⟩ HXB.out
                          rw [HK1.out] at hc
                          refine hc.mono ?_
                          clear hc
                          rintro e w7 ⟨rfl, b5⟩
                          clear x0 x1 x2 x3 y0 y1 y2 y3 s0
                          replace KX := Lib.hid (KX.out.next b5)
                          replace KY := Lib.hid (KY.out.next b5)
                          replace KS := Lib.hid (KS.out.next b5)
                          replace SP := Lib.hid (SP.out.next b5)
                          replace SQ := Lib.hid (SQ.out.next b5)
                          replace B := Lib.hid (thn B.out b5)
                          clear b5
                          clear HCZ
                          obtain ⟨x0, x1, x2, x3⟩ := KX.out.cells
                          obtain ⟨y0, y1, y2, y3⟩ := KY.out.cells
                          have s0 := KS.out.cell
                          go_wp2_with fail
                          have hc := descs_any (some ⟨bp, op, none⟩) n75 c75 p75 A79 n79 c79 p79 w7 SP.out SQ.out
                          rw [show decide (p75.map (·.1) = p79.map (·.1)) = true from decide_eq_true (MP.out.trans MQ.out.symm)] at hc
                          refine hc.mono ?_
                          clear hc
                          rintro e w8 ⟨rfl, b5⟩
                          clear x0 x1 x2 x3 y0 y1 y2 y3 s0
                          replace KX := Lib.hid (KX.out.next b5)
                          replace KY := Lib.hid (KY.out.next b5)
                          replace KS := Lib.hid (KS.out.next b5)
                          replace SP := Lib.hid (SP.out.next b5)
                          replace SQ := Lib.hid (SQ.out.next b5)
                          replace B := Lib.hid (thn B.out b5)
                          clear b5
                          obtain ⟨x0, x1, x2, x3⟩ := KX.out.cells
                          obtain ⟨y0, y1, y2, y3⟩ := KY.out.cells
                          have s0 := KS.out.cell
                          go_upto_region 13 with fail
                          clear x0 x1 x2 x3 y0 y1 y2 y3 s0
                          as_aux_lemma =>
                            have BU : Hid (Below w8.heap.size w8 (w8.alloc (.cells #[.int .u8 X.1, .int .u16 X.2.1, .int .u8 X.2.2.1, .slice hx.1 hx.2.1 hx.2.2] 27))) := below_lit w8 (.cells #[.int .u8 X.1, .int .u16 X.2.1, .int .u8 X.2.2.1, .slice hx.1 hx.2.1 hx.2.2] 27)
                            have KW : Hid (DBlk (w8.alloc (.cells #[.int .u8 X.1, .int .u16 X.2.1, .int .u8 X.2.2.1, .slice hx.1 hx.2.1 hx.2.2] 27)) w8.heap.size X hx) := DBlk.new w8 X hx
                            generalize w8.alloc (.cells #[.int .u8 X.1, .int .u16 X.2.1, .int .u8 X.2.2.1, .slice hx.1 hx.2.1 hx.2.2] 27) = u9 at *
                            obtain ⟨g14, h14⟩ : ∃ g, w8.heap.size = g := ⟨_, rfl⟩
                            have LU : Hid (w8.heap.size ≤ g14) := Nat.le_of_eq h14
                            rw [h14] at KW ⊢
                            clear h14
                            obtain ⟨x0, x1, x2, x3⟩ := (KX.out.next BU.out).cells
                            obtain ⟨y0, y1, y2, y3⟩ := (KY.out.next BU.out).cells
                            have s0 := (KS.out.next BU.out).cell
                            obtain ⟨v0, v1, v2, v3⟩ := KW.out.cells
                            have fv0 := KW.out.free 0
                            have fv1 := KW.out.free 1
                            have fv2 := KW.out.free 2
                            have fv3 := KW.out.free 3
                            go_upto_region 15 with fail
                            clear x0 x1 x2 x3 y0 y1 y2 y3 s0
                            clear v0 v1 v2 v3 fv0 fv1 fv2 fv3
                            replace BU := Lib.hid (belowG BU.out (grown_cells4 u9 g14 (.int .u8 Y.1) (.int .u16 Y.2.1) (.int .u8 Y.2.2.1) (.slice hy.1 hy.2.1 hy.2.2)) BU.out.size LU.out)
                            replace KW := Lib.hid (KW.out.rewrote Y hy)
                            generalize (((u9.setCell ⟨g14, 0, none⟩ (.int .u8 Y.1)).setCell ⟨g14, 1, none⟩ (.int .u16 Y.2.1)).setCell ⟨g14, 2, none⟩ (.int .u8 Y.2.2.1)).setCell ⟨g14, 3, none⟩ (.slice hy.1 hy.2.1 hy.2.2) = u10 at *
                            replace KX := Lib.hid (KX.out.next BU.out)
                            replace KY := Lib.hid (KY.out.next BU.out)
                            replace KS := Lib.hid (KS.out.next BU.out)
                            replace SP := Lib.hid (SP.out.next BU.out)
                            replace SQ := Lib.hid (SQ.out.next BU.out)
                            replace B := Lib.hid (thn B.out BU.out)
                            clear BU LU
                            as_aux_lemma =>
                              obtain ⟨x0, x1, x2, x3⟩ := KX.out.cells
                              obtain ⟨y0, y1, y2, y3⟩ := KY.out.cells
                              have s0 := KS.out.cell
                              go_wp2_with fail
                              have hc := HDD.out.put (some ⟨bp, op, none⟩) n75 c75 p75 X hx self 30 u10 SP.out HFP.out (Sn.next FX.out B.out) H1X.out HSF.out (by decide) HRP.out
                              rw [put_yes (by rw [MP.out]; exact HTW.out.againX), show refuseD (p75.map (·.1)) X self 30 = true from by rw [MP.out]; exact HTW.out.againX] at hc
                              refine hc.mono ?_
                              clear hc
                              rintro e w11 ⟨A15, n15, c15, q15, rfl, m15, d15, b5⟩
                              clear x0 x1 x2 x3 y0 y1 y2 y3 s0
                              have S15 := Lib.hid d15.sds
                              have M15 := Lib.hid m15
                              clear d15 m15
                              replace KX := Lib.hid (KX.out.next b5)
                              replace KY := Lib.hid (KY.out.next b5)
                              replace KS := Lib.hid (KS.out.next b5)
                              replace SP := Lib.hid (SP.out.next b5)
                              replace SQ := Lib.hid (SQ.out.next b5)
                              replace KW := Lib.hid (KW.out.next b5)
                              replace B := Lib.hid (thn B.out b5)
                              clear b5
                              obtain ⟨x0, x1, x2, x3⟩ := KX.out.cells
                              obtain ⟨y0, y1, y2, y3⟩ := KY.out.cells
                              have s0 := KS.out.cell
                              go_wp2_with fail
                              have hc := HDD.out.put (some ⟨bp, op, none⟩) n75 c75 p75 Y hy self 30 w11 SP.out HFP.out (Sn.next FY.out B.out) H1Y.out HSF.out (by decide) HRP.out
                              rw [put_yes (by rw [MP.out]; exact HTW.out.againY), show refuseD (p75.map (·.1)) Y self 30 = true from by rw [MP.out]; exact HTW.out.againY] at hc
                              refine hc.mono ?_
                              clear hc
                              rintro e w12 ⟨A17, n17, c17, q17, rfl, m17, d17, b5⟩
                              clear x0 x1 x2 x3 y0 y1 y2 y3 s0
                              have S17 := Lib.hid d17.sds
                              have M17 := Lib.hid m17
                              clear d17 m17
                              replace KX := Lib.hid (KX.out.next b5)
                              replace KY := Lib.hid (KY.out.next b5)
                              replace KS := Lib.hid (KS.out.next b5)
                              replace SP := Lib.hid (SP.out.next b5)
                              replace SQ := Lib.hid (SQ.out.next b5)
                              replace KW := Lib.hid (KW.out.next b5)
                              replace S15 := Lib.hid (S15.out.next b5)
                              replace B := Lib.hid (thn B.out b5)
                              clear b5
                              obtain ⟨x0, x1, x2, x3⟩ := KX.out.cells
                              obtain ⟨y0, y1, y2, y3⟩ := KY.out.cells
                              have s0 := KS.out.cell
                              go_upto_region 17 with fail
                              clear x0 x1 x2 x3 y0 y1 y2 y3 s0
                              obtain ⟨b2, o2, z2, hA, hz2, hm2, HCZ⟩ := SP.out.cells hkn
                              injection hA with hA
                              injection hA with e1 e2 e3
                              subst e1 e2
                              clear e3
                              have HZ2 : Hid (z2.1 = Y) := by have h1 := congrArg (fun l : List Dsc => l[kk]?) MP.out; obtain ⟨kq, hq1, hq2, hq3⟩ := HTW.out.at_; have hq : kq = kk := (by have h2 := HK1.out; rw [MP.out] at h2; omega); subst hq; simp only [List.getElem?_map, hz2, hq3, Option.map_some] at h1; exact Option.some.inj h1
                              have FZ2 := Lib.hid (SP.out.fl z2 hm2)
                              have F1Z : Hid (Fit1 z2.1) := HFP.out.all z2 hm2
                              clear hz2 hm2
                              refine wp_region_typed 27 [(133, .val (.slice (some ⟨bp, op, none⟩) n75 c75)), (134, .val (.int .i64 (kk : Int))), (135, .val (.pointer (some ⟨bp, op + kk * 4, none⟩))), (136, .val (.agg #[.int .u8 z2.1.1, .int .u16 z2.1.2.1, .int .u8 z2.1.2.2.1, .slice z2.2.1 z2.2.2.1 z2.2.2.2])), (137, .val (.agg #[.int .u8 Y.1, .int .u16 Y.2.1, .int .u8 Y.2.2.1, .slice hy.1 hy.2.1 hy.2.2])), (138, .val (.bool true)), (139, .val (.bool true)), (140, .val (.bool false)), (141, .val (.bool true)), (142, .val (.bool true)), (143, .val (.bool true)), (144, .val (.bool false)), (145, .val (.bool true)), (146, .val (.bool true)), (147, .val (.bool true)), (148, .val (.slice A15 n15 c15)), (149, .val (.slice (some ⟨bp, op, none⟩) n75 c75)), (150, .val (.bool true)), (151, .val (.bool true)), (152, .val (.bool true)), (153, .val (.slice A17 n17 c17)), (154, .val (.slice (some ⟨bp, op, none⟩) n75 c75)), (155, .val (.bool true)), (156, .val (.bool true)), (157, .val (.bool true)), (158, .val (.bool true)), (159, .val (.bool true))]
                                [[], [], [133, 134], [135], [], [136, 137], [138], [139], [139, 140], [139, 141], [142], [143], [143, 144], [143, 145], [146], [147], [147], [147, 148, 149], [147, 150], [151], [152], [152], [152, 153, 154], [152, 155], [156], [157], [157, 158]] (by kernel_rfl) (by kernel_rfl) ?_ ?_
                              rotate_left
                              · intro v13 hb
                                simp only [List.take_succ_cons, List.take_zero, List.drop_succ_cons, List.drop_zero]
                                refine over_ds (ds := [133, 134, 135, 136, 137, 138, 139, 140, 141, 142, 143, 144, 145, 146, 147, 148, 149, 150, 151, 152, 153, 154, 155, 156, 157, 158, 159]) (by kernel_rfl) ?_
                                refine over_some (ds1 := [133, 134, 135, 136, 137, 138, 139, 140, 141, 142, 143, 144, 145, 146, 147, 148, 149, 150, 151, 152, 153, 154, 155, 156, 157, 158, 159]) (ds2 := []) [(.slice (some ⟨bp, op, none⟩) n75 c75), (.int .i64 (kk : Int)), (.pointer (some ⟨bp, op + kk * 4, none⟩)), (.agg #[.int .u8 z2.1.1, .int .u16 z2.1.2.1, .int .u8 z2.1.2.2.1, .slice z2.2.1 z2.2.2.1 z2.2.2.2]), (.agg #[.int .u8 Y.1, .int .u16 Y.2.1, .int .u8 Y.2.2.1, .slice hy.1 hy.2.1 hy.2.2]), (.bool true), (.bool true), (.bool false), (.bool true), (.bool true), (.bool true), (.bool false), (.bool true), (.bool true), (.bool true), (.slice A15 n15 c15), (.slice (some ⟨bp, op, none⟩) n75 c75), (.bool true), (.bool true), (.bool true), (.slice A17 n17 c17), (.slice (some ⟨bp, op, none⟩) n75 c75), (.bool true), (.bool true), (.bool true), (.bool true), (.bool true)] (by kernel_rfl) ?_
                                refine over_nil ?_
                                simp only [putAll, put_lit, List.set_cons_succ, List.set_cons_zero]
                                replace KX := Lib.hid (KX.out.next hb)
                                replace KY := Lib.hid (KY.out.next hb)
                                replace KS := Lib.hid (KS.out.next hb)
                                replace SP := Lib.hid (SP.out.next hb)
                                replace SQ := Lib.hid (SQ.out.next hb)
                                replace KW := Lib.hid (KW.out.next hb)
                                replace S15 := Lib.hid (S15.out.next hb)
                                replace S17 := Lib.hid (S17.out.next hb)
                                replace B := Lib.hid (thn B.out hb)
                                clear hb
                                go_wp2
                                go_ret
                                exact ⟨rfl, B.out⟩
                              simp only [List.take_succ_cons, List.take_zero]
                              refine ⟨?r17g0, ?r17g1, ?r17g2, ?r17g3, ?r17g4, ?r17g5, ?r17g6, ?r17g7, ?r17g8, ?r17g9, ?r17g10, ?r17g11, ?r17g12, ?r17g13, ?r17g14, ?r17g15, ?r17g16, ?r17g17, ?r17g18, ?r17g19, ?r17g20, ?r17g21, ?r17g22, ?r17g23, ?r17g24, ?r17g25, ?r17g26, trivial⟩
                              case r17g0 => as_aux_lemma =>
                                intro w9 hb
                                refine over_nil ?_
                                go_wp2
                                first | exact post_of (by rfl) (by rfl) (Below.refl _ _) (by rfl) | exact rfl
                              case r17g1 => as_aux_lemma =>
                                intro w9 hb
                                refine over_nil ?_
                                go_wp2
                                first | exact post_of (by rfl) (by rfl) (Below.refl _ _) (by rfl) | exact rfl
                              case r17g2 => as_aux_lemma =>
                                intro w9 hb
                                refine over_some (ds1 := [133, 134]) (ds2 := []) [(.slice (some ⟨bp, op, none⟩) n75 c75), (.int .i64 (kk : Int))] (by kernel_rfl) ?_
                                refine over_nil ?_
                                simp only [putAll, put_lit, List.set_cons_succ, List.set_cons_zero]
                                go_wp2
                                first | exact post_of (by rfl) (by rfl) (Below.refl _ _) (by rfl) | exact rfl
                              case r17g3 => as_aux_lemma =>
                                intro w9 hb
                                refine over_some (ds1 := [135]) (ds2 := []) [(.pointer (some ⟨bp, op + kk * 4, none⟩))] (by kernel_rfl) ?_
                                refine over_nil ?_
                                simp only [putAll, put_lit, List.set_cons_succ, List.set_cons_zero]
                                obtain ⟨p0, q0, r0, s0⟩ := HCZ.out w9 hb
                                go_wp2
                                first | exact post_of (by rfl) (by rfl) (Below.refl _ _) (by rfl) | exact rfl
                              case r17g4 => as_aux_lemma =>
                                intro w9 hb
                                refine over_nil ?_
                                obtain ⟨p0, q0, r0, s0⟩ := (KW.out.next hb).cells
                                go_wp2
                                first | exact post_of (by rfl) (by rfl) (Below.refl _ _) (by rfl) | exact rfl
                              case r17g5 => as_aux_lemma =>
                                intro w9 hb
                                refine over_some (ds1 := [136, 137]) (ds2 := []) [(.agg #[.int .u8 z2.1.1, .int .u16 z2.1.2.1, .int .u8 z2.1.2.2.1, .slice z2.2.1 z2.2.2.1 z2.2.2.2]), (.agg #[.int .u8 Y.1, .int .u16 Y.2.1, .int .u8 Y.2.2.1, .slice hy.1 hy.2.1 hy.2.2])] (by kernel_rfl) ?_
                                refine over_nil ?_
                                simp only [putAll, put_lit, List.set_cons_succ, List.set_cons_zero]
                                go_wp2_with fail
                                have hc2 := HDD.out.same z2 (Y, hy) w9 (Sn.next FZ2.out hb) (Sn.next FY.out (thn B.out hb)) F1Z.out H1Y.out
                                rw [show decide (z2.1 = ((Y, hy) : Dsc × Hd).1) = true from decide_eq_true HZ2.out] at hc2
                                refine hc2.mono ?_
                                clear hc2
                                rintro e w8 ⟨rfl, b6⟩
                                go_wp2
                                exact post_of (by rfl) (by rfl) b6 (by rfl)
                              case r17g6 => as_aux_lemma =>
                                intro w9 hb
                                refine over_some (ds1 := [138]) (ds2 := []) [(.bool true)] (by kernel_rfl) ?_
                                refine over_nil ?_
                                simp only [putAll, put_lit, List.set_cons_succ, List.set_cons_zero]
                                go_wp2
                                first | exact post_of (by rfl) (by rfl) (Below.refl _ _) (by rfl) | exact rfl
                              case r17g7 => as_aux_lemma =>
                                intro w9 hb
                                refine over_some (ds1 := [139]) (ds2 := []) [(.bool true)] (by kernel_rfl) ?_
                                refine over_nil ?_
                                simp only [putAll, put_lit, List.set_cons_succ, List.set_cons_zero]
                                go_wp2
                                first | exact post_of (by rfl) (by rfl) (Below.refl _ _) (by rfl) | exact rfl
                              case r17g8 => as_aux_lemma =>
                                intro w9 hb
                                refine over_some (ds1 := [139, 140]) (ds2 := []) [(.bool true), (.bool false)] (by kernel_rfl) ?_
                                refine over_nil ?_
                                simp only [putAll, put_lit, List.set_cons_succ, List.set_cons_zero]
                                go_wp2
                                first | exact post_of (by rfl) (by rfl) (Below.refl _ _) (by rfl) | exact rfl
                              case r17g9 => as_aux_lemma =>
                                intro w9 hb
                                refine over_some (ds1 := [139, 141]) (ds2 := []) [(.bool true), (.bool true)] (by kernel_rfl) ?_
                                refine over_nil ?_
                                simp only [putAll, put_lit, List.set_cons_succ, List.set_cons_zero]
                                go_wp2
                                first | exact post_of (by rfl) (by rfl) (Below.refl _ _) (by rfl) | exact rfl
                              case r17g10 => as_aux_lemma =>
                                intro w9 hb
                                refine over_some (ds1 := [142]) (ds2 := []) [(.bool true)] (by kernel_rfl) ?_
                                refine over_nil ?_
                                simp only [putAll, put_lit, List.set_cons_succ, List.set_cons_zero]
                                go_wp2
                                first | exact post_of (by rfl) (by rfl) (Below.refl _ _) (by rfl) | exact rfl
                              case r17g11 => as_aux_lemma =>
                                intro w9 hb
                                refine over_some (ds1 := [143]) (ds2 := []) [(.bool true)] (by kernel_rfl) ?_
                                refine over_nil ?_
                                simp only [putAll, put_lit, List.set_cons_succ, List.set_cons_zero]
                                go_wp2
                                first | exact post_of (by rfl) (by rfl) (Below.refl _ _) (by rfl) | exact rfl
                              case r17g12 => as_aux_lemma =>
                                intro w9 hb
                                refine over_some (ds1 := [143, 144]) (ds2 := []) [(.bool true), (.bool false)] (by kernel_rfl) ?_
                                refine over_nil ?_
                                simp only [putAll, put_lit, List.set_cons_succ, List.set_cons_zero]
                                go_wp2
                                first | exact post_of (by rfl) (by rfl) (Below.refl _ _) (by rfl) | exact rfl
                              case r17g13 => as_aux_lemma =>
                                intro w9 hb
                                refine over_some (ds1 := [143, 145]) (ds2 := []) [(.bool true), (.bool true)] (by kernel_rfl) ?_
                                refine over_nil ?_
                                simp only [putAll, put_lit, List.set_cons_succ, List.set_cons_zero]
                                go_wp2
                                first | exact post_of (by rfl) (by rfl) (Below.refl _ _) (by rfl) | exact rfl
                              case r17g14 => as_aux_lemma =>
                                intro w9 hb
                                refine over_some (ds1 := [146]) (ds2 := []) [(.bool true)] (by kernel_rfl) ?_
                                refine over_nil ?_
                                simp only [putAll, put_lit, List.set_cons_succ, List.set_cons_zero]
                                go_wp2
                                first | exact post_of (by rfl) (by rfl) (Below.refl _ _) (by rfl) | exact rfl
                              case r17g15 => as_aux_lemma =>
                                intro w9 hb
                                refine over_some (ds1 := [147]) (ds2 := []) [(.bool true)] (by kernel_rfl) ?_
                                refine over_nil ?_
                                simp only [putAll, put_lit, List.set_cons_succ, List.set_cons_zero]
                                go_wp2
                                first | exact post_of (by rfl) (by rfl) (Below.refl _ _) (by rfl) | exact rfl
                              case r17g16 => as_aux_lemma =>
                                intro w9 hb
                                refine over_some (ds1 := [147]) (ds2 := []) [(.bool true)] (by kernel_rfl) ?_
                                refine over_nil ?_
                                simp only [putAll, put_lit, List.set_cons_succ, List.set_cons_zero]
                                go_wp2
                                first | exact post_of (by rfl) (by rfl) (Below.refl _ _) (by rfl) | exact rfl
                              case r17g17 => as_aux_lemma =>
                                intro w9 hb
                                refine over_some (ds1 := [147, 148, 149]) (ds2 := []) [(.bool true), (.slice A15 n15 c15), (.slice (some ⟨bp, op, none⟩) n75 c75)] (by kernel_rfl) ?_
                                refine over_nil ?_
                                simp only [putAll, put_lit, List.set_cons_succ, List.set_cons_zero]
                                go_wp2_with fail
                                have hc2 := descs_any A15 n15 c15 q15 (some ⟨bp, op, none⟩) n75 c75 p75 w9 (S15.out.next hb) (SP.out.next hb)
                                rw [show decide (q15.map (·.1) = p75.map (·.1)) = true from decide_eq_true M15.out] at hc2
                                refine hc2.mono ?_
                                clear hc2
                                rintro e w8 ⟨rfl, b6⟩
                                go_wp2
                                exact post_of (by rfl) (by rfl) b6 (by rfl)
                              case r17g18 => as_aux_lemma =>
                                intro w9 hb
                                refine over_some (ds1 := [147, 150]) (ds2 := []) [(.bool true), (.bool true)] (by kernel_rfl) ?_
                                refine over_nil ?_
                                simp only [putAll, put_lit, List.set_cons_succ, List.set_cons_zero]
                                go_wp2
                                first | exact post_of (by rfl) (by rfl) (Below.refl _ _) (by rfl) | exact rfl
                              case r17g19 => as_aux_lemma =>
                                intro w9 hb
                                refine over_some (ds1 := [151]) (ds2 := []) [(.bool true)] (by kernel_rfl) ?_
                                refine over_nil ?_
                                simp only [putAll, put_lit, List.set_cons_succ, List.set_cons_zero]
                                go_wp2
                                first | exact post_of (by rfl) (by rfl) (Below.refl _ _) (by rfl) | exact rfl
                              case r17g20 => as_aux_lemma =>
                                intro w9 hb
                                refine over_some (ds1 := [152]) (ds2 := []) [(.bool true)] (by kernel_rfl) ?_
                                refine over_nil ?_
                                simp only [putAll, put_lit, List.set_cons_succ, List.set_cons_zero]
                                go_wp2
                                first | exact post_of (by rfl) (by rfl) (Below.refl _ _) (by rfl) | exact rfl
                              case r17g21 => as_aux_lemma =>
                                intro w9 hb
                                refine over_some (ds1 := [152]) (ds2 := []) [(.bool true)] (by kernel_rfl) ?_
                                refine over_nil ?_
                                simp only [putAll, put_lit, List.set_cons_succ, List.set_cons_zero]
                                go_wp2
                                first | exact post_of (by rfl) (by rfl) (Below.refl _ _) (by rfl) | exact rfl
                              case r17g22 => as_aux_lemma =>
                                intro w9 hb
                                refine over_some (ds1 := [152, 153, 154]) (ds2 := []) [(.bool true), (.slice A17 n17 c17), (.slice (some ⟨bp, op, none⟩) n75 c75)] (by kernel_rfl) ?_
                                refine over_nil ?_
                                simp only [putAll, put_lit, List.set_cons_succ, List.set_cons_zero]
                                go_wp2_with fail
                                have hc2 := descs_any A17 n17 c17 q17 (some ⟨bp, op, none⟩) n75 c75 p75 w9 (S17.out.next hb) (SP.out.next hb)
                                rw [show decide (q17.map (·.1) = p75.map (·.1)) = true from decide_eq_true M17.out] at hc2
                                refine hc2.mono ?_
                                clear hc2
                                rintro e w8 ⟨rfl, b6⟩
                                go_wp2
                                exact post_of (by rfl) (by rfl) b6 (by rfl)
                              case r17g23 => as_aux_lemma =>
                                intro w9 hb
                                refine over_some (ds1 := [152, 155]) (ds2 := []) [(.bool true), (.bool true)] (by kernel_rfl) ?_
                                refine over_nil ?_
                                simp only [putAll, put_lit, List.set_cons_succ, List.set_cons_zero]
                                go_wp2
                                first | exact post_of (by rfl) (by rfl) (Below.refl _ _) (by rfl) | exact rfl
                              case r17g24 => as_aux_lemma =>
                                intro w9 hb
                                refine over_some (ds1 := [156]) (ds2 := []) [(.bool true)] (by kernel_rfl) ?_
                                refine over_nil ?_
                                simp only [putAll, put_lit, List.set_cons_succ, List.set_cons_zero]
                                go_wp2
                                first | exact post_of (by rfl) (by rfl) (Below.refl _ _) (by rfl) | exact rfl
                              case r17g25 => as_aux_lemma =>
                                intro w9 hb
                                refine over_some (ds1 := [157]) (ds2 := []) [(.bool true)] (by kernel_rfl) ?_
                                refine over_nil ?_
                                simp only [putAll, put_lit, List.set_cons_succ, List.set_cons_zero]
                                go_wp2_with fail
                                have hc2 := awake_any HDD.out w9
                                refine hc2.mono ?_
                                clear hc2
                                rintro e w8 ⟨rfl, b6⟩
                                go_wp2
                                exact post_of (by rfl) (by rfl) b6 (by rfl)
                              case r17g26 => as_aux_lemma =>
                                intro w9 hb
                                refine over_some (ds1 := [157, 158]) (ds2 := []) [(.bool true), (.bool true)] (by kernel_rfl) ?_
                                refine over_nil ?_
                                simp only [putAll, put_lit, List.set_cons_succ, List.set_cons_zero]
                                go_wp2
                                first | exact post_of (by rfl) (by rfl) (Below.refl _ _) (by rfl) | exact rfl
                      simp only [List.take_succ_cons, List.take_zero]
                      refine ⟨?r8g0, ?r8g1, ?r8g2, ?r8g3, ?r8g4, ?r8g5, ?r8g6, ?r8g7, trivial⟩
                      case r8g0 => as_aux_lemma =>
                        intro w9 hb
                        refine over_nil ?_
                        go_wp2
                        first | exact post_of (by rfl) (by rfl) (Below.refl _ _) (by rfl) | exact rfl
                      case r8g1 => as_aux_lemma =>
                        intro w9 hb
                        refine over_nil ?_
                        obtain ⟨p0, q0, r0, s0⟩ := (KX.out.next hb).cells
                        go_wp2
                        first | exact post_of (by rfl) (by rfl) (Below.refl _ _) (by rfl) | exact rfl
                      case r8g2 => as_aux_lemma =>
                        intro w9 hb
                        refine over_nil ?_
                        obtain ⟨p0, q0, r0, s0⟩ := (KY.out.next hb).cells
                        go_wp2
                        first | exact post_of (by rfl) (by rfl) (Below.refl _ _) (by rfl) | exact rfl
                      case r8g3 => as_aux_lemma =>
                        intro w9 hb
                        refine over_some (ds1 := [72, 73, 74]) (ds2 := []) [(.func (.func 29) #[] #[.pointer (some ⟨g9, 0, none⟩), .pointer (some ⟨g7, 0, none⟩)]), (.agg #[.int .u8 X.1, .int .u16 X.2.1, .int .u8 X.2.2.1, .slice hx.1 hx.2.1 hx.2.2]), (.agg #[.int .u8 Y.1, .int .u16 Y.2.1, .int .u8 Y.2.2.1, .slice hy.1 hy.2.1 hy.2.2])] (by kernel_rfl) ?_
                        refine over_nil ?_
                        simp only [putAll, put_lit, List.set_cons_succ, List.set_cons_zero]
                        go_wp2_with fail
                        refine (new1_any HDD.out g9 g7 A70 n70 c70 o70 X Y hx hy self w9 (K9.out.next hb).cell (KS.out.next hb).cell (K9.out.next hb).lt (KS.out.next hb).lt (SO.out.next hb) HFO.out (HRO.out.wider (by decide)) HSF.out (Sn.next FX.out (thn B.out hb)) (Sn.next FY.out (thn B.out hb)) H1X.out H1Y.out).mono ?_
                        rintro e w8 ⟨A8, n8, c8, o8, rfl, m8, d8, b6⟩
                        have D8 := Lib.hid d8.sds
                        have M8 := Lib.hid (m8.trans HTW.out.one)
                        clear d8 m8
                        go_wp2
                        exact post_of (by rfl) (by rfl) b6 (by exact ⟨_, _, _, _, rfl, M8.out, D8.out⟩)
                      case r8g4 => as_aux_lemma =>
                        intro w9 hb
                        refine over_nil ?_
                        go_wp2
                        first | exact post_of (by rfl) (by rfl) (Below.refl _ _) (by rfl) | exact rfl
                      case r8g5 => as_aux_lemma =>
                        intro w9 hb
                        refine over_nil ?_
                        obtain ⟨p0, q0, r0, s0⟩ := (KY.out.next hb).cells
                        go_wp2
                        first | exact post_of (by rfl) (by rfl) (Below.refl _ _) (by rfl) | exact rfl
                      case r8g6 => as_aux_lemma =>
                        intro w9 hb
                        refine over_nil ?_
                        obtain ⟨p0, q0, r0, s0⟩ := (KX.out.next hb).cells
                        go_wp2
                        first | exact post_of (by rfl) (by rfl) (Below.refl _ _) (by rfl) | exact rfl
                      case r8g7 => as_aux_lemma =>
                        intro w9 hb
                        refine over_some (ds1 := [76, 77, 78]) (ds2 := []) [(.func (.func 29) #[] #[.pointer (some ⟨g9, 0, none⟩), .pointer (some ⟨g7, 0, none⟩)]), (.agg #[.int .u8 Y.1, .int .u16 Y.2.1, .int .u8 Y.2.2.1, .slice hy.1 hy.2.1 hy.2.2]), (.agg #[.int .u8 X.1, .int .u16 X.2.1, .int .u8 X.2.2.1, .slice hx.1 hx.2.1 hx.2.2])] (by kernel_rfl) ?_
                        refine over_nil ?_
                        simp only [putAll, put_lit, List.set_cons_succ, List.set_cons_zero]
                        go_wp2_with fail
                        refine (new1_any HDD.out g9 g7 A70 n70 c70 o70 Y X hy hx self w9 (K9.out.next hb).cell (KS.out.next hb).cell (K9.out.next hb).lt (KS.out.next hb).lt (SO.out.next hb) HFO.out (HRO.out.wider (by decide)) HSF.out (Sn.next FY.out (thn B.out hb)) (Sn.next FX.out (thn B.out hb)) H1Y.out H1X.out).mono ?_
                        rintro e w8 ⟨A8, n8, c8, o8, rfl, m8, d8, b6⟩
                        have D8 := Lib.hid d8.sds
                        have M8 := Lib.hid (m8.trans HTW.out.two)
                        clear d8 m8
                        go_wp2
                        exact post_of (by rfl) (by rfl) b6 (by exact ⟨_, _, _, _, rfl, M8.out, D8.out⟩)
                  simp only [List.take_succ_cons, List.take_zero]
                  refine ⟨?r6g0, ?r6g1, ?r6g2, ?r6g3, ?r6g4, ?r6g5, ?r6g6, trivial⟩
                  case r6g0 => as_aux_lemma =>
                    intro w9 hb
                    refine over_nil ?_
                    go_wp2
                    first | exact post_of (by rfl) (by rfl) (Below.refl _ _) (by rfl) | exact rfl
                  case r6g1 => as_aux_lemma =>
                    intro w9 hb
                    refine over_nil ?_
                    have p0 := (KS.out.next hb).cell
                    go_wp2
                    first | exact post_of (by rfl) (by rfl) (Below.refl _ _) (by rfl) | exact rfl
                  case r6g2 => as_aux_lemma =>
                    intro w9 hb
                    refine over_some (ds1 := [65, 66]) (ds2 := []) [(.slice A n c), (.int .u8 self)] (by kernel_rfl) ?_
                    refine over_nil ?_
                    simp only [putAll, put_lit, List.set_cons_succ, List.set_cons_zero]
                    go_wp2_with fail
                    refine (view_any A n c xs self 20 w9 (HS.out.next (thn B.out hb)) HR.out (by decide)).mono ?_
                    rintro e w8 ⟨A8, n8, c8, z8, rfl, v8, s8, b6⟩
                    have S8 := Lib.hid s8.sds
                    have V8 := Lib.hid v8
                    clear s8 v8
                    go_wp2
                    exact post_of (by rfl) (by rfl) b6 (by exact ⟨_, _, _, _, rfl, V8.out, S8.out⟩)
                  case r6g3 => as_aux_lemma =>
                    intro w9 hb
                    refine over_nil ?_
                    go_wp2
                    first | exact post_of (by rfl) (by rfl) (Below.refl _ _) (by rfl) | exact rfl
                  case r6g4 => as_aux_lemma =>
                    intro w9 hb
                    refine over_some (ds1 := [68]) (ds2 := []) [(.pointer (some ⟨g5, 0, none⟩))] (by kernel_rfl) ?_
                    refine over_nil ?_
                    simp only [putAll, put_lit, List.set_cons_succ, List.set_cons_zero]
                    obtain ⟨p0, q0, r0, s0⟩ := (KX.out.next hb).cells
                    go_wp2
                    first | exact post_of (by rfl) (by rfl) (Below.refl _ _) (by rfl) | exact rfl
                  case r6g5 => as_aux_lemma =>
                    intro w9 hb
                    refine over_pred rfl ?_
                    rintro _ ⟨A67, n67, c67, z67, rfl, v67, s67⟩
                    refine over_some (ds1 := [69]) (ds2 := []) [(.int .u8 X.1)] (by kernel_rfl) ?_
                    refine over_nil ?_
                    simp only [putAll, put_lit, List.set_cons_succ, List.set_cons_zero]
                    have V67 := Lib.hid v67
                    have S67 := Lib.hid s67
                    clear v67 s67
                    go_wp2_with fail
                    refine (HDD.out.drop A67 n67 c67 z67 X.1 w9 S67.out (view_fit V67.out HFX.out (by decide) S67.out.len) ⟨self, 20, V67.out.right⟩ HXB.out).mono ?_
                    rintro e w8 ⟨A8, n8, c8, o8, rfl, m8, d8, b6⟩
                    have D8 := Lib.hid (d8.mono (thn B.out hb).size)
                    have M8 := Lib.hid m8
                    clear d8 m8
                    go_wp2
                    exact post_of (by rfl) (by rfl) b6 (by exact ⟨_, _, _, _, _, rfl, V67.out, M8.out, D8.out⟩)
                  case r6g6 => as_aux_lemma =>
                    intro w9 hb
                    refine over_nil ?_
                    go_wp2
                    exact post_of (by rfl) (by rfl) (below_lit _ _) (by exact ⟨_, rfl, hb.size, CBlk.new _ _ _⟩)
          · as_aux_lemma =>
              have HNE : Hid (¬ (X.2.1 = Y.2.1 ∧ X.2.2.1 = Y.2.2.1)) := by unfold Hid; omega
              have HNV : Hid (newerD Y X = false) := by unfold Hid newerD; rw [if_neg (by omega), decide_eq_false (by omega)]
              have e2b : (X.2.1 == Y.2.1) = false := by simp; omega
              have e2c : (Y.2.1 == X.2.1) = false := by simp; omega
              have e2d : ¬ X.2.1 < Y.2.1 := by omega
              clear e2
              obtain ⟨x0, x1, x2, x3⟩ := KX.out.cells
              obtain ⟨y0, y1, y2, y3⟩ := KY.out.cells
              have s0 := KS.out.cell
              go_upto_region 6 with fail
              clear x0 x1 x2 x3 y0 y1 y2 y3 s0
              have HB3 : Hid (w.heap.size ≤ w3.heap.size) := B.out.size
              have HL5 : Hid (g5 < w3.heap.size) := KX.out.lt
              have HL6 : Hid (g6 < w3.heap.size) := KY.out.lt
              have HL7 : Hid (g7 < w3.heap.size) := KS.out.lt
              refine wp_region_typed 7 [(65, .val (.slice A n c)), (66, .val (.int .u8 self)), (67, tyVw xs self), (68, .val (.pointer (some ⟨g5, 0, none⟩))), (69, .val (.int .u8 X.1)), (70, tyVd xs self X.1 w.heap.size), (9, tyC (.slice none 0 0) 22 w3.heap.size)]
                [[], [], [65, 66], [], [68], [67, 69], []] (by kernel_rfl) (by kernel_rfl) ?_ ?_
              rotate_left
              · intro v4 hb
                simp only [List.take_succ_cons, List.take_zero, List.drop_succ_cons, List.drop_zero]
                refine over_ds (ds := [65, 66, 67, 68, 69, 70, 9]) (by kernel_rfl) ?_
                refine over_some (ds1 := [65, 66]) (ds2 := [67, 68, 69, 70, 9]) [(.slice A n c), (.int .u8 self)] (by kernel_rfl) ?_
                refine over_pred rfl ?_
                rintro _ ⟨A67, n67, c67, z67, rfl, v67, s67⟩
                refine over_some (ds1 := [68, 69]) (ds2 := [70, 9]) [(.pointer (some ⟨g5, 0, none⟩)), (.int .u8 X.1)] (by kernel_rfl) ?_
                refine over_pred rfl ?_
                rintro _ ⟨A70, n70, c70, o70, zv, rfl, v70, m70, d70⟩
                refine over_pred rfl ?_
                rintro _ ⟨g9, rfl, b9, k9⟩
                refine over_nil ?_
                simp only [putAll, put_lit, List.set_cons_succ, List.set_cons_zero]
                replace KX := Lib.hid (KX.out.next hb)
                replace KY := Lib.hid (KY.out.next hb)
                replace KS := Lib.hid (KS.out.next hb)
                replace B := Lib.hid (thn B.out hb)
                clear hb
                as_aux_lemma =>
                  have K9 := Lib.hid k9
                  have K9 := Lib.hid k9
                  have V70 := Lib.hid v70
                  have M70 := Lib.hid m70
                  have D70 := Lib.hid d70
                  have L9 : Hid (w.heap.size ≤ g9) := Nat.le_trans HB3.out b9
                  have n95 : g9 ≠ g5 := by have := HL5.out; omega
                  have n96 : g9 ≠ g6 := by have := HL6.out; omega
                  have n97 : g9 ≠ g7 := by have := HL7.out; omega
                  have n59 : g5 ≠ g9 := n95.symm
                  have n69 : g6 ≠ g9 := n96.symm
                  have n79 : g7 ≠ g9 := n97.symm
                  clear k9 v70 m70 d70 v67 s67 b9
                  have c9 := K9.out.cell
                  have f9 := K9.out.free
                  go_upto_region 8 with fail
                  have hgs := grown_set v4 g9 0 (.slice A70 n70 c70)
                  replace KX := Lib.hid (KX.out.grown hgs n59)
                  replace KY := Lib.hid (KY.out.grown hgs n69)
                  replace KS := Lib.hid (KS.out.grown hgs n79)
                  replace B := Lib.hid (belowG B.out hgs B.out.size L9.out)
                  replace D70 := Lib.hid (D70.out.offC K9.out (by decide) (by decide) (.slice A70 n70 c70))
                  replace K9 := Lib.hid (K9.out.put (.slice A70 n70 c70))
                  clear hgs c9 f9
                  generalize v4.setCell ⟨g9, 0, none⟩ (.slice A70 n70 c70) = u5 at *
                  have SO := Lib.hid D70.out.sds
                  clear D70
                  have HRO : Hid (RightD (o70.map (·.1)) self 20) := by unfold Hid; rw [M70.out]; exact right_drop V70.out.right X.1
                  have HFO : Hid (Fit n70 o70) := fit_of M70.out (by have h1 := HRO.out.2.2.2; rw [List.length_map] at h1; have := SO.out.len; omega) fun d hd => by obtain ⟨z, hz, rfl⟩ := List.mem_map.1 (dropD_mem.1 hd).1; exact V70.out.well HFX.out.all z hz
                  have HNF : Hid (findI (o70.map (·.1)) X.1 < 0) := by unfold Hid; rw [M70.out, find_drop]; decide
                  obtain ⟨PD, hPD⟩ : ∃ PD, PD = insL (o70.map (·.1)) X := ⟨_, rfl⟩
                  have HTW : Hid (Two (o70.map (·.1)) X Y X self PD) := by rw [hPD]; exact two_of HRO.out HNF.out HXY.out HNS.out HA0.out HB0.out HNE.out (by rw [HNV.out]; rfl)
                  have HFPD : Hid (∀ d ∈ PD, Fit1 d) := HTW.out.fit HRO.out H1X.out H1Y.out fun d hd => by obtain ⟨z, hz, rfl⟩ := List.mem_map.1 hd; exact HFO.out.all z hz
                  clear hPD V70 M70 HB3 HL5 HL6 HL7
                  refine wp_region_typed 8 [(72, .val (.func (.func 29) #[] #[.pointer (some ⟨g9, 0, none⟩), .pointer (some ⟨g7, 0, none⟩)])), (73, .val (.agg #[.int .u8 X.1, .int .u16 X.2.1, .int .u8 X.2.2.1, .slice hx.1 hx.2.1 hx.2.2])), (74, .val (.agg #[.int .u8 Y.1, .int .u16 Y.2.1, .int .u8 Y.2.2.1, .slice hy.1 hy.2.1 hy.2.2])), (75, tyD9 PD), (76, .val (.func (.func 29) #[] #[.pointer (some ⟨g9, 0, none⟩), .pointer (some ⟨g7, 0, none⟩)])), (77, .val (.agg #[.int .u8 Y.1, .int .u16 Y.2.1, .int .u8 Y.2.2.1, .slice hy.1 hy.2.1 hy.2.2])), (78, .val (.agg #[.int .u8 X.1, .int .u16 X.2.1, .int .u8 X.2.2.1, .slice hx.1 hx.2.1 hx.2.2])), (79, tyD9 PD)]
                    [[], [], [], [72, 73, 74], [], [], [], [76, 77, 78]] (by kernel_rfl) (by kernel_rfl) ?_ ?_
                  rotate_left
                  · intro v6 hb
                    simp only [List.take_succ_cons, List.take_zero, List.drop_succ_cons, List.drop_zero]
                    refine over_ds (ds := [72, 73, 74, 75, 76, 77, 78, 79]) (by kernel_rfl) ?_
                    refine over_some (ds1 := [72, 73, 74]) (ds2 := [75, 76, 77, 78, 79]) [(.func (.func 29) #[] #[.pointer (some ⟨g9, 0, none⟩), .pointer (some ⟨g7, 0, none⟩)]), (.agg #[.int .u8 X.1, .int .u16 X.2.1, .int .u8 X.2.2.1, .slice hx.1 hx.2.1 hx.2.2]), (.agg #[.int .u8 Y.1, .int .u16 Y.2.1, .int .u8 Y.2.2.1, .slice hy.1 hy.2.1 hy.2.2])] (by kernel_rfl) ?_
                    refine over_pred rfl ?_
                    rintro _ ⟨A75, n75, c75, p75, rfl, m75, s75⟩
                    refine over_some (ds1 := [76, 77, 78]) (ds2 := [79]) [(.func (.func 29) #[] #[.pointer (some ⟨g9, 0, none⟩), .pointer (some ⟨g7, 0, none⟩)]), (.agg #[.int .u8 Y.1, .int .u16 Y.2.1, .int .u8 Y.2.2.1, .slice hy.1 hy.2.1 hy.2.2]), (.agg #[.int .u8 X.1, .int .u16 X.2.1, .int .u8 X.2.2.1, .slice hx.1 hx.2.1 hx.2.2])] (by kernel_rfl) ?_
                    refine over_pred rfl ?_
                    rintro _ ⟨A79, n79, c79, p79, rfl, m79, s79⟩
                    refine over_nil ?_
                    simp only [putAll, put_lit, List.set_cons_succ, List.set_cons_zero]
                    replace KX := Lib.hid (KX.out.next hb)
                    replace KY := Lib.hid (KY.out.next hb)
                    replace KS := Lib.hid (KS.out.next hb)
                    replace K9 := Lib.hid (K9.out.next hb)
                    replace SO := Lib.hid (SO.out.next hb)
                    replace B := Lib.hid (thn B.out hb)
                    clear hb
                    as_aux_lemma =>
                      have SP := Lib.hid s75
                      have MP := Lib.hid m75
                      have SQ := Lib.hid s79
                      have MQ := Lib.hid m79
                      clear s75 m75 s79 m79
                      clear K9 SO HFO HRO HNF
                      obtain ⟨kk, hk1, hk2, hk3⟩ := HTW.out.at_
                      have HLP := Lib.hid SP.out.len
                      have HRP : Hid (RightD (p75.map (·.1)) self 30) := by unfold Hid; rw [MP.out]; exact HTW.out.right
                      have HFP : Hid (Fit n75 p75) := fit_of MP.out (by have h1 := HRP.out.2.2.2; rw [List.length_map] at h1; have := HLP.out; omega) HFPD.out
                      have hkn : kk < n75 := by have h1 := congrArg List.length MP.out; rw [List.length_map] at h1; rw [HLP.out, h1]; exact hk2
                      obtain ⟨bp, op, zp, rfl, hzp, _, HCZ⟩ := SP.out.cells hkn
                      have HZP : Hid (zp.1 = X) := by have h1 := congrArg (fun l : List Dsc => l[kk]?) MP.out; simp only [List.getElem?_map, hzp, hk3, Option.map_some] at h1; exact Option.some.inj h1
                      have FZP := Lib.hid (SP.out.fl zp (List.mem_of_getElem? hzp))
                      have HK1 : Hid (findI (p75.map (·.1)) X.1 = (kk : Int)) := by unfold Hid; rw [MP.out]; exact hk1
                      clear hzp hk1 hk2 hk3
                      have k0 : (0 : Int) ≤ (kk : Int) := by omega
                      have k1 : (kk : Int) < (n75 : Int) := by omega
                      have k2 : ¬ ((kk : Int) < 0) := by omega
                      have k3 : ¬ ((n75 : Int) ≤ (kk : Int)) := by omega
                      have hmp := SP.out.max
                      have hcp := SP.out.cap
                      unfold maxLen at hmp
                      obtain ⟨x0, x1, x2, x3⟩ := KX.out.cells
                      obtain ⟨y0, y1, y2, y3⟩ := KY.out.cells
                      have s0 := KS.out.cell
                      go_wp2_with fail
                      have hc := HDD.out.find (some ⟨bp, op, none⟩) n75 c75 p75 X.1 v6 SP.out HFP.out ⟨self, 30, HRP.out⟩ HXB.out
                      rw [HK1.out] at hc
                      refine hc.mono ?_
                      clear hc
                      rintro e w7 ⟨rfl, b5⟩
                      clear x0 x1 x2 x3 y0 y1 y2 y3 s0
                      replace KX := Lib.hid (KX.out.next b5)
                      replace KY := Lib.hid (KY.out.next b5)
                      replace KS := Lib.hid (KS.out.next b5)
                      replace SP := Lib.hid (SP.out.next b5)
                      replace SQ := Lib.hid (SQ.out.next b5)
                      replace B := Lib.hid (thn B.out b5)
                      clear b5
                      clear HCZ
                      obtain ⟨x0, x1, x2, x3⟩ := KX.out.cells
                      obtain ⟨y0, y1, y2, y3⟩ := KY.out.cells
                      have s0 := KS.out.cell
                      go_wp2_with fail
                      have hc := descs_any (some ⟨bp, op, none⟩) n75 c75 p75 A79 n79 c79 p79 w7 SP.out SQ.out
                      rw [show decide (p75.map (·.1) = p79.map (·.1)) = true from decide_eq_true (MP.out.trans MQ.out.symm)] at hc
                      refine hc.mono ?_
                      clear hc
                      rintro e w8 ⟨rfl, b5⟩
                      clear x0 x1 x2 x3 y0 y1 y2 y3 s0
                      replace KX := Lib.hid (KX.out.next b5)
                      replace KY := Lib.hid (KY.out.next b5)
                      replace KS := Lib.hid (KS.out.next b5)
                      replace SP := Lib.hid (SP.out.next b5)
                      replace SQ := Lib.hid (SQ.out.next b5)
                      replace B := Lib.hid (thn B.out b5)
                      clear b5
                      obtain ⟨x0, x1, x2, x3⟩ := KX.out.cells
                      obtain ⟨y0, y1, y2, y3⟩ := KY.out.cells
                      have s0 := KS.out.cell
                      go_upto_region 13 with fail
                      clear x0 x1 x2 x3 y0 y1 y2 y3 s0
                      as_aux_lemma =>
                        have BU : Hid (Below w8.heap.size w8 (w8.alloc (.cells #[.int .u8 X.1, .int .u16 X.2.1, .int .u8 X.2.2.1, .slice hx.1 hx.2.1 hx.2.2] 27))) := below_lit w8 (.cells #[.int .u8 X.1, .int .u16 X.2.1, .int .u8 X.2.2.1, .slice hx.1 hx.2.1 hx.2.2] 27)
                        have KW : Hid (DBlk (w8.alloc (.cells #[.int .u8 X.1, .int .u16 X.2.1, .int .u8 X.2.2.1, .slice hx.1 hx.2.1 hx.2.2] 27)) w8.heap.size X hx) := DBlk.new w8 X hx
                        generalize w8.alloc (.cells #[.int .u8 X.1, .int .u16 X.2.1, .int .u8 X.2.2.1, .slice hx.1 hx.2.1 hx.2.2] 27) = u9 at *
                        obtain ⟨g14, h14⟩ : ∃ g, w8.heap.size = g := ⟨_, rfl⟩
                        have LU : Hid (w8.heap.size ≤ g14) := Nat.le_of_eq h14
                        rw [h14] at KW ⊢
                        clear h14
                        obtain ⟨x0, x1, x2, x3⟩ := (KX.out.next BU.out).cells
                        obtain ⟨y0, y1, y2, y3⟩ := (KY.out.next BU.out).cells
                        have s0 := (KS.out.next BU.out).cell
                        obtain ⟨v0, v1, v2, v3⟩ := KW.out.cells
                        have fv0 := KW.out.free 0
                        have fv1 := KW.out.free 1
                        have fv2 := KW.out.free 2
                        have fv3 := KW.out.free 3
                        go_upto_region 15 with fail
                        clear x0 x1 x2 x3 y0 y1 y2 y3 s0
                        clear v0 v1 v2 v3 fv0 fv1 fv2 fv3
                        replace KX := Lib.hid (KX.out.next BU.out)
                        replace KY := Lib.hid (KY.out.next BU.out)
                        replace KS := Lib.hid (KS.out.next BU.out)
                        replace SP := Lib.hid (SP.out.next BU.out)
                        replace SQ := Lib.hid (SQ.out.next BU.out)
                        replace B := Lib.hid (thn B.out BU.out)
                        clear BU LU
                        as_aux_lemma =>
                          obtain ⟨x0, x1, x2, x3⟩ := KX.out.cells
                          obtain ⟨y0, y1, y2, y3⟩ := KY.out.cells
                          have s0 := KS.out.cell
                          go_wp2_with fail
                          have hc := HDD.out.put (some ⟨bp, op, none⟩) n75 c75 p75 X hx self 30 u9 SP.out HFP.out (Sn.next FX.out B.out) H1X.out HSF.out (by decide) HRP.out
                          rw [put_yes (by rw [MP.out]; exact HTW.out.againX), show refuseD (p75.map (·.1)) X self 30 = true from by rw [MP.out]; exact HTW.out.againX] at hc
                          refine hc.mono ?_
                          clear hc
                          rintro e w10 ⟨A15, n15, c15, q15, rfl, m15, d15, b5⟩
                          clear x0 x1 x2 x3 y0 y1 y2 y3 s0
                          have S15 := Lib.hid d15.sds
                          have M15 := Lib.hid m15
                          clear d15 m15
                          replace KX := Lib.hid (KX.out.next b5)
                          replace KY := Lib.hid (KY.out.next b5)
                          replace KS := Lib.hid (KS.out.next b5)
                          replace SP := Lib.hid (SP.out.next b5)
                          replace SQ := Lib.hid (SQ.out.next b5)
                          replace KW := Lib.hid (KW.out.next b5)
                          replace B := Lib.hid (thn B.out b5)
                          clear b5
                          obtain ⟨x0, x1, x2, x3⟩ := KX.out.cells
                          obtain ⟨y0, y1, y2, y3⟩ := KY.out.cells
                          have s0 := KS.out.cell
                          go_wp2_with fail
                          have hc := HDD.out.put (some ⟨bp, op, none⟩) n75 c75 p75 Y hy self 30 w10 SP.out HFP.out (Sn.next FY.out B.out) H1Y.out HSF.out (by decide) HRP.out
                          rw [put_yes (by rw [MP.out]; exact HTW.out.againY), show refuseD (p75.map (·.1)) Y self 30 = true from by rw [MP.out]; exact HTW.out.againY] at hc
                          refine hc.mono ?_
                          clear hc
                          rintro e w11 ⟨A17, n17, c17, q17, rfl, m17, d17, b5⟩
                          clear x0 x1 x2 x3 y0 y1 y2 y3 s0
                          have S17 := Lib.hid d17.sds
                          have M17 := Lib.hid m17
                          clear d17 m17
                          replace KX := Lib.hid (KX.out.next b5)
                          replace KY := Lib.hid (KY.out.next b5)
                          replace KS := Lib.hid (KS.out.next b5)
                          replace SP := Lib.hid (SP.out.next b5)
                          replace SQ := Lib.hid (SQ.out.next b5)
                          replace KW := Lib.hid (KW.out.next b5)
                          replace S15 := Lib.hid (S15.out.next b5)
                          replace B := Lib.hid (thn B.out b5)
                          clear b5
                          obtain ⟨x0, x1, x2, x3⟩ := KX.out.cells
                          obtain ⟨y0, y1, y2, y3⟩ := KY.out.cells
                          have s0 := KS.out.cell
                          go_upto_region 17 with fail
                          clear x0 x1 x2 x3 y0 y1 y2 y3 s0
                          obtain ⟨b2, o2, z2, hA, hz2, hm2, HCZ⟩ := SP.out.cells hkn
                          injection hA with hA
                          injection hA with e1 e2 e3
                          subst e1 e2
                          clear e3
                          have HZ2 : Hid (z2.1 = X) := by have h1 := congrArg (fun l : List Dsc => l[kk]?) MP.out; obtain ⟨kq, hq1, hq2, hq3⟩ := HTW.out.at_; have hq : kq = kk := (by have h2 := HK1.out; rw [MP.out] at h2; omega); subst hq; simp only [List.getElem?_map, hz2, hq3, Option.map_some] at h1; exact Option.some.inj h1
                          have FZ2 := Lib.hid (SP.out.fl z2 hm2)
                          have F1Z : Hid (Fit1 z2.1) := HFP.out.all z2 hm2
                          clear hz2 hm2
                          refine wp_region_typed 27 [(133, .val (.slice (some ⟨bp, op, none⟩) n75 c75)), (134, .val (.int .i64 (kk : Int))), (135, .val (.pointer (some ⟨bp, op + kk * 4, none⟩))), (136, .val (.agg #[.int .u8 z2.1.1, .int .u16 z2.1.2.1, .int .u8 z2.1.2.2.1, .slice z2.2.1 z2.2.2.1 z2.2.2.2])), (137, .val (.agg #[.int .u8 X.1, .int .u16 X.2.1, .int .u8 X.2.2.1, .slice hx.1 hx.2.1 hx.2.2])), (138, .val (.bool true)), (139, .val (.bool true)), (140, .val (.bool false)), (141, .val (.bool true)), (142, .val (.bool true)), (143, .val (.bool true)), (144, .val (.bool false)), (145, .val (.bool true)), (146, .val (.bool true)), (147, .val (.bool true)), (148, .val (.slice A15 n15 c15)), (149, .val (.slice (some ⟨bp, op, none⟩) n75 c75)), (150, .val (.bool true)), (151, .val (.bool true)), (152, .val (.bool true)), (153, .val (.slice A17 n17 c17)), (154, .val (.slice (some ⟨bp, op, none⟩) n75 c75)), (155, .val (.bool true)), (156, .val (.bool true)), (157, .val (.bool true)), (158, .val (.bool true)), (159, .val (.bool true))]
                            [[], [], [133, 134], [135], [], [136, 137], [138], [139], [139, 140], [139, 141], [142], [143], [143, 144], [143, 145], [146], [147], [147], [147, 148, 149], [147, 150], [151], [152], [152], [152, 153, 154], [152, 155], [156], [157], [157, 158]] (by kernel_rfl) (by kernel_rfl) ?_ ?_
                          rotate_left
                          · intro v12 hb
                            simp only [List.take_succ_cons, List.take_zero, List.drop_succ_cons, List.drop_zero]
                            refine over_ds (ds := [133, 134, 135, 136, 137, 138, 139, 140, 141, 142, 143, 144, 145, 146, 147, 148, 149, 150, 151, 152, 153, 154, 155, 156, 157, 158, 159]) (by kernel_rfl) ?_
                            refine over_some (ds1 := [133, 134, 135, 136, 137, 138, 139, 140, 141, 142, 143, 144, 145, 146, 147, 148, 149, 150, 151, 152, 153, 154, 155, 156, 157, 158, 159]) (ds2 := []) [(.slice (some ⟨bp, op, none⟩) n75 c75), (.int .i64 (kk : Int)), (.pointer (some ⟨bp, op + kk * 4, none⟩)), (.agg #[.int .u8 z2.1.1, .int .u16 z2.1.2.1, .int .u8 z2.1.2.2.1, .slice z2.2.1 z2.2.2.1 z2.2.2.2]), (.agg #[.int .u8 X.1, .int .u16 X.2.1, .int .u8 X.2.2.1, .slice hx.1 hx.2.1 hx.2.2]), (.bool true), (.bool true), (.bool false), (.bool true), (.bool true), (.bool true), (.bool false), (.bool true), (.bool true), (.bool true), (.slice A15 n15 c15), (.slice (some ⟨bp, op, none⟩) n75 c75), (.bool true), (.bool true), (.bool true), (.slice A17 n17 c17), (.slice (some ⟨bp, op, none⟩) n75 c75), (.bool true), (.bool true), (.bool true), (.bool true), (.bool true)] (by kernel_rfl) ?_
                            refine over_nil ?_
                            simp only [putAll, put_lit, List.set_cons_succ, List.set_cons_zero]
                            replace KX := Lib.hid (KX.out.next hb)
                            replace KY := Lib.hid (KY.out.next hb)
                            replace KS := Lib.hid (KS.out.next hb)
                            replace SP := Lib.hid (SP.out.next hb)
                            replace SQ := Lib.hid (SQ.out.next hb)
                            replace KW := Lib.hid (KW.out.next hb)
                            replace S15 := Lib.hid (S15.out.next hb)
                            replace S17 := Lib.hid (S17.out.next hb)
                            replace B := Lib.hid (thn B.out hb)
                            clear hb
                            go_wp2
                            go_ret
                            exact ⟨rfl, B.out⟩
                          simp only [List.take_succ_cons, List.take_zero]
                          refine ⟨?r17g0, ?r17g1, ?r17g2, ?r17g3, ?r17g4, ?r17g5, ?r17g6, ?r17g7, ?r17g8, ?r17g9, ?r17g10, ?r17g11, ?r17g12, ?r17g13, ?r17g14, ?r17g15, ?r17g16, ?r17g17, ?r17g18, ?r17g19, ?r17g20, ?r17g21, ?r17g22, ?r17g23, ?r17g24, ?r17g25, ?r17g26, trivial⟩
                          case r17g0 => as_aux_lemma =>
                            intro w9 hb
                            refine over_nil ?_
                            go_wp2
                            first | exact post_of (by rfl) (by rfl) (Below.refl _ _) (by rfl) | exact rfl
                          case r17g1 => as_aux_lemma =>
                            intro w9 hb
                            refine over_nil ?_
                            go_wp2
                            first | exact post_of (by rfl) (by rfl) (Below.refl _ _) (by rfl) | exact rfl
                          case r17g2 => as_aux_lemma =>
                            intro w9 hb
                            refine over_some (ds1 := [133, 134]) (ds2 := []) [(.slice (some ⟨bp, op, none⟩) n75 c75), (.int .i64 (kk : Int))] (by kernel_rfl) ?_
                            refine over_nil ?_
                            simp only [putAll, put_lit, List.set_cons_succ, List.set_cons_zero]
                            go_wp2
                            first | exact post_of (by rfl) (by rfl) (Below.refl _ _) (by rfl) | exact rfl
                          case r17g3 => as_aux_lemma =>
                            intro w9 hb
                            refine over_some (ds1 := [135]) (ds2 := []) [(.pointer (some ⟨bp, op + kk * 4, none⟩))] (by kernel_rfl) ?_
                            refine over_nil ?_
                            simp only [putAll, put_lit, List.set_cons_succ, List.set_cons_zero]
                            obtain ⟨p0, q0, r0, s0⟩ := HCZ.out w9 hb
                            go_wp2
                            first | exact post_of (by rfl) (by rfl) (Below.refl _ _) (by rfl) | exact rfl
                          case r17g4 => as_aux_lemma =>
                            intro w9 hb
                            refine over_nil ?_
                            obtain ⟨p0, q0, r0, s0⟩ := (KW.out.next hb).cells
                            go_wp2
                            first | exact post_of (by rfl) (by rfl) (Below.refl _ _) (by rfl) | exact rfl
                          case r17g5 => as_aux_lemma =>
                            intro w9 hb
                            refine over_some (ds1 := [136, 137]) (ds2 := []) [(.agg #[.int .u8 z2.1.1, .int .u16 z2.1.2.1, .int .u8 z2.1.2.2.1, .slice z2.2.1 z2.2.2.1 z2.2.2.2]), (.agg #[.int .u8 X.1, .int .u16 X.2.1, .int .u8 X.2.2.1, .slice hx.1 hx.2.1 hx.2.2])] (by kernel_rfl) ?_
                            refine over_nil ?_
                            simp only [putAll, put_lit, List.set_cons_succ, List.set_cons_zero]
                            go_wp2_with fail
                            have hc2 := HDD.out.same z2 (X, hx) w9 (Sn.next FZ2.out hb) (Sn.next FX.out (thn B.out hb)) F1Z.out H1X.out
                            rw [show decide (z2.1 = ((X, hx) : Dsc × Hd).1) = true from decide_eq_true HZ2.out] at hc2
                            refine hc2.mono ?_
                            clear hc2
                            rintro e w8 ⟨rfl, b6⟩
                            go_wp2
                            exact post_of (by rfl) (by rfl) b6 (by rfl)
                          case r17g6 => as_aux_lemma =>
                            intro w9 hb
                            refine over_some (ds1 := [138]) (ds2 := []) [(.bool true)] (by kernel_rfl) ?_
                            refine over_nil ?_
                            simp only [putAll, put_lit, List.set_cons_succ, List.set_cons_zero]
                            go_wp2
                            first | exact post_of (by rfl) (by rfl) (Below.refl _ _) (by rfl) | exact rfl
                          case r17g7 => as_aux_lemma =>
                            intro w9 hb
                            refine over_some (ds1 := [139]) (ds2 := []) [(.bool true)] (by kernel_rfl) ?_
                            refine over_nil ?_
                            simp only [putAll, put_lit, List.set_cons_succ, List.set_cons_zero]
                            go_wp2
                            first | exact post_of (by rfl) (by rfl) (Below.refl _ _) (by rfl) | exact rfl
                          case r17g8 => as_aux_lemma =>
                            intro w9 hb
                            refine over_some (ds1 := [139, 140]) (ds2 := []) [(.bool true), (.bool false)] (by kernel_rfl) ?_
                            refine over_nil ?_
                            simp only [putAll, put_lit, List.set_cons_succ, List.set_cons_zero]
                            go_wp2
                            first | exact post_of (by rfl) (by rfl) (Below.refl _ _) (by rfl) | exact rfl
                          case r17g9 => as_aux_lemma =>
                            intro w9 hb
                            refine over_some (ds1 := [139, 141]) (ds2 := []) [(.bool true), (.bool true)] (by kernel_rfl) ?_
                            refine over_nil ?_
                            simp only [putAll, put_lit, List.set_cons_succ, List.set_cons_zero]
                            go_wp2
                            first | exact post_of (by rfl) (by rfl) (Below.refl _ _) (by rfl) | exact rfl
                          case r17g10 => as_aux_lemma =>
                            intro w9 hb
                            refine over_some (ds1 := [142]) (ds2 := []) [(.bool true)] (by kernel_rfl) ?_
                            refine over_nil ?_
                            simp only [putAll, put_lit, List.set_cons_succ, List.set_cons_zero]
                            go_wp2
                            first | exact post_of (by rfl) (by rfl) (Below.refl _ _) (by rfl) | exact rfl
                          case r17g11 => as_aux_lemma =>
                            intro w9 hb
                            refine over_some (ds1 := [143]) (ds2 := []) [(.bool true)] (by kernel_rfl) ?_
                            refine over_nil ?_
                            simp only [putAll, put_lit, List.set_cons_succ, List.set_cons_zero]
                            go_wp2
                            first | exact post_of (by rfl) (by rfl) (Below.refl _ _) (by rfl) | exact rfl
                          case r17g12 => as_aux_lemma =>
                            intro w9 hb
                            refine over_some (ds1 := [143, 144]) (ds2 := []) [(.bool true), (.bool false)] (by kernel_rfl) ?_
                            refine over_nil ?_
                            simp only [putAll, put_lit, List.set_cons_succ, List.set_cons_zero]
                            go_wp2
                            first | exact post_of (by rfl) (by rfl) (Below.refl _ _) (by rfl) | exact rfl
                          case r17g13 => as_aux_lemma =>
                            intro w9 hb
                            refine over_some (ds1 := [143, 145]) (ds2 := []) [(.bool true), (.bool true)] (by kernel_rfl) ?_
                            refine over_nil ?_
                            simp only [putAll, put_lit, List.set_cons_succ, List.set_cons_zero]
                            go_wp2
                            first | exact post_of (by rfl) (by rfl) (Below.refl _ _) (by rfl) | exact rfl
                          case r17g14 => as_aux_lemma =>
                            intro w9 hb
                            refine over_some (ds1 := [146]) (ds2 := []) [(.bool true)] (by kernel_rfl) ?_
                            refine over_nil ?_
                            simp only [putAll, put_lit, List.set_cons_succ, List.set_cons_zero]
                            go_wp2
                            first | exact post_of (by rfl) (by rfl) (Below.refl _ _) (by rfl) | exact rfl
                          case r17g15 => as_aux_lemma =>
                            intro w9 hb
                            refine over_some (ds1 := [147]) (ds2 := []) [(.bool true)] (by kernel_rfl) ?_
                            refine over_nil ?_
                            simp only [putAll, put_lit, List.set_cons_succ, List.set_cons_zero]
                            go_wp2
                            first | exact post_of (by rfl) (by rfl) (Below.refl _ _) (by rfl) | exact rfl
                          case r17g16 => as_aux_lemma =>
                            intro w9 hb
                            refine over_some (ds1 := [147]) (ds2 := []) [(.bool true)] (by kernel_rfl) ?_
                            refine over_nil ?_
                            simp only [putAll, put_lit, List.set_cons_succ, List.set_cons_zero]
                            go_wp2
                            first | exact post_of (by rfl) (by rfl) (Below.refl _ _) (by rfl) | exact rfl
                          case r17g17 => as_aux_lemma =>
                            intro w9 hb
                            refine over_some (ds1 := [147, 148, 149]) (ds2 := []) [(.bool true), (.slice A15 n15 c15), (.slice (some ⟨bp, op, none⟩) n75 c75)] (by kernel_rfl) ?_
                            refine over_nil ?_
                            simp only [putAll, put_lit, List.set_cons_succ, List.set_cons_zero]
                            go_wp2_with fail
                            have hc2 := descs_any A15 n15 c15 q15 (some ⟨bp, op, none⟩) n75 c75 p75 w9 (S15.out.next hb) (SP.out.next hb)
                            rw [show decide (q15.map (·.1) = p75.map (·.1)) = true from decide_eq_true M15.out] at hc2
                            refine hc2.mono ?_
                            clear hc2
                            rintro e w8 ⟨rfl, b6⟩
                            go_wp2
                            exact post_of (by rfl) (by rfl) b6 (by rfl)
                          case r17g18 => as_aux_lemma =>
                            intro w9 hb
                            refine over_some (ds1 := [147, 150]) (ds2 := []) [(.bool true), (.bool true)] (by kernel_rfl) ?_
                            refine over_nil ?_
                            simp only [putAll, put_lit, List.set_cons_succ, List.set_cons_zero]
                            go_wp2
                            first | exact post_of (by rfl) (by rfl) (Below.refl _ _) (by rfl) | exact rfl
                          case r17g19 => as_aux_lemma =>
                            intro w9 hb
                            refine over_some (ds1 := [151]) (ds2 := []) [(.bool true)] (by kernel_rfl) ?_
                            refine over_nil ?_
                            simp only [putAll, put_lit, List.set_cons_succ, List.set_cons_zero]
                            go_wp2
                            first | exact post_of (by rfl) (by rfl) (Below.refl _ _) (by rfl) | exact rfl
                          case r17g20 => as_aux_lemma =>
                            intro w9 hb
                            refine over_some (ds1 := [152]) (ds2 := []) [(.bool true)] (by kernel_rfl) ?_
                            refine over_nil ?_
                            simp only [putAll, put_lit, List.set_cons_succ, List.set_cons_zero]
                            go_wp2
                            first | exact post_of (by rfl) (by rfl) (Below.refl _ _) (by rfl) | exact rfl
                          case r17g21 => as_aux_lemma =>
                            intro w9 hb
                            refine over_some (ds1 := [152]) (ds2 := []) [(.bool true)] (by kernel_rfl) ?_
                            refine over_nil ?_
                            simp only [putAll, put_lit, List.set_cons_succ, List.set_cons_zero]
                            go_wp2
                            first | exact post_of (by rfl) (by rfl) (Below.refl _ _) (by rfl) | exact rfl
                          case r17g22 => as_aux_lemma =>
                            intro w9 hb
                            refine over_some (ds1 := [152, 153, 154]) (ds2 := []) [(.bool true), (.slice A17 n17 c17), (.slice (some ⟨bp, op, none⟩) n75 c75)] (by kernel_rfl) ?_
                            refine over_nil ?_
                            simp only [putAll, put_lit, List.set_cons_succ, List.set_cons_zero]
                            go_wp2_with fail
                            have hc2 := descs_any A17 n17 c17 q17 (some ⟨bp, op, none⟩) n75 c75 p75 w9 (S17.out.next hb) (SP.out.next hb)
                            rw [show decide (q17.map (·.1) = p75.map (·.1)) = true from decide_eq_true M17.out] at hc2
                            refine hc2.mono ?_
                            clear hc2
                            rintro e w8 ⟨rfl, b6⟩
                            go_wp2
                            exact post_of (by rfl) (by rfl) b6 (by rfl)
                          case r17g23 => as_aux_lemma =>
                            intro w9 hb
                            refine over_some (ds1 := [152, 155]) (ds2 := []) [(.bool true), (.bool true)] (by kernel_rfl) ?_
                            refine over_nil ?_
                            simp only [putAll, put_lit, List.set_cons_succ, List.set_cons_zero]
                            go_wp2
                            first | exact post_of (by rfl) (by rfl) (Below.refl _ _) (by rfl) | exact rfl
                          case r17g24 => as_aux_lemma =>
                            intro w9 hb
                            refine over_some (ds1 := [156]) (ds2 := []) [(.bool true)] (by kernel_rfl) ?_
                            refine over_nil ?_
                            simp only [putAll, put_lit, List.set_cons_succ, List.set_cons_zero]
                            go_wp2
                            first | exact post_of (by rfl) (by rfl) (Below.refl _ _) (by rfl) | exact rfl
                          case r17g25 => as_aux_lemma =>
                            intro w9 hb
                            refine over_some (ds1 := [157]) (ds2 := []) [(.bool true)] (by kernel_rfl) ?_
                            refine over_nil ?_
                            simp only [putAll, put_lit, List.set_cons_succ, List.set_cons_zero]
                            go_wp2_with fail
                            have hc2 := awake_any HDD.out w9
                            refine hc2.mono ?_
                            clear hc2
                            rintro e w8 ⟨rfl, b6⟩
                            go_wp2
                            exact post_of (by rfl) (by rfl) b6 (by rfl)
                          case r17g26 => as_aux_lemma =>
                            intro w9 hb
                            refine over_some (ds1 := [157, 158]) (ds2 := []) [(.bool true), (.bool true)] (by kernel_rfl) ?_
                            refine over_nil ?_
                            simp only [putAll, put_lit, List.set_cons_succ, List.set_cons_zero]
                            go_wp2
                            first | exact post_of (by rfl) (by rfl) (Below.refl _ _) (by rfl) | exact rfl
                  simp only [List.take_succ_cons, List.take_zero]
                  refine ⟨?r8g0, ?r8g1, ?r8g2, ?r8g3, ?r8g4, ?r8g5, ?r8g6, ?r8g7, trivial⟩
                  case r8g0 => as_aux_lemma =>
                    intro w9 hb
                    refine over_nil ?_
                    go_wp2
                    first | exact post_of (by rfl) (by rfl) (Below.refl _ _) (by rfl) | exact rfl
                  case r8g1 => as_aux_lemma =>
                    intro w9 hb
                    refine over_nil ?_
                    obtain ⟨p0, q0, r0, s0⟩ := (KX.out.next hb).cells
                    go_wp2
                    first | exact post_of (by rfl) (by rfl) (Below.refl _ _) (by rfl) | exact rfl
                  case r8g2 => as_aux_lemma =>
                    intro w9 hb
                    refine over_nil ?_
                    obtain ⟨p0, q0, r0, s0⟩ := (KY.out.next hb).cells
                    go_wp2
                    first | exact post_of (by rfl) (by rfl) (Below.refl _ _) (by rfl) | exact rfl
                  case r8g3 => as_aux_lemma =>
                    intro w9 hb
                    refine over_some (ds1 := [72, 73, 74]) (ds2 := []) [(.func (.func 29) #[] #[.pointer (some ⟨g9, 0, none⟩), .pointer (some ⟨g7, 0, none⟩)]), (.agg #[.int .u8 X.1, .int .u16 X.2.1, .int .u8 X.2.2.1, .slice hx.1 hx.2.1 hx.2.2]), (.agg #[.int .u8 Y.1, .int .u16 Y.2.1, .int .u8 Y.2.2.1, .slice hy.1 hy.2.1 hy.2.2])] (by kernel_rfl) ?_
                    refine over_nil ?_
                    simp only [putAll, put_lit, List.set_cons_succ, List.set_cons_zero]
                    go_wp2_with fail
                    refine (new1_any HDD.out g9 g7 A70 n70 c70 o70 X Y hx hy self w9 (K9.out.next hb).cell (KS.out.next hb).cell (K9.out.next hb).lt (KS.out.next hb).lt (SO.out.next hb) HFO.out (HRO.out.wider (by decide)) HSF.out (Sn.next FX.out (thn B.out hb)) (Sn.next FY.out (thn B.out hb)) H1X.out H1Y.out).mono ?_
                    rintro e w8 ⟨A8, n8, c8, o8, rfl, m8, d8, b6⟩
                    have D8 := Lib.hid d8.sds
                    have M8 := Lib.hid (m8.trans HTW.out.one)
                    clear d8 m8
                    go_wp2
                    exact post_of (by rfl) (by rfl) b6 (by exact ⟨_, _, _, _, rfl, M8.out, D8.out⟩)
                  case r8g4 => as_aux_lemma =>
                    intro w9 hb
                    refine over_nil ?_
                    go_wp2
                    first | exact post_of (by rfl) (by rfl) (Below.refl _ _) (by rfl) | exact rfl
                  case r8g5 => as_aux_lemma =>
                    intro w9 hb
                    refine over_nil ?_
                    obtain ⟨p0, q0, r0, s0⟩ := (KY.out.next hb).cells
                    go_wp2
                    first | exact post_of (by rfl) (by rfl) (Below.refl _ _) (by rfl) | exact rfl
                  case r8g6 => as_aux_lemma =>
                    intro w9 hb
                    refine over_nil ?_
                    obtain ⟨p0, q0, r0, s0⟩ := (KX.out.next hb).cells
                    go_wp2
                    first | exact post_of (by rfl) (by rfl) (Below.refl _ _) (by rfl) | exact rfl
                  case r8g7 => as_aux_lemma =>
                    intro w9 hb
                    refine over_some (ds1 := [76, 77, 78]) (ds2 := []) [(.func (.func 29) #[] #[.pointer (some ⟨g9, 0, none⟩), .pointer (some ⟨g7, 0, none⟩)]), (.agg #[.int .u8 Y.1, .int .u16 Y.2.1, .int .u8 Y.2.2.1, .slice hy.1 hy.2.1 hy.2.2]), (.agg #[.int .u8 X.1, .int .u16 X.2.1, .int .u8 X.2.2.1, .slice hx.1 hx.2.1 hx.2.2])] (by kernel_rfl) ?_
                    refine over_nil ?_
                    simp only [putAll, put_lit, List.set_cons_succ, List.set_cons_zero]
                    go_wp2_with fail
                    refine (new1_any HDD.out g9 g7 A70 n70 c70 o70 Y X hy hx self w9 (K9.out.next hb).cell (KS.out.next hb).cell (K9.out.next hb).lt (KS.out.next hb).lt (SO.out.next hb) HFO.out (HRO.out.wider (by decide)) HSF.out (Sn.next FY.out (thn B.out hb)) (Sn.next FX.out (thn B.out hb)) H1Y.out H1X.out).mono ?_
                    rintro e w8 ⟨A8, n8, c8, o8, rfl, m8, d8, b6⟩
                    have D8 := Lib.hid d8.sds
                    have M8 := Lib.hid (m8.trans HTW.out.two)
                    clear d8 m8
                    go_wp2
                    exact post_of (by rfl) (by rfl) b6 (by exact ⟨_, _, _, _, rfl, M8.out, D8.out⟩)
              simp only [List.take_succ_cons, List.take_zero]
              refine ⟨?r6g0, ?r6g1, ?r6g2, ?r6g3, ?r6g4, ?r6g5, ?r6g6, trivial⟩
              case r6g0 => as_aux_lemma =>
                intro w9 hb
                refine over_nil ?_
                go_wp2
                first | exact post_of (by rfl) (by rfl) (Below.refl _ _) (by rfl) | exact rfl
              case r6g1 => as_aux_lemma =>
                intro w9 hb
                refine over_nil ?_
                have p0 := (KS.out.next hb).cell
                go_wp2
                first | exact post_of (by rfl) (by rfl) (Below.refl _ _) (by rfl) | exact rfl
              case r6g2 => as_aux_lemma =>
                intro w9 hb
                refine over_some (ds1 := [65, 66]) (ds2 := []) [(.slice A n c), (.int .u8 self)] (by kernel_rfl) ?_
                refine over_nil ?_
                simp only [putAll, put_lit, List.set_cons_succ, List.set_cons_zero]
                go_wp2_with fail
                refine (view_any A n c xs self 20 w9 (HS.out.next (thn B.out hb)) HR.out (by decide)).mono ?_
                rintro e w8 ⟨A8, n8, c8, z8, rfl, v8, s8, b6⟩
                have S8 := Lib.hid s8.sds
                have V8 := Lib.hid v8
                clear s8 v8
                go_wp2
                exact post_of (by rfl) (by rfl) b6 (by exact ⟨_, _, _, _, rfl, V8.out, S8.out⟩)
              case r6g3 => as_aux_lemma =>
                intro w9 hb
                refine over_nil ?_
                go_wp2
                first | exact post_of (by rfl) (by rfl) (Below.refl _ _) (by rfl) | exact rfl
              case r6g4 => as_aux_lemma =>
                intro w9 hb
                refine over_some (ds1 := [68]) (ds2 := []) [(.pointer (some ⟨g5, 0, none⟩))] (by kernel_rfl) ?_
                refine over_nil ?_
                simp only [putAll, put_lit, List.set_cons_succ, List.set_cons_zero]
                obtain ⟨p0, q0, r0, s0⟩ := (KX.out.next hb).cells
                go_wp2
                first | exact post_of (by rfl) (by rfl) (Below.refl _ _) (by rfl) | exact rfl
              case r6g5 => as_aux_lemma =>
                intro w9 hb
                refine over_pred rfl ?_
                rintro _ ⟨A67, n67, c67, z67, rfl, v67, s67⟩
                refine over_some (ds1 := [69]) (ds2 := []) [(.int .u8 X.1)] (by kernel_rfl) ?_
                refine over_nil ?_
                simp only [putAll, put_lit, List.set_cons_succ, List.set_cons_zero]
                have V67 := Lib.hid v67
                have S67 := Lib.hid s67
                clear v67 s67
                go_wp2_with fail
                refine (HDD.out.drop A67 n67 c67 z67 X.1 w9 S67.out (view_fit V67.out HFX.out (by decide) S67.out.len) ⟨self, 20, V67.out.right⟩ HXB.out).mono ?_
                rintro e w8 ⟨A8, n8, c8, o8, rfl, m8, d8, b6⟩
                have D8 := Lib.hid (d8.mono (thn B.out hb).size)
                have M8 := Lib.hid m8
                clear d8 m8
                go_wp2
                exact post_of (by rfl) (by rfl) b6 (by exact ⟨_, _, _, _, _, rfl, V67.out, M8.out, D8.out⟩)
              case r6g6 => as_aux_lemma =>
                intro w9 hb
                refine over_nil ?_
                go_wp2
                exact post_of (by rfl) (by rfl) (below_lit _ _) (by exact ⟨_, rfl, hb.size, CBlk.new _ _ _⟩)
end Go.Proofs.Ytlkjlmmdllkdcaa
