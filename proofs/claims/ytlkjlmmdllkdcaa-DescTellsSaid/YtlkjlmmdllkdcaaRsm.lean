/- Layer 9: sames. -/
import Derived.Test.YtlkjlmmdllkdcaaRfv
import Derived.Deep.Cut
namespace Go.Proofs.Ytlkjlmmdllkdcaa
open Go.RowKit
set_option linter.unusedVariables false
theorem DBlk.putA {w : World} {g : Nat} {d : Dsc} {h : Hd} (k : DBlk w g d h) (v : Int) : DBlk (w.setCell ⟨g, 0, none⟩ (.int .u8 v)) g (v, d.2) h := Go.Joins.block_setCell (i := 0) k (.int .u8 v)
theorem Ows.some_ {w : World} {B : Nat} {E : TypeId} {s : Nat} {A : Option Addr} {n c : Nat} {xs : List Value} (h : Ows w B E s A n c xs) (hn : 0 < n) : ∃ g, A = some ⟨g, 0, none⟩ := by
  rcases h.2 with ⟨hv, h0⟩ | ⟨g, cap, cur, hv, _⟩
  · omega
  · injection hv with e; exact ⟨g, e⟩
theorem Ows.setd {w : World} {B g : Nat} {E : TypeId} {s n c : Nat} {xs : List Value} (h : Ows w B E s (some ⟨g, 0, none⟩) n c xs) (t : Nat) (v : Value) : Ows (w.setCell ⟨g, t, none⟩ v) B E s (some ⟨g, 0, none⟩) n c (xs.set t v) := by
  rcases h.2 with ⟨hv, _⟩ | ⟨g', cap, cur, hv, hB, hh, h1, h2, h3, h4⟩
  · injection hv with e; cases e
  · injection hv with e1 e2 e3
    injection e1 with e1
    injection e1 with e1
    subst e1 e3
    refine ⟨by rw [List.length_set]; exact h.1, .inr ⟨g, c, cur.setIfInBounds t v, rfl, hB, ?_, h1, h2, by simp [h3], ?_⟩⟩
    · simp [World.setCell, Array.getElem?_modify, hh]
    · rw [← h4, Array.toList_setIfInBounds, List.take_set]
theorem Ows.freed {w : World} {B g : Nat} {E : TypeId} {s n c : Nat} {xs : List Value} (h : Ows w B E s (some ⟨g, 0, none⟩) n c xs) (t : Nat) : w.frozen? ⟨g, t, none⟩ = false := by
  rcases h.2 with ⟨hv, _⟩ | ⟨g', cap, cur, hv, hB, hh, _⟩
  · injection hv with e; cases e
  · injection hv with e1 e2 e3
    injection e1 with e1
    injection e1 with e1
    subst e1
    simp [World.frozen?, hh]
theorem wrap_u16 (x : Int) : IntKind.u16.wrap x = x % 65536 := by first | exact IntKind.wrap_u16 x | rfl | simp [IntKind.wrap]
theorem spl_last (f : List (Int × Int)) (a b v : Int) : (spl (f ++ [(a, b)])).set (f.length * 2 + 1) (.int .i32 v) = spl (f ++ [(a, v)]) := by
  rw [spl_append, spl_append, List.set_append_right _ _ (by rw [spl_length]; omega), spl_length, show f.length * 2 + 1 - f.length * 2 = 1 by omega]
  rfl
set_option maxRecDepth 100000 in
set_option maxHeartbeats 8000000 in
theorem sames_any (HD : DescOK) (d : Dsc) (hd : Hd) (w : World) (hF : Fl w (d, hd)) (hR : dscR d) (h8 : d.2.2.2.length ≤ 8) : Calls Try.prog 14 #[(.agg #[.int .u8 d.1, .int .u16 d.2.1, .int .u8 d.2.2.1, .slice hd.1 hd.2.1 hd.2.2])] w fun e w' => e = .returned (.bool true) ∧ Below w.heap.size w w' := by
  have HDD := Lib.hid HD
  have B := Lib.hid (below_lit w (.cells #[.int .u8 d.1, .int .u16 d.2.1, .int .u8 d.2.2.1, .slice hd.1 hd.2.1 hd.2.2] 27))
  have FW : Hid (Fl w (d, hd)) := hF
  have K1 : Hid (DBlk (w.alloc (.cells #[.int .u8 d.1, .int .u16 d.2.1, .int .u8 d.2.2.1, .slice hd.1 hd.2.1 hd.2.2] 27)) w.heap.size d hd) := DBlk.new w d hd
  have HL : Hid (hd.2.1 = d.2.2.2.length) := sp_len hF
  have hm8 : hd.2.1 ≤ 8 := by rw [HL.out]; exact h8
  have H8 := Lib.hid h8
  have HR := Lib.hid hR
  clear hF HD h8 hR
  go_enter Try.func14, Try.ntmps14
  go_upto_region 1 with fail
  generalize w.alloc (.cells #[.int .u8 d.1, .int .u16 d.2.1, .int .u8 d.2.2.1, .slice hd.1 hd.2.1 hd.2.2] 27) = w1 at *
  obtain ⟨g1, hg⟩ : ∃ g, w.heap.size = g := ⟨_, rfl⟩
  have L1 : Hid (w.heap.size ≤ g1) := Nat.le_of_eq hg
  rw [hg] at K1 ⊢
  clear hg
  refine five_gen (g1 := g1) (d := d) (hd := hd) ⟨rfl, rfl, rfl⟩ ⟨rfl, rfl, rfl⟩ ⟨rfl, rfl, rfl⟩ ⟨rfl, rfl, rfl⟩ ⟨rfl, rfl, rfl⟩ ⟨rfl, rfl, rfl⟩ ⟨rfl, rfl, rfl⟩ ⟨rfl, rfl, rfl⟩ ⟨rfl, rfl, rfl⟩ ⟨rfl, rfl, rfl⟩ ⟨rfl, rfl, rfl⟩ ⟨rfl, rfl, rfl⟩ ⟨rfl, rfl, rfl⟩ ⟨rfl, rfl, rfl⟩ ⟨rfl, rfl, rfl⟩ (by kernel_rfl) (by kernel_rfl) (by kernel_rfl) (by kernel_rfl) (Nat.le_of_ble_eq_true (by kernel_rfl)) (by kernel_rfl) K1.out ?_
  intro g3 g4 g5 g6 g7 w2 hge hne b2 k3 k4 k5 k6 k7
  obtain ⟨h3, h4, h5, h6, h7⟩ := hge
  obtain ⟨n34, n35, n36, n37, n45, n46, n47, n56, n57, n67⟩ := hne
  simp only [putAll, put_lit, List.set_cons_succ, List.set_cons_zero]
  have hlt := K1.out.lt
  have BZ := B.out.size
  have n13 : g1 ≠ g3 := by omega
  have n14 : g1 ≠ g4 := by omega
  have n15 : g1 ≠ g5 := by omega
  have n16 : g1 ≠ g6 := by omega
  have n17 : g1 ≠ g7 := by omega
  have L3 : Hid (w.heap.size ≤ g3) := Nat.le_trans BZ h3
  have K3 := Lib.hid k3
  clear k3 h3
  have L4 : Hid (w.heap.size ≤ g4) := Nat.le_trans BZ h4
  have K4 := Lib.hid k4
  clear k4 h4
  have L5 : Hid (w.heap.size ≤ g5) := Nat.le_trans BZ h5
  have K5 := Lib.hid k5
  clear k5 h5
  have L6 : Hid (w.heap.size ≤ g6) := Nat.le_trans BZ h6
  have K6 := Lib.hid k6
  clear k6 h6
  have L7 : Hid (w.heap.size ≤ g7) := Nat.le_trans BZ h7
  have K7 := Lib.hid k7
  clear k7 h7
  replace K1 := Lib.hid (K1.out.next b2)
  replace B := Lib.hid (thn B.out b2)
  clear b2 hlt BZ
  have n31 : g3 ≠ g1 := n13.symm
  have n41 : g4 ≠ g1 := n14.symm
  have n51 : g5 ≠ g1 := n15.symm
  have n61 : g6 ≠ g1 := n16.symm
  have n71 : g7 ≠ g1 := n17.symm
  have n43 : g4 ≠ g3 := n34.symm
  have n53 : g5 ≠ g3 := n35.symm
  have n63 : g6 ≠ g3 := n36.symm
  have n73 : g7 ≠ g3 := n37.symm
  have n54 : g5 ≠ g4 := n45.symm
  have n64 : g6 ≠ g4 := n46.symm
  have n74 : g7 ≠ g4 := n47.symm
  have n65 : g6 ≠ g5 := n56.symm
  have n75 : g7 ≠ g5 := n57.symm
  have n76 : g7 ≠ g6 := n67.symm
  obtain ⟨nn, hnn⟩ : ∃ v, v = (d.1 + 1) % 256 := ⟨_, rfl⟩
  have HNN : Hid (nn ≠ d.1 ∧ 0 ≤ nn ∧ nn ≤ 255) := by have := HR.out.1; have := HR.out.2.1; have := HR.out.2.2; unfold Hid; omega
  obtain ⟨c30, c31, c32, c33⟩ := K3.out.cells
  have f3 := K3.out.free 0
  go_upto_region 3 with fail
  rw [← hnn]
  clear c30 c31 c32 c33
  clear f3
  have hgs := grown_set w2 g3 0 (.int .u8 nn)
  replace K1 := Lib.hid (K1.out.grown hgs n13)
  replace K4 := Lib.hid (K4.out.grown hgs n43)
  replace K5 := Lib.hid (K5.out.grown hgs n53)
  replace K6 := Lib.hid (K6.out.grown hgs n63)
  replace K7 := Lib.hid (K7.out.grown hgs n73)
  replace K3 := Lib.hid (K3.out.putA nn)
  replace B := Lib.hid (belowG B.out hgs B.out.size L3.out)
  clear hgs
  generalize w2.setCell ⟨g3, 0, none⟩ (.int .u8 nn) = u3 at *
  clear hnn
  obtain ⟨ii, hii⟩ : ∃ v, v = (d.2.1 + 1) % 65536 := ⟨_, rfl⟩
  have hww : IntKind.u16.wrap (d.2.1 + 1) = (d.2.1 + 1) % 65536 := wrap_u16 _
  have HII : Hid (ii ≠ d.2.1 ∧ 0 ≤ ii ∧ ii ≤ 65535) := by have := HR.out.1; have := HR.out.2.1; have := HR.out.2.2; unfold Hid; omega
  obtain ⟨c40, c41, c42, c43⟩ := K4.out.cells
  have f4 := K4.out.free 1
  go_upto_region 4 with fail
  rw [← hii]
  clear c40 c41 c42 c43
  clear f4
  have hgs := grown_set u3 g4 1 (.int .u16 ii)
  replace K1 := Lib.hid (K1.out.grown hgs n14)
  replace K3 := Lib.hid (K3.out.grown hgs n34)
  replace K5 := Lib.hid (K5.out.grown hgs n54)
  replace K6 := Lib.hid (K6.out.grown hgs n64)
  replace K7 := Lib.hid (K7.out.grown hgs n74)
  replace K4 := Lib.hid (K4.out.put1 ii)
  replace B := Lib.hid (belowG B.out hgs B.out.size L4.out)
  clear hgs
  generalize u3.setCell ⟨g4, 1, none⟩ (.int .u16 ii) = u4 at *
  clear hii hww
  obtain ⟨aa, haa⟩ : ∃ v, v = (d.2.2.1 + 1) % 256 := ⟨_, rfl⟩
  have HAA : Hid (aa ≠ d.2.2.1 ∧ 0 ≤ aa ∧ aa ≤ 255) := by have := HR.out.1; have := HR.out.2.1; have := HR.out.2.2; unfold Hid; omega
  obtain ⟨c50, c51, c52, c53⟩ := K5.out.cells
  have f5 := K5.out.free 2
  go_upto_region 5 with fail
  rw [← haa]
  clear c50 c51 c52 c53
  clear f5
  have hgs := grown_set u4 g5 2 (.int .u8 aa)
  replace K1 := Lib.hid (K1.out.grown hgs n15)
  replace K3 := Lib.hid (K3.out.grown hgs n35)
  replace K4 := Lib.hid (K4.out.grown hgs n45)
  replace K6 := Lib.hid (K6.out.grown hgs n65)
  replace K7 := Lib.hid (K7.out.grown hgs n75)
  replace K5 := Lib.hid (K5.out.put2 aa)
  replace B := Lib.hid (belowG B.out hgs B.out.size L5.out)
  clear hgs
  generalize u4.setCell ⟨g5, 2, none⟩ (.int .u8 aa) = u5 at *
  clear haa
  obtain ⟨c10, c11, c12, c13⟩ := K1.out.cells
  obtain ⟨c60, c61, c62, c63⟩ := K6.out.cells
  have f6 := K6.out.free 3
  have hbl := below_lit u5 (.cells #[] 49)
  have SF : Hid (Sp (u5.alloc (.cells #[] 49)) _ hd.1 hd.2.1 hd.2.2 d.2.2.2) := Sn.next (FW.out.next B.out) hbl
  have KA := Lib.hid (K1.out.next hbl)
  obtain ⟨a0, a1, a2, a3⟩ := KA.out.cells
  have L6w := K6.out.lt
  go_upto_region 6 with first | (at_builtin; refine wpList_appsx rfl (.tmp 25) (.tmp 27) 25 rfl Try.underlying25 infoSp rfl (by decide) rfl (Ows.lit0 _ 49 2) rfl SF.out (spl_one _) (by omega) (by decide) (by simp) ?_; intro A4 c4 w4 o4 qa; simp only [Nat.zero_add, List.nil_append] at o4 ⊢) | (at_builtin; go_must (refine wpList_appsx rfl (.tmp 28) (.tmp 30) 25 rfl Try.underlying25 infoSp rfl (by decide) rfl (Ows.below o4 (below_lit _ _)) rfl (Sn.lit w4 #[.int .i32 0, .int .i32 0] 49 (0, 0) 2 1 rfl (by decide)) (spl_one [(0, 0)]) (by omega) (by decide) (Nat.le_trans (Nat.le_trans hbl.size qa.size) (below_lit _ _).size) ?_); intro A5 c5 w5 o5 qb; have bz5 : Below u5.heap.size u5 w5 := (((Below.refl _ _).alloc (Nat.le_refl _) _ |>.grown qa hbl.size (Ows.lit0 _ 49 2).lt).alloc (Nat.le_trans hbl.size qa.size) _).grown qb (Nat.le_trans (Nat.le_trans hbl.size qa.size) (below_lit _ _).size) o4.lt; have KB := K6.out.next bz5; obtain ⟨b0, b1, b2, b3⟩ := KB.cells; have fb := KB.free 3)
  clear c10 c11 c12 c13
  clear c60 c61 c62 c63
  clear f6
  clear a0 a1 a2 a3 b0 b1 b2 b3 fb KB KA SF hbl L6w
  have O6 : Hid (Ows w5 u5.heap.size 49 2 A5 (hd.2.1 + 1) c5 (spl (d.2.2.2 ++ [(0, 0)]))) := by unfold Hid; rw [spl_append]; exact o5
  have HB5 : Hid (g1 < u5.heap.size ∧ g3 < u5.heap.size ∧ g4 < u5.heap.size ∧ g5 < u5.heap.size ∧ g6 < u5.heap.size ∧ g7 < u5.heap.size) := ⟨K1.out.lt, K3.out.lt, K4.out.lt, K5.out.lt, K6.out.lt, K7.out.lt⟩
  replace K1 := Lib.hid (K1.out.next bz5)
  replace K3 := Lib.hid (K3.out.next bz5)
  replace K4 := Lib.hid (K4.out.next bz5)
  replace K5 := Lib.hid (K5.out.next bz5)
  replace K6 := Lib.hid (K6.out.next bz5)
  replace K7 := Lib.hid (K7.out.next bz5)
  replace B := Lib.hid (thn B.out bz5)
  clear o4 qa o5 qb bz5
  have hgs := grown_set w5 g6 3 (.slice A5 (hd.2.1 + 1) c5)
  replace K1 := Lib.hid (K1.out.grown hgs n16)
  replace K3 := Lib.hid (K3.out.grown hgs n36)
  replace K4 := Lib.hid (K4.out.grown hgs n46)
  replace K5 := Lib.hid (K5.out.grown hgs n56)
  replace K7 := Lib.hid (K7.out.grown hgs n76)
  replace K6 := Lib.hid (K6.out.put3 (A5, hd.2.1 + 1, c5))
  replace O6 := Lib.hid (O6.out.grown hgs fun q hq => by have := (O6.out.near q hq).1; have := HB5.out; omega)
  replace B := Lib.hid (belowG B.out hgs B.out.size L6.out)
  clear hgs
  generalize w5.setCell ⟨g6, 3, none⟩ (.slice A5 (hd.2.1 + 1) c5) = u6 at *
  obtain ⟨c60, c61, c62, c63⟩ := K6.out.cells
  obtain ⟨c70, c71, c72, c73⟩ := K7.out.cells
  have f7 := K7.out.free 3
  have hbl := below_lit u6 (.cells #[] 49)
  have S6 : Hid (Sp (u6.alloc (.cells #[] 49)) _ A5 (hd.2.1 + 1) c5 (d.2.2.2 ++ [(0, 0)])) := Sn.next (Sn.of_own O6.out) hbl
  have KA := Lib.hid (K6.out.next hbl)
  obtain ⟨a0, a1, a2, a3⟩ := KA.out.cells
  go_upto_region 7 with (at_builtin; refine wpList_appsx rfl (.tmp 33) (.tmp 35) 25 rfl Try.underlying25 infoSp rfl (by decide) rfl (Ows.lit0 _ 49 2) rfl S6.out (spl_one _) (by omega) (by decide) (by simp) ?_; intro A8 c8 w8 o8 g8; simp only [Nat.zero_add, List.nil_append] at o8 ⊢; have bz8 : Below u6.heap.size u6 w8 := (Below.refl _ _).alloc (Nat.le_refl _) _ |>.grown g8 hbl.size (Ows.lit0 _ 49 2).lt; have KB := K7.out.next bz8; obtain ⟨b0, b1, b2, b3⟩ := KB.cells; have fb := KB.free 3)
  clear c60 c61 c62 c63
  clear c70 c71 c72 c73
  clear f7
  clear a0 a1 a2 a3 b0 b1 b2 b3 fb KB KA S6 hbl
  have O8 : Hid (Ows w8 u6.heap.size 49 2 A8 (hd.2.1 + 1) c8 (spl (d.2.2.2 ++ [(0, 0)]))) := o8
  have HB8 : Hid (g1 < u6.heap.size ∧ g3 < u6.heap.size ∧ g4 < u6.heap.size ∧ g5 < u6.heap.size ∧ g6 < u6.heap.size ∧ g7 < u6.heap.size) := ⟨K1.out.lt, K3.out.lt, K4.out.lt, K5.out.lt, K6.out.lt, K7.out.lt⟩
  have HO6 : Hid (∀ q, Value.ownBlock (.slice A5 (hd.2.1 + 1) c5) = some q → q < u6.heap.size) := fun q hq => (O6.out.near q hq).2
  replace K1 := Lib.hid (K1.out.next bz8)
  replace K3 := Lib.hid (K3.out.next bz8)
  replace K4 := Lib.hid (K4.out.next bz8)
  replace K5 := Lib.hid (K5.out.next bz8)
  replace K6 := Lib.hid (K6.out.next bz8)
  replace K7 := Lib.hid (K7.out.next bz8)
  replace B := Lib.hid (thn B.out bz8)
  replace O6 := Lib.hid (O6.out.below bz8)
  clear o8 g8 bz8
  have hgs := grown_set w8 g7 3 (.slice A8 (hd.2.1 + 1) c8)
  replace K1 := Lib.hid (K1.out.grown hgs n17)
  replace K3 := Lib.hid (K3.out.grown hgs n37)
  replace K4 := Lib.hid (K4.out.grown hgs n47)
  replace K5 := Lib.hid (K5.out.grown hgs n57)
  replace K6 := Lib.hid (K6.out.grown hgs n67)
  replace K7 := Lib.hid (K7.out.put3 (A8, hd.2.1 + 1, c8))
  replace O6 := Lib.hid (O6.out.grown hgs fun q hq => by have := (O6.out.near q hq).1; have := HB5.out; omega)
  replace O8 := Lib.hid (O8.out.grown hgs fun q hq => by have := (O8.out.near q hq).1; have := HB8.out; omega)
  replace B := Lib.hid (belowG B.out hgs B.out.size L7.out)
  clear hgs
  generalize w8.setCell ⟨g7, 3, none⟩ (.slice A8 (hd.2.1 + 1) c8) = u9 at *
  obtain ⟨q8, rfl⟩ := O8.out.some_ (Nat.succ_pos _)
  have hq8 := (O8.out.near q8 rfl).1
  have m1 : g1 ≠ q8 := by have := HB8.out; omega
  have m3 : g3 ≠ q8 := by have := HB8.out; omega
  have m4 : g4 ≠ q8 := by have := HB8.out; omega
  have m5 : g5 ≠ q8 := by have := HB8.out; omega
  have m6 : g6 ≠ q8 := by have := HB8.out; omega
  have m7 : g7 ≠ q8 := by have := HB8.out; omega
  obtain ⟨c10, c11, c12, c13⟩ := K1.out.cells
  obtain ⟨c70, c71, c72, c73⟩ := K7.out.cells
  have c80 : u9.cell? ⟨q8, hd.2.1 * 2 + 1, none⟩ = some (.int .i32 0) := by obtain ⟨b, off, e, _, hc⟩ := (Sn.of_own O8.out).at_ (Nat.succ_pos _); injection e with e; injection e with e1 e2 e3; subst e1 e2; have := hc (hd.2.1 * 2 + 1) (.int .i32 0) (by rw [HL.out, spl_append, List.getElem?_append_right (by rw [spl_length]; omega), spl_length, show d.2.2.2.length * 2 + 1 - d.2.2.2.length * 2 = 1 by omega]; rfl); rwa [Nat.zero_add] at this
  have f80 := O8.out.freed (hd.2.1 * 2 + 1)
  have j0 : (0 : Int) ≤ (hd.2.1 : Int) := by omega
  have j1 : (hd.2.1 : Int) < (hd.2.1 : Int) + 1 := by omega
  go_upto_region 8 with fail
  clear c10 c11 c12 c13
  clear c70 c71 c72 c73
  have hgs := grown_set u9 q8 (hd.2.1 * 2 + 1) (.int .i32 1)
  replace K1 := Lib.hid (K1.out.grown hgs m1)
  replace K3 := Lib.hid (K3.out.grown hgs m3)
  replace K4 := Lib.hid (K4.out.grown hgs m4)
  replace K5 := Lib.hid (K5.out.grown hgs m5)
  replace K6 := Lib.hid (K6.out.grown hgs m6)
  replace K7 := Lib.hid (K7.out.grown hgs m7)
  replace O6 := Lib.hid (O6.out.grown hgs fun q hq => by have := HO6.out q hq; omega)
  replace O8 : Hid (Ows (u9.setCell ⟨q8, hd.2.1 * 2 + 1, none⟩ (.int .i32 1)) u6.heap.size 49 2 (some ⟨q8, 0, none⟩) (hd.2.1 + 1) c8 (spl (d.2.2.2 ++ [(0, 1)]))) := by have h1 := O8.out.setd (hd.2.1 * 2 + 1) (.int .i32 1); have h2 := spl_last d.2.2.2 0 0 1; rw [← HL.out] at h2; rw [h2] at h1; exact h1
  have LQ : w.heap.size ≤ q8 := Nat.le_trans (Nat.le_trans L7.out (Nat.le_of_lt HB8.out.2.2.2.2.2)) hq8
  replace B := Lib.hid (belowG B.out hgs B.out.size LQ)
  clear hgs c80 f80 hq8 LQ m1 m3 m4 m5 m6 m7
  generalize u9.setCell ⟨q8, hd.2.1 * 2 + 1, none⟩ (.int .i32 1) = u10 at *
  have F6 : Hid (Fl u10 ((d.1, d.2.1, d.2.2.1, d.2.2.2 ++ [(0, 0)]), (A5, hd.2.1 + 1, c5))) := Sn.of_own O6.out
  have F7 : Hid (Fl u10 ((d.1, d.2.1, d.2.2.1, d.2.2.2 ++ [(0, 1)]), (some ⟨q8, 0, none⟩, hd.2.1 + 1, c8))) := Sn.of_own O8.out
  have FD : Hid (Fl u10 (d, hd)) := FW.out.next B.out
  have FN3 : Hid (Fl u10 ((nn, d.2), hd)) := FW.out.next B.out
  have FN4 : Hid (Fl u10 ((d.1, ii, d.2.2), hd)) := FW.out.next B.out
  have FN5 : Hid (Fl u10 ((d.1, d.2.1, aa, d.2.2.2), hd)) := FW.out.next B.out
  have G1 : Hid (Fit1 d) := ⟨HR.out, by have := H8.out; omega⟩
  have G3 : Hid (Fit1 (nn, d.2)) := ⟨⟨HNN.out.2, HR.out.2⟩, by have := H8.out; show d.2.2.2.length ≤ 1000; omega⟩
  have G4 : Hid (Fit1 (d.1, ii, d.2.2)) := ⟨⟨HR.out.1, HII.out.2, HR.out.2.2⟩, by have := H8.out; show d.2.2.2.length ≤ 1000; omega⟩
  have G5 : Hid (Fit1 (d.1, d.2.1, aa, d.2.2.2)) := ⟨⟨HR.out.1, HR.out.2.1, HAA.out.2⟩, by have := H8.out; show d.2.2.2.length ≤ 1000; omega⟩
  have G6 : Hid (Fit1 (d.1, d.2.1, d.2.2.1, d.2.2.2 ++ [((0 : Int), (0 : Int))])) := ⟨⟨HR.out.1, HR.out.2.1, HR.out.2.2⟩, by have := H8.out; show (d.2.2.2 ++ [((0 : Int), (0 : Int))]).length ≤ 1000; rw [List.length_append]; simp; omega⟩
  have G7 : Hid (Fit1 (d.1, d.2.1, d.2.2.1, d.2.2.2 ++ [((0 : Int), (1 : Int))])) := ⟨⟨HR.out.1, HR.out.2.1, HR.out.2.2⟩, by have := H8.out; show (d.2.2.2 ++ [((0 : Int), (1 : Int))]).length ≤ 1000; rw [List.length_append]; simp; omega⟩
  obtain ⟨c10, c11, c12, c13⟩ := K1.out.cells
  obtain ⟨c30, c31, c32, c33⟩ := K3.out.cells
  obtain ⟨c40, c41, c42, c43⟩ := K4.out.cells
  obtain ⟨c50, c51, c52, c53⟩ := K5.out.cells
  obtain ⟨c60, c61, c62, c63⟩ := K6.out.cells
  obtain ⟨c70, c71, c72, c73⟩ := K7.out.cells
  go_wp2_with fail
  have hc := HDD.out.same (d, hd) (d, hd) u10 FD.out FD.out G1.out G1.out
  rw [show decide (((d, hd) : Dsc × Hd).1 = ((d, hd) : Dsc × Hd).1) = true from decide_eq_true rfl] at hc
  refine hc.mono ?_
  clear hc
  rintro e w11 ⟨rfl, b5⟩
  clear c10 c11 c12 c13
  clear c30 c31 c32 c33
  clear c40 c41 c42 c43
  clear c50 c51 c52 c53
  clear c60 c61 c62 c63
  clear c70 c71 c72 c73
  replace K1 := Lib.hid (K1.out.next b5)
  replace K3 := Lib.hid (K3.out.next b5)
  replace K4 := Lib.hid (K4.out.next b5)
  replace K5 := Lib.hid (K5.out.next b5)
  replace K6 := Lib.hid (K6.out.next b5)
  replace K7 := Lib.hid (K7.out.next b5)
  replace FD := Lib.hid (Sn.next FD.out b5)
  replace FN3 := Lib.hid (Sn.next FN3.out b5)
  replace FN4 := Lib.hid (Sn.next FN4.out b5)
  replace FN5 := Lib.hid (Sn.next FN5.out b5)
  replace F6 := Lib.hid (Sn.next F6.out b5)
  replace F7 := Lib.hid (Sn.next F7.out b5)
  replace B := Lib.hid (thn B.out b5)
  clear b5
  obtain ⟨c10, c11, c12, c13⟩ := K1.out.cells
  obtain ⟨c30, c31, c32, c33⟩ := K3.out.cells
  obtain ⟨c40, c41, c42, c43⟩ := K4.out.cells
  obtain ⟨c50, c51, c52, c53⟩ := K5.out.cells
  obtain ⟨c60, c61, c62, c63⟩ := K6.out.cells
  obtain ⟨c70, c71, c72, c73⟩ := K7.out.cells
  go_wp2_with fail
  have hc := HDD.out.same (d, hd) ((nn, d.2), hd) w11 FD.out FN3.out G1.out G3.out
  rw [show decide (((d, hd) : Dsc × Hd).1 = (((nn, d.2), hd) : Dsc × Hd).1) = false from decide_eq_false fun e => HNN.out.1 (congrArg (fun z : Dsc => z.1) e).symm] at hc
  refine hc.mono ?_
  clear hc
  rintro e w12 ⟨rfl, b5⟩
  clear c10 c11 c12 c13
  clear c30 c31 c32 c33
  clear c40 c41 c42 c43
  clear c50 c51 c52 c53
  clear c60 c61 c62 c63
  clear c70 c71 c72 c73
  replace K1 := Lib.hid (K1.out.next b5)
  replace K3 := Lib.hid (K3.out.next b5)
  replace K4 := Lib.hid (K4.out.next b5)
  replace K5 := Lib.hid (K5.out.next b5)
  replace K6 := Lib.hid (K6.out.next b5)
  replace K7 := Lib.hid (K7.out.next b5)
  replace FD := Lib.hid (Sn.next FD.out b5)
  replace FN3 := Lib.hid (Sn.next FN3.out b5)
  replace FN4 := Lib.hid (Sn.next FN4.out b5)
  replace FN5 := Lib.hid (Sn.next FN5.out b5)
  replace F6 := Lib.hid (Sn.next F6.out b5)
  replace F7 := Lib.hid (Sn.next F7.out b5)
  replace B := Lib.hid (thn B.out b5)
  clear b5
  obtain ⟨c10, c11, c12, c13⟩ := K1.out.cells
  obtain ⟨c30, c31, c32, c33⟩ := K3.out.cells
  obtain ⟨c40, c41, c42, c43⟩ := K4.out.cells
  obtain ⟨c50, c51, c52, c53⟩ := K5.out.cells
  obtain ⟨c60, c61, c62, c63⟩ := K6.out.cells
  obtain ⟨c70, c71, c72, c73⟩ := K7.out.cells
  go_wp2_with fail
  have hc := HDD.out.same (d, hd) ((d.1, ii, d.2.2), hd) w12 FD.out FN4.out G1.out G4.out
  rw [show decide (((d, hd) : Dsc × Hd).1 = (((d.1, ii, d.2.2), hd) : Dsc × Hd).1) = false from decide_eq_false fun e => HII.out.1 (congrArg (fun z : Dsc => z.2.1) e).symm] at hc
  refine hc.mono ?_
  clear hc
  rintro e w13 ⟨rfl, b5⟩
  clear c10 c11 c12 c13
  clear c30 c31 c32 c33
  clear c40 c41 c42 c43
  clear c50 c51 c52 c53
  clear c60 c61 c62 c63
  clear c70 c71 c72 c73
  replace K1 := Lib.hid (K1.out.next b5)
  replace K3 := Lib.hid (K3.out.next b5)
  replace K4 := Lib.hid (K4.out.next b5)
  replace K5 := Lib.hid (K5.out.next b5)
  replace K6 := Lib.hid (K6.out.next b5)
  replace K7 := Lib.hid (K7.out.next b5)
  replace FD := Lib.hid (Sn.next FD.out b5)
  replace FN3 := Lib.hid (Sn.next FN3.out b5)
  replace FN4 := Lib.hid (Sn.next FN4.out b5)
  replace FN5 := Lib.hid (Sn.next FN5.out b5)
  replace F6 := Lib.hid (Sn.next F6.out b5)
  replace F7 := Lib.hid (Sn.next F7.out b5)
  replace B := Lib.hid (thn B.out b5)
  clear b5
  obtain ⟨c10, c11, c12, c13⟩ := K1.out.cells
  obtain ⟨c30, c31, c32, c33⟩ := K3.out.cells
  obtain ⟨c40, c41, c42, c43⟩ := K4.out.cells
  obtain ⟨c50, c51, c52, c53⟩ := K5.out.cells
  obtain ⟨c60, c61, c62, c63⟩ := K6.out.cells
  obtain ⟨c70, c71, c72, c73⟩ := K7.out.cells
  go_wp2_with fail
  have hc := HDD.out.same ((d.1, d.2.1, aa, d.2.2.2), hd) (d, hd) w13 FN5.out FD.out G5.out G1.out
  rw [show decide ((((d.1, d.2.1, aa, d.2.2.2), hd) : Dsc × Hd).1 = ((d, hd) : Dsc × Hd).1) = false from decide_eq_false fun e => HAA.out.1 (congrArg (fun z : Dsc => z.2.2.1) e)] at hc
  refine hc.mono ?_
  clear hc
  rintro e w14 ⟨rfl, b5⟩
  clear c10 c11 c12 c13
  clear c30 c31 c32 c33
  clear c40 c41 c42 c43
  clear c50 c51 c52 c53
  clear c60 c61 c62 c63
  clear c70 c71 c72 c73
  replace K1 := Lib.hid (K1.out.next b5)
  replace K3 := Lib.hid (K3.out.next b5)
  replace K4 := Lib.hid (K4.out.next b5)
  replace K5 := Lib.hid (K5.out.next b5)
  replace K6 := Lib.hid (K6.out.next b5)
  replace K7 := Lib.hid (K7.out.next b5)
  replace FD := Lib.hid (Sn.next FD.out b5)
  replace FN3 := Lib.hid (Sn.next FN3.out b5)
  replace FN4 := Lib.hid (Sn.next FN4.out b5)
  replace FN5 := Lib.hid (Sn.next FN5.out b5)
  replace F6 := Lib.hid (Sn.next F6.out b5)
  replace F7 := Lib.hid (Sn.next F7.out b5)
  replace B := Lib.hid (thn B.out b5)
  clear b5
  obtain ⟨c10, c11, c12, c13⟩ := K1.out.cells
  obtain ⟨c30, c31, c32, c33⟩ := K3.out.cells
  obtain ⟨c40, c41, c42, c43⟩ := K4.out.cells
  obtain ⟨c50, c51, c52, c53⟩ := K5.out.cells
  obtain ⟨c60, c61, c62, c63⟩ := K6.out.cells
  obtain ⟨c70, c71, c72, c73⟩ := K7.out.cells
  go_wp2_with fail
  have hc := HDD.out.same (d, hd) ((d.1, d.2.1, d.2.2.1, d.2.2.2 ++ [(0, 0)]), (A5, hd.2.1 + 1, c5)) w14 FD.out F6.out G1.out G6.out
  rw [show decide (((d, hd) : Dsc × Hd).1 = (((d.1, d.2.1, d.2.2.1, d.2.2.2 ++ [(0, 0)]), (A5, hd.2.1 + 1, c5)) : Dsc × Hd).1) = false from decide_eq_false fun e => by have h := congrArg (fun z : Dsc => z.2.2.2.length) e; simp at h] at hc
  refine hc.mono ?_
  clear hc
  rintro e w15 ⟨rfl, b5⟩
  clear c10 c11 c12 c13
  clear c30 c31 c32 c33
  clear c40 c41 c42 c43
  clear c50 c51 c52 c53
  clear c60 c61 c62 c63
  clear c70 c71 c72 c73
  replace K1 := Lib.hid (K1.out.next b5)
  replace K3 := Lib.hid (K3.out.next b5)
  replace K4 := Lib.hid (K4.out.next b5)
  replace K5 := Lib.hid (K5.out.next b5)
  replace K6 := Lib.hid (K6.out.next b5)
  replace K7 := Lib.hid (K7.out.next b5)
  replace FD := Lib.hid (Sn.next FD.out b5)
  replace FN3 := Lib.hid (Sn.next FN3.out b5)
  replace FN4 := Lib.hid (Sn.next FN4.out b5)
  replace FN5 := Lib.hid (Sn.next FN5.out b5)
  replace F6 := Lib.hid (Sn.next F6.out b5)
  replace F7 := Lib.hid (Sn.next F7.out b5)
  replace B := Lib.hid (thn B.out b5)
  clear b5
  obtain ⟨c10, c11, c12, c13⟩ := K1.out.cells
  obtain ⟨c30, c31, c32, c33⟩ := K3.out.cells
  obtain ⟨c40, c41, c42, c43⟩ := K4.out.cells
  obtain ⟨c50, c51, c52, c53⟩ := K5.out.cells
  obtain ⟨c60, c61, c62, c63⟩ := K6.out.cells
  obtain ⟨c70, c71, c72, c73⟩ := K7.out.cells
  go_wp2_with fail
  have hc := HDD.out.same ((d.1, d.2.1, d.2.2.1, d.2.2.2 ++ [(0, 0)]), (A5, hd.2.1 + 1, c5)) (d, hd) w15 F6.out FD.out G6.out G1.out
  rw [show decide ((((d.1, d.2.1, d.2.2.1, d.2.2.2 ++ [(0, 0)]), (A5, hd.2.1 + 1, c5)) : Dsc × Hd).1 = ((d, hd) : Dsc × Hd).1) = false from decide_eq_false fun e => by have h := congrArg (fun z : Dsc => z.2.2.2.length) e; simp at h] at hc
  refine hc.mono ?_
  clear hc
  rintro e w16 ⟨rfl, b5⟩
  clear c10 c11 c12 c13
  clear c30 c31 c32 c33
  clear c40 c41 c42 c43
  clear c50 c51 c52 c53
  clear c60 c61 c62 c63
  clear c70 c71 c72 c73
  replace K1 := Lib.hid (K1.out.next b5)
  replace K3 := Lib.hid (K3.out.next b5)
  replace K4 := Lib.hid (K4.out.next b5)
  replace K5 := Lib.hid (K5.out.next b5)
  replace K6 := Lib.hid (K6.out.next b5)
  replace K7 := Lib.hid (K7.out.next b5)
  replace FD := Lib.hid (Sn.next FD.out b5)
  replace FN3 := Lib.hid (Sn.next FN3.out b5)
  replace FN4 := Lib.hid (Sn.next FN4.out b5)
  replace FN5 := Lib.hid (Sn.next FN5.out b5)
  replace F6 := Lib.hid (Sn.next F6.out b5)
  replace F7 := Lib.hid (Sn.next F7.out b5)
  replace B := Lib.hid (thn B.out b5)
  clear b5
  obtain ⟨c10, c11, c12, c13⟩ := K1.out.cells
  obtain ⟨c30, c31, c32, c33⟩ := K3.out.cells
  obtain ⟨c40, c41, c42, c43⟩ := K4.out.cells
  obtain ⟨c50, c51, c52, c53⟩ := K5.out.cells
  obtain ⟨c60, c61, c62, c63⟩ := K6.out.cells
  obtain ⟨c70, c71, c72, c73⟩ := K7.out.cells
  go_wp2_with fail
  have hc := HDD.out.same ((d.1, d.2.1, d.2.2.1, d.2.2.2 ++ [(0, 0)]), (A5, hd.2.1 + 1, c5)) ((d.1, d.2.1, d.2.2.1, d.2.2.2 ++ [(0, 1)]), (some ⟨q8, 0, none⟩, hd.2.1 + 1, c8)) w16 F6.out F7.out G6.out G7.out
  rw [show decide ((((d.1, d.2.1, d.2.2.1, d.2.2.2 ++ [(0, 0)]), (A5, hd.2.1 + 1, c5)) : Dsc × Hd).1 = (((d.1, d.2.1, d.2.2.1, d.2.2.2 ++ [(0, 1)]), (some ⟨q8, 0, none⟩, hd.2.1 + 1, c8)) : Dsc × Hd).1) = false from decide_eq_false fun e => by have h := congrArg (fun z : Dsc => z.2.2.2) e; simp at h] at hc
  refine hc.mono ?_
  clear hc
  rintro e w17 ⟨rfl, b5⟩
  clear c10 c11 c12 c13
  clear c30 c31 c32 c33
  clear c40 c41 c42 c43
  clear c50 c51 c52 c53
  clear c60 c61 c62 c63
  clear c70 c71 c72 c73
  replace K1 := Lib.hid (K1.out.next b5)
  replace K3 := Lib.hid (K3.out.next b5)
  replace K4 := Lib.hid (K4.out.next b5)
  replace K5 := Lib.hid (K5.out.next b5)
  replace K6 := Lib.hid (K6.out.next b5)
  replace K7 := Lib.hid (K7.out.next b5)
  replace FD := Lib.hid (Sn.next FD.out b5)
  replace FN3 := Lib.hid (Sn.next FN3.out b5)
  replace FN4 := Lib.hid (Sn.next FN4.out b5)
  replace FN5 := Lib.hid (Sn.next FN5.out b5)
  replace F6 := Lib.hid (Sn.next F6.out b5)
  replace F7 := Lib.hid (Sn.next F7.out b5)
  replace B := Lib.hid (thn B.out b5)
  clear b5
  go_wp2
  go_ret
  exact ⟨rfl, B.out⟩
end Go.Proofs.Ytlkjlmmdllkdcaa
