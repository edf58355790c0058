/- Layer 8: Take; its reference. -/
import Derived.Test.YtkdlgejkgcojkaaDoorQm
namespace Go.Proofs.YtkdlgejkgcojkaaDoor
open Go.RowKit
set_option linter.unusedVariables false
section
variable {w w' : World} {g b : Nat} {p : Row3}
theorem grown_set (w : World) (g i : Nat) (v : Value) : w.grownBy (w.setCell ⟨g, i, none⟩ v) (some g) := ⟨rfl, rfl, rfl, by simp, fun k hk hne => Below.heap_setCell _ _ _ _ (fun e => hne (by rw [e]))⟩
theorem grown_trans {a b c : World} {g : Nat} (h : a.grownBy b (some g)) (h' : b.grownBy c (some g)) : a.grownBy c (some g) :=
  ⟨h'.os.trans h.os, h'.tape.trans h.tape, h'.output.trans h.output, Nat.le_trans h.size h'.size, fun k hk hne => (h'.block k (Nat.lt_of_lt_of_le hk h.size) hne).trans (h.block k hk hne)⟩
theorem grown_set3 (w : World) (g : Nat) (u v x : Value) : w.grownBy (((w.setCell ⟨g, 0, none⟩ u).setCell ⟨g, 1, none⟩ v).setCell ⟨g, 2, none⟩ x) (some g) := grown_trans (grown_trans (grown_set _ _ _ _) (grown_set _ _ _ _)) (grown_set _ _ _ _)
theorem RowBlk.grown (h : RowBlk w b p) (hg : w.grownBy w' (some g)) (hne : b ≠ g) : RowBlk w' b p := (hg.block b h.lt (by simpa using hne)).trans h
theorem IdBlk.grown {x : Id3} (h : IdBlk w b x) (hg : w.grownBy w' (some g)) (hne : b ≠ g) : IdBlk w' b x := (hg.block b h.lt (by simpa using hne)).trans h
theorem belowG {n0 : Nat} {w0 : World} (h : Below n0 w0 w) (hg : w.grownBy w' (some g)) (h1 : n0 ≤ w.heap.size) (h2 : n0 ≤ g) : Below n0 w0 w' := h.grown hg h1 fun k hk => by cases hk; exact h2
theorem RowBlk.store (h : RowBlk w g p) (q : Row3) : RowBlk (((w.setCell ⟨g, 0, none⟩ (.int .u16 q.1)).setCell ⟨g, 1, none⟩ (.int .u32 q.2.1)).setCell ⟨g, 2, none⟩ (.int .u64 q.2.2)) g q :=
  Go.Joins.block_setCell (i := 2) (Go.Joins.block_setCell (i := 1) (Go.Joins.block_setCell (i := 0) h (.int .u16 q.1)) (.int .u32 q.2.1)) (.int .u64 q.2.2)
theorem RowBlk.put1 (h : RowBlk w g p) (v : Int) : RowBlk (w.setCell ⟨g, 1, none⟩ (.int .u32 v)) g (p.1, v, p.2.2) := Go.Joins.block_setCell (i := 1) h (.int .u32 v)
theorem RowBlk.put2 (h : RowBlk w g p) (v : Int) : RowBlk (w.setCell ⟨g, 2, none⟩ (.int .u64 v)) g (p.1, p.2.1, v) := Go.Joins.block_setCell (i := 2) h (.int .u64 v)
end
theorem boxes3 (w : World) (r : Row3) (x : Id3) : Hid (RowBlk (((w.alloc (.cells #[.int .u16 r.1, .int .u32 r.2.1, .int .u64 r.2.2] 26)).alloc (.cells #[.int .u8 x.1, .int .u16 x.2.1, .int .u32 x.2.2] 28)).alloc (.cells #[.int .u16 0, .int .u32 0, .int .u64 0] 26)) w.heap.size r) ∧ Hid (IdBlk (((w.alloc (.cells #[.int .u16 r.1, .int .u32 r.2.1, .int .u64 r.2.2] 26)).alloc (.cells #[.int .u8 x.1, .int .u16 x.2.1, .int .u32 x.2.2] 28)).alloc (.cells #[.int .u16 0, .int .u32 0, .int .u64 0] 26)) (w.heap.size + 1) x) ∧
    Hid (RowBlk (((w.alloc (.cells #[.int .u16 r.1, .int .u32 r.2.1, .int .u64 r.2.2] 26)).alloc (.cells #[.int .u8 x.1, .int .u16 x.2.1, .int .u32 x.2.2] 28)).alloc (.cells #[.int .u16 0, .int .u32 0, .int .u64 0] 26)) (w.heap.size + 1 + 1) (0, 0, 0)) ∧ Hid (Below w.heap.size w (((w.alloc (.cells #[.int .u16 r.1, .int .u32 r.2.1, .int .u64 r.2.2] 26)).alloc (.cells #[.int .u8 x.1, .int .u16 x.2.1, .int .u32 x.2.2] 28)).alloc (.cells #[.int .u16 0, .int .u32 0, .int .u64 0] 26))) := by
  unfold Hid
  refine ⟨((RowBlk.new w r).next (below_lit _ _)).next (below_lit _ _), ?_, ?_, thn (thn (below_lit _ _) (below_lit _ _)) (below_lit _ _)⟩
  · have := (IdBlk.new (w.alloc (.cells #[.int .u16 r.1, .int .u32 r.2.1, .int .u64 r.2.2] 26)) x).next (below_lit _ (.cells #[.int .u16 0, .int .u32 0, .int .u64 0] 26)); simpa using this
  · have := RowBlk.new ((w.alloc (.cells #[.int .u16 r.1, .int .u32 r.2.1, .int .u64 r.2.2] 26)).alloc (.cells #[.int .u8 x.1, .int .u16 x.2.1, .int .u32 x.2.2] 28)) (0, 0, 0); simpa using this
theorem letters3 (a : Nat) : ∃ gr gx ga, a = gr ∧ gr + 1 = gx ∧ gx + 1 = ga ∧ gr ≠ gx ∧ gx ≠ gr ∧ gr ≠ ga ∧ ga ≠ gr ∧ gx ≠ ga ∧ ga ≠ gx ∧ Hid (a ≤ gr) ∧ Hid (a ≤ gx) ∧ Hid (a ≤ ga) := by
  refine ⟨a, a + 1, a + 1 + 1, rfl, rfl, rfl, ?_⟩
  unfold Hid; omega
set_option maxRecDepth 100000 in
set_option maxHeartbeats 4000000 in
theorem take_no (r : Row3) (x : Id3) (n : Int) (w : World) (hr : rowR r) (hx : idR x) (hm : mayI r x n = false) : Calls Tryd.prog 13 #[(.agg #[.int .u16 r.1, .int .u32 r.2.1, .int .u64 r.2.2]), (.agg #[.int .u8 x.1, .int .u16 x.2.1, .int .u32 x.2.2]), .int .i64 n] w fun e w' => e = .returned (.tuple #[(.agg #[.int .u16 r.1, .int .u32 r.2.1, .int .u64 r.2.2]), .bool false]) ∧ Below w.heap.size w w' := by
  obtain ⟨KR, KX, KA, B⟩ := boxes3 w r x
  have HM := Lib.hid hm
  have HR := Lib.hid hr
  have HX := Lib.hid hx
  clear hm hr hx
  go_enter Tryd.func13, Tryd.ntmps13
  go_upto_region 1 with fail
  generalize ((w.alloc (.cells #[.int .u16 r.1, .int .u32 r.2.1, .int .u64 r.2.2] 26)).alloc (.cells #[.int .u8 x.1, .int .u16 x.2.1, .int .u32 x.2.2] 28)).alloc (.cells #[.int .u16 0, .int .u32 0, .int .u64 0] 26) = w1 at *
  obtain ⟨gr, gx, ga, hgr, hgx, hga, n1, n2, n3, n4, n5, n6, LR, LX, LA⟩ := letters3 w.heap.size
  rw [hgr] at KR KX KA ⊢
  rw [hgx] at KX KA ⊢
  rw [hga] at KA ⊢
  have HGR := Lib.hid hgr
  clear hgr hgx hga
  obtain ⟨pKR, qKR, rKR⟩ := KR.out.cells
  obtain ⟨pKX, qKX, rKX⟩ := KX.out.cells
  obtain ⟨pKA, qKA, rKA⟩ := KA.out.cells
  go_wp2_with fail
  have hc := may_any r x n w1 HR.out HX.out
  rw [HM.out] at hc
  refine hc.mono ?_
  clear hc
  clear pKR qKR rKR pKX qKX rKX pKA qKA rKA
  rintro e w2 ⟨rfl, b5⟩
  replace KR := Lib.hid (KR.out.next b5)
  replace KX := Lib.hid (KX.out.next b5)
  replace KA := Lib.hid (KA.out.next b5)
  replace B := Lib.hid (thn B.out b5)
  clear b5
  obtain ⟨pKR, qKR, rKR⟩ := KR.out.cells
  obtain ⟨pKX, qKX, rKX⟩ := KX.out.cells
  obtain ⟨pKA, qKA, rKA⟩ := KA.out.cells
  have fKA := KA.out.free
  go_wp2
  have KE := KA.out.store r
  obtain ⟨e0, e1, e2⟩ := KE.cells
  exact bodyPost_ret (v := .tuple #[(.agg #[.int .u16 r.1, .int .u32 r.2.1, .int .u64 r.2.2]), .bool false]) (by simp [results, Tryd.results13, go_sem, e0, e1, e2]) rfl ⟨rfl, by rw [HGR.out]; exact HGR.out ▸ belowG B.out (grown_set3 _ _ _ _ _) B.out.size LA.out⟩
set_option maxRecDepth 100000 in
set_option maxHeartbeats 4000000 in
theorem reftake_no (r : Row3) (x : Id3) (n : Int) (w : World) (hr : rowR r) (hx : idR x) (hm : mayI r x n = false) : Calls Tryd.prog 14 #[(.agg #[.int .u16 r.1, .int .u32 r.2.1, .int .u64 r.2.2]), (.agg #[.int .u8 x.1, .int .u16 x.2.1, .int .u32 x.2.2]), .int .i64 n] w fun e w' => e = .returned (.tuple #[(.agg #[.int .u16 r.1, .int .u32 r.2.1, .int .u64 r.2.2]), .bool false]) ∧ Below w.heap.size w w' := by
  obtain ⟨KR, KX, KA, B⟩ := boxes3 w r x
  have HM := Lib.hid hm
  have HR := Lib.hid hr
  have HX := Lib.hid hx
  clear hm hr hx
  go_enter Tryd.func14, Tryd.ntmps14
  go_upto_region 1 with fail
  generalize ((w.alloc (.cells #[.int .u16 r.1, .int .u32 r.2.1, .int .u64 r.2.2] 26)).alloc (.cells #[.int .u8 x.1, .int .u16 x.2.1, .int .u32 x.2.2] 28)).alloc (.cells #[.int .u16 0, .int .u32 0, .int .u64 0] 26) = w1 at *
  obtain ⟨gr, gx, ga, hgr, hgx, hga, n1, n2, n3, n4, n5, n6, LR, LX, LA⟩ := letters3 w.heap.size
  rw [hgr] at KR KX KA ⊢
  rw [hgx] at KX KA ⊢
  rw [hga] at KA ⊢
  have HGR := Lib.hid hgr
  clear hgr hgx hga
  obtain ⟨pKR, qKR, rKR⟩ := KR.out.cells
  obtain ⟨pKX, qKX, rKX⟩ := KX.out.cells
  obtain ⟨pKA, qKA, rKA⟩ := KA.out.cells
  go_wp2_with fail
  have hc := refmay_any r x n w1 HR.out HX.out
  rw [HM.out] at hc
  refine hc.mono ?_
  clear hc
  clear pKR qKR rKR pKX qKX rKX pKA qKA rKA
  rintro e w2 ⟨rfl, b5⟩
  replace KR := Lib.hid (KR.out.next b5)
  replace KX := Lib.hid (KX.out.next b5)
  replace KA := Lib.hid (KA.out.next b5)
  replace B := Lib.hid (thn B.out b5)
  clear b5
  obtain ⟨pKR, qKR, rKR⟩ := KR.out.cells
  obtain ⟨pKX, qKX, rKX⟩ := KX.out.cells
  obtain ⟨pKA, qKA, rKA⟩ := KA.out.cells
  have fKA := KA.out.free
  go_wp2
  have KE := KA.out.store r
  obtain ⟨e0, e1, e2⟩ := KE.cells
  exact bodyPost_ret (v := .tuple #[(.agg #[.int .u16 r.1, .int .u32 r.2.1, .int .u64 r.2.2]), .bool false]) (by simp [results, Tryd.results14, go_sem, e0, e1, e2]) rfl ⟨rfl, by rw [HGR.out]; exact HGR.out ▸ belowG B.out (grown_set3 _ _ _ _ _) B.out.size LA.out⟩
theorem u64_not (m : Int) (m0 : 0 ≤ m) (m1 : m ≤ 18446744073709551615) : bits .xor .u64 IntKind.u64.max m = 18446744073709551615 - m := by
  obtain ⟨a, rfl⟩ : ∃ a : Nat, m = a := ⟨m.toNat, by omega⟩
  show IntKind.u64.wrap ((BitVec.ofInt 64 18446744073709551615 ^^^ BitVec.ofInt 64 (a : Int)).toNat : Int) = _
  have h1 : BitVec.ofInt 64 18446744073709551615 = BitVec.allOnes 64 := by decide
  rw [h1, BitVec.allOnes_xor, BitVec.toNat_not, ofInt_u64 a (by omega), IntKind.wrap_u64]
  omega
theorem or_asked {b k m : Int} (h : b.toNat.testBit k.toNat = false) (hm : b + 2 ^ k.toNat = m) (b0 : 0 ≤ b) (b1 : b ≤ 18446744073709551615) (m1 : m ≤ 18446744073709551615) (k0 : 0 ≤ k) (k1 : k < 64) : bits .or .u64 b (2 ^ k.toNat) = m := by
  have e2 : (2 : Int) ^ k.toNat = ((2 ^ k.toNat : Nat) : Int) := by simp
  have e3 : b = (b.toNat : Int) := by omega
  rw [e2] at hm ⊢
  rw [e3, bits_or_u64_nat _ _ (by omega) (by have : (2 : Nat) ^ k.toNat ≤ 2 ^ 63 := Nat.pow_le_pow_right (by decide) (by omega)
                                             omega), or_pow h]
  omega
theorem pow_le {k P : Int} (k0 : 0 ≤ k) (k1 : k < 64) (h : (2 : Int) ^ k.toNat = P) : 0 ≤ P ∧ P ≤ 18446744073709551615 := by
  have e2 : (2 : Int) ^ k.toNat = ((2 ^ k.toNat : Nat) : Int) := by simp
  have h3 : (2 : Nat) ^ k.toNat ≤ 2 ^ 63 := Nat.pow_le_pow_right (by decide) (by omega)
  rw [e2] at h
  generalize (2 : Nat) ^ k.toNat = p at *
  omega
theorem shr_ones {m : Int} {o : Nat} (m0 : 0 ≤ m) (m1 : m ≤ 18446744073709551615) (ho : o ≤ 64) : m / 2 ^ o = ((m.toNat / 2 ^ o : Nat) : Int) := by
  have : m = (m.toNat : Int) := by omega
  conv => lhs; rw [this]
  simp
theorem not_asked {m : Int} {o : Nat} (h : m.toNat < 2 ^ 64) (m0 : 0 ≤ m) (ho : ones 64 m.toNat = o) (w : World) (hT : Tab w) : Calls Tryd.prog 24 #[.int .u64 (18446744073709551615 - m)] w fun e w' => e = .returned (.int .i64 (o : Int)) ∧ w = w' := by
  have := tz_any (18446744073709551615 - m.toNat) (by omega) w hT
  have e : ((18446744073709551615 - m.toNat : Nat) : Int) = 18446744073709551615 - m := by omega
  rw [e] at this
  have e2 : Lib.ctz 64 (18446744073709551615 - m.toNat) = o := ho
  rw [e2] at this
  exact this
set_option maxRecDepth 100000 in
set_option maxHeartbeats 4000000 in
theorem take_yes (r : Row3) (x : Id3) (n : Int) (w : World) (hr : rowR r) (hx : idR x) (hR : rightI r n = true) (hm : mayI r x n = true) (hT : Tab w) : Calls Tryd.prog 13 #[(.agg #[.int .u16 r.1, .int .u32 r.2.1, .int .u64 r.2.2]), (.agg #[.int .u8 x.1, .int .u16 x.2.1, .int .u32 x.2.2]), .int .i64 n] w fun e w' => e = .returned (.tuple #[(.agg #[.int .u16 (takeI r x).1, .int .u32 (takeI r x).2.1, .int .u64 (takeI r x).2.2]), .bool true]) ∧ Below w.heap.size w w' := by
  obtain ⟨KR, KX, KA, B⟩ := boxes3 w r x
  obtain ⟨q, k, b, m, ho, ⟨_, ⟨q0, q1⟩, b0, b1⟩, hqn, hk, k0, k1, k2, hbit, hbm, m0, m1, ht, hle, hone⟩ := take_facts hr hx.2.1 hx.2.2.2 hR hm
  have hor := or_asked hbit hbm b0 b1 m1 k0 k1
  obtain ⟨P, hP⟩ : ∃ P, (2 : Int) ^ k.toNat = P := ⟨_, rfl⟩
  rw [hP] at hor
  have hP1 := pow_le k0 k1 hP
  obtain ⟨P0, P1⟩ := hP1
  have hs0 : 0 ≤ x.2.2 - q := by omega
  obtain ⟨o, hO⟩ : ∃ o, Hid (ones 64 m.toNat = o) := ⟨_, rfl⟩
  rw [hO.out] at ht hle hone
  have HMM : Hid (m.toNat = m.toNat ∧ m.toNat < 2 ^ 64) := ⟨rfl, by omega⟩
  have hsh := shr_ones (m := m) (o := o) m0 m1 hone
  have hnot := u64_not m m0 m1
  obtain ⟨z, hz⟩ : ∃ z : Int, ((m.toNat / 2 ^ o : Nat) : Int) = z := ⟨_, rfl⟩
  rw [hz] at hsh ht
  rw [ht]
  have HO := Lib.hid ho
  have HM := Lib.hid hm
  have HR := Lib.hid hr
  have HX := Lib.hid hx
  have HT := Lib.hid hT
  have HXN := Lib.hid hx.2.2
  obtain ⟨x0, x1⟩ := hx.2.2
  clear hm hr hx hT hR ho ht hbit hbm hz hqn
  have o0 : (0 : Int) ≤ (o : Int) := by omega
  have o1 : (o : Int) ≤ 64 := by omega
  go_enter Tryd.func13, Tryd.ntmps13
  go_upto_region 1 with fail
  generalize ((w.alloc (.cells #[.int .u16 r.1, .int .u32 r.2.1, .int .u64 r.2.2] 26)).alloc (.cells #[.int .u8 x.1, .int .u16 x.2.1, .int .u32 x.2.2] 28)).alloc (.cells #[.int .u16 0, .int .u32 0, .int .u64 0] 26) = w1 at *
  obtain ⟨gr, gx, ga, hgr, hgx, hga, n1, n2, n3, n4, n5, n6, LR, LX, LA⟩ := letters3 w.heap.size
  rw [hgr] at KR KX KA ⊢
  rw [hgx] at KX KA ⊢
  rw [hga] at KA ⊢
  have HGR := Lib.hid hgr
  clear hgr hgx hga
  obtain ⟨pKR, qKR, rKR⟩ := KR.out.cells
  obtain ⟨pKX, qKX, rKX⟩ := KX.out.cells
  obtain ⟨pKA, qKA, rKA⟩ := KA.out.cells
  go_wp2_with fail
  have hc := may_any r x n w1 HR.out HX.out
  rw [HM.out] at hc
  refine hc.mono ?_
  clear hc
  clear pKR qKR rKR pKX qKX rKX pKA qKA rKA
  rintro e w2 ⟨rfl, b5⟩
  replace KR := Lib.hid (KR.out.next b5)
  replace KX := Lib.hid (KX.out.next b5)
  replace KA := Lib.hid (KA.out.next b5)
  replace B := Lib.hid (thn B.out b5)
  clear b5
  obtain ⟨pKR, qKR, rKR⟩ := KR.out.cells
  obtain ⟨pKX, qKX, rKX⟩ := KX.out.cells
  obtain ⟨pKA, qKA, rKA⟩ := KA.out.cells
  go_wp2_with fail
  have hc := of_any r x.2.1 w2
  rw [HO.out] at hc
  refine hc.mono ?_
  clear hc
  clear pKR qKR rKR pKX qKX rKX pKA qKA rKA
  rintro e w3 ⟨rfl, b5⟩
  replace KR := Lib.hid (KR.out.next b5)
  replace KX := Lib.hid (KX.out.next b5)
  replace KA := Lib.hid (KA.out.next b5)
  replace B := Lib.hid (thn B.out b5)
  clear b5
  obtain ⟨pKR, qKR, rKR⟩ := KR.out.cells
  obtain ⟨pKX, qKX, rKX⟩ := KX.out.cells
  obtain ⟨pKA, qKA, rKA⟩ := KA.out.cells
  have fKR := KR.out.free
  go_upto_region 4 with fail
  clear pKR qKR rKR pKX qKX rKX pKA qKA rKA fKR
  have hgw : w3.grownBy (((w3.setCell ⟨gr, 0, none⟩ (.int .u16 x.2.1)).setCell ⟨gr, 1, none⟩ (.int .u32 q)).setCell ⟨gr, 2, none⟩ (.int .u64 b)) (some gr) := grown_set3 _ _ _ _ _
  replace KX := Lib.hid (KX.out.grown hgw (by assumption))
  replace KA := Lib.hid (KA.out.grown hgw (by assumption))
  replace KR := Lib.hid (KR.out.store (x.2.1, q, b))
  replace B := Lib.hid (belowG B.out hgw B.out.size LR.out)
  clear hgw
  generalize ((w3.setCell ⟨gr, 0, none⟩ (.int .u16 x.2.1)).setCell ⟨gr, 1, none⟩ (.int .u32 q)).setCell ⟨gr, 2, none⟩ (.int .u64 b) = w4 at *
  obtain ⟨pKR, qKR, rKR⟩ := KR.out.cells
  obtain ⟨pKX, qKX, rKX⟩ := KX.out.cells
  obtain ⟨pKA, qKA, rKA⟩ := KA.out.cells
  have fKR := KR.out.free
  go_upto_region 5 with fail
  clear pKR qKR rKR pKX qKX rKX pKA qKA rKA fKR
  have hgw : w4.grownBy (w4.setCell ⟨gr, 2, none⟩ (.int .u64 m)) (some gr) := grown_set _ _ _ _
  replace KX := Lib.hid (KX.out.grown hgw (by assumption))
  replace KA := Lib.hid (KA.out.grown hgw (by assumption))
  replace KR := Lib.hid (KR.out.put2 m)
  replace B := Lib.hid (belowG B.out hgw B.out.size LR.out)
  clear hgw
  generalize w4.setCell ⟨gr, 2, none⟩ (.int .u64 m) = w5 at *
  obtain ⟨pKR, qKR, rKR⟩ := KR.out.cells
  obtain ⟨pKX, qKX, rKX⟩ := KX.out.cells
  obtain ⟨pKA, qKA, rKA⟩ := KA.out.cells
  go_wp2_with fail
  have hc := not_asked HMM.out.2 m0 hO.out w5 (HT.out.next B.out)
  refine hc.mono ?_
  clear hc
  clear pKR qKR rKR pKX qKX rKX pKA qKA rKA
  rintro e _ ⟨rfl, rfl⟩
  obtain ⟨pKR, qKR, rKR⟩ := KR.out.cells
  obtain ⟨pKX, qKX, rKX⟩ := KX.out.cells
  obtain ⟨pKA, qKA, rKA⟩ := KA.out.cells
  have fKR := KR.out.free
  go_upto_region 7 with fail
  clear pKR qKR rKR pKX qKX rKX pKA qKA rKA fKR
  have hgw : w5.grownBy (w5.setCell ⟨gr, 1, none⟩ (.int .u32 (q + (o : Int)))) (some gr) := grown_set _ _ _ _
  replace KX := Lib.hid (KX.out.grown hgw (by assumption))
  replace KA := Lib.hid (KA.out.grown hgw (by assumption))
  replace KR := Lib.hid (KR.out.put1 (q + (o : Int)))
  replace B := Lib.hid (belowG B.out hgw B.out.size LR.out)
  clear hgw
  generalize w5.setCell ⟨gr, 1, none⟩ (.int .u32 (q + (o : Int))) = w6 at *
  obtain ⟨pKR, qKR, rKR⟩ := KR.out.cells
  obtain ⟨pKX, qKX, rKX⟩ := KX.out.cells
  obtain ⟨pKA, qKA, rKA⟩ := KA.out.cells
  have fKR := KR.out.free
  go_upto_region 8 with fail
  clear pKR qKR rKR pKX qKX rKX pKA qKA rKA fKR
  have hgw : w6.grownBy (w6.setCell ⟨gr, 2, none⟩ (.int .u64 z)) (some gr) := grown_set _ _ _ _
  replace KX := Lib.hid (KX.out.grown hgw (by assumption))
  replace KA := Lib.hid (KA.out.grown hgw (by assumption))
  replace KR := Lib.hid (KR.out.put2 z)
  replace B := Lib.hid (belowG B.out hgw B.out.size LR.out)
  clear hgw
  generalize w6.setCell ⟨gr, 2, none⟩ (.int .u64 z) = w7 at *
  obtain ⟨pKR, qKR, rKR⟩ := KR.out.cells
  obtain ⟨pKX, qKX, rKX⟩ := KX.out.cells
  obtain ⟨pKA, qKA, rKA⟩ := KA.out.cells
  have fKA := KA.out.free
  go_wp2
  have KE := KA.out.store (x.2.1, q + (o : Int), z)
  obtain ⟨e0, e1, e2⟩ := KE.cells
  exact bodyPost_ret (v := .tuple #[(.agg #[.int .u16 (x.2.1, q + (o : Int), z).1, .int .u32 (x.2.1, q + (o : Int), z).2.1, .int .u64 (x.2.1, q + (o : Int), z).2.2]), .bool true]) (by simp [results, Tryd.results13, go_sem, e0, e1, e2]) rfl ⟨rfl, by rw [HGR.out]; exact HGR.out ▸ belowG B.out (grown_set3 _ _ _ _ _) B.out.size LA.out⟩
theorem power_below (i : Int) (w : World) (hi : 0 ≤ i) (hi1 : i < 64) : Calls Tryd.prog 25 #[.int .i64 i] w fun e w' => e = .returned (.int .u64 (2 ^ i.toNat)) ∧ Below w.heap.size w w' :=
  (power_any i w hi hi1).mono fun e w' ⟨h, h'⟩ => ⟨h, by rw [← h']; exact Below.refl _ _⟩
/-- One step of the reference's loop. -/
theorem norm_odd {k p b : Nat} (h : b % 2 = 1) : normR (k + 1) p b = normR k (p + 1) (b / 2) := by
  show (if b % 2 = 1 then normR k (p + 1) (b / 2) else (p, b)) = _
  rw [if_pos h]
theorem norm_stop {k p b : Nat} (h : b % 2 ≠ 1) : normR k p b = (p, b) := by
  cases k with
  | zero => rfl
  | succ k => show (if b % 2 = 1 then normR k (p + 1) (b / 2) else (p, b)) = _; rw [if_neg h]
theorem take_norm {r : Row3} {x : Id3} {n : Int} (hr : rowR r) (hx : idR x) (hR : rightI r n = true) (hm : mayI r x n = true) :
    ∃ q k b m : Int, ofI r x.2.1 = (x.2.1, q, b) ∧ rowR (x.2.1, q, b) ∧ q < x.2.2 ∧ x.2.2 - q - 1 = k ∧ 0 ≤ k ∧ k < 64 ∧ b + 2 ^ k.toNat = m ∧ 0 ≤ m ∧ m ≤ 18446744073709551615 ∧
      takeI r x = (x.2.1, ((normR 64 q.toNat m.toNat).1 : Int), ((normR 64 q.toNat m.toNat).2 : Int)) ∧ (normR 64 q.toNat m.toNat).1 ≤ 4294967295 := by
  obtain ⟨q, k, b, m, ho, hR2, hqn, hk, k0, k1, k2, hbit, hbm, m0, m1, ht, hle, hone⟩ := take_facts hr hx.2.1 hx.2.2.2 hR hm
  have e := norm_ones 64 q.toNat m.toNat (by omega)
  have q0 : 0 ≤ q := hR2.2.1.1
  refine ⟨q, k, b, m, ho, hR2, hqn, hk, k0, k1, hbm, m0, m1, ?_, ?_⟩
  · rw [ht, e]
    refine Prod.ext rfl (Prod.ext ?_ rfl)
    show q + _ = ((q.toNat + _ : Nat) : Int)
    omega
  · rw [e]
    show q.toNat + _ ≤ _
    omega
set_option maxRecDepth 100000 in
set_option maxHeartbeats 8000000 in
theorem reftake_yes (r : Row3) (x : Id3) (n : Int) (w : World) (hr : rowR r) (hx : idR x) (hR : rightI r n = true) (hm : mayI r x n = true) : Calls Tryd.prog 14 #[(.agg #[.int .u16 r.1, .int .u32 r.2.1, .int .u64 r.2.2]), (.agg #[.int .u8 x.1, .int .u16 x.2.1, .int .u32 x.2.2]), .int .i64 n] w fun e w' => e = .returned (.tuple #[(.agg #[.int .u16 (takeI r x).1, .int .u32 (takeI r x).2.1, .int .u64 (takeI r x).2.2]), .bool true]) ∧ Below w.heap.size w w' := by
  obtain ⟨KR, KX, KA, B⟩ := boxes3 w r x
  obtain ⟨q, k, b, m, ho, ⟨_, ⟨q0, q1⟩, b0, b1⟩, hqn, hk, k0, k1, hbm, m0, m1, ht, hle⟩ := take_norm hr hx hR hm
  obtain ⟨P, hP⟩ : ∃ P, (2 : Int) ^ k.toNat = P := ⟨_, rfl⟩
  rw [hP] at hbm
  have hs0 : 0 ≤ x.2.2 - q := by omega
  obtain ⟨⟨fp, fb⟩, hF⟩ : ∃ v, Hid (normR 64 q.toNat m.toNat = v) := ⟨_, rfl⟩
  rw [hF.out] at ht hle
  rw [ht]
  have hinc := may_parts hm
  have HO := Lib.hid ho
  have HM := Lib.hid hm
  have HR := Lib.hid hr
  have HX := Lib.hid hx
  have HP := Lib.hid hP
  have HL := Lib.hid hle
  obtain ⟨x0, x1⟩ := hx.2.2
  have hk64 : k ≤ 9223372036854775807 := by omega
  have hk32 : k ≤ 4294967295 := by omega
  have P0 : 0 ≤ P := (pow_le k0 k1 hP).1
  have hcase : (r.1 < x.2.1) ∨ r.1 = x.2.1 := by omega
  have HC : Hid (r.1 = x.2.1 → r = (x.2.1, q, b)) := fun h => by rw [← ho]; exact (ofI_same h).symm
  have HD : Hid (r.1 < x.2.1 → q = 0 ∧ b = 0) := fun h => by
    have h1 := ho
    rw [ofI_other (by omega)] at h1
    simp only [Prod.mk.injEq] at h1
    exact ⟨h1.2.1.symm, h1.2.2.symm⟩
  clear hm hr hx hR ho ht hP hqn hinc hle
  rcases hcase with hcl | hcl
  · have HQ0 := Lib.hid (HD.out hcl).1
    have HB0 := Lib.hid (HD.out hcl).2
    go_enter Tryd.func14, Tryd.ntmps14
    go_upto_region 1 with fail
    generalize ((w.alloc (.cells #[.int .u16 r.1, .int .u32 r.2.1, .int .u64 r.2.2] 26)).alloc (.cells #[.int .u8 x.1, .int .u16 x.2.1, .int .u32 x.2.2] 28)).alloc (.cells #[.int .u16 0, .int .u32 0, .int .u64 0] 26) = w1 at *
    obtain ⟨gr, gx, ga, hgr, hgx, hga, n1, n2, n3, n4, n5, n6, LR, LX, LA⟩ := letters3 w.heap.size
    rw [hgr] at KR KX KA ⊢
    rw [hgx] at KX KA ⊢
    rw [hga] at KA ⊢
    have HGR := Lib.hid hgr
    clear hgr hgx hga
    obtain ⟨pKR, qKR, rKR⟩ := KR.out.cells
    obtain ⟨pKX, qKX, rKX⟩ := KX.out.cells
    obtain ⟨pKA, qKA, rKA⟩ := KA.out.cells
    go_wp2_with fail
    have hc := refmay_any r x n w1 HR.out HX.out
    rw [HM.out] at hc
    refine hc.mono ?_
    clear hc
    clear pKR qKR rKR pKX qKX rKX pKA qKA rKA
    rintro e w2 ⟨rfl, b5⟩
    replace KR := Lib.hid (KR.out.next b5)
    replace KX := Lib.hid (KX.out.next b5)
    replace KA := Lib.hid (KA.out.next b5)
    replace B := Lib.hid (thn B.out b5)
    clear b5
    obtain ⟨pKR, qKR, rKR⟩ := KR.out.cells
    obtain ⟨pKX, qKX, rKX⟩ := KX.out.cells
    obtain ⟨pKA, qKA, rKA⟩ := KA.out.cells
    have fKR := KR.out.free
    go_upto_region 5 with fail
    clear pKR qKR rKR pKX qKX rKX pKA qKA rKA fKR
    have hgw : w2.grownBy (((w2.setCell ⟨gr, 0, none⟩ (.int .u16 x.2.1)).setCell ⟨gr, 1, none⟩ (.int .u32 0)).setCell ⟨gr, 2, none⟩ (.int .u64 0)) (some gr) := grown_set3 _ _ _ _ _
    replace KX := Lib.hid (KX.out.grown hgw (by assumption))
    replace KA := Lib.hid (KA.out.grown hgw (by assumption))
    replace KR := Lib.hid (KR.out.store (x.2.1, 0, 0))
    replace B := Lib.hid (belowG B.out hgw B.out.size LR.out)
    clear hgw
    generalize ((w2.setCell ⟨gr, 0, none⟩ (.int .u16 x.2.1)).setCell ⟨gr, 1, none⟩ (.int .u32 0)).setCell ⟨gr, 2, none⟩ (.int .u64 0) = w3 at *
    replace KR : Hid (RowBlk w3 gr (x.2.1, q, b)) := by have h := KR.out; unfold Hid; rw [HQ0.out, HB0.out]; exact h
    refine wp_region_typed 12 [(22, .val (.pointer (some ⟨gr, 2, none⟩))), (23, .val (.int .u64 (x.2.1, q, b).2.2)), (24, .val (.pointer (some ⟨gx, 2, none⟩))), (25, .val (.int .u32 x.2.2)), (26, .val (.pointer (some ⟨gr, 1, none⟩))), (27, .val (.int .u32 (x.2.1, q, b).2.1)), (28, .val (.int .u32 (x.2.2 - q))), (29, .val (.int .u32 k)), (30, .val (.int .i64 k)), (31, .val (.int .u64 P)), (32, .val (.int .u64 m)), (33, .val (.pointer (some ⟨gr, 2, none⟩)))]
      [[], [22], [], [24], [], [26], [25, 27], [28], [29], [30], [23, 31], []] (by kernel_rfl) (by kernel_rfl) ?_ ?_
    rotate_left
    · intro w9 hb
      simp only [List.take_succ_cons, List.take_zero, List.drop_succ_cons, List.drop_zero]
      refine over_ds (ds := [22, 23, 24, 25, 26, 27, 28, 29, 30, 31, 32, 33]) (by kernel_rfl) ?_
      refine over_some (ds1 := [22, 23, 24, 25, 26, 27, 28, 29, 30, 31, 32, 33]) (ds2 := []) [(.pointer (some ⟨gr, 2, none⟩)), (.int .u64 (x.2.1, q, b).2.2), (.pointer (some ⟨gx, 2, none⟩)), (.int .u32 x.2.2), (.pointer (some ⟨gr, 1, none⟩)), (.int .u32 (x.2.1, q, b).2.1), (.int .u32 (x.2.2 - q)), (.int .u32 k), (.int .i64 k), (.int .u64 P), (.int .u64 m), (.pointer (some ⟨gr, 2, none⟩))] (by kernel_rfl) ?_
      refine over_nil ?_
      simp only [putAll, put_lit, List.set_cons_succ, List.set_cons_zero]
      replace KR := Lib.hid (KR.out.next hb)
      replace KX := Lib.hid (KX.out.next hb)
      replace KA := Lib.hid (KA.out.next hb)
      replace B := Lib.hid (thn B.out hb)
      clear hb
      obtain ⟨pKR, qKR, rKR⟩ := KR.out.cells
      obtain ⟨pKX, qKX, rKX⟩ := KX.out.cells
      obtain ⟨pKA, qKA, rKA⟩ := KA.out.cells
      have fKR := KR.out.free
      go_upto_region 6 with fail
      clear pKR qKR rKR pKX qKX rKX pKA qKA rKA fKR
      have hgw : w9.grownBy (w9.setCell ⟨gr, 2, none⟩ (.int .u64 m)) (some gr) := grown_set _ _ _ _
      replace KX := Lib.hid (KX.out.grown hgw (by assumption))
      replace KA := Lib.hid (KA.out.grown hgw (by assumption))
      replace KR := Lib.hid (KR.out.put2 m)
      replace B := Lib.hid (belowG B.out hgw B.out.size LR.out)
      clear hgw
      generalize w9.setCell ⟨gr, 2, none⟩ (.int .u64 m) = w5 at *
      have E0 : Hid (gr ≠ gx ∧ gr ≠ ga) := ⟨n1, n3⟩
      go_loopw [] (fun wr => ∃ (j : Nat) (p c : Int), j ≤ 64 ∧ Hid (RowBlk wr gr (x.2.1, p, c)) ∧ Hid (IdBlk wr gx x) ∧ Hid (RowBlk wr ga (0, 0, 0)) ∧ Hid (Below w.heap.size w wr) ∧ 0 ≤ p ∧ p ≤ 4294967295 ∧ 0 ≤ c ∧ c ≤ 18446744073709551615 ∧ Hid (c < 2 ^ j) ∧ Hid (normR j p.toNat c.toNat = (fp, fb))) (fun wr => match wr.cell? ⟨gr, 2, none⟩ with | some (.int _ c) => c.toNat | _ => 0)
      case atStart => exact ⟨64, q, m, Nat.le_refl _, KR, KX, KA, B, q0, q1, m0, m1, by unfold Hid; omega, hF⟩
      case round =>
        clear KR KX KA B
        obtain ⟨j, p, c, hj, KR, KX, KA, B, p0, p1, c0, c1, HJ, HN⟩ := hrel
        by_cases hodd : c.toNat % 2 = 1
        · have hj1 : 1 ≤ j := by
            rcases Nat.eq_zero_or_pos j with h | h
            · subst h; have := HJ.out; simp at this; omega
            · exact h
          have hN := HN.out
          obtain ⟨i, rfl⟩ : ∃ i, j = i + 1 := ⟨j - 1, by omega⟩
          rw [norm_odd hodd] at hN
          have hfp := norm_le i (p.toNat + 1) (c.toNat / 2)
          rw [hN] at hfp
          have hL := HL.out
          have p2 : p + 1 ≤ 4294967295 := by simp only at hfp; omega
          have HN2 : Hid (normR i (p + 1).toNat (c / 2).toNat = (fp, fb)) := by
            unfold Hid
            have e1 : (p + 1).toNat = p.toNat + 1 := by omega
            have e2 : (c / 2).toNat = c.toNat / 2 := by omega
            rw [e1, e2]; exact hN
          have HJ2 : Hid (c / 2 < 2 ^ i) := by
            have := HJ.out
            unfold Hid
            rw [Int.pow_succ] at this
            omega
          have d0 : 0 ≤ c / 2 := by omega
          have d1 : c / 2 ≤ 18446744073709551615 := by omega
          have p3 : 0 ≤ p + 1 := by omega
          have hi : i ≤ 64 := by omega
          have hpar : (c % 2 == 1) = true := by simp only [beq_iff_eq]; omega
          have hlt : Hid ((c / 2).toNat < c.toNat) := by unfold Hid; omega
          clear hodd hj1 hfp hL hN HN HJ hj
          obtain ⟨pKR, qKR, rKR⟩ := KR.out.cells
          obtain ⟨pKX, qKX, rKX⟩ := KX.out.cells
          obtain ⟨pKA, qKA, rKA⟩ := KA.out.cells
          have fKR := KR.out.free
          have HC2 := Lib.hid rKR
          go_upto_region 8 with fail
          clear pKR qKR rKR pKX qKX rKX pKA qKA rKA fKR
          have hgw : wr.grownBy (wr.setCell ⟨gr, 1, none⟩ (.int .u32 (p + 1))) (some gr) := grown_set _ _ _ _
          replace KX := Lib.hid (KX.out.grown hgw (by assumption))
          replace KA := Lib.hid (KA.out.grown hgw (by assumption))
          replace KR := Lib.hid (KR.out.put1 (p + 1))
          replace B := Lib.hid (belowG B.out hgw B.out.size LR.out)
          clear hgw
          generalize wr.setCell ⟨gr, 1, none⟩ (.int .u32 (p + 1)) = w41 at *
          obtain ⟨pKR, qKR, rKR⟩ := KR.out.cells
          obtain ⟨pKX, qKX, rKX⟩ := KX.out.cells
          obtain ⟨pKA, qKA, rKA⟩ := KA.out.cells
          have fKR := KR.out.free
          go_wp2
          have hgw := grown_set w41 gr 2 (.int .u64 (c / 2))
          have KR2 := KR.out.put2 (c / 2)
          obtain ⟨_, _, e2⟩ := KR2.cells
          go_roundw
          case rel => exact ⟨i, p + 1, c / 2, hi, KR2, KX.out.grown hgw (by assumption), KA.out.grown hgw (by assumption), belowG B.out hgw B.out.size LR.out, p3, p2, d0, d1, HJ2, HN2⟩
          case measure => rw [e2, HC2.out]; exact hlt.out
        · have hN := HN.out
          rw [norm_stop hodd] at hN
          have hpar : (c % 2 == 1) = false := by simp only [beq_eq_false_iff_ne]; omega
          simp only [Prod.mk.injEq] at hN
          have HE1 : Hid ((fp : Int) = p) := by unfold Hid; omega
          have HE2 : Hid ((fb : Int) = c) := by unfold Hid; omega
          clear hodd hN HN HJ
          obtain ⟨pKR, qKR, rKR⟩ := KR.out.cells
          obtain ⟨pKX, qKX, rKX⟩ := KX.out.cells
          obtain ⟨pKA, qKA, rKA⟩ := KA.out.cells
          have fKA := KA.out.free
          go_wp2
          have KE := KA.out.store (x.2.1, p, c)
          obtain ⟨e0, e1, e2⟩ := KE.cells
          exact bodyPost_ret (v := .tuple #[(.agg #[.int .u16 (x.2.1, p, c).1, .int .u32 (x.2.1, p, c).2.1, .int .u64 (x.2.1, p, c).2.2]), .bool true]) (by simp [results, Tryd.results14, go_sem, e0, e1, e2]) rfl ⟨by rw [HE1.out, HE2.out], by rw [HGR.out]; exact HGR.out ▸ belowG B.out (grown_set3 _ _ _ _ _) B.out.size LA.out⟩
    simp only [List.take_succ_cons, List.take_zero]
    refine ⟨?r5g0, ?r5g1, ?r5g2, ?r5g3, ?r5g4, ?r5g5, ?r5g6, ?r5g7, ?r5g8, ?r5g9, ?r5g10, ?r5g11, trivial⟩
    case r5g0 =>
      intro w9 hb
      refine over_nil ?_
      go_wp2
      first | exact post_of (by rfl) (by rfl) (Below.refl _ _) (by rfl) | exact rfl
    case r5g1 =>
      intro w9 hb
      refine over_some (ds1 := [22]) (ds2 := []) [(.pointer (some ⟨gr, 2, none⟩))] (by kernel_rfl) ?_
      refine over_nil ?_
      simp only [putAll, put_lit, List.set_cons_succ, List.set_cons_zero]
      obtain ⟨p0, q0, r0⟩ := (KR.out.next hb).cells
      go_wp2
      first | exact post_of (by rfl) (by rfl) (Below.refl _ _) (by rfl) | exact rfl
    case r5g2 =>
      intro w9 hb
      refine over_nil ?_
      go_wp2
      first | exact post_of (by rfl) (by rfl) (Below.refl _ _) (by rfl) | exact rfl
    case r5g3 =>
      intro w9 hb
      refine over_some (ds1 := [24]) (ds2 := []) [(.pointer (some ⟨gx, 2, none⟩))] (by kernel_rfl) ?_
      refine over_nil ?_
      simp only [putAll, put_lit, List.set_cons_succ, List.set_cons_zero]
      obtain ⟨p0, q0, r0⟩ := (KX.out.next hb).cells
      go_wp2
      first | exact post_of (by rfl) (by rfl) (Below.refl _ _) (by rfl) | exact rfl
    case r5g4 =>
      intro w9 hb
      refine over_nil ?_
      go_wp2
      first | exact post_of (by rfl) (by rfl) (Below.refl _ _) (by rfl) | exact rfl
    case r5g5 =>
      intro w9 hb
      refine over_some (ds1 := [26]) (ds2 := []) [(.pointer (some ⟨gr, 1, none⟩))] (by kernel_rfl) ?_
      refine over_nil ?_
      simp only [putAll, put_lit, List.set_cons_succ, List.set_cons_zero]
      obtain ⟨p0, q0, r0⟩ := (KR.out.next hb).cells
      go_wp2
      first | exact post_of (by rfl) (by rfl) (Below.refl _ _) (by rfl) | exact rfl
    case r5g6 =>
      intro w9 hb
      refine over_some (ds1 := [25, 27]) (ds2 := []) [(.int .u32 x.2.2), (.int .u32 (x.2.1, q, b).2.1)] (by kernel_rfl) ?_
      refine over_nil ?_
      simp only [putAll, put_lit, List.set_cons_succ, List.set_cons_zero]
      go_wp2
      first | exact post_of (by rfl) (by rfl) (Below.refl _ _) (by rfl) | exact rfl
    case r5g7 =>
      intro w9 hb
      refine over_some (ds1 := [28]) (ds2 := []) [(.int .u32 (x.2.2 - q))] (by kernel_rfl) ?_
      refine over_nil ?_
      simp only [putAll, put_lit, List.set_cons_succ, List.set_cons_zero]
      go_wp2
      first | exact post_of (by rfl) (by rfl) (Below.refl _ _) (by rfl) | exact rfl
    case r5g8 =>
      intro w9 hb
      refine over_some (ds1 := [29]) (ds2 := []) [(.int .u32 k)] (by kernel_rfl) ?_
      refine over_nil ?_
      simp only [putAll, put_lit, List.set_cons_succ, List.set_cons_zero]
      go_wp2
      first | exact post_of (by rfl) (by rfl) (Below.refl _ _) (by rfl) | exact rfl
    case r5g9 =>
      intro w9 hb
      refine over_some (ds1 := [30]) (ds2 := []) [(.int .i64 k)] (by kernel_rfl) ?_
      refine over_nil ?_
      simp only [putAll, put_lit, List.set_cons_succ, List.set_cons_zero]
      go_wp2_with fail
      have hc2 := power_below k w9 k0 k1
      rw [HP.out] at hc2
      refine hc2.mono ?_
      clear hc2
      rintro e w8 ⟨rfl, b6⟩
      go_wp2
      exact post_of (by rfl) (by rfl) b6 (by rfl)
    case r5g10 =>
      intro w9 hb
      refine over_some (ds1 := [23, 31]) (ds2 := []) [(.int .u64 (x.2.1, q, b).2.2), (.int .u64 P)] (by kernel_rfl) ?_
      refine over_nil ?_
      simp only [putAll, put_lit, List.set_cons_succ, List.set_cons_zero]
      go_wp2
      first | exact post_of (by rfl) (by rfl) (Below.refl _ _) (by rfl) | exact rfl
    case r5g11 =>
      intro w9 hb
      refine over_nil ?_
      go_wp2
      first | exact post_of (by rfl) (by rfl) (Below.refl _ _) (by rfl) | exact rfl
  · have HRE := Lib.hid (HC.out hcl)
    replace hcl : x.2.1 ≤ r.1 := by omega
    go_enter Tryd.func14, Tryd.ntmps14
    go_upto_region 1 with fail
    generalize ((w.alloc (.cells #[.int .u16 r.1, .int .u32 r.2.1, .int .u64 r.2.2] 26)).alloc (.cells #[.int .u8 x.1, .int .u16 x.2.1, .int .u32 x.2.2] 28)).alloc (.cells #[.int .u16 0, .int .u32 0, .int .u64 0] 26) = w1 at *
    obtain ⟨gr, gx, ga, hgr, hgx, hga, n1, n2, n3, n4, n5, n6, LR, LX, LA⟩ := letters3 w.heap.size
    rw [hgr] at KR KX KA ⊢
    rw [hgx] at KX KA ⊢
    rw [hga] at KA ⊢
    have HGR := Lib.hid hgr
    clear hgr hgx hga
    obtain ⟨pKR, qKR, rKR⟩ := KR.out.cells
    obtain ⟨pKX, qKX, rKX⟩ := KX.out.cells
    obtain ⟨pKA, qKA, rKA⟩ := KA.out.cells
    go_wp2_with fail
    have hc := refmay_any r x n w1 HR.out HX.out
    rw [HM.out] at hc
    refine hc.mono ?_
    clear hc
    clear pKR qKR rKR pKX qKX rKX pKA qKA rKA
    rintro e w2 ⟨rfl, b5⟩
    replace KR := Lib.hid (KR.out.next b5)
    replace KX := Lib.hid (KX.out.next b5)
    replace KA := Lib.hid (KA.out.next b5)
    replace B := Lib.hid (thn B.out b5)
    clear b5
    obtain ⟨pKR, qKR, rKR⟩ := KR.out.cells
    obtain ⟨pKX, qKX, rKX⟩ := KX.out.cells
    obtain ⟨pKA, qKA, rKA⟩ := KA.out.cells
    have fKR := KR.out.free
    go_upto_region 5 with fail
    clear pKR qKR rKR pKX qKX rKX pKA qKA rKA fKR
    replace KR : Hid (RowBlk w2 gr (x.2.1, q, b)) := by have h := KR.out; unfold Hid; rw [← HRE.out]; exact h
    refine wp_region_typed 12 [(22, .val (.pointer (some ⟨gr, 2, none⟩))), (23, .val (.int .u64 (x.2.1, q, b).2.2)), (24, .val (.pointer (some ⟨gx, 2, none⟩))), (25, .val (.int .u32 x.2.2)), (26, .val (.pointer (some ⟨gr, 1, none⟩))), (27, .val (.int .u32 (x.2.1, q, b).2.1)), (28, .val (.int .u32 (x.2.2 - q))), (29, .val (.int .u32 k)), (30, .val (.int .i64 k)), (31, .val (.int .u64 P)), (32, .val (.int .u64 m)), (33, .val (.pointer (some ⟨gr, 2, none⟩)))]
      [[], [22], [], [24], [], [26], [25, 27], [28], [29], [30], [23, 31], []] (by kernel_rfl) (by kernel_rfl) ?_ ?_
    rotate_left
    · intro w9 hb
      simp only [List.take_succ_cons, List.take_zero, List.drop_succ_cons, List.drop_zero]
      refine over_ds (ds := [22, 23, 24, 25, 26, 27, 28, 29, 30, 31, 32, 33]) (by kernel_rfl) ?_
      refine over_some (ds1 := [22, 23, 24, 25, 26, 27, 28, 29, 30, 31, 32, 33]) (ds2 := []) [(.pointer (some ⟨gr, 2, none⟩)), (.int .u64 (x.2.1, q, b).2.2), (.pointer (some ⟨gx, 2, none⟩)), (.int .u32 x.2.2), (.pointer (some ⟨gr, 1, none⟩)), (.int .u32 (x.2.1, q, b).2.1), (.int .u32 (x.2.2 - q)), (.int .u32 k), (.int .i64 k), (.int .u64 P), (.int .u64 m), (.pointer (some ⟨gr, 2, none⟩))] (by kernel_rfl) ?_
      refine over_nil ?_
      simp only [putAll, put_lit, List.set_cons_succ, List.set_cons_zero]
      replace KR := Lib.hid (KR.out.next hb)
      replace KX := Lib.hid (KX.out.next hb)
      replace KA := Lib.hid (KA.out.next hb)
      replace B := Lib.hid (thn B.out hb)
      clear hb
      obtain ⟨pKR, qKR, rKR⟩ := KR.out.cells
      obtain ⟨pKX, qKX, rKX⟩ := KX.out.cells
      obtain ⟨pKA, qKA, rKA⟩ := KA.out.cells
      have fKR := KR.out.free
      go_upto_region 6 with fail
      clear pKR qKR rKR pKX qKX rKX pKA qKA rKA fKR
      have hgw : w9.grownBy (w9.setCell ⟨gr, 2, none⟩ (.int .u64 m)) (some gr) := grown_set _ _ _ _
      replace KX := Lib.hid (KX.out.grown hgw (by assumption))
      replace KA := Lib.hid (KA.out.grown hgw (by assumption))
      replace KR := Lib.hid (KR.out.put2 m)
      replace B := Lib.hid (belowG B.out hgw B.out.size LR.out)
      clear hgw
      generalize w9.setCell ⟨gr, 2, none⟩ (.int .u64 m) = w4 at *
      have E0 : Hid (gr ≠ gx ∧ gr ≠ ga) := ⟨n1, n3⟩
      go_loopw [] (fun wr => ∃ (j : Nat) (p c : Int), j ≤ 64 ∧ Hid (RowBlk wr gr (x.2.1, p, c)) ∧ Hid (IdBlk wr gx x) ∧ Hid (RowBlk wr ga (0, 0, 0)) ∧ Hid (Below w.heap.size w wr) ∧ 0 ≤ p ∧ p ≤ 4294967295 ∧ 0 ≤ c ∧ c ≤ 18446744073709551615 ∧ Hid (c < 2 ^ j) ∧ Hid (normR j p.toNat c.toNat = (fp, fb))) (fun wr => match wr.cell? ⟨gr, 2, none⟩ with | some (.int _ c) => c.toNat | _ => 0)
      case atStart => exact ⟨64, q, m, Nat.le_refl _, KR, KX, KA, B, q0, q1, m0, m1, by unfold Hid; omega, hF⟩
      case round =>
        clear KR KX KA B
        obtain ⟨j, p, c, hj, KR, KX, KA, B, p0, p1, c0, c1, HJ, HN⟩ := hrel
        by_cases hodd : c.toNat % 2 = 1
        · have hj1 : 1 ≤ j := by
            rcases Nat.eq_zero_or_pos j with h | h
            · subst h; have := HJ.out; simp at this; omega
            · exact h
          have hN := HN.out
          obtain ⟨i, rfl⟩ : ∃ i, j = i + 1 := ⟨j - 1, by omega⟩
          rw [norm_odd hodd] at hN
          have hfp := norm_le i (p.toNat + 1) (c.toNat / 2)
          rw [hN] at hfp
          have hL := HL.out
          have p2 : p + 1 ≤ 4294967295 := by simp only at hfp; omega
          have HN2 : Hid (normR i (p + 1).toNat (c / 2).toNat = (fp, fb)) := by
            unfold Hid
            have e1 : (p + 1).toNat = p.toNat + 1 := by omega
            have e2 : (c / 2).toNat = c.toNat / 2 := by omega
            rw [e1, e2]; exact hN
          have HJ2 : Hid (c / 2 < 2 ^ i) := by
            have := HJ.out
            unfold Hid
            rw [Int.pow_succ] at this
            omega
          have d0 : 0 ≤ c / 2 := by omega
          have d1 : c / 2 ≤ 18446744073709551615 := by omega
          have p3 : 0 ≤ p + 1 := by omega
          have hi : i ≤ 64 := by omega
          have hpar : (c % 2 == 1) = true := by simp only [beq_iff_eq]; omega
          have hlt : Hid ((c / 2).toNat < c.toNat) := by unfold Hid; omega
          clear hodd hj1 hfp hL hN HN HJ hj
          obtain ⟨pKR, qKR, rKR⟩ := KR.out.cells
          obtain ⟨pKX, qKX, rKX⟩ := KX.out.cells
          obtain ⟨pKA, qKA, rKA⟩ := KA.out.cells
          have fKR := KR.out.free
          have HC2 := Lib.hid rKR
          go_upto_region 8 with fail
          clear pKR qKR rKR pKX qKX rKX pKA qKA rKA fKR
          have hgw : wr.grownBy (wr.setCell ⟨gr, 1, none⟩ (.int .u32 (p + 1))) (some gr) := grown_set _ _ _ _
          replace KX := Lib.hid (KX.out.grown hgw (by assumption))
          replace KA := Lib.hid (KA.out.grown hgw (by assumption))
          replace KR := Lib.hid (KR.out.put1 (p + 1))
          replace B := Lib.hid (belowG B.out hgw B.out.size LR.out)
          clear hgw
          generalize wr.setCell ⟨gr, 1, none⟩ (.int .u32 (p + 1)) = w41 at *
          obtain ⟨pKR, qKR, rKR⟩ := KR.out.cells
          obtain ⟨pKX, qKX, rKX⟩ := KX.out.cells
          obtain ⟨pKA, qKA, rKA⟩ := KA.out.cells
          have fKR := KR.out.free
          go_wp2
          have hgw := grown_set w41 gr 2 (.int .u64 (c / 2))
          have KR2 := KR.out.put2 (c / 2)
          obtain ⟨_, _, e2⟩ := KR2.cells
          go_roundw
          case rel => exact ⟨i, p + 1, c / 2, hi, KR2, KX.out.grown hgw (by assumption), KA.out.grown hgw (by assumption), belowG B.out hgw B.out.size LR.out, p3, p2, d0, d1, HJ2, HN2⟩
          case measure => rw [e2, HC2.out]; exact hlt.out
        · have hN := HN.out
          rw [norm_stop hodd] at hN
          have hpar : (c % 2 == 1) = false := by simp only [beq_eq_false_iff_ne]; omega
          simp only [Prod.mk.injEq] at hN
          have HE1 : Hid ((fp : Int) = p) := by unfold Hid; omega
          have HE2 : Hid ((fb : Int) = c) := by unfold Hid; omega
          clear hodd hN HN HJ
          obtain ⟨pKR, qKR, rKR⟩ := KR.out.cells
          obtain ⟨pKX, qKX, rKX⟩ := KX.out.cells
          obtain ⟨pKA, qKA, rKA⟩ := KA.out.cells
          have fKA := KA.out.free
          go_wp2
          have KE := KA.out.store (x.2.1, p, c)
          obtain ⟨e0, e1, e2⟩ := KE.cells
          exact bodyPost_ret (v := .tuple #[(.agg #[.int .u16 (x.2.1, p, c).1, .int .u32 (x.2.1, p, c).2.1, .int .u64 (x.2.1, p, c).2.2]), .bool true]) (by simp [results, Tryd.results14, go_sem, e0, e1, e2]) rfl ⟨by rw [HE1.out, HE2.out], by rw [HGR.out]; exact HGR.out ▸ belowG B.out (grown_set3 _ _ _ _ _) B.out.size LA.out⟩
    simp only [List.take_succ_cons, List.take_zero]
    refine ⟨?r5g0, ?r5g1, ?r5g2, ?r5g3, ?r5g4, ?r5g5, ?r5g6, ?r5g7, ?r5g8, ?r5g9, ?r5g10, ?r5g11, trivial⟩
    case r5g0 =>
      intro w9 hb
      refine over_nil ?_
      go_wp2
      first | exact post_of (by rfl) (by rfl) (Below.refl _ _) (by rfl) | exact rfl
    case r5g1 =>
      intro w9 hb
      refine over_some (ds1 := [22]) (ds2 := []) [(.pointer (some ⟨gr, 2, none⟩))] (by kernel_rfl) ?_
      refine over_nil ?_
      simp only [putAll, put_lit, List.set_cons_succ, List.set_cons_zero]
      obtain ⟨p0, q0, r0⟩ := (KR.out.next hb).cells
      go_wp2
      first | exact post_of (by rfl) (by rfl) (Below.refl _ _) (by rfl) | exact rfl
    case r5g2 =>
      intro w9 hb
      refine over_nil ?_
      go_wp2
      first | exact post_of (by rfl) (by rfl) (Below.refl _ _) (by rfl) | exact rfl
    case r5g3 =>
      intro w9 hb
      refine over_some (ds1 := [24]) (ds2 := []) [(.pointer (some ⟨gx, 2, none⟩))] (by kernel_rfl) ?_
      refine over_nil ?_
      simp only [putAll, put_lit, List.set_cons_succ, List.set_cons_zero]
      obtain ⟨p0, q0, r0⟩ := (KX.out.next hb).cells
      go_wp2
      first | exact post_of (by rfl) (by rfl) (Below.refl _ _) (by rfl) | exact rfl
    case r5g4 =>
      intro w9 hb
      refine over_nil ?_
      go_wp2
      first | exact post_of (by rfl) (by rfl) (Below.refl _ _) (by rfl) | exact rfl
    case r5g5 =>
      intro w9 hb
      refine over_some (ds1 := [26]) (ds2 := []) [(.pointer (some ⟨gr, 1, none⟩))] (by kernel_rfl) ?_
      refine over_nil ?_
      simp only [putAll, put_lit, List.set_cons_succ, List.set_cons_zero]
      obtain ⟨p0, q0, r0⟩ := (KR.out.next hb).cells
      go_wp2
      first | exact post_of (by rfl) (by rfl) (Below.refl _ _) (by rfl) | exact rfl
    case r5g6 =>
      intro w9 hb
      refine over_some (ds1 := [25, 27]) (ds2 := []) [(.int .u32 x.2.2), (.int .u32 (x.2.1, q, b).2.1)] (by kernel_rfl) ?_
      refine over_nil ?_
      simp only [putAll, put_lit, List.set_cons_succ, List.set_cons_zero]
      go_wp2
      first | exact post_of (by rfl) (by rfl) (Below.refl _ _) (by rfl) | exact rfl
    case r5g7 =>
      intro w9 hb
      refine over_some (ds1 := [28]) (ds2 := []) [(.int .u32 (x.2.2 - q))] (by kernel_rfl) ?_
      refine over_nil ?_
      simp only [putAll, put_lit, List.set_cons_succ, List.set_cons_zero]
      go_wp2
      first | exact post_of (by rfl) (by rfl) (Below.refl _ _) (by rfl) | exact rfl
    case r5g8 =>
      intro w9 hb
      refine over_some (ds1 := [29]) (ds2 := []) [(.int .u32 k)] (by kernel_rfl) ?_
      refine over_nil ?_
      simp only [putAll, put_lit, List.set_cons_succ, List.set_cons_zero]
      go_wp2
      first | exact post_of (by rfl) (by rfl) (Below.refl _ _) (by rfl) | exact rfl
    case r5g9 =>
      intro w9 hb
      refine over_some (ds1 := [30]) (ds2 := []) [(.int .i64 k)] (by kernel_rfl) ?_
      refine over_nil ?_
      simp only [putAll, put_lit, List.set_cons_succ, List.set_cons_zero]
      go_wp2_with fail
      have hc2 := power_below k w9 k0 k1
      rw [HP.out] at hc2
      refine hc2.mono ?_
      clear hc2
      rintro e w8 ⟨rfl, b6⟩
      go_wp2
      exact post_of (by rfl) (by rfl) b6 (by rfl)
    case r5g10 =>
      intro w9 hb
      refine over_some (ds1 := [23, 31]) (ds2 := []) [(.int .u64 (x.2.1, q, b).2.2), (.int .u64 P)] (by kernel_rfl) ?_
      refine over_nil ?_
      simp only [putAll, put_lit, List.set_cons_succ, List.set_cons_zero]
      go_wp2
      first | exact post_of (by rfl) (by rfl) (Below.refl _ _) (by rfl) | exact rfl
    case r5g11 =>
      intro w9 hb
      refine over_nil ?_
      go_wp2
      first | exact post_of (by rfl) (by rfl) (Below.refl _ _) (by rfl) | exact rfl
end Go.Proofs.YtkdlgejkgcojkaaDoor
