/- Layer 10: cyclon.lacks; what was sent: the closure that drops it. -/
import Derived.Test.YtgbnnllbpidlfaaYe
namespace Go.Proofs.Ytgbnnllbpidlfaa
open Go.RowKit
set_option linter.unusedVariables false
def lacksD (ds : List Dsc) (d : Dsc) (self : Int) : Bool := !decide (d.1 = self) && (decide (0 < d.2.1) && decide (findI ds d.1 < 0))
theorem lacks_any (A : Option Addr) (n c : Nat) (xs : List (Dsc × Hd)) (d : Dsc) (hd : Hd) (self : Int) (w : World) (h : Sds w A n c xs) (hf : Fit n xs) (hv : isView (xs.map (·.1))) : Calls Try.prog 36 #[.slice A n c, (.agg #[.int .u8 d.1, .int .u16 d.2.1, .int .u8 d.2.2.1, .slice hd.1 hd.2.1 hd.2.2]), .int .u8 self] w fun e w' => e = .returned (.bool (lacksD (xs.map (·.1)) d self)) ∧ Below w.heap.size w w' := by
  have HN := Lib.hid (DBlk.new w d hd)
  have bl := below_lit w (.cells #[.int .u8 d.1, .int .u16 d.2.1, .int .u8 d.2.2.1, .slice hd.1 hd.2.1 hd.2.2] 34)
  have BL := Lib.hid bl
  have HC := Lib.hid (fun W hW => find_any A n c xs d.1 W hW hf hv)
  have HS := Lib.hid (h.next bl)
  unfold lacksD
  clear bl h hf hv
  by_cases h1 : d.1 = self
  · have hb : (d.1 != self) = false := by simp [h1]
    rw [show (!decide (d.1 = self) && (decide (0 < d.2.1) && decide (findI (xs.map (·.1)) d.1 < 0))) = false by simp [h1]]
    clear h1
    go_enter Try.func36, Try.ntmps36
    go_upto_region 1 with fail
    generalize w.alloc _ = w1 at *
    obtain ⟨c0, c1, c2, c3⟩ := HN.out.cells
    obtain ⟨g, hg⟩ : ∃ g, w.heap.size = g := ⟨_, rfl⟩
    rw [hg] at c0 c1 c2 c3 ⊢
    go_wp2
    go_ret
    first | exact ⟨rfl, BL.out⟩ | exact ⟨rfl, hg ▸ BL.out⟩
  · have hb : (d.1 != self) = true := by simp [h1]
    by_cases h2 : 0 < d.2.1
    · obtain ⟨v, hv⟩ : ∃ v, findI (xs.map (·.1)) d.1 = v := ⟨_, rfl⟩
      rw [hv] at HC ⊢
      rw [show (!decide (d.1 = self) && (decide (0 < d.2.1) && decide (v < 0))) = decide (v < 0) by simp [h1, h2]]
      clear h1 hv
      go_enter Try.func36, Try.ntmps36
      go_upto_region 1 with fail
      generalize w.alloc _ = w1 at *
      obtain ⟨c0, c1, c2, c3⟩ := HN.out.cells
      obtain ⟨g, hg⟩ : ∃ g, w.heap.size = g := ⟨_, rfl⟩
      rw [hg] at c0 c1 c2 c3 ⊢
      go_wp2_with fail
      refine (HC.out w1 HS.out).mono ?_
      rintro e w2 ⟨rfl, b2⟩
      have B2 := Lib.hid (thn BL.out b2)
      clear b2
      go_wp2
      go_ret
      first | exact ⟨rfl, B2.out⟩ | exact ⟨rfl, hg ▸ B2.out⟩
    · rw [show (!decide (d.1 = self) && (decide (0 < d.2.1) && decide (findI (xs.map (·.1)) d.1 < 0))) = false by simp [h2]]
      clear h1
      go_enter Try.func36, Try.ntmps36
      go_upto_region 1 with fail
      generalize w.alloc _ = w1 at *
      obtain ⟨c0, c1, c2, c3⟩ := HN.out.cells
      obtain ⟨g, hg⟩ : ∃ g, w.heap.size = g := ⟨_, rfl⟩
      rw [hg] at c0 c1 c2 c3 ⊢
      go_wp2
      go_ret
      first | exact ⟨rfl, BL.out⟩ | exact ⟨rfl, hg ▸ BL.out⟩
theorem zeroN : ∃ Z : Array Value, (∀ w, (zeroValue 68).run Try.prog w = .ok (.agg Z) w) ∧ Z.size = 256 ∧ ∀ i, i < 256 → Z[i]? = some (.bool false) :=
  ⟨Array.replicate 256 (.bool false), fun w => by kernel_rfl, by simp, fun i hi => by simp [hi]⟩
/-- The array of the nodes that are named in ds. -/
def NBlk (w : World) (g : Nat) (ds : List Dsc) : Prop := ∃ cur : Array Value, w.heap[g]? = some (.cells cur 68 (0, 0)) ∧ cur.size = 256 ∧ ∀ i : Nat, i < 256 → cur[i]? = some (.bool (hasN ds (i : Int)))
section
variable {w w' : World} {g : Nat} {ds : List Dsc}
theorem NBlk.lt (h : NBlk w g ds) : g < w.heap.size := by obtain ⟨cur, h, _⟩ := h; exact (Array.getElem?_eq_some_iff.1 h).1
theorem NBlk.next (h : NBlk w g ds) (hb : Below w.heap.size w w') : NBlk w' g ds := by
  have hl := h.lt
  obtain ⟨cur, h, h2⟩ := h
  exact ⟨cur, (hb.block g hl).trans h, h2⟩
theorem NBlk.grown (h : NBlk w g ds) {b : Nat} (hg : w.grownBy w' (some b)) (hne : g ≠ b) : NBlk w' g ds := by
  have hl := h.lt
  obtain ⟨cur, h, h2⟩ := h
  exact ⟨cur, (hg.block g hl (by simpa using hne)).trans h, h2⟩
theorem NBlk.cell (h : NBlk w g ds) {i : Nat} (hi : i < 256) : w.cell? ⟨g, i, none⟩ = some (.bool (hasN ds (i : Int))) := by
  obtain ⟨cur, h, h1, h2⟩ := h
  rw [cell_of_row w g i cur _ (0, 0) h]; exact h2 i hi
theorem NBlk.free (h : NBlk w g ds) (i : Nat) : w.frozen? ⟨g, i, none⟩ = false := by obtain ⟨cur, h, _⟩ := h; simp [World.frozen?, h]
theorem hasN_snoc (ds : List Dsc) (d : Dsc) (n : Int) : hasN (ds ++ [d]) n = (hasN ds n || decide (n = d.1)) := by
  rw [Bool.eq_iff_iff, hasN_iff, Bool.or_eq_true, hasN_iff, decide_eq_true_iff]
  constructor
  · rintro ⟨e, he, h⟩
    rcases List.mem_append.1 he with he | he
    · exact .inl ⟨e, he, h⟩
    · rw [List.mem_singleton] at he; subst he; exact .inr h.symm
  · rintro (⟨e, he, h⟩ | h)
    · exact ⟨e, List.mem_append.2 (.inl he), h⟩
    · exact ⟨d, List.mem_append.2 (.inr (List.mem_singleton.2 rfl)), h.symm⟩
theorem NBlk.mark (h : NBlk w g ds) {v : Nat} {d : Dsc} (hv : v < 256) (hd : d.1 = (v : Int)) : NBlk (w.setCell ⟨g, v, none⟩ (.bool true)) g (ds ++ [d]) := by
  obtain ⟨cur, h, h1, h2⟩ := h
  refine ⟨cur.setIfInBounds v (.bool true), by simp [World.setCell, Array.getElem?_modify, h], by simp [h1], fun i hi => ?_⟩
  rw [Array.getElem?_setIfInBounds, hasN_snoc, hd]
  by_cases e : v = i
  · subst e; simp [h1, hv]
  · rw [if_neg e, h2 i hi]
    have : decide ((i : Int) = (v : Int)) = false := decide_eq_false (by omega)
    rw [this, Bool.or_false]
end
/-- What the closure holds: where it is, what was sent, who is named. -/
structure DropSt (w : World) (bA bS bN : Nat) (got : List Dsc) (As : Option Addr) (ns cs k : Nat) : Prop where
  at_ : w.heap[bA]? = some (.cells #[.int .i64 (k : Int)] 3 (0, 0))
  sent : w.heap[bS]? = some (.cells #[.slice As ns cs] 22 (0, 0))
  named : NBlk w bN got
  ne1 : bA ≠ bS
  ne2 : bA ≠ bN
  le : k ≤ ns
theorem DropSt.next {w w' : World} {bA bS bN : Nat} {got : List Dsc} {As : Option Addr} {ns cs k : Nat} (h : DropSt w bA bS bN got As ns cs k) (hb : Below w.heap.size w w') : DropSt w' bA bS bN got As ns cs k :=
  ⟨(hb.block bA (Array.getElem?_eq_some_iff.1 h.at_).1).trans h.at_, (hb.block bS (Array.getElem?_eq_some_iff.1 h.sent).1).trans h.sent, h.named.next hb, h.ne1, h.ne2, h.le⟩
def GaveF (B : Nat) (got : List Dsc) (As : Option Addr) (ns cs : Nat) (w : World) (e : Ending) (w' : World) : Prop := ∃ bA bS bN : Nat, e = .returned (.func (.func 44) #[] #[.pointer (some ⟨bA, 0, none⟩), .pointer (some ⟨bS, 0, none⟩), .pointer (some ⟨bN, 0, none⟩)]) ∧ DropSt w' bA bS bN got As ns cs 0 ∧ B ≤ bA ∧ Below w.heap.size w w'
set_option maxHeartbeats 4000000 in
set_option maxRecDepth 100000 in
theorem dropper_any (A : Option Addr) (n c : Nat) (xs : List (Dsc × Hd)) (As : Option Addr) (ns cs : Nat) (w : World) (h : Sds w A n c xs) (hR : ∀ x ∈ xs, dscR x.1) : Calls Try.prog 34 #[.slice A n c, .slice As ns cs] w (GaveF w.heap.size (xs.map (·.1)) As ns cs w) := by
  obtain ⟨Z, hZ, hZ1, hZ2⟩ := zeroN
  have HL : Hid (n = xs.length) := h.len
  have hm := h.max
  have hc := h.cap
  unfold maxLen at hm
  have HS := Lib.hid h
  have HR := Lib.hid hR
  have bl1 := below_lit w (.cells #[.slice As ns cs] 22)
  have bl2 := below_lit (w.alloc (.cells #[.slice As ns cs] 22)) (.cells Z 68)
  have HB := Lib.hid (thn bl1 bl2)
  have HSE : Hid (((w.alloc (.cells #[.slice As ns cs] 22)).alloc (.cells Z 68)).heap[w.heap.size]? = some (.cells #[.slice As ns cs] 22 (0, 0))) := by
    unfold Hid
    rw [bl2.block w.heap.size (by show w.heap.size < (w.heap.push _).size; simp)]
    exact heap_alloc_new w _
  have HSZ : Hid ((w.alloc (.cells #[.slice As ns cs] 22)).heap.size = w.heap.size + 1) := by show (w.heap.push _).size = _; simp
  have HNB : Hid (NBlk ((w.alloc (.cells #[.slice As ns cs] 22)).alloc (.cells Z 68)) (w.alloc (.cells #[.slice As ns cs] 22)).heap.size []) := ⟨Z, heap_alloc_new _ _, hZ1, hZ2⟩
  clear bl1 bl2 hZ1 hZ2 h hR
  go_enter Try.func34, Try.ntmps34
  go_upto_region 2 with fail
  generalize (w.alloc (.cells #[.slice As ns cs] 22)).alloc (.cells Z 68) = w2 at *
  rw [HSZ.out] at HNB
  clear HSZ hZ
  obtain ⟨N, hN⟩ : ∃ N, w.heap.size + 1 = N := ⟨_, rfl⟩
  obtain ⟨S, hS⟩ : ∃ S, w.heap.size = S := ⟨_, rfl⟩
  rw [hN] at HNB ⊢
  rw [hS] at HSE ⊢
  have HSN : Hid (S ≠ N ∧ w.heap.size ≤ S ∧ w.heap.size ≤ N) := by unfold Hid; omega
  clear hN hS
  go_wp2
  go_loopw [7, 11] (fun _ i wr => ∃ j : Nat, j ≤ n ∧ i = .int .i64 j ∧ Hid (NBlk wr N ((xs.take j).map (·.1))) ∧ Hid (wr.heap[S]? = some (.cells #[.slice As ns cs] 22 (0, 0))) ∧ Hid (Below w.heap.size w wr)) (fun _ i _ => n - (intOf i).toNat)
  case atStart => exact ⟨0, Nat.zero_le _, rfl, HNB, HSE, HB⟩
  case round =>
    clear HNB HSE HB
    obtain ⟨j, hj, rfl, NB, SE, BB⟩ := hrel
    have i0 : (0 : Int) ≤ (j : Int) := by omega
    by_cases hlt : j < n
    · have i1 : (j : Int) < (n : Int) := by omega
      obtain ⟨b, off, x, rfl, hb, hx, hxm, c0, c1, c2, c3⟩ := (HS.out.next BB.out).at_ hlt
      obtain ⟨⟨v0, v1⟩, _⟩ := HR.out x hxm
      obtain ⟨v, hv⟩ : ∃ v : Nat, x.1.1 = (v : Int) := ⟨x.1.1.toNat, by omega⟩
      have hv256 : v < 256 := by omega
      have HV := Lib.hid hv
      have HT : Hid ((xs.take (j + 1)).map (·.1) = (xs.take j).map (·.1) ++ [x.1]) := by unfold Hid; rw [List.take_add_one, hx, List.map_append]; rfl
      have hbl := below_lit wr (.cells #[.int .u8 x.1.1, .int .u16 x.1.2.1, .int .u8 x.1.2.2.1, .slice x.2.1 x.2.2.1 x.2.2.2] 34)
      have K : Hid (DBlk (wr.alloc (.cells #[.int .u8 x.1.1, .int .u16 x.1.2.1, .int .u8 x.1.2.2.1, .slice x.2.1 x.2.2.1 x.2.2.2] 34)) wr.heap.size x.1 x.2) := DBlk.new wr x.1 x.2
      have NB2 := Lib.hid (NB.out.next hbl)
      have SE2 := Lib.hid ((hbl.block S (Array.getElem?_eq_some_iff.1 SE.out).1).trans SE.out)
      have B2 := Lib.hid (thn BB.out hbl)
      have HNE : Hid (N ≠ wr.heap.size) := Nat.ne_of_lt NB.out.lt
      clear hbl hx hxm hb v0 v1 NB SE BB hv
      go_upto_region 5 with fail
      clear c0 c1 c2 c3
      generalize wr.alloc _ = w3 at *
      obtain ⟨q, hq⟩ : ∃ q, wr.heap.size = q := ⟨_, rfl⟩
      rw [hq] at K HNE ⊢
      clear hq
      obtain ⟨p0, p1, p2, p3⟩ := K.out.cells
      rw [HV.out] at p0
      have n0 := NB2.out.cell hv256
      have r0 := NB2.out.free v
      have v1 : (v : Int) < 256 := by omega
      have v0 : (0 : Int) ≤ (v : Int) := by omega
      obtain ⟨bb, hbb⟩ : ∃ bb, hasN ((xs.take j).map (·.1)) (v : Int) = bb := ⟨_, rfl⟩
      rw [hbb] at n0
      clear hbb p1 p2 p3
      have NB3 : Hid (NBlk (w3.setCell ⟨N, v, none⟩ (.bool true)) N ((xs.take (j + 1)).map (·.1))) := by unfold Hid; rw [HT.out]; exact NB2.out.mark hv256 HV.out
      have SE3 : Hid ((w3.setCell ⟨N, v, none⟩ (.bool true)).heap[S]? = some (.cells #[.slice As ns cs] 22 (0, 0))) := by unfold Hid; rw [Below.heap_setCell _ _ _ _ HSN.out.1]; exact SE2.out
      have B3 : Hid (Below w.heap.size w (w3.setCell ⟨N, v, none⟩ (.bool true))) := B2.out.setCell (p := ⟨N, v, none⟩) HSN.out.2.2 _
      clear NB2 SE2 B2 K HNE HT
      go_wp2
      go_roundw
      case rel => exact ⟨j + 1, by omega, by go_num, NB3, SE3, B3⟩
      case measure => simp [intOf]; omega
    · obtain rfl : j = n := by omega
      rw [List.take_of_length_le (by rw [← HL.out]; exact Nat.le_refl _)] at NB
      have hbl := below_lit wr (.cells #[.int .i64 ((0 : Nat) : Int)] 3)
      have D := Lib.hid (show DropSt (wr.alloc (.cells #[.int .i64 ((0 : Nat) : Int)] 3)) wr.heap.size S N (xs.map (·.1)) As ns cs 0 from ⟨heap_alloc_new wr _, (hbl.block S (Array.getElem?_eq_some_iff.1 SE.out).1).trans SE.out, NB.out.next hbl, Nat.ne_of_gt (Array.getElem?_eq_some_iff.1 SE.out).1, Nat.ne_of_gt NB.out.lt, Nat.zero_le _⟩)
      have B3 := Lib.hid (thn BB.out hbl)
      have L := Lib.hid BB.out.size
      clear hbl
      go_wp2
      go_ret
      exact ⟨wr.heap.size, S, N, rfl, D.out, L.out, B3.out⟩
end Go.Proofs.Ytgbnnllbpidlfaa
