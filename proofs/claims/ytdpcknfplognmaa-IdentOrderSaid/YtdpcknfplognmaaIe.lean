/- Layer 7: closures, place, Has; Rising, Same; their references. -/
import Derived.Test.YtdpcknfplognmaaId
import Derived.Shelf.Abstract
import Derived.Deep.Cut
namespace Go.Proofs.Ytdpcknfplognmaa
open Go.RowKit
set_option linter.unusedVariables false
theorem has1_any {x y : Id3} {B : Nat} {W : World} (hB : IdBlk W B x) : Calls Try.prog 31 #[(.agg #[.int .u8 y.1, .int .u16 y.2.1, .int .u32 y.2.2]), .pointer (some ⟨B, 0, none⟩)] W fun e W' => e = .returned (.bool (decide (y = x))) ∧ Below W.heap.size W W' := by
  have HB := Lib.hid (hB.next (below_lit W (.cells #[.int .u8 y.1, .int .u16 y.2.1, .int .u32 y.2.2] 25)))
  have HN := Lib.hid (IdBlk.new W y)
  have BL := Lib.hid (below_lit W (.cells #[.int .u8 y.1, .int .u16 y.2.1, .int .u32 y.2.2] 25))
  have heq := ideql y x
  clear hB
  go_enter Try.func31, Try.ntmps31
  go_upto_region 1 with fail
  generalize W.alloc _ = W1 at *
  obtain ⟨c0, c1, c2⟩ := HB.out.cells
  obtain ⟨d0, d1, d2⟩ := HN.out.cells
  obtain ⟨g, hg⟩ : ∃ g, W.heap.size = g := ⟨_, rfl⟩
  rw [hg] at d0 d1 d2 ⊢
  go_wp2
  go_ret
  exact ⟨rfl, BL.out⟩
theorem drop1_any {x y : Id3} {B : Nat} {W : World} (hB : IdBlk W B x) : Calls Try.prog 36 #[(.agg #[.int .u8 y.1, .int .u16 y.2.1, .int .u32 y.2.2]), .pointer (some ⟨B, 0, none⟩)] W fun e W' => e = .returned (.bool (decide (y = x))) ∧ Below W.heap.size W W' := by
  have HB := Lib.hid (hB.next (below_lit W (.cells #[.int .u8 y.1, .int .u16 y.2.1, .int .u32 y.2.2] 25)))
  have HN := Lib.hid (IdBlk.new W y)
  have BL := Lib.hid (below_lit W (.cells #[.int .u8 y.1, .int .u16 y.2.1, .int .u32 y.2.2] 25))
  have heq := ideql y x
  clear hB
  go_enter Try.func36, Try.ntmps36
  go_upto_region 1 with fail
  generalize W.alloc _ = W1 at *
  obtain ⟨c0, c1, c2⟩ := HB.out.cells
  obtain ⟨d0, d1, d2⟩ := HN.out.cells
  obtain ⟨g, hg⟩ : ∃ g, W.heap.size = g := ⟨_, rfl⟩
  rw [hg] at d0 d1 d2 ⊢
  go_wp2
  go_ret
  exact ⟨rfl, BL.out⟩
theorem put1_any {x y : Id3} {B : Nat} {W : World} (hB : IdBlk W B x) : Calls Try.prog 33 #[(.agg #[.int .u8 y.1, .int .u16 y.2.1, .int .u32 y.2.2]), .pointer (some ⟨B, 0, none⟩)] W fun e W' => e = .returned (.bool (lessB x y)) ∧ Below W.heap.size W W' := by
  have HB := Lib.hid (hB.next (below_lit W (.cells #[.int .u8 y.1, .int .u16 y.2.1, .int .u32 y.2.2] 25)))
  have HN := Lib.hid (IdBlk.new W y)
  have BL := Lib.hid (below_lit W (.cells #[.int .u8 y.1, .int .u16 y.2.1, .int .u32 y.2.2] 25))
  clear hB
  go_enter Try.func33, Try.ntmps33
  go_upto_region 1 with fail
  generalize W.alloc _ = W1 at *
  obtain ⟨c0, c1, c2⟩ := HB.out.cells
  obtain ⟨d0, d1, d2⟩ := HN.out.cells
  obtain ⟨g, hg⟩ : ∃ g, W.heap.size = g := ⟨_, rfl⟩
  rw [hg] at d0 d1 d2 ⊢
  go_wp2_with fail
  refine (less_any x y _).mono ?_
  rintro e w1 ⟨rfl, b1⟩
  go_wp2
  go_ret
  exact ⟨rfl, thn BL.out b1⟩
/-- The function g, with the id x in block B, says p. -/
def PredP (g B : Nat) (x : Id3) (p : Id3 → Bool) : Prop := ∀ (W : World) (y : Id3), IdBlk W B x → Calls Try.prog g #[(.agg #[.int .u8 y.1, .int .u16 y.2.1, .int .u32 y.2.2]), .pointer (some ⟨B, 0, none⟩)] W fun e W' => e = .returned (.bool (p y)) ∧ Below W.heap.size W W'
theorem fi_drop {p : Id3 → Bool} {l : List Id3} {j : Nat} {y : Id3} (h : l[j]? = some y) : (l.drop j).findIdx p = if p y then 0 else (l.drop (j + 1)).findIdx p + 1 := by
  rw [(List.drop_eq_getElem_cons (List.getElem?_eq_some_iff.1 h).1), (List.getElem?_eq_some_iff.1 h).2, List.findIdx_cons]
  cases p y <;> rfl
theorem place_any (A : Option Addr) (n c : Nat) (l : List Id3) (g B : Nat) (x : Id3) (p : Id3 → Bool) (eg : ∀ args w, (callFunc g args).run Try.prog w = .ok (.enter g args) w) (hp : PredP g B x p) (w : World) (hB : IdBlk w B x) (h : Sd w w.heap.size A n c l) :
    Calls Try.prog 30 #[.slice A n c, .func (.func g) #[] #[.pointer (some ⟨B, 0, none⟩)]] w fun e w' => e = .returned (.int .i64 ((l.findIdx p : Nat) : Int)) ∧ Below w.heap.size w w' := by
  have HL : Hid (n = l.length) := sd_len h
  have hm := h.max
  have hc := h.cap
  unfold maxLen at hm
  have HS := Lib.hid h
  have HB := Lib.hid hB
  have HP := Lib.hid hp
  clear h hB hp
  go_enter Try.func30, Try.ntmps30
  go_wp2
  go_loopw [5, 6, 9] (fun _ _ i wr => ∃ j : Nat, j ≤ n ∧ i = .int .i64 j ∧ Hid ((l.drop j).findIdx p + j = l.findIdx p) ∧ Hid (Below w.heap.size w wr)) (fun _ _ i _ => n - (intOf i).toNat)
  case atStart => exact ⟨0, Nat.zero_le _, rfl, rfl, Below.refl _ _⟩
  case round =>
    obtain ⟨j, hj, rfl, HO, b1⟩ := hrel
    have i0 : (0 : Int) ≤ (j : Int) := by omega
    by_cases hlt : j < n
    · have i1 : (j : Int) < (n : Int) := by omega
      obtain ⟨b, off, y, rfl, hb, hy, c0, c1, c2⟩ := sd_at (HS.out.next b1.out) hlt
      have HF := Lib.hid (fi_drop (p := p) hy)
      have hbl := below_lit wr (.cells #[.int .u8 y.1, .int .u16 y.2.1, .int .u32 y.2.2] 25)
      have hcall := HP.out _ y ((HB.out.next b1.out).next hbl)
      have B2 := Lib.hid (thn b1.out hbl)
      clear hbl hy
      cases hq : p y with
      | true =>
        rw [hq] at hcall
        have HF2 : Hid (l.findIdx p = j) := by have h1 := HF.out; rw [hq, if_pos rfl] at h1; have h2 := HO.out; unfold Hid; omega
        clear HF
        go_wp2_with fail
        refine hcall.mono ?_
        rintro e w' ⟨rfl, hb'⟩
        go_wp2
        go_ret
        exact ⟨by rw [HF2.out]; rfl, thn B2.out hb'⟩
      | false =>
        rw [hq] at hcall
        have HF2 : Hid ((l.drop (j + 1)).findIdx p + (j + 1) = l.findIdx p) := by have h1 := HF.out; rw [hq, if_neg (by decide)] at h1; have h2 := HO.out; unfold Hid; omega
        clear HF
        go_wp2_with fail
        refine hcall.mono ?_
        rintro e w' ⟨rfl, hb'⟩
        go_wp2
        have B3 := Lib.hid (thn B2.out hb')
        clear hb'
        go_roundw
        case rel => exact ⟨j + 1, by omega, by go_num, HF2, B3⟩
        case measure => simp [intOf]; omega
    · obtain rfl : j = n := by omega
      have HF2 : Hid (l.findIdx p = j) := by have := HO.out; rw [List.drop_of_length_le (by rw [← HL.out]; exact Nat.le_refl _)] at this; unfold Hid; simpa using this.symm
      go_wp2
      go_ret
      exact ⟨by rw [HF2.out]; rfl, b1.out⟩
theorem find_lt {x : Id3} (l : List Id3) : decide (l.findIdx (fun y => decide (y = x)) < l.length) = decide (x ∈ l) := by
  rw [decide_eq_decide, List.findIdx_lt_length]
  simp
theorem find_lt' {x : Id3} (l : List Id3) : decide (((l.findIdx (fun y => decide (y = x)) : Nat) : Int) < ((l.length : Nat) : Int)) = decide (x ∈ l) := by
  rw [← find_lt, decide_eq_decide]; omega
theorem has_any (A : Option Addr) (n c : Nat) (l : List Id3) (x : Id3) (w : World) (h : Sd w w.heap.size A n c l) :
    Calls Try.prog 17 #[.slice A n c, (.agg #[.int .u8 x.1, .int .u16 x.2.1, .int .u32 x.2.2])] w fun e w' => e = .returned (.bool (decide (x ∈ l))) ∧ Below w.heap.size w w' := by
  have HL := Lib.hid (sd_len h)
  have HF := Lib.hid (find_lt' (x := x) l)
  have bl := below_lit w (.cells #[.int .u8 x.1, .int .u16 x.2.1, .int .u32 x.2.2] 25)
  have hc := place_any A n c l 31 w.heap.size x (fun y => decide (y = x)) (enters_of Try.func31 (by kernel_rfl) rfl) (fun W y hB => has1_any hB) _ (IdBlk.new w x) (h.next bl)
  generalize ((l.findIdx (fun y => decide (y = x)) : Nat) : Int) = k at *
  rw [← HL.out] at HF
  have BL := Lib.hid bl
  clear bl h
  go_enter Try.func17, Try.ntmps17
  go_wp2_with fail
  refine hc.mono ?_
  rintro e w1 ⟨rfl, b1⟩
  go_wp2
  go_ret
  exact ⟨by rw [← HF.out]; rfl, thn BL.out b1⟩
end Go.Proofs.Ytdpcknfplognmaa
