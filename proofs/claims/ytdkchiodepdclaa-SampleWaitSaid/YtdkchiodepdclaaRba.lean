/- Layer 9: slices.BinarySearchFunc at descriptors, desc.place, desc.Find. -/
import Derived.Test.YtdkchiodepdclaaRk
import Derived.Lib.Walk
import Derived.Deep.LoopGhost
import Derived.Deep.Cut
import Derived.Shelf.Abstract
namespace Go.Proofs.Ytdkchiodepdclaa
open Go.RowKit
set_option linter.unusedVariables false
def cmpI (x y : Int) : Int := if x < y then -1 else if y < x then 1 else 0
theorem nan_u8 (x : Int) (w : World) : Calls Try.prog 50 #[.int .u8 x] w fun e w' => e = .returned (.bool false) ∧ w' = w := by
  go_enter Try.func50, Try.ntmps50
  go_wp2
  go_ret
  exact ⟨by simp, rfl⟩
theorem cmp_u8 (x y : Int) (w : World) : Calls Try.prog 46 #[.int .u8 x, .int .u8 y] w fun e w' => e = .returned (.int .i64 (cmpI x y)) ∧ w' = w := by
  have h1 := nan_u8 x
  have h2 := nan_u8 y
  unfold cmpI
  by_cases a : x < y
  · rw [if_pos a]
    go_enter Try.func46, Try.ntmps46
    go_wp2_with fail
    refine (h1 _).mono ?_
    rintro e _ ⟨rfl, rfl⟩
    go_wp2_with fail
    refine (h2 _).mono ?_
    rintro e _ ⟨rfl, rfl⟩
    go_wp2
    go_ret
    exact ⟨rfl, rfl⟩
  · rw [if_neg a]
    by_cases b : y < x
    · rw [if_pos b]
      go_enter Try.func46, Try.ntmps46
      go_wp2_with fail
      refine (h1 _).mono ?_
      rintro e _ ⟨rfl, rfl⟩
      go_wp2_with fail
      refine (h2 _).mono ?_
      rintro e _ ⟨rfl, rfl⟩
      go_wp2
      go_ret
      exact ⟨rfl, rfl⟩
    · rw [if_neg b]
      go_enter Try.func46, Try.ntmps46
      go_wp2_with fail
      refine (h1 _).mono ?_
      rintro e _ ⟨rfl, rfl⟩
      go_wp2_with fail
      refine (h2 _).mono ?_
      rintro e _ ⟨rfl, rfl⟩
      go_wp2
      go_ret
      exact ⟨rfl, rfl⟩
theorem place1_any (x : Dsc × Hd) (node : Int) (W : World) : Calls Try.prog 45 #[(.agg #[.int .u8 x.1.1, .int .u16 x.1.2.1, .int .u8 x.1.2.2.1, .slice x.2.1 x.2.2.1 x.2.2.2]), .int .u8 node] W fun e W' => e = .returned (.int .i64 (cmpI x.1.1 node)) ∧ Below W.heap.size W W' := by
  have HN := Lib.hid (DBlk.new W x.1 x.2)
  have BL := Lib.hid (below_lit W (.cells #[.int .u8 x.1.1, .int .u16 x.1.2.1, .int .u8 x.1.2.2.1, .slice x.2.1 x.2.2.1 x.2.2.2] 27))
  have hc := cmp_u8 x.1.1 node
  generalize cmpI x.1.1 node = v at *
  go_enter Try.func45, Try.ntmps45
  go_upto_region 1 with fail
  generalize W.alloc _ = W1 at *
  obtain ⟨c0, c1, c2, c3⟩ := HN.out.cells
  obtain ⟨g, hg⟩ : ∃ g, W.heap.size = g := ⟨_, rfl⟩
  rw [hg] at c0 c1 c2 c3 ⊢
  go_wp2_with fail
  refine (hc _).mono ?_
  rintro e _ ⟨rfl, rfl⟩
  go_wp2
  go_ret
  exact ⟨rfl, BL.out⟩
/-- Where the node stands, or would. -/
structure Spot (xs : List (Dsc × Hd)) (node : Int) (k : Nat) (b : Bool) : Prop where
  le : k ≤ xs.length
  lo : ∀ j x, j < k → xs[j]? = some x → x.1.1 < node
  hi : ∀ j x, k ≤ j → xs[j]? = some x → node ≤ x.1.1
  hit : b = true → ∃ x, xs[k]? = some x ∧ x.1.1 = node
  miss : b = false → ∀ x, xs[k]? = some x → x.1.1 ≠ node
abbrev RiseX (xs : List (Dsc × Hd)) : Prop := (xs.map (·.1)).Pairwise fun a b => a.1 < b.1
theorem riseX_lt {xs : List (Dsc × Hd)} (h : RiseX xs) {i j : Nat} {x y : Dsc × Hd} (hij : i < j) (hx : xs[i]? = some x) (hy : xs[j]? = some y) : x.1.1 < y.1.1 := by
  obtain ⟨hi, rfl⟩ := List.getElem?_eq_some_iff.1 hx
  obtain ⟨hj, rfl⟩ := List.getElem?_eq_some_iff.1 hy
  have := List.pairwise_iff_getElem.1 h i j (by simpa using hi) (by simpa using hj) hij
  simpa using this
theorem cmpI_lt {x y : Int} (h : cmpI x y < 0) : x < y := by
  unfold cmpI at h; split at h
  · assumption
  · split at h <;> omega
theorem cmpI_ge {x y : Int} (h : ¬ cmpI x y < 0) : y ≤ x := by
  unfold cmpI at h; split at h <;> omega
theorem cmpI_eq {x y : Int} : cmpI x y = 0 ↔ x = y := by
  unfold cmpI; split
  · omega
  · split <;> omega
theorem search_any (A : Option Addr) (n c : Nat) (xs : List (Dsc × Hd)) (node : Int) (w : World) (h : Sds w A n c xs) (hn : n ≤ 1000000) (hr : RiseX xs) :
    Calls Try.prog 44 #[.slice A n c, .int .u8 node, .func (.func 45) #[] #[]] w fun e w' => ∃ (k : Nat) (b : Bool), e = .returned (.tuple #[.int .i64 (k : Int), .bool b]) ∧ Spot xs node k b ∧ Below w.heap.size w w' := by
  have HL : Hid (n = xs.length) := h.len
  have hm := h.max
  have hc := h.cap
  unfold maxLen at hm
  have HS := Lib.hid h
  have HR := Lib.hid hr
  have eg : ∀ args w, (callFunc 45 args).run Try.prog w = .ok (.enter 45 args) w := enters_of Try.func45 (by kernel_rfl) rfl
  clear h hr
  go_enter Try.func44, Try.ntmps44
  go_wp2
  go_loopw [9, 10, 11] (fun i j _ wr => ∃ lo hi : Nat, i = .int .i64 lo ∧ j = .int .i64 hi ∧ lo ≤ hi ∧ hi ≤ n ∧ Hid (∀ t x, t < lo → xs[t]? = some x → x.1.1 < node) ∧ Hid (∀ t x, hi ≤ t → xs[t]? = some x → node ≤ x.1.1) ∧ Hid (Below w.heap.size w wr)) (fun i j _ _ => (intOf j).toNat - (intOf i).toNat)
  case atStart => exact ⟨0, n, rfl, rfl, Nat.zero_le _, Nat.le_refl _, fun t x ht => absurd ht (Nat.not_lt_zero _), fun t x ht hx => absurd (List.getElem?_eq_some_iff.1 hx).1 (by have := HL.out; omega), Below.refl _ _⟩
  case round =>
    obtain ⟨lo, hi, rfl, rfl, hlh, hin, HLO, HHI, b1⟩ := hrel
    by_cases hlt : lo < hi
    · have hm1 : (lo + hi) / 2 < n := by omega
      obtain ⟨b, off, x, rfl, hb, hx, hxm, c0, c1, c2, c3⟩ := (HS.out.next b1.out).at_ hm1
      have hmid : (((lo + hi) / 2 : Nat) : Int) = ((lo : Int) + (hi : Int)) / 2 := by omega
      have HX := Lib.hid hx
      clear hx hxm
      have hcall := place1_any x node wr
      obtain ⟨v, HV⟩ : ∃ v, Hid (cmpI x.1.1 node = v) := ⟨_, rfl⟩
      rw [HV.out] at hcall
      by_cases hv : v < 0
      · have HLT : Hid (∀ t y, t < (lo + hi) / 2 + 1 → xs[t]? = some y → y.1.1 < node) := fun t y ht hy => by
          have h1 : x.1.1 < node := cmpI_lt (by rw [HV.out]; exact hv)
          rcases Nat.lt_or_ge t ((lo + hi) / 2) with h | h
          · have := riseX_lt HR.out h hy HX.out; omega
          · obtain rfl : t = (lo + hi) / 2 := by omega
            rw [HX.out] at hy; cases hy; exact h1
        clear HX HV
        go_wp2_with fail
        refine hcall.mono ?_
        rintro e w' ⟨rfl, hb'⟩
        have B3 := Lib.hid (thn b1.out hb')
        clear hb' hcall c0 c1 c2 c3
        go_wp2
        go_roundw
        case rel => exact ⟨(lo + hi) / 2 + 1, hi, by go_num, rfl, by omega, hin, HLT, HHI, B3⟩
        case measure => simp [intOf]; omega
      · have HGE : Hid (∀ t y, (lo + hi) / 2 ≤ t → xs[t]? = some y → node ≤ y.1.1) := fun t y ht hy => by
          have h1 : node ≤ x.1.1 := cmpI_ge (by rw [HV.out]; exact hv)
          rcases Nat.lt_or_ge ((lo + hi) / 2) t with h | h
          · have := riseX_lt HR.out h HX.out hy; omega
          · obtain rfl : t = (lo + hi) / 2 := by omega
            rw [HX.out] at hy; cases hy; exact h1
        clear HX HV
        go_wp2_with fail
        refine hcall.mono ?_
        rintro e w' ⟨rfl, hb'⟩
        have B3 := Lib.hid (thn b1.out hb')
        clear hb' hcall c0 c1 c2 c3
        go_wp2
        go_roundw
        case rel => exact ⟨lo, (lo + hi) / 2, rfl, by go_num, by omega, by omega, HLO, HGE, B3⟩
        case measure => simp [intOf]; omega
    · obtain rfl : hi = lo := by omega
      by_cases hn2 : hi < n
      · obtain ⟨b, off, x, rfl, hb, hx, hxm, c0, c1, c2, c3⟩ := (HS.out.next b1.out).at_ hn2
        have HX := Lib.hid hx
        clear hx hxm
        have hcall := place1_any x node wr
        obtain ⟨v, HV⟩ : ∃ v, Hid (cmpI x.1.1 node = v) := ⟨_, rfl⟩
        rw [HV.out] at hcall
        by_cases hv : v = 0
        · have HE : Hid (x.1.1 = node) := cmpI_eq.1 (HV.out.trans hv)
          have SP : Hid (Spot xs node hi true) := ⟨by rw [← HL.out]; exact hin, HLO.out, HHI.out, fun _ => ⟨x, HX.out, HE.out⟩, fun h => by cases h⟩
          clear HX HV HE
          go_wp2_with fail
          refine hcall.mono ?_
          rintro e w' ⟨rfl, hb'⟩
          have B3 := Lib.hid (thn b1.out hb')
          clear hb' hcall c0 c1 c2 c3
          subst hv
          go_wp2
          go_ret2
          exact ⟨hi, true, rfl, SP.out, B3.out⟩
        · have HE : Hid (x.1.1 ≠ node) := fun e => hv (HV.out.symm.trans (cmpI_eq.2 e))
          have SP : Hid (Spot xs node hi false) := ⟨by rw [← HL.out]; exact hin, HLO.out, HHI.out, (fun h => by cases h), fun _ y hy => by rw [HX.out] at hy; cases hy; exact HE.out⟩
          have hvb : (v == 0) = false := by simpa using hv
          clear HX HV HE
          go_wp2_with fail
          refine hcall.mono ?_
          rintro e w' ⟨rfl, hb'⟩
          have B3 := Lib.hid (thn b1.out hb')
          clear hb' hcall c0 c1 c2 c3
          go_wp2
          go_ret2
          exact ⟨hi, false, rfl, SP.out, B3.out⟩
      · have SP : Hid (Spot xs node hi false) := ⟨by rw [← HL.out]; exact hin, HLO.out, HHI.out, (fun h => by cases h), fun _ y hy => absurd (List.getElem?_eq_some_iff.1 hy).1 (by have := HL.out; omega)⟩
        go_wp2
        go_ret2
        exact ⟨hi, false, rfl, SP.out, b1.out⟩
theorem place_any (A : Option Addr) (n c : Nat) (xs : List (Dsc × Hd)) (node : Int) (w : World) (h : Sds w A n c xs) (hn : n ≤ 1000000) (hr : RiseX xs) :
    Calls Try.prog 37 #[.slice A n c, .int .u8 node] w fun e w' => ∃ (k : Nat) (b : Bool), e = .returned (.tuple #[.int .i64 (k : Int), .bool b]) ∧ Spot xs node k b ∧ Below w.heap.size w w' := by
  have HC := Lib.hid (search_any A n c xs node w h hn hr)
  clear h hr
  go_enter Try.func37, Try.ntmps37
  go_wp2_with fail
  refine HC.out.mono ?_
  rintro e w5 ⟨k, b, rfl, SP, b5⟩
  have S := Lib.hid SP
  clear SP
  go_wp2
  go_ret2
  exact ⟨k, b, rfl, S.out, b5⟩
theorem Spot.find {xs : List (Dsc × Hd)} {node : Int} {k : Nat} {b : Bool} (h : Spot xs node k b) (hr : RiseX xs) : findI (xs.map (·.1)) node = if b then (k : Int) else -1 := by
  cases b
  · refine findI_none fun d hd => ?_
    obtain ⟨x, hx, rfl⟩ := List.mem_map.1 hd
    obtain ⟨j, hj⟩ := List.mem_iff_getElem?.1 hx
    rcases Nat.lt_or_ge j k with h1 | h1
    · have := h.lo j x h1 hj; omega
    · rcases Nat.lt_or_ge k j with h2 | h2
      · have hk : k < xs.length := by have := (List.getElem?_eq_some_iff.1 hj).1; omega
        have h3 := riseX_lt hr h2 (List.getElem?_eq_getElem hk) hj
        have h4 := h.hi k _ (Nat.le_refl _) (List.getElem?_eq_getElem hk)
        have h5 := h.miss rfl _ (List.getElem?_eq_getElem hk)
        omega
      · obtain rfl : j = k := by omega
        exact h.miss rfl x hj
  · obtain ⟨x, hx, he⟩ := h.hit rfl
    refine findI_at (d := x.1) (by rw [List.getElem?_map, hx]; rfl) he fun i e hi hie => ?_
    rw [List.getElem?_map] at hie
    obtain ⟨y, hy, rfl⟩ := Option.map_eq_some_iff.1 hie
    have := h.lo i y hi hy
    omega
theorem find_any (A : Option Addr) (n c : Nat) (xs : List (Dsc × Hd)) (node : Int) (w : World) (h : Sds w A n c xs) (hf : Fit n xs) (hv : isView (xs.map (·.1))) : Calls Try.prog 25 #[.slice A n c, .int .u8 node] w fun e w' => e = .returned (.int .i64 (findI (xs.map (·.1)) node)) ∧ Below w.heap.size w w' := by
  obtain ⟨self, room, hR⟩ := hv
  have HC := Lib.hid (place_any A n c xs node w h (by have := hf.len; omega) hR.2.1)
  clear h hf
  go_enter Try.func25, Try.ntmps25
  go_wp2_with fail
  refine HC.out.mono ?_
  rintro e w5 ⟨k, b, rfl, SP, b5⟩
  have HF := Lib.hid (SP.find hR.2.1)
  clear SP
  cases b
  · go_wp2
    go_ret
    exact ⟨by rw [HF.out]; rfl, b5⟩
  · go_wp2
    go_ret
    exact ⟨by rw [HF.out]; rfl, b5⟩
end Go.Proofs.Ytdkchiodepdclaa
