/- Contracts of the calls of layer 2 (crc) and of its reference. -/
import Derived.Test.YtoepfdmloeiobaaDoorWa
import Derived.Test.YtoepfdmloeiobaaDoorSame
import Derived.Test.YtoepfdmloeiobaaDoorCrcM
import Derived.WalkSpells
namespace Go.Proofs.YtoepfdmloeiobaaDoor
open Go.RowKit
set_option linter.unusedVariables false

/-- The table of half bytes lies where the program's text lays it. -/
def Tab (w : World) : Prop := ∀ k, k < 16 → w.cell? ⟨0, k, none⟩ = some (.int .u32 ((halvesL.getD k 0 : Nat) : Int))
theorem Tab.next {w w' : World} (h : Tab w) (hb : Below w.heap.size w w') : Tab w' := fun k hk => by
  have := h k hk
  rw [hb.cell (p := ⟨0, k, none⟩) (World.block_lt_of_cell? w _ this)]
  exact this

theorem shifted_any (r : Nat) (w : World) (hT : Tab w) (hr : r < 4294967296) :
    Calls Tryd.prog 22 #[.int .u32 r] w fun e w' => e = .returned (.int .u32 (stps 4 r : Nat)) ∧ w = w' := by
  have hc := hT (r % 16) (Nat.mod_lt _ (by decide))
  have hk : bits .and .u32 (r : Int) 15 = ((r % 16 : Nat) : Int) := by
    rw [show (15 : Int) = ((15 : Nat) : Int) from rfl, u32_and_nat _ _ hr (by omega), nat_mask4]
  have hv := halves_le (r % 16)
  have hx : bits .xor .u32 ((r : Int) / 16) ((halvesL.getD (r % 16) 0 : Nat) : Int) = ((stps 4 r : Nat) : Int) := by
    rw [show ((r : Int) / 16) = ((r / 16 : Nat) : Int) from by omega, u32_xor_nat _ _ (by omega) (by omega), stps4]
  have hm : r % 16 < 16 := Nat.mod_lt _ (by decide)
  generalize halvesL.getD (r % 16) 0 = v at *
  generalize r % 16 = k at *
  have hr' : (r : Int) ≤ 4294967295 := by omega
  clear hT hr
  go_enter Tryd.func22, Tryd.ntmps22
  go_wp2
  go_ret
  exact ⟨rfl, rfl⟩

theorem not_bits (x : Nat) (h : x < 4294967296) : bits .xor .u32 IntKind.u32.max (x : Int) = ((4294967295 - x : Nat) : Int) := by
  rw [show IntKind.u32.max = ((4294967295 : Nat) : Int) from rfl, u32_xor_nat _ _ (by decide) h, compl_xor x h, Nat.xor_comm]

theorem more_any (s : Nat) (A : Option Addr) (n c k : Nat) (l : List UInt8) (w : World) (h : Sl w k A n c l) (hT : Tab w) (hs : s < 4294967296) :
    Calls Tryd.prog 12 #[.int .u32 s, .slice A n c] w fun e w' => e = .returned (.int .u32 (more s l : Nat)) ∧ w = w' := by
  have HL : Hid (n = l.length) := sl_len h
  have H := h.at_
  have HT : Hid (Tab w) := hT
  have hs' : (s : Int) ≤ 4294967295 := by omega
  have hn : n ≤ maxLen := by have := h.cap; have := h.max; omega
  unfold maxLen at hn
  have HR : Hid (∀ j, reg (4294967295 - s) (l.take j) < 4294967296) := fun j => reg_lt _ _ (by omega)
  have hnb := not_bits s hs
  clear hT h hs
  go_enter Tryd.func12, Tryd.ntmps12
  go_wp2
  go_loop [5, 12] (fun x i => ∃ j : Nat, j ≤ n ∧ i = .int .i64 j ∧ x = .int .u32 (reg (4294967295 - s) (l.take j) : Nat)) (fun _ i => n - (intOf i).toNat)
  case atStart => exact ⟨0, Nat.zero_le _, rfl, lit_int (by show _ = ((reg _ [] : Nat) : Int); simp only [reg, List.foldl_nil])⟩
  case round =>
    obtain ⟨j, hj, rfl, rfl⟩ := hrel
    have hr := HR.out j
    by_cases hlt : j < n
    · obtain ⟨b, off, rfl, hb, hc⟩ := H (by omega)
      have hjl : j < l.length := by rw [← HL.out]; exact hlt
      have hcell : w.cell? ⟨b, off + j, none⟩ = some (.int .u8 ((l[j]).toNat : Nat)) := hc j _ (by simp [List.getElem?_eq_getElem hjl, Bv])
      have HS : Hid (reg (4294967295 - s) (l.take (j + 1)) = stps 4 (stps 4 (reg (4294967295 - s) (l.take j) ^^^ (l[j]).toNat))) := by
        unfold Hid
        rw [reg_take_succ _ l j hjl, ← stps_add]
      have hu := (l[j]).toNat_lt
      have hx : bits .xor .u32 ((reg (4294967295 - s) (l.take j) : Nat) : Int) (((l[j]).toNat : Nat) : Int) = ((reg (4294967295 - s) (l.take j) ^^^ (l[j]).toNat : Nat) : Int) := u32_xor_nat _ _ hr (by omega)
      have hy := xor_lt32 _ _ hr (u8_lt32 l[j])
      have hz := stps_lt 4 _ hy
      clear hc H
      generalize reg (4294967295 - s) (l.take j) = x at *
      generalize l[j] = u at *
      have hr' : (x : Int) ≤ 4294967295 := by omega
      generalize x ^^^ u.toNat = y at *
      clear hjl
      go_wp2_with (go_at_call 22; go_must (refine (shifted_any _ _ HT.out (by first | exact hy | exact hz)).mono ?_); rintro e w1 ⟨rfl, rfl⟩)
      go_round
      case rel => exact ⟨j + 1, by omega, by go_num, by rw [HS.out]⟩
      case measure => simp [intOf]; omega
    · have HE : Hid (more s l = 4294967295 - reg (4294967295 - s) (l.take j)) := by
        unfold Hid more
        rw [List.take_of_length_le (by rw [← HL.out]; omega)]
      generalize reg (4294967295 - s) (l.take j) = x at *
      have hr' : (x : Int) ≤ 4294967295 := by omega
      have hnx := not_bits x hr
      go_wp2
      go_ret
      exact ⟨by rw [HE.out]; rfl, rfl⟩

theorem sum_any (A : Option Addr) (n c k : Nat) (l : List UInt8) (w : World) (h : Sl w k A n c l) (hT : Tab w) :
    Calls Tryd.prog 10 #[.slice A n c] w fun e w' => e = .returned (.int .u32 (csum l : Nat)) ∧ w = w' := by
  go_enter Tryd.func10, Tryd.ntmps10
  go_wp2_with (go_at_call 12; go_must (refine (more_any 0 A n c k l w h hT (by decide)).mono ?_); rintro e w1 ⟨rfl, rfl⟩)
  go_ret
  exact ⟨rfl, rfl⟩

theorem refMore_any (s : Nat) (A : Option Addr) (n c k : Nat) (l : List UInt8) (w : World) (h : Sl w k A n c l) (hs : s < 4294967296) :
    Calls Tryd.prog 13 #[.int .u32 s, .slice A n c] w fun e w' => e = .returned (.int .u32 (more s l : Nat)) ∧ w = w' := by
  have HL : Hid (n = l.length) := sl_len h
  have H := h.at_
  have hs' : (s : Int) ≤ 4294967295 := by omega
  have hn : n ≤ maxLen := by have := h.cap; have := h.max; omega
  unfold maxLen at hn
  have HR : Hid (∀ j, reg (4294967295 - s) (l.take j) < 4294967296) := fun j => reg_lt _ _ (by omega)
  clear h hs
  go_enter Tryd.func13, Tryd.ntmps13
  go_wp2
  go_loop [5, 6] (fun x i => ∃ j : Nat, j ≤ n ∧ i = .int .i64 j ∧ x = .int .u32 (reg (4294967295 - s) (l.take j) : Nat)) (fun _ i => n - (intOf i).toNat)
  case atStart => exact ⟨0, Nat.zero_le _, rfl, lit_int (by show _ = ((reg _ [] : Nat) : Int); simp only [reg, List.foldl_nil]; omega)⟩
  case round =>
    obtain ⟨j, hj, rfl, rfl⟩ := hrel
    have hr := HR.out j
    by_cases hlt : j < n
    · obtain ⟨b, off, rfl, hb, hc⟩ := H (by omega)
      have hjl : j < l.length := by rw [← HL.out]; exact hlt
      have hcell : w.cell? ⟨b, off + j, none⟩ = some (.int .u8 ((l[j]).toNat : Nat)) := hc j _ (by simp [List.getElem?_eq_getElem hjl, Bv])
      have HS : Hid (reg (4294967295 - s) (l.take (j + 1)) = stps 8 (reg (4294967295 - s) (l.take j) ^^^ (l[j]).toNat)) := reg_take_succ _ l j hjl
      have hu := (l[j]).toNat_lt
      clear hc H
      generalize reg (4294967295 - s) (l.take j) = x at *
      generalize (l[j]).toNat = u at *
      have hr' : (x : Int) ≤ 4294967295 := by omega
      clear hjl
      go_wp2
      go_loop [5, 7, 8] (fun r c t => ∃ q : Nat, q ≤ 8 ∧ t = .int .i64 q ∧ ∃ y v : Nat, y < 4294967296 ∧ v = u / 2 ^ q ∧ r = .int .u32 y ∧ c = .int .u32 v ∧ y ^^^ v = stps q (x ^^^ u)) (fun _ _ t => 8 - (intOf t).toNat)
      case atStart => exact ⟨0, by omega, rfl, x, u, hr, by simp, rfl, rfl, rfl⟩
      case round =>
        obtain ⟨q, hq, rfl, y, v, hy, hv, rfl, rfl, hyv⟩ := hrel
        have HV : Hid (v = u / 2 ^ q) := hv
        have HY : Hid (y ^^^ v = stps q (x ^^^ u)) := hyv
        have hvu : v ≤ 255 := by rw [hv]; exact Nat.le_trans (Nat.div_le_self _ _) (by omega)
        clear hv hyv
        have hy' : (y : Int) ≤ 4294967295 := by omega
        by_cases hlt2 : q < 8
        · have HW : Hid (v / 2 = u / 2 ^ (q + 1)) := by unfold Hid; rw [HV.out, Nat.pow_succ, Nat.div_div_eq_div_mul]
          have HZ := apart_step y v
          rw [HY.out, ← stps_succ] at HZ
          have HZ' : Hid _ := HZ
          clear HZ
          have hxr : bits .xor .u32 ((y : Int) / 2) 2197175160 = ((y / 2 ^^^ 2197175160 : Nat) : Int) := by
            rw [show ((y : Int) / 2) = ((y / 2 : Nat) : Int) from by omega, show (2197175160 : Int) = ((2197175160 : Nat) : Int) from rfl, u32_xor_nat _ _ (by omega) (by omega)]
          by_cases hov : y + v < 4294967296
          · by_cases hpar : (y + v) % 2 = 1
            · have hp' : ((y : Int) + v) % 2 = 1 := by omega
              have HP : Hid ((y + v) % 2 = 1) := hpar
              clear hpar
              go_wp2
              go_round
              case rel => exact ⟨q + 1, by omega, by go_num, y / 2 ^^^ 2197175160, v / 2, xor_lt32 _ _ (by omega) (by omega), HW.out, rfl, lit_int (by omega), by rw [← HZ'.out, if_pos HP.out]⟩
              case measure => simp [intOf]; omega
            · have hp' : ((y : Int) + v) % 2 = 0 := by omega
              have HP : Hid (¬ (y + v) % 2 = 1) := hpar
              clear hpar
              go_wp2
              go_round
              case rel => exact ⟨q + 1, by omega, by go_num, y / 2, v / 2, by omega, HW.out, lit_int (by omega), lit_int (by omega), by rw [← HZ'.out, if_neg HP.out]⟩
              case measure => simp [intOf]; omega
          · by_cases hpar : (y + v) % 2 = 1
            · have hp' : ((y : Int) + v) % 4294967296 % 2 = 1 := by omega
              have HP : Hid ((y + v) % 2 = 1) := hpar
              clear hpar
              go_wp2
              go_round
              case rel => exact ⟨q + 1, by omega, by go_num, y / 2 ^^^ 2197175160, v / 2, xor_lt32 _ _ (by omega) (by omega), HW.out, rfl, lit_int (by omega), by rw [← HZ'.out, if_pos HP.out]⟩
              case measure => simp [intOf]; omega
            · have hp' : ((y : Int) + v) % 4294967296 % 2 = 0 := by omega
              have HP : Hid (¬ (y + v) % 2 = 1) := hpar
              clear hpar
              go_wp2
              go_round
              case rel => exact ⟨q + 1, by omega, by go_num, y / 2, v / 2, by omega, HW.out, lit_int (by omega), lit_int (by omega), by rw [← HZ'.out, if_neg HP.out]⟩
              case measure => simp [intOf]; omega
        · obtain rfl : q = 8 := by omega
          have hv0 : v = 0 := by rw [HV.out]; exact Nat.div_eq_of_lt (by omega)
          subst hv0
          rw [Nat.xor_zero] at HY
          rw [← HY.out] at HS
          go_wp2
          go_round
          case rel => exact ⟨j + 1, by omega, by go_num, by rw [HS.out]⟩
          case measure => simp [intOf]; omega
    · have HE : Hid (more s l = 4294967295 - reg (4294967295 - s) (l.take j)) := by
        unfold Hid more
        rw [List.take_of_length_le (by rw [← HL.out]; omega)]
      generalize reg (4294967295 - s) (l.take j) = x at *
      have hr' : (x : Int) ≤ 4294967295 := by omega
      go_wp2
      go_ret
      exact ⟨by rw [HE.out]; exact congrArg _ (lit_int (by omega)), rfl⟩

theorem refSum_any (A : Option Addr) (n c k : Nat) (l : List UInt8) (w : World) (h : Sl w k A n c l) :
    Calls Tryd.prog 11 #[.slice A n c] w fun e w' => e = .returned (.int .u32 (csum l : Nat)) ∧ w = w' := by
  go_enter Tryd.func11, Tryd.ntmps11
  go_wp2_with (go_at_call 13; go_must (refine (refMore_any 0 A n c k l w h (by decide)).mono ?_); rintro e w1 ⟨rfl, rfl⟩)
  go_ret
  exact ⟨rfl, rfl⟩

theorem rev_any (x : Nat) (w : World) (hx : x < 4294967296) :
    Calls Tryd.prog 28 #[.int .u32 x] w fun e w' => e = .returned (.int .u32 (rev4 x : Nat)) ∧ w = w' := by
  have hx' : (x : Int) ≤ 4294967295 := by omega
  have h1 : bits .and .u32 ((x : Int) / 256) 16711935 = ((x / 256 &&& 16711935 : Nat) : Int) := by
    rw [show (16711935 : Int) = ((16711935 : Nat) : Int) from rfl, show ((x : Int) / 256) = ((x / 256 : Nat) : Int) from by omega, u32_and_nat _ _ (by omega) (by decide)]
  have h2 : bits .and .u32 (x : Int) 16711935 = ((x &&& 16711935 : Nat) : Int) := by
    rw [show (16711935 : Int) = ((16711935 : Nat) : Int) from rfl, u32_and_nat _ _ (by omega) (by decide)]
  have b1 : x / 256 &&& 16711935 ≤ 16711935 := Nat.and_le_right
  have b2 : x &&& 16711935 ≤ 16711935 := Nat.and_le_right
  have key := rev4_code x _ hx rfl
  rw [Nat.mod_eq_of_lt (a := (x &&& 16711935) * 256) (by omega)] at key
  generalize x / 256 &&& 16711935 = p at *
  generalize x &&& 16711935 = q at *
  have h3 : bits .or .u32 (p : Int) ((q : Int) * 256) = ((p ||| q * 256 : Nat) : Int) := by
    rw [show ((q : Int) * 256) = ((q * 256 : Nat) : Int) from by omega, u32_or_nat _ _ (by omega) (by omega)]
  have b3 : p ||| q * 256 < 4294967296 := Nat.or_lt_two_pow (n := 32) (by omega) (by omega)
  generalize p ||| q * 256 = y at *
  have h4 : bits .or .u32 ((y : Int) / 65536) ((y : Int) * 65536 % 4294967296) = ((y / 65536 ||| y * 65536 % 4294967296 : Nat) : Int) := by
    rw [show ((y : Int) / 65536) = ((y / 65536 : Nat) : Int) from by omega, show ((y : Int) * 65536 % 4294967296) = ((y * 65536 % 4294967296 : Nat) : Int) from by omega, u32_or_nat _ _ (by omega) (by omega)]
  rw [key] at h4
  have b4 : (y : Int) ≤ 4294967295 := by omega
  clear key hx b3
  go_enter Tryd.func28, Tryd.ntmps28
  go_wp2
  go_ret
  exact ⟨rfl, rfl⟩

theorem ending_any (A : Option Addr) (n c k : Nat) (l : List UInt8) (w : World) (h : Sl w k A n c l) (hT : Tab w) :
    Calls Tryd.prog 18 #[.slice A n c] w fun e w' => e = .returned (.int .u64 (rev4 (csum l) : Nat)) ∧ w = w' := by
  have hr := rev4_lt (csum l)
  have hc := csum_le l
  have hr' : ((rev4 (csum l) : Nat) : Int) ≤ 4294967295 := by omega
  go_enter Tryd.func18, Tryd.ntmps18
  go_wp2_with (first
    | (go_at_call 10; go_must (refine (sum_any A n c k l w h hT).mono ?_); rintro e w1 ⟨rfl, rfl⟩)
    | (go_at_call 28; go_must (refine (rev_any (csum l) w (by omega)).mono ?_); rintro e w1 ⟨rfl, rfl⟩))
  go_ret
  exact ⟨rfl, rfl⟩

def revp (x : Nat) : Nat → Nat
  | 0 => 0
  | j + 1 => revp x j * 256 + x / 256 ^ j % 256
theorem revp_lt (x j : Nat) : revp x j < 256 ^ j := by
  induction j with
  | zero => simp [revp]
  | succ j ih => rw [revp, Nat.pow_succ]; omega
theorem revp_four (x : Nat) : revp x 4 = rev4 x := by simp only [revp, rev4, Nat.reducePow, Nat.div_one]; omega
theorem turned_any (x : Nat) (w : World) (hx : x < 4294967296) :
    Calls Tryd.prog 21 #[.int .u32 x] w fun e w' => e = .returned (.int .u64 (rev4 x : Nat)) ∧ w = w' := by
  have HX : Hid (x < 4294967296) := hx
  clear hx
  go_enter Tryd.func21, Tryd.ntmps21
  go_wp2
  go_loop [0, 3, 4] (fun x' y i => ∃ j : Nat, j ≤ 4 ∧ i = .int .i64 j ∧ x' = .int .u32 (x / 256 ^ j : Nat) ∧ y = .int .u64 (revp x j : Nat)) (fun _ _ i => 4 - (intOf i).toNat)
  case atStart => exact ⟨0, by omega, rfl, by simp, rfl⟩
  case round =>
    obtain ⟨j, hj, rfl, rfl, rfl⟩ := hrel
    by_cases hlt : j < 4
    · have HP : Hid (x / 256 ^ (j + 1) = x / 256 ^ j / 256) := by unfold Hid; rw [Nat.pow_succ, Nat.div_div_eq_div_mul]
      have HQ : Hid (revp x (j + 1) = revp x j * 256 + x / 256 ^ j % 256) := rfl
      have hpx : x / 256 ^ j ≤ 4294967295 := by have := Nat.div_le_self x (256 ^ j); have := HX.out; omega
      have hq : revp x j < 4294967296 := Nat.lt_of_lt_of_le (revp_lt x j) (Nat.pow_le_pow_right (n := 256) (by decide) hj)
      generalize x / 256 ^ j = p at *
      generalize revp x j = q at *
      have hpx' : (p : Int) ≤ 4294967295 := by omega
      have hq' : (q : Int) ≤ 4294967295 := by omega
      go_wp2
      go_round
      case rel => exact ⟨j + 1, by omega, by go_num, by rw [HP.out]; go_num, by rw [HQ.out]; go_num⟩
      case measure => simp [intOf]; omega
    · obtain rfl : j = 4 := by omega
      go_wp2
      go_ret
      exact ⟨by rw [revp_four]; rfl, rfl⟩
end Go.Proofs.YtoepfdmloeiobaaDoor
