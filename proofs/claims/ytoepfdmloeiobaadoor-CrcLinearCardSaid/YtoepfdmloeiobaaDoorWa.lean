import Derived.Test.YtoepfdmloeiobaaDoorRows
import Derived.Test.YtoepfdmloeiobaaDoorGv
import Derived.Test.YtoepfdmloeiobaaDoorPure
import Derived.Laws.BytesArg
import Derived.Deep.RegionWith
namespace Go.Proofs.YtoepfdmloeiobaaDoor
open Go.RowKit
set_option linter.unusedVariables false
theorem infoU8 : (Tryd.prog.info? 5).map (fun i => (i.zero, i.size, i.bytes)) = some (some (.int .u8 0), 1, 1) := by kernel_rfl

theorem within_any (a b : Int) (w : World) :
    Calls Tryd.prog 25 #[.int .i64 a, .int .i64 b] w fun e w' => e = .returned (.func (.func 30) #[] #[.pointer (some ⟨w.heap.size, 0, none⟩), .pointer (some ⟨w.heap.size + 1, 0, none⟩)]) ∧ (w.alloc (.cells #[.int .i64 a] 3)).alloc (.cells #[.int .i64 b] 3) = w' := by
  go_enter Tryd.func25, Tryd.ntmps25
  go_wp2
  go_ret
  exact ⟨rfl, rfl⟩

theorem within_abs (a b : Int) (w : World) :
    Calls Tryd.prog 25 #[.int .i64 a, .int .i64 b] w fun e w' => ∃ p q, e = .returned (.func (.func 30) #[] #[.pointer (some p), .pointer (some q)]) ∧ w'.cell? p = some (.int .i64 a) ∧ w'.cell? q = some (.int .i64 b) ∧ Below w.heap.size w w' :=
  (within_any a b w).mono fun e w' ⟨he, hw⟩ => by
    subst hw
    refine ⟨_, _, he, ?_, ?_, ((Below.refl _ _).alloc (Nat.le_refl _) _).alloc (by simp) _⟩
    · rw [World.cell?_alloc_old _ _ _ (by simp)]; simp
    · have := World.cell?_alloc_new (w.alloc (.cells #[.int .i64 a] 3)) #[.int .i64 b] 3 0
      simpa only [World.size_alloc, List.getElem?_toArray, List.getElem?_cons_zero] using this

theorem inside_any (n a b : Int) (p q : Addr) (w : World) (h1 : w.cell? p = some (.int .i64 a)) (h2 : w.cell? q = some (.int .i64 b)) :
    Calls Tryd.prog 30 #[.int .i64 n, .pointer (some p), .pointer (some q)] w fun e w' => e = .returned (.bool (decide (a ≤ n) && decide (n ≤ b))) ∧ w = w' := by
  go_enter Tryd.func30, Tryd.ntmps30
  by_cases h : a ≤ n
  · go_wp2
    go_ret
    exact ⟨by simp [h], rfl⟩
  · go_wp2
    go_ret
    exact ⟨by simp [Int.not_le.2 h], rfl⟩

theorem own_any (A : Option Addr) (n c k : Nat) (l : List UInt8) (more : Int) (w : World) (h : Sl w k A n c l) (hk : k ≤ w.heap.size) (h0 : 0 ≤ more) (h1 : n + more ≤ 140737488355328) :
    Calls Tryd.prog 27 #[.slice A n c, .int .i64 more] w fun e w' => ∃ A' c', e = .returned (.slice A' n c') ∧ Own w' w.heap.size 5 A' n c' (l.map Bv) ∧ Below w.heap.size w w' := by
  go_enter Tryd.func27, Tryd.ntmps27
  go_wp2_with (first
    | (at_make; go_must (refine wpList_mk rfl _ _ 23 rfl Tryd.underlying23 infoU8 rfl rfl (Nat.le_refl _) (by omega) (by omega) (by decide) ?_); intro A2 w1 hown hg; have hsl := (h.keep (w' := w1) fun p hp => World.cell?_of_block (hg.block p.block (by omega) (by simp))); have hb := (Below.refl w.heap.size w).grown hg (Nat.le_refl _) (by simp); have hz := hg.size; clear hg h)
    | (at_builtin; go_must (refine wpList_app rfl _ _ 23 rfl Tryd.underlying23 infoU8 rfl rfl hown rfl hsl (Bv_one _) (by omega) (by decide) hz ?_); intro A3 c3 w2 hown3 hg3))
  go_ret
  exact ⟨A3, c3, rfl, by simpa using hown3, hb.grown hg3 hz hown.lt⟩
theorem or_byte (x : Nat) (u : UInt8) (hx : x < 72057594037927936) : bits .or .u64 ((x : Int) * 256) (u.toNat : Int) = ((x * 256 + u.toNat : Nat) : Int) := by
  have hu := u.toNat_lt
  have e : (x : Int) * 256 = ((x * 256 : Nat) : Int) := by omega
  rw [e, u64_or_nat _ _ (by omega) (by omega)]
  have := Nat.shiftLeft_add_eq_or_of_lt (i := 8) (b := u.toNat) (by omega) x
  rw [Nat.shiftLeft_eq] at this
  rw [show x * 256 = x * 2 ^ 8 from rfl, ← this]
theorem lit_int {k : IntKind} {a b : Int} (h : a = b) : Value.int k a = Value.int k b := by rw [h]

theorem number_any (A : Option Addr) (n c k : Nat) (l : List UInt8) (w : World) (h : Sl w k A n c l) (h8 : n ≤ 8) :
    Calls Tryd.prog 26 #[.slice A n c] w fun e w' => e = .returned (.int .u64 (num l : Nat)) ∧ w = w' := by
  have hl : n = l.length := by simpa using h.len
  have H := h.at_
  have HL : Hid (n = l.length) := hl
  clear hl h
  go_enter Tryd.func26, Tryd.ntmps26
  go_wp2
  go_loop [3, 7] (fun x i => ∃ j : Nat, j ≤ n ∧ i = .int .i64 j ∧ x = .int .u64 (num (l.take j) : Nat)) (fun _ i => n - (intOf i).toNat)
  case atStart => exact ⟨0, Nat.zero_le _, rfl, rfl⟩
  case round =>
    obtain ⟨j, hj, rfl, rfl⟩ := hrel
    by_cases hlt : j < n
    · obtain ⟨b, off, rfl, hb, hc⟩ := H (by omega)
      have hjl : j < l.length := by rw [← HL.out]; exact hlt
      have hcell : w.cell? ⟨b, off + j, none⟩ = some (.int .u8 ((l[j]).toNat : Nat)) := hc j _ (by simp [List.getElem?_eq_getElem hjl, Bv])
      have HS : Hid (num (l.take (j + 1)) = num (l.take j) * 256 + (l[j]).toNat) := num_take_succ l j hjl
      have hn : num (l.take j) < 72057594037927936 := num_take_lt l j 7 (by omega)
      have hu := (l[j]).toNat_lt
      clear hc H
      generalize num (l.take j) = x at *
      generalize l[j] = u at *
      clear hjl
      go_wp2
      go_round
      case rel => exact ⟨j + 1, by omega, by go_num, by rw [HS.out, or_byte x u hn]⟩
      case measure => simp [intOf]; omega
    · go_wp2
      go_ret
      exact ⟨by rw [List.take_of_length_le (by rw [← HL.out]; omega)]; rfl, rfl⟩
theorem byte_of (z : Nat) : Bv (UInt8.ofNat z) = .int .u8 ((z % 256 : Nat) : Int) := by simp [Bv, UInt8.toNat_ofNat']
theorem pow8 (t : Nat) : (2 : Int) ^ (8 * t) = 256 ^ t := by rw [Int.pow_mul]; rfl
theorem refPut_any (A : Option Addr) (n c k : Nat) (l : List UInt8) (x : Nat) (m : Int) (w : World) (h : Sl w k A n c l) (hk : k ≤ w.heap.size) (hx : x ≤ 18446744073709551615)
    (h0 : 1 ≤ m ∧ m ≤ 8) (hn : n ≤ 1000000) :
    Calls Tryd.prog 24 #[.slice A n c, .int .u64 x, .int .i64 m] w fun e w' => ∃ A' c', e = .returned (.slice A' (n + m.toNat) c') ∧ Own w' w.heap.size 5 A' (n + m.toNat) c' ((l ++ be x m.toNat).map Bv) ∧ Below w.heap.size w w' := by
  obtain ⟨m, rfl⟩ := Int.eq_ofNat_of_zero_le (show 0 ≤ m by omega)
  go_enter Tryd.func24, Tryd.ntmps24
  have e1 : ¬ (m : Int) < 1 := by omega
  have e2 : ¬ 8 < (m : Int) := by omega
  go_wp2_with (first
    | (at_builtin; go_must (refine wpList_app rfl _ _ 23 rfl Tryd.underlying23 infoU8 rfl rfl (Own.nil _ w.heap.size _) rfl h (Bv_one _) (by omega) (by decide) (Nat.le_refl _) ?_); intro A3 c3 w2 hown3 hg3))
  simp only [Nat.zero_add, List.nil_append] at hown3
  have hb3 := (Below.refl w.heap.size w).grown hg3 (Nat.le_refl _) (by simp [Value.ownBlock])
  clear hg3
  go_loopw [7, 8] (fun v i wr => ∃ j : Nat, j ≤ m ∧ i = .int .i64 ((m : Int) - 1 - j) ∧ ∃ A c, v = .slice A (n + j) c ∧ Own wr w.heap.size 5 A (n + j) c ((l ++ (be x m).take j).map Bv) ∧ Below w.heap.size w wr) (fun _ i _ => (intOf i + 1).toNat)
  case atStart => exact ⟨0, Nat.zero_le _, by simp, A3, c3, rfl, by simpa using hown3, hb3⟩
  case round =>
    obtain ⟨j, hj, rfl, A4, c4, rfl, hown4, hb4⟩ := hrel
    obtain ⟨wo, rfl⟩ : ∃ wo : World, wo = wr := ⟨_, rfl⟩
    clear hown3 hb3
    by_cases hlt : j < m
    · have e5 : 0 ≤ (m : Int) - 1 - j := by omega
      go_wp2
      go_loop [9, 10] (fun y q => ∃ t : Nat, t ≤ m - 1 - j ∧ q = .int .i64 t ∧ y = .int .u64 (x / 256 ^ t : Nat)) (fun _ q => m - (intOf q).toNat)
      case atStart => exact ⟨0, Nat.zero_le _, rfl, by simp⟩
      case round =>
        obtain ⟨t, ht, rfl, rfl⟩ := hrel
        have hd : x / 256 ^ t ≤ x := Nat.div_le_self _ _
        have HX : Hid (x / 256 ^ (t + 1) = x / 256 ^ t / 256) := by unfold Hid; rw [Nat.pow_succ, Nat.div_div_eq_div_mul]
        by_cases hlt2 : t < m - 1 - j
        · generalize x / 256 ^ t = y at *
          go_wp2
          go_round
          case rel => exact ⟨t + 1, by omega, by go_num, by rw [HX.out]; go_num⟩
          case measure => simp [intOf]; omega
        · obtain rfl : t = m - 1 - j := by omega
          have HB : Hid ((be x m).take (j + 1) = (be x m).take j ++ [UInt8.ofNat (x / 256 ^ (m - 1 - j))]) := be_take_succ x m j hlt
          generalize x / 256 ^ (m - 1 - j) = y at *
          have hz4 := hb4.size
          go_wp2_with (first
            | (at_builtin; go_must (refine wpList_app rfl _ _ 23 rfl Tryd.underlying23 infoU8 rfl rfl (hown4.alloc _) rfl (Sv.one _ _ _) ?_ (by omega) (by decide) (by simp; omega) ?_); (intro u hu; simp at hu; subst hu; rfl); intro A5 c5 w5 hown5 hg5))
          have hb5 := (hb4.alloc hz4 _).grown hg5 (by simp; omega) hown4.lt
          clear hg5 hown4 hb4
          go_roundw
          case rel => exact ⟨j + 1, by omega, by simp; omega, A5, c5, by rw [Nat.add_assoc], by rw [HB.out]; simpa [byte_of, Nat.add_assoc] using hown5, hb5⟩
          case measure => simp [intOf]; omega
    · obtain rfl : j = m := by omega
      have e5 : ¬ 0 ≤ (j : Int) - 1 - j := by omega
      go_wp2
      go_ret
      exact ⟨A4, c4, rfl, by simpa [List.take_of_length_le, be_length] using hown4, hb4⟩

theorem put_any (A : Option Addr) (n c k : Nat) (l : List UInt8) (x : Nat) (m : Int) (w : World) (h : Sl w k A n c l) (hk : k ≤ w.heap.size) (hx : x ≤ 18446744073709551615)
    (h0 : 1 ≤ m ∧ m ≤ 8) (hn : n ≤ 1000000) :
    Calls Tryd.prog 23 #[.slice A n c, .int .u64 x, .int .i64 m] w fun e w' => ∃ A' c', e = .returned (.slice A' (n + m.toNat) c') ∧ Own w' w.heap.size 5 A' (n + m.toNat) c' ((l ++ be x m.toNat).map Bv) ∧ Below w.heap.size w w' := by
  obtain ⟨m, rfl⟩ := Int.eq_ofNat_of_zero_le (show 0 ≤ m by omega)
  go_enter Tryd.func23, Tryd.ntmps23
  have e1 : (1 : Int) ≤ (m : Int) := by omega
  have e2 : (m : Int) ≤ 8 := by omega
  go_wp2_with (first
    | (go_at_call 25; go_must (refine (within_any _ _ _).mono ?_); rintro e w1 ⟨rfl, rfl⟩)
    | (go_at_call 30; go_must (refine (inside_any _ 1 8 _ _ _ (by go_simp) (by go_simp)).mono ?_); rintro e w1 ⟨rfl, rfl⟩)
    | (go_at_call 27; go_must (refine (own_any A n c k l _ _ ((h.alloc hk _).alloc (by simp; omega) _) (by simp; omega) (by omega) (by omega)).mono ?_); rintro e w1 ⟨A1, c1, rfl, hown1, hb1⟩))
  have hb2 : Below w.heap.size w w1 := (((Below.refl _ _).alloc (Nat.le_refl _) _).alloc (by simp) _).trans (hb1.mono (by simp; omega))
  have hown2 : Own w1 w.heap.size 5 A1 n c1 (l.map Bv) := hown1.mono (by simp; omega)
  clear hown1 hb1
  go_loopw [8, 21] (fun v i wr => ∃ j : Nat, j ≤ m ∧ i = .int .i64 j ∧ ∃ A c, v = .slice A (n + j) c ∧ Own wr w.heap.size 5 A (n + j) c ((l ++ (be x m).take j).map Bv) ∧ Below w.heap.size w wr) (fun _ i _ => m - (intOf i).toNat)
  case atStart => exact ⟨0, Nat.zero_le _, rfl, A1, c1, rfl, by simpa using hown2, hb2⟩
  case round =>
    obtain ⟨j, hj, rfl, A4, c4, rfl, hown4, hb4⟩ := hrel
    clear hown2 hb2
    by_cases hlt : j < m
    · have e5 : 0 ≤ (m : Int) - 1 - j := by omega
      have HB : Hid ((be x m).take (j + 1) = (be x m).take j ++ [UInt8.ofNat (x / 256 ^ (m - 1 - j))]) := be_take_succ x m j hlt
      have hz4 := hb4.size
      go_wp2_with (first
        | (at_builtin; go_must (refine wpList_app rfl _ _ 23 rfl Tryd.underlying23 infoU8 rfl rfl (hown4.alloc _) rfl (Sv.one _ _ _) ?_ (by omega) (by decide) (by simp; omega) ?_); (intro u hu; simp at hu; subst hu; rfl); intro A5 c5 w5 hown5 hg5))
      have hb5 := (hb4.alloc hz4 _).grown hg5 (by simp; omega) hown4.lt
      clear hg5 hown4 hb4
      go_roundw
      case rel => exact ⟨j + 1, by omega, by go_num, A5, c5, by rw [Nat.add_assoc], by rw [HB.out]; simpa [byte_of, Nat.add_assoc, pow8] using hown5, hb5⟩
      case measure => simp [intOf]; omega
    · obtain rfl : j = m := by omega
      go_wp2
      go_ret
      exact ⟨A4, c4, rfl, by simpa [List.take_of_length_le, be_length] using hown4, hb4⟩

/-- A new slice of bytes is returned; nothing that was there has turned. -/
def Made (l : List UInt8) (w : World) (e : Ending) (w' : World) : Prop := ∃ A c, e = .returned (.slice A l.length c) ∧ Own w' w.heap.size 5 A l.length c (l.map Bv) ∧ Below w.heap.size w w'
theorem made_of {l l' : List UInt8} {w w' : World} {A : Option Addr} {n c : Nat} (h : Own w' w.heap.size 5 A n c (l.map Bv)) (hb : Below w.heap.size w w') (e : l = l') : Made l' w (.returned (.slice A n c)) w' := by
  subst e
  have := h.1
  obtain rfl : n = l.length := by simpa using this.symm
  exact ⟨A, c, rfl, h, hb⟩
theorem own_made (A : Option Addr) (n c k : Nat) (l : List UInt8) (more : Int) (w : World) (h : Sl w k A n c l) (hk : k ≤ w.heap.size) (h0 : 0 ≤ more) (h1 : n + more ≤ 140737488355328) :
    Calls Tryd.prog 27 #[.slice A n c, .int .i64 more] w (Made l w) :=
  (own_any A n c k l more w h hk h0 h1).mono fun e w' ⟨A', c', he, ho, hb⟩ => he ▸ made_of ho hb rfl
theorem inside_no (n a b : Int) (p q : Addr) (w : World) (h1 : w.cell? p = some (.int .i64 a)) (h2 : w.cell? q = some (.int .i64 b)) (h : ¬ (a ≤ n ∧ n ≤ b)) :
    Calls Tryd.prog 30 #[.int .i64 n, .pointer (some p), .pointer (some q)] w fun e w' => e = .returned (.bool false) ∧ w = w' :=
  (inside_any n a b p q w h1 h2).mono fun e w' ⟨he, hw⟩ => ⟨by rw [he]; congr 2; simpa using h, hw⟩
theorem inside_yes (n a b : Int) (p q : Addr) (w : World) (h1 : w.cell? p = some (.int .i64 a)) (h2 : w.cell? q = some (.int .i64 b)) (h : a ≤ n ∧ n ≤ b) :
    Calls Tryd.prog 30 #[.int .i64 n, .pointer (some p), .pointer (some q)] w fun e w' => e = .returned (.bool true) ∧ w = w' :=
  (inside_any n a b p q w h1 h2).mono fun e w' ⟨he, hw⟩ => ⟨by rw [he]; congr 2; simpa using h, hw⟩
theorem put_made (A : Option Addr) (n c k : Nat) (l : List UInt8) (x : Nat) (m : Int) (w : World) (h : Sl w k A n c l) (hk : k ≤ w.heap.size) (hx : x ≤ 18446744073709551615) (hn : n ≤ 1000000) :
    Calls Tryd.prog 23 #[.slice A n c, .int .u64 x, .int .i64 m] w (Made (putF l x m) w) := by
  by_cases hm : 1 ≤ m ∧ m ≤ 8
  · rw [putF_yes l x m hm]
    exact (put_any A n c k l x m w h hk hx hm hn).mono fun e w' ⟨A', c', he, ho, hb⟩ => he ▸ made_of ho hb rfl
  · rw [putF_no l x m hm]
    have e1 : ¬ (1 ≤ m ∧ m ≤ 8) → m < 1 ∨ 8 < m := by omega
    have hm' := e1 hm
    · go_enter Tryd.func23, Tryd.ntmps23
      go_wp2_with (first
        | (go_at_call 25; go_must (refine (within_any _ _ _).mono ?_); rintro e w1 ⟨rfl, rfl⟩)
        | (go_at_call 30; go_must (refine (inside_no _ 1 8 _ _ _ (by go_simp) (by go_simp) (by omega)).mono ?_); rintro e w1 ⟨rfl, rfl⟩)
        | (go_at_call 27; go_must (refine (own_any A n c k l _ _ ((h.alloc hk _).alloc (by simp; omega) _) (by simp; omega) (by omega) (by omega)).mono ?_); rintro e w1 ⟨A1, c1, rfl, hown1, hb1⟩))
      go_ret
      exact made_of (hown1.mono (by simp; omega)) ((((Below.refl _ _).alloc (Nat.le_refl _) _).alloc (by simp) _).trans (hb1.mono (by simp; omega))) rfl
theorem sizeU8 (w : World) : (sizeOf 5).run Tryd.prog w = .ok 1 w := by kernel_rfl
theorem elemBs : Tryd.prog.elem 23 = 5 := by kernel_rfl
theorem rest_made (A : Option Addr) (n c k : Nat) (l : List UInt8) (m : Int) (w : World) (h : Sl w k A n c l) (hm : 0 ≤ m ∧ m ≤ n) (hn : n ≤ 1000000) :
    Calls Tryd.prog 29 #[.slice A n c, .int .i64 m] w (Made (l.drop m.toNat) w) := by
  obtain ⟨m, rfl⟩ := Int.eq_ofNat_of_zero_le hm.1
  obtain ⟨A2, hrun, hf⟩ := h.tail (lo := m) (by omega) 23 5 Tryd.underlying23 elemBs sizeU8 .i64 _ rfl
  rw [← List.map_drop] at hf
  have hmn : (m : Int) ≤ n := hm.2
  go_enter Tryd.func29, Tryd.ntmps29
  go_wp2_with (at_builtin; go_must (refine wpList_app rfl _ _ 23 rfl Tryd.underlying23 infoU8 rfl rfl (Own.nil _ w.heap.size _) rfl hf (Bv_one _) (by omega) (by decide) (Nat.le_refl _) ?_); intro A3 c3 w2 hown3 hg3)
  go_ret
  rw [Nat.zero_add, List.nil_append] at hown3
  exact made_of hown3 ((Below.refl w.heap.size w).grown hg3 (Nat.le_refl _) (by simp [Value.ownBlock])) (by simp)
theorem refPut_made (A : Option Addr) (n c k : Nat) (l : List UInt8) (x : Nat) (m : Int) (w : World) (h : Sl w k A n c l) (hk : k ≤ w.heap.size) (hx : x ≤ 18446744073709551615) (hn : n ≤ 1000000) :
    Calls Tryd.prog 24 #[.slice A n c, .int .u64 x, .int .i64 m] w (Made (putF l x m) w) := by
  by_cases hm : 1 ≤ m ∧ m ≤ 8
  · rw [putF_yes l x m hm]
    exact (refPut_any A n c k l x m w h hk hx hm hn).mono fun e w' ⟨A', c', he, ho, hb⟩ => he ▸ made_of ho hb rfl
  · rw [putF_no l x m hm]
    have e1 : ¬ (1 ≤ m ∧ m ≤ 8) → m < 1 ∨ 8 < m := by omega
    rcases e1 hm with hm' | hm'
    all_goals
      clear hm e1
      go_enter Tryd.func24, Tryd.ntmps24
      go_wp2_with (at_builtin; go_must (refine wpList_app rfl _ _ 23 rfl Tryd.underlying23 infoU8 rfl rfl (Own.nil _ w.heap.size _) rfl h (Bv_one _) (by omega) (by decide) (Nat.le_refl _) ?_); intro A3 c3 w2 hown3 hg3)
      go_ret
      exact made_of (by simpa using hown3) ((Below.refl w.heap.size w).grown hg3 (Nat.le_refl _) (by simp [Value.ownBlock])) (by simp)
/-- Take, as both tell it. -/
def Taken (l : List UInt8) (m : Int) (w : World) (e : Ending) (w' : World) : Prop := ∃ A c, e = .returned (.tuple #[.int .u64 (takeN l m : Nat), .slice A (takeR l m).length c, .bool (takeB l m)]) ∧
  Own w' w.heap.size 5 A (takeR l m).length c ((takeR l m).map Bv) ∧ Below w.heap.size w w'
theorem taken_no (l : List UInt8) (m : Int) (w w' : World) (hb : Below w.heap.size w w') (h : ¬ (1 ≤ m ∧ m ≤ 8 ∧ m ≤ (l.length : Int))) : Taken l m w (.returned (.tuple #[.int .u64 0, .slice none 0 0, .bool false])) w' := by
  have e : takeB l m = false := by simpa [takeB] using h
  exact ⟨none, 0, by simp [takeN, takeR, e], by simpa [takeR, e] using Own.nil w' w.heap.size 5, hb⟩
theorem taken_yes (l : List UInt8) (m : Int) (w w' : World) (A : Option Addr) (n c : Nat) (ho : Own w' w.heap.size 5 A n c ((l.drop m.toNat).map Bv)) (hb : Below w.heap.size w w') (h : 1 ≤ m ∧ m ≤ 8 ∧ m ≤ (l.length : Int)) :
    Taken l m w (.returned (.tuple #[.int .u64 (num (l.take m.toNat) : Nat), .slice A n c, .bool true])) w' := by
  have e : takeB l m = true := by simpa [takeB] using h
  obtain rfl : n = (l.drop m.toNat).length := by simpa using ho.1.symm
  exact ⟨A, c, by simp [takeN, takeR, e], by simpa [takeR, e] using ho, hb⟩
theorem take_yes1 (A : Option Addr) (n c k : Nat) (l : List UInt8) (m : Nat) (w : World) (h : Sl w k A n c l) (hk : k ≤ w.heap.size) (hn : n ≤ 1000000) (e1 : (1 : Int) ≤ m) (e2 : (m : Int) ≤ 8) (e3 : (m : Int) ≤ n) (h8 : (n : Int) < 8) :
    Calls Tryd.prog 17 #[.slice A n c, .int .i64 m] w (Taken l m w) := by
  have HM : Hid (1 ≤ (m : Int) ∧ (m : Int) ≤ 8 ∧ (m : Int) ≤ l.length) := ⟨e1, e2, by have := sl_len h; omega⟩
  obtain ⟨A2, hrun, hf⟩ := h.tail (lo := m) (by omega) 23 5 Tryd.underlying23 elemBs sizeU8 .i64 _ rfl
  have hu := h.upto (hi := m) (by omega)
  rw [← List.map_drop] at hf
  rw [← List.map_take] at hu
  have hc := h.cap
  go_enter Tryd.func17, Tryd.ntmps17
  go_wp2_with (first
    | (go_at_call 25; go_must (refine (within_any _ _ _).mono ?_); rintro e w1 ⟨rfl, rfl⟩)
    | (go_at_call 30; go_must (refine (inside_yes _ 1 (n : Int) _ _ _ (by go_simp) (by go_simp) (by omega)).mono ?_); rintro e w1 ⟨rfl, rfl⟩))
  go_region_with (first
    | (go_at_call 26; go_must (refine (number_any _ _ _ k _ _ (by first | exact ((hu.alloc hk _).alloc (by simp; omega) _).drew | exact ((hu.alloc hk _).alloc (by simp; omega) _).drew.below (hb1.mono (by simp; omega))) (by omega)).mono ?_); rintro e w1 ⟨rfl, rfl⟩)
    | (go_at_call 27; go_must (refine (own_any _ _ _ k _ _ _ (by exact ((hf.alloc hk _).alloc (by simp; omega) _).drew) (by simp; omega) (by omega) (by omega)).mono ?_); rintro e w1 ⟨A1, c1, rfl, hown1, hb1⟩))
  all_goals
    go_wp2
    go_ret3
    exact taken_yes l m w _ A1 _ c1 (hown1.mono (by simp; omega)) ((((Below.refl _ _).alloc (Nat.le_refl _) _).alloc (by simp) _).drew.trans (hb1.mono (by simp; omega))) HM.out
theorem take_yes2 (A : Option Addr) (n c k : Nat) (l : List UInt8) (m : Nat) (w : World) (h : Sl w k A n c l) (hk : k ≤ w.heap.size) (hn : n ≤ 1000000) (e1 : (1 : Int) ≤ m) (e2 : (m : Int) ≤ 8) (e3 : (m : Int) ≤ n) (h8 : 8 ≤ (n : Int)) :
    Calls Tryd.prog 17 #[.slice A n c, .int .i64 m] w (Taken l m w) := by
  have HM : Hid (1 ≤ (m : Int) ∧ (m : Int) ≤ 8 ∧ (m : Int) ≤ l.length) := ⟨e1, e2, by have := sl_len h; omega⟩
  obtain ⟨A2, hrun, hf⟩ := h.tail (lo := m) (by omega) 23 5 Tryd.underlying23 elemBs sizeU8 .i64 _ rfl
  have hu := h.upto (hi := m) (by omega)
  rw [← List.map_drop] at hf
  rw [← List.map_take] at hu
  have hc := h.cap
  go_enter Tryd.func17, Tryd.ntmps17
  go_wp2_with (first
    | (go_at_call 25; go_must (refine (within_any _ _ _).mono ?_); rintro e w1 ⟨rfl, rfl⟩)
    | (go_at_call 30; go_must (refine (inside_yes _ 1 8 _ _ _ (by go_simp) (by go_simp) (by omega)).mono ?_); rintro e w1 ⟨rfl, rfl⟩))
  go_region_with (first
    | (go_at_call 26; go_must (refine (number_any _ _ _ k _ _ (by first | exact ((hu.alloc hk _).alloc (by simp; omega) _).drew | exact ((hu.alloc hk _).alloc (by simp; omega) _).drew.below (hb1.mono (by simp; omega))) (by omega)).mono ?_); rintro e w1 ⟨rfl, rfl⟩)
    | (go_at_call 27; go_must (refine (own_any _ _ _ k _ _ _ (by exact ((hf.alloc hk _).alloc (by simp; omega) _).drew) (by simp; omega) (by omega) (by omega)).mono ?_); rintro e w1 ⟨A1, c1, rfl, hown1, hb1⟩))
  all_goals
    go_wp2
    go_ret3
    exact taken_yes l m w _ A1 _ c1 (hown1.mono (by simp; omega)) ((((Below.refl _ _).alloc (Nat.le_refl _) _).alloc (by simp) _).drew.trans (hb1.mono (by simp; omega))) HM.out
theorem take_any (A : Option Addr) (n c k : Nat) (l : List UInt8) (m : Int) (w : World) (h : Sl w k A n c l) (hk : k ≤ w.heap.size) (hn : n ≤ 1000000) :
    Calls Tryd.prog 17 #[.slice A n c, .int .i64 m] w (Taken l m w) := by
  have hl : n = l.length := by simpa using h.len
  by_cases hm : 1 ≤ m ∧ m ≤ 8 ∧ m ≤ (l.length : Int)
  · obtain ⟨m, rfl⟩ := Int.eq_ofNat_of_zero_le (show 0 ≤ m by omega)
    by_cases h8 : (n : Int) < 8
    · exact take_yes1 A n c k l m w h hk hn (by omega) (by omega) (by omega) h8
    · exact take_yes2 A n c k l m w h hk hn (by omega) (by omega) (by omega) (by omega)
  · have HM : Hid (¬ (1 ≤ m ∧ m ≤ 8 ∧ m ≤ (l.length : Int))) := hm
    rw [← hl] at hm
    clear hl
    go_enter Tryd.func17, Tryd.ntmps17
    by_cases h8 : (n : Int) < 8
    · go_wp2_with (first
        | (go_at_call 25; go_must (refine (within_any _ _ _).mono ?_); rintro e w1 ⟨rfl, rfl⟩)
        | (go_at_call 30; go_must (refine (inside_no _ 1 (n : Int) _ _ _ (by go_simp) (by go_simp) (by omega)).mono ?_); rintro e w1 ⟨rfl, rfl⟩))
      go_ret3
      exact taken_no l m w _ (((Below.refl _ _).alloc (Nat.le_refl _) _).alloc (by simp) _) HM.out
    · go_wp2_with (first
        | (go_at_call 25; go_must (refine (within_any _ _ _).mono ?_); rintro e w1 ⟨rfl, rfl⟩)
        | (go_at_call 30; go_must (refine (inside_no _ 1 8 _ _ _ (by go_simp) (by go_simp) (by omega)).mono ?_); rintro e w1 ⟨rfl, rfl⟩))
      go_ret3
      exact taken_no l m w _ (((Below.refl _ _).alloc (Nat.le_refl _) _).alloc (by simp) _) HM.out
theorem refTake_any (A : Option Addr) (n c : Nat) (l : List UInt8) (m : Int) (w : World) (h : Sl w w.heap.size A n c l) (hn : n ≤ 1000000) :
    Calls Tryd.prog 20 #[.slice A n c, .int .i64 m] w (Taken l m w) := by
  have hl := sl_len h
  have HL : Hid (n = l.length) := hl
  by_cases hm : 1 ≤ m ∧ m ≤ 8 ∧ m ≤ (n : Int)
  · have HM : Hid (1 ≤ m ∧ m ≤ 8 ∧ m ≤ (l.length : Int)) := by unfold Hid; omega
    clear hl
    obtain ⟨m, rfl⟩ := Int.eq_ofNat_of_zero_le (show 0 ≤ m by omega)
    have e1 : (1 : Int) ≤ m := hm.1
    have e2 : (m : Int) ≤ 8 := hm.2.1
    have e3 : (m : Int) ≤ n := hm.2.2
    clear hm
    have H := h.at_
    go_enter Tryd.func20, Tryd.ntmps20
    go_wp2
    go_loop [7, 8] (fun x i => ∃ j : Nat, j ≤ m ∧ i = .int .i64 j ∧ x = .int .u64 (num (l.take j) : Nat)) (fun _ i => m - (intOf i).toNat)
    case atStart => exact ⟨0, Nat.zero_le _, rfl, rfl⟩
    case round =>
      obtain ⟨j, hj, rfl, rfl⟩ := hrel
      by_cases hlt : j < m
      · obtain ⟨b, off, rfl, hb, hc⟩ := H (by omega)
        have hjl : j < l.length := by have := HL.out; omega
        have hjn : j < n := by omega
        have hcell : w.cell? ⟨b, off + j, none⟩ = some (.int .u8 ((l[j]).toNat : Nat)) := hc j _ (by simp [List.getElem?_eq_getElem hjl, Bv])
        have HS : Hid (num (l.take (j + 1)) = num (l.take j) * 256 + (l[j]).toNat) := num_take_succ l j hjl
        have hn7 : num (l.take j) < 72057594037927936 := num_take_lt l j 7 (by omega)
        have hu := (l[j]).toNat_lt
        clear hc H
        generalize num (l.take j) = x at *
        generalize l[j] = u at *
        clear hjl
        go_wp2
        go_round
        case rel => exact ⟨j + 1, by omega, by go_num, by rw [HS.out]; go_num⟩
        case measure => simp [intOf]; omega
      · obtain rfl : j = m := by omega
        go_wp2_with (go_at_call 29; go_must (refine (rest_made _ _ _ _ l _ _ h (by omega) hn).mono ?_); rintro e w1 ⟨A1, c1, rfl, hown1, hb1⟩)
        go_ret3
        exact taken_yes l j w _ A1 _ c1 (by simpa only [Int.toNat_natCast, List.length_drop] using hown1) hb1 HM.out
  · have HM : Hid (¬ (1 ≤ m ∧ m ≤ 8 ∧ m ≤ (l.length : Int))) := by unfold Hid; omega
    have e : m < 1 ∨ 8 < m ∨ (n : Int) < m := by omega
    clear hl hm
    by_cases e1 : m < 1
    · go_enter Tryd.func20, Tryd.ntmps20
      go_wp2
      go_ret3
      exact taken_no l m w _ (Below.refl _ _) HM.out
    · by_cases e2 : 8 < m
      · go_enter Tryd.func20, Tryd.ntmps20
        go_wp2
        go_ret3
        exact taken_no l m w _ (Below.refl _ _) HM.out
      · have e3 : (n : Int) < m := by omega
        go_enter Tryd.func20, Tryd.ntmps20
        go_wp2
        go_ret3
        exact taken_no l m w _ (Below.refl _ _) HM.out
end Go.Proofs.YtoepfdmloeiobaaDoor
