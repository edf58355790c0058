/- Contracts of crc.Seal, crc.Open and their references. -/
import Derived.Test.YtoepfdmloeiobaaDoorCrc
import Derived.BigQuiet
import Derived.Lib.SlBytesConst
import Derived.Lib.SliceRun
namespace Go.Proofs.YtoepfdmloeiobaaDoor
open Go.RowKit
set_option linter.unusedVariables false

theorem putF_seal (l : List UInt8) : putF l (rev4 (csum l)) 4 = sealF l := by rw [putF_yes _ _ _ (by decide)]; rfl
theorem seal_made (A : Option Addr) (n c k : Nat) (l : List UInt8) (w : World) (h : Sl w k A n c l) (hk : k ≤ w.heap.size) (hT : Tab w) (hn : n ≤ 1000000) :
    Calls Tryd.prog 15 #[.slice A n c] w (Made (sealF l) w) := by
  have HP : Hid (putF l (rev4 (csum l)) 4 = sealF l) := putF_seal l
  have hr := rev4_lt (csum l)
  have hr' : ((rev4 (csum l) : Nat) : Int) ≤ 4294967295 := by omega
  go_enter Tryd.func15, Tryd.ntmps15
  go_wp2_with (first
    | (go_at_call 18; go_must (refine (ending_any A n c k l w h hT).mono ?_); rintro e w1 ⟨rfl, rfl⟩)
    | (go_at_call 23; go_must (refine (put_made A n c k l _ 4 w h hk (by omega) hn).mono ?_); rintro e w1 ⟨A1, c1, rfl, o1, b1⟩))
  go_ret
  rw [HP.out] at *
  exact ⟨A1, c1, rfl, o1, b1⟩
theorem refSeal_made (A : Option Addr) (n c k : Nat) (l : List UInt8) (w : World) (h : Sl w k A n c l) (hk : k ≤ w.heap.size) (hn : n ≤ 1000000) :
    Calls Tryd.prog 16 #[.slice A n c] w (Made (sealF l) w) := by
  have HP : Hid (putF l (rev4 (csum l)) 4 = sealF l) := putF_seal l
  have hr := rev4_lt (csum l)
  have hc := csum_le l
  have hr' : ((rev4 (csum l) : Nat) : Int) ≤ 4294967295 := by omega
  go_enter Tryd.func16, Tryd.ntmps16
  go_wp2_with (first
    | (go_at_call 11; go_must (refine (refSum_any A n c k l w h).mono ?_); rintro e w1 ⟨rfl, rfl⟩)
    | (go_at_call 21; go_must (refine (turned_any (csum l) w (by omega)).mono ?_); rintro e w1 ⟨rfl, rfl⟩)
    | (go_at_call 24; go_must (refine (refPut_made A n c k l _ 4 w h hk (by omega) hn).mono ?_); rintro e w1 ⟨A1, c1, rfl, o1, b1⟩))
  go_ret
  rw [HP.out] at *
  exact ⟨A1, c1, rfl, o1, b1⟩

theorem clone_made (A : Option Addr) (n c k : Nat) (l : List UInt8) (w : World) (h : Sl w k A n c l) (hk : k ≤ w.heap.size) (hn : n ≤ 1000000) :
    Calls Tryd.prog 19 #[.slice A n c] w (Made l w) := by
  have HL := sl_len h
  cases A with
  | none =>
    have hl : l = [] := by
      rcases Nat.eq_zero_or_pos n with h0 | h0
      · exact List.eq_nil_of_length_eq_zero (by omega)
      · obtain ⟨_, _, e, _⟩ := h.at_ h0; cases e
    subst hl
    obtain rfl : n = 0 := HL
    have hnil := fun w' : World => Lib.run_eql_slice_nil (P := Tryd.prog) w' 23 5 none 0 c 0 0 Tryd.underlying23
    go_enter Tryd.func19, Tryd.ntmps19
    go_wp2
    go_ret
    exact ⟨none, 0, rfl, Own.nil _ _ _, Below.refl _ _⟩
  | some a =>
    clear HL
    have hnil := fun w' : World => Lib.run_eql_slice_nil (P := Tryd.prog) w' 23 5 (some a) n c 0 0 Tryd.underlying23
    go_enter Tryd.func19, Tryd.ntmps19
    go_wp2_with (at_builtin; go_must (refine wpList_app rfl _ _ 23 rfl Tryd.underlying23 infoU8 rfl rfl (Own.lit0 _ 5) rfl (h.alloc hk _) (Bv_one _) (by omega) (by decide) (by simp) ?_); intro A1 c1 w1 o1 g1)
    go_ret
    rw [Nat.zero_add, List.nil_append] at o1
    exact made_of o1 (((Below.refl _ _).alloc (Nat.le_refl _) _).grown g1 (by simp) (Own.lit0 _ 5).lt) rfl

/-- The error that Open tells. -/
def openE (l : List UInt8) : Int := if openB l = true then 0 else 20
theorem openE_yes {l : List UInt8} (h : openB l = true) : openE l = 0 := if_pos h
theorem openE_no {l : List UInt8} (h : openB l = false) : openE l = 20 := by simp [openE, h]
/-- Open, as both tell it. -/
def Opened (l : List UInt8) (w : World) (e : Ending) (w' : World) : Prop := ∃ A c, e = .returned (.tuple #[.slice A (openL l).length c, .int .i64 (openE l)]) ∧
  Own w' w.heap.size 5 A (openL l).length c ((openL l).map Bv) ∧ Below w.heap.size w w'
theorem opened_no (l : List UInt8) (w w' : World) (hb : Below w.heap.size w w') (h : openB l = false) : Opened l w (.returned (.tuple #[.slice none 0 0, .int .i64 20])) w' :=
  ⟨none, 0, by simp [openL, openE_no h, h], by simpa [openL, h] using Own.nil w' w.heap.size 5, hb⟩
theorem opened_yes (l : List UInt8) (w w' : World) (A : Option Addr) (n c : Nat) (ho : Own w' w.heap.size 5 A n c ((l.take (l.length - 4)).map Bv)) (hb : Below w.heap.size w w') (h : openB l = true) :
    Opened l w (.returned (.tuple #[.slice A n c, .int .i64 0])) w' := by
  obtain rfl : n = (l.take (l.length - 4)).length := by have := ho.1.symm; rwa [List.length_map, Nat.mul_one] at this
  exact ⟨A, c, by simp [openL, openE_yes h, h], by simpa [openL, h] using ho, hb⟩
theorem takeN_four (t : List UInt8) (h : t.length = 4) : takeN t 4 = num t := by
  have e : takeB t 4 = true := by simp [takeB, h]
  rw [takeN, if_pos e]
  rw [show (4 : Int).toNat = 4 from rfl, List.take_of_length_le (by omega)]
theorem openB_yes (l : List UInt8) (h : 4 ≤ l.length) (e : num (l.drop (l.length - 4)) = rev4 (csum (l.take (l.length - 4)))) : openB l = true := by simp [openB, h, e]
theorem openB_no (l : List UInt8) (e : ¬ num (l.drop (l.length - 4)) = rev4 (csum (l.take (l.length - 4)))) : openB l = false := by simp [openB, e]
theorem openB_short (l : List UInt8) (e : l.length < 4) : openB l = false := by simp [openB]; omega

theorem take_four (A : Option Addr) (c k : Nat) (t : List UInt8) (w : World) (h : Sl w k A 4 c t) (hk : k ≤ w.heap.size) :
    Calls Tryd.prog 17 #[.slice A 4 c, .int .i64 4] w fun e w' => ∃ A' n' c', e = .returned (.tuple #[.int .u64 (num t : Nat), .slice A' n' c', .bool true]) ∧ Below w.heap.size w w' :=
  (take_any A 4 c k t 4 w h hk (by decide)).mono fun e w' ⟨A', c', he, ho, hb⟩ => by
    have hl : t.length = 4 := (sl_len h).symm
    have e : takeB t 4 = true := by simp [takeB, hl]
    rw [takeN_four t hl, e] at he
    exact ⟨A', _, c', he, hb⟩
theorem refTake_four (A : Option Addr) (c : Nat) (t : List UInt8) (w : World) (h : Sl w w.heap.size A 4 c t) :
    Calls Tryd.prog 20 #[.slice A 4 c, .int .i64 4] w fun e w' => ∃ A' n' c', e = .returned (.tuple #[.int .u64 (num t : Nat), .slice A' n' c', .bool true]) ∧ Below w.heap.size w w' :=
  (refTake_any A 4 c t 4 w h (by decide)).mono fun e w' ⟨A', c', he, ho, hb⟩ => by
    have hl : t.length = 4 := (sl_len h).symm
    have e : takeB t 4 = true := by simp [takeB, hl]
    rw [takeN_four t hl, e] at he
    exact ⟨A', _, c', he, hb⟩

theorem open_any (A : Option Addr) (n c : Nat) (l : List UInt8) (w : World) (h : Sl w w.heap.size A n c l) (hT : Tab w) (hn : n ≤ 1000000) :
    Calls Tryd.prog 8 #[.slice A n c] w (Opened l w) := by
  have HL : Hid (n = l.length) := sl_len h
  by_cases h4 : n < 4
  · have HN : Hid (openB l = false) := openB_short l (by rw [← HL.out]; exact h4)
    have h4' : (n : Int) < 4 := by omega
    go_enter Tryd.func8, Tryd.ntmps8
    go_wp2
    go_ret2
    exact opened_no l w _ (Below.refl _ _) HN.out
  · have h4' : ¬ (n : Int) < 4 := by omega
    have hc := h.cap
    have hlo : ((n : Int) - 4) = ((n - 4 : Nat) : Int) := by omega
    obtain ⟨A2, hrun, hf⟩ := h.tail (lo := n - 4) (by omega) 23 5 Tryd.underlying23 elemBs sizeU8 .i64 _ hlo
    have hu := h.upto (hi := n - 4) (by omega)
    rw [← List.map_drop] at hf
    rw [← List.map_take] at hu
    clear hlo
    have e0 : 0 ≤ (n : Int) - 4 := by omega
    have e1 : (n : Int) - 4 ≤ (c : Int) := by omega
    have e2 : ((n : Int) - 4).toNat = n - 4 := by omega
    rw [show n - (n - 4) = 4 from by omega] at hrun hf
    have hl4 : 4 ≤ l.length := by rw [← HL.out]; omega
    have key : (num (l.drop (n - 4)) = rev4 (csum (l.take (n - 4))) → openB l = true) ∧ (¬ num (l.drop (n - 4)) = rev4 (csum (l.take (n - 4))) → openB l = false) := by
      rw [HL.out]; exact ⟨openB_yes l hl4, openB_no l⟩
    have hT : Hid (Tab w) := hT
    by_cases hpq : num (l.drop (n - 4)) = rev4 (csum (l.take (n - 4)))
    · have HO : Hid (openB l = true) := key.1 hpq
      have HPQ : Hid (num (l.drop (n - 4)) = rev4 (csum (l.take (n - 4)))) := hpq
      clear hpq key h
      go_enter Tryd.func8, Tryd.ntmps8
      go_wp2
      go_quiet (fail)
      have hb0 := dN (Below.refl w.heap.size w) nq
      have hf0 := hf.next hb0
      have hu0 := hu.next hb0
      have hT0 : Hid (Tab (w.drewN nq)) := hT.out.next hb0
      generalize w.drewN nq = w0 at *
      clear hf hu hT hrun
      go_wp2_with (first
        | (go_at_call 17; go_must (refine (take_four _ _ _ _ _ hf0 (Nat.le_refl _)).mono ?_); rintro e w1 ⟨A3, n3, c3, rfl, b1⟩)
        | (go_at_call 18; go_must (refine (ending_any _ _ _ _ _ _ (hu0.next b1) (hT0.out.next b1)).mono ?_); rintro e w2 ⟨rfl, rfl⟩; rw [HPQ.out])
        | (go_at_call 19; go_must (refine (clone_made _ _ _ _ _ _ (hu0.next b1) (Nat.le_refl _) (by omega)).mono ?_); rintro e w3 ⟨A4, c4, rfl, o4, b4⟩))
      go_ret2
      exact opened_yes l w _ A4 _ c4 (by rw [← HL.out]; exact (o4.mono (thn hb0 b1).size).cast_n (by rw [List.length_take, ← HL.out])) (thn (thn hb0 b1) b4) HO.out
    · have HO : Hid (openB l = false) := key.2 hpq
      have hpq' : ¬ ((num (l.drop (n - 4)) : Nat) : Int) = ((rev4 (csum (l.take (n - 4))) : Nat) : Int) := by omega
      clear hpq key h
      go_enter Tryd.func8, Tryd.ntmps8
      go_wp2
      go_quiet (fail)
      have hb0 := dN (Below.refl w.heap.size w) nq
      have hf0 := hf.next hb0
      have hu0 := hu.next hb0
      have hT0 : Hid (Tab (w.drewN nq)) := hT.out.next hb0
      generalize w.drewN nq = w0 at *
      clear hf hu hT hrun
      go_wp2_with (first
        | (go_at_call 17; go_must (refine (take_four _ _ _ _ _ hf0 (Nat.le_refl _)).mono ?_); rintro e w1 ⟨A3, n3, c3, rfl, b1⟩)
        | (go_at_call 18; go_must (refine (ending_any _ _ _ _ _ _ (hu0.next b1) (hT0.out.next b1)).mono ?_); rintro e w2 ⟨rfl, rfl⟩))
      go_ret2
      exact opened_no l w _ (thn hb0 b1) HO.out

theorem refOpen_any (A : Option Addr) (n c : Nat) (l : List UInt8) (w : World) (h : Sl w w.heap.size A n c l) (hn : n ≤ 1000000) :
    Calls Tryd.prog 9 #[.slice A n c] w (Opened l w) := by
  have HL : Hid (n = l.length) := sl_len h
  by_cases h4 : n < 4
  · have HN : Hid (openB l = false) := openB_short l (by rw [← HL.out]; exact h4)
    have h4' : (n : Int) - 4 < 0 := by omega
    go_enter Tryd.func9, Tryd.ntmps9
    go_wp2
    go_ret2
    exact opened_no l w _ (Below.refl _ _) HN.out
  · have h4' : ¬ (n : Int) - 4 < 0 := by omega
    have hc := h.cap
    have hlo : ((n : Int) - 4) = ((n - 4 : Nat) : Int) := by omega
    obtain ⟨A2, hrun, hf⟩ := h.tail (lo := n - 4) (by omega) 23 5 Tryd.underlying23 elemBs sizeU8 .i64 _ hlo
    have hu := h.upto (hi := n - 4) (by omega)
    rw [← List.map_drop] at hf
    rw [← List.map_take] at hu
    clear hlo
    have e0 : 0 ≤ (n : Int) - 4 := by omega
    have e1 : (n : Int) - 4 ≤ (c : Int) := by omega
    have e2 : ((n : Int) - 4).toNat = n - 4 := by omega
    rw [show n - (n - 4) = 4 from by omega] at hrun hf
    have hl4 : 4 ≤ l.length := by rw [← HL.out]; omega
    have key : (num (l.drop (n - 4)) = rev4 (csum (l.take (n - 4))) → openB l = true) ∧ (¬ num (l.drop (n - 4)) = rev4 (csum (l.take (n - 4))) → openB l = false) := by
      rw [HL.out]; exact ⟨openB_yes l hl4, openB_no l⟩
    have hcs := csum_le (l.take (n - 4))
    by_cases hpq : num (l.drop (n - 4)) = rev4 (csum (l.take (n - 4)))
    · have HO : Hid (openB l = true) := key.1 hpq
      have HPQ : Hid (num (l.drop (n - 4)) = rev4 (csum (l.take (n - 4)))) := hpq
      clear hpq key h
      go_enter Tryd.func9, Tryd.ntmps9
      go_wp2_with (first
        | (go_at_call 20; go_must (refine (refTake_four _ _ _ _ hf).mono ?_); rintro e w1 ⟨A3, n3, c3, rfl, b1⟩; rw [HPQ.out])
        | (go_at_call 11; go_must (refine (refSum_any _ _ _ _ _ _ (hu.next b1)).mono ?_); rintro e w2 ⟨rfl, rfl⟩)
        | (go_at_call 21; go_must (refine (turned_any _ _ (by omega)).mono ?_); rintro e w2 ⟨rfl, rfl⟩)
        | (at_builtin; go_must (refine wpList_app rfl _ _ 23 rfl Tryd.underlying23 infoU8 rfl rfl (Own.nil _ w1.heap.size _) rfl (hu.next b1) (Bv_one _) (by omega) (by decide) (Nat.le_refl _) ?_); intro A4 c4 w4 o4 g4))
      go_ret2
      rw [Nat.zero_add, List.nil_append] at o4
      exact opened_yes l w _ A4 _ c4 (by rw [← HL.out]; exact o4.mono b1.size) (thn b1 ((Below.refl _ _).grown g4 (Nat.le_refl _) (by simp [Value.ownBlock]))) HO.out
    · have HO : Hid (openB l = false) := key.2 hpq
      have hpq' : ¬ ((rev4 (csum (l.take (n - 4))) : Nat) : Int) = ((num (l.drop (n - 4)) : Nat) : Int) := by omega
      clear hpq key h
      go_enter Tryd.func9, Tryd.ntmps9
      go_wp2_with (first
        | (go_at_call 20; go_must (refine (refTake_four _ _ _ _ hf).mono ?_); rintro e w1 ⟨A3, n3, c3, rfl, b1⟩)
        | (go_at_call 11; go_must (refine (refSum_any _ _ _ _ _ _ (hu.next b1)).mono ?_); rintro e w2 ⟨rfl, rfl⟩)
        | (go_at_call 21; go_must (refine (turned_any _ _ (by omega)).mono ?_); rintro e w2 ⟨rfl, rfl⟩))
      go_ret2
      exact opened_no l w _ b1 HO.out

theorem same_eq (A : Option Addr) (n c k : Nat) (l : List UInt8) (A' : Option Addr) (n' c' k' : Nat) (l' : List UInt8) (w : World) (h : Sl w k A n c l) (h' : Sl w k' A' n' c' l') (he : l = l') :
    Calls Tryd.prog 14 #[.slice A n c, .slice A' n' c'] w fun e w' => e = .returned (.bool true) ∧ w = w' :=
  (same_any A n c k l A' n' c' k' l' w h h').mono fun e w' ⟨e1, e2⟩ => ⟨by rw [e1, he, beq_self_eq_true], e2⟩

section
variable {w : World} {cs : Array Value} {fr : Nat × Nat} {l : List UInt8}
theorem open_lit (n : Nat) (hm : l.length = n) (hn : n ≤ 1000) (hcs : cs.toList = l.map Bv) (hT : Tab w) (hb : openB l = false) :
    Calls Tryd.prog 8 #[.slice (some ⟨w.heap.size, 0, none⟩) n n] (w.alloc (.cells cs 5 fr)) fun e w' => ∃ A c, e = .returned (.tuple #[.slice A 0 c, .int .i64 20]) ∧ Below w.heap.size w w' :=
  (open_any _ n n l _ (Sl.lit w 5 fr hcs hm (by omega)) (hT.next (below_lit w _)) (by omega)).mono fun e w' ⟨A, c, he, _, h2⟩ =>
    ⟨A, c, by simpa [openL, openE_no hb, hb] using he, thn (below_lit w _) h2⟩
theorem sum_lit (n : Nat) (hm : l.length = n) (hn : n ≤ 1000) (hcs : cs.toList = l.map Bv) (hT : Tab w) :
    Calls Tryd.prog 10 #[.slice (some ⟨w.heap.size, 0, none⟩) n n] (w.alloc (.cells cs 5 fr)) fun e w' => e = .returned (.int .u32 (csum l : Nat)) ∧ Below w.heap.size w w' :=
  (sum_any _ n n _ l _ (Sl.lit w 5 fr hcs hm (by omega)) (hT.next (below_lit w _))).mono fun e w' ⟨he, h2⟩ => ⟨he, h2 ▸ below_lit w _⟩
theorem same_lit {A : Option Addr} {n c k : Nat} (h : Sl w k A n c l) (hk : k ≤ w.heap.size) (m : Nat) (hm : l.length = m) (hn : m ≤ 1000) (hcs : cs.toList = l.map Bv) :
    Calls Tryd.prog 14 #[.slice A n c, .slice (some ⟨w.heap.size, 0, none⟩) m m] (w.alloc (.cells cs 5 fr)) fun e w' => e = .returned (.bool true) ∧ Below w.heap.size w w' :=
  (same_any A n c _ l _ m m _ l _ (h.alloc hk _) (Sl.lit w 5 fr hcs hm (by omega))).mono fun e w' ⟨he, hw⟩ => ⟨by rw [he]; simp, hw ▸ below_lit w _⟩
end

theorem awake_any (w : World) (hT : Tab w) : Calls Tryd.prog 7 #[] w fun e w' => e = .returned (.bool true) ∧ Below w.heap.size w w' := by
  have kc := fun (w : World) (C : Array Value) (n c : Nat) => Lib.run_convert_bytes_const (P := Tryd.prog) w 23 5 C n c Tryd.underlying23 Tryd.underlying5
  have HT : Hid (Tab w) := hT
  clear hT
  go_enter Tryd.func7, Tryd.ntmps7
  go_wp2_with fail
  refine (open_lit (l := [1, 0, 0, 0]) 4 rfl (by decide) rfl HT.out (by decide)).mono ?_
  rintro e w1 ⟨A1, c1, rfl, b1⟩
  have hT1 : Hid (Tab w1) := HT.out.next b1
  go_wp2_with fail
  refine (open_lit (l := [1, 2, 3]) 3 rfl (by decide) rfl hT1.out (by decide)).mono ?_
  rintro e w2 ⟨A2, c2, rfl, b2⟩
  have hT2 : Hid (Tab w2) := hT1.out.next b2
  go_wp2_with fail
  refine (sum_any none 0 0 0 [] w2 (Sv.nil rfl) hT2.out).mono ?_
  rintro e w3 ⟨rfl, rfl⟩
  rw [csum_nil]
  go_wp2_with fail
  refine (sum_lit (l := [49, 50, 51, 52, 53, 54, 55, 56, 57]) 9 rfl (by decide) rfl hT2.out).mono ?_
  rintro e w3 ⟨rfl, b3⟩
  rw [show csum [49, 50, 51, 52, 53, 54, 55, 56, 57] = 3808858755 from by decide +kernel]
  have hT3 : Hid (Tab w3) := hT2.out.next b3
  go_wp2_with fail
  refine (seal_made none 0 0 0 [] w3 (Sv.nil rfl) (Nat.zero_le _) hT3.out (by decide)).mono ?_
  rintro e w4 ⟨A4, c4, rfl, o4, b4⟩
  rw [show sealF [] = [0, 0, 0, 0] from by decide] at *
  have s4 := o4.sv
  clear o4
  go_wp2_with fail
  refine (same_lit s4 (Nat.le_refl _) 4 rfl (by decide) rfl).mono ?_
  rintro e w5 ⟨rfl, b5⟩
  have hB := thn (thn (thn (thn b1 b2) b3) b4) b5
  clear b1 b2 b3 b4 b5 s4
  go_wp2_with fail
  go_ret
  exact ⟨rfl, hB⟩
end Go.Proofs.YtoepfdmloeiobaaDoor
