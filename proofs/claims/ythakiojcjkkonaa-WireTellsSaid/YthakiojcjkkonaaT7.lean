import Derived.Test.YthakiojcjkkonaaT6
import Derived.Lib.SlBytesConst
namespace Go.Proofs.Ythakiojcjkkonaa
open Go.RowKit
set_option linter.unusedVariables false
section
variable {w : World} {fr : Nat × Nat} {cs : Array Value} {A : Option Addr} {n c : Nat} {l : List UInt8}
/-- Same, of what is held against a slice written out right there. -/
theorem same_lit {k : Nat} (h : Sl w k A n c l) (hk : k ≤ w.heap.size) (m : Nat) (hm : l.length = m) (hn : m ≤ 1000000) (hcs : cs.toList = l.map Bv) :
    Calls Try.prog 13 #[.slice A n c, .slice (some ⟨w.heap.size, 0, none⟩) m m] (w.alloc (.cells cs 5 fr)) fun e w' => e = .returned (.bool true) ∧ Below w.heap.size w w' :=
  (same_any A n c _ l _ m m _ l _ (h.alloc hk _) (Sl.lit w 5 fr hcs hm hn)).mono fun e w' ⟨he, hw⟩ => ⟨by rw [he]; simp, hw ▸ below_lit w _⟩
theorem put_lit (n : Nat) (hm : l.length = n) (hn : n ≤ 1000000) (hcs : cs.toList = l.map Bv) (x : Nat) (m : Int) (hx : x ≤ 18446744073709551615) :
    Calls Try.prog 14 #[.slice (some ⟨w.heap.size, 0, none⟩) n n, .int .u64 x, .int .i64 m] (w.alloc (.cells cs 5 fr)) (fun e w' => ∃ A c, e = .returned (.slice A (putF l x m).length c) ∧ Sl w' w'.heap.size A (putF l x m).length c (putF l x m) ∧ Below w.heap.size w w') :=
  (put_made _ n n _ l x m _ (Sl.lit w 5 fr hcs hm hn) (Nat.le_refl _) hx hn).mono fun e w' ⟨A, c, he, ho, hb⟩ => ⟨A, c, he, ho.sv, thn (below_lit w _) hb⟩
theorem take_lit (n : Nat) (hm : l.length = n) (hn : n ≤ 1000000) (hcs : cs.toList = l.map Bv) (m : Int) :
    Calls Try.prog 9 #[.slice (some ⟨w.heap.size, 0, none⟩) n n, .int .i64 m] (w.alloc (.cells cs 5 fr)) (fun e w' => ∃ A c, e = .returned (.tuple #[.int .u64 (takeN l m : Nat), .slice A (takeR l m).length c, .bool (takeB l m)]) ∧
      Sl w' w'.heap.size A (takeR l m).length c (takeR l m) ∧ Below w.heap.size w w') :=
  (take_any _ n n _ l m _ (Sl.lit w 5 fr hcs hm hn) (Nat.le_refl _) hn).mono fun e w' ⟨A, c, he, ho, hb⟩ => ⟨A, c, he, ho.sv, thn (below_lit w _) hb⟩
theorem text_lit (n : Nat) (hm : l.length = n) (hn : n ≤ 1000000) (hcs : cs.toList = l.map Bv) (m : Int) :
    Calls Try.prog 11 #[.slice (some ⟨w.heap.size, 0, none⟩) n n, .int .i64 m] (w.alloc (.cells cs 5 fr)) (fun e w' => ∃ A c A' c', e = .returned (.tuple #[.slice A (textT l m).length c, .slice A' (textR l m).length c', .bool (textB l m)]) ∧
      Sl w' w'.heap.size A (textT l m).length c (textT l m) ∧ Sl w' w'.heap.size A' (textR l m).length c' (textR l m) ∧ Below w.heap.size w w') :=
  (text_any _ n n l m _ (Sl.lit w 5 fr hcs hm hn) hn).mono fun e w' ⟨A, c, A', c', he, ho, ho', _, hb⟩ => ⟨A, c, A', c', he, ho.sv, ho'.sv, thn (below_lit w _) hb⟩
theorem putText_lit {k : Nat} (h : Sl w k A n c l) (hk : k ≤ w.heap.size) (hl : n ≤ 1000000) (m : Nat) {t : List UInt8} (hm : t.length = m) (hn : m ≤ 1000000) (hcs : cs.toList = t.map Bv) :
    Calls Try.prog 16 #[.slice A n c, .slice (some ⟨w.heap.size, 0, none⟩) m m] (w.alloc (.cells cs 5 fr)) (fun e w' => ∃ A c, e = .returned (.slice A (putTextF l t).length c) ∧ Sl w' w'.heap.size A (putTextF l t).length c (putTextF l t) ∧ Below w.heap.size w w') :=
  (putText_made _ _ _ l _ m m t _ (((h.alloc hk _)).more (by simp; omega)) (Sl.lit w 5 fr hcs hm hn) hl hn).mono fun e w' ⟨A, c, he, ho, hb⟩ => ⟨A, c, he, ho.sv, thn (below_lit w _) hb⟩
end

theorem awake_any (w : World) : Calls Try.prog 8 #[] w fun e w' => e = .returned (.bool true) ∧ Below w.heap.size w w' := by
  have kc := fun (w : World) (C : Array Value) (n c : Nat) => Lib.run_convert_bytes_const (P := Try.prog) w 22 5 C n c Try.underlying22 Try.underlying5
  go_enter Try.func8, Try.ntmps8
  go_wp2_with fail
  refine (take_lit (l := [1, 2, 3]) 3 rfl (by decide) rfl 2).mono ?_
  rintro e w1 ⟨A1, c1, rfl, s1, b1⟩
  rw [show takeN [1, 2, 3] 2 = 258 from by decide, show takeR [1, 2, 3] 2 = [3] from by decide, show takeB [1, 2, 3] 2 = true from by decide] at *
  go_wp2_with fail
  refine (take_lit (l := [1]) 1 rfl (by decide) rfl 2).mono ?_
  rintro e w2 ⟨A2, c2, rfl, s2, b2⟩
  rw [show takeN [1] 2 = 0 from by decide, show takeR [1] 2 = [] from by decide, show takeB [1] 2 = false from by decide] at *
  go_wp2_with fail
  refine (text_lit (l := [0, 2, 97, 98, 9]) 5 rfl (by decide) rfl 2).mono ?_
  rintro e w3 ⟨A3, c3, A4, c4, rfl, s3, s4, b3⟩
  rw [show textT [0, 2, 97, 98, 9] 2 = [97, 98] from by decide, show textR [0, 2, 97, 98, 9] 2 = [9] from by decide, show textB [0, 2, 97, 98, 9] 2 = true from by decide] at *
  go_wp2_with fail
  refine (text_lit (l := [0, 2, 97, 98, 9]) 5 rfl (by decide) rfl 1).mono ?_
  rintro e w4 ⟨A5, c5, A6, c6, rfl, s5, s6, b4⟩
  rw [show textT [0, 2, 97, 98, 9] 1 = [] from by decide, show textR [0, 2, 97, 98, 9] 1 = [] from by decide, show textB [0, 2, 97, 98, 9] 1 = false from by decide] at *
  clear s5 s6 s2
  replace s1 := ((s1.next b2).next b3).next b4
  replace s3 := s3.next b4
  replace s4 := s4.next b4
  have hB := thn (thn (thn b1 b2) b3) b4
  clear b1 b2 b3 b4
  go_wp2_with fail
  refine (put_made none 0 0 w4.heap.size [] 258 2 w4 (Sv.nil rfl) (Nat.le_refl _) (by decide) (by decide)).mono ?_
  rintro e w5 ⟨A7, c7, rfl, o7, b5⟩
  rw [show putF [] 258 2 = [1, 2] from by decide] at *
  go_wp2_with fail
  refine (same_lit o7.sv (Nat.le_refl _) 2 rfl (by decide) rfl).mono ?_
  rintro e w6 ⟨rfl, b6⟩
  go_wp2_with fail
  refine (put_made none 0 0 w6.heap.size [] 258 1 w6 (Sv.nil rfl) (Nat.le_refl _) (by decide) (by decide)).mono ?_
  rintro e w7 ⟨A8, c8, rfl, o8, b7⟩
  rw [show putF [] 258 1 = [2] from by decide] at *
  go_wp2_with fail
  refine (same_lit o8.sv (Nat.le_refl _) 1 rfl (by decide) rfl).mono ?_
  rintro e w8 ⟨rfl, b8⟩
  go_wp2_with fail
  refine (put_lit (l := [7]) 1 rfl (by decide) rfl 1 9 (by decide)).mono ?_
  rintro e w9 ⟨A9, c9, rfl, s9, b9⟩
  rw [show putF [7] 1 9 = [7] from by decide] at *
  go_wp2_with fail
  refine (same_lit s9 (Nat.le_refl _) 1 rfl (by decide) rfl).mono ?_
  rintro e w10 ⟨rfl, b10⟩
  replace hB := thn (thn (thn (thn (thn (thn hB b5) b6) b7) b8) b9) b10
  replace s1 := (((((s1.next b5).next b6).next b7).next b8).next b9).next b10
  replace s3 := (((((s3.next b5).next b6).next b7).next b8).next b9).next b10
  replace s4 := (((((s4.next b5).next b6).next b7).next b8).next b9).next b10
  clear b5 b6 b7 b8 b9 b10 o7 o8 s9
  go_wp2_with fail
  refine (same_lit s1 (Nat.le_refl _) 1 rfl (by decide) rfl).mono ?_
  rintro e w11 ⟨rfl, b11⟩
  go_wp2_with fail
  refine (putText_lit (l := []) (Sv.nil (k := w11.heap.size) rfl) (Nat.le_refl _) (by decide) 2 (t := [97, 98]) rfl (by decide) rfl).mono ?_
  rintro e w12 ⟨A12, c12, rfl, s12, b12⟩
  rw [show putTextF [] [97, 98] = [0, 2, 97, 98] from by decide] at *
  go_wp2_with fail
  refine (same_lit s12 (Nat.le_refl _) 4 rfl (by decide) rfl).mono ?_
  rintro e w13 ⟨rfl, b13⟩
  replace s3 := ((s3.next b11).next b12).next b13
  replace s4 := ((s4.next b11).next b12).next b13
  replace hB := thn (thn (thn hB b11) b12) b13
  clear b11 b12 b13 s1 s12
  go_wp2_with fail
  refine (same_lit s3 (Nat.le_refl _) 2 rfl (by decide) rfl).mono ?_
  rintro e w14 ⟨rfl, b14⟩
  go_wp2_with fail
  refine (same_lit (s4.next b14) (Nat.le_refl _) 1 rfl (by decide) rfl).mono ?_
  rintro e w15 ⟨rfl, b15⟩
  replace hB := thn (thn hB b14) b15
  clear b14 b15 s3 s4
  go_wp2_with (first
    | (go_at_call 18; go_must (refine (unsigned_any _ _ (by decide) (by decide)).mono ?_); rintro e w' ⟨rfl, rfl⟩)
    | (go_at_call 20; go_must (refine (signed_any _ _ (by decide) (by decide)).mono ?_); rintro e w' ⟨rfl, rfl⟩))
  go_ret
  exact ⟨rfl, hB⟩
end Go.Proofs.Ythakiojcjkkonaa
