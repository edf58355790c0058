/- Layer 7: IdentSets. -/
import Derived.Test.YtdpcknfplognmaaIm
import Derived.Test.YtdpcknfplognmaaAy
namespace Go.Proofs.Ytdpcknfplognmaa
open Go.RowKit
set_option linter.unusedVariables false
theorem neq_bool (a b : Bool) (w : World) : (binOp .neq 4 (.bool a) (.bool b)).run Try.prog w = .ok (.bool (!(a == b))) w := by
  cases a <;> cases b <;> simp [go_sem]
abbrev tyO (n0 : Nat) (xs : List Id3) (n : Nat) : Tyo := tyOws n0 25 3 (idl xs) n
theorem putL_length (l : List Id3) (x : Id3) : (putL l x).length ≤ l.length + 1 := by
  unfold putL
  split
  · omega
  · rw [insL_at]; simp; omega
theorem lit_near {o : Obj} (w : World) (g : Nat) (h : (some w.heap.size : Option Nat) = some g) : w.heap.size ≤ g ∧ g < (w.alloc o).heap.size := by
  injection h with h; subst h; exact ⟨Nat.le_refl _, by simp⟩
set_option maxRecDepth 100000 in
set_option maxHeartbeats 20000000 in
theorem isets_walk (A : Option Addr) (n c : Nat) (l : List Id3) (turn : Int) (x : Id3) (w : World) (ht : 0 ≤ turn ∧ turn ≤ 255) (hs : Sd w w.heap.size A n c l) :
    Calls Try.prog 4 #[.slice A n c, .int .u8 turn, (.agg #[.int .u8 x.1, .int .u16 x.2.1, .int .u32 x.2.2])] w fun e w' => e = .returned (.bool true) ∧ Below w.heap.size w w' := by
  obtain ⟨t0, t1⟩ := ht
  have HL : Hid (n = l.length) := sd_len hs
  have hmx := hs.max
  have hcp := hs.cap
  unfold maxLen at hmx
  have B := Lib.hid (Below.refl w.heap.size w)
  have SL := Lib.hid hs
  clear hs
  by_cases hn : n ≤ 100
  rotate_left
  · have i0 : (100 : Int) < (n : Int) := by omega
    clear hn
    go_enter Try.func4, Try.ntmps4
    go_upto_region 1 with fail
    have hbl := below_lit w (.cells #[.int .u8 x.1, .int .u16 x.2.1, .int .u32 x.2.2] 25)
    replace SL := Lib.hid (SL.out.next hbl)
    replace B := Lib.hid (thn B.out hbl)
    clear hbl
    have KX : Hid (IdBlk (w.alloc (.cells #[.int .u8 x.1, .int .u16 x.2.1, .int .u32 x.2.2] 25)) w.heap.size x) := IdBlk.new w x
    generalize w.alloc (.cells #[.int .u8 x.1, .int .u16 x.2.1, .int .u32 x.2.2] 25) = w1 at *
    obtain ⟨gx, hgx⟩ : ∃ g, w.heap.size = g := ⟨_, rfl⟩
    rw [hgx] at KX ⊢
    clear hgx
    go_wp2_with fail
    have hc := awake_any w1
    refine hc.mono ?_
    clear hc
    rintro e w2 ⟨rfl, b5⟩
    replace SL := Lib.hid (SL.out.next b5)
    replace KX := Lib.hid (KX.out.next b5)
    replace B := Lib.hid (thn B.out b5)
    clear b5
    go_wp2
    go_ret
    exact ⟨rfl, B.out⟩
  have i0 : (n : Int) ≤ 100 := by omega
  have hz0 : (0 : Int) ≤ (n : Int) := by omega
  have hn8 : n ≤ 1000000 := by omega
  obtain ⟨K, hK, hK0, hK1⟩ : ∃ K : Int, Int.tmod turn ((n : Int) + 1) = K ∧ 0 ≤ K ∧ K ≤ n := ⟨_, rfl, Int.tmod_nonneg _ t0, by have := Int.tmod_lt_of_pos turn (b := (n : Int) + 1) (by omega); omega⟩
  obtain ⟨k, rfl⟩ := Int.eq_ofNat_of_zero_le hK0
  have hkn : k ≤ n := by omega
  have HM2 := Lib.hid (made_turn l k)
  have HMl : Hid ((madeL l).length ≤ 100) := by have := madeL_length l; have := HL.out; unfold Hid; omega
  have HMm := Lib.hid (fun (y : Id3) => mem_made (l := l) (y := y))
  have HMr := Lib.hid (rise_made l)
  obtain ⟨ml, HMe⟩ : ∃ q, Hid (madeL l = q) := ⟨_, rfl⟩
  rw [HMe.out] at HM2 HMl HMm HMr
  go_enter Try.func4, Try.ntmps4
  go_upto_region 1 with fail
  have hbl := below_lit w (.cells #[.int .u8 x.1, .int .u16 x.2.1, .int .u32 x.2.2] 25)
  replace SL := Lib.hid (SL.out.next hbl)
  replace B := Lib.hid (thn B.out hbl)
  clear hbl
  have KX : Hid (IdBlk (w.alloc (.cells #[.int .u8 x.1, .int .u16 x.2.1, .int .u32 x.2.2] 25)) w.heap.size x) := IdBlk.new w x
  generalize w.alloc (.cells #[.int .u8 x.1, .int .u16 x.2.1, .int .u32 x.2.2] 25) = w1 at *
  obtain ⟨gx, hgx⟩ : ∃ g, w.heap.size = g := ⟨_, rfl⟩
  rw [hgx] at KX ⊢
  clear hgx
  have hup := fun w' : World => run_upto (P := Try.prog) (w := w') (A := A) (n := n) (c := c) (hi := k) 26 25 Try.underlying26 rfl 3 (fun w' => Try.sizeOf25 w') .i64 (k : Int) rfl (by omega)
  obtain ⟨A2, htl, s2⟩ := SL.out.tail (lo := k) (by omega) 26 25 Try.underlying26 rfl (fun w' => Try.sizeOf25 w') .i64 (k : Int) rfl
  rw [idl_drop] at s2
  have S1 := Lib.hid (sd_upto SL.out hkn)
  have S2 := Lib.hid s2
  clear s2
  go_wp2
  refine wp_region_own 14 [(25, .val (.slice A n c)), (26, tyO w1.heap.size ml ml.length), (27, tyO w1.heap.size [] 0), (28, .val (.slice A n c)), (29, .val (.int .i64 (k : Int))), (30, .val (.slice A2 (n - k) (c - k))), (31, tyO w1.heap.size (l.drop k) (n - k)), (32, .val (.slice A n c)), (33, .val (.int .i64 (k : Int))), (34, .val (.slice A k c)), (35, tyO w1.heap.size (l.drop k ++ l.take k) n), (36, tyO w1.heap.size ml ml.length), (8, tyO w1.heap.size ml ml.length), (9, tyO w1.heap.size ml ml.length)]
    [[], [], [], [], [], [], [27], [], [], [], [31], [], [26], [36]] [[], [25], [], [], [], [28, 29], [27, 30], [], [], [32, 33], [31, 34], [35], [26], [36]] (by kernel_rfl) (by kernel_rfl) (by kernel_rfl) ?_ ?_
  rotate_left
  · intro w5 af hb hB
    obtain ⟨A8, c8, h8, o8⟩ : ∃ A c, af.tmps.getD 8 undef = .slice A ml.length c ∧ Ows w5 w1.heap.size 25 3 A ml.length c (idl ml) := hB.new 8 (of_decide_eq_true (by kernel_rfl)) (of_decide_eq_true (by kernel_rfl))
    obtain ⟨A9, c9, h9, o9⟩ : ∃ A c, af.tmps.getD 9 undef = .slice A ml.length c ∧ Ows w5 w1.heap.size 25 3 A ml.length c (idl ml) := hB.new 9 (of_decide_eq_true (by kernel_rfl)) (of_decide_eq_true (by kernel_rfl))
    have ef := behindO_ds (ds := [25, 26, 27, 28, 29, 30, 31, 32, 33, 34, 35, 36, 8, 9]) hB (by kernel_rfl)
    clear hB
    rw [ef]
    simp only [fill, h8, h9]
    generalize af.tmps.getD 25 undef = y25
    generalize af.tmps.getD 26 undef = y26
    generalize af.tmps.getD 27 undef = y27
    generalize af.tmps.getD 28 undef = y28
    generalize af.tmps.getD 29 undef = y29
    generalize af.tmps.getD 30 undef = y30
    generalize af.tmps.getD 31 undef = y31
    generalize af.tmps.getD 32 undef = y32
    generalize af.tmps.getD 33 undef = y33
    generalize af.tmps.getD 34 undef = y34
    generalize af.tmps.getD 35 undef = y35
    generalize af.tmps.getD 36 undef = y36
    clear ef h8 h9
    simp only [List.drop_succ_cons, List.drop_zero, put_lit, List.set_cons_succ, List.set_cons_zero]
    have SA := Lib.hid (Sn.of_own o8)
    have SB := Lib.hid (Sn.of_own o9)
    replace SL := Lib.hid (SL.out.next hb)
    replace KX := Lib.hid (KX.out.next hb)
    replace B := Lib.hid (thn B.out hb)
    clear o8 o9 hb S1 S2 htl hup HM2
    have HRp := Lib.hid (rise_putL (x := x) HMr.out)
    have HRd := Lib.hid (rise_dropL (x := x) HMr.out)
    have HPl : Hid ((putL ml x).length ≤ 101) := Nat.le_trans (putL_length ml x) (by have := HMl.out; omega)
    have HDl : Hid ((dropL ml x).length ≤ 100) := by have := HMl.out; have h2 : (dropL ml x).length ≤ ml.length := List.length_filter_le _ _; unfold Hid; omega
    have HPx : Hid (x ∈ putL ml x) := mem_putL.2 (.inl rfl)
    have HDx : Hid (x ∉ dropL ml x) := fun h => (mem_dropL.1 h).2 rfl
    have HPP := Lib.hid (put_again (a := ml) (x := x))
    have HDD := Lib.hid (drop_again (a := ml) (x := x))
    have HDP := Lib.hid (drop_put (a := ml) (x := x))
    have HPm := Lib.hid (fun (y : Id3) => mem_putL (l := ml) (x := x) (y := y))
    have HDm := Lib.hid (fun (y : Id3) => mem_dropL (l := ml) (x := x) (y := y))
    have HPe : Hid (∃ q, putL ml x = q) := ⟨_, rfl⟩
    obtain ⟨pl, HP⟩ : ∃ q, Hid (putL ml x = q) := ⟨_, rfl⟩
    obtain ⟨dl, HD⟩ : ∃ q, Hid (dropL ml x = q) := ⟨_, rfl⟩
    clear HPe
    rw [HP.out] at HRp HPl HPx HPP HDP HPm
    rw [HD.out] at HRd HDl HDx HDD HDP HDm
    have hml : ml.length ≤ 1000000 := by have := HMl.out; omega
    have hpl : pl.length ≤ 1000000 := by have := HPl.out; omega
    have hdl : dl.length ≤ 1000000 := by have := HDl.out; omega
    go_wp2_with fail
    have hc := rising_any A8 ml.length c8 ml w5 SA.out
    rw [decide_eq_true HMr.out] at hc
    refine hc.mono ?_
    clear hc
    rintro e w6 ⟨rfl, b5⟩
    replace SL := Lib.hid (SL.out.next b5)
    replace KX := Lib.hid (KX.out.next b5)
    replace SA := Lib.hid (SA.out.next b5)
    replace SB := Lib.hid (SB.out.next b5)
    replace B := Lib.hid (thn B.out b5)
    clear b5
    go_wp2_with fail
    have hc := same_any A8 ml.length c8 ml A9 ml.length c9 ml w6 SA.out SB.out
    rw [decide_eq_true rfl] at hc
    refine hc.mono ?_
    clear hc
    rintro e w7 ⟨rfl, b5⟩
    replace SL := Lib.hid (SL.out.next b5)
    replace KX := Lib.hid (KX.out.next b5)
    replace SA := Lib.hid (SA.out.next b5)
    replace SB := Lib.hid (SB.out.next b5)
    replace B := Lib.hid (thn B.out b5)
    clear b5
    clear SB
    go_upto_region 8 with (at_builtin; go_must (refine wpList_appsx rfl _ _ 26 rfl Try.underlying26 infoId rfl (by decide) rfl (Ows.lit0 _ 25 3) rfl (SA.out.next (below_lit _ _)) (idl_one _) (by omega) (by decide) (by simp) ?_); intro AW cW w8 o5 g5)
    have b5 : Below w7.heap.size w7 w8 := ((Below.refl _ _).alloc (Nat.le_refl _) _).grown g5 (by simp) (Ows.lit0 _ 25 3).lt
    rw [List.nil_append] at o5
    simp only [Nat.zero_add] at o5 ⊢
    have SW := Lib.hid (Sn.of_own o5)
    clear o5 g5
    replace SL := Lib.hid (SL.out.next b5)
    replace KX := Lib.hid (KX.out.next b5)
    replace SA := Lib.hid (SA.out.next b5)
    replace B := Lib.hid (thn B.out b5)
    clear b5
    refine wp_region_typed 8 [(49, .val (.slice A8 ml.length c8)), (50, .val (.agg #[.int .u8 x.1, .int .u16 x.2.1, .int .u32 x.2.2])), (51, tyD pl pl.length), (52, .val (.slice A8 ml.length c8)), (53, .val (.agg #[.int .u8 x.1, .int .u16 x.2.1, .int .u32 x.2.2])), (54, tyD dl dl.length), (11, tyD pl pl.length), (12, tyD dl dl.length)]
      [[], [], [49, 50], [], [], [52, 53], [51], [54]] (by kernel_rfl) (by kernel_rfl) ?_ ?_
    rotate_left
    · intro w9 hb
      simp only [List.take_succ_cons, List.take_zero, List.drop_succ_cons, List.drop_zero]
      refine over_ds (ds := [49, 50, 51, 52, 53, 54, 11, 12]) (by kernel_rfl) ?_
      refine over_some (ds1 := [49, 50]) (ds2 := [51, 52, 53, 54, 11, 12]) [(.slice A8 ml.length c8), (.agg #[.int .u8 x.1, .int .u16 x.2.1, .int .u32 x.2.2])] (by kernel_rfl) ?_
      refine over_pred rfl ?_
      rintro _ ⟨Az51, cz51, rfl, sz51⟩
      refine over_some (ds1 := [52, 53]) (ds2 := [54, 11, 12]) [(.slice A8 ml.length c8), (.agg #[.int .u8 x.1, .int .u16 x.2.1, .int .u32 x.2.2])] (by kernel_rfl) ?_
      refine over_pred rfl ?_
      rintro _ ⟨Az54, cz54, rfl, sz54⟩
      refine over_pred rfl ?_
      rintro _ ⟨Az11, cz11, rfl, sz11⟩
      refine over_pred rfl ?_
      rintro _ ⟨Az12, cz12, rfl, sz12⟩
      refine over_nil ?_
      simp only [putAll, put_lit, List.set_cons_succ, List.set_cons_zero]
      have SP := Lib.hid sz11
      have SD := Lib.hid sz12
      replace SL := Lib.hid (SL.out.next hb)
      replace KX := Lib.hid (KX.out.next hb)
      replace SA := Lib.hid (SA.out.next hb)
      replace SW := Lib.hid (SW.out.next hb)
      replace B := Lib.hid (thn B.out hb)
      clear sz51 sz54 sz11 sz12 hb
      go_wp2_with fail
      have hc := rising_any Az11 pl.length cz11 pl w9 SP.out
      rw [decide_eq_true HRp.out] at hc
      refine hc.mono ?_
      clear hc
      rintro e w21 ⟨rfl, b5⟩
      replace SL := Lib.hid (SL.out.next b5)
      replace KX := Lib.hid (KX.out.next b5)
      replace SA := Lib.hid (SA.out.next b5)
      replace SW := Lib.hid (SW.out.next b5)
      replace SP := Lib.hid (SP.out.next b5)
      replace SD := Lib.hid (SD.out.next b5)
      replace B := Lib.hid (thn B.out b5)
      clear b5
      go_wp2_with fail
      have hc := rising_any Az12 dl.length cz12 dl w21 SD.out
      rw [decide_eq_true HRd.out] at hc
      refine hc.mono ?_
      clear hc
      rintro e w22 ⟨rfl, b5⟩
      replace SL := Lib.hid (SL.out.next b5)
      replace KX := Lib.hid (KX.out.next b5)
      replace SA := Lib.hid (SA.out.next b5)
      replace SW := Lib.hid (SW.out.next b5)
      replace SP := Lib.hid (SP.out.next b5)
      replace SD := Lib.hid (SD.out.next b5)
      replace B := Lib.hid (thn B.out b5)
      clear b5
      obtain ⟨pKX, qKX, rKX⟩ := KX.out.cells
      go_wp2_with fail
      have hc := has_any Az11 pl.length cz11 pl x w22 SP.out
      rw [decide_eq_true HPx.out] at hc
      refine hc.mono ?_
      clear hc
      clear pKX qKX rKX
      rintro e w23 ⟨rfl, b5⟩
      replace SL := Lib.hid (SL.out.next b5)
      replace KX := Lib.hid (KX.out.next b5)
      replace SA := Lib.hid (SA.out.next b5)
      replace SW := Lib.hid (SW.out.next b5)
      replace SP := Lib.hid (SP.out.next b5)
      replace SD := Lib.hid (SD.out.next b5)
      replace B := Lib.hid (thn B.out b5)
      clear b5
      obtain ⟨pKX, qKX, rKX⟩ := KX.out.cells
      go_wp2_with fail
      have hc := has_any Az12 dl.length cz12 dl x w23 SD.out
      rw [decide_eq_false HDx.out] at hc
      refine hc.mono ?_
      clear hc
      clear pKX qKX rKX
      rintro e w24 ⟨rfl, b5⟩
      replace SL := Lib.hid (SL.out.next b5)
      replace KX := Lib.hid (KX.out.next b5)
      replace SA := Lib.hid (SA.out.next b5)
      replace SW := Lib.hid (SW.out.next b5)
      replace SP := Lib.hid (SP.out.next b5)
      replace SD := Lib.hid (SD.out.next b5)
      replace B := Lib.hid (thn B.out b5)
      clear b5
      go_wp2_with fail
      have hc := same_any A8 ml.length c8 ml AW ml.length cW ml w24 SA.out SW.out
      rw [decide_eq_true rfl] at hc
      refine hc.mono ?_
      clear hc
      rintro e w25 ⟨rfl, b5⟩
      replace SL := Lib.hid (SL.out.next b5)
      replace KX := Lib.hid (KX.out.next b5)
      replace SA := Lib.hid (SA.out.next b5)
      replace SW := Lib.hid (SW.out.next b5)
      replace SP := Lib.hid (SP.out.next b5)
      replace SD := Lib.hid (SD.out.next b5)
      replace B := Lib.hid (thn B.out b5)
      clear b5
      clear SW
      obtain ⟨pKX, qKX, rKX⟩ := KX.out.cells
      go_wp2_with fail
      have hc := put_any Az11 pl.length cz11 pl x w25 SP.out hpl
      rw [HPP.out] at hc
      refine hc.mono ?_
      clear hc
      clear pKX qKX rKX
      rintro e w26 ⟨AE, cE, rfl, sE, b5⟩
      have SE := Lib.hid sE
      clear sE
      replace SL := Lib.hid (SL.out.next b5)
      replace KX := Lib.hid (KX.out.next b5)
      replace SA := Lib.hid (SA.out.next b5)
      replace SP := Lib.hid (SP.out.next b5)
      replace SD := Lib.hid (SD.out.next b5)
      replace B := Lib.hid (thn B.out b5)
      clear b5
      go_wp2_with fail
      have hc := same_any AE pl.length cE pl Az11 pl.length cz11 pl w26 SE.out SP.out
      rw [decide_eq_true rfl] at hc
      refine hc.mono ?_
      clear hc
      rintro e w27 ⟨rfl, b5⟩
      replace SL := Lib.hid (SL.out.next b5)
      replace KX := Lib.hid (KX.out.next b5)
      replace SA := Lib.hid (SA.out.next b5)
      replace SP := Lib.hid (SP.out.next b5)
      replace SD := Lib.hid (SD.out.next b5)
      replace SE := Lib.hid (SE.out.next b5)
      replace B := Lib.hid (thn B.out b5)
      clear b5
      clear SE
      obtain ⟨pKX, qKX, rKX⟩ := KX.out.cells
      go_wp2_with fail
      have hc := drop_any Az12 dl.length cz12 dl x w27 SD.out hdl
      rw [HDD.out] at hc
      refine hc.mono ?_
      clear hc
      clear pKX qKX rKX
      rintro e w28 ⟨AF, cF, rfl, sF, b5⟩
      have SF := Lib.hid sF
      clear sF
      replace SL := Lib.hid (SL.out.next b5)
      replace KX := Lib.hid (KX.out.next b5)
      replace SA := Lib.hid (SA.out.next b5)
      replace SP := Lib.hid (SP.out.next b5)
      replace SD := Lib.hid (SD.out.next b5)
      replace B := Lib.hid (thn B.out b5)
      clear b5
      go_wp2_with fail
      have hc := same_any AF dl.length cF dl Az12 dl.length cz12 dl w28 SF.out SD.out
      rw [decide_eq_true rfl] at hc
      refine hc.mono ?_
      clear hc
      rintro e w29 ⟨rfl, b5⟩
      replace SL := Lib.hid (SL.out.next b5)
      replace KX := Lib.hid (KX.out.next b5)
      replace SA := Lib.hid (SA.out.next b5)
      replace SP := Lib.hid (SP.out.next b5)
      replace SD := Lib.hid (SD.out.next b5)
      replace SF := Lib.hid (SF.out.next b5)
      replace B := Lib.hid (thn B.out b5)
      clear b5
      clear SF
      obtain ⟨pKX, qKX, rKX⟩ := KX.out.cells
      go_wp2_with fail
      have hc := drop_any Az11 pl.length cz11 pl x w29 SP.out hpl
      rw [HDP.out] at hc
      refine hc.mono ?_
      clear hc
      clear pKX qKX rKX
      rintro e w30 ⟨AG, cG, rfl, sG, b5⟩
      have SG := Lib.hid sG
      clear sG
      replace SL := Lib.hid (SL.out.next b5)
      replace KX := Lib.hid (KX.out.next b5)
      replace SA := Lib.hid (SA.out.next b5)
      replace SP := Lib.hid (SP.out.next b5)
      replace SD := Lib.hid (SD.out.next b5)
      replace B := Lib.hid (thn B.out b5)
      clear b5
      go_wp2_with fail
      have hc := same_any AG dl.length cG dl Az12 dl.length cz12 dl w30 SG.out SD.out
      rw [decide_eq_true rfl] at hc
      refine hc.mono ?_
      clear hc
      rintro e w31 ⟨rfl, b5⟩
      replace SL := Lib.hid (SL.out.next b5)
      replace KX := Lib.hid (KX.out.next b5)
      replace SA := Lib.hid (SA.out.next b5)
      replace SP := Lib.hid (SP.out.next b5)
      replace SD := Lib.hid (SD.out.next b5)
      replace SG := Lib.hid (SG.out.next b5)
      replace B := Lib.hid (thn B.out b5)
      clear b5
      clear SG
      go_wp2
      obtain ⟨wo, rfl⟩ : ∃ wo, wo = w31 := ⟨_, rfl⟩
      go_loopw [14, 106] (fun _ v wr => ∃ j : Nat, j ≤ n ∧ v = .int .i64 j ∧ Hid (Below wo.heap.size wo wr)) (fun _ v _ => n - (intOf v).toNat)
      case atStart => exact ⟨0, Nat.zero_le _, rfl, Below.refl _ _⟩
      case round =>
        obtain ⟨j, hj, rfl, b1⟩ := hrel
        have j0 : (0 : Int) ≤ (j : Int) := by omega
        by_cases hlt : j < n
        · have j1 : (j : Int) < (n : Int) := by omega
          replace SL := Lib.hid (SL.out.next b1.out)
          replace KX := Lib.hid (KX.out.next b1.out)
          replace SA := Lib.hid (SA.out.next b1.out)
          replace SP := Lib.hid (SP.out.next b1.out)
          replace SD := Lib.hid (SD.out.next b1.out)
          obtain ⟨bb, off, y, rfl, hbb, hy, p0, q0, r0⟩ := sd_at SL.out hlt
          have hyl : y ∈ l := List.mem_of_getElem? hy
          have H1 : Hid (decide (y ∈ ml) = true) := decide_eq_true ((HMm.out y).2 hyl)
          have H2 : Hid (decide (y ∈ pl) = true) := decide_eq_true ((HPm.out y).2 (.inr ((HMm.out y).2 hyl)))
          have H3 : Hid (decide (y ∈ dl) = !decide (y = x)) := by unfold Hid; rw [Bool.eq_iff_iff, Bool.not_eq_true', decide_eq_true_eq, decide_eq_false_iff_not, HDm.out y]; exact ⟨fun h => h.2, fun h => ⟨(HMm.out y).2 hyl, h⟩⟩
          obtain ⟨u, HU⟩ : ∃ u, Hid (decide (y = x) = u) := ⟨_, rfl⟩
          rw [HU.out] at H3
          have heq := fun w' : World => (idneq y x w').trans (by rw [HU.out])
          have nuu : ∀ w', (binOp .neq 4 (.bool (!u)) (.bool (!u))).run Try.prog w' = .ok (.bool false) w' := fun w' => (neq_bool (!u) (!u) w').trans (by simp)
          clear hy hyl hlt
          go_upto_region 14 with fail
          have hbl := below_lit wr (.cells #[.int .u8 y.1, .int .u16 y.2.1, .int .u32 y.2.2] 25)
          have B4 := Lib.hid (thn b1.out hbl)
          have SL4 := Lib.hid (SL.out.next hbl)
          have KX4 := Lib.hid (KX.out.next hbl)
          have SA4 := Lib.hid (SA.out.next hbl)
          have SP4 := Lib.hid (SP.out.next hbl)
          have SD4 := Lib.hid (SD.out.next hbl)
          have KY4 : Hid (IdBlk (wr.alloc (.cells #[.int .u8 y.1, .int .u16 y.2.1, .int .u32 y.2.2] 25)) wr.heap.size y) := IdBlk.new wr y
          clear hbl p0 q0 r0
          generalize wr.alloc (.cells #[.int .u8 y.1, .int .u16 y.2.1, .int .u32 y.2.2] 25) = w14 at *
          obtain ⟨gy, hgy⟩ : ∃ g, wr.heap.size = g := ⟨_, rfl⟩
          rw [hgy] at KY4 ⊢
          refine wp_region_typed 19 [(110, .val (.slice A8 ml.length c8)), (111, .val (.agg #[.int .u8 y.1, .int .u16 y.2.1, .int .u32 y.2.2])), (112, .val (.bool true)), (113, .val (.bool false)), (114, .val (.bool false)), (115, .val (.slice Az11 pl.length cz11)), (116, .val (.agg #[.int .u8 y.1, .int .u16 y.2.1, .int .u32 y.2.2])), (117, .val (.bool true)), (118, .val (.bool false)), (119, .val (.bool false)), (120, .val (.bool false)), (121, .val (.slice Az12 dl.length cz12)), (122, .val (.agg #[.int .u8 y.1, .int .u16 y.2.1, .int .u32 y.2.2])), (123, .val (.bool (!u))), (124, .val (.agg #[.int .u8 y.1, .int .u16 y.2.1, .int .u32 y.2.2])), (125, .val (.agg #[.int .u8 x.1, .int .u16 x.2.1, .int .u32 x.2.2])), (126, .val (.bool (!u))), (127, .val (.bool false)), (128, .val (.bool false))]
            [[], [], [110, 111], [112], [113], [114], [114], [114, 115, 116], [114, 117], [114, 118], [119], [120], [120], [120, 121, 122], [120], [120], [120, 124, 125], [120, 123, 126], [120, 127]] (by kernel_rfl) (by kernel_rfl) ?_ ?_
          rotate_left
          · intro w9 hb
            simp only [List.take_succ_cons, List.take_zero, List.drop_succ_cons, List.drop_zero]
            refine over_ds (ds := [110, 111, 112, 113, 114, 115, 116, 117, 118, 119, 120, 121, 122, 123, 124, 125, 126, 127, 128]) (by kernel_rfl) ?_
            refine over_some (ds1 := [110, 111, 112, 113, 114, 115, 116, 117, 118, 119, 120, 121, 122, 123, 124, 125, 126, 127, 128]) (ds2 := []) [(.slice A8 ml.length c8), (.agg #[.int .u8 y.1, .int .u16 y.2.1, .int .u32 y.2.2]), (.bool true), (.bool false), (.bool false), (.slice Az11 pl.length cz11), (.agg #[.int .u8 y.1, .int .u16 y.2.1, .int .u32 y.2.2]), (.bool true), (.bool false), (.bool false), (.bool false), (.slice Az12 dl.length cz12), (.agg #[.int .u8 y.1, .int .u16 y.2.1, .int .u32 y.2.2]), (.bool (!u)), (.agg #[.int .u8 y.1, .int .u16 y.2.1, .int .u32 y.2.2]), (.agg #[.int .u8 x.1, .int .u16 x.2.1, .int .u32 x.2.2]), (.bool (!u)), (.bool false), (.bool false)] (by kernel_rfl) ?_
            refine over_nil ?_
            simp only [putAll, put_lit, List.set_cons_succ, List.set_cons_zero]
            have B9 := Lib.hid (thn B4.out hb)
            clear hb
            go_wp2
            go_roundw
            case rel => exact ⟨j + 1, by omega, by go_num, B9⟩
            case measure => simp [intOf]; omega
          simp only [List.take_succ_cons, List.take_zero]
          refine ⟨?r14g0, ?r14g1, ?r14g2, ?r14g3, ?r14g4, ?r14g5, ?r14g6, ?r14g7, ?r14g8, ?r14g9, ?r14g10, ?r14g11, ?r14g12, ?r14g13, ?r14g14, ?r14g15, ?r14g16, ?r14g17, ?r14g18, trivial⟩
          case r14g0 =>
            intro w9 hb
            refine over_nil ?_
            go_wp2
            first | exact post_of (by rfl) (by rfl) (Below.refl _ _) (by rfl) | exact rfl
          case r14g1 =>
            intro w9 hb
            refine over_nil ?_
            obtain ⟨p0, q0, r0⟩ := (KY4.out.next hb).cells
            go_wp2
            first | exact post_of (by rfl) (by rfl) (Below.refl _ _) (by rfl) | exact rfl
          case r14g2 =>
            intro w9 hb
            refine over_some (ds1 := [110, 111]) (ds2 := []) [(.slice A8 ml.length c8), (.agg #[.int .u8 y.1, .int .u16 y.2.1, .int .u32 y.2.2])] (by kernel_rfl) ?_
            refine over_nil ?_
            simp only [putAll, put_lit, List.set_cons_succ, List.set_cons_zero]
            go_wp2_with fail
            have hc2 := has_any A8 ml.length c8 ml y w9 (SA4.out.next hb)
            rw [H1.out] at hc2
            refine hc2.mono ?_
            clear hc2
            rintro e w8 ⟨rfl, b6⟩
            go_wp2
            exact post_of (by rfl) (by rfl) b6 (by rfl)
          case r14g3 =>
            intro w9 hb
            refine over_some (ds1 := [112]) (ds2 := []) [(.bool true)] (by kernel_rfl) ?_
            refine over_nil ?_
            simp only [putAll, put_lit, List.set_cons_succ, List.set_cons_zero]
            go_wp2
            first | exact post_of (by rfl) (by rfl) (Below.refl _ _) (by rfl) | exact rfl
          case r14g4 =>
            intro w9 hb
            refine over_some (ds1 := [113]) (ds2 := []) [(.bool false)] (by kernel_rfl) ?_
            refine over_nil ?_
            simp only [putAll, put_lit, List.set_cons_succ, List.set_cons_zero]
            go_wp2
            first | exact post_of (by rfl) (by rfl) (Below.refl _ _) (by rfl) | exact rfl
          case r14g5 =>
            intro w9 hb
            refine over_some (ds1 := [114]) (ds2 := []) [(.bool false)] (by kernel_rfl) ?_
            refine over_nil ?_
            simp only [putAll, put_lit, List.set_cons_succ, List.set_cons_zero]
            go_wp2
            first | exact post_of (by rfl) (by rfl) (Below.refl _ _) (by rfl) | exact rfl
          case r14g6 =>
            intro w9 hb
            refine over_some (ds1 := [114]) (ds2 := []) [(.bool false)] (by kernel_rfl) ?_
            refine over_nil ?_
            simp only [putAll, put_lit, List.set_cons_succ, List.set_cons_zero]
            obtain ⟨p0, q0, r0⟩ := (KY4.out.next hb).cells
            go_wp2
            first | exact post_of (by rfl) (by rfl) (Below.refl _ _) (by rfl) | exact rfl
          case r14g7 =>
            intro w9 hb
            refine over_some (ds1 := [114, 115, 116]) (ds2 := []) [(.bool false), (.slice Az11 pl.length cz11), (.agg #[.int .u8 y.1, .int .u16 y.2.1, .int .u32 y.2.2])] (by kernel_rfl) ?_
            refine over_nil ?_
            simp only [putAll, put_lit, List.set_cons_succ, List.set_cons_zero]
            go_wp2_with fail
            have hc2 := has_any Az11 pl.length cz11 pl y w9 (SP4.out.next hb)
            rw [H2.out] at hc2
            refine hc2.mono ?_
            clear hc2
            rintro e w8 ⟨rfl, b6⟩
            go_wp2
            exact post_of (by rfl) (by rfl) b6 (by rfl)
          case r14g8 =>
            intro w9 hb
            refine over_some (ds1 := [114, 117]) (ds2 := []) [(.bool false), (.bool true)] (by kernel_rfl) ?_
            refine over_nil ?_
            simp only [putAll, put_lit, List.set_cons_succ, List.set_cons_zero]
            go_wp2
            first | exact post_of (by rfl) (by rfl) (Below.refl _ _) (by rfl) | exact rfl
          case r14g9 =>
            intro w9 hb
            refine over_some (ds1 := [114, 118]) (ds2 := []) [(.bool false), (.bool false)] (by kernel_rfl) ?_
            refine over_nil ?_
            simp only [putAll, put_lit, List.set_cons_succ, List.set_cons_zero]
            go_wp2
            first | exact post_of (by rfl) (by rfl) (Below.refl _ _) (by rfl) | exact rfl
          case r14g10 =>
            intro w9 hb
            refine over_some (ds1 := [119]) (ds2 := []) [(.bool false)] (by kernel_rfl) ?_
            refine over_nil ?_
            simp only [putAll, put_lit, List.set_cons_succ, List.set_cons_zero]
            go_wp2
            first | exact post_of (by rfl) (by rfl) (Below.refl _ _) (by rfl) | exact rfl
          case r14g11 =>
            intro w9 hb
            refine over_some (ds1 := [120]) (ds2 := []) [(.bool false)] (by kernel_rfl) ?_
            refine over_nil ?_
            simp only [putAll, put_lit, List.set_cons_succ, List.set_cons_zero]
            go_wp2
            first | exact post_of (by rfl) (by rfl) (Below.refl _ _) (by rfl) | exact rfl
          case r14g12 =>
            intro w9 hb
            refine over_some (ds1 := [120]) (ds2 := []) [(.bool false)] (by kernel_rfl) ?_
            refine over_nil ?_
            simp only [putAll, put_lit, List.set_cons_succ, List.set_cons_zero]
            obtain ⟨p0, q0, r0⟩ := (KY4.out.next hb).cells
            go_wp2
            first | exact post_of (by rfl) (by rfl) (Below.refl _ _) (by rfl) | exact rfl
          case r14g13 =>
            intro w9 hb
            refine over_some (ds1 := [120, 121, 122]) (ds2 := []) [(.bool false), (.slice Az12 dl.length cz12), (.agg #[.int .u8 y.1, .int .u16 y.2.1, .int .u32 y.2.2])] (by kernel_rfl) ?_
            refine over_nil ?_
            simp only [putAll, put_lit, List.set_cons_succ, List.set_cons_zero]
            go_wp2_with fail
            have hc2 := has_any Az12 dl.length cz12 dl y w9 (SD4.out.next hb)
            rw [H3.out] at hc2
            refine hc2.mono ?_
            clear hc2
            rintro e w8 ⟨rfl, b6⟩
            go_wp2
            exact post_of (by rfl) (by rfl) b6 (by rfl)
          case r14g14 =>
            intro w9 hb
            refine over_some (ds1 := [120]) (ds2 := []) [(.bool false)] (by kernel_rfl) ?_
            refine over_nil ?_
            simp only [putAll, put_lit, List.set_cons_succ, List.set_cons_zero]
            obtain ⟨p0, q0, r0⟩ := (KY4.out.next hb).cells
            go_wp2
            first | exact post_of (by rfl) (by rfl) (Below.refl _ _) (by rfl) | exact rfl
          case r14g15 =>
            intro w9 hb
            refine over_some (ds1 := [120]) (ds2 := []) [(.bool false)] (by kernel_rfl) ?_
            refine over_nil ?_
            simp only [putAll, put_lit, List.set_cons_succ, List.set_cons_zero]
            obtain ⟨p0, q0, r0⟩ := (KX4.out.next hb).cells
            go_wp2
            first | exact post_of (by rfl) (by rfl) (Below.refl _ _) (by rfl) | exact rfl
          case r14g16 =>
            intro w9 hb
            refine over_some (ds1 := [120, 124, 125]) (ds2 := []) [(.bool false), (.agg #[.int .u8 y.1, .int .u16 y.2.1, .int .u32 y.2.2]), (.agg #[.int .u8 x.1, .int .u16 x.2.1, .int .u32 x.2.2])] (by kernel_rfl) ?_
            refine over_nil ?_
            simp only [putAll, put_lit, List.set_cons_succ, List.set_cons_zero]
            go_wp2
            first | exact post_of (by rfl) (by rfl) (Below.refl _ _) (by rfl) | exact rfl
          case r14g17 =>
            intro w9 hb
            refine over_some (ds1 := [120, 123, 126]) (ds2 := []) [(.bool false), (.bool (!u)), (.bool (!u))] (by kernel_rfl) ?_
            refine over_nil ?_
            simp only [putAll, put_lit, List.set_cons_succ, List.set_cons_zero]
            go_wp2
            first | exact post_of (by rfl) (by rfl) (Below.refl _ _) (by rfl) | exact rfl
          case r14g18 =>
            intro w9 hb
            refine over_some (ds1 := [120, 127]) (ds2 := []) [(.bool false), (.bool false)] (by kernel_rfl) ?_
            refine over_nil ?_
            simp only [putAll, put_lit, List.set_cons_succ, List.set_cons_zero]
            go_wp2
            first | exact post_of (by rfl) (by rfl) (Below.refl _ _) (by rfl) | exact rfl
        · obtain rfl : j = n := by omega
          have BB := Lib.hid (thn B.out b1.out)
          go_wp2_with fail
          refine (awake_any wr).mono ?_
          rintro e w30 ⟨rfl, b30⟩
          go_wp2
          go_ret
          exact ⟨rfl, thn BB.out b30⟩
    simp only [List.take_succ_cons, List.take_zero]
    refine ⟨?r8g0, ?r8g1, ?r8g2, ?r8g3, ?r8g4, ?r8g5, ?r8g6, ?r8g7, trivial⟩
    case r8g0 =>
      intro w9 hb
      refine over_nil ?_
      go_wp2
      first | exact post_of (by rfl) (by rfl) (Below.refl _ _) (by rfl) | exact rfl
    case r8g1 =>
      intro w9 hb
      refine over_nil ?_
      obtain ⟨p0, q0, r0⟩ := (KX.out.next hb).cells
      go_wp2
      first | exact post_of (by rfl) (by rfl) (Below.refl _ _) (by rfl) | exact rfl
    case r8g2 =>
      intro w9 hb
      refine over_some (ds1 := [49, 50]) (ds2 := []) [(.slice A8 ml.length c8), (.agg #[.int .u8 x.1, .int .u16 x.2.1, .int .u32 x.2.2])] (by kernel_rfl) ?_
      refine over_nil ?_
      simp only [putAll, put_lit, List.set_cons_succ, List.set_cons_zero]
      go_wp2_with fail
      have hc2 := put_any A8 ml.length c8 ml x w9 (SA.out.next hb) hml
      rw [HP.out] at hc2
      refine hc2.mono ?_
      clear hc2
      rintro e w8 ⟨A7, c7, rfl, s7, b7⟩
      have S7 := Lib.hid s7
      clear s7
      go_wp2
      exact post_of (by rfl) (by rfl) b7 (by exact ⟨_, _, rfl, S7.out⟩)
    case r8g3 =>
      intro w9 hb
      refine over_nil ?_
      go_wp2
      first | exact post_of (by rfl) (by rfl) (Below.refl _ _) (by rfl) | exact rfl
    case r8g4 =>
      intro w9 hb
      refine over_nil ?_
      obtain ⟨p0, q0, r0⟩ := (KX.out.next hb).cells
      go_wp2
      first | exact post_of (by rfl) (by rfl) (Below.refl _ _) (by rfl) | exact rfl
    case r8g5 =>
      intro w9 hb
      refine over_some (ds1 := [52, 53]) (ds2 := []) [(.slice A8 ml.length c8), (.agg #[.int .u8 x.1, .int .u16 x.2.1, .int .u32 x.2.2])] (by kernel_rfl) ?_
      refine over_nil ?_
      simp only [putAll, put_lit, List.set_cons_succ, List.set_cons_zero]
      go_wp2_with fail
      have hc2 := drop_any A8 ml.length c8 ml x w9 (SA.out.next hb) hml
      rw [HD.out] at hc2
      refine hc2.mono ?_
      clear hc2
      rintro e w8 ⟨A7, c7, rfl, s7, b7⟩
      have S7 := Lib.hid s7
      clear s7
      go_wp2
      exact post_of (by rfl) (by rfl) b7 (by exact ⟨_, _, rfl, S7.out⟩)
    case r8g6 =>
      intro w9 hb
      refine over_pred rfl ?_
      rintro _ ⟨A8, c8, rfl, s8⟩
      refine over_nil ?_
      simp only [put_lit, List.set_cons_succ, List.set_cons_zero]
      have SS := Lib.hid s8
      clear s8
      go_wp2
      exact post_of (by rfl) (by rfl) (Below.refl _ _) (by exact ⟨_, _, rfl, SS.out⟩)
    case r8g7 =>
      intro w9 hb
      refine over_pred rfl ?_
      rintro _ ⟨A8, c8, rfl, s8⟩
      refine over_nil ?_
      simp only [put_lit, List.set_cons_succ, List.set_cons_zero]
      have SS := Lib.hid s8
      clear s8
      go_wp2
      exact post_of (by rfl) (by rfl) (Below.refl _ _) (by exact ⟨_, _, rfl, SS.out⟩)
  simp only [List.take_succ_cons, List.take_zero]
  refine ⟨?g0, ?g1, ?g2, ?g3, ?g4, ?g5, ?g6, ?g7, ?g8, ?g9, ?g10, ?g11, ?g12, ?g13, trivial⟩
  case g0 =>
    intro w5 hb
    have hsz := hb.size
    refine overO_nil ?_
    go_wp2
    exact postO_of (by rfl) (by rfl) hsz (Below.refl _ _) (by rfl) (by exact fun _ h => False.elim h)
  case g1 =>
    intro w5 hb
    have hsz := hb.size
    refine overO_val rfl ?_
    refine overO_nil ?_
    go_wp2_with fail
    have hc := made_own A n c l w5 (SL.out.next hb) hn8
    rw [HMe.out] at hc
    refine hc.mono ?_
    clear hc
    rintro e w6 ⟨A6, c6, rfl, o6, b6⟩
    go_wp2
    exact postO_of (by rfl) (by rfl) hsz b6 (by exact ⟨A6, c6, rfl, Ows.mono o6 hsz⟩) (by exact fun g h => Ows.near o6 g h)
  case g2 =>
    intro w5 hb
    have hsz := hb.size
    refine overO_nil ?_
    go_wp2
    exact postO_of (by rfl) (by rfl) hsz (below_lit _ _) (by exact ⟨_, _, rfl, (Ows.lit0 w5 25 3).mono hsz⟩) (by exact fun g h => lit_near w5 g h)
  case g3 =>
    intro w5 hb
    have hsz := hb.size
    refine overO_nil ?_
    go_wp2
    exact postO_of (by rfl) (by rfl) hsz (Below.refl _ _) (by rfl) (by exact fun _ h => False.elim h)
  case g4 =>
    intro w5 hb
    have hsz := hb.size
    refine overO_nil ?_
    go_wp2
    exact postO_of (by rfl) (by rfl) hsz (Below.refl _ _) (by rfl) (by exact fun _ h => False.elim h)
  case g5 =>
    intro w5 hb
    have hsz := hb.size
    refine overO_val rfl ?_
    refine overO_val rfl ?_
    refine overO_nil ?_
    go_wp2
    exact postO_of (by rfl) (by rfl) hsz (Below.refl _ _) (by rfl) (by exact fun _ h => False.elim h)
  case g6 =>
    intro w5 hb
    have hsz := hb.size
    refine overO_own rfl ?_
    rintro _ ⟨A6, c6, rfl, o6⟩ near
    refine overO_val rfl ?_
    refine overO_nil ?_
    have hm8 : (0 + (n - k)) * 8 ≤ 140737488355328 := by omega
    go_wp2_with (at_builtin; go_must (refine wpList_appsy rfl _ _ 26 rfl Try.underlying26 infoId rfl (by decide) rfl o6 rfl (S2.out.next hb) (idl_one _) hm8 (by decide) hsz ?_); intro A7 c7 w6 o7 g6 hat)
    rw [idl_nil, List.nil_append] at o7
    simp only [Nat.zero_add] at o7 hat ⊢
    have near7 := Ows.near o7
    exact postO_grown (by rfl) (by rfl) ((Below.refl w1.heap.size w5).grown g6 hsz (fun q hq => (near q hq).1)) (by exact fun q hq hno => g6.block q hq (fun e => hno ⟨27, List.mem_singleton.2 rfl, e.symm⟩)) (by exact ⟨A7, c7, rfl, o7⟩) (by exact fun q hq => ⟨(hat q hq).imp (fun h => ⟨27, List.mem_singleton.2 rfl, h⟩) id, (near7 q hq).2⟩)
  case g7 =>
    intro w5 hb
    have hsz := hb.size
    refine overO_nil ?_
    go_wp2
    exact postO_of (by rfl) (by rfl) hsz (Below.refl _ _) (by rfl) (by exact fun _ h => False.elim h)
  case g8 =>
    intro w5 hb
    have hsz := hb.size
    refine overO_nil ?_
    go_wp2
    exact postO_of (by rfl) (by rfl) hsz (Below.refl _ _) (by rfl) (by exact fun _ h => False.elim h)
  case g9 =>
    intro w5 hb
    have hsz := hb.size
    refine overO_val rfl ?_
    refine overO_val rfl ?_
    refine overO_nil ?_
    go_wp2
    exact postO_of (by rfl) (by rfl) hsz (Below.refl _ _) (by rfl) (by exact fun _ h => False.elim h)
  case g10 =>
    intro w5 hb
    have hsz := hb.size
    refine overO_own rfl ?_
    rintro _ ⟨A6, c6, rfl, o6⟩ near
    refine overO_val rfl ?_
    refine overO_nil ?_
    have hm8 : (n - k + (k)) * 8 ≤ 140737488355328 := by omega
    go_wp2_with (at_builtin; go_must (refine wpList_appsy rfl _ _ 26 rfl Try.underlying26 infoId rfl (by decide) rfl o6 rfl (S1.out.next hb) (idl_one _) hm8 (by decide) hsz ?_); intro A7 c7 w6 o7 g6 hat)
    rw [← idl_append] at o7
    have enk : n - k + k = n := by omega
    rw [enk] at o7 hat
    have near7 := Ows.near o7
    exact postO_grown (by rfl) (by rfl) ((Below.refl w1.heap.size w5).grown g6 hsz (fun q hq => (near q hq).1)) (by exact fun q hq hno => g6.block q hq (fun e => hno ⟨31, List.mem_singleton.2 rfl, e.symm⟩)) (by exact ⟨A7, c7, rfl, o7⟩) (by exact fun q hq => ⟨(hat q hq).imp (fun h => ⟨31, List.mem_singleton.2 rfl, h⟩) id, (near7 q hq).2⟩)
  case g11 =>
    intro w5 hb
    have hsz := hb.size
    refine overO_own rfl ?_
    rintro _ ⟨A6, c6, rfl, o6⟩ near
    refine overO_nil ?_
    go_wp2_with fail
    have hc := made_own A6 n c6 (l.drop k ++ l.take k) w5 (Sn.of_own o6) hn8
    rw [HM2.out] at hc
    refine hc.mono ?_
    clear hc
    rintro e w6 ⟨A7, c7, rfl, o7, b6⟩
    go_wp2
    exact postO_of (by rfl) (by rfl) hsz b6 (by exact ⟨A7, c7, rfl, Ows.mono o7 hsz⟩) (by exact fun g h => Ows.near o7 g h)
  case g12 =>
    intro w5 hb
    have hsz := hb.size
    refine overO_own rfl ?_
    rintro _ ⟨A6, c6, rfl, o6⟩ near
    refine overO_nil ?_
    have O6 := Lib.hid o6
    clear o6
    go_wp2
    exact postO_grown (by rfl) (by rfl) (Below.refl _ _) (by exact fun q hq hno => rfl) (by exact ⟨A6, c6, rfl, O6.out⟩) (by exact fun q hq => ⟨.inl ⟨26, List.mem_singleton.2 rfl, hq⟩, (near q hq).2⟩)
  case g13 =>
    intro w5 hb
    have hsz := hb.size
    refine overO_own rfl ?_
    rintro _ ⟨A6, c6, rfl, o6⟩ near
    refine overO_nil ?_
    have O6 := Lib.hid o6
    clear o6
    go_wp2
    exact postO_grown (by rfl) (by rfl) (Below.refl _ _) (by exact fun q hq hno => rfl) (by exact ⟨A6, c6, rfl, O6.out⟩) (by exact fun q hq => ⟨.inl ⟨36, List.mem_singleton.2 rfl, hq⟩, (near q hq).2⟩)
end Go.Proofs.Ytdpcknfplognmaa
