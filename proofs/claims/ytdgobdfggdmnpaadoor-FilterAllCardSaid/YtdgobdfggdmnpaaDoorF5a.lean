/- Layer 5: FilterAll. -/
import Derived.Test.YtdgobdfggdmnpaaDoorFs
namespace Go.Proofs.YtdgobdfggdmnpaaDoor
open Go.RowKit
set_option linter.unusedVariables false
def W0 : Int × Int := (-2147483648, 2147483647)
theorem rep_snoc (j : Nat) : List.replicate (j + 1) W0 = List.replicate j W0 ++ [W0] := List.replicate_succ'
theorem rep_in (j : Nat) : ∀ p ∈ List.replicate j W0, inR p := fun p hp => by
  rw [List.eq_of_mem_replicate hp]
  exact ⟨⟨by decide, by decide⟩, by decide, by decide⟩
theorem wide_meet {p : Int × Int} (hi : inR p) (h : p.1 ≤ p.2) : meetB W0 p = true ∧ meetP W0 p = p := by
  obtain ⟨⟨_, _⟩, _, _⟩ := hi
  have h1 : max W0.1 p.1 = p.1 := by unfold W0; omega
  have h2 : min W0.2 p.2 = p.2 := by unfold W0; omega
  unfold meetB meetP
  rw [h1, h2]
  exact ⟨decide_eq_true h, if_pos h⟩
theorem zip_wide : ∀ ps : List (Int × Int), (∀ p ∈ ps, inR p) → (∀ p ∈ ps, p.1 ≤ p.2) → (((List.replicate ps.length W0).zip ps).all fun x => meetB x.1 x.2) = true ∧ (((List.replicate ps.length W0).zip ps).map fun x => meetP x.1 x.2) = ps
  | [], _, _ => ⟨rfl, rfl⟩
  | p :: ps, hi, h => by
    obtain ⟨h1, h2⟩ := wide_meet (hi p List.mem_cons_self) (h p List.mem_cons_self)
    obtain ⟨h3, h4⟩ := zip_wide ps (fun q hq => hi q (List.mem_cons_of_mem _ hq)) (fun q hq => h q (List.mem_cons_of_mem _ hq))
    simp only [List.length_cons, List.replicate_succ, List.zip_cons_cons, List.all_cons, List.map_cons]
    exact ⟨by rw [h1, h3]; rfl, by rw [h2, h4]⟩
theorem norm_wide {ps : List (Int × Int)} (hi : ∀ p ∈ ps, inR p) (h : ∀ p ∈ ps, p.1 ≤ p.2) (h1 : 1 ≤ ps.length) : normF ps (List.replicate ps.length W0) = ps := by
  obtain ⟨h3, h4⟩ := zip_wide ps hi h
  unfold normF
  rw [if_neg (by simp; intro e; rw [e] at h1; simp at h1), if_pos (by simp)]
  unfold meetF
  rw [if_pos ⟨by simp, h3⟩, h4]
theorem zip_self : ∀ ps : List (Int × Int), (∀ p ∈ ps, p.1 ≤ p.2) → ((ps.zip ps).all fun x => okF x.1 x.2) = true
  | [], _ => rfl
  | p :: ps, h => by
    simp only [List.zip_cons_cons, List.all_cons, Bool.and_eq_true]
    refine ⟨?_, zip_self ps (fun q hq => h q (List.mem_cons_of_mem _ hq))⟩
    have := h p List.mem_cons_self
    unfold okF
    simp [this]
theorem right_all {ps : List (Int × Int)} (h : ∀ p ∈ ps, p.1 ≤ p.2) : rightF ps ps = true := by
  unfold rightF
  rw [zip_self ps h]; simp
def firsts (fs : List (Int × Int)) : List Int := fs.map Prod.fst
theorem right_zip : ∀ (fs ps : List (Int × Int)), ((fs.zip ps).all fun x => okF x.1 x.2) = true → fs.length = ps.length → ((fs.zip (firsts fs)).all fun x => hasB x.1 x.2) = true ∧ ((ps.zip (firsts fs)).all inB) = true ∧ ((ps.zip fs).all fun x => covB x.1 x.2) = true
  | [], [], _, _ => ⟨rfl, rfl, rfl⟩
  | [], _ :: _, _, h => by cases h
  | _ :: _, [], _, h => by cases h
  | f :: fs, p :: ps, h, hl => by
    simp only [firsts, List.zip_cons_cons, List.all_cons, Bool.and_eq_true, List.map_cons] at h ⊢
    obtain ⟨h1, h2, h3⟩ := right_zip fs ps h.2 (by simpa using hl)
    have := h.1
    unfold okF at this
    simp only [Bool.and_eq_true, decide_eq_true_eq] at this
    refine ⟨⟨?_, h1⟩, ⟨?_, h2⟩, ?_, h3⟩
    · unfold hasB; simp [this.1.1]
    · unfold inB; simp; omega
    · unfold covB; simp; omega
theorem right_firsts {ps fs : List (Int × Int)} (h : rightF ps fs = true) (h0 : ¬ fs.length = 0) : matchF fs (firsts fs) = true ∧ fitsB ps (firsts fs) = true ∧ coversF ps fs = true := by
  unfold rightF at h
  simp only [Bool.and_eq_true, Bool.or_eq_true, decide_eq_true_eq] at h
  obtain ⟨hl, hz⟩ := h.resolve_left h0
  obtain ⟨h1, h2, h3⟩ := right_zip fs ps hz hl
  refine ⟨?_, ?_, ?_⟩
  · unfold matchF; rw [h1]; simp [firsts]; omega
  · unfold fitsB; rw [h2]; simp [firsts, hl]
  · unfold coversF; rw [h3]; simp [hl]
theorem Nl_last (k : IntKind) (xs : List Int) (x : Int) : Nl k (xs ++ [x]) = Nl k xs ++ [.int k x] := by simp [Nl]
theorem firsts_snoc {fs : List (Int × Int)} {j : Nat} {p : Int × Int} (h : fs[j]? = some p) : firsts (fs.take (j + 1)) = firsts (fs.take j) ++ [p.1] := by
  unfold firsts
  rw [List.take_add_one, h]
  simp
set_option maxHeartbeats 20000000 in
theorem fall_walk (A0 : Option Addr) (n0 c0 : Nat) (ps : List (Int × Int)) (A3 : Option Addr) (n3 c3 : Nat) (xs : List Int) (A1 : Option Addr) (n1 c1 : Nat) (es : List (Int × Int)) (w : World) (hT : Tab w) (i0 : ∀ p ∈ ps, inR p) (i1 : ∀ p ∈ es, inR p)
    (h0 : Sp w w.heap.size A0 n0 c0 ps) (h3 : Si w w.heap.size A3 n3 c3 xs) (h1 : Sp w w.heap.size A1 n1 c1 es) :
    Calls Tryd.prog 7 #[.slice A0 n0 c0, .slice A3 n3 c3, .slice A1 n1 c1] w fun e w' => e = .returned (.bool true) ∧ Below w.heap.size w w' := by
  have HT := Lib.hid hT
  have B := Lib.hid (Below.refl w.heap.size w)
  have S0 := Lib.hid h0
  have S1 := Lib.hid h1
  have S3 := Lib.hid h3
  have I0 := Lib.hid i0
  have I1 := Lib.hid i1
  have HL0 := Lib.hid (sp_len h0)
  have HL1 := Lib.hid (sp_len h1)
  clear hT h0 h1 h3 i0 i1
  by_cases hn0 : 8 < n0
  · have hn0' : (8 : Int) < n0 := by omega
    go_enter Tryd.func7, Tryd.ntmps7
    go_wp2_with fail
    refine (awake_any w HT.out).mono ?_
    rintro e w1 ⟨rfl, b5⟩
    replace B := Lib.hid (thn B.out b5)
    clear b5
    go_wp2
    go_ret
    exact ⟨rfl, B.out⟩
  have hn0' : (n0 : Int) ≤ 8 := by omega
  have hm0 : n0 ≤ 1000000 := by omega
  obtain ⟨z, HZ⟩ : ∃ z : Bool, Hid ((decide (n1 ≤ 8) && decide (0 ≤ 8) && decide (n3 ≤ 8)) = z) := ⟨(decide (n1 ≤ 8) && decide (0 ≤ 8) && decide (n3 ≤ 8)), Lib.hid (Eq.refl _)⟩
  have HFw := few_any A1 n1 c1 none 0 0 A3 n3 c3 w
  rw [HZ.out] at HFw
  replace HFw := Lib.hid HFw
  cases z
  · go_enter Tryd.func7, Tryd.ntmps7
    go_wp2_with fail
    refine HFw.out.mono ?_
    rintro e _ ⟨rfl, rfl⟩
    go_wp2_with fail
    refine (awake_any w HT.out).mono ?_
    rintro e w1 ⟨rfl, b5⟩
    replace B := Lib.hid (thn B.out b5)
    clear b5
    go_wp2
    go_ret
    exact ⟨rfl, B.out⟩
  have hm1 : n1 ≤ 1000000 := by have := HZ.out; simp only [Bool.and_eq_true, decide_eq_true_eq] at this; omega
  clear HZ
  obtain ⟨r, HR⟩ : ∃ r, Hid (rightB ps = r) := ⟨_, rfl⟩
  cases r
  · go_enter Tryd.func7, Tryd.ntmps7
    go_wp2_with fail
    refine HFw.out.mono ?_
    rintro e _ ⟨rfl, rfl⟩
    go_wp2_with fail
    have hc := right_any A0 n0 c0 w.heap.size ps w S0.out (Nat.le_refl _)
    rw [HR.out] at hc
    refine hc.mono ?_
    clear hc
    rintro e w1 ⟨rfl, b5⟩
    replace S0 := Lib.hid (S0.out.next b5)
    replace S1 := Lib.hid (S1.out.next b5)
    replace S3 := Lib.hid (S3.out.next b5)
    replace HT := Lib.hid (HT.out.next b5)
    replace B := Lib.hid (thn B.out b5)
    clear b5
    go_wp2_with fail
    refine (awake_any w1 HT.out).mono ?_
    rintro e w2 ⟨rfl, b5⟩
    replace B := Lib.hid (thn B.out b5)
    clear b5
    go_wp2
    go_ret
    exact ⟨rfl, B.out⟩
  obtain ⟨r1, r4, rp⟩ := rightB_get HR.out
  have hn4 : n0 ≤ 4 := by rw [HL0.out]; exact r4
  have HRP := Lib.hid rp
  have HFT := Lib.hid (match_fits r1 (bring_fit ps xs rp))
  obtain ⟨v, Hv⟩ : ∃ v, Hid (bringL ps xs = v) := ⟨_, rfl⟩
  rw [Hv.out] at HFT
  have HW1 : Hid (normF ps (List.replicate n0 W0) = ps) := by unfold Hid; rw [HL0.out]; exact norm_wide I0.out rp r1
  have HW2 : Hid (normE ps (List.replicate n0 W0) = 0) := norm_ok (.inr (by rw [HL0.out]; simp))
  have HA1 := Lib.hid (right_all rp)
  have HA2 := Lib.hid (right_nil ps)
  have HA3 : Hid (matchF [] v = false) := by unfold Hid matchF; simp
  have HA4 := Lib.hid (same_self ps)
  have IE : Hid (∀ p ∈ ([] : List (Int × Int)), inR p) := fun p hp => by cases hp
  obtain ⟨d, Hd⟩ : ∃ d, Hid (rightF ps es = d) := ⟨_, rfl⟩
  clear rp r1 r4
  go_enter Tryd.func7, Tryd.ntmps7
  go_wp2_with fail
  refine HFw.out.mono ?_
  rintro e _ ⟨rfl, rfl⟩
  go_wp2_with fail
  have hc := right_any A0 n0 c0 w.heap.size ps w S0.out (Nat.le_refl _)
  rw [HR.out] at hc
  refine hc.mono ?_
  clear hc
  rintro e w1 ⟨rfl, b5⟩
  replace S0 := Lib.hid (S0.out.next b5)
  replace S1 := Lib.hid (S1.out.next b5)
  replace S3 := Lib.hid (S3.out.next b5)
  replace HT := Lib.hid (HT.out.next b5)
  replace B := Lib.hid (thn B.out b5)
  clear b5
  go_wp2_with fail
  have hc := bring_any A0 n0 c0 w1.heap.size ps A3 n3 c3 w1.heap.size xs w1 S0.out (Nat.le_refl _) S3.out (Nat.le_refl _) hn4
  rw [Hv.out] at hc
  refine hc.mono ?_
  clear hc
  rintro e w2 ⟨A5, c5, rfl, s5, b5⟩
  have S5 : Hid (Si w2 w2.heap.size A5 v.length c5 v) := Own.sv s5
  clear s5
  replace S0 := Lib.hid (S0.out.next b5)
  replace S1 := Lib.hid (S1.out.next b5)
  replace S3 := Lib.hid (S3.out.next b5)
  replace HT := Lib.hid (HT.out.next b5)
  replace B := Lib.hid (thn B.out b5)
  clear b5
  go_wp2
  go_loopw [9, 36] (fun v i wr => ∃ (j : Nat) (A2 : Option Addr) (c2 : Nat), j ≤ n0 ∧ i = .int .i64 j ∧ v = .slice A2 j c2 ∧ Hid (Ows wr w2.heap.size 42 2 A2 j c2 (spl (List.replicate j W0))) ∧ Below w2.heap.size w2 wr) (fun _ i _ => n0 - (intOf i).toNat)
  case atStart => exact ⟨0, none, 0, Nat.zero_le _, rfl, rfl, Ows.nil _ _ _ _, Below.refl _ _⟩
  case round =>
    obtain ⟨j, A6, c6, hj, rfl, rfl, O3, b1⟩ := hrel
    by_cases hlt : j < n0
    · have i0 : (0 : Int) ≤ (j : Int) := by omega
      have i1 : (j : Int) < (n0 : Int) := by omega
      have hsz := b1.size
      go_wp2_with (at_builtin; go_must (refine wpList_apps rfl _ _ 24 rfl Tryd.underlying24 infoSpan rfl (by decide) rfl (O3.out.below (below_lit _ _)) rfl (Sn.lit_at _ _ _ _ 2 1 _ (by simp) rfl (by decide)) (span_one _ _) (by omega) (by omega) (by decide) (by simp only [World.size_alloc]; omega) ?_); intro A4 c4 w4 o4 g4)
      have O5 : Hid (Ows w4 w2.heap.size 42 2 A4 (j + 1) c4 (spl (List.replicate (j + 1) W0))) := by
        unfold Hid
        rw [rep_snoc, spl_append]
        exact o4
      have b4 := (b1.trans ((below_lit wr _).mono hsz)).grown g4 (by simp only [World.size_alloc]; omega) O3.out.lt
      clear o4 g4
      go_wp2
      go_roundw
      case rel => exact ⟨j + 1, A4, c4, by omega, by go_num, rfl, O5, b4⟩
      case measure => simp [intOf]; omega
    · obtain rfl : j = n0 := by omega
      have S6 := Lib.hid O3.out
      clear O3
      replace S0 := Lib.hid (S0.out.next b1)
      replace S1 := Lib.hid (S1.out.next b1)
      replace S3 := Lib.hid (S3.out.next b1)
      replace S5 := Lib.hid (S5.out.next b1)
      replace HT := Lib.hid (HT.out.next b1)
      replace B := Lib.hid (thn B.out b1)
      clear b1
      go_wp2_with fail
      have hc := normalF_any A0 j c0 ps A6 j c6 (List.replicate j W0) wr HT.out I0.out (rep_in j) S0.out (Sn.of_own S6.out) hm0
      rw [HW1.out] at hc
      rw [HW2.out] at hc
      refine hc.mono ?_
      clear hc
      rintro e w3 ⟨A8, c8, rfl, s8, b5⟩
      have S8 := Lib.hid s8
      clear s8
      replace S0 := Lib.hid (S0.out.next b5)
      replace S1 := Lib.hid (S1.out.next b5)
      replace S3 := Lib.hid (S3.out.next b5)
      replace S5 := Lib.hid (S5.out.next b5)
      replace S6 := Lib.hid (S6.out.below b5)
      replace HT := Lib.hid (HT.out.next b5)
      replace B := Lib.hid (thn B.out b5)
      clear b5
      go_wp2_with fail
      have hc := rightF_any A0 j c0 ps A0 j c0 ps w3 HT.out I0.out I0.out S0.out S0.out
      rw [HA1.out] at hc
      refine hc.mono ?_
      clear hc
      rintro e w4 ⟨rfl, b5⟩
      replace S0 := Lib.hid (S0.out.next b5)
      replace S1 := Lib.hid (S1.out.next b5)
      replace S3 := Lib.hid (S3.out.next b5)
      replace S5 := Lib.hid (S5.out.next b5)
      replace S6 := Lib.hid (S6.out.below b5)
      replace S8 := Lib.hid (S8.out.next b5)
      replace HT := Lib.hid (HT.out.next b5)
      replace B := Lib.hid (thn B.out b5)
      clear b5
      go_wp2_with fail
      have hc := matchF_any A0 j c0 ps A5 v.length c5 v w4 I0.out S0.out S5.out
      rw [HFT.out] at hc
      refine hc.mono ?_
      clear hc
      rintro e w5 ⟨rfl, b5⟩
      replace S0 := Lib.hid (S0.out.next b5)
      replace S1 := Lib.hid (S1.out.next b5)
      replace S3 := Lib.hid (S3.out.next b5)
      replace S5 := Lib.hid (S5.out.next b5)
      replace S6 := Lib.hid (S6.out.below b5)
      replace S8 := Lib.hid (S8.out.next b5)
      replace HT := Lib.hid (HT.out.next b5)
      replace B := Lib.hid (thn B.out b5)
      clear b5
      go_wp2_with fail
      have hc := rightF_any A0 j c0 ps none 0 0 [] w5 HT.out I0.out IE.out S0.out (sp_zero _ _ _)
      rw [HA2.out] at hc
      refine hc.mono ?_
      clear hc
      rintro e w6 ⟨rfl, b5⟩
      replace S0 := Lib.hid (S0.out.next b5)
      replace S1 := Lib.hid (S1.out.next b5)
      replace S3 := Lib.hid (S3.out.next b5)
      replace S5 := Lib.hid (S5.out.next b5)
      replace S6 := Lib.hid (S6.out.below b5)
      replace S8 := Lib.hid (S8.out.next b5)
      replace HT := Lib.hid (HT.out.next b5)
      replace B := Lib.hid (thn B.out b5)
      clear b5
      go_wp2_with fail
      have hc := matchF_any none 0 0 [] A5 v.length c5 v w6 IE.out (sp_zero _ _ _) S5.out
      rw [HA3.out] at hc
      refine hc.mono ?_
      clear hc
      rintro e w7 ⟨rfl, b5⟩
      replace S0 := Lib.hid (S0.out.next b5)
      replace S1 := Lib.hid (S1.out.next b5)
      replace S3 := Lib.hid (S3.out.next b5)
      replace S5 := Lib.hid (S5.out.next b5)
      replace S6 := Lib.hid (S6.out.below b5)
      replace S8 := Lib.hid (S8.out.next b5)
      replace HT := Lib.hid (HT.out.next b5)
      replace B := Lib.hid (thn B.out b5)
      clear b5
      go_wp2_with fail
      have hc := sameF_any A8 ps.length c8 ps A0 j c0 ps w7  S8.out S0.out
      rw [HA4.out] at hc
      refine hc.mono ?_
      clear hc
      rintro e w8 ⟨rfl, b5⟩
      replace S0 := Lib.hid (S0.out.next b5)
      replace S1 := Lib.hid (S1.out.next b5)
      replace S3 := Lib.hid (S3.out.next b5)
      replace S5 := Lib.hid (S5.out.next b5)
      replace S6 := Lib.hid (S6.out.below b5)
      replace S8 := Lib.hid (S8.out.next b5)
      replace HT := Lib.hid (HT.out.next b5)
      replace B := Lib.hid (thn B.out b5)
      clear b5
      go_wp2_with fail
      have hc := rightF_any A0 j c0 ps A1 n1 c1 es w8 HT.out I0.out I1.out S0.out S1.out
      rw [Hd.out] at hc
      refine hc.mono ?_
      clear hc
      rintro e w9 ⟨rfl, b5⟩
      replace S0 := Lib.hid (S0.out.next b5)
      replace S1 := Lib.hid (S1.out.next b5)
      replace S3 := Lib.hid (S3.out.next b5)
      replace S5 := Lib.hid (S5.out.next b5)
      replace S6 := Lib.hid (S6.out.below b5)
      replace S8 := Lib.hid (S8.out.next b5)
      replace HT := Lib.hid (HT.out.next b5)
      replace B := Lib.hid (thn B.out b5)
      clear b5
      cases d
      · skip
        go_wp2_with fail
        refine (awake_any w9 HT.out).mono ?_
        rintro e w10 ⟨rfl, b5⟩
        replace B := Lib.hid (thn B.out b5)
        clear b5
        go_wp2
        go_ret
        exact ⟨rfl, B.out⟩
      · by_cases k0 : n1 = 0
        · subst k0
          go_wp2_with fail
          refine (awake_any w9 HT.out).mono ?_
          rintro e w10 ⟨rfl, b5⟩
          replace B := Lib.hid (thn B.out b5)
          clear b5
          go_wp2
          go_ret
          exact ⟨rfl, B.out⟩
        · have q0 : ((n1 : Int) == 0) = false := by simpa using k0
          have q0' : ¬ ((n1 : Int) = 0) := by omega
          obtain ⟨HB1, HB2, HB3⟩ : Hid (matchF es (firsts es) = true) ∧ Hid (fitsB ps (firsts es) = true) ∧ Hid (coversF ps es = true) := right_firsts Hd.out (by rw [← HL1.out]; exact k0)
          go_wp2
          go_loopw [12, 90] (fun v i wr => ∃ (k : Nat) (A2 : Option Addr) (c2 : Nat), k ≤ n1 ∧ i = .int .i64 k ∧ v = .slice A2 k c2 ∧ Hid (Own wr w9.heap.size 21 A2 k c2 (Nl .i32 (firsts (es.take k)))) ∧ Below w9.heap.size w9 wr) (fun _ i _ => n1 - (intOf i).toNat)
          case atStart => exact ⟨0, none, 0, Nat.zero_le _, rfl, rfl, Own.nil _ _ _, Below.refl _ _⟩
          case round =>
            obtain ⟨i, A7, c7, hi, rfl, rfl, O7, b1⟩ := hrel
            by_cases hlt : i < n1
            · obtain ⟨b, off, p, rfl, hp, HC⟩ := sp_cells (S1.out.next b1) hlt
              have HP := Lib.hid (firsts_snoc hp)
              have i0 : (0 : Int) ≤ (i : Int) := by omega
              have i1 : (i : Int) < (n1 : Int) := by omega
              obtain ⟨e1, e2⟩ := HC.out wr (Below.refl _ _)
              have hsz := b1.size
              have hmx := S1.out.max
              have hcp := S1.out.cap
              unfold maxLen at hmx
              clear hp HC
              go_wp2_with (at_builtin; go_must (refine wpList_app rfl _ _ 25 rfl Tryd.underlying25 infoI32 rfl rfl ((O7.out.below (below_lit _ _)).below (below_lit _ _)) rfl (Sv.lit_at _ _ _ _ 1 _ (by simp only [World.size_alloc]) rfl (by decide)) (by intro u hu; simp at hu; subst hu; rfl) (by omega) (by decide) (by simp only [World.size_alloc]; omega) ?_); intro A4 c4 w4 o4 g4)
              have b4 := (b1.trans ((Go.Joins.below_alloc2 wr _ _).mono hsz)).grown g4 (by simp only [World.size_alloc]; omega) O7.out.lt
              have O5 : Hid (Own w4 w9.heap.size 21 A4 (i + 1) c4 (Nl .i32 (firsts (es.take (i + 1))))) := by
                unfold Hid
                rw [HP.out, Nl_last]
                exact o4
              clear o4 g4
              go_wp2
              go_roundw
              case rel => exact ⟨i + 1, A4, c4, by omega, by go_num, rfl, O5, b4⟩
              case measure => simp [intOf]; omega
            · obtain rfl : i = n1 := by omega
              have HX : Hid (es.take i = es) := List.take_of_length_le (by rw [← HL1.out]; exact Nat.le_refl _)
              have S7 : Hid (Si wr wr.heap.size A7 i c7 (firsts es)) := by
                have := Own.sv O7.out
                rwa [HX.out] at this
              clear O7
              replace S0 := Lib.hid (S0.out.next b1)
              replace S1 := Lib.hid (S1.out.next b1)
              replace S3 := Lib.hid (S3.out.next b1)
              replace S5 := Lib.hid (S5.out.next b1)
              replace S6 := Lib.hid (S6.out.below b1)
              replace S8 := Lib.hid (S8.out.next b1)
              replace HT := Lib.hid (HT.out.next b1)
              replace B := Lib.hid (thn B.out b1)
              clear b1
              go_wp2_with fail
              have hc := matchF_any A1 i c1 es A7 i c7 (firsts es) wr I1.out S1.out S7.out
              rw [HB1.out] at hc
              refine hc.mono ?_
              clear hc
              rintro e w10 ⟨rfl, b5⟩
              replace S0 := Lib.hid (S0.out.next b5)
              replace S1 := Lib.hid (S1.out.next b5)
              replace S3 := Lib.hid (S3.out.next b5)
              replace S5 := Lib.hid (S5.out.next b5)
              replace S6 := Lib.hid (S6.out.below b5)
              replace S8 := Lib.hid (S8.out.next b5)
              replace S7 := Lib.hid (S7.out.next b5)
              replace HT := Lib.hid (HT.out.next b5)
              replace B := Lib.hid (thn B.out b5)
              clear b5
              go_wp2_with fail
              have hc := fits_any A0 j c0 w10.heap.size ps A7 i c7 w10.heap.size (firsts es) w10 S0.out (Nat.le_refl _) S7.out (Nat.le_refl _) HRP.out
              rw [HB2.out] at hc
              refine hc.mono ?_
              clear hc
              rintro e w11 ⟨rfl, b5⟩
              replace S0 := Lib.hid (S0.out.next b5)
              replace S1 := Lib.hid (S1.out.next b5)
              replace S3 := Lib.hid (S3.out.next b5)
              replace S5 := Lib.hid (S5.out.next b5)
              replace S6 := Lib.hid (S6.out.below b5)
              replace S8 := Lib.hid (S8.out.next b5)
              replace S7 := Lib.hid (S7.out.next b5)
              replace HT := Lib.hid (HT.out.next b5)
              replace B := Lib.hid (thn B.out b5)
              clear b5
              go_wp2_with fail
              have hc := coversF_any A0 j c0 ps A1 i c1 es w11 HT.out I0.out I1.out S0.out S1.out
              rw [HB3.out] at hc
              refine hc.mono ?_
              clear hc
              rintro e w12 ⟨rfl, b5⟩
              replace S0 := Lib.hid (S0.out.next b5)
              replace S1 := Lib.hid (S1.out.next b5)
              replace S3 := Lib.hid (S3.out.next b5)
              replace S5 := Lib.hid (S5.out.next b5)
              replace S6 := Lib.hid (S6.out.below b5)
              replace S8 := Lib.hid (S8.out.next b5)
              replace S7 := Lib.hid (S7.out.next b5)
              replace HT := Lib.hid (HT.out.next b5)
              replace B := Lib.hid (thn B.out b5)
              clear b5
              go_wp2_with fail
              refine (awake_any w12 HT.out).mono ?_
              rintro e w13 ⟨rfl, b5⟩
              replace B := Lib.hid (thn B.out b5)
              clear b5
              go_wp2
              go_ret
              exact ⟨rfl, B.out⟩
end Go.Proofs.YtdgobdfggdmnpaaDoor
