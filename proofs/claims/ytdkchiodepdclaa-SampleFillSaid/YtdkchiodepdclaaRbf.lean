/- Layer 9: desc.Put. -/
import Derived.Test.YtdkchiodepdclaaRbe
namespace Go.Proofs.Ytdkchiodepdclaa
open Go.RowKit
set_option linter.unusedVariables false
theorem spot_lt {xs : List (Dsc × Hd)} {node : Int} {k : Nat} {b : Bool} (h : Spot xs node k b) : xs.take k = xs.filter fun x => decide (x.1.1 < node) := by
  have hk := h.le
  conv => rhs; rw [← List.take_append_drop k xs]
  have e1 : (xs.take k).filter (fun x => decide (x.1.1 < node)) = xs.take k := List.filter_eq_self.2 fun y hy => by
    obtain ⟨i, hi, rfl⟩ := List.mem_iff_getElem.1 hy
    rw [List.length_take] at hi
    rw [List.getElem_take]
    exact decide_eq_true (h.lo i _ (by omega) (List.getElem?_eq_getElem (by omega)))
  have e2 : (xs.drop k).filter (fun x => decide (x.1.1 < node)) = [] := List.filter_eq_nil_iff.2 fun y hy => by
    obtain ⟨i, hi, rfl⟩ := List.mem_iff_getElem.1 hy
    rw [List.length_drop] at hi
    have := h.hi (k + i) _ (by omega) (List.getElem?_eq_getElem (by omega))
    rw [List.getElem_drop]
    simp; omega
  rw [List.filter_append, e1, e2, List.append_nil]
theorem spot_gt {xs : List (Dsc × Hd)} {node : Int} {k k' : Nat} {b : Bool} (h : Spot xs node k b) (hr : RiseX xs) (hk : k' = if b then k + 1 else k) : xs.drop k' = xs.filter fun x => decide (node < x.1.1) := by
  have hk2 := h.le
  conv => rhs; rw [← List.take_append_drop k' xs]
  have e1 : (xs.take k').filter (fun x => decide (node < x.1.1)) = [] := List.filter_eq_nil_iff.2 fun y hy => by
    obtain ⟨i, hi, rfl⟩ := List.mem_iff_getElem.1 hy
    rw [List.length_take] at hi
    rw [List.getElem_take]
    rcases Nat.lt_or_ge i k with h1 | h1
    · have := h.lo i _ h1 (List.getElem?_eq_getElem (by omega))
      simp; omega
    · cases b
      · simp only [Bool.false_eq_true, if_false] at hk; omega
      · simp only [if_true] at hk
        obtain ⟨x, hx, he⟩ := h.hit rfl
        obtain rfl : i = k := by omega
        rw [List.getElem?_eq_getElem (by omega)] at hx
        rw [Option.some.inj hx, he]; simp
  have e2 : (xs.drop k').filter (fun x => decide (node < x.1.1)) = xs.drop k' := List.filter_eq_self.2 fun y hy => by
    obtain ⟨i, hi, rfl⟩ := List.mem_iff_getElem.1 hy
    rw [List.length_drop] at hi
    rw [List.getElem_drop]
    refine decide_eq_true ?_
    cases b
    · simp only [Bool.false_eq_true, if_false] at hk
      have h1 := h.hi (k' + i) _ (by omega) (List.getElem?_eq_getElem (by omega))
      have h2 := h.find hr
      simp only [Bool.false_eq_true, if_false] at h2
      have h3 := findI_miss (ds := xs.map (·.1)) (n := node) (by omega) (xs[k' + i]'(by omega)).1 (List.mem_map.2 ⟨_, List.getElem_mem _, rfl⟩)
      omega
    · simp only [if_true] at hk
      obtain ⟨x, hx, he⟩ := h.hit rfl
      have := riseX_lt hr (i := k) (j := k' + i) (by omega) hx (List.getElem?_eq_getElem (by omega))
      omega
  rw [List.filter_append, e1, e2, List.nil_append]
theorem spot_ins {xs : List (Dsc × Hd)} {d : Dsc} {k k' : Nat} {b : Bool} (h : Spot xs d.1 k b) (hr : RiseX xs) (hk : k' = if b then k + 1 else k) (hd : Hd) : (xs.take k ++ (d, hd) :: xs.drop k').map (·.1) = insL (xs.map (·.1)) d := by
  rw [spot_lt h, spot_gt h hr hk]
  unfold insL
  rw [List.filter_map, List.filter_map, List.map_append, List.map_cons]
  rfl
theorem spot_same {xs zs : List (Dsc × Hd)} {node : Int} {k : Nat} {b : Bool} (h : Spot xs node k b) (e : zs.map (·.1) = xs.map (·.1)) : Spot zs node k b := by
  have hl : zs.length = xs.length := by have := congrArg List.length e; simpa using this
  have key : ∀ {j : Nat} {z : Dsc × Hd}, zs[j]? = some z → ∃ x, xs[j]? = some x ∧ x.1 = z.1 := fun {j z} hz => by
    have h1 := congrArg (fun l => l[j]?) e
    simp only [List.getElem?_map, hz, Option.map_some] at h1
    obtain ⟨x, hx, he⟩ := Option.map_eq_some_iff.1 h1.symm
    exact ⟨x, hx, he⟩
  have yek : ∀ {j : Nat} {x : Dsc × Hd}, xs[j]? = some x → ∃ z, zs[j]? = some z ∧ z.1 = x.1 := fun {j x} hz => by
    have h1 := congrArg (fun l => l[j]?) e
    simp only [List.getElem?_map, hz, Option.map_some] at h1
    obtain ⟨x, hx, he⟩ := Option.map_eq_some_iff.1 h1
    exact ⟨x, hx, he⟩
  refine ⟨by rw [hl]; exact h.le, fun j z hj hz => ?_, fun j z hj hz => ?_, fun hb => ?_, fun hb z hz => ?_⟩
  · obtain ⟨x, hx, he⟩ := key hz
    rw [← he]; exact h.lo j x hj hx
  · obtain ⟨x, hx, he⟩ := key hz
    rw [← he]; exact h.hi j x hj hx
  · obtain ⟨x, hx, he⟩ := h.hit hb
    obtain ⟨z, hz, hez⟩ := yek hx
    exact ⟨z, hz, by rw [hez]; exact he⟩
  · obtain ⟨x, hx, he⟩ := key hz
    rw [← he]; exact h.miss hb x hx
theorem refuse_bad {ds : List Dsc} {d : Dsc} {self : Int} (room : Int) (h : d.1 = self ∨ d.2.1 = 0) : refuseD ds d self room = true := by
  unfold refuseD; rw [decide_eq_true h, Bool.true_or]
theorem refuse_hit {ds : List Dsc} {d e : Dsc} {self room : Int} {k : Nat} (h1 : d.1 ≠ self) (h2 : d.2.1 ≠ 0) (hf : findI ds d.1 = (k : Int)) (he : ds[k]? = some e) : refuseD ds d self room = !newerD d e := by
  unfold refuseD
  rw [decide_eq_false (fun h => h.elim h1 h2), Bool.false_or, hf, if_pos (by omega), Int.toNat_natCast, List.getD_eq_getElem?_getD, he]
  rfl
theorem refuse_miss {ds : List Dsc} {d : Dsc} {self room : Int} (h1 : d.1 ≠ self) (h2 : d.2.1 ≠ 0) (hf : findI ds d.1 = -1) : refuseD ds d self room = decide (room ≤ ds.length) := by
  unfold refuseD
  rw [decide_eq_false (fun h => h.elim h1 h2), Bool.false_or, hf, if_neg (by omega)]
theorem dcs_set4 : ∀ (ys : List (Dsc × Hd)) (j : Nat) (y : Dsc × Hd), j < ys.length → ((((dcs ys).set (j * 4) (.int .u8 y.1.1)).set (j * 4 + 1) (.int .u16 y.1.2.1)).set (j * 4 + 2) (.int .u8 y.1.2.2.1)).set (j * 4 + 3) (.slice y.2.1 y.2.2.1 y.2.2.2) = dcs (ys.set j y)
  | [], j, y, h => by simp at h
  | q :: ys, 0, y, h => by simp [dcs_cons, dcl]
  | q :: ys, j + 1, y, h => by
    have e : ∀ i, (j + 1) * 4 + i - (dcl q).length = j * 4 + i := fun i => by simp [dcl]; omega
    have e0 := e 0
    simp only [Nat.add_zero] at e0
    rw [dcs_cons, List.set_append_right _ _ (by simp [dcl]; omega), List.set_append_right _ _ (by simp [dcl]; omega), List.set_append_right _ _ (by simp [dcl]; omega), List.set_append_right _ _ (by simp [dcl]; omega), e, e, e, e0, dcs_set4 ys j y (by simpa using h), List.set_cons_succ, dcs_cons]
theorem Dow.insert {w w' : World} {B g n c m c2 k k' : Nat} {A2 : Option Addr} {xs : List (Dsc × Hd)} {d : Dsc} {hd : Hd} (h : Dow w B (some ⟨g, 0, none⟩) n c xs) (hf : Ows w B 52 2 hd.1 hd.2.1 hd.2.2 (spl d.2.2.2)) (o : Ows w' B 27 4 A2 m c2 (dcs (xs.take k ++ (d, hd) :: xs.drop k'))) (hg : w.grownBy w' (some g)) : Dow w' B A2 m c2 (xs.take k ++ (d, hd) :: xs.drop k') :=
  ⟨o, fun y hy => by
    rcases List.mem_append.1 hy with hy | hy
    · exact Ows.other (h.fo y (List.mem_of_mem_take hy)) h.ow (by decide) hg
    · rcases List.mem_cons.1 hy with rfl | hy
      · exact Ows.other hf h.ow (by decide) hg
      · exact Ows.other (h.fo y (List.mem_of_mem_drop hy)) h.ow (by decide) hg⟩
theorem grown_row4 (w : World) (g o : Nat) (e : Dsc) (h2 : Hd) : w.grownBy ((((w.setCell ⟨g, o, none⟩ (.int .u8 e.1)).setCell ⟨g, o + 1, none⟩ (.int .u16 e.2.1)).setCell ⟨g, o + 2, none⟩ (.int .u8 e.2.2.1)).setCell ⟨g, o + 3, none⟩ (.slice h2.1 h2.2.1 h2.2.2)) (some g) :=
  grown_two (grown_two (grown_two (grown_set _ _ _ _) (grown_set _ _ _ _)) (grown_set _ _ _ _)) (grown_set _ _ _ _)
set_option maxRecDepth 100000 in
set_option maxHeartbeats 8000000 in
theorem put_any (A : Option Addr) (n c : Nat) (xs : List (Dsc × Hd)) (d : Dsc) (hd : Hd) (self room : Int) (w : World) (h : Sds w A n c xs) (hf : Fit n xs) (hF : Fl w (d, hd)) (hd1 : Fit1 d) (hr : RightD (xs.map (·.1)) self room) : Calls Try.prog 31 #[.slice A n c, (.agg #[.int .u8 d.1, .int .u16 d.2.1, .int .u8 d.2.2.1, .slice hd.1 hd.2.1 hd.2.2]), .int .u8 self, .int .i64 room] w (GavePo (putD (xs.map (·.1)) d self room) (!refuseD (xs.map (·.1)) d self room) w) := by
  have HR : Hid (RiseX xs) := hr.2.1
  have HRD := Lib.hid hr
  have hn : n ≤ 1000000 := by have := hf.len; omega
  have hcap := h.cap
  have hmx := h.max
  unfold maxLen at hmx
  have HL : Hid (n = xs.length) := h.len
  have HCP := Lib.hid (fun (W : World) (s : Sds W A n c xs) => copyX_any A n c xs W s hn (fun x hx => by have := (hf.all x hx).2; omega))
  have HDL : Hid (d.2.2.2.length ≤ 1000000) := by have := hd1.2; unfold Hid; omega
  have hbl := below_lit w (.cells #[.int .u8 d.1, .int .u16 d.2.1, .int .u8 d.2.2.1, .slice hd.1 hd.2.1 hd.2.2] 27)
  have KD : Hid (DBlk (w.alloc (.cells #[.int .u8 d.1, .int .u16 d.2.1, .int .u8 d.2.2.1, .slice hd.1 hd.2.1 hd.2.2] 27)) w.heap.size d hd) := DBlk.new w d hd
  have S := Lib.hid (h.next hbl)
  have F : Hid (Fl (w.alloc (.cells #[.int .u8 d.1, .int .u16 d.2.1, .int .u8 d.2.2.1, .slice hd.1 hd.2.1 hd.2.2] 27)) (d, hd)) := Sn.next hF hbl
  have B := Lib.hid hbl
  clear h hf hF hd1 hr hbl
  obtain ⟨rf, HRF⟩ : ∃ rf, Hid (refuseD (xs.map (·.1)) d self room = rf) := ⟨_, rfl⟩
  obtain ⟨pd, HPD⟩ : ∃ pd, Hid (putD (xs.map (·.1)) d self room = pd) := ⟨_, rfl⟩
  rw [HRF.out, HPD.out]
  have HNO : Hid (rf = true → xs.map (·.1) = pd) := fun e => by rw [← HPD.out]; exact (put_yes (HRF.out.trans e)).symm
  have HYE : Hid (rf = false → pd = insL (xs.map (·.1)) d) := fun e => by rw [← HPD.out]; exact put_no HRD.out (HRF.out.trans e)
  by_cases h1 : d.1 = self
  · obtain rfl : rf = true := HRF.out.symm.trans (refuse_bad room (.inl h1))
    have hb : (d.1 == self) = true := by simpa using h1
    clear h1
    go_enter Try.func31, Try.ntmps31
    go_upto_region 1 with fail
    generalize w.alloc (.cells #[.int .u8 d.1, .int .u16 d.2.1, .int .u8 d.2.2.1, .slice hd.1 hd.2.1 hd.2.2] 27) = w1 at *
    obtain ⟨g, hg⟩ : ∃ g, w.heap.size = g := ⟨_, rfl⟩
    rw [hg] at KD ⊢
    clear hg
    obtain ⟨p0, p1, p2, p3⟩ := KD.out.cells
    go_wp2_with fail
    refine (HCP.out w1 S.out).mono ?_
    rintro e w5 ⟨q, zs, rfl, hz, dz, b5⟩
    have HE := Lib.hid (hz.trans (HNO.out (by trivial)))
    have DZ := Lib.hid (dz.mono B.out.size)
    have B5 := Lib.hid (thn B.out b5)
    clear hz dz b5
    go_wp2
    go_ret2
    exact ⟨_, _, _, zs, rfl, HE.out, DZ.out, B5.out⟩
  · by_cases h2 : d.2.1 = 0
    · obtain rfl : rf = true := HRF.out.symm.trans (refuse_bad room (.inr h2))
      have hb : (d.1 == self) = false := by simpa using h1
      have hb2 : (d.2.1 == 0) = true := by simpa using h2
      clear h1 h2
      go_enter Try.func31, Try.ntmps31
      go_upto_region 1 with fail
      generalize w.alloc (.cells #[.int .u8 d.1, .int .u16 d.2.1, .int .u8 d.2.2.1, .slice hd.1 hd.2.1 hd.2.2] 27) = w1 at *
      obtain ⟨g, hg⟩ : ∃ g, w.heap.size = g := ⟨_, rfl⟩
      rw [hg] at KD ⊢
      clear hg
      obtain ⟨p0, p1, p2, p3⟩ := KD.out.cells
      go_wp2_with fail
      refine (HCP.out w1 S.out).mono ?_
      rintro e w5 ⟨q, zs, rfl, hz, dz, b5⟩
      have HE := Lib.hid (hz.trans (HNO.out (by trivial)))
      have DZ := Lib.hid (dz.mono B.out.size)
      have B5 := Lib.hid (thn B.out b5)
      clear hz dz b5
      go_wp2
      go_ret2
      exact ⟨_, _, _, zs, rfl, HE.out, DZ.out, B5.out⟩
    · have H1 := Lib.hid h1
      have H2 := Lib.hid h2
      have hb : (d.1 == self) = false := by simpa using h1
      have hb2 : (d.2.1 == 0) = false := by simpa using h2
      clear h1 h2
      go_enter Try.func31, Try.ntmps31
      go_upto_region 1 with fail
      generalize w.alloc (.cells #[.int .u8 d.1, .int .u16 d.2.1, .int .u8 d.2.2.1, .slice hd.1 hd.2.1 hd.2.2] 27) = w1 at *
      obtain ⟨g, hg⟩ : ∃ g, w.heap.size = g := ⟨_, rfl⟩
      rw [hg] at KD ⊢
      clear hg
      obtain ⟨p0, p1, p2, p3⟩ := KD.out.cells
      go_wp2_with fail
      refine (place_any A n c xs d.1 w1 S.out hn HR.out).mono ?_
      rintro e w2 ⟨k, b, rfl, sp, b2⟩
      clear p0 p1 p2 p3
      replace KD := Lib.hid (KD.out.next b2)
      replace S := Lib.hid (S.out.next b2)
      replace F := Lib.hid (Sn.next F.out b2)
      replace B := Lib.hid (thn B.out b2)
      clear b2
      have SP := Lib.hid sp
      have HFI := Lib.hid (sp.find HR.out)
      have hkn : k ≤ n := by have := sp.le; rw [HL.out]; exact this
      clear sp
      cases b
      · replace HFI : Hid (findI (xs.map (·.1)) d.1 = -1) := HFI.out
        have HRM : Hid (rf = decide (room ≤ (n : Int))) := by unfold Hid; rw [← HRF.out, refuse_miss H1.out H2.out HFI.out, List.length_map, HL.out]
        by_cases hl : room ≤ (n : Int)
        · obtain rfl : rf = true := HRM.out.trans (decide_eq_true hl)
          obtain ⟨p0, p1, p2, p3⟩ := KD.out.cells
          go_wp2
          go_quiet (fail)
          have b3 := dN (Below.refl w2.heap.size w2) nq
          clear p0 p1 p2 p3
          replace KD := Lib.hid (KD.out.next b3)
          replace S := Lib.hid (S.out.next b3)
          replace F := Lib.hid (Sn.next F.out b3)
          replace B := Lib.hid (thn B.out b3)
          clear b3
          generalize w2.drewN nq = w3 at *
          go_wp2_with fail
          refine (HCP.out w3 S.out).mono ?_
          rintro e w5 ⟨q, zs, rfl, hz, dz, b5⟩
          have HE := Lib.hid (hz.trans (HNO.out (by trivial)))
          have DZ := Lib.hid (dz.mono B.out.size)
          have B5 := Lib.hid (thn B.out b5)
          clear hz dz b5
          go_wp2
          go_ret2
          exact ⟨_, _, _, zs, rfl, HE.out, DZ.out, B5.out⟩
        · obtain rfl : rf = false := HRM.out.trans (decide_eq_false hl)
          replace hl : (n : Int) < room := by omega
          obtain ⟨p0, p1, p2, p3⟩ := KD.out.cells
          go_wp2
          go_quiet (fail)
          have b3 := dN (Below.refl w2.heap.size w2) nq
          clear p0 p1 p2 p3
          replace KD := Lib.hid (KD.out.next b3)
          replace S := Lib.hid (S.out.next b3)
          replace F := Lib.hid (Sn.next F.out b3)
          replace B := Lib.hid (thn B.out b3)
          clear b3
          generalize w2.drewN nq = w3 at *
          go_wp2_with fail
          refine (HCP.out w3 S.out).mono ?_
          rintro e w4 ⟨q, zs, rfl, hz, dz, b4⟩
          have HZ := Lib.hid hz
          have LQ : Hid (w.heap.size ≤ q) := Nat.le_trans B.out.size dz.ow.rowc.1
          have DZ := Lib.hid (dz.mono B.out.size)
          clear hz dz
          replace KD := Lib.hid (KD.out.next b4)
          replace S := Lib.hid (S.out.next b4)
          replace F := Lib.hid (Sn.next F.out b4)
          replace B := Lib.hid (thn B.out b4)
          clear b4
          obtain ⟨p0, p1, p2, p3⟩ := KD.out.cells
          go_wp2_with fail
          refine (own_any (d, hd) w4 F.out HDL.out).mono ?_
          rintro e w5 ⟨ho, rfl, of, b5⟩
          have OF := Lib.hid (of.mono B.out.size)
          replace DZ := Lib.hid (DZ.out.below b5)
          clear of p0 p1 p2 p3
          replace B := Lib.hid (thn B.out b5)
          clear b5
          clear S F KD
          have HRZ : Hid (RiseX zs) := by show (zs.map (·.1)).Pairwise _; rw [HZ.out]; exact HR.out
          have SPZ : Hid (Spot zs d.1 k false) := spot_same SP.out HZ.out
          have HE : Hid ((zs.take k ++ (d, ho) :: zs.drop k).map (·.1) = pd) := by unfold Hid; rw [HYE.out (by trivial), ← HZ.out]; exact spot_ins SPZ.out HRZ.out rfl ho
          have hbl := below_lit w5 (.cells #[.int .u8 d.1, .int .u16 d.2.1, .int .u8 d.2.2.1, .slice ho.1 ho.2.1 ho.2.2] 27)
          have HI := Lib.hid (insert_any q n k zs (d, ho) (some ⟨w5.heap.size, 0, none⟩) (w5.alloc (.cells #[.int .u8 d.1, .int .u16 d.2.1, .int .u8 d.2.2.1, .slice ho.1 ho.2.1 ho.2.2] 27)) w.heap.size (DZ.out.ow.below hbl) hkn hn ((Sn.lit w5 #[.int .u8 d.1, .int .u16 d.2.1, .int .u8 d.2.2.1, .slice ho.1 ho.2.1 ho.2.2] 27 (0, 0) 4 1 rfl (by decide)).more (by simp)) (Nat.le_trans B.out.size hbl.size))
          replace DZ := Lib.hid (DZ.out.below hbl)
          replace OF := Lib.hid (OF.out.below hbl)
          replace B := Lib.hid (thn B.out hbl)
          clear hbl
          go_wp2_with fail
          refine HI.out.mono ?_
          rintro e w7 ⟨A2, c2, rfl, o7, g7⟩
          have D7 := Lib.hid (DZ.out.insert OF.out o7 g7)
          have B7 := Lib.hid (belowG B.out g7 B.out.size LQ.out)
          clear o7 g7
          go_wp2
          go_ret2
          exact ⟨_, _, _, _, rfl, HE.out, D7.out, B7.out⟩
      · replace HFI : Hid (findI (xs.map (·.1)) d.1 = (k : Int)) := HFI.out
        obtain ⟨x, hx, hxd⟩ := SP.out.hit rfl
        clear hxd
        have hkl : k < n := by rw [HL.out]; exact (List.getElem?_eq_some_iff.1 hx).1
        have HRH : Hid (rf = !newerD d x.1) := by unfold Hid; rw [← HRF.out, refuse_hit H1.out H2.out HFI.out (e := x.1) (by rw [List.getElem?_map, hx]; rfl)]
        obtain ⟨nv, HNV⟩ : ∃ nv, Hid (newerD d x.1 = nv) := ⟨_, rfl⟩
        rw [HNV.out] at HRH
        obtain ⟨b1, off, x1, rfl, hx1, _, HCX⟩ := S.out.cells hkl
        obtain rfl := Option.some.inj (hx.symm.trans hx1)
        clear hx hx1
        have k0 : (0 : Int) ≤ (k : Int) := by omega
        have k1 : (k : Int) < (n : Int) := by omega
        cases nv
        · obtain rfl : rf = true := HRH.out
          obtain ⟨p0, p1, p2, p3⟩ := KD.out.cells
          go_upto_region 4 with fail
          clear p0 p1 p2 p3
          refine wp_region_typed 19 [(31, .val (.bool true)), (32, .val (.bool true)), (33, .val (.agg #[.int .u8 d.1, .int .u16 d.2.1, .int .u8 d.2.2.1, .slice hd.1 hd.2.1 hd.2.2])), (34, .val (.slice (some ⟨b1, off, none⟩) n c)), (35, .val (.int .i64 (k : Int))), (36, .val (.pointer (some ⟨b1, off + k * 4, none⟩))), (37, .val (.agg #[.int .u8 x.1.1, .int .u16 x.1.2.1, .int .u8 x.1.2.2.1, .slice x.2.1 x.2.2.1 x.2.2.2])), (38, .val (.bool false)), (39, .val (.bool true)), (40, .val (.bool true)), (41, .val (.bool true)), (42, .val undef), (43, .val undef), (44, .val undef), (45, .val undef), (46, .val undef), (47, .val undef), (48, .val undef), (49, .val undef)]
            [[], [31], [32], [32], [32], [32, 34, 35], [32, 36], [32, 33, 37], [32, 38], [32, 39], [40], [41], [41, 42], [41, 43], [44], [44, 45], [44], [44, 46, 47], [41, 44, 48]] (by kernel_rfl) (by kernel_rfl) ?_ ?_
          rotate_left
          · intro v11 hb
            simp only [List.take_succ_cons, List.take_zero, List.drop_succ_cons, List.drop_zero]
            refine over_ds (ds := [31, 32, 33, 34, 35, 36, 37, 38, 39, 40, 41, 42, 43, 44, 45, 46, 47, 48, 49]) (by kernel_rfl) ?_
            refine over_some (ds1 := [31, 32, 33, 34, 35, 36, 37, 38, 39, 40, 41, 42, 43, 44, 45, 46, 47, 48, 49]) (ds2 := []) [(.bool true), (.bool true), (.agg #[.int .u8 d.1, .int .u16 d.2.1, .int .u8 d.2.2.1, .slice hd.1 hd.2.1 hd.2.2]), (.slice (some ⟨b1, off, none⟩) n c), (.int .i64 (k : Int)), (.pointer (some ⟨b1, off + k * 4, none⟩)), (.agg #[.int .u8 x.1.1, .int .u16 x.1.2.1, .int .u8 x.1.2.2.1, .slice x.2.1 x.2.2.1 x.2.2.2]), (.bool false), (.bool true), (.bool true), (.bool true), undef, undef, undef, undef, undef, undef, undef, undef] (by kernel_rfl) ?_
            refine over_nil ?_
            simp only [putAll, put_lit, List.set_cons_succ, List.set_cons_zero]
            replace KD := Lib.hid (KD.out.next hb)
            replace S := Lib.hid (S.out.next hb)
            replace F := Lib.hid (F.out.next hb)
            replace B := Lib.hid (thn B.out hb)
            clear hb
            go_wp2_with fail
            refine (HCP.out v11 S.out).mono ?_
            rintro e w5 ⟨q, zs, rfl, hz, dz, b5⟩
            have HE := Lib.hid (hz.trans (HNO.out (by trivial)))
            have DZ := Lib.hid (dz.mono B.out.size)
            have B5 := Lib.hid (thn B.out b5)
            clear hz dz b5
            go_wp2
            go_ret2
            exact ⟨_, _, _, zs, rfl, HE.out, DZ.out, B5.out⟩
          simp only [List.take_succ_cons, List.take_zero]
          refine ⟨?r4g0, ?r4g1, ?r4g2, ?r4g3, ?r4g4, ?r4g5, ?r4g6, ?r4g7, ?r4g8, ?r4g9, ?r4g10, ?r4g11, ?r4g12, ?r4g13, ?r4g14, ?r4g15, ?r4g16, ?r4g17, ?r4g18, trivial⟩
          case r4g0 =>
            intro w9 hb
            refine over_nil ?_
            go_wp2
            first | exact post_of (by rfl) (by rfl) (Below.refl _ _) (by rfl) | exact rfl
          case r4g1 =>
            intro w9 hb
            refine over_some (ds1 := [31]) (ds2 := []) [(.bool true)] (by kernel_rfl) ?_
            refine over_nil ?_
            simp only [putAll, put_lit, List.set_cons_succ, List.set_cons_zero]
            go_wp2
            first | exact post_of (by rfl) (by rfl) (Below.refl _ _) (by rfl) | exact rfl
          case r4g2 =>
            intro w9 hb
            refine over_some (ds1 := [32]) (ds2 := []) [(.bool true)] (by kernel_rfl) ?_
            refine over_nil ?_
            simp only [putAll, put_lit, List.set_cons_succ, List.set_cons_zero]
            obtain ⟨p0, q0, r0, s0⟩ := (KD.out.next hb).cells
            go_wp2
            first | exact post_of (by rfl) (by rfl) (Below.refl _ _) (by rfl) | exact rfl
          case r4g3 =>
            intro w9 hb
            refine over_some (ds1 := [32]) (ds2 := []) [(.bool true)] (by kernel_rfl) ?_
            refine over_nil ?_
            simp only [putAll, put_lit, List.set_cons_succ, List.set_cons_zero]
            go_wp2
            first | exact post_of (by rfl) (by rfl) (Below.refl _ _) (by rfl) | exact rfl
          case r4g4 =>
            intro w9 hb
            refine over_some (ds1 := [32]) (ds2 := []) [(.bool true)] (by kernel_rfl) ?_
            refine over_nil ?_
            simp only [putAll, put_lit, List.set_cons_succ, List.set_cons_zero]
            go_wp2
            first | exact post_of (by rfl) (by rfl) (Below.refl _ _) (by rfl) | exact rfl
          case r4g5 =>
            intro w9 hb
            refine over_some (ds1 := [32, 34, 35]) (ds2 := []) [(.bool true), (.slice (some ⟨b1, off, none⟩) n c), (.int .i64 (k : Int))] (by kernel_rfl) ?_
            refine over_nil ?_
            simp only [putAll, put_lit, List.set_cons_succ, List.set_cons_zero]
            go_wp2
            first | exact post_of (by rfl) (by rfl) (Below.refl _ _) (by rfl) | exact rfl
          case r4g6 =>
            intro w9 hb
            refine over_some (ds1 := [32, 36]) (ds2 := []) [(.bool true), (.pointer (some ⟨b1, off + k * 4, none⟩))] (by kernel_rfl) ?_
            refine over_nil ?_
            simp only [putAll, put_lit, List.set_cons_succ, List.set_cons_zero]
            obtain ⟨p0, p1, p2, p3⟩ := HCX.out w9 hb
            go_wp2
            first | exact post_of (by rfl) (by rfl) (Below.refl _ _) (by rfl) | exact rfl
          case r4g7 =>
            intro w9 hb
            refine over_some (ds1 := [32, 33, 37]) (ds2 := []) [(.bool true), (.agg #[.int .u8 d.1, .int .u16 d.2.1, .int .u8 d.2.2.1, .slice hd.1 hd.2.1 hd.2.2]), (.agg #[.int .u8 x.1.1, .int .u16 x.1.2.1, .int .u8 x.1.2.2.1, .slice x.2.1 x.2.2.1 x.2.2.2])] (by kernel_rfl) ?_
            refine over_nil ?_
            simp only [putAll, put_lit, List.set_cons_succ, List.set_cons_zero]
            go_wp2_with fail
            have hc2 := isnewer_any (d, hd) x w9
            rw [HNV.out] at hc2
            refine hc2.mono ?_
            clear hc2
            rintro e w8 ⟨rfl, b6⟩
            go_wp2
            exact post_of (by rfl) (by rfl) b6 (by rfl)
          case r4g8 =>
            intro w9 hb
            refine over_some (ds1 := [32, 38]) (ds2 := []) [(.bool true), (.bool false)] (by kernel_rfl) ?_
            refine over_nil ?_
            simp only [putAll, put_lit, List.set_cons_succ, List.set_cons_zero]
            go_wp2
            first | exact post_of (by rfl) (by rfl) (Below.refl _ _) (by rfl) | exact rfl
          case r4g9 =>
            intro w9 hb
            refine over_some (ds1 := [32, 39]) (ds2 := []) [(.bool true), (.bool true)] (by kernel_rfl) ?_
            refine over_nil ?_
            simp only [putAll, put_lit, List.set_cons_succ, List.set_cons_zero]
            go_wp2
            first | exact post_of (by rfl) (by rfl) (Below.refl _ _) (by rfl) | exact rfl
          case r4g10 =>
            intro w9 hb
            refine over_some (ds1 := [40]) (ds2 := []) [(.bool true)] (by kernel_rfl) ?_
            refine over_nil ?_
            simp only [putAll, put_lit, List.set_cons_succ, List.set_cons_zero]
            go_wp2
            first | exact post_of (by rfl) (by rfl) (Below.refl _ _) (by rfl) | exact rfl
          case r4g11 =>
            intro w9 hb
            refine over_some (ds1 := [41]) (ds2 := []) [(.bool true)] (by kernel_rfl) ?_
            refine over_nil ?_
            simp only [putAll, put_lit, List.set_cons_succ, List.set_cons_zero]
            exact post_skip rfl (by kernel_rfl) (by kernel_rfl) (by kernel_rfl) (by kernel_rfl)
          case r4g12 =>
            intro w9 hb
            refine over_some (ds1 := [41, 42]) (ds2 := []) [(.bool true), undef] (by kernel_rfl) ?_
            refine over_nil ?_
            simp only [putAll, put_lit, List.set_cons_succ, List.set_cons_zero]
            exact post_skip rfl (by kernel_rfl) (by kernel_rfl) (by kernel_rfl) (by kernel_rfl)
          case r4g13 =>
            intro w9 hb
            refine over_some (ds1 := [41, 43]) (ds2 := []) [(.bool true), undef] (by kernel_rfl) ?_
            refine over_nil ?_
            simp only [putAll, put_lit, List.set_cons_succ, List.set_cons_zero]
            exact post_skip rfl (by kernel_rfl) (by kernel_rfl) (by kernel_rfl) (by kernel_rfl)
          case r4g14 =>
            intro w9 hb
            refine over_some (ds1 := [44]) (ds2 := []) [undef] (by kernel_rfl) ?_
            refine over_nil ?_
            simp only [putAll, put_lit, List.set_cons_succ, List.set_cons_zero]
            exact post_skip rfl (by kernel_rfl) (by kernel_rfl) (by kernel_rfl) (by kernel_rfl)
          case r4g15 =>
            intro w9 hb
            refine over_some (ds1 := [44, 45]) (ds2 := []) [undef, undef] (by kernel_rfl) ?_
            refine over_nil ?_
            simp only [putAll, put_lit, List.set_cons_succ, List.set_cons_zero]
            exact post_skip rfl (by kernel_rfl) (by kernel_rfl) (by kernel_rfl) (by kernel_rfl)
          case r4g16 =>
            intro w9 hb
            refine over_some (ds1 := [44]) (ds2 := []) [undef] (by kernel_rfl) ?_
            refine over_nil ?_
            simp only [putAll, put_lit, List.set_cons_succ, List.set_cons_zero]
            exact post_skip rfl (by kernel_rfl) (by kernel_rfl) (by kernel_rfl) (by kernel_rfl)
          case r4g17 =>
            intro w9 hb
            refine over_some (ds1 := [44, 46, 47]) (ds2 := []) [undef, undef, undef] (by kernel_rfl) ?_
            refine over_nil ?_
            simp only [putAll, put_lit, List.set_cons_succ, List.set_cons_zero]
            exact post_skip rfl (by kernel_rfl) (by kernel_rfl) (by kernel_rfl) (by kernel_rfl)
          case r4g18 =>
            intro w9 hb
            refine over_some (ds1 := [41, 44, 48]) (ds2 := []) [(.bool true), undef, undef] (by kernel_rfl) ?_
            refine over_nil ?_
            simp only [putAll, put_lit, List.set_cons_succ, List.set_cons_zero]
            exact post_skip rfl (by kernel_rfl) (by kernel_rfl) (by kernel_rfl) (by kernel_rfl)
        · obtain rfl : rf = false := HRH.out
          obtain ⟨p0, p1, p2, p3⟩ := KD.out.cells
          go_upto_region 4 with fail
          clear p0 p1 p2 p3
          refine wp_region_typed 19 [(31, .val (.bool true)), (32, .val (.bool true)), (33, .val (.agg #[.int .u8 d.1, .int .u16 d.2.1, .int .u8 d.2.2.1, .slice hd.1 hd.2.1 hd.2.2])), (34, .val (.slice (some ⟨b1, off, none⟩) n c)), (35, .val (.int .i64 (k : Int))), (36, .val (.pointer (some ⟨b1, off + k * 4, none⟩))), (37, .val (.agg #[.int .u8 x.1.1, .int .u16 x.1.2.1, .int .u8 x.1.2.2.1, .slice x.2.1 x.2.2.1 x.2.2.2])), (38, .val (.bool true)), (39, .val (.bool false)), (40, .val (.bool false)), (41, .val (.bool false)), (42, .val (.bool true)), (43, .val (.bool false)), (44, .val (.bool false)), (45, .val undef), (46, .val undef), (47, .val undef), (48, .val undef), (49, .val (.bool false))]
            [[], [31], [32], [32], [32], [32, 34, 35], [32, 36], [32, 33, 37], [32, 38], [32, 39], [40], [41], [41, 42], [41, 43], [44], [44, 45], [44], [44, 46, 47], [41, 44, 48]] (by kernel_rfl) (by kernel_rfl) ?_ ?_
          rotate_left
          · intro v11 hb
            simp only [List.take_succ_cons, List.take_zero, List.drop_succ_cons, List.drop_zero]
            refine over_ds (ds := [31, 32, 33, 34, 35, 36, 37, 38, 39, 40, 41, 42, 43, 44, 45, 46, 47, 48, 49]) (by kernel_rfl) ?_
            refine over_some (ds1 := [31, 32, 33, 34, 35, 36, 37, 38, 39, 40, 41, 42, 43, 44, 45, 46, 47, 48, 49]) (ds2 := []) [(.bool true), (.bool true), (.agg #[.int .u8 d.1, .int .u16 d.2.1, .int .u8 d.2.2.1, .slice hd.1 hd.2.1 hd.2.2]), (.slice (some ⟨b1, off, none⟩) n c), (.int .i64 (k : Int)), (.pointer (some ⟨b1, off + k * 4, none⟩)), (.agg #[.int .u8 x.1.1, .int .u16 x.1.2.1, .int .u8 x.1.2.2.1, .slice x.2.1 x.2.2.1 x.2.2.2]), (.bool true), (.bool false), (.bool false), (.bool false), (.bool true), (.bool false), (.bool false), undef, undef, undef, undef, (.bool false)] (by kernel_rfl) ?_
            refine over_nil ?_
            simp only [putAll, put_lit, List.set_cons_succ, List.set_cons_zero]
            replace KD := Lib.hid (KD.out.next hb)
            replace S := Lib.hid (S.out.next hb)
            replace F := Lib.hid (F.out.next hb)
            replace B := Lib.hid (thn B.out hb)
            clear hb
            go_wp2_with fail
            refine (HCP.out v11 S.out).mono ?_
            rintro e w4 ⟨q, zs, rfl, hz, dz, b4⟩
            have HZ := Lib.hid hz
            have LQ : Hid (w.heap.size ≤ q) := Nat.le_trans B.out.size dz.ow.rowc.1
            have DZ := Lib.hid (dz.mono B.out.size)
            clear hz dz
            replace KD := Lib.hid (KD.out.next b4)
            replace S := Lib.hid (S.out.next b4)
            replace F := Lib.hid (Sn.next F.out b4)
            replace B := Lib.hid (thn B.out b4)
            clear b4
            obtain ⟨p0, p1, p2, p3⟩ := KD.out.cells
            go_wp2_with fail
            refine (own_any (d, hd) w4 F.out HDL.out).mono ?_
            rintro e w5 ⟨ho, rfl, of, b5⟩
            have OF := Lib.hid (of.mono B.out.size)
            replace DZ := Lib.hid (DZ.out.below b5)
            clear of p0 p1 p2 p3
            replace B := Lib.hid (thn B.out b5)
            clear b5
            clear S F KD
            have HRZ : Hid (RiseX zs) := by show (zs.map (·.1)).Pairwise _; rw [HZ.out]; exact HR.out
            have SPZ : Hid (Spot zs d.1 k true) := spot_same SP.out HZ.out
            have HST : Hid (zs.set k (d, ho) = zs.take k ++ (d, ho) :: zs.drop (k + 1)) := by unfold Hid; rw [List.set_eq_take_append_cons_drop, if_pos (by have := DZ.out.len; omega)]
            have HE : Hid ((zs.take k ++ (d, ho) :: zs.drop (k + 1)).map (·.1) = pd) := by unfold Hid; rw [HYE.out (by trivial), ← HZ.out]; exact spot_ins SPZ.out HRZ.out rfl ho
            have HLZ := Lib.hid DZ.out.len
            obtain ⟨z, hz⟩ : ∃ z, zs[k]? = some z := ⟨_, List.getElem?_eq_getElem (by have := DZ.out.len; omega)⟩
            obtain ⟨d0, d1, d2, d3⟩ := dcs_at zs k z hz
            have c0 := DZ.out.ow.readc (k * 4) _ d0
            have f0 := (DZ.out.ow.therec (k * 4) (by omega)).2
            have c1 := DZ.out.ow.readc (k * 4 + 1) _ d1
            have f1 := (DZ.out.ow.therec (k * 4 + 1) (by omega)).2
            have c2 := DZ.out.ow.readc (k * 4 + 2) _ d2
            have f2 := (DZ.out.ow.therec (k * 4 + 2) (by omega)).2
            have c3 := DZ.out.ow.readc (k * 4 + 3) _ d3
            have f3 := (DZ.out.ow.therec (k * 4 + 3) (by omega)).2
            clear d0 d1 d2 d3 hz
            go_upto_region 10 with fail
            have g7 := grown_row4 w5 q (k * 4) d ho
            have o7 := (((DZ.out.ow.setc (k * 4) (.int .u8 d.1)).setc (k * 4 + 1) (.int .u16 d.2.1)).setc (k * 4 + 2) (.int .u8 d.2.2.1)).setc (k * 4 + 3) (.slice ho.1 ho.2.1 ho.2.2)
            rw [dcs_set4 zs k (d, ho) (by have := DZ.out.len; omega), HST.out] at o7
            have D7 := Lib.hid (DZ.out.insert OF.out o7 g7)
            have B7 := Lib.hid (belowG B.out g7 B.out.size LQ.out)
            clear o7 g7 c0 c1 c2 c3 f0 f1 f2 f3 DZ OF B
            generalize (((w5.setCell ⟨q, k * 4, none⟩ (.int .u8 d.1)).setCell ⟨q, k * 4 + 1, none⟩ (.int .u16 d.2.1)).setCell ⟨q, k * 4 + 2, none⟩ (.int .u8 d.2.2.1)).setCell ⟨q, k * 4 + 3, none⟩ (.slice ho.1 ho.2.1 ho.2.2) = w7 at *
            go_wp2
            go_ret2
            exact ⟨_, _, _, _, rfl, HE.out, D7.out, B7.out⟩
          simp only [List.take_succ_cons, List.take_zero]
          refine ⟨?r4g0, ?r4g1, ?r4g2, ?r4g3, ?r4g4, ?r4g5, ?r4g6, ?r4g7, ?r4g8, ?r4g9, ?r4g10, ?r4g11, ?r4g12, ?r4g13, ?r4g14, ?r4g15, ?r4g16, ?r4g17, ?r4g18, trivial⟩
          case r4g0 =>
            intro w9 hb
            refine over_nil ?_
            go_wp2
            first | exact post_of (by rfl) (by rfl) (Below.refl _ _) (by rfl) | exact rfl
          case r4g1 =>
            intro w9 hb
            refine over_some (ds1 := [31]) (ds2 := []) [(.bool true)] (by kernel_rfl) ?_
            refine over_nil ?_
            simp only [putAll, put_lit, List.set_cons_succ, List.set_cons_zero]
            go_wp2
            first | exact post_of (by rfl) (by rfl) (Below.refl _ _) (by rfl) | exact rfl
          case r4g2 =>
            intro w9 hb
            refine over_some (ds1 := [32]) (ds2 := []) [(.bool true)] (by kernel_rfl) ?_
            refine over_nil ?_
            simp only [putAll, put_lit, List.set_cons_succ, List.set_cons_zero]
            obtain ⟨p0, q0, r0, s0⟩ := (KD.out.next hb).cells
            go_wp2
            first | exact post_of (by rfl) (by rfl) (Below.refl _ _) (by rfl) | exact rfl
          case r4g3 =>
            intro w9 hb
            refine over_some (ds1 := [32]) (ds2 := []) [(.bool true)] (by kernel_rfl) ?_
            refine over_nil ?_
            simp only [putAll, put_lit, List.set_cons_succ, List.set_cons_zero]
            go_wp2
            first | exact post_of (by rfl) (by rfl) (Below.refl _ _) (by rfl) | exact rfl
          case r4g4 =>
            intro w9 hb
            refine over_some (ds1 := [32]) (ds2 := []) [(.bool true)] (by kernel_rfl) ?_
            refine over_nil ?_
            simp only [putAll, put_lit, List.set_cons_succ, List.set_cons_zero]
            go_wp2
            first | exact post_of (by rfl) (by rfl) (Below.refl _ _) (by rfl) | exact rfl
          case r4g5 =>
            intro w9 hb
            refine over_some (ds1 := [32, 34, 35]) (ds2 := []) [(.bool true), (.slice (some ⟨b1, off, none⟩) n c), (.int .i64 (k : Int))] (by kernel_rfl) ?_
            refine over_nil ?_
            simp only [putAll, put_lit, List.set_cons_succ, List.set_cons_zero]
            go_wp2
            first | exact post_of (by rfl) (by rfl) (Below.refl _ _) (by rfl) | exact rfl
          case r4g6 =>
            intro w9 hb
            refine over_some (ds1 := [32, 36]) (ds2 := []) [(.bool true), (.pointer (some ⟨b1, off + k * 4, none⟩))] (by kernel_rfl) ?_
            refine over_nil ?_
            simp only [putAll, put_lit, List.set_cons_succ, List.set_cons_zero]
            obtain ⟨p0, p1, p2, p3⟩ := HCX.out w9 hb
            go_wp2
            first | exact post_of (by rfl) (by rfl) (Below.refl _ _) (by rfl) | exact rfl
          case r4g7 =>
            intro w9 hb
            refine over_some (ds1 := [32, 33, 37]) (ds2 := []) [(.bool true), (.agg #[.int .u8 d.1, .int .u16 d.2.1, .int .u8 d.2.2.1, .slice hd.1 hd.2.1 hd.2.2]), (.agg #[.int .u8 x.1.1, .int .u16 x.1.2.1, .int .u8 x.1.2.2.1, .slice x.2.1 x.2.2.1 x.2.2.2])] (by kernel_rfl) ?_
            refine over_nil ?_
            simp only [putAll, put_lit, List.set_cons_succ, List.set_cons_zero]
            go_wp2_with fail
            have hc2 := isnewer_any (d, hd) x w9
            rw [HNV.out] at hc2
            refine hc2.mono ?_
            clear hc2
            rintro e w8 ⟨rfl, b6⟩
            go_wp2
            exact post_of (by rfl) (by rfl) b6 (by rfl)
          case r4g8 =>
            intro w9 hb
            refine over_some (ds1 := [32, 38]) (ds2 := []) [(.bool true), (.bool true)] (by kernel_rfl) ?_
            refine over_nil ?_
            simp only [putAll, put_lit, List.set_cons_succ, List.set_cons_zero]
            go_wp2
            first | exact post_of (by rfl) (by rfl) (Below.refl _ _) (by rfl) | exact rfl
          case r4g9 =>
            intro w9 hb
            refine over_some (ds1 := [32, 39]) (ds2 := []) [(.bool true), (.bool false)] (by kernel_rfl) ?_
            refine over_nil ?_
            simp only [putAll, put_lit, List.set_cons_succ, List.set_cons_zero]
            go_wp2
            first | exact post_of (by rfl) (by rfl) (Below.refl _ _) (by rfl) | exact rfl
          case r4g10 =>
            intro w9 hb
            refine over_some (ds1 := [40]) (ds2 := []) [(.bool false)] (by kernel_rfl) ?_
            refine over_nil ?_
            simp only [putAll, put_lit, List.set_cons_succ, List.set_cons_zero]
            go_wp2
            first | exact post_of (by rfl) (by rfl) (Below.refl _ _) (by rfl) | exact rfl
          case r4g11 =>
            intro w9 hb
            refine over_some (ds1 := [41]) (ds2 := []) [(.bool false)] (by kernel_rfl) ?_
            refine over_nil ?_
            simp only [putAll, put_lit, List.set_cons_succ, List.set_cons_zero]
            go_wp2
            first | exact post_of (by rfl) (by rfl) (Below.refl _ _) (by rfl) | exact rfl
          case r4g12 =>
            intro w9 hb
            refine over_some (ds1 := [41, 42]) (ds2 := []) [(.bool false), (.bool true)] (by kernel_rfl) ?_
            refine over_nil ?_
            simp only [putAll, put_lit, List.set_cons_succ, List.set_cons_zero]
            go_wp2
            first | exact post_of (by rfl) (by rfl) (Below.refl _ _) (by rfl) | exact rfl
          case r4g13 =>
            intro w9 hb
            refine over_some (ds1 := [41, 43]) (ds2 := []) [(.bool false), (.bool false)] (by kernel_rfl) ?_
            refine over_nil ?_
            simp only [putAll, put_lit, List.set_cons_succ, List.set_cons_zero]
            go_wp2
            first | exact post_of (by rfl) (by rfl) (Below.refl _ _) (by rfl) | exact rfl
          case r4g14 =>
            intro w9 hb
            refine over_some (ds1 := [44]) (ds2 := []) [(.bool false)] (by kernel_rfl) ?_
            refine over_nil ?_
            simp only [putAll, put_lit, List.set_cons_succ, List.set_cons_zero]
            exact post_skip rfl (by kernel_rfl) (by kernel_rfl) (by kernel_rfl) (by kernel_rfl)
          case r4g15 =>
            intro w9 hb
            refine over_some (ds1 := [44, 45]) (ds2 := []) [(.bool false), undef] (by kernel_rfl) ?_
            refine over_nil ?_
            simp only [putAll, put_lit, List.set_cons_succ, List.set_cons_zero]
            exact post_skip rfl (by kernel_rfl) (by kernel_rfl) (by kernel_rfl) (by kernel_rfl)
          case r4g16 =>
            intro w9 hb
            refine over_some (ds1 := [44]) (ds2 := []) [(.bool false)] (by kernel_rfl) ?_
            refine over_nil ?_
            simp only [putAll, put_lit, List.set_cons_succ, List.set_cons_zero]
            exact post_skip rfl (by kernel_rfl) (by kernel_rfl) (by kernel_rfl) (by kernel_rfl)
          case r4g17 =>
            intro w9 hb
            refine over_some (ds1 := [44, 46, 47]) (ds2 := []) [(.bool false), undef, undef] (by kernel_rfl) ?_
            refine over_nil ?_
            simp only [putAll, put_lit, List.set_cons_succ, List.set_cons_zero]
            exact post_skip rfl (by kernel_rfl) (by kernel_rfl) (by kernel_rfl) (by kernel_rfl)
          case r4g18 =>
            intro w9 hb
            refine over_some (ds1 := [41, 44, 48]) (ds2 := []) [(.bool false), (.bool false), undef] (by kernel_rfl) ?_
            refine over_nil ?_
            simp only [putAll, put_lit, List.set_cons_succ, List.set_cons_zero]
            go_wp2
            first | exact post_of (by rfl) (by rfl) (Below.refl _ _) (by rfl) | exact rfl
end Go.Proofs.Ytdkchiodepdclaa
