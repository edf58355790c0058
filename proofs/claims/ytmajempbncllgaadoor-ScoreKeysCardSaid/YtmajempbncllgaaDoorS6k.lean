/- Layer 6: ScoreKeys. -/
import Derived.Test.YtmajempbncllgaaDoorKp
import Derived.Test.YtmajempbncllgaaDoorSch2
namespace Go.Proofs.YtmajempbncllgaaDoor
open Go.RowKit
set_option linter.unusedVariables false
theorem dup_same {l : List Int} {i : Nat} {q : Int × Int} (h : (dupL l)[i]? = some q) : q.1 = q.2 := by
  have := List.mem_of_getElem? h
  obtain ⟨v, _, rfl⟩ := List.mem_map.1 this
  rfl
theorem post_skip' {P : Program} {ops : Array Oper} {T : Tmp → Ty} {D : List Deferred} {o : Oper} {a : Act} {w : World} {d : Tmp} (hd : o.dst = some d) (hD : a.defers = D) (hs : Nat.blt d a.tmps.size = true)
    (hw : Region.wanted o (yielded ops a.tmps) = false) (ht : (T d).holds undef w) : wpList P ops (Post T D o w) [o] a w := by
  unfold wpList
  rw [if_neg (by rw [hw]; decide)]
  refine post_of hd ?_ (Below.refl _ _) ?_
  · rw [hd]; exact hD
  · rw [hd, put_at hs]; exact ht
/-- A value that is there where g holds. -/
def tyIf (g : Bool) (u : Value) : Ty := .pred (fun v _ => g = true → v = u) (fun _ _ _ h _ => h)
theorem over_if {T : Tmp → Ty} {d : Tmp} {ds : List Tmp} {a : Act} {w : World} {K : Act → Prop} (g : Bool) (u : Value) (h : T d = tyIf g u) (k : ∀ v, (g = true → v = u) → over T ds (a.put (some d) v) w K) : over T (d :: ds) a w K := over_pred h k
theorem over_some {T : Tmp → Ty} {w : World} {K : Act → Prop} {ds2 : List Tmp} : ∀ {ds1 : List Tmp} (vs : List Value) {a : Act}, ds1.map T = vs.map .val → over T ds2 (putAll ds1 vs a) w K → over T (ds1 ++ ds2) a w K
  | [], vs, a, _, k => by
    cases vs <;> exact k
  | d :: ds, [], a, h, _ => by cases h
  | d :: ds, v :: vs, a, h, k => by
    simp only [List.map_cons, List.cons.injEq] at h
    exact over_val h.1 (over_some vs h.2 k)
theorem over_ds {T : Tmp → Ty} {w : World} {K : Act → Prop} {l : List Oper} {a : Act} {ds : List Tmp} (h : dstsOf l = ds) (k : over T ds a w K) : over T (dstsOf l) a w K := by rw [h]; exact k
theorem wrap_ge {d : Int} (h0 : 0 ≤ d) (h1 : d ≤ 4294967295) (h : 3 ≤ wrap32 d) : 3 ≤ d := by unfold wrap32 at h; omega
def tyS (xs : List (Int × Int)) (n : Nat) : Ty := .pred (fun v w => ∃ A c, v = .slice A n c ∧ Sp w w.heap.size A n c xs) (fun _ _ _ ⟨A, c, h, s⟩ hb => ⟨A, c, h, s.next hb⟩)
set_option maxRecDepth 100000 in
set_option maxHeartbeats 8000000 in
theorem skeys_walk (A0 : Option Addr) (n0 c0 : Nat) (ps : List (Int × Int)) (A1 : Option Addr) (n1 c1 : Nat) (xs : List Int) (A2 : Option Addr) (n2 c2 : Nat) (ys : List Int) (w : World) (hT : Tab w) (i0 : ∀ p ∈ ps, inR p)
    (h0 : Sp w w.heap.size A0 n0 c0 ps) (h1 : Si w w.heap.size A1 n1 c1 xs) (h2 : Si w w.heap.size A2 n2 c2 ys) :
    Calls Tryd.prog 8 #[.slice A0 n0 c0, .slice A1 n1 c1, .slice A2 n2 c2] w fun e w' => e = .returned (.bool true) ∧ Below w.heap.size w w' := by
  have HL0 := Lib.hid (sp_len h0)
  have I0 := Lib.hid i0
  have bX := below_lit w (.cells #[.slice A0 n0 c0] 23)
  have HT := Lib.hid (hT.next bX)
  have S0 := Lib.hid (h0.next bX)
  have S1 := Lib.hid (h1.next bX)
  have S2 := Lib.hid (h2.next bX)
  have B := Lib.hid bX
  have K : Hid (Boxed (w.alloc (.cells #[.slice A0 n0 c0] 23)) w.heap.size 23 (.slice A0 n0 c0)) := Boxed.new w _ _
  clear hT h0 h1 h2 i0 bX
  by_cases fn0 : n0 ≤ 8
  rotate_left
  · have en0 : (8 : Int) < (n0 : Int) := by omega
    go_enter Tryd.func8, Tryd.ntmps8
    go_wp2_with fail
    generalize w.alloc _ = W1 at *
    obtain ⟨g3, hg3⟩ : ∃ g3, w.heap.size = g3 := ⟨_, rfl⟩
    have B0 := B
    rw [hg3] at K ⊢
    refine (awake_any W1 HT.out).mono ?_
    rintro e w1 ⟨rfl, b5⟩
    replace B := Lib.hid (thn B.out b5)
    clear b5
    go_wp2
    go_ret
    exact ⟨rfl, by first | exact B.out | (rw [← hg3]; exact B.out)⟩
  have en0 : (n0 : Int) ≤ 8 := by omega
  by_cases fn1 : n1 ≤ 20
  rotate_left
  · have en1 : (20 : Int) < (n1 : Int) := by omega
    go_enter Tryd.func8, Tryd.ntmps8
    go_wp2_with fail
    generalize w.alloc _ = W1 at *
    obtain ⟨g3, hg3⟩ : ∃ g3, w.heap.size = g3 := ⟨_, rfl⟩
    have B0 := B
    rw [hg3] at K ⊢
    refine (awake_any W1 HT.out).mono ?_
    rintro e w1 ⟨rfl, b5⟩
    replace B := Lib.hid (thn B.out b5)
    clear b5
    go_wp2
    go_ret
    exact ⟨rfl, by first | exact B.out | (rw [← hg3]; exact B.out)⟩
  have en1 : (n1 : Int) ≤ 20 := by omega
  by_cases fn2 : n2 ≤ 20
  rotate_left
  · have en2 : (20 : Int) < (n2 : Int) := by omega
    go_enter Tryd.func8, Tryd.ntmps8
    go_wp2_with fail
    generalize w.alloc _ = W1 at *
    obtain ⟨g3, hg3⟩ : ∃ g3, w.heap.size = g3 := ⟨_, rfl⟩
    have B0 := B
    rw [hg3] at K ⊢
    refine (awake_any W1 HT.out).mono ?_
    rintro e w1 ⟨rfl, b5⟩
    replace B := Lib.hid (thn B.out b5)
    clear b5
    go_wp2
    go_ret
    exact ⟨rfl, by first | exact B.out | (rw [← hg3]; exact B.out)⟩
  have en2 : (n2 : Int) ≤ 20 := by omega
  obtain ⟨r, Hr⟩ : ∃ r, Hid (rightB ps = r) := ⟨_, rfl⟩
  cases r
  · go_enter Tryd.func8, Tryd.ntmps8
    go_wp2_with fail
    generalize w.alloc _ = W1 at *
    obtain ⟨g3, hg3⟩ : ∃ g3, w.heap.size = g3 := ⟨_, rfl⟩
    have B0 := B
    rw [hg3] at K ⊢
    have hc := right_any A0 n0 c0 W1.heap.size ps W1 S0.out (Nat.le_refl _)
    rw [Hr.out] at hc
    refine hc.mono ?_
    clear hc
    rintro e w1 ⟨rfl, b5⟩
    replace S0 := Lib.hid (S0.out.next b5)
    replace S1 := Lib.hid (S1.out.next b5)
    replace S2 := Lib.hid (S2.out.next b5)
    replace HT := Lib.hid (HT.out.next b5)
    replace B := Lib.hid (thn B.out b5)
    replace K := Lib.hid (boxed_next K.out b5)
    clear b5
    go_wp2_with fail
    refine (awake_any w1 HT.out).mono ?_
    rintro e w2 ⟨rfl, b5⟩
    replace B := Lib.hid (thn B.out b5)
    clear b5
    go_wp2
    go_ret
    exact ⟨rfl, by first | exact B.out | (rw [← hg3]; exact B.out)⟩
  · have hR := rightB_get Hr.out
    have hn1 : 1 ≤ n0 := by rw [HL0.out]; exact hR.1
    have hn4 : n0 ≤ 4 := by rw [HL0.out]; exact hR.2.1
    have HO := Lib.hid hR.2.2
    obtain ⟨us, Hus⟩ : ∃ us, Hid (dupL (bringL ps xs) = us) := ⟨_, rfl⟩
    obtain ⟨vs, Hvs⟩ : ∃ vs, Hid (dupL (bringL ps ys) = vs) := ⟨_, rfl⟩
    have RU : Hid (rightF ps us = true) := by rw [← Hus.out]; exact dup_right xs HO.out
    have RV : Hid (rightF ps vs = true) := by rw [← Hvs.out]; exact dup_right ys HO.out
    have IU : Hid (∀ q ∈ us, inR q) := by rw [← Hus.out]; exact dup_in xs I0.out HO.out
    have IV : Hid (∀ q ∈ vs, inR q) := by rw [← Hvs.out]; exact dup_in ys I0.out HO.out
    have DU : Hid (∀ (i : Nat) (q : Int × Int), us[i]? = some q → q.1 = q.2) := fun i q h => by rw [← Hus.out] at h; exact dup_same h
    have DV : Hid (∀ (i : Nat) (q : Int × Int), vs[i]? = some q → q.1 = q.2) := fun i q h => by rw [← Hvs.out] at h; exact dup_same h
    have LU : Hid (us.length = n0) := by rw [← Hus.out]; unfold Hid; rw [dupL_length, bringL_length, HL0.out]
    have LV : Hid (vs.length = n0) := by rw [← Hvs.out]; unfold Hid; rw [dupL_length, bringL_length, HL0.out]
    clear hR
    go_enter Tryd.func8, Tryd.ntmps8
    go_wp2_with fail
    generalize w.alloc _ = W1 at *
    obtain ⟨g3, hg3⟩ : ∃ g3, w.heap.size = g3 := ⟨_, rfl⟩
    have B0 := B
    rw [hg3] at K ⊢
    have hc := right_any A0 n0 c0 W1.heap.size ps W1 S0.out (Nat.le_refl _)
    rw [Hr.out] at hc
    refine hc.mono ?_
    clear hc
    rintro e w1 ⟨rfl, b5⟩
    replace S0 := Lib.hid (S0.out.next b5)
    replace S1 := Lib.hid (S1.out.next b5)
    replace S2 := Lib.hid (S2.out.next b5)
    replace HT := Lib.hid (HT.out.next b5)
    replace B := Lib.hid (thn B.out b5)
    replace K := Lib.hid (boxed_next K.out b5)
    clear b5
    go_wp2_with fail
    have hc := point_any A0 n0 c0 ps A1 n1 c1 xs K.out S0.out S1.out hn4
    rw [Hus.out] at hc
    refine hc.mono ?_
    clear hc
    rintro e w2 ⟨Au, cu, rfl, su, b5⟩
    have Su := Lib.hid su
    clear su
    replace S0 := Lib.hid (S0.out.next b5)
    replace S1 := Lib.hid (S1.out.next b5)
    replace S2 := Lib.hid (S2.out.next b5)
    replace HT := Lib.hid (HT.out.next b5)
    replace B := Lib.hid (thn B.out b5)
    replace K := Lib.hid (boxed_next K.out b5)
    clear b5
    go_wp2_with fail
    have hc := point_any A0 n0 c0 ps A2 n2 c2 ys K.out S0.out S2.out hn4
    rw [Hvs.out] at hc
    refine hc.mono ?_
    clear hc
    rintro e w3 ⟨Av, cv, rfl, sv, b5⟩
    have Sv := Lib.hid sv
    clear sv
    replace S0 := Lib.hid (S0.out.next b5)
    replace S1 := Lib.hid (S1.out.next b5)
    replace S2 := Lib.hid (S2.out.next b5)
    replace Su := Lib.hid (Su.out.next b5)
    replace HT := Lib.hid (HT.out.next b5)
    replace B := Lib.hid (thn B.out b5)
    replace K := Lib.hid (boxed_next K.out b5)
    clear b5
    clear S1 S2 Hus Hvs
    have cK := K.out.cell
    have neS : ((n0 : Int) != (n0 : Int)) = false := by simp
    go_wp2
    clear cK
    go_loopw [10, 11, 57] (fun kv lv iv wr => ∃ (i : Nat) (kk ll : Int), i ≤ n0 ∧ iv = .int .i64 i ∧ kv = .int .i64 kk ∧ lv = .int .i64 ll ∧ Hid (kk = keyN ps us i) ∧ Hid (ll = keyN ps vs i) ∧ Below w3.heap.size w3 wr) (fun _ _ iv _ => n0 - (intOf iv).toNat)
    case atStart => exact ⟨0, 0, 0, Nat.zero_le _, rfl, rfl, rfl, rfl, rfl, Below.refl _ _⟩
    case round =>
      obtain ⟨i, kk, ll, hi, rfl, rfl, rfl, HK, HL, b2⟩ := hrel
      have j0 : (0 : Int) ≤ (i : Int) := by omega
      have B3w := Lib.hid b2
      have SS := Lib.hid (S0.out.next b2)
      have SU := Lib.hid (Su.out.next b2)
      have SV := Lib.hid (Sv.out.next b2)
      have KB := Lib.hid (boxed_next K.out b2)
      have HTr := Lib.hid (HT.out.next b2)
      have Br := Lib.hid (thn B.out b2)
      have hkb := keyN_byte RU.out (by rw [LU.out]; exact hn4) i (by rw [LU.out]; exact hi)
      have hlb := keyN_byte RV.out (by rw [LV.out]; exact hn4) i (by rw [LV.out]; exact hi)
      rw [← HK.out] at hkb
      rw [← HL.out] at hlb
      obtain ⟨hk0, hk1⟩ := hkb
      obtain ⟨hl0, hl1⟩ := hlb
      clear b2
      by_cases hlt : i < n0
      · have j1 : (i : Int) < (n0 : Int) := by omega
        obtain ⟨b, off, p, rfl, hp, HX⟩ := sp_cells SS.out hlt
        obtain ⟨b1, off1, q, rfl, hq, HU⟩ := sp_cells SU.out hlt
        obtain ⟨b2, off2, r, rfl, hr, HV⟩ := sp_cells SV.out hlt
        have SS1 := Lib.hid (sp_one SS.out hlt hp)
        have SU1 := Lib.hid (sp_one SU.out hlt hq)
        have SV1 := Lib.hid (sp_one SV.out hlt hr)
        have hpi := I0.out p (List.mem_of_getElem? hp)
        have IP : Hid (∀ z ∈ [p], inR z) := fun z hz => by rw [List.mem_singleton.1 hz]; exact hpi
        obtain ⟨⟨p0, p1⟩, p2, p3⟩ := hpi
        have hoq := ok_get RU.out hp hq
        have hor := ok_get RV.out hp hr
        have kq := quar_of hoq
        have kr := quar_of hor
        unfold okF at hoq hor
        simp only [Bool.and_eq_true, decide_eq_true_eq] at hoq hor
        obtain ⟨x, y⟩ := q
        obtain ⟨z, t⟩ := r
        obtain rfl : x = y := DU.out i _ hq
        obtain rfl : z = t := DV.out i _ hr
        simp only at hoq hor HU HV
        obtain ⟨⟨-, x0⟩, x1⟩ := hoq
        obtain ⟨⟨-, z0⟩, z1⟩ := hor
        have RX := Lib.hid (one_right x0 x1)
        have RZ := Lib.hid (one_right z0 z1)
        have IXX : Hid (∀ q ∈ [(x, x)], inR q) := fun q hq => by rw [List.mem_singleton.1 hq]; exact ⟨⟨by simp only; omega, by simp only; omega⟩, by simp only; omega, by simp only; omega⟩
        have IZZ : Hid (∀ q ∈ [(z, z)], inR q) := fun q hq => by rw [List.mem_singleton.1 hq]; exact ⟨⟨by simp only; omega, by simp only; omega⟩, by simp only; omega, by simp only; omega⟩
        have hmono : x ≤ z → quarF p (x, x) ≤ quarF p (z, z) := quar_mono (by omega)
        have HKs := Lib.hid (keyN_succ hp hq)
        have HLs := Lib.hid (keyN_succ hp hr)
        rw [← HK.out] at HKs
        rw [← HL.out] at HLs
        have hkb2 := keyN_byte RU.out (by rw [LU.out]; exact hn4) (i + 1) (by rw [LU.out]; exact hlt)
        have hlb2 := keyN_byte RV.out (by rw [LV.out]; exact hn4) (i + 1) (by rw [LV.out]; exact hlt)
        rw [HKs.out] at hkb2
        rw [HLs.out] at hlb2
        have HF := Lib.hid (quar_first (r := p) (by omega))
        have HG : Hid (3 ≤ p.2 - p.1 → quarF p (p.2, p.2) = 3) := quar_last
        have RF := Lib.hid (one_right (p := p) (v := p.1) (by omega) (by omega))
        have RG := Lib.hid (one_right (p := p) (v := p.2) (by omega) (by omega))
        have IF1 : Hid (∀ q ∈ [(p.1, p.1)], inR q) := fun q hq => by rw [List.mem_singleton.1 hq]; exact ⟨⟨by simp only; omega, by simp only; omega⟩, by simp only; omega, by simp only; omega⟩
        have IG1 : Hid (∀ q ∈ [(p.2, p.2)], inR q) := fun q hq => by rw [List.mem_singleton.1 hq]; exact ⟨⟨by simp only; omega, by simp only; omega⟩, by simp only; omega, by simp only; omega⟩
        have H1 := Lib.hid (keyF_one p (x, x))
        have H2 := Lib.hid (keyF_one p (z, z))
        have H3 := Lib.hid (keyF_one p (p.1, p.1))
        have H4 := Lib.hid (keyF_one p (p.2, p.2))
        rw [HF.out] at H3
        generalize quarF p (x, x) = k at *
        generalize quarF p (z, z) = l at *
        generalize quarF p (p.2, p.2) = m at *
        obtain ⟨kq0, kq1⟩ := kq
        obtain ⟨kr0, kr1⟩ := kr
        obtain ⟨hk2, hk3⟩ := hkb2
        obtain ⟨hl2, hl3⟩ := hlb2
        clear hp hq hr HF
        obtain ⟨zz, Hzz⟩ : ∃ zz, Hid (decide (x ≤ z) = zz) := ⟨_, rfl⟩
        obtain ⟨D, HD⟩ : ∃ D, Hid (wrap32 (p.2 - p.1) = D) := ⟨_, rfl⟩
        obtain ⟨gg, Hgg⟩ : ∃ gg, Hid (decide (3 ≤ D) = gg) := ⟨_, rfl⟩
        have HG2 : Hid (gg = true → m = 3) := fun hg => HG.out (wrap_ge (by omega) (by omega) (by rw [HD.out]; rw [hg] at Hgg; exact of_decide_eq_true Hgg.out))
        have BR := Lib.hid (Below.refl wr.heap.size wr)
        have hsz : off + i * 2 + 1 = off + i * 2 + 1 := rfl
        have hcap0 := SS.out.cap
        have hcap1 := SU.out.cap
        have hcap2 := SV.out.cap
        have hmx0 := SS.out.max
        have hmx1 := SU.out.max
        have hmx2 := SV.out.max
        unfold maxLen at hmx0 hmx1 hmx2
        have cK := KB.out.cell
        go_wp2
        refine wp_region_typed 26 [(60, .val (.slice (some ⟨b, off, none⟩) n0 c0)), (61, .val (.int .i64 i)), (62, .val (.int .i64 i)), (63, .val (.int .i64 ((i : Int) + 1))), (64, .val (.slice (some ⟨b, off + i * 2, none⟩) 1 (c0 - i))), (65, .val (.slice (some ⟨b1, off1, none⟩) n0 cu)), (66, .val (.int .i64 i)), (67, .val (.int .i64 i)), (68, .val (.int .i64 ((i : Int) + 1))), (69, .val (.slice (some ⟨b1, off1 + i * 2, none⟩) 1 (cu - i))), (70, .val (.int .u8 k)), (71, .val (.int .i64 k)), (72, .val (.slice (some ⟨b, off, none⟩) n0 c0)), (73, .val (.int .i64 i)), (74, .val (.int .i64 i)), (75, .val (.int .i64 ((i : Int) + 1))), (76, .val (.slice (some ⟨b, off + i * 2, none⟩) 1 (c0 - i))), (77, .val (.slice (some ⟨b2, off2, none⟩) n0 cv)), (78, .val (.int .i64 i)), (79, .val (.int .i64 i)), (80, .val (.int .i64 ((i : Int) + 1))), (81, .val (.slice (some ⟨b2, off2 + i * 2, none⟩) 1 (cv - i))), (82, .val (.int .u8 l)), (83, .val (.int .i64 l)), (13, .val (.int .i64 k)), (14, .val (.int .i64 l))]
          [[], [], [], [62], [60, 61, 63], [], [], [], [67], [65, 66, 68], [64, 69], [70], [], [], [], [74], [72, 73, 75], [], [], [], [79], [77, 78, 80], [76, 81], [82], [71], [83]] (by kernel_rfl) (by kernel_rfl) ?_ ?_
        rotate_left
        · intro w9 hb
          simp only [List.take_succ_cons, List.take_zero, List.drop_succ_cons, List.drop_zero]
          refine over_ds (ds := [60, 61, 62, 63, 64, 65, 66, 67, 68, 69, 70, 71, 72, 73, 74, 75, 76, 77, 78, 79, 80, 81, 82, 83, 13, 14]) (by kernel_rfl) ?_
          refine over_some (ds1 := [60, 61, 62, 63, 64, 65, 66, 67, 68, 69, 70, 71, 72, 73, 74, 75, 76, 77, 78, 79, 80, 81, 82, 83, 13, 14]) (ds2 := []) [(.slice (some ⟨b, off, none⟩) n0 c0), (.int .i64 i), (.int .i64 i), (.int .i64 ((i : Int) + 1)), (.slice (some ⟨b, off + i * 2, none⟩) 1 (c0 - i)), (.slice (some ⟨b1, off1, none⟩) n0 cu), (.int .i64 i), (.int .i64 i), (.int .i64 ((i : Int) + 1)), (.slice (some ⟨b1, off1 + i * 2, none⟩) 1 (cu - i)), (.int .u8 k), (.int .i64 k), (.slice (some ⟨b, off, none⟩) n0 c0), (.int .i64 i), (.int .i64 i), (.int .i64 ((i : Int) + 1)), (.slice (some ⟨b, off + i * 2, none⟩) 1 (c0 - i)), (.slice (some ⟨b2, off2, none⟩) n0 cv), (.int .i64 i), (.int .i64 i), (.int .i64 ((i : Int) + 1)), (.slice (some ⟨b2, off2 + i * 2, none⟩) 1 (cv - i)), (.int .u8 l), (.int .i64 l), (.int .i64 k), (.int .i64 l)] (by kernel_rfl) ?_
          refine over_nil ?_
          simp only [putAll, put_lit, List.set_cons_succ, List.set_cons_zero]
          clear cK
          replace SS := Lib.hid (SS.out.next hb)
          replace SU := Lib.hid (SU.out.next hb)
          replace SV := Lib.hid (SV.out.next hb)
          replace SS1 := Lib.hid (SS1.out.next hb)
          replace SU1 := Lib.hid (SU1.out.next hb)
          replace SV1 := Lib.hid (SV1.out.next hb)
          replace HTr := Lib.hid (HTr.out.next hb)
          replace KB := Lib.hid (boxed_next KB.out hb)
          replace Br := Lib.hid (thn Br.out hb)
          replace BR := Lib.hid (thn BR.out hb)
          clear hb
          go_wp2
          refine wp_region_typed 24 [(84, .val (.int .i64 k)), (85, .val (.bool false)), (86, .val (.bool false)), (87, .val (.int .i64 l)), (88, .val (.bool false)), (89, .val (.bool false)), (90, .val (.bool false)), (91, .val (.slice (some ⟨b1, off1, none⟩) n0 cu)), (92, .val (.int .i64 i)), (93, .val (.pointer (some ⟨b1, off1 + i * 2, none⟩))), (94, .val (.pointer (some ⟨b1, off1 + i * 2, none⟩))), (95, .val (.int .i32 x)), (96, .val (.slice (some ⟨b2, off2, none⟩) n0 cv)), (97, .val (.int .i64 i)), (98, .val (.pointer (some ⟨b2, off2 + i * 2, none⟩))), (99, .val (.pointer (some ⟨b2, off2 + i * 2, none⟩))), (100, .val (.int .i32 z)), (101, .val (.bool zz)), (102, .val (.bool zz)), (103, tyIf zz (.int .i64 k)), (104, tyIf zz (.int .i64 l)), (105, tyIf zz (.bool false)), (106, .val (.bool false)), (107, .val (.bool false))]
            [[], [84], [85], [86], [86, 87], [86, 88], [89], [90], [90], [90, 91, 92], [90, 93], [90, 94], [90], [90], [90, 96, 97], [90, 98], [90, 99], [90, 95, 100], [90, 101], [102], [102], [102, 103, 104], [90, 102, 105], [90, 106]] (by kernel_rfl) (by kernel_rfl) ?_ ?_
          rotate_left
          · intro w9 hb
            simp only [List.take_succ_cons, List.take_zero, List.drop_succ_cons, List.drop_zero]
            refine over_ds (ds := [84, 85, 86, 87, 88, 89, 90, 91, 92, 93, 94, 95, 96, 97, 98, 99, 100, 101, 102, 103, 104, 105, 106, 107]) (by kernel_rfl) ?_
            refine over_some (ds1 := [84, 85, 86, 87, 88, 89, 90, 91, 92, 93, 94, 95, 96, 97, 98, 99, 100, 101, 102]) (ds2 := [103, 104, 105, 106, 107]) [(.int .i64 k), (.bool false), (.bool false), (.int .i64 l), (.bool false), (.bool false), (.bool false), (.slice (some ⟨b1, off1, none⟩) n0 cu), (.int .i64 i), (.pointer (some ⟨b1, off1 + i * 2, none⟩)), (.pointer (some ⟨b1, off1 + i * 2, none⟩)), (.int .i32 x), (.slice (some ⟨b2, off2, none⟩) n0 cv), (.int .i64 i), (.pointer (some ⟨b2, off2 + i * 2, none⟩)), (.pointer (some ⟨b2, off2 + i * 2, none⟩)), (.int .i32 z), (.bool zz), (.bool zz)] (by kernel_rfl) ?_
            refine over_if zz (.int .i64 k) (by kernel_rfl) ?_
            intro y1 hy1
            refine over_if zz (.int .i64 l) (by kernel_rfl) ?_
            intro y2 hy2
            refine over_if zz (.bool false) (by kernel_rfl) ?_
            intro y3 hy3
            refine over_some (ds1 := [106, 107]) (ds2 := []) [(.bool false), (.bool false)] (by kernel_rfl) ?_
            refine over_nil ?_
            simp only [putAll, put_lit, List.set_cons_succ, List.set_cons_zero]
            replace SS := Lib.hid (SS.out.next hb)
            replace SU := Lib.hid (SU.out.next hb)
            replace SV := Lib.hid (SV.out.next hb)
            replace SS1 := Lib.hid (SS1.out.next hb)
            replace SU1 := Lib.hid (SU1.out.next hb)
            replace SV1 := Lib.hid (SV1.out.next hb)
            replace HTr := Lib.hid (HTr.out.next hb)
            replace KB := Lib.hid (boxed_next KB.out hb)
            replace Br := Lib.hid (thn Br.out hb)
            replace BR := Lib.hid (thn BR.out hb)
            clear hb
            go_wp2
            refine wp_region_typed 13 [(108, .val (.slice (some ⟨b, off, none⟩) n0 c0)), (109, .val (.int .i64 i)), (110, .val (.pointer (some ⟨b, off + i * 2, none⟩))), (111, .val (.pointer (some ⟨b, off + i * 2, none⟩))), (112, .val (.int .i32 p.1)), (113, .val (.slice (some ⟨b, off, none⟩) n0 c0)), (114, .val (.int .i64 i)), (115, .val (.pointer (some ⟨b, off + i * 2, none⟩))), (116, .val (.pointer (some ⟨b, off + i * 2, none⟩))), (117, .val (.int .i32 p.1)), (118, .val (.agg #[.int .i32 p.1, .int .i32 p.1])), (119, tyS [(p.1, p.1)] 1), (15, tyS [(p.1, p.1)] 1)]
              [[], [], [108, 109], [110], [111], [], [], [113, 114], [115], [116], [112, 117], [118], [119]] (by kernel_rfl) (by kernel_rfl) ?_ ?_
            rotate_left
            · intro w9 hb
              simp only [List.take_succ_cons, List.take_zero, List.drop_succ_cons, List.drop_zero]
              refine over_ds (ds := [108, 109, 110, 111, 112, 113, 114, 115, 116, 117, 118, 119, 15]) (by kernel_rfl) ?_
              refine over_some (ds1 := [108, 109, 110, 111, 112, 113, 114, 115, 116, 117, 118]) (ds2 := [119, 15]) [(.slice (some ⟨b, off, none⟩) n0 c0), (.int .i64 i), (.pointer (some ⟨b, off + i * 2, none⟩)), (.pointer (some ⟨b, off + i * 2, none⟩)), (.int .i32 p.1), (.slice (some ⟨b, off, none⟩) n0 c0), (.int .i64 i), (.pointer (some ⟨b, off + i * 2, none⟩)), (.pointer (some ⟨b, off + i * 2, none⟩)), (.int .i32 p.1), (.agg #[.int .i32 p.1, .int .i32 p.1])] (by kernel_rfl) ?_
              refine over_pred rfl ?_
              rintro _ ⟨A14, c14, rfl, s14⟩
              refine over_pred rfl ?_
              rintro _ ⟨A14, c14, rfl, s14⟩
              refine over_nil ?_
              simp only [putAll, put_lit, List.set_cons_succ, List.set_cons_zero]
              replace SS := Lib.hid (SS.out.next hb)
              replace SU := Lib.hid (SU.out.next hb)
              replace SV := Lib.hid (SV.out.next hb)
              replace SS1 := Lib.hid (SS1.out.next hb)
              replace SU1 := Lib.hid (SU1.out.next hb)
              replace SV1 := Lib.hid (SV1.out.next hb)
              replace HTr := Lib.hid (HTr.out.next hb)
              replace KB := Lib.hid (boxed_next KB.out hb)
              replace Br := Lib.hid (thn Br.out hb)
              replace BR := Lib.hid (thn BR.out hb)
              clear hb
              have S14 := Lib.hid s14
              clear s14
              go_wp2
              refine wp_region_typed 13 [(120, .val (.slice (some ⟨b, off, none⟩) n0 c0)), (121, .val (.int .i64 i)), (122, .val (.pointer (some ⟨b, off + i * 2, none⟩))), (123, .val (.pointer (some ⟨b, off + i * 2 + 1, none⟩))), (124, .val (.int .i32 p.2)), (125, .val (.slice (some ⟨b, off, none⟩) n0 c0)), (126, .val (.int .i64 i)), (127, .val (.pointer (some ⟨b, off + i * 2, none⟩))), (128, .val (.pointer (some ⟨b, off + i * 2 + 1, none⟩))), (129, .val (.int .i32 p.2)), (130, .val (.agg #[.int .i32 p.2, .int .i32 p.2])), (131, tyS [(p.2, p.2)] 1), (16, tyS [(p.2, p.2)] 1)]
                [[], [], [120, 121], [122], [123], [], [], [125, 126], [127], [128], [124, 129], [130], [131]] (by kernel_rfl) (by kernel_rfl) ?_ ?_
              rotate_left
              · intro w9 hb
                simp only [List.take_succ_cons, List.take_zero, List.drop_succ_cons, List.drop_zero]
                refine over_ds (ds := [120, 121, 122, 123, 124, 125, 126, 127, 128, 129, 130, 131, 16]) (by kernel_rfl) ?_
                refine over_some (ds1 := [120, 121, 122, 123, 124, 125, 126, 127, 128, 129, 130]) (ds2 := [131, 16]) [(.slice (some ⟨b, off, none⟩) n0 c0), (.int .i64 i), (.pointer (some ⟨b, off + i * 2, none⟩)), (.pointer (some ⟨b, off + i * 2 + 1, none⟩)), (.int .i32 p.2), (.slice (some ⟨b, off, none⟩) n0 c0), (.int .i64 i), (.pointer (some ⟨b, off + i * 2, none⟩)), (.pointer (some ⟨b, off + i * 2 + 1, none⟩)), (.int .i32 p.2), (.agg #[.int .i32 p.2, .int .i32 p.2])] (by kernel_rfl) ?_
                refine over_pred rfl ?_
                rintro _ ⟨A15, c15, rfl, s15⟩
                refine over_pred rfl ?_
                rintro _ ⟨A15, c15, rfl, s15⟩
                refine over_nil ?_
                simp only [putAll, put_lit, List.set_cons_succ, List.set_cons_zero]
                replace SS := Lib.hid (SS.out.next hb)
                replace SU := Lib.hid (SU.out.next hb)
                replace SV := Lib.hid (SV.out.next hb)
                replace SS1 := Lib.hid (SS1.out.next hb)
                replace SU1 := Lib.hid (SU1.out.next hb)
                replace SV1 := Lib.hid (SV1.out.next hb)
                replace HTr := Lib.hid (HTr.out.next hb)
                replace KB := Lib.hid (boxed_next KB.out hb)
                replace Br := Lib.hid (thn Br.out hb)
                replace BR := Lib.hid (thn BR.out hb)
                replace S14 := Lib.hid (S14.out.next hb)
                clear hb
                have S15 := Lib.hid s15
                clear s15
                go_wp2
                refine wp_region_typed 32 [(132, .val (.slice (some ⟨b, off, none⟩) n0 c0)), (133, .val (.int .i64 i)), (134, .val (.int .i64 i)), (135, .val (.int .i64 ((i : Int) + 1))), (136, .val (.slice (some ⟨b, off + i * 2, none⟩) 1 (c0 - i))), (137, .val (.slice A14 1 c14)), (138, .val (.int .u8 0)), (139, .val (.bool false)), (140, .val (.bool false)), (141, .val (.slice (some ⟨b, off, none⟩) n0 c0)), (142, .val (.int .i64 i)), (143, .val (.pointer (some ⟨b, off + i * 2, none⟩))), (144, .val (.pointer (some ⟨b, off + i * 2 + 1, none⟩))), (145, .val (.int .i32 p.2)), (146, .val (.slice (some ⟨b, off, none⟩) n0 c0)), (147, .val (.int .i64 i)), (148, .val (.pointer (some ⟨b, off + i * 2, none⟩))), (149, .val (.pointer (some ⟨b, off + i * 2, none⟩))), (150, .val (.int .i32 p.1)), (151, .val (.int .i32 D)), (152, .val (.bool gg)), (153, .val (.bool gg)), (154, tyIf gg (.slice (some ⟨b, off, none⟩) n0 c0)), (155, tyIf gg (.int .i64 i)), (156, tyIf gg (.int .i64 i)), (157, tyIf gg (.int .i64 ((i : Int) + 1))), (158, tyIf gg (.slice (some ⟨b, off + i * 2, none⟩) 1 (c0 - i))), (159, tyIf gg (.slice A15 1 c15)), (160, tyIf gg (.int .u8 3)), (161, tyIf gg (.bool false)), (162, .val (.bool false)), (163, .val (.bool false))]
                  [[], [], [], [134], [132, 133, 135], [], [136, 137], [138], [139], [140], [140], [140, 141, 142], [140, 143], [140, 144], [140], [140], [140, 146, 147], [140, 148], [140, 149], [140, 145, 150], [140, 151], [140, 152], [153], [153], [153], [153, 156], [153, 154, 155, 157], [153], [153, 158, 159], [153, 160], [140, 153, 161], [140, 162]] (by kernel_rfl) (by kernel_rfl) ?_ ?_
                rotate_left
                · intro w9 hb
                  simp only [List.take_succ_cons, List.take_zero, List.drop_succ_cons, List.drop_zero]
                  refine over_ds (ds := [132, 133, 134, 135, 136, 137, 138, 139, 140, 141, 142, 143, 144, 145, 146, 147, 148, 149, 150, 151, 152, 153, 154, 155, 156, 157, 158, 159, 160, 161, 162, 163]) (by kernel_rfl) ?_
                  refine over_some (ds1 := [132, 133, 134, 135, 136, 137, 138, 139, 140, 141, 142, 143, 144, 145, 146, 147, 148, 149, 150, 151, 152, 153]) (ds2 := [154, 155, 156, 157, 158, 159, 160, 161, 162, 163]) [(.slice (some ⟨b, off, none⟩) n0 c0), (.int .i64 i), (.int .i64 i), (.int .i64 ((i : Int) + 1)), (.slice (some ⟨b, off + i * 2, none⟩) 1 (c0 - i)), (.slice A14 1 c14), (.int .u8 0), (.bool false), (.bool false), (.slice (some ⟨b, off, none⟩) n0 c0), (.int .i64 i), (.pointer (some ⟨b, off + i * 2, none⟩)), (.pointer (some ⟨b, off + i * 2 + 1, none⟩)), (.int .i32 p.2), (.slice (some ⟨b, off, none⟩) n0 c0), (.int .i64 i), (.pointer (some ⟨b, off + i * 2, none⟩)), (.pointer (some ⟨b, off + i * 2, none⟩)), (.int .i32 p.1), (.int .i32 D), (.bool gg), (.bool gg)] (by kernel_rfl) ?_
                  refine over_if gg (.slice (some ⟨b, off, none⟩) n0 c0) (by kernel_rfl) ?_
                  intro y1 hy1
                  refine over_if gg (.int .i64 i) (by kernel_rfl) ?_
                  intro y2 hy2
                  refine over_if gg (.int .i64 i) (by kernel_rfl) ?_
                  intro y3 hy3
                  refine over_if gg (.int .i64 ((i : Int) + 1)) (by kernel_rfl) ?_
                  intro y4 hy4
                  refine over_if gg (.slice (some ⟨b, off + i * 2, none⟩) 1 (c0 - i)) (by kernel_rfl) ?_
                  intro y5 hy5
                  refine over_if gg (.slice A15 1 c15) (by kernel_rfl) ?_
                  intro y6 hy6
                  refine over_if gg (.int .u8 3) (by kernel_rfl) ?_
                  intro y7 hy7
                  refine over_if gg (.bool false) (by kernel_rfl) ?_
                  intro y8 hy8
                  refine over_some (ds1 := [162, 163]) (ds2 := []) [(.bool false), (.bool false)] (by kernel_rfl) ?_
                  refine over_nil ?_
                  simp only [putAll, put_lit, List.set_cons_succ, List.set_cons_zero]
                  replace SS := Lib.hid (SS.out.next hb)
                  replace SU := Lib.hid (SU.out.next hb)
                  replace SV := Lib.hid (SV.out.next hb)
                  replace SS1 := Lib.hid (SS1.out.next hb)
                  replace SU1 := Lib.hid (SU1.out.next hb)
                  replace SV1 := Lib.hid (SV1.out.next hb)
                  replace HTr := Lib.hid (HTr.out.next hb)
                  replace KB := Lib.hid (boxed_next KB.out hb)
                  replace Br := Lib.hid (thn Br.out hb)
                  replace BR := Lib.hid (thn BR.out hb)
                  clear hb
                  have e1 : 0 ≤ 4 * kk + k := hk2
                  have e2 : 4 * kk + k ≤ 255 := hk3
                  have e3 : 0 ≤ 4 * ll + l := hl2
                  have e4 : 4 * ll + l ≤ 255 := hl3
                  have HKs2 : Hid (4 * kk + k = keyN ps us (i + 1)) := HKs.out.symm
                  have HLs2 : Hid (4 * ll + l = keyN ps vs (i + 1)) := HLs.out.symm
                  go_wp2
                  go_roundw
                  case rel => exact ⟨i + 1, 4 * kk + k, 4 * ll + l, by omega, by go_num, rfl, rfl, HKs2, HLs2, B3w.out.trans (BR.out.mono B3w.out.size)⟩
                  case measure => simp [intOf]; omega
                simp only [List.take_succ_cons, List.take_zero]
                refine ⟨?r16g0, ?r16g1, ?r16g2, ?r16g3, ?r16g4, ?r16g5, ?r16g6, ?r16g7, ?r16g8, ?r16g9, ?r16g10, ?r16g11, ?r16g12, ?r16g13, ?r16g14, ?r16g15, ?r16g16, ?r16g17, ?r16g18, ?r16g19, ?r16g20, ?r16g21, ?r16g22, ?r16g23, ?r16g24, ?r16g25, ?r16g26, ?r16g27, ?r16g28, ?r16g29, ?r16g30, ?r16g31, trivial⟩
                case r16g0 =>
                  intro w9 hb
                  refine over_nil ?_
                  have cK := (boxed_next KB.out hb).cell
                  go_wp2
                  first | exact post_of (by rfl) (by rfl) (Below.refl _ _) (by rfl) | exact rfl
                case r16g1 =>
                  intro w9 hb
                  refine over_nil ?_
                  go_wp2
                  first | exact post_of (by rfl) (by rfl) (Below.refl _ _) (by rfl) | exact rfl
                case r16g2 =>
                  intro w9 hb
                  refine over_nil ?_
                  go_wp2
                  first | exact post_of (by rfl) (by rfl) (Below.refl _ _) (by rfl) | exact rfl
                case r16g3 =>
                  intro w9 hb
                  refine over_some (ds1 := [134]) (ds2 := []) [(.int .i64 i)] (by kernel_rfl) ?_
                  refine over_nil ?_
                  simp only [putAll, put_lit, List.set_cons_succ, List.set_cons_zero]
                  go_wp2
                  first | exact post_of (by rfl) (by rfl) (Below.refl _ _) (by rfl) | exact rfl
                case r16g4 =>
                  intro w9 hb
                  refine over_some (ds1 := [132, 133, 135]) (ds2 := []) [(.slice (some ⟨b, off, none⟩) n0 c0), (.int .i64 i), (.int .i64 ((i : Int) + 1))] (by kernel_rfl) ?_
                  refine over_nil ?_
                  simp only [putAll, put_lit, List.set_cons_succ, List.set_cons_zero]
                  go_wp2
                  first | exact post_of (by rfl) (by rfl) (Below.refl _ _) (by rfl) | exact rfl
                case r16g5 =>
                  intro w9 hb
                  refine over_nil ?_
                  go_wp2
                  first | exact post_of (by rfl) (by rfl) (Below.refl _ _) (by rfl) | exact rfl
                case r16g6 =>
                  intro w9 hb
                  refine over_some (ds1 := [136, 137]) (ds2 := []) [(.slice (some ⟨b, off + i * 2, none⟩) 1 (c0 - i)), (.slice A14 1 c14)] (by kernel_rfl) ?_
                  refine over_nil ?_
                  simp only [putAll, put_lit, List.set_cons_succ, List.set_cons_zero]
                  go_wp2_with fail
                  have hc := key_any (some ⟨b, off + i * 2, none⟩) 1 (c0 - i) [p] A14 1 c14 [(p.1, p.1)] w9 (HTr.out.next hb) IP.out IF1.out RF.out (by simp) (SS1.out.next hb) (S14.out.next hb)
                  rw [H3.out] at hc
                  refine hc.mono ?_
                  clear hc
                  rintro e w10 ⟨rfl, b6⟩
                  go_wp2
                  exact post_of (by rfl) (by rfl) b6 (by rfl)
                case r16g7 =>
                  intro w9 hb
                  refine over_some (ds1 := [138]) (ds2 := []) [(.int .u8 0)] (by kernel_rfl) ?_
                  refine over_nil ?_
                  simp only [putAll, put_lit, List.set_cons_succ, List.set_cons_zero]
                  go_wp2
                  first | exact post_of (by rfl) (by rfl) (Below.refl _ _) (by rfl) | exact rfl
                case r16g8 =>
                  intro w9 hb
                  refine over_some (ds1 := [139]) (ds2 := []) [(.bool false)] (by kernel_rfl) ?_
                  refine over_nil ?_
                  simp only [putAll, put_lit, List.set_cons_succ, List.set_cons_zero]
                  go_wp2
                  first | exact post_of (by rfl) (by rfl) (Below.refl _ _) (by rfl) | exact rfl
                case r16g9 =>
                  intro w9 hb
                  refine over_some (ds1 := [140]) (ds2 := []) [(.bool false)] (by kernel_rfl) ?_
                  refine over_nil ?_
                  simp only [putAll, put_lit, List.set_cons_succ, List.set_cons_zero]
                  have cK := (boxed_next KB.out hb).cell
                  go_wp2
                  first | exact post_of (by rfl) (by rfl) (Below.refl _ _) (by rfl) | exact rfl
                case r16g10 =>
                  intro w9 hb
                  refine over_some (ds1 := [140]) (ds2 := []) [(.bool false)] (by kernel_rfl) ?_
                  refine over_nil ?_
                  simp only [putAll, put_lit, List.set_cons_succ, List.set_cons_zero]
                  go_wp2
                  first | exact post_of (by rfl) (by rfl) (Below.refl _ _) (by rfl) | exact rfl
                case r16g11 =>
                  intro w9 hb
                  refine over_some (ds1 := [140, 141, 142]) (ds2 := []) [(.bool false), (.slice (some ⟨b, off, none⟩) n0 c0), (.int .i64 i)] (by kernel_rfl) ?_
                  refine over_nil ?_
                  simp only [putAll, put_lit, List.set_cons_succ, List.set_cons_zero]
                  go_wp2
                  first | exact post_of (by rfl) (by rfl) (Below.refl _ _) (by rfl) | exact rfl
                case r16g12 =>
                  intro w9 hb
                  refine over_some (ds1 := [140, 143]) (ds2 := []) [(.bool false), (.pointer (some ⟨b, off + i * 2, none⟩))] (by kernel_rfl) ?_
                  refine over_nil ?_
                  simp only [putAll, put_lit, List.set_cons_succ, List.set_cons_zero]
                  go_wp2
                  first | exact post_of (by rfl) (by rfl) (Below.refl _ _) (by rfl) | exact rfl
                case r16g13 =>
                  intro w9 hb
                  refine over_some (ds1 := [140, 144]) (ds2 := []) [(.bool false), (.pointer (some ⟨b, off + i * 2 + 1, none⟩))] (by kernel_rfl) ?_
                  refine over_nil ?_
                  simp only [putAll, put_lit, List.set_cons_succ, List.set_cons_zero]
                  obtain ⟨e0, e1⟩ := HX.out w9 (thn BR.out hb)
                  go_wp2
                  first | exact post_of (by rfl) (by rfl) (Below.refl _ _) (by rfl) | exact rfl
                case r16g14 =>
                  intro w9 hb
                  refine over_some (ds1 := [140]) (ds2 := []) [(.bool false)] (by kernel_rfl) ?_
                  refine over_nil ?_
                  simp only [putAll, put_lit, List.set_cons_succ, List.set_cons_zero]
                  have cK := (boxed_next KB.out hb).cell
                  go_wp2
                  first | exact post_of (by rfl) (by rfl) (Below.refl _ _) (by rfl) | exact rfl
                case r16g15 =>
                  intro w9 hb
                  refine over_some (ds1 := [140]) (ds2 := []) [(.bool false)] (by kernel_rfl) ?_
                  refine over_nil ?_
                  simp only [putAll, put_lit, List.set_cons_succ, List.set_cons_zero]
                  go_wp2
                  first | exact post_of (by rfl) (by rfl) (Below.refl _ _) (by rfl) | exact rfl
                case r16g16 =>
                  intro w9 hb
                  refine over_some (ds1 := [140, 146, 147]) (ds2 := []) [(.bool false), (.slice (some ⟨b, off, none⟩) n0 c0), (.int .i64 i)] (by kernel_rfl) ?_
                  refine over_nil ?_
                  simp only [putAll, put_lit, List.set_cons_succ, List.set_cons_zero]
                  go_wp2
                  first | exact post_of (by rfl) (by rfl) (Below.refl _ _) (by rfl) | exact rfl
                case r16g17 =>
                  intro w9 hb
                  refine over_some (ds1 := [140, 148]) (ds2 := []) [(.bool false), (.pointer (some ⟨b, off + i * 2, none⟩))] (by kernel_rfl) ?_
                  refine over_nil ?_
                  simp only [putAll, put_lit, List.set_cons_succ, List.set_cons_zero]
                  go_wp2
                  first | exact post_of (by rfl) (by rfl) (Below.refl _ _) (by rfl) | exact rfl
                case r16g18 =>
                  intro w9 hb
                  refine over_some (ds1 := [140, 149]) (ds2 := []) [(.bool false), (.pointer (some ⟨b, off + i * 2, none⟩))] (by kernel_rfl) ?_
                  refine over_nil ?_
                  simp only [putAll, put_lit, List.set_cons_succ, List.set_cons_zero]
                  obtain ⟨e0, e1⟩ := HX.out w9 (thn BR.out hb)
                  go_wp2
                  first | exact post_of (by rfl) (by rfl) (Below.refl _ _) (by rfl) | exact rfl
                case r16g19 =>
                  intro w9 hb
                  refine over_some (ds1 := [140, 145, 150]) (ds2 := []) [(.bool false), (.int .i32 p.2), (.int .i32 p.1)] (by kernel_rfl) ?_
                  refine over_nil ?_
                  simp only [putAll, put_lit, List.set_cons_succ, List.set_cons_zero]
                  go_wp2
                  exact post_of (by rfl) (by rfl) (Below.refl _ _) (by exact congrArg (Value.int .i32) HD.out)
                case r16g20 =>
                  intro w9 hb
                  refine over_some (ds1 := [140, 151]) (ds2 := []) [(.bool false), (.int .i32 D)] (by kernel_rfl) ?_
                  refine over_nil ?_
                  simp only [putAll, put_lit, List.set_cons_succ, List.set_cons_zero]
                  have hg := Hgg.out
                  go_wp2
                  first | exact post_of (by rfl) (by rfl) (Below.refl _ _) (by rfl) | exact rfl
                case r16g21 =>
                  intro w9 hb
                  refine over_some (ds1 := [140, 152]) (ds2 := []) [(.bool false), (.bool gg)] (by kernel_rfl) ?_
                  refine over_nil ?_
                  simp only [putAll, put_lit, List.set_cons_succ, List.set_cons_zero]
                  go_wp2
                  first | exact post_of (by rfl) (by rfl) (Below.refl _ _) (by rfl) | exact rfl
                case r16g22 =>
                  intro w9 hb
                  refine over_some (ds1 := [153]) (ds2 := []) [(.bool gg)] (by kernel_rfl) ?_
                  refine over_nil ?_
                  simp only [putAll, put_lit, List.set_cons_succ, List.set_cons_zero]
                  cases gg
                  · exact post_skip' rfl (by kernel_rfl) (by kernel_rfl) (by kernel_rfl) (by exact fun h => absurd h (by decide))
                  · skip
                    have cK := (boxed_next KB.out hb).cell
                    go_wp2
                    exact post_of (by rfl) (by rfl) (Below.refl _ _) (by exact fun _ => rfl)
                case r16g23 =>
                  intro w9 hb
                  refine over_some (ds1 := [153]) (ds2 := []) [(.bool gg)] (by kernel_rfl) ?_
                  refine over_nil ?_
                  simp only [putAll, put_lit, List.set_cons_succ, List.set_cons_zero]
                  cases gg
                  · exact post_skip' rfl (by kernel_rfl) (by kernel_rfl) (by kernel_rfl) (by exact fun h => absurd h (by decide))
                  · skip
                    go_wp2
                    exact post_of (by rfl) (by rfl) (Below.refl _ _) (by exact fun _ => rfl)
                case r16g24 =>
                  intro w9 hb
                  refine over_some (ds1 := [153]) (ds2 := []) [(.bool gg)] (by kernel_rfl) ?_
                  refine over_nil ?_
                  simp only [putAll, put_lit, List.set_cons_succ, List.set_cons_zero]
                  cases gg
                  · exact post_skip' rfl (by kernel_rfl) (by kernel_rfl) (by kernel_rfl) (by exact fun h => absurd h (by decide))
                  · skip
                    go_wp2
                    exact post_of (by rfl) (by rfl) (Below.refl _ _) (by exact fun _ => rfl)
                case r16g25 =>
                  intro w9 hb
                  refine over_some (ds1 := [153]) (ds2 := [156]) [(.bool gg)] (by kernel_rfl) ?_
                  refine over_if gg (.int .i64 i) (by kernel_rfl) ?_
                  intro y1 hy1
                  refine over_nil ?_
                  simp only [putAll, put_lit, List.set_cons_succ, List.set_cons_zero]
                  cases gg
                  · exact post_skip' rfl (by kernel_rfl) (by kernel_rfl) (by kernel_rfl) (by exact fun h => absurd h (by decide))
                  · obtain rfl := hy1 rfl
                    go_wp2
                    exact post_of (by rfl) (by rfl) (Below.refl _ _) (by exact fun _ => rfl)
                case r16g26 =>
                  intro w9 hb
                  refine over_some (ds1 := [153]) (ds2 := [154, 155, 157]) [(.bool gg)] (by kernel_rfl) ?_
                  refine over_if gg (.slice (some ⟨b, off, none⟩) n0 c0) (by kernel_rfl) ?_
                  intro y1 hy1
                  refine over_if gg (.int .i64 i) (by kernel_rfl) ?_
                  intro y2 hy2
                  refine over_if gg (.int .i64 ((i : Int) + 1)) (by kernel_rfl) ?_
                  intro y3 hy3
                  refine over_nil ?_
                  simp only [putAll, put_lit, List.set_cons_succ, List.set_cons_zero]
                  cases gg
                  · exact post_skip' rfl (by kernel_rfl) (by kernel_rfl) (by kernel_rfl) (by exact fun h => absurd h (by decide))
                  · obtain rfl := hy1 rfl
                    obtain rfl := hy2 rfl
                    obtain rfl := hy3 rfl
                    go_wp2
                    exact post_of (by rfl) (by rfl) (Below.refl _ _) (by exact fun _ => rfl)
                case r16g27 =>
                  intro w9 hb
                  refine over_some (ds1 := [153]) (ds2 := []) [(.bool gg)] (by kernel_rfl) ?_
                  refine over_nil ?_
                  simp only [putAll, put_lit, List.set_cons_succ, List.set_cons_zero]
                  cases gg
                  · exact post_skip' rfl (by kernel_rfl) (by kernel_rfl) (by kernel_rfl) (by exact fun h => absurd h (by decide))
                  · skip
                    go_wp2
                    exact post_of (by rfl) (by rfl) (Below.refl _ _) (by exact fun _ => rfl)
                case r16g28 =>
                  intro w9 hb
                  refine over_some (ds1 := [153]) (ds2 := [158, 159]) [(.bool gg)] (by kernel_rfl) ?_
                  refine over_if gg (.slice (some ⟨b, off + i * 2, none⟩) 1 (c0 - i)) (by kernel_rfl) ?_
                  intro y1 hy1
                  refine over_if gg (.slice A15 1 c15) (by kernel_rfl) ?_
                  intro y2 hy2
                  refine over_nil ?_
                  simp only [putAll, put_lit, List.set_cons_succ, List.set_cons_zero]
                  cases gg
                  · exact post_skip' rfl (by kernel_rfl) (by kernel_rfl) (by kernel_rfl) (by exact fun h => absurd h (by decide))
                  · obtain rfl := hy1 rfl
                    obtain rfl := hy2 rfl
                    have H5 := H4.out
                    rw [HG2.out rfl] at H5
                    go_wp2_with fail
                    have hc := key_any (some ⟨b, off + i * 2, none⟩) 1 (c0 - i) [p] A15 1 c15 [(p.2, p.2)] w9 (HTr.out.next hb) IP.out IG1.out RG.out (by simp) (SS1.out.next hb) (S15.out.next hb)
                    rw [H5] at hc
                    refine hc.mono ?_
                    clear hc
                    rintro e w10 ⟨rfl, b6⟩
                    go_wp2
                    exact post_of (by rfl) (by rfl) b6 (by exact fun _ => rfl)
                case r16g29 =>
                  intro w9 hb
                  refine over_some (ds1 := [153]) (ds2 := [160]) [(.bool gg)] (by kernel_rfl) ?_
                  refine over_if gg (.int .u8 3) (by kernel_rfl) ?_
                  intro y1 hy1
                  refine over_nil ?_
                  simp only [putAll, put_lit, List.set_cons_succ, List.set_cons_zero]
                  cases gg
                  · exact post_skip' rfl (by kernel_rfl) (by kernel_rfl) (by kernel_rfl) (by exact fun h => absurd h (by decide))
                  · obtain rfl := hy1 rfl
                    go_wp2
                    exact post_of (by rfl) (by rfl) (Below.refl _ _) (by exact fun _ => rfl)
                case r16g30 =>
                  intro w9 hb
                  refine over_some (ds1 := [140, 153]) (ds2 := [161]) [(.bool false), (.bool gg)] (by kernel_rfl) ?_
                  refine over_if gg (.bool false) (by kernel_rfl) ?_
                  intro y1 hy1
                  refine over_nil ?_
                  simp only [putAll, put_lit, List.set_cons_succ, List.set_cons_zero]
                  cases gg
                  · go_wp2
                    exact post_of (by rfl) (by rfl) (Below.refl _ _) (by rfl)
                  · obtain rfl := hy1 rfl
                    go_wp2
                    exact post_of (by rfl) (by rfl) (Below.refl _ _) (by rfl)
                case r16g31 =>
                  intro w9 hb
                  refine over_some (ds1 := [140, 162]) (ds2 := []) [(.bool false), (.bool false)] (by kernel_rfl) ?_
                  refine over_nil ?_
                  simp only [putAll, put_lit, List.set_cons_succ, List.set_cons_zero]
                  go_wp2
                  first | exact post_of (by rfl) (by rfl) (Below.refl _ _) (by rfl) | exact rfl
              simp only [List.take_succ_cons, List.take_zero]
              refine ⟨?r15g0, ?r15g1, ?r15g2, ?r15g3, ?r15g4, ?r15g5, ?r15g6, ?r15g7, ?r15g8, ?r15g9, ?r15g10, ?r15g11, ?r15g12, trivial⟩
              case r15g0 =>
                intro w9 hb
                refine over_nil ?_
                have cK := (boxed_next KB.out hb).cell
                go_wp2
                first | exact post_of (by rfl) (by rfl) (Below.refl _ _) (by rfl) | exact rfl
              case r15g1 =>
                intro w9 hb
                refine over_nil ?_
                go_wp2
                first | exact post_of (by rfl) (by rfl) (Below.refl _ _) (by rfl) | exact rfl
              case r15g2 =>
                intro w9 hb
                refine over_some (ds1 := [120, 121]) (ds2 := []) [(.slice (some ⟨b, off, none⟩) n0 c0), (.int .i64 i)] (by kernel_rfl) ?_
                refine over_nil ?_
                simp only [putAll, put_lit, List.set_cons_succ, List.set_cons_zero]
                go_wp2
                first | exact post_of (by rfl) (by rfl) (Below.refl _ _) (by rfl) | exact rfl
              case r15g3 =>
                intro w9 hb
                refine over_some (ds1 := [122]) (ds2 := []) [(.pointer (some ⟨b, off + i * 2, none⟩))] (by kernel_rfl) ?_
                refine over_nil ?_
                simp only [putAll, put_lit, List.set_cons_succ, List.set_cons_zero]
                go_wp2
                first | exact post_of (by rfl) (by rfl) (Below.refl _ _) (by rfl) | exact rfl
              case r15g4 =>
                intro w9 hb
                refine over_some (ds1 := [123]) (ds2 := []) [(.pointer (some ⟨b, off + i * 2 + 1, none⟩))] (by kernel_rfl) ?_
                refine over_nil ?_
                simp only [putAll, put_lit, List.set_cons_succ, List.set_cons_zero]
                obtain ⟨e0, e1⟩ := HX.out w9 (thn BR.out hb)
                go_wp2
                first | exact post_of (by rfl) (by rfl) (Below.refl _ _) (by rfl) | exact rfl
              case r15g5 =>
                intro w9 hb
                refine over_nil ?_
                have cK := (boxed_next KB.out hb).cell
                go_wp2
                first | exact post_of (by rfl) (by rfl) (Below.refl _ _) (by rfl) | exact rfl
              case r15g6 =>
                intro w9 hb
                refine over_nil ?_
                go_wp2
                first | exact post_of (by rfl) (by rfl) (Below.refl _ _) (by rfl) | exact rfl
              case r15g7 =>
                intro w9 hb
                refine over_some (ds1 := [125, 126]) (ds2 := []) [(.slice (some ⟨b, off, none⟩) n0 c0), (.int .i64 i)] (by kernel_rfl) ?_
                refine over_nil ?_
                simp only [putAll, put_lit, List.set_cons_succ, List.set_cons_zero]
                go_wp2
                first | exact post_of (by rfl) (by rfl) (Below.refl _ _) (by rfl) | exact rfl
              case r15g8 =>
                intro w9 hb
                refine over_some (ds1 := [127]) (ds2 := []) [(.pointer (some ⟨b, off + i * 2, none⟩))] (by kernel_rfl) ?_
                refine over_nil ?_
                simp only [putAll, put_lit, List.set_cons_succ, List.set_cons_zero]
                go_wp2
                first | exact post_of (by rfl) (by rfl) (Below.refl _ _) (by rfl) | exact rfl
              case r15g9 =>
                intro w9 hb
                refine over_some (ds1 := [128]) (ds2 := []) [(.pointer (some ⟨b, off + i * 2 + 1, none⟩))] (by kernel_rfl) ?_
                refine over_nil ?_
                simp only [putAll, put_lit, List.set_cons_succ, List.set_cons_zero]
                obtain ⟨e0, e1⟩ := HX.out w9 (thn BR.out hb)
                go_wp2
                first | exact post_of (by rfl) (by rfl) (Below.refl _ _) (by rfl) | exact rfl
              case r15g10 =>
                intro w9 hb
                refine over_some (ds1 := [124, 129]) (ds2 := []) [(.int .i32 p.2), (.int .i32 p.2)] (by kernel_rfl) ?_
                refine over_nil ?_
                simp only [putAll, put_lit, List.set_cons_succ, List.set_cons_zero]
                go_wp2
                first | exact post_of (by rfl) (by rfl) (Below.refl _ _) (by rfl) | exact rfl
              case r15g11 =>
                intro w9 hb
                refine over_some (ds1 := [130]) (ds2 := []) [(.agg #[.int .i32 p.2, .int .i32 p.2])] (by kernel_rfl) ?_
                refine over_nil ?_
                simp only [putAll, put_lit, List.set_cons_succ, List.set_cons_zero]
                go_wp2
                exact post_of (by rfl) (by rfl) (below_lit _ _) (by exact ⟨_, _, rfl, (Sn.lit w9 _ _ _ 2 1 rfl (by decide)).more (by simp)⟩)
              case r15g12 =>
                intro w9 hb
                refine over_pred rfl ?_
                rintro _ ⟨A8, c8, rfl, s8⟩
                refine over_nil ?_
                simp only [put_lit, List.set_cons_succ, List.set_cons_zero]
                go_wp2
                exact post_of (by rfl) (by rfl) (Below.refl _ _) (by exact ⟨A8, c8, rfl, s8⟩)
            simp only [List.take_succ_cons, List.take_zero]
            refine ⟨?r14g0, ?r14g1, ?r14g2, ?r14g3, ?r14g4, ?r14g5, ?r14g6, ?r14g7, ?r14g8, ?r14g9, ?r14g10, ?r14g11, ?r14g12, trivial⟩
            case r14g0 =>
              intro w9 hb
              refine over_nil ?_
              have cK := (boxed_next KB.out hb).cell
              go_wp2
              first | exact post_of (by rfl) (by rfl) (Below.refl _ _) (by rfl) | exact rfl
            case r14g1 =>
              intro w9 hb
              refine over_nil ?_
              go_wp2
              first | exact post_of (by rfl) (by rfl) (Below.refl _ _) (by rfl) | exact rfl
            case r14g2 =>
              intro w9 hb
              refine over_some (ds1 := [108, 109]) (ds2 := []) [(.slice (some ⟨b, off, none⟩) n0 c0), (.int .i64 i)] (by kernel_rfl) ?_
              refine over_nil ?_
              simp only [putAll, put_lit, List.set_cons_succ, List.set_cons_zero]
              go_wp2
              first | exact post_of (by rfl) (by rfl) (Below.refl _ _) (by rfl) | exact rfl
            case r14g3 =>
              intro w9 hb
              refine over_some (ds1 := [110]) (ds2 := []) [(.pointer (some ⟨b, off + i * 2, none⟩))] (by kernel_rfl) ?_
              refine over_nil ?_
              simp only [putAll, put_lit, List.set_cons_succ, List.set_cons_zero]
              go_wp2
              first | exact post_of (by rfl) (by rfl) (Below.refl _ _) (by rfl) | exact rfl
            case r14g4 =>
              intro w9 hb
              refine over_some (ds1 := [111]) (ds2 := []) [(.pointer (some ⟨b, off + i * 2, none⟩))] (by kernel_rfl) ?_
              refine over_nil ?_
              simp only [putAll, put_lit, List.set_cons_succ, List.set_cons_zero]
              obtain ⟨e0, e1⟩ := HX.out w9 (thn BR.out hb)
              go_wp2
              first | exact post_of (by rfl) (by rfl) (Below.refl _ _) (by rfl) | exact rfl
            case r14g5 =>
              intro w9 hb
              refine over_nil ?_
              have cK := (boxed_next KB.out hb).cell
              go_wp2
              first | exact post_of (by rfl) (by rfl) (Below.refl _ _) (by rfl) | exact rfl
            case r14g6 =>
              intro w9 hb
              refine over_nil ?_
              go_wp2
              first | exact post_of (by rfl) (by rfl) (Below.refl _ _) (by rfl) | exact rfl
            case r14g7 =>
              intro w9 hb
              refine over_some (ds1 := [113, 114]) (ds2 := []) [(.slice (some ⟨b, off, none⟩) n0 c0), (.int .i64 i)] (by kernel_rfl) ?_
              refine over_nil ?_
              simp only [putAll, put_lit, List.set_cons_succ, List.set_cons_zero]
              go_wp2
              first | exact post_of (by rfl) (by rfl) (Below.refl _ _) (by rfl) | exact rfl
            case r14g8 =>
              intro w9 hb
              refine over_some (ds1 := [115]) (ds2 := []) [(.pointer (some ⟨b, off + i * 2, none⟩))] (by kernel_rfl) ?_
              refine over_nil ?_
              simp only [putAll, put_lit, List.set_cons_succ, List.set_cons_zero]
              go_wp2
              first | exact post_of (by rfl) (by rfl) (Below.refl _ _) (by rfl) | exact rfl
            case r14g9 =>
              intro w9 hb
              refine over_some (ds1 := [116]) (ds2 := []) [(.pointer (some ⟨b, off + i * 2, none⟩))] (by kernel_rfl) ?_
              refine over_nil ?_
              simp only [putAll, put_lit, List.set_cons_succ, List.set_cons_zero]
              obtain ⟨e0, e1⟩ := HX.out w9 (thn BR.out hb)
              go_wp2
              first | exact post_of (by rfl) (by rfl) (Below.refl _ _) (by rfl) | exact rfl
            case r14g10 =>
              intro w9 hb
              refine over_some (ds1 := [112, 117]) (ds2 := []) [(.int .i32 p.1), (.int .i32 p.1)] (by kernel_rfl) ?_
              refine over_nil ?_
              simp only [putAll, put_lit, List.set_cons_succ, List.set_cons_zero]
              go_wp2
              first | exact post_of (by rfl) (by rfl) (Below.refl _ _) (by rfl) | exact rfl
            case r14g11 =>
              intro w9 hb
              refine over_some (ds1 := [118]) (ds2 := []) [(.agg #[.int .i32 p.1, .int .i32 p.1])] (by kernel_rfl) ?_
              refine over_nil ?_
              simp only [putAll, put_lit, List.set_cons_succ, List.set_cons_zero]
              go_wp2
              exact post_of (by rfl) (by rfl) (below_lit _ _) (by exact ⟨_, _, rfl, (Sn.lit w9 _ _ _ 2 1 rfl (by decide)).more (by simp)⟩)
            case r14g12 =>
              intro w9 hb
              refine over_pred rfl ?_
              rintro _ ⟨A8, c8, rfl, s8⟩
              refine over_nil ?_
              simp only [put_lit, List.set_cons_succ, List.set_cons_zero]
              go_wp2
              exact post_of (by rfl) (by rfl) (Below.refl _ _) (by exact ⟨A8, c8, rfl, s8⟩)
          simp only [List.take_succ_cons, List.take_zero]
          refine ⟨?r12g0, ?r12g1, ?r12g2, ?r12g3, ?r12g4, ?r12g5, ?r12g6, ?r12g7, ?r12g8, ?r12g9, ?r12g10, ?r12g11, ?r12g12, ?r12g13, ?r12g14, ?r12g15, ?r12g16, ?r12g17, ?r12g18, ?r12g19, ?r12g20, ?r12g21, ?r12g22, ?r12g23, trivial⟩
          case r12g0 =>
            intro w9 hb
            refine over_nil ?_
            go_wp2
            first | exact post_of (by rfl) (by rfl) (Below.refl _ _) (by rfl) | exact rfl
          case r12g1 =>
            intro w9 hb
            refine over_some (ds1 := [84]) (ds2 := []) [(.int .i64 k)] (by kernel_rfl) ?_
            refine over_nil ?_
            simp only [putAll, put_lit, List.set_cons_succ, List.set_cons_zero]
            have hd3 : decide ((3 : Int) < k) = false := decide_eq_false (by omega)
            go_wp2
            first | exact post_of (by rfl) (by rfl) (Below.refl _ _) (by rfl) | exact rfl
          case r12g2 =>
            intro w9 hb
            refine over_some (ds1 := [85]) (ds2 := []) [(.bool false)] (by kernel_rfl) ?_
            refine over_nil ?_
            simp only [putAll, put_lit, List.set_cons_succ, List.set_cons_zero]
            go_wp2
            first | exact post_of (by rfl) (by rfl) (Below.refl _ _) (by rfl) | exact rfl
          case r12g3 =>
            intro w9 hb
            refine over_some (ds1 := [86]) (ds2 := []) [(.bool false)] (by kernel_rfl) ?_
            refine over_nil ?_
            simp only [putAll, put_lit, List.set_cons_succ, List.set_cons_zero]
            go_wp2
            first | exact post_of (by rfl) (by rfl) (Below.refl _ _) (by rfl) | exact rfl
          case r12g4 =>
            intro w9 hb
            refine over_some (ds1 := [86, 87]) (ds2 := []) [(.bool false), (.int .i64 l)] (by kernel_rfl) ?_
            refine over_nil ?_
            simp only [putAll, put_lit, List.set_cons_succ, List.set_cons_zero]
            have hd3 : decide ((3 : Int) < l) = false := decide_eq_false (by omega)
            go_wp2
            first | exact post_of (by rfl) (by rfl) (Below.refl _ _) (by rfl) | exact rfl
          case r12g5 =>
            intro w9 hb
            refine over_some (ds1 := [86, 88]) (ds2 := []) [(.bool false), (.bool false)] (by kernel_rfl) ?_
            refine over_nil ?_
            simp only [putAll, put_lit, List.set_cons_succ, List.set_cons_zero]
            go_wp2
            first | exact post_of (by rfl) (by rfl) (Below.refl _ _) (by rfl) | exact rfl
          case r12g6 =>
            intro w9 hb
            refine over_some (ds1 := [89]) (ds2 := []) [(.bool false)] (by kernel_rfl) ?_
            refine over_nil ?_
            simp only [putAll, put_lit, List.set_cons_succ, List.set_cons_zero]
            go_wp2
            first | exact post_of (by rfl) (by rfl) (Below.refl _ _) (by rfl) | exact rfl
          case r12g7 =>
            intro w9 hb
            refine over_some (ds1 := [90]) (ds2 := []) [(.bool false)] (by kernel_rfl) ?_
            refine over_nil ?_
            simp only [putAll, put_lit, List.set_cons_succ, List.set_cons_zero]
            go_wp2
            first | exact post_of (by rfl) (by rfl) (Below.refl _ _) (by rfl) | exact rfl
          case r12g8 =>
            intro w9 hb
            refine over_some (ds1 := [90]) (ds2 := []) [(.bool false)] (by kernel_rfl) ?_
            refine over_nil ?_
            simp only [putAll, put_lit, List.set_cons_succ, List.set_cons_zero]
            go_wp2
            first | exact post_of (by rfl) (by rfl) (Below.refl _ _) (by rfl) | exact rfl
          case r12g9 =>
            intro w9 hb
            refine over_some (ds1 := [90, 91, 92]) (ds2 := []) [(.bool false), (.slice (some ⟨b1, off1, none⟩) n0 cu), (.int .i64 i)] (by kernel_rfl) ?_
            refine over_nil ?_
            simp only [putAll, put_lit, List.set_cons_succ, List.set_cons_zero]
            go_wp2
            first | exact post_of (by rfl) (by rfl) (Below.refl _ _) (by rfl) | exact rfl
          case r12g10 =>
            intro w9 hb
            refine over_some (ds1 := [90, 93]) (ds2 := []) [(.bool false), (.pointer (some ⟨b1, off1 + i * 2, none⟩))] (by kernel_rfl) ?_
            refine over_nil ?_
            simp only [putAll, put_lit, List.set_cons_succ, List.set_cons_zero]
            go_wp2
            first | exact post_of (by rfl) (by rfl) (Below.refl _ _) (by rfl) | exact rfl
          case r12g11 =>
            intro w9 hb
            refine over_some (ds1 := [90, 94]) (ds2 := []) [(.bool false), (.pointer (some ⟨b1, off1 + i * 2, none⟩))] (by kernel_rfl) ?_
            refine over_nil ?_
            simp only [putAll, put_lit, List.set_cons_succ, List.set_cons_zero]
            obtain ⟨e0, e1⟩ := HU.out w9 (thn BR.out hb)
            go_wp2
            first | exact post_of (by rfl) (by rfl) (Below.refl _ _) (by rfl) | exact rfl
          case r12g12 =>
            intro w9 hb
            refine over_some (ds1 := [90]) (ds2 := []) [(.bool false)] (by kernel_rfl) ?_
            refine over_nil ?_
            simp only [putAll, put_lit, List.set_cons_succ, List.set_cons_zero]
            go_wp2
            first | exact post_of (by rfl) (by rfl) (Below.refl _ _) (by rfl) | exact rfl
          case r12g13 =>
            intro w9 hb
            refine over_some (ds1 := [90]) (ds2 := []) [(.bool false)] (by kernel_rfl) ?_
            refine over_nil ?_
            simp only [putAll, put_lit, List.set_cons_succ, List.set_cons_zero]
            go_wp2
            first | exact post_of (by rfl) (by rfl) (Below.refl _ _) (by rfl) | exact rfl
          case r12g14 =>
            intro w9 hb
            refine over_some (ds1 := [90, 96, 97]) (ds2 := []) [(.bool false), (.slice (some ⟨b2, off2, none⟩) n0 cv), (.int .i64 i)] (by kernel_rfl) ?_
            refine over_nil ?_
            simp only [putAll, put_lit, List.set_cons_succ, List.set_cons_zero]
            go_wp2
            first | exact post_of (by rfl) (by rfl) (Below.refl _ _) (by rfl) | exact rfl
          case r12g15 =>
            intro w9 hb
            refine over_some (ds1 := [90, 98]) (ds2 := []) [(.bool false), (.pointer (some ⟨b2, off2 + i * 2, none⟩))] (by kernel_rfl) ?_
            refine over_nil ?_
            simp only [putAll, put_lit, List.set_cons_succ, List.set_cons_zero]
            go_wp2
            first | exact post_of (by rfl) (by rfl) (Below.refl _ _) (by rfl) | exact rfl
          case r12g16 =>
            intro w9 hb
            refine over_some (ds1 := [90, 99]) (ds2 := []) [(.bool false), (.pointer (some ⟨b2, off2 + i * 2, none⟩))] (by kernel_rfl) ?_
            refine over_nil ?_
            simp only [putAll, put_lit, List.set_cons_succ, List.set_cons_zero]
            obtain ⟨e0, e1⟩ := HV.out w9 (thn BR.out hb)
            go_wp2
            first | exact post_of (by rfl) (by rfl) (Below.refl _ _) (by rfl) | exact rfl
          case r12g17 =>
            intro w9 hb
            refine over_some (ds1 := [90, 95, 100]) (ds2 := []) [(.bool false), (.int .i32 x), (.int .i32 z)] (by kernel_rfl) ?_
            refine over_nil ?_
            simp only [putAll, put_lit, List.set_cons_succ, List.set_cons_zero]
            have hz := Hzz.out
            go_wp2
            first | exact post_of (by rfl) (by rfl) (Below.refl _ _) (by rfl) | exact rfl
          case r12g18 =>
            intro w9 hb
            refine over_some (ds1 := [90, 101]) (ds2 := []) [(.bool false), (.bool zz)] (by kernel_rfl) ?_
            refine over_nil ?_
            simp only [putAll, put_lit, List.set_cons_succ, List.set_cons_zero]
            go_wp2
            first | exact post_of (by rfl) (by rfl) (Below.refl _ _) (by rfl) | exact rfl
          case r12g19 =>
            intro w9 hb
            refine over_some (ds1 := [102]) (ds2 := []) [(.bool zz)] (by kernel_rfl) ?_
            refine over_nil ?_
            simp only [putAll, put_lit, List.set_cons_succ, List.set_cons_zero]
            cases zz
            · exact post_skip' rfl (by kernel_rfl) (by kernel_rfl) (by kernel_rfl) (by exact fun h => absurd h (by decide))
            · skip
              go_wp2
              exact post_of (by rfl) (by rfl) (Below.refl _ _) (by exact fun _ => rfl)
          case r12g20 =>
            intro w9 hb
            refine over_some (ds1 := [102]) (ds2 := []) [(.bool zz)] (by kernel_rfl) ?_
            refine over_nil ?_
            simp only [putAll, put_lit, List.set_cons_succ, List.set_cons_zero]
            cases zz
            · exact post_skip' rfl (by kernel_rfl) (by kernel_rfl) (by kernel_rfl) (by exact fun h => absurd h (by decide))
            · skip
              go_wp2
              exact post_of (by rfl) (by rfl) (Below.refl _ _) (by exact fun _ => rfl)
          case r12g21 =>
            intro w9 hb
            refine over_some (ds1 := [102]) (ds2 := [103, 104]) [(.bool zz)] (by kernel_rfl) ?_
            refine over_if zz (.int .i64 k) (by kernel_rfl) ?_
            intro y1 hy1
            refine over_if zz (.int .i64 l) (by kernel_rfl) ?_
            intro y2 hy2
            refine over_nil ?_
            simp only [putAll, put_lit, List.set_cons_succ, List.set_cons_zero]
            cases zz
            · exact post_skip' rfl (by kernel_rfl) (by kernel_rfl) (by kernel_rfl) (by exact fun h => absurd h (by decide))
            · obtain rfl := hy1 rfl
              obtain rfl := hy2 rfl
              have hkl := hmono (of_decide_eq_true Hzz.out)
              have hd3 : decide (l < k) = false := decide_eq_false (by omega)
              go_wp2
              exact post_of (by rfl) (by rfl) (Below.refl _ _) (by exact fun _ => rfl)
          case r12g22 =>
            intro w9 hb
            refine over_some (ds1 := [90, 102]) (ds2 := [105]) [(.bool false), (.bool zz)] (by kernel_rfl) ?_
            refine over_if zz (.bool false) (by kernel_rfl) ?_
            intro y1 hy1
            refine over_nil ?_
            simp only [putAll, put_lit, List.set_cons_succ, List.set_cons_zero]
            cases zz
            · go_wp2
              exact post_of (by rfl) (by rfl) (Below.refl _ _) (by rfl)
            · obtain rfl := hy1 rfl
              go_wp2
              exact post_of (by rfl) (by rfl) (Below.refl _ _) (by rfl)
          case r12g23 =>
            intro w9 hb
            refine over_some (ds1 := [90, 106]) (ds2 := []) [(.bool false), (.bool false)] (by kernel_rfl) ?_
            refine over_nil ?_
            simp only [putAll, put_lit, List.set_cons_succ, List.set_cons_zero]
            go_wp2
            first | exact post_of (by rfl) (by rfl) (Below.refl _ _) (by rfl) | exact rfl
        simp only [List.take_succ_cons, List.take_zero]
        refine ⟨?r11g0, ?r11g1, ?r11g2, ?r11g3, ?r11g4, ?r11g5, ?r11g6, ?r11g7, ?r11g8, ?r11g9, ?r11g10, ?r11g11, ?r11g12, ?r11g13, ?r11g14, ?r11g15, ?r11g16, ?r11g17, ?r11g18, ?r11g19, ?r11g20, ?r11g21, ?r11g22, ?r11g23, ?r11g24, ?r11g25, trivial⟩
        case r11g0 =>
          intro w9 hb
          refine over_nil ?_
          have cK := (boxed_next KB.out hb).cell
          go_wp2
          first | exact post_of (by rfl) (by rfl) (Below.refl _ _) (by rfl) | exact rfl
        case r11g1 =>
          intro w9 hb
          refine over_nil ?_
          go_wp2
          first | exact post_of (by rfl) (by rfl) (Below.refl _ _) (by rfl) | exact rfl
        case r11g2 =>
          intro w9 hb
          refine over_nil ?_
          go_wp2
          first | exact post_of (by rfl) (by rfl) (Below.refl _ _) (by rfl) | exact rfl
        case r11g3 =>
          intro w9 hb
          refine over_some (ds1 := [62]) (ds2 := []) [(.int .i64 i)] (by kernel_rfl) ?_
          refine over_nil ?_
          simp only [putAll, put_lit, List.set_cons_succ, List.set_cons_zero]
          go_wp2
          first | exact post_of (by rfl) (by rfl) (Below.refl _ _) (by rfl) | exact rfl
        case r11g4 =>
          intro w9 hb
          refine over_some (ds1 := [60, 61, 63]) (ds2 := []) [(.slice (some ⟨b, off, none⟩) n0 c0), (.int .i64 i), (.int .i64 ((i : Int) + 1))] (by kernel_rfl) ?_
          refine over_nil ?_
          simp only [putAll, put_lit, List.set_cons_succ, List.set_cons_zero]
          go_wp2
          first | exact post_of (by rfl) (by rfl) (Below.refl _ _) (by rfl) | exact rfl
        case r11g5 =>
          intro w9 hb
          refine over_nil ?_
          go_wp2
          first | exact post_of (by rfl) (by rfl) (Below.refl _ _) (by rfl) | exact rfl
        case r11g6 =>
          intro w9 hb
          refine over_nil ?_
          go_wp2
          first | exact post_of (by rfl) (by rfl) (Below.refl _ _) (by rfl) | exact rfl
        case r11g7 =>
          intro w9 hb
          refine over_nil ?_
          go_wp2
          first | exact post_of (by rfl) (by rfl) (Below.refl _ _) (by rfl) | exact rfl
        case r11g8 =>
          intro w9 hb
          refine over_some (ds1 := [67]) (ds2 := []) [(.int .i64 i)] (by kernel_rfl) ?_
          refine over_nil ?_
          simp only [putAll, put_lit, List.set_cons_succ, List.set_cons_zero]
          go_wp2
          first | exact post_of (by rfl) (by rfl) (Below.refl _ _) (by rfl) | exact rfl
        case r11g9 =>
          intro w9 hb
          refine over_some (ds1 := [65, 66, 68]) (ds2 := []) [(.slice (some ⟨b1, off1, none⟩) n0 cu), (.int .i64 i), (.int .i64 ((i : Int) + 1))] (by kernel_rfl) ?_
          refine over_nil ?_
          simp only [putAll, put_lit, List.set_cons_succ, List.set_cons_zero]
          go_wp2
          first | exact post_of (by rfl) (by rfl) (Below.refl _ _) (by rfl) | exact rfl
        case r11g10 =>
          intro w9 hb
          refine over_some (ds1 := [64, 69]) (ds2 := []) [(.slice (some ⟨b, off + i * 2, none⟩) 1 (c0 - i)), (.slice (some ⟨b1, off1 + i * 2, none⟩) 1 (cu - i))] (by kernel_rfl) ?_
          refine over_nil ?_
          simp only [putAll, put_lit, List.set_cons_succ, List.set_cons_zero]
          go_wp2_with fail
          have hc := key_any (some ⟨b, off + i * 2, none⟩) 1 (c0 - i) [p] (some ⟨b1, off1 + i * 2, none⟩) 1 (cu - i) [(x, x)] w9 (HTr.out.next hb) IP.out IXX.out RX.out (by simp) (SS1.out.next hb) (SU1.out.next hb)
          rw [H1.out] at hc
          refine hc.mono ?_
          clear hc
          rintro e w10 ⟨rfl, b6⟩
          go_wp2
          exact post_of (by rfl) (by rfl) b6 (by rfl)
        case r11g11 =>
          intro w9 hb
          refine over_some (ds1 := [70]) (ds2 := []) [(.int .u8 k)] (by kernel_rfl) ?_
          refine over_nil ?_
          simp only [putAll, put_lit, List.set_cons_succ, List.set_cons_zero]
          go_wp2
          first | exact post_of (by rfl) (by rfl) (Below.refl _ _) (by rfl) | exact rfl
        case r11g12 =>
          intro w9 hb
          refine over_nil ?_
          have cK := (boxed_next KB.out hb).cell
          go_wp2
          first | exact post_of (by rfl) (by rfl) (Below.refl _ _) (by rfl) | exact rfl
        case r11g13 =>
          intro w9 hb
          refine over_nil ?_
          go_wp2
          first | exact post_of (by rfl) (by rfl) (Below.refl _ _) (by rfl) | exact rfl
        case r11g14 =>
          intro w9 hb
          refine over_nil ?_
          go_wp2
          first | exact post_of (by rfl) (by rfl) (Below.refl _ _) (by rfl) | exact rfl
        case r11g15 =>
          intro w9 hb
          refine over_some (ds1 := [74]) (ds2 := []) [(.int .i64 i)] (by kernel_rfl) ?_
          refine over_nil ?_
          simp only [putAll, put_lit, List.set_cons_succ, List.set_cons_zero]
          go_wp2
          first | exact post_of (by rfl) (by rfl) (Below.refl _ _) (by rfl) | exact rfl
        case r11g16 =>
          intro w9 hb
          refine over_some (ds1 := [72, 73, 75]) (ds2 := []) [(.slice (some ⟨b, off, none⟩) n0 c0), (.int .i64 i), (.int .i64 ((i : Int) + 1))] (by kernel_rfl) ?_
          refine over_nil ?_
          simp only [putAll, put_lit, List.set_cons_succ, List.set_cons_zero]
          go_wp2
          first | exact post_of (by rfl) (by rfl) (Below.refl _ _) (by rfl) | exact rfl
        case r11g17 =>
          intro w9 hb
          refine over_nil ?_
          go_wp2
          first | exact post_of (by rfl) (by rfl) (Below.refl _ _) (by rfl) | exact rfl
        case r11g18 =>
          intro w9 hb
          refine over_nil ?_
          go_wp2
          first | exact post_of (by rfl) (by rfl) (Below.refl _ _) (by rfl) | exact rfl
        case r11g19 =>
          intro w9 hb
          refine over_nil ?_
          go_wp2
          first | exact post_of (by rfl) (by rfl) (Below.refl _ _) (by rfl) | exact rfl
        case r11g20 =>
          intro w9 hb
          refine over_some (ds1 := [79]) (ds2 := []) [(.int .i64 i)] (by kernel_rfl) ?_
          refine over_nil ?_
          simp only [putAll, put_lit, List.set_cons_succ, List.set_cons_zero]
          go_wp2
          first | exact post_of (by rfl) (by rfl) (Below.refl _ _) (by rfl) | exact rfl
        case r11g21 =>
          intro w9 hb
          refine over_some (ds1 := [77, 78, 80]) (ds2 := []) [(.slice (some ⟨b2, off2, none⟩) n0 cv), (.int .i64 i), (.int .i64 ((i : Int) + 1))] (by kernel_rfl) ?_
          refine over_nil ?_
          simp only [putAll, put_lit, List.set_cons_succ, List.set_cons_zero]
          go_wp2
          first | exact post_of (by rfl) (by rfl) (Below.refl _ _) (by rfl) | exact rfl
        case r11g22 =>
          intro w9 hb
          refine over_some (ds1 := [76, 81]) (ds2 := []) [(.slice (some ⟨b, off + i * 2, none⟩) 1 (c0 - i)), (.slice (some ⟨b2, off2 + i * 2, none⟩) 1 (cv - i))] (by kernel_rfl) ?_
          refine over_nil ?_
          simp only [putAll, put_lit, List.set_cons_succ, List.set_cons_zero]
          go_wp2_with fail
          have hc := key_any (some ⟨b, off + i * 2, none⟩) 1 (c0 - i) [p] (some ⟨b2, off2 + i * 2, none⟩) 1 (cv - i) [(z, z)] w9 (HTr.out.next hb) IP.out IZZ.out RZ.out (by simp) (SS1.out.next hb) (SV1.out.next hb)
          rw [H2.out] at hc
          refine hc.mono ?_
          clear hc
          rintro e w10 ⟨rfl, b6⟩
          go_wp2
          exact post_of (by rfl) (by rfl) b6 (by rfl)
        case r11g23 =>
          intro w9 hb
          refine over_some (ds1 := [82]) (ds2 := []) [(.int .u8 l)] (by kernel_rfl) ?_
          refine over_nil ?_
          simp only [putAll, put_lit, List.set_cons_succ, List.set_cons_zero]
          go_wp2
          first | exact post_of (by rfl) (by rfl) (Below.refl _ _) (by rfl) | exact rfl
        case r11g24 =>
          intro w9 hb
          refine over_some (ds1 := [71]) (ds2 := []) [(.int .i64 k)] (by kernel_rfl) ?_
          refine over_nil ?_
          simp only [putAll, put_lit, List.set_cons_succ, List.set_cons_zero]
          go_wp2
          first | exact post_of (by rfl) (by rfl) (Below.refl _ _) (by rfl) | exact rfl
        case r11g25 =>
          intro w9 hb
          refine over_some (ds1 := [83]) (ds2 := []) [(.int .i64 l)] (by kernel_rfl) ?_
          refine over_nil ?_
          simp only [putAll, put_lit, List.set_cons_succ, List.set_cons_zero]
          go_wp2
          first | exact post_of (by rfl) (by rfl) (Below.refl _ _) (by rfl) | exact rfl
      · obtain rfl : n0 = i := by omega
        have j1 : ¬ (n0 : Int) < (n0 : Int) := by omega
        have HF1 : Hid (keyF ps us = kk) := by
          rw [HK.out]
          have := keyN_all (ps := ps) (fs := us) (LU.out.trans HL0.out)
          rw [LU.out] at this
          exact this.symm
        have HF2 : Hid (keyF ps vs = ll) := by
          rw [HL.out]
          have := keyN_all (ps := ps) (fs := vs) (LV.out.trans HL0.out)
          rw [LV.out] at this
          exact this.symm
        have LU4 : us.length ≤ 4 := by rw [LU.out]; exact hn4
        have LV4 : vs.length ≤ 4 := by rw [LV.out]; exact hn4
        clear HK HL
        have cK := KB.out.cell
        go_wp2_with fail
        clear cK
        have hc := key_any A0 n0 c0 ps Au n0 cu us wr HTr.out I0.out IU.out RU.out LU4 SS.out SU.out
        rw [HF1.out] at hc
        refine hc.mono ?_
        clear hc
        rintro e w5 ⟨rfl, b5⟩
        replace SS := Lib.hid (SS.out.next b5)
        replace SV := Lib.hid (SV.out.next b5)
        replace KB := Lib.hid (boxed_next KB.out b5)
        replace HTr := Lib.hid (HTr.out.next b5)
        replace Br := Lib.hid (thn Br.out b5)
        clear b5
        have cK := KB.out.cell
        go_wp2_with fail
        clear cK
        have hc := key_any A0 n0 c0 ps Av n0 cv vs w5 HTr.out I0.out IV.out RV.out LV4 SS.out SV.out
        rw [HF2.out] at hc
        refine hc.mono ?_
        clear hc
        rintro e w6 ⟨rfl, b5⟩
        replace SS := Lib.hid (SS.out.next b5)
        replace KB := Lib.hid (boxed_next KB.out b5)
        replace HTr := Lib.hid (HTr.out.next b5)
        replace Br := Lib.hid (thn Br.out b5)
        clear b5
        have cK := KB.out.cell
        go_wp2_with fail
        clear cK
        have hc := key_any A0 n0 c0 ps none 0 0 [] w6 HTr.out I0.out (fun q hq => by cases hq) (right_nil ps) (by decide) SS.out (sp_zero _ _ _)
        rw [keyF_nil] at hc
        refine hc.mono ?_
        clear hc
        rintro e w7 ⟨rfl, b5⟩
        replace HTr := Lib.hid (HTr.out.next b5)
        replace Br := Lib.hid (thn Br.out b5)
        clear b5
        go_wp2_with fail
        refine (awake_any w7 HTr.out).mono ?_
        rintro e w8 ⟨rfl, b5⟩
        replace Br := Lib.hid (thn Br.out b5)
        clear b5
        go_wp2
        go_ret
        exact ⟨rfl, by first | exact Br.out | (rw [← hg3]; exact Br.out)⟩
end Go.Proofs.YtmajempbncllgaaDoor
