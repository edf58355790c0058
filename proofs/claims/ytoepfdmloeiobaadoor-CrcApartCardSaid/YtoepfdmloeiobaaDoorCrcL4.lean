/- Walk of CrcApart. -/
import Derived.Test.YtoepfdmloeiobaaDoorCrc2
import Derived.Test.YtoepfdmloeiobaaDoorCrcTab
import Derived.Test.YtoepfdmloeiobaaDoorWb
namespace Go.Proofs.YtoepfdmloeiobaaDoor
open Go.RowKit
set_option linter.unusedVariables false

theorem openE_seal (l : List UInt8) : openE (sealF l) = 0 := openE_yes (open_sealB l)
theorem seal_of (A : Option Addr) (n c k : Nat) (l : List UInt8) (w : World) (h : Sl w k A n c l) (hk : k ≤ w.heap.size) (hT : Tab w) (hn : n ≤ 1000000) :
    Calls Tryd.prog 15 #[.slice A n c] w fun e w' => ∃ A' c', e = .returned (.slice A' (n + 4) c') ∧ Own w' w.heap.size 5 A' (n + 4) c' ((sealF l).map Bv) ∧ Below w.heap.size w w' :=
  (seal_made A n c k l w h hk hT hn).mono fun e w' ⟨A', c', he, ho, hb⟩ => by
    rw [sealF_len, ← sl_len h] at he ho
    exact ⟨A', c', he, ho, hb⟩
theorem open_of (A : Option Addr) (n c : Nat) (l : List UInt8) (w : World) (h : Sl w w.heap.size A (n + 4) c (sealF l)) (hl : n = l.length) (hT : Tab w) (hn : n ≤ 999000) :
    Calls Tryd.prog 8 #[.slice A (n + 4) c] w fun e w' => ∃ A' c', e = .returned (.tuple #[.slice A' n c', .int .i64 0]) ∧ Own w' w.heap.size 5 A' n c' (l.map Bv) ∧ Below w.heap.size w w' :=
  (open_any A (n + 4) c (sealF l) w h hT (by omega)).mono fun e w' ⟨A', c', he, ho, hb⟩ => by
    rw [openE_seal, open_sealL, ← hl] at he
    rw [open_sealL, ← hl] at ho
    exact ⟨A', c', he, ho, hb⟩

/-- What Open tells, when it opens, is what was sealed. -/
def Seals (A : Option Addr) (n c : Nat) (l : List UInt8) (w : World) (e : Ending) (w' : World) : Prop :=
  (∃ A' n' c', e = .returned (.tuple #[.slice A' n' c', .int .i64 20]) ∧ Below w.heap.size w w') ∨
  (∃ A' n' c' l', e = .returned (.tuple #[.slice A' n' c', .int .i64 0]) ∧ sealF l' = l ∧ Sl w' w'.heap.size A' n' c' l' ∧ Below w.heap.size w w')
theorem apart_open (A : Option Addr) (n c : Nat) (l : List UInt8) (w : World) (h : Sl w w.heap.size A n c l) (hT : Tab w) (hn : n ≤ 1000000) :
    Calls Tryd.prog 8 #[.slice A n c] w (Seals A n c l w) :=
  (open_any A n c l w h hT hn).mono fun e w' ⟨A', c', he, ho, hb⟩ => by
    cases h : openB l with
    | false => rw [openE_no h] at he; exact .inl ⟨A', _, c', he, hb⟩
    | true => rw [openE_yes h] at he; exact .inr ⟨A', _, c', openL l, he, seal_open l h, ho.sv, hb⟩

set_option maxHeartbeats 1000000 in
theorem apart_any (A : Option Addr) (n c : Nat) (l : List UInt8) (p : UInt8) (at_ : Int) (w : World) (h : Sl w w.heap.size A n c l) (hT : Tab w) (hn : (n : Int) ≤ 200) (ha : 0 ≤ at_) (ha' : at_ ≤ 255) :
    Calls Tryd.prog 6 #[.slice A n c, .int .u8 p.toNat, .int .u8 at_] w fun e w' => e = .returned (.bool true) ∧ Below w.heap.size w w' := by
  have HL : Hid (n = l.length) := sl_len h
  have E : Env w [(A, n, c, l.map Bv)] := (Env.nil w).add h
  have HT : Hid (Tab w) := hT
  clear h hT
  go_enter Tryd.func6, Tryd.ntmps6
  go_wp2_with (first
    | (at_builtin; have o0 := o1; go_must (refine wpList_app rfl _ _ 23 rfl Tryd.underlying23 infoU8 rfl rfl (o0.alloc _) rfl (Sv.one _ _ _) (fun u hu => by simp at hu; subst hu; rfl) (by omega) (by decide) (by simp; have := hB1.size; omega) ?_); intro A2 c2 w2 o2 g2; have hB2 := (hB1.alloc hB1.size _).grown g2 (by simp; have := hB1.size; omega) o0.lt; have k2 : n ≤ c2 := Nat.le_trans (Nat.le_succ n) o2.sv.cap; have k3 : n + 1 ≤ c2 := o2.sv.cap; clear o0 o1 g2 hB1)
    | (at_builtin; go_must (refine wpList_app rfl _ _ 23 rfl Tryd.underlying23 infoU8 rfl rfl (Own.lit0 _ 5) rfl ((E.next (below_lit _ _)).of (by repeat (first | exact List.Mem.head _ | apply List.Mem.tail))) (Bv_one _) (by omega) (by decide) (by simp) ?_); intro A1 c1 w1 o1 g1; have hB1 := ((Below.refl _ _).alloc (Nat.le_refl _) _).grown g1 (by simp) (Own.lit0 _ 5).lt; rw [Nat.zero_add, List.nil_append] at o1; clear g1))
  have s2 : Sl w2 w2.heap.size A2 (n + 1) c2 (l ++ [7]) := by have := o2.sv; rwa [show List.map Bv l ++ [Value.int IntKind.u8 7] = (l ++ [7]).map Bv from by simp [Bv]] at this
  obtain ⟨g2, f2, rfl, _, _⟩ := s2.at_ (by omega)
  have u2 := s2.upto (hi := n) (by omega)
  rw [← List.map_take, HL.out, List.take_left, ← HL.out] at u2
  have E2 : Env w2 [(some ⟨g2, f2, none⟩, n, c2, l.map Bv), (some ⟨g2, f2, none⟩, n + 1, c2, (l ++ [7]).map Bv), (A, n, c, l.map Bv)] := ((E.next hB2).add s2).add u2
  have HT2 : Hid (Tab w2) := HT.out.next hB2
  clear s2 u2 o2 HT E
  refine (seal_of _ _ _ _ l _ (E2.of (by repeat (first | exact List.Mem.head _ | apply List.Mem.tail))) (Nat.le_refl _) HT2.out (by omega)).mono ?_
  rintro e w3 ⟨A3, c3, rfl, o3, b3⟩
  have HT3 : Hid (Tab w3) := HT2.out.next b3
  have E3 := (E2.next b3).add o3.sv
  go_wp2_with fail
  refine (open_of _ _ _ l _ (E3.of (by repeat (first | exact List.Mem.head _ | apply List.Mem.tail))) HL.out HT3.out (by omega)).mono ?_
  rintro e w4 ⟨A4, c4, rfl, o4, b4⟩
  have W4 := Wb.of_own o4
  clear o4
  go_wp2_with fail
  go_loopw [43] (fun i wr => ∃ j : Nat, j ≤ n ∧ i = .int .i64 j ∧ Wb wr w3.heap.size A4 n ∧ Below w3.heap.size w3 wr) (fun i _ => n - (intOf i).toNat)
  case atStart => exact ⟨0, Nat.zero_le _, rfl, W4, b4⟩
  case round =>
    obtain ⟨j, hj, rfl, W5, B5⟩ := hrel
    clear W4 b4
    by_cases hlt : j < n
    · obtain ⟨g, v, cur, rfl, hBg, hg, hcell, hfr⟩ := W5.cell hlt
      have hv := v.toNat_lt
      have HO : Hid (∀ x : Value, x = Bv (v + 1) → Wb (wr.setCell ⟨g, j, none⟩ x) w3.heap.size (some ⟨g, 0, none⟩) n ∧ Below w3.heap.size w3 (wr.setCell ⟨g, j, none⟩ x)) := fun x hx => ⟨W5.set g j x (v + 1) hx, B5.setCell hBg x⟩
      clear hg W5 B5
      go_wp2
      go_roundw
      case rel => exact ⟨j + 1, by omega, by go_num, (HO.out _ (by simp [Bv, UInt8.toNat_add])).1, (HO.out _ (by simp [Bv, UInt8.toNat_add])).2⟩
      case measure => simp [intOf]; omega
    · obtain rfl : j = n := by omega
      clear W5
      obtain ⟨wo, rfl⟩ : ∃ wo : World, wo = wr := ⟨_, rfl⟩
      have Eo := E3.next B5
      have Oo := o3.below B5
      have Bo : Below w2.heap.size w2 wo := b3.trans (B5.mono b3.size)
      have HTo : Hid (Tab wo) := HT3.out.next B5
      clear E3 o3 b3 B5 HT3
      go_wp2_with fail
      refine (open_of _ _ _ l _ (Eo.of (by repeat (first | exact List.Mem.head _ | apply List.Mem.tail))) HL.out HTo.out (by omega)).mono ?_
      rintro e w5 ⟨A5, c5, rfl, o5, b5⟩
      have W6 := Wb.of_own (Oo.below b5)
      obtain ⟨g3, rfl, q1, q2⟩ := (Wb.of_own Oo).lt (by omega)
      have B6 : Below w2.heap.size w2 w5 := Bo.trans (b5.mono Bo.size)
      clear Oo Bo b5 HTo Eo
      go_wp2_with fail
      go_loopw [60] (fun i wr => ∃ q : Nat, q ≤ j + 4 ∧ i = .int .i64 q ∧ Wb wr w2.heap.size (some ⟨g3, 0, none⟩) (j + 4) ∧ Below w2.heap.size w2 wr ∧ Own wr wo.heap.size 5 A5 j c5 (l.map Bv)) (fun i _ => j + 4 - (intOf i).toNat)
      case atStart => exact ⟨0, Nat.zero_le _, rfl, W6, B6, o5⟩
      case round =>
        obtain ⟨q, hq, rfl, W7, B7, o7⟩ := hrel
        clear W6 B6 o5
        by_cases hlt2 : q < j + 4
        · obtain ⟨g, v, cur, hgg, hBg, hg, hcell, hfr⟩ := W7.cell hlt2
          injection hgg with hgg
          injection hgg with hgg
          subst hgg
          have hv := v.toNat_lt
          have HO : Hid (∀ x : Value, x = Bv (v + 1) → Wb (wr.setCell ⟨g3, q, none⟩ x) w2.heap.size (some ⟨g3, 0, none⟩) (j + 4) ∧ Below w2.heap.size w2 (wr.setCell ⟨g3, q, none⟩ x) ∧ Own (wr.setCell ⟨g3, q, none⟩ x) wo.heap.size 5 A5 j c5 (l.map Bv)) := fun x hx => ⟨W7.set g3 q x (v + 1) hx, B7.setCell hBg x, o7.set_other q2 x⟩
          clear hg W7 B7 o7
          go_wp2
          go_roundw
          case rel => exact ⟨q + 1, by omega, by go_num, HO.out _ (by simp [Bv, UInt8.toNat_add])⟩
          case measure => simp [intOf]; omega
        · obtain rfl : q = j + 4 := by omega
          clear W7
          obtain ⟨wp, rfl⟩ : ∃ wp : World, wp = wr := ⟨_, rfl⟩
          have Ep := (E2.next B7).add o7.sv
          have HTp : Hid (Tab wp) := HT2.out.next B7
          have hBp : Below w.heap.size w wp := hB2.trans (B7.mono hB2.size)
          clear o7 HT2 E2 B7 hB2
          obtain ⟨_, _, hsome, _, hcells⟩ := Ep.tl.tl.hd.at_ (by omega)
          injection hsome with hsome
          injection hsome with h1 h2
          subst h1 h2
          have hc7 : wp.cell? ⟨g2, f2 + j, none⟩ = some (.int .u8 7) := hcells j _ (by rw [HL.out]; simp [Bv])
          clear hcells
          go_wp2_with fail
          refine (same_eq _ _ _ _ _ _ _ _ _ _ _ (Ep.of (by repeat (first | exact List.Mem.head _ | apply List.Mem.tail))) (Ep.of (by repeat (first | exact List.Mem.head _ | apply List.Mem.tail))) rfl).mono ?_
          rintro e w6 ⟨rfl, rfl⟩
          go_wp2_with fail
          refine (same_eq _ _ _ _ _ _ _ _ _ _ _ (Ep.of (by repeat (first | exact List.Mem.head _ | apply List.Mem.tail))) (Ep.of (by repeat (first | exact List.Mem.head _ | apply List.Mem.tail))) rfl).mono ?_
          rintro e w6 ⟨rfl, rfl⟩
          go_wp2_with fail
          refine (seal_of _ _ _ _ l _ (Ep.tl.tl.tl.of (by repeat (first | exact List.Mem.head _ | apply List.Mem.tail))) (Nat.le_refl _) HTp.out (by omega)).mono ?_
          rintro e w7 ⟨A7, c7, rfl, o7, b7⟩
          have z7 := b7.size
          have zp := hBp.size
          clear Ep hc7
          obtain ⟨r, hr⟩ : ∃ r : Nat, at_ % ((j : Int) + 4 + 1) = (r : Int) := ⟨(at_ % ((j : Int) + 4 + 1)).toNat, by have := Int.emod_nonneg at_ (b := (j : Int) + 4 + 1) (by omega); omega⟩
          have hr1 : (r : Int) < (j : Int) + 4 + 1 := by have := Int.emod_lt_of_pos at_ (b := (j : Int) + 4 + 1) (by omega); omega
          go_wp2_with (at_builtin; go_must (refine wpList_app rfl _ _ 23 rfl Tryd.underlying23 infoU8 rfl rfl (o7.alloc _) rfl (Sv.one _ _ _) (fun u hu => by simp at hu; subst hu; rfl) (by omega) (by decide) (by simp; omega) ?_); intro A8 c8 w8 o8 g8; have k8 : r ≤ c8 := Nat.le_trans (by omega) o8.sv.cap)
          have bp8 : Below wp.heap.size wp w8 := (b7.alloc b7.size _).grown g8 (by simp; omega) o7.lt
          have hB8 : Below w.heap.size w w8 := hBp.trans (bp8.mono zp)
          have HT8 : Hid (Tab w8) := HTp.out.next bp8
          have s8 : Sl w8 w8.heap.size A8 (j + 4 + 1) c8 (sealF l ++ [p]) := by have := o8.sv; rwa [show List.map Bv (sealF l) ++ [Value.int IntKind.u8 (p.toNat : Int)] = (sealF l ++ [p]).map Bv from by simp [Bv]] at this
          have u8 := s8.upto (hi := r) (by omega)
          rw [← List.map_take] at u8
          have hG := heap_alloc_new w8 (.cells #[.slice A8 (j + 4 + 1) c8, .slice A8 r c8] 23)
          have b9 := below_lit w8 (.cells #[.slice A8 (j + 4 + 1) c8, .slice A8 r c8] 23)
          have E9 := (((Env.nil w8).add u8).add s8).next b9
          have hB9 := hB8.trans (b9.mono hB8.size)
          have HT9 : Hid (Tab _) := HT8.out.next b9
          clear s8 u8 o8 o7 g8 b7 bp8 hBp HTp HT8 b9 hB8
          generalize sealF l ++ [p] = ll at *
          generalize w8.alloc (.cells #[.slice A8 (j + 4 + 1) c8, .slice A8 r c8] 23) = w9 at *
          generalize w8.heap.size = G at *
          have hG' : G < w9.heap.size := (Array.getElem?_eq_some_iff.1 hG).1
          rw [hr]
          go_loopw [111] (fun i wr => ∃ q : Nat, q ≤ 2 ∧ i = .int .i64 q ∧ Below w9.heap.size w9 wr) (fun i _ => 2 - (intOf i).toNat)
          case atStart => exact ⟨0, by omega, rfl, Below.refl _ _⟩
          case round =>
            obtain ⟨q, hq, rfl, bq⟩ := hrel
            have hGq : wr.heap[G]? = some (.cells #[.slice A8 (j + 4 + 1) c8, .slice A8 r c8] 23) := by rw [bq.block G hG']; exact hG
            have ca : wr.cell? ⟨G, 0, none⟩ = some (.slice A8 (j + 4 + 1) c8) := by rw [cell_of_row wr G 0 _ 23 (0, 0) hGq]; rfl
            have cb : wr.cell? ⟨G, 1, none⟩ = some (.slice A8 r c8) := by rw [cell_of_row wr G 1 _ 23 (0, 0) hGq]; rfl
            have Eq := E9.next bq
            have HTq : Hid (Tab wr) := HT9.out.next bq
            clear hGq
            obtain rfl | rfl | rfl : q = 0 ∨ q = 1 ∨ q = 2 := by omega
            · go_wp2_with fail
              refine (apart_open A8 (j + 4 + 1) c8 ll wr Eq.hd HTq.out (by omega)).mono ?_
              rintro e w10 (⟨A10, n10, c10, rfl, b10⟩ | ⟨A10, n10, c10, l10, rfl, hl10, s10, b10⟩)
              · go_wp2
                go_roundw
                case rel => exact ⟨0 + 1, by omega, rfl, thn bq b10⟩
                case measure => simp [intOf]
              · have HS : Hid (sealF l10 = ll) := hl10
                have HT10 : Hid (Tab w10) := HTq.out.next b10
                have n10' : n10 ≤ 1000000 := by
                  have h1 := sl_len s10
                  have h2 := sl_len Eq.hd
                  have h3 := sealF_len l10
                  rw [hl10] at h3
                  omega
                have E10 := Eq.next b10
                clear hl10 Eq
                go_wp2_with fail
                refine (seal_made _ _ _ _ l10 _ s10 (Nat.le_refl _) HT10.out n10').mono ?_
                rintro e w11 ⟨A11, c11, rfl, o11, b11⟩
                go_wp2_with fail
                refine (same_eq _ _ _ _ _ _ _ _ _ _ _ o11.sv (E10.next b11).hd HS.out).mono ?_
                rintro e w12 ⟨rfl, rfl⟩
                go_wp2
                go_roundw
                case rel => exact ⟨0 + 1, by omega, rfl, thn (thn bq b10) b11⟩
                case measure => simp [intOf]
            · go_wp2_with fail
              refine (apart_open A8 r c8 (ll.take r) wr Eq.tl.hd HTq.out (by omega)).mono ?_
              rintro e w10 (⟨A10, n10, c10, rfl, b10⟩ | ⟨A10, n10, c10, l10, rfl, hl10, s10, b10⟩)
              · go_wp2
                go_roundw
                case rel => exact ⟨1 + 1, by omega, rfl, thn bq b10⟩
                case measure => simp [intOf]
              · have HS : Hid (sealF l10 = (ll.take r)) := hl10
                have HT10 : Hid (Tab w10) := HTq.out.next b10
                have n10' : n10 ≤ 1000000 := by
                  have h1 := sl_len s10
                  have h2 := sl_len Eq.tl.hd
                  have h3 := sealF_len l10
                  rw [hl10] at h3
                  omega
                have E10 := Eq.next b10
                clear hl10 Eq
                go_wp2_with fail
                refine (seal_made _ _ _ _ l10 _ s10 (Nat.le_refl _) HT10.out n10').mono ?_
                rintro e w11 ⟨A11, c11, rfl, o11, b11⟩
                go_wp2_with fail
                refine (same_eq _ _ _ _ _ _ _ _ _ _ _ o11.sv (E10.next b11).tl.hd HS.out).mono ?_
                rintro e w12 ⟨rfl, rfl⟩
                go_wp2
                go_roundw
                case rel => exact ⟨1 + 1, by omega, rfl, thn (thn bq b10) b11⟩
                case measure => simp [intOf]
            · go_wp2_with (go_at_call 7; go_must (refine (awake_any _ HTq.out).mono ?_); rintro e w10 ⟨rfl, b10⟩)
              go_ret
              exact ⟨rfl, hB9.trans ((thn bq b10).mono hB9.size)⟩
theorem apart_full (A : Option Addr) (n c : Nat) (l : List UInt8) (p at_ : Int) (w : World) (h : Sl w w.heap.size A n c l) (hT : Tab w) (hp : 0 ≤ p ∧ p ≤ 255) (ha : 0 ≤ at_ ∧ at_ ≤ 255) :
    Calls Tryd.prog 6 #[.slice A n c, .int .u8 p, .int .u8 at_] w fun e w' => e = .returned (.bool true) ∧ Below w.heap.size w w' := by
  by_cases hn : 200 < (n : Int)
  · clear hp ha
    go_enter Tryd.func6, Tryd.ntmps6
    go_wp2_with (go_at_call 7; go_must (refine (awake_any _ hT).mono ?_); rintro e w1 ⟨rfl, b1⟩)
    go_ret
    exact ⟨rfl, b1⟩
  · obtain ⟨p, rfl⟩ : ∃ u : UInt8, p = (u.toNat : Int) := ⟨UInt8.ofNat p.toNat, by rw [UInt8.toNat_ofNat']; omega⟩
    exact apart_any A n c l p at_ w h hT (by omega) ha.1 ha.2
end Go.Proofs.YtoepfdmloeiobaaDoor
