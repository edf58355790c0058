/- Layer 10: slices.IndexFunc, DeleteFunc at descriptors. -/
import Derived.Test.YtgbnnllbpidlfaaRbf
import Derived.Test.YtgbnnllbpidlfaaYa
import Derived.Laws.IdiomCopy
import Derived.Lib.LazyBuf
namespace Go.Proofs.Ytgbnnllbpidlfaa
open Go.RowKit
set_option linter.unusedVariables false
/-- A function value that looks at one captured node. -/
def PredN (f B : Nat) (x : Int) (p : Dsc × Hd → Bool) : Prop := ∀ (W : World) (y : Dsc × Hd), W.cell? ⟨B, 0, none⟩ = some (.int .u8 x) → B < W.heap.size → Calls Try.prog f #[(.agg #[.int .u8 y.1.1, .int .u16 y.1.2.1, .int .u8 y.1.2.2.1, .slice y.2.1 y.2.2.1 y.2.2.2]), .pointer (some ⟨B, 0, none⟩)] W fun e W' => e = .returned (.bool (p y)) ∧ Below W.heap.size W W'
theorem pick1_any (B : Nat) (x : Int) : PredN 31 B x (fun y => decide (y.1.1 = x)) := fun W y hB hlt => by
  have HN := Lib.hid (DBlk.new W y.1 y.2)
  have bl := below_lit W (.cells #[.int .u8 y.1.1, .int .u16 y.1.2.1, .int .u8 y.1.2.2.1, .slice y.2.1 y.2.2.1 y.2.2.2] 34)
  have q := (bl.cell (p := ⟨B, 0, none⟩) hlt).trans hB
  have BL := Lib.hid bl
  obtain ⟨v, hv⟩ : ∃ v, decide (y.1.1 = x) = v := ⟨_, rfl⟩
  have hv2 : (y.1.1 == x) = v := by rw [← hv]; exact (Bool.beq_eq_decide_eq _ _)
  dsimp only
  rw [hv]
  clear bl hB hv
  go_enter Try.func31, Try.ntmps31
  go_upto_region 1 with fail
  generalize W.alloc _ = W1 at *
  obtain ⟨c0, c1, c2, c3⟩ := HN.out.cells
  obtain ⟨g, hg⟩ : ∃ g, W.heap.size = g := ⟨_, rfl⟩
  rw [hg] at c0 c1 c2 c3 ⊢
  go_wp2
  go_ret
  exact ⟨rfl, BL.out⟩
theorem fid_drop {p : Dsc × Hd → Bool} {l : List (Dsc × Hd)} {j : Nat} {y : Dsc × Hd} (h : l[j]? = some y) : (l.drop j).findIdx p = if p y then 0 else (l.drop (j + 1)).findIdx p + 1 := by
  rw [(List.drop_eq_getElem_cons (List.getElem?_eq_some_iff.1 h).1), (List.getElem?_eq_some_iff.1 h).2, List.findIdx_cons]
  cases p y <;> rfl
theorem snd_at {w : World} {A : Option Addr} {n c : Nat} {xs : List (Dsc × Hd)} (h : Sn w w.heap.size 4 A n c (dcs xs)) {j : Nat} (hj : j < n) : ∃ b off x, A = some ⟨b, off, none⟩ ∧ b < w.heap.size ∧ xs[j]? = some x ∧
    w.cell? ⟨b, off + j * 4, none⟩ = some (.int .u8 x.1.1) ∧ w.cell? ⟨b, off + j * 4 + 1, none⟩ = some (.int .u16 x.1.2.1) ∧ w.cell? ⟨b, off + j * 4 + 2, none⟩ = some (.int .u8 x.1.2.2.1) ∧ w.cell? ⟨b, off + j * 4 + 3, none⟩ = some (.slice x.2.1 x.2.2.1 x.2.2.2) := by
  have hl := h.len
  rw [dcs_length] at hl
  obtain ⟨b, off, hA, hb, hc⟩ := h.at_ (by omega)
  have hlt : j < xs.length := by omega
  obtain ⟨c0, c1, c2, c3⟩ := dcs_at xs j xs[j] (by simp [hlt])
  refine ⟨b, off, xs[j], hA, hb, by simp [hlt], hc _ _ c0, ?_, ?_, ?_⟩
  · have := hc _ _ c1; rwa [← Nat.add_assoc] at this
  · have := hc _ _ c2; rwa [← Nat.add_assoc] at this
  · have := hc _ _ c3; rwa [← Nat.add_assoc] at this
theorem indexd_any (A : Option Addr) (n c : Nat) (l : List (Dsc × Hd)) (f B : Nat) (x : Int) (p : Dsc × Hd → Bool) (eg : ∀ args w, (callFunc f args).run Try.prog w = .ok (.enter f args) w) (hp : PredN f B x p) (w : World) (hB : w.cell? ⟨B, 0, none⟩ = some (.int .u8 x)) (hlt0 : B < w.heap.size) (h : Sn w w.heap.size 4 A n c (dcs l)) :
    Calls Try.prog 43 #[.slice A n c, .func (.func f) #[] #[.pointer (some ⟨B, 0, none⟩)]] w fun e w' => e = .returned (.int .i64 (if l.findIdx p < n then ((l.findIdx p : Nat) : Int) else -1)) ∧ Below w.heap.size w w' := by
  have HL : Hid (n = l.length) := by have := h.len; rw [dcs_length] at this; unfold Hid; omega
  have hm := h.max
  have hc := h.cap
  unfold maxLen at hm
  have HS := Lib.hid h
  have HB := Lib.hid hB
  have HP := Lib.hid hp
  have HLT := Lib.hid hlt0
  clear h hB hp hlt0
  obtain ⟨R, HR⟩ : ∃ R : Int, Hid ((if l.findIdx p < n then ((l.findIdx p : Nat) : Int) else -1) = R) := ⟨_, rfl⟩
  rw [HR.out]
  go_enter Try.func43, Try.ntmps43
  go_wp2
  go_loopw [5, 8] (fun _ i wr => ∃ j : Nat, j ≤ n ∧ i = .int .i64 j ∧ Hid ((l.drop j).findIdx p + j = l.findIdx p) ∧ Hid (Below w.heap.size w wr)) (fun _ i _ => n - (intOf i).toNat)
  case atStart => exact ⟨0, Nat.zero_le _, rfl, rfl, Below.refl _ _⟩
  case round =>
    obtain ⟨j, hj, rfl, HO, b1⟩ := hrel
    have i0 : (0 : Int) ≤ (j : Int) := by omega
    by_cases hlt : j < n
    · have i1 : (j : Int) < (n : Int) := by omega
      obtain ⟨b, off, y, rfl, hb, hy, c0, c1, c2, c3⟩ := snd_at (HS.out.next b1.out) hlt
      have HF := Lib.hid (fid_drop (p := p) hy)
      have hcall := HP.out wr y ((b1.out.cell (p := ⟨B, 0, none⟩) HLT.out).trans HB.out) (Nat.lt_of_lt_of_le HLT.out b1.out.size)
      clear hy
      cases hq : p y with
      | true =>
        rw [hq] at hcall
        have HF2 : Hid (R = j) := by
          have h1 := HF.out
          rw [hq, if_pos rfl] at h1
          have h2 := HO.out
          have h3 : l.findIdx p = j := by omega
          unfold Hid
          rw [← HR.out, h3, if_pos hlt]
        clear HF
        go_wp2_with fail
        refine hcall.mono ?_
        rintro e w' ⟨rfl, hb'⟩
        go_wp2
        go_ret
        exact ⟨by rw [HF2.out]; rfl, thn b1.out hb'⟩
      | false =>
        rw [hq] at hcall
        have HF2 : Hid ((l.drop (j + 1)).findIdx p + (j + 1) = l.findIdx p) := by have h1 := HF.out; rw [hq, if_neg (by decide)] at h1; have h2 := HO.out; unfold Hid; omega
        clear HF
        go_wp2_with fail
        refine hcall.mono ?_
        rintro e w' ⟨rfl, hb'⟩
        go_wp2
        have B3 := Lib.hid (thn b1.out hb')
        clear hb'
        go_roundw
        case rel => exact ⟨j + 1, by omega, by go_num, HF2, B3⟩
        case measure => simp [intOf]; omega
    · obtain rfl : j = n := by omega
      have HF2 : Hid (R = -1) := by
        have h1 := HO.out
        rw [List.drop_of_length_le (by rw [← HL.out]; exact Nat.le_refl _)] at h1
        have h3 : l.findIdx p = j := by simpa using h1.symm
        unfold Hid
        rw [← HR.out, h3, if_neg (by omega)]
      go_wp2
      go_ret
      exact ⟨by rw [HF2.out]; rfl, b1.out⟩
theorem set4c {a b c d v : Value} {t : List Value} {k m : Nat} (h : m = k + 4) : (a :: b :: c :: d :: t).set m v = a :: b :: c :: d :: t.set k v := by subst h; rfl
theorem dcs_setv : ∀ (d : List (Dsc × Hd)) (i : Nat) (p : Dsc × Hd), i < d.length → ((((dcs d).set (i * 4) (.int .u8 p.1.1)).set (i * 4 + 1) (.int .u16 p.1.2.1)).set (i * 4 + 2) (.int .u8 p.1.2.2.1)).set (i * 4 + 3) (.slice p.2.1 p.2.2.1 p.2.2.2) = dcs (d.set i p)
  | [], i, p, h => by simp at h
  | q :: d, 0, p, h => by simp [dcs_cons, dcl]
  | q :: d, i + 1, p, h => by
    have ih := dcs_setv d i p (by simpa using h)
    rw [dcs_cons]
    simp only [dcl, List.cons_append, List.nil_append]
    rw [set4c (k := i * 4) (by omega), set4c (k := i * 4 + 1) (by omega), set4c (k := i * 4 + 2) (by omega), set4c (k := i * 4 + 3) (by omega), ih, List.set_cons_succ, dcs_cons]; rfl
/-- What the second loop keeps: the first i are what is kept of the first j, the rest is as it was. -/
structure Kept (q : Dsc × Hd → Bool) (l d : List (Dsc × Hd)) (j i : Nat) : Prop where
  size : d.length = l.length
  lt : i < j
  le : j ≤ l.length
  low : d.take i = (l.take j).filter q
  high : ∀ t, i ≤ t → d[t]? = l[t]?
  mem : ∀ y ∈ d, y ∈ l
theorem Kept.start {q : Dsc × Hd → Bool} {l : List (Dsc × Hd)} {k : Nat} (hk : k < l.length) (h1 : ∀ t, t < k → ∀ y, l[t]? = some y → q y = true) (h2 : ∀ y, l[k]? = some y → q y = false) : Kept q l l (k + 1) k where
  size := rfl
  lt := Nat.lt_succ_self _
  le := hk
  low := by
    rw [List.take_add_one, List.getElem?_eq_getElem hk, List.filter_append]
    have e1 : (l.take k).filter q = l.take k := List.filter_eq_self.2 fun y hy => by
      obtain ⟨t, ht, rfl⟩ := List.mem_iff_getElem.1 hy
      rw [List.length_take] at ht
      exact h1 t (by omega) _ (by rw [List.getElem_take]; exact List.getElem?_eq_getElem _)
    have e2 := h2 _ (List.getElem?_eq_getElem hk)
    rw [e1]
    simp [e2]
  high := fun _ _ => rfl
  mem := fun _ h => h
theorem Kept.skip {q : Dsc × Hd → Bool} {l d : List (Dsc × Hd)} {j i : Nat} {y : Dsc × Hd} (h : Kept q l d j i) (hy : l[j]? = some y) (hq : q y = false) : Kept q l d (j + 1) i where
  size := h.size
  lt := Nat.lt_succ_of_lt h.lt
  le := (List.getElem?_eq_some_iff.1 hy).1
  low := by rw [h.low, List.take_add_one, hy, List.filter_append]; simp [hq]
  high := h.high
  mem := h.mem
theorem Kept.keep {q : Dsc × Hd → Bool} {l d : List (Dsc × Hd)} {j i : Nat} {y : Dsc × Hd} (h : Kept q l d j i) (hy : l[j]? = some y) (hq : q y = true) : Kept q l (d.set i y) (j + 1) (i + 1) where
  size := by rw [List.length_set]; exact h.size
  lt := Nat.succ_lt_succ h.lt
  le := (List.getElem?_eq_some_iff.1 hy).1
  low := by
    have hi : i < d.length := by have := h.lt; have := h.le; have := h.size; omega
    have e : (d.set i y).take i = d.take i := List.take_set_of_le (Nat.le_refl _)
    rw [List.take_add_one, e, h.low, List.getElem?_set_self hi, List.take_add_one, hy, List.filter_append]
    simp [hq]
  high := fun t ht => by rw [List.getElem?_set_ne (by omega)]; exact h.high t (by omega)
  mem := fun z hz => by
    rcases List.mem_or_eq_of_mem_set hz with hz | rfl
    · exact h.mem z hz
    · exact List.mem_of_getElem? hy
theorem Kept.done {q : Dsc × Hd → Bool} {l d : List (Dsc × Hd)} {i : Nat} (h : Kept q l d l.length i) : d.take i = l.filter q := by rw [h.low, List.take_length]
theorem findd_all {p : Dsc × Hd → Bool} {l : List (Dsc × Hd)} {n : Nat} (hn : n = l.length) (h : ¬ l.findIdx p < n) : l.filter (fun y => !p y) = l :=
  List.filter_eq_self.2 fun y hy => by
    have h1 : l.findIdx p = l.length := by have := List.findIdx_le_length (xs := l) (p := p); omega
    have := List.findIdx_eq_length.1 h1 y hy
    simp [this]
theorem grown_set4b (w : World) (g o : Nat) (v0 v1 v2 v3 : Value) : w.grownBy ((((w.setCell ⟨g, o, none⟩ v0).setCell ⟨g, o + 1, none⟩ v1).setCell ⟨g, o + 2, none⟩ v2).setCell ⟨g, o + 3, none⟩ v3) (some g) :=
  grown_two (grown_two (grown_two (grown_set _ _ _ _) (grown_set _ _ _ _)) (grown_set _ _ _ _)) (grown_set _ _ _ _)
theorem grown_below {w w' w2 : World} {g : Nat} (h : w.grownBy w' (some g)) (hb : Below w'.heap.size w' w2) : w.grownBy w2 (some g) := ⟨hb.os.trans h.os, hb.tape.trans h.tape, hb.output.trans h.output, Nat.le_trans h.size hb.size, fun k hk hne => (hb.block k (Nat.lt_of_lt_of_le hk h.size)).trans (h.block k hk hne)⟩
theorem grown_of_below {w w' : World} (hb : Below w.heap.size w w') (g : Nat) : w.grownBy w' (some g) := ⟨hb.os, hb.tape, hb.output, hb.size, fun k hk _ => hb.block k hk⟩
set_option maxHeartbeats 4000000 in
set_option maxRecDepth 100000 in
theorem delfd_any (g n c : Nat) (l : List (Dsc × Hd)) (f B : Nat) (x : Int) (p : Dsc × Hd → Bool) (eg : ∀ args w, (callFunc f args).run Try.prog w = .ok (.enter f args) w) (hp : PredN f B x p) (w : World) (B0 : Nat) (hne : B ≠ g) (hlt0 : B < w.heap.size) (hB : w.cell? ⟨B, 0, none⟩ = some (.int .u8 x)) (h : Ows w B0 34 4 (some ⟨g, 0, none⟩) n c (dcs l)) :
    Calls Try.prog 30 #[.slice (some ⟨g, 0, none⟩) n c, .func (.func f) #[] #[.pointer (some ⟨B, 0, none⟩)]] w fun e w' => ∃ m, e = .returned (.slice (some ⟨g, 0, none⟩) m c) ∧ Ows w' B0 34 4 (some ⟨g, 0, none⟩) m c (dcs (l.filter (fun y => !p y))) ∧ w.grownBy w' (some g) := by
  have HL : Hid (n = l.length) := by have := h.lenc; rw [dcs_length] at this; unfold Hid; omega
  have hs := Sn.of_own h
  have hm := hs.max
  have hc := hs.cap
  have hg0 := h.rowc.1
  have hgl := h.ltc
  unfold maxLen at hm
  have hidx := indexd_any (some ⟨g, 0, none⟩) n c l f B x p eg hp w hB hlt0 hs
  have HB := Lib.hid hB
  have HP := Lib.hid hp
  have HO := Lib.hid h
  have HLT := Lib.hid hlt0
  have HNE := Lib.hid hne
  clear hB hp h hs hlt0 hne
  by_cases hk : l.findIdx p < n
  · rw [if_pos hk] at hidx
    have HK : Hid (Kept (fun y => !p y) l l (l.findIdx p + 1) (l.findIdx p)) := Kept.start (by rw [← HL.out]; exact hk) (fun t ht y hy => by
      obtain ⟨h1, rfl⟩ := List.getElem?_eq_some_iff.1 hy
      have := List.not_of_lt_findIdx ht
      simp [this]) (fun y hy => by
      obtain ⟨h1, rfl⟩ := List.getElem?_eq_some_iff.1 hy
      have := List.findIdx_getElem (w := h1)
      simp [this])
    generalize l.findIdx p = k0 at *
    have hne1 : ((k0 : Int) == -1) = false := beq_eq_false_iff_ne.2 (by omega)
    go_enter Try.func30, Try.ntmps30
    go_wp2_with fail
    refine hidx.mono ?_
    rintro e W ⟨rfl, b1⟩
    replace HO := Lib.hid (HO.out.below b1)
    replace HB := Lib.hid ((b1.cell (p := ⟨B, 0, none⟩) HLT.out).trans HB.out)
    have GL := Lib.hid (grown_of_below b1 g)
    replace HLT := Lib.hid (Nat.lt_of_lt_of_le HLT.out b1.size)
    clear b1 hidx hgl
    go_wp2
    go_loopw [5, 6, 7] (fun s5 s6 _ wr => ∃ (i j : Nat) (d : List (Dsc × Hd)), s5 = .int .i64 i ∧ s6 = .int .i64 j ∧ i < j ∧ j ≤ n ∧ Hid (Kept (fun y => !p y) l d j i) ∧ Hid (Ows wr B0 34 4 (some ⟨g, 0, none⟩) n c (dcs d)) ∧ Hid (W.grownBy wr (some g))) (fun _ s6 _ _ => n - (intOf s6).toNat)
    case atStart => exact ⟨k0, k0 + 1, l, rfl, by go_num, by omega, by omega, HK, HO, World.grownBy.refl _ _⟩
    case round =>
      obtain ⟨i, j, d, rfl, rfl, hij, hjn, HK, O3, b3⟩ := hrel
      have i0 : (0 : Int) ≤ (j : Int) := by omega
      have i2 : (0 : Int) ≤ (i : Int) := by omega
      by_cases hlt : j < n
      · have i1 : (j : Int) < (n : Int) := by omega
        have i3 : (i : Int) < (n : Int) := by omega
        obtain ⟨b', off', y, e, hb, hy, c0, c1, c2, c3⟩ := snd_at (Sn.of_own O3.out) hlt
        injection e with e
        injection e with e1 e2
        subst e1 e2
        rw [Nat.zero_add] at c0 c1 c2 c3
        rw [HK.out.high j (by omega)] at hy
        have HY := Lib.hid hy
        have hbl := below_lit wr (.cells #[.int .u8 y.1.1, .int .u16 y.1.2.1, .int .u8 y.1.2.2.1, .slice y.2.1 y.2.2.1 y.2.2.2] 34)
        have hBr : wr.cell? ⟨B, 0, none⟩ = some (.int .u8 x) := (World.cell?_of_block (w := W) (b3.out.block B HLT.out (fun e => HNE.out (by injection e)))).trans HB.out
        have hBl := Nat.lt_of_lt_of_le HLT.out b3.out.size
        have hcall := HP.out _ y ((hbl.cell (p := ⟨B, 0, none⟩) hBl).trans hBr) (Nat.lt_of_lt_of_le hBl hbl.size)
        have HN := Lib.hid (DBlk.new wr y.1 y.2)
        clear hy hBr hBl
        cases hq : p y with
        | true =>
          rw [hq] at hcall
          have HK2 := Lib.hid (HK.out.skip HY.out (by rw [hq]; rfl))
          go_wp2_with fail
          refine hcall.mono ?_
          rintro e w2 ⟨rfl, hb'⟩
          have b4 := thn hbl hb'
          have O4 := Lib.hid (O3.out.below b4)
          have B4 := Lib.hid (grown_below b3.out b4)
          clear hb' b4 hbl
          go_wp2
          go_roundw
          case rel => exact ⟨i, j + 1, d, rfl, by go_num, by omega, by omega, HK2, O4, B4⟩
          case measure => simp [intOf]; omega
        | false =>
          rw [hq] at hcall
          have HK2 := Lib.hid (HK.out.keep HY.out (by rw [hq]; rfl))
          go_wp2_with fail
          refine hcall.mono ?_
          rintro e w2 ⟨rfl, hb'⟩
          have b4 := thn hbl hb'
          have O4 := Lib.hid (O3.out.below b4)
          have B4 := Lib.hid (grown_below b3.out b4)
          obtain ⟨e0, e1, e2, e3⟩ := (HN.out.next hb').cells
          clear hb' b4 hbl c0 c1 c2 c3
          obtain ⟨v0, f0⟩ := O4.out.therec (i * 4) (by omega)
          obtain ⟨v1, f1⟩ := O4.out.therec (i * 4 + 1) (by omega)
          obtain ⟨v2, f2⟩ := O4.out.therec (i * 4 + 2) (by omega)
          obtain ⟨v3, f3⟩ := O4.out.therec (i * 4 + 3) (by omega)
          obtain ⟨v0, h0⟩ := Option.isSome_iff_exists.1 v0
          obtain ⟨v1, h1⟩ := Option.isSome_iff_exists.1 v1
          obtain ⟨v2, h2⟩ := Option.isSome_iff_exists.1 v2
          obtain ⟨v3, h3⟩ := Option.isSome_iff_exists.1 v3
          go_wp2
          have hid : i < d.length := by have := HK.out.size; have := HL.out; omega
          have O5 : Hid (Ows ((((w2.setCell ⟨g, i * 4, none⟩ (.int .u8 y.1.1)).setCell ⟨g, i * 4 + 1, none⟩ (.int .u16 y.1.2.1)).setCell ⟨g, i * 4 + 2, none⟩ (.int .u8 y.1.2.2.1)).setCell ⟨g, i * 4 + 3, none⟩ (.slice y.2.1 y.2.2.1 y.2.2.2)) B0 34 4 (some ⟨g, 0, none⟩) n c (dcs (d.set i y))) := by
            unfold Hid
            rw [← dcs_setv d i y hid]
            exact (((O4.out.setc _ _).setc _ _).setc _ _).setc _ _
          have B5 := Lib.hid (grown_two B4.out (grown_set4b w2 g (i * 4) (.int .u8 y.1.1) (.int .u16 y.1.2.1) (.int .u8 y.1.2.2.1) (.slice y.2.1 y.2.2.1 y.2.2.2)))
          go_roundw
          case rel => exact ⟨i + 1, j + 1, d.set i y, by go_num, by go_num, by omega, by omega, HK2, O5, B5⟩
          case measure => simp [intOf]; omega
      · obtain rfl : j = n := by omega
        have i1 : ¬ (j : Int) < (j : Int) := by omega
        have HR : Hid (d.take i = l.filter (fun y => !p y)) := by have h1 := HK.out; rw [HL.out] at h1; exact h1.done
        obtain ⟨ti, hti, ht0, ht1, ht2⟩ := info_parts infoD
        obtain ⟨vs, hvl, hcl⟩ := run_clear_n (P := Try.prog) (w := wr) (t := 22) (e := 34) (z := .agg #[.int .u8 0, .int .u16 0, .int .u8 0, .slice none 0 0]) (s := 4) Try.underlying22 (fun w => by simp [zeroValue, typeInfo, hti, ht0]) rfl (by intro u hu; exact dcl_one ((0, 0, 0, []), (none, 0, 0)) u hu) g (i * 4) (j - i) (c - i) (by omega)
          (fun t ht => (O3.out.therec (i * 4 + t) (by omega)).1) (fun t ht => (O3.out.therec (i * 4 + t) (by omega)).2)
        clear hti ht0 ht1 ht2
        have hsl : ∀ w' : World, (Instr.slice 22 (.slice (some ⟨g, 0, none⟩) j c) (some (.int .i64 (i : Int))) none none).run Try.prog w' = .ok (.slice (some ⟨g, i * 4, none⟩) (j - i) (c - i)) w' := fun w' => by
          rw [run_slice_l (P := Try.prog) w' 22 (some ⟨g, 0, none⟩) j c Try.underlying22 .i64 (i : Int) (by omega) (by omega), show Try.prog.elem 22 = 34 from rfl, Try.sizeOf34 w']
          have hci : ¬ c = i := by omega
          simp [Result.andThen, sliced, hci, Addr.add]
          intro h; omega
        have hup := fun w' : World => run_upto (P := Try.prog) (w := w') (A := some ⟨g, 0, none⟩) (n := j) (c := c) (hi := i) 22 34 Try.underlying22 rfl 4 (fun w' => Try.sizeOf34 w') .i64 (i : Int) rfl (by omega)
        have O5 : Hid (Ows (wr.setCells g (i * 4) vs) B0 34 4 (some ⟨g, 0, none⟩) i c (dcs (l.filter (fun y => !p y)))) := by
          have h1 := (O3.out.shrink (m := i) (by omega)).behind vs (i * 4) (Nat.le_refl _)
          rw [dcs_take, HR.out] at h1
          exact h1
        have B5 := Lib.hid (grown_two (grown_two GL.out b3.out) (grown_sets g vs (i * 4) wr))
        go_wp2
        go_ret
        exact ⟨i, rfl, O5.out, B5.out⟩
  · have HR := Lib.hid (findd_all HL.out hk)
    rw [if_neg hk] at hidx
    go_enter Try.func30, Try.ntmps30
    go_wp2_with fail
    refine hidx.mono ?_
    rintro e W ⟨rfl, b1⟩
    have S1 := Lib.hid (HO.out.below b1)
    have BL := Lib.hid (grown_of_below b1 g)
    clear b1 hidx
    go_wp2
    go_ret
    exact ⟨n, rfl, by rw [HR.out]; exact S1.out, BL.out⟩
end Go.Proofs.Ytgbnnllbpidlfaa
