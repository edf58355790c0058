/- Layer 7: slices.Grow, Concat, Clone at ids; ident.Put. -/
import Derived.Test.YtdpcknfplognmaaIh
import Derived.Test.YtdpcknfplognmaaAx
import Derived.Lib.AppendZerosOnto
import Derived.Lib.SliceRun
namespace Go.Proofs.Ytdpcknfplognmaa
open Go.RowKit
set_option linter.unusedVariables false
def GaveW (l : List Id3) (w : World) (e : Ending) (w' : World) : Prop := ∃ A c, e = .returned (.slice A l.length c) ∧ Ows w' w.heap.size 25 3 A l.length c (idl l) ∧ Below w.heap.size w w'
theorem gaveW_of {w w' : World} {B : Nat} {A : Option Addr} {n c : Nat} {l : List Id3} (o : Ows w' B 25 3 A n c (idl l)) (hB : w.heap.size ≤ B) (hb : Below w.heap.size w w') {e : Ending} (he : e = .returned (.slice A n c)) : GaveW l w e w' := by
  obtain rfl := ows_len o
  exact ⟨A, c, he, o.mono hB, hb⟩
theorem GaveW.d {w w' : World} {l : List Id3} {e : Ending} (h : GaveW l w e w') : GaveD l w e w' := by
  obtain ⟨A, c, he, o, hb⟩ := h
  exact ⟨A, c, he, Sn.of_own o, hb⟩
theorem id_zero : Try.prog.info? 25 = some ((Try.prog.info? 25).getD default) := by kernel_rfl
theorem grow_any (n : Nat) (w : World) (hn : n ≤ 4000000) :
    Calls Try.prog 40 #[.slice none 0 0, .int .i64 (n : Int)] w fun e w' => ∃ A c, e = .returned (.slice A 0 c) ∧ Ows w' w.heap.size 25 3 A 0 c [] ∧ Below w.heap.size w w' := by
  have i0 : (0 : Int) ≤ (n : Int) := by omega
  rcases Nat.eq_zero_or_pos n with h0 | h0
  · subst h0
    go_enter Try.func40, Try.ntmps40
    go_wp2
    go_ret
    exact ⟨none, 0, rfl, Ows.nil _ _ _ _, Below.refl _ _⟩
  · obtain ⟨i, hi, hz0, hz1, hz2⟩ := info_parts infoId
    have hrz : ∀ ty, (Builtin.append_ #[26, 3] ty #[.slice none 0 0, .int .i64 (n : Int)]).run Try.prog w = .ok (.slice (some ⟨w.heap.size, 0, none⟩) (0 + n) (grownCap w (0 + n) 0 25)) (w.drew.alloc (.cells (([] : List Value).toArray ++ Builtin.zeroCells (Value.cells (.agg #[.int .u8 0, .int .u16 0, .int .u32 0])) n ++ Builtin.zeroCells (Value.cells (.agg #[.int .u8 0, .int .u16 0, .int .u32 0])) (grownCap w (0 + n) 0 25 - (0 + n))) 25)) := fun ty => by
      exact Lib.run_append_grow_zeros w 26 3 ty 25 i (.agg #[.int .u8 0, .int .u16 0, .int .u32 0]) .i64 .i64 Try.underlying26 Try.underlying3 hi hz0 none 0 0 [] (run_firstCells_none w.drew i.size 0 0 0) n h0 (by rw [hz1]; decide) (by omega) (by omega) (by rw [hz2]; omega) (growslice_fits (by omega) (by rw [hz2]; omega))
    have hge := grownCap_ge w (0 + n) 0 25
    have hle := grownCap_le_maxLen w (0 + n) 0 25 (by unfold maxLen; omega)
    generalize grownCap w (0 + n) 0 25 = G at *
    rw [Nat.zero_add] at *
    generalize hO : (([] : List Value).toArray ++ Builtin.zeroCells (Value.cells (.agg #[.int .u8 0, .int .u16 0, .int .u32 0])) n ++ Builtin.zeroCells (Value.cells (.agg #[.int .u8 0, .int .u16 0, .int .u32 0])) (G - n)) = cs at *
    have hcs : cs.size = G * 3 := by
      rw [← hO]
      simp [Builtin.zeroCells, Value.cells]
      omega
    have HC := Lib.hid hcs
    have HG := Lib.hid hge
    have HM := Lib.hid hle
    unfold maxLen at hle
    clear hO hcs hi hz0 hz1 hz2
    have h0' : (0 : Int) < (n : Int) := by omega
    go_enter Try.func40, Try.ntmps40
    go_wp2_with (at_builtin; refine Lib.wpList_append_run _ rfl _ _ _ _ rfl _ _ rfl rfl _ _ (hrz _) ?_)
    go_ret
    exact ⟨_, _, rfl, ⟨by simp, .inr ⟨w.heap.size, G, cs, rfl, Nat.le_refl _, heap_alloc_new w.drew _, Nat.zero_le _, HM.out, HC.out, by simp⟩⟩, (dN (Below.refl w.heap.size w) 1).alloc (Nat.le_refl _) _⟩
theorem clone_any (A : Option Addr) (n c : Nat) (l : List Id3) (w : World) (h : Sd w w.heap.size A n c l) (hn : n ≤ 1000000) :
    Calls Try.prog 32 #[.slice A n c] w fun e w' => ∃ A c, e = .returned (.slice A n c) ∧ Ows w' w.heap.size 25 3 A n c (idl l) ∧ Below w.heap.size w w' := by
  have HL := sd_len h
  cases A with
  | none =>
    have hl : l = [] := by
      rcases Nat.eq_zero_or_pos n with h0 | h0
      · exact List.eq_nil_of_length_eq_zero (by omega)
      · obtain ⟨_, _, e, _⟩ := h.at_ h0; cases e
    subst hl
    obtain rfl : n = 0 := HL
    have hnil := fun w' : World => Lib.run_eql_slice_nil (P := Try.prog) w' 26 25 none 0 c 0 0 Try.underlying26
    go_enter Try.func32, Try.ntmps32
    go_wp2
    go_ret
    exact ⟨none, 0, rfl, Ows.nil _ _ _ _, Below.refl _ _⟩
  | some a =>
    clear HL
    have hnil := fun w' : World => Lib.run_eql_slice_nil (P := Try.prog) w' 26 25 (some a) n c 0 0 Try.underlying26
    go_enter Try.func32, Try.ntmps32
    go_wp2_with (at_builtin; go_must (refine wpList_appsx rfl _ _ 26 rfl Try.underlying26 infoId rfl (by decide) rfl (Ows.lit0 _ 25 3) rfl (h.next (below_lit _ _)) (idl_one _) (by omega) (by decide) (by simp) ?_); intro A1 c1 w1 o1 g1)
    go_ret
    rw [Nat.zero_add, List.nil_append] at o1
    exact ⟨A1, c1, rfl, o1, ((Below.refl _ _).alloc (Nat.le_refl _) _).grown g1 (by simp) (Ows.lit0 _ 25 3).lt⟩
/-- A slice of ids as a part of a slice of slices. -/
abbrev Pt := Option Addr × Nat × Nat × List Id3
def slv (p : Pt) : Value := .slice p.1 p.2.1 p.2.2.1
def flat (ps : List Pt) : List Id3 := ps.flatMap (·.2.2.2)
theorem flat_succ {ps : List Pt} {j : Nat} {p : Pt} (h : ps[j]? = some p) : flat (ps.take (j + 1)) = flat (ps.take j) ++ p.2.2.2 := by
  unfold flat; rw [List.take_add_one, h]; simp
theorem concat_any (A : Option Addr) (n c : Nat) (ps : List Pt) (w : World) (h : Sv w w.heap.size A n c (ps.map slv)) (hp : ∀ p ∈ ps, Sd w w.heap.size p.1 p.2.1 p.2.2.1 p.2.2.2) (hs : ∀ p ∈ ps, p.2.1 ≤ 1000000) (hn : n ≤ 4) :
    Calls Try.prog 34 #[.slice A n c] w (GaveW (flat ps) w) := by
  have HL : Hid (n = ps.length) := by have := h.len; rwa [List.length_map] at this
  have hm := h.max
  have hc := h.cap
  unfold maxLen at hm
  have HS := Lib.hid h
  have HP := Lib.hid hp
  have HB := Lib.hid hs
  clear h hp hs
  have key : Hid (∀ j, j < n → ∃ b off p, A = some ⟨b, off, none⟩ ∧ b < w.heap.size ∧ ps[j]? = some p ∧ ∀ w', Below w.heap.size w w' → w'.cell? ⟨b, off + j, none⟩ = some (.slice p.1 p.2.1 p.2.2.1)) := by
    intro j hj
    obtain ⟨b, off, e, hb, hcl⟩ := HS.out.at_ (by omega)
    have hj' : j < ps.length := by rw [← HL.out]; exact hj
    refine ⟨b, off, ps[j], e, hb, List.getElem?_eq_getElem hj', fun w' hw => (hw.cell (p := ⟨b, _, none⟩) hb).trans (hcl j (slv ps[j]) ?_)⟩
    rw [List.getElem?_map, List.getElem?_eq_getElem hj']; rfl
  clear HS
  go_enter Try.func34, Try.ntmps34
  go_wp2
  go_loopw [3, 5, 11] (fun s _ i wr => ∃ (j k : Nat), j ≤ n ∧ k ≤ j * 1000000 ∧ i = .int .i64 j ∧ s = .int .i64 (k : Int) ∧ wr = w) (fun _ _ i _ => n - (intOf i).toNat)
  case atStart => exact ⟨0, 0, Nat.zero_le _, Nat.le_refl _, rfl, rfl, by trivial⟩
  case round =>
    obtain ⟨j, k, hj, hk, rfl, rfl, rfl⟩ := hrel
    have i0 : (0 : Int) ≤ (j : Int) := by omega
    by_cases hlt : j < n
    · have i1 : (j : Int) < (n : Int) := by omega
      obtain ⟨b, off, p, rfl, hb, hpj, hcl⟩ := key.out j hlt
      have c1 := hcl wr (Below.refl _ _)
      have hpm : p ∈ ps := List.mem_of_getElem? hpj
      have hpb := HB.out p hpm
      have hpl : (p.2.1 : Int) ≤ 1000000 := by omega
      have hp0 : (0 : Int) ≤ (p.2.1 : Int) := by omega
      clear hcl hpj hpm
      generalize p.2.1 = m at *
      generalize p.1 = A1 at *
      generalize p.2.2.1 = c2 at *
      have hk' : (k : Int) ≤ 4000000 := by omega
      go_wp2
      go_roundw
      case rel => exact ⟨j + 1, k + m, by omega, by omega, by go_num, by go_num, by trivial⟩
      case measure => simp [intOf]; omega
    · obtain rfl : j = n := by omega
      have hk' : k ≤ 4000000 := by omega
      go_wp2_with fail
      refine (grow_any k wr hk').mono ?_
      rintro e W1 ⟨A1, c1, rfl, o1, b1⟩
      have O1 := Lib.hid o1
      have B1 := Lib.hid b1
      clear o1 b1
      obtain ⟨wo, rfl⟩ : ∃ wo, wo = wr := ⟨_, rfl⟩
      go_wp2
      go_loopw [6, 8, 27] (fun v _ i wr => ∃ (q m : Nat) (A2 : Option Addr) (c2 : Nat), q ≤ j ∧ m ≤ q * 1000000 ∧ i = .int .i64 q ∧ v = .slice A2 m c2 ∧ Hid (Ows wr wo.heap.size 25 3 A2 m c2 (idl (flat (ps.take q)))) ∧ Hid (Below wo.heap.size wo wr)) (fun _ _ i _ => j - (intOf i).toNat)
      case atStart => exact ⟨0, 0, A1, c1, Nat.zero_le _, Nat.le_refl _, rfl, rfl, O1, B1⟩
      case round =>
        obtain ⟨q, m, A2, c2, hq, hmq, rfl, rfl, O3, b3⟩ := hrel
        have i2 : (0 : Int) ≤ (q : Int) := by omega
        by_cases hlq : q < j
        · have i1 : (q : Int) < (j : Int) := by omega
          obtain ⟨b, off, p, rfl, hb, hpj, hcl⟩ := key.out q hlq
          have c4 := hcl wr b3.out
          have hpm : p ∈ ps := List.mem_of_getElem? hpj
          have hpb := HB.out p hpm
          have S2 := Lib.hid ((HP.out p hpm).below b3.out)
          have HF := Lib.hid (flat_succ hpj)
          have hsz := b3.out.size
          clear hcl hpj hpm
          obtain ⟨A3, m3, c3, l3⟩ := p
          have hm3 : m3 ≤ 1000000 := hpb
          clear hpb
          go_wp2_with (at_builtin; go_must (refine wpList_appsx rfl _ _ 26 rfl Try.underlying26 infoId rfl (by decide) rfl O3.out rfl S2.out (idl_one _) (by omega) (by decide) (by omega) ?_); intro A4 c4 w4 o4 g4)
          have O5 : Hid (Ows w4 wo.heap.size 25 3 A4 (m + m3) c4 (idl (flat (ps.take (q + 1))))) := by unfold Hid; rw [HF.out, idl_append]; exact o4
          have b4 := b3.out.grown g4 (by omega) O3.out.lt
          clear o4 g4
          go_wp2
          go_roundw
          case rel => exact ⟨q + 1, m + m3, A4, c4, by omega, by omega, by go_num, rfl, O5, b4⟩
          case measure => simp [intOf]; omega
        · obtain rfl : q = j := by omega
          rw [List.take_of_length_le (by rw [← HL.out]; exact Nat.le_refl _)] at O3
          go_wp2
          go_ret
          exact gaveW_of O3.out (Nat.le_refl _) b3.out rfl
end Go.Proofs.Ytdpcknfplognmaa
