/- Layer 7: IdentRuns. -/
import Derived.Test.YtdpcknfplognmaaIm
import Derived.Deep.RegionLaw
import Derived.BigRegion
namespace Go.Proofs.Ytdpcknfplognmaa
open Go.RowKit
set_option linter.unusedVariables false
/-- The numbers 1 to k of one node and incarnation. -/
def runs (a b : Int) (k : Nat) : List Id3 := (List.range k).map fun (i : Nat) => ((a, b, (i : Int) + 1) : Id3)
def lenV : Value → Nat
  | .slice _ n _ => n
  | _ => 0
theorem runs_succ (a b : Int) (k : Nat) : runs a b (k + 1) = runs a b k ++ [(a, b, (k : Int) + 1)] := by unfold runs; rw [List.range_succ]; simp
theorem runs_length (a b : Int) (k : Nat) : (runs a b k).length = k := by simp [runs]
theorem runs_rise (a b : Int) (k : Nat) : Rise (runs a b k) := by
  unfold runs
  refine List.pairwise_map.2 (List.pairwise_lt_range.imp ?_)
  intro i j h
  rw [less_iff]
  exact .inr ⟨rfl, .inr ⟨rfl, by show (i : Int) + 1 < (j : Int) + 1; omega⟩⟩
theorem Ows.heap {w w' : World} {B : Nat} {E : TypeId} {s : Nat} {A : Option Addr} {n c : Nat} {xs : List Value} (h : Ows w B E s A n c xs) (e : w'.heap = w.heap) : Ows w' B E s A n c xs := by
  obtain ⟨h1, h2⟩ := h
  exact ⟨h1, by rw [e]; exact h2⟩
theorem Ows.other {w : World} {B : Nat} {E : TypeId} {s : Nat} {A : Option Addr} {n c : Nat} {xs : List Value} (h : Ows w B E s A n c xs) {g i : Nat} (hg : g < B) (v : Value) : Ows (w.setCell ⟨g, i, none⟩ v) B E s A n c xs := by
  obtain ⟨h1, h2⟩ := h
  refine ⟨h1, ?_⟩
  rcases h2 with h2 | ⟨g', cap, cur, hv, hB, hh, r⟩
  · exact .inl h2
  · exact .inr ⟨g', cap, cur, hv, hB, by rw [Below.heap_setCell _ _ _ _ (by exact fun e => by simp at e; omega)]; exact hh, r⟩
theorem lit_news (w : World) {W' : World} {cs : Array Value} {t : TypeId} (e : W'.heap = (w.alloc (.cells cs t)).heap) : ∀ (j : Nat) (u : Value), cs.toList[j]? = some u → W'.cell? ((⟨w.heap.size, 0, none⟩ : Addr).add j) = some u := by
  intro j u hu
  rw [Addr.add_lit, Nat.zero_add, cell_of_row W' w.heap.size j cs t (0, 0) (by rw [e]; exact heap_alloc_new w _)]
  simpa using hu
theorem IdBlk.store {w : World} {g : Nat} {p : Id3} (h : IdBlk w g p) (q : Id3) : IdBlk (((w.setCell ⟨g, 0, none⟩ (.int .u8 q.1)).setCell ⟨g, 1, none⟩ (.int .u16 q.2.1)).setCell ⟨g, 2, none⟩ (.int .u32 q.2.2)) g q := by
  exact Go.Joins.block_setCell (i := 2) (Go.Joins.block_setCell (i := 1) (Go.Joins.block_setCell (i := 0) h (.int .u8 q.1)) (.int .u16 q.2.1)) (.int .u32 q.2.2)
set_option maxRecDepth 100000 in
set_option maxHeartbeats 20000000 in
theorem iruns_walk (node inc last : Int) (w : World) (hn : 0 ≤ node ∧ node ≤ 255) (hi : 0 ≤ inc ∧ inc ≤ 65535) (hl : 0 ≤ last ∧ last ≤ 65535) :
    Calls Try.prog 6 #[.int .u8 node, .int .u16 inc, .int .u16 last] w fun e w' => e = .returned (.bool true) ∧ Below w.heap.size w w' := by
  obtain ⟨n0, n1⟩ := hn
  obtain ⟨i0, i1⟩ := hi
  obtain ⟨l0, l1⟩ := hl
  by_cases hz : inc = 0
  · subst hz
    go_enter Try.func6, Try.ntmps6
    go_wp2_with fail
    refine (awake_any w).mono ?_
    rintro e w1 ⟨rfl, b1⟩
    go_wp2
    go_ret
    exact ⟨rfl, b1⟩
  · have hz1 : (inc == 0) = false := by simpa using hz
    have hi1 : 1 ≤ inc := by omega
    obtain ⟨E, hE, e0, e1⟩ : ∃ E : Int, Int.tmod last 301 = E ∧ 0 ≤ E ∧ E ≤ 300 := ⟨_, rfl, Int.tmod_nonneg _ l0, by have := Int.tmod_lt_of_pos last (b := 301) (by decide); omega⟩
    obtain ⟨m, rfl⟩ := Int.eq_ofNat_of_zero_le e0
    obtain ⟨nd, hnd, d0, d1⟩ : ∃ d : Int, Int.tmod node 12 = d ∧ 0 ≤ d ∧ d ≤ 11 := ⟨_, rfl, Int.tmod_nonneg _ n0, by have := Int.tmod_lt_of_pos node (b := 12) (by decide); omega⟩
    clear hz
    go_enter Try.func6, Try.ntmps6
    go_upto_region 5 with fail
    have B := Lib.hid (Below.refl w.heap.size w)
    have hbl := below_lit w (.cells #[.int .u8 nd, .int .u16 inc, .int .u32 0] 25)
    replace B := Lib.hid (thn B.out hbl)
    clear hbl
    have KX : Hid (IdBlk (w.alloc (.cells #[.int .u8 nd, .int .u16 inc, .int .u32 0] 25)) w.heap.size (nd, inc, 0)) := IdBlk.new w (nd, inc, 0)
    generalize w.alloc (.cells #[.int .u8 nd, .int .u16 inc, .int .u32 0] 25) = w1 at *
    obtain ⟨g, hg⟩ : ∃ g, w.heap.size = g := ⟨_, rfl⟩
    rw [hg] at KX ⊢
    have hgl : g + 1 ≤ w1.heap.size := KX.out.lt
    go_wp2
    go_loopw [9, 10, 11] (fun v _ _ wr => ∃ (k : Nat) (A2 : Option Addr) (c2 : Nat), k ≤ m ∧ v = .slice A2 k c2 ∧ Hid (IdBlk wr g (nd, inc, (k : Int))) ∧ Hid (Ows wr (g + 1) 25 3 A2 k c2 (idl (runs nd inc k))) ∧ Hid (Below w.heap.size w wr)) (fun v _ _ _ => m + 1 - lenV v)
    case atStart => exact ⟨0, none, 0, Nat.zero_le _, rfl, KX, Ows.nil _ _ _ _, B⟩
    case round =>
      obtain ⟨k, A2, c2, hk, rfl, K2, O2, B2⟩ := hrel
      have k0 : (0 : Int) ≤ (k : Int) := by omega
      obtain ⟨p0, q0, r0⟩ := K2.out.cells
      go_wp2_with fail
      by_cases hkm : k = m
      · subst hkm
        refine (next_end (nd, inc, (k : Int)) (k : Int) wr (by simp)).mono ?_
        rintro e w2 ⟨rfl, b2⟩
        have O3 := Lib.hid (O2.out.below b2)
        have B3 := Lib.hid (thn B2.out b2)
        have S3 := Lib.hid ((Sn.of_own O3.out).next (below_lit w2 (.cells #[.int .u8 0, .int .u16 0, .int .u32 0] 25)))
        have B4 := Lib.hid (thn B3.out (below_lit w2 (.cells #[.int .u8 0, .int .u16 0, .int .u32 0] 25)))
        clear b2 p0 q0 r0
        go_wp2_with fail
        have hc := rising_any A2 k c2 (runs nd inc k) _ S3.out
        rw [decide_eq_true (runs_rise nd inc k)] at hc
        refine hc.mono ?_
        rintro e w3 ⟨rfl, b3⟩
        have B5 := Lib.hid (thn B4.out b3)
        clear b3 hc
        go_wp2_with fail
        refine (awake_any w3).mono ?_
        rintro e w4 ⟨rfl, b4⟩
        go_wp2
        go_ret
        exact ⟨rfl, thn B5.out b4⟩
      · have hlt : (k : Int) < (m : Int) := by omega
        refine (next_more (nd, inc, (k : Int)) (m : Int) wr k0 hlt (by omega)).mono ?_
        rintro e w2 ⟨rfl, b2⟩
        have O3 := Lib.hid (O2.out.below b2)
        have B3 := Lib.hid (thn B2.out b2)
        have K3 := Lib.hid (K2.out.next b2)
        have HOL : Hid (∀ q, Value.ownBlock (.slice A2 k c2) = some q → g + 1 ≤ q ∧ q < w2.heap.size) := World.ownsRow.lt O3.out
        clear b2 p0 q0 r0 hkm
        go_upto_region 8 with fail
        have hbl := below_lit w2 (.cells #[.int .u8 nd, .int .u16 inc, .int .u32 ((k : Int) + 1)] 25)
        replace O3 := Lib.hid (O3.out.below hbl)
        replace B3 := Lib.hid (thn B3.out hbl)
        replace K3 := Lib.hid (K3.out.next hbl)
        have KN : Hid (IdBlk (w2.alloc (.cells #[.int .u8 nd, .int .u16 inc, .int .u32 ((k : Int) + 1)] 25)) w2.heap.size (nd, inc, (k : Int) + 1)) := IdBlk.new w2 (nd, inc, (k : Int) + 1)
        generalize w2.alloc (.cells #[.int .u8 nd, .int .u16 inc, .int .u32 ((k : Int) + 1)] 25) = w3 at *
        obtain ⟨h, hh⟩ : ∃ h, w2.heap.size = h := ⟨_, rfl⟩
        rw [hh] at KN HOL ⊢
        obtain ⟨p0, q0, r0⟩ := KN.out.cells
        obtain ⟨ti, hti, ht0, ht1, ht2⟩ := info_parts infoId
        have hg3 : g + 1 ≤ w3.heap.size := K3.out.lt
        have hh3 : h + 1 ≤ w3.heap.size := KN.out.lt
        have O4 := Lib.hid (O3.out.below (below_lit w3 (.cells #[.int .u8 nd, .int .u16 inc, .int .u32 ((k : Int) + 1)] 25)))
        have KN4 := Lib.hid (KN.out.next (below_lit w3 (.cells #[.int .u8 nd, .int .u16 inc, .int .u32 ((k : Int) + 1)] 25)))
        have KG4 := Lib.hid (K3.out.next (below_lit w3 (.cells #[.int .u8 nd, .int .u16 inc, .int .u32 ((k : Int) + 1)] 25)))
        have HRt : Hid (rightB (nd, inc, (k : Int) + 1) 12 (m : Int) = true) := by unfold Hid rightB; simp only [Bool.and_eq_true, decide_eq_true_eq]; omega
        have hk300 : (k : Int) + 1 ≤ 300 := by omega
        have KN6 : Hid (IdBlk (w3.alloc (.cells #[.int .u8 nd, .int .u16 inc, .int .u32 ((k : Int) + 1)] 25)).drew h (nd, inc, (k : Int) + 1)) := KN4.out
        obtain ⟨p6, q6, r6⟩ := KN6.out.cells
        go_region_law (refine step_append_lies _ rfl (.tmp 30) (.tmp 32) 26 rfl (g + 1) 25 ti (.agg #[.int .u8 0, .int .u16 0, .int .u32 0]) 3 8 Try.underlying26 hti ht0 ht1 ht2 rfl (by decide) (.slice A2 k c2) k (idl (runs nd inc k)) (by simp [Act.eval, Act.put]) (O4.out.heap rfl) ⟨w3.heap.size, 0, none⟩ 1 1 (idv (nd, inc, (k : Int) + 1)) (by simp [Act.eval, Act.put]) rfl (lit_news w3 rfl) (id_one (nd, inc, (k : Int) + 1)) (by decide) (by unfold maxLen; omega) (by omega) (by simp; omega) _ rfl ?_; intro g2 cap2 w4 o4 g4 hl4 hlt4; have KN5 : Hid (IdBlk w4 h (nd, inc, (k : Int) + 1)) := (g4.block h (by simp; omega) (fun e => by have := HOL.out h e.symm; omega)).trans KN4.out; have KG5 : Hid (IdBlk w4 g (nd, inc, (k : Int))) := (g4.block g (by simp; omega) (fun e => by have := HOL.out g e.symm; omega)).trans KG4.out; obtain ⟨p1, q1, r1⟩ := KN5.out.cells; obtain ⟨p2, q2, r2⟩ := KG5.out.cells; have f2 := KG5.out.free)
        all_goals
          have K7 : Hid (IdBlk (((w4.setCell ⟨g, 0, none⟩ (.int .u8 nd)).setCell ⟨g, 1, none⟩ (.int .u16 inc)).setCell ⟨g, 2, none⟩ (.int .u32 ((k : Int) + 1))) g (nd, inc, (k : Int) + 1)) := KG5.out.store (nd, inc, (k : Int) + 1)
          have O7 : Hid (Ows (((w4.setCell ⟨g, 0, none⟩ (.int .u8 nd)).setCell ⟨g, 1, none⟩ (.int .u16 inc)).setCell ⟨g, 2, none⟩ (.int .u32 ((k : Int) + 1))) (g + 1) 25 3 (some ⟨g2, 0, none⟩) (k + 1) cap2 (idl (runs nd inc (k + 1)))) := by unfold Hid; rw [runs_succ, idl_append]; exact ((Ows.other o4 (Nat.lt_succ_self g) _).other (Nat.lt_succ_self g) _).other (Nat.lt_succ_self g) _
          have B7 : Hid (Below w.heap.size w (((w4.setCell ⟨g, 0, none⟩ (.int .u8 nd)).setCell ⟨g, 1, none⟩ (.int .u16 inc)).setCell ⟨g, 2, none⟩ (.int .u32 ((k : Int) + 1)))) := (((Below.grown (dN (B3.out.trans ((below_lit w3 (.cells #[.int .u8 nd, .int .u16 inc, .int .u32 ((k : Int) + 1)] 25)).mono (by omega))) 1) g4 (by simp; omega) (fun q hq => by have := (HOL.out q hq).1; omega)).setCell (p := ⟨g, 0, none⟩) (by simp; omega) _).setCell (p := ⟨g, 1, none⟩) (by simp; omega) _).setCell (p := ⟨g, 2, none⟩) (by simp; omega) _
          clear p0 q0 r0 p1 q1 r1 p2 q2 r2 f2 p6 q6 r6 o4 g4 hl4 hlt4 KN5 KG5
          generalize (((w4.setCell ⟨g, 0, none⟩ (.int .u8 nd)).setCell ⟨g, 1, none⟩ (.int .u16 inc)).setCell ⟨g, 2, none⟩ (.int .u32 ((k : Int) + 1))) = w5 at *
          obtain ⟨p0, q0, r0⟩ := K7.out.cells
          go_wp2_with fail
          have hc := right_any (nd, inc, (k : Int) + 1) 12 (m : Int) w5 d0 (by show nd ≤ 255; omega)
          rw [HRt.out] at hc
          refine hc.mono ?_
          clear hc p0 q0 r0
          rintro e w6 ⟨rfl, b6⟩
          have K8 := Lib.hid (K7.out.next b6)
          have O8 := Lib.hid (O7.out.below b6)
          have B8 := Lib.hid (thn B7.out b6)
          clear b6
          go_wp2
          go_roundw
          case rel => exact ⟨k + 1, some ⟨g2, 0, none⟩, cap2, by omega, rfl, (by rw [show ((k + 1 : Nat) : Int) = (k : Int) + 1 by omega]; exact K8), O8, B8⟩
          case measure => simp [lenV]; omega
end Go.Proofs.Ytdpcknfplognmaa
