/- Layer 8, SeenOnce: a row and those that were taken into it. Plain facts. -/
import Derived.Test.YtkdlgejkgcojkaaDoorQk
import Derived.Test.YtkdlgejkgcojkaaDoorQl
namespace Go.Proofs.YtkdlgejkgcojkaaDoor
open Go.RowKit
set_option linter.unusedVariables false
def OnceI (wn : Nat) (ro : Row3) (N : List Id2) : Prop := ∃ i p b : Nat, ro = ((i : Int), (p : Int), (b : Int)) ∧ i ≤ 65535 ∧ Once wn i p b N.reverse
section
variable {wn : Nat} {wd : Int} {ro : Row3} {N : List Id2} {x : Id3}
theorem OnceI.start (wn : Nat) : OnceI wn (0, 0, 0) [] := ⟨0, 0, 0, rfl, by omega, Once.start wn⟩
theorem OnceI.row (h : OnceI wn ro N) (hw : wn ≤ 64) : rowR ro := by
  obtain ⟨i, p, b, rfl, hi, h⟩ := h
  have := h.right.lt hw
  have := h.pre
  refine ⟨⟨?_, ?_⟩, ⟨?_, ?_⟩, ?_, ?_⟩ <;> simp only <;> omega
theorem OnceI.right (h : OnceI wn ro N) (hwd : wd = (wn : Int)) (h1 : 1 ≤ wn) (hw : wn ≤ 64) : rightI ro wd = true := by
  obtain ⟨i, p, b, rfl, hi, h⟩ := h
  subst hwd
  unfold rightI
  rw [decide_eq_true (by omega)]
  simp only
  split
  · rename_i h0
    obtain ⟨h2, h3⟩ := h.zero (by omega)
    subst h2 h3; rfl
  · rw [Int.toNat_natCast, Int.toNat_natCast, Int.toNat_natCast, right_iff.2 h.right]; rfl
theorem OnceI.last (h : OnceI wn ro N) {m : Id2} (hm : m ∈ N) (wd : Int) : hasI ro (idM m) = decide ((idM m).2.1 = ro.1) ∧ mayI ro (idM m) wd = false := by
  obtain ⟨i, p, b, rfl, hi, h⟩ := h
  have h1 := h.le m (List.mem_reverse.2 hm)
  by_cases e : m.1 = i
  · have hs : seenI ((i : Int), (p : Int), (b : Int)) (m.2 : Int) = true := by
      show seenN (p : Int).toNat (b : Int).toNat (m.2 : Int).toNat = true
      rw [Int.toNat_natCast, Int.toNat_natCast, Int.toNat_natCast, h.seen m.2]
      refine decide_eq_true ?_
      rw [← e]; exact List.mem_reverse.2 hm
    constructor
    · unfold hasI idM
      simp only
      rw [hs, Bool.and_true, decide_eq_decide]
      constructor
      · exact fun h => h.2
      · exact fun h => ⟨by omega, h⟩
    · unfold mayI idM
      simp only
      rw [ofI_same (show ((i : Int), (p : Int), (b : Int)).1 = (m.1 : Int) by show (i : Int) = m.1; omega), hs]; simp
  · constructor
    · unfold hasI idM
      simp only
      rw [decide_eq_false (by omega), decide_eq_false (by omega)]; rfl
    · refine may_zero ?_
      unfold idM
      simp only
      omega
theorem OnceI.count (h : OnceI wn ro N) : (∀ q : Nat, (q : Int) < ro.2.1 → (ro.1.toNat, q + 1) ∈ N) ∧ (ro.1.toNat, ro.2.1.toNat + 1) ∉ N := by
  obtain ⟨i, p, b, rfl, hi, h⟩ := h
  constructor
  · intro q hq
    have h1 := h.seen (q + 1)
    rw [seenN_low (by omega) (by simp only at hq; omega)] at h1
    exact List.mem_reverse.1 (of_decide_eq_true h1.symm)
  · intro hc
    have hc' : (i, p + 1 + 0) ∈ N := hc
    have h1 := h.seen (p + 1 + 0)
    rw [seenN_bit, decide_eq_true (List.mem_reverse.2 hc')] at h1
    have := h.right.even
    simp [Nat.testBit_zero] at h1
    omega
theorem OnceI.yes (h : OnceI wn ro N) (hwd : wd = (wn : Int)) (h1 : 1 ≤ wn) (hw : wn ≤ 64) (hx : idR x) (h0 : x.1 = 0) (hm : mayI ro x wd = true) :
    OnceI wn (takeI ro x) (nM x :: N) ∧ nM x ∉ N ∧ ro.1 ≤ x.2.1 ∧ (takeI ro x).1 = x.2.1 ∧ (takeI ro x).2.1 ≤ ro.2.1 + 64 := by
  have hR := h.row hw
  have hri := h.right hwd h1 hw
  obtain ⟨q, k, b', m, ho, hR2, hqn, hk, k0, k1, k2, hbit, hbm, m0, m1, ht, hle, hone⟩ := take_facts hR hx.2.1 hx.2.2.2 hri hm
  obtain ⟨g1, g2, g3, g4, g5, g6⟩ := may_parts hm
  have hx2 := hx.2
  obtain ⟨i, p, b, rfl, hi, h⟩ := h
  subst hwd
  have hinc : x.2.1 = ((x.2.1.toNat : Nat) : Int) := by omega
  have hle2 : (takeI ((i : Int), (p : Int), (b : Int)) x).2.1 ≤ (p : Int) + 64 := by
    rw [ht]
    show q + (ones 64 m.toNat : Int) ≤ p + 64
    have : q ≤ p := by
      by_cases e : (i : Int) = x.2.1
      · rw [ofI_same e] at ho
        simp only [Prod.mk.injEq] at ho
        omega
      · rw [ofI_other e] at ho
        simp only [Prod.mk.injEq] at ho
        omega
    omega
  by_cases e : (i : Int) = x.2.1
  · have ho2 := ofI_same (r := ((i : Int), (p : Int), (b : Int))) e
    rw [ho2] at g4 g5
    simp only at g4
    have hs : seenN p b x.2.2.toNat = false := g5
    have hi2 : i = x.2.1.toNat := by omega
    obtain ⟨o1, o2⟩ := h.same hw (n := x.2.2.toNat) (by omega) (by omega) hs (by omega) (by omega)
    refine ⟨⟨i, (takeN p b x.2.2.toNat).1, (takeN p b x.2.2.toNat).2, ?_, hi, ?_⟩, ?_, g2.2, rfl, hle2⟩
    · unfold takeI
      rw [ho2]
      exact Prod.ext e.symm rfl
    · rw [List.reverse_cons]
      show Once wn i _ _ (N.reverse ++ [(x.2.1.toNat, x.2.2.toNat)])
      rw [← hi2]; exact o1
    · intro hc
      refine o2 (List.mem_reverse.2 ?_)
      rw [hi2]; exact hc
  · have ho2 := ofI_other (r := ((i : Int), (p : Int), (b : Int))) e
    rw [ho2] at g4
    simp only at g4 g2
    obtain ⟨o1, o2⟩ := h.newer hw (k := x.2.1.toNat) (n := x.2.2.toNat) (by omega) (by omega) (by omega)
    refine ⟨⟨x.2.1.toNat, (takeN 0 0 x.2.2.toNat).1, (takeN 0 0 x.2.2.toNat).2, ?_, by omega, ?_⟩, ?_, g2.2, rfl, hle2⟩
    · unfold takeI
      rw [ho2]
      exact Prod.ext hinc rfl
    · rw [List.reverse_cons]
      exact o1
    · exact fun hc => o2 (List.mem_reverse.2 hc)
end
theorem okM_cons {N : List Id2} {x : Id3} (h : okM N) (hx : idR x) : okM (nM x :: N) := fun m hm => by
  rcases List.mem_cons.1 hm with rfl | hm
  · have := hx.2
    unfold nM
    simp only
    omega
  · exact h m hm
theorem IdBlk.put0 {w : World} {g : Nat} {p : Id3} (h : IdBlk w g p) (v : Int) : IdBlk (w.setCell ⟨g, 0, none⟩ (.int .u8 v)) g (v, p.2.1, p.2.2) := Go.Joins.block_setCell (i := 0) h (.int .u8 v)
theorem below_grown {w w' : World} (h : Below w.heap.size w w') : w.grownBy w' none := ⟨h.os, h.tape, h.output, h.size, fun i hi _ => h.block i hi⟩
/-- What may become of the world in 'm[x]++'. -/
def BumpR (b : Nat) (o0 o1 : Obj) (w w' : World) : Prop := w.grownBy w' (some b) ∧ (w.heap[b]? = some o0 → w'.heap[b]? = some o0 ∨ w'.heap[b]? = some o1) ∧ (w.heap[b]? = some o1 → w'.heap[b]? = some o1)
theorem bump_lasts (b : Nat) (o0 o1 : Obj) : Lasts (BumpR b o0 o1) where
  refl w := ⟨World.grownBy.refl w _, fun h => .inl h, fun h => h⟩
  trans h h' := ⟨grown_trans h.1 h'.1, fun h0 => by
    rcases h.2.1 h0 with h1 | h1
    · exact h'.2.1 h1
    · exact .inr (h'.2.2 h1), fun h1 => h'.2.2 (h.2.2 h1)⟩
  drew w := ⟨⟨rfl, rfl, rfl, Nat.le_refl _, fun _ _ _ => rfl⟩, fun h => .inl h, fun h => h⟩
theorem overR_ds {R : World → World → Prop} {T : Tmp → Tyr R} {w : World} {K : Act → Prop} {l : List Oper} {a : Act} {ds : List Tmp} (h : dstsOf l = ds) (k : overR T ds a w K) : overR T (dstsOf l) a w K := by rw [h]; exact k
abbrev tySt (b : Nat) (o0 o1 : Obj) (st : Nat) : Tyr (BumpR b o0 o1) := .pred (fun v u => v = .tuple #[.int .i64 0, .int .i64 (st : Int)] ∧ u.heap[b]? = some o1) (fun _ _ _ h hb => ⟨h.1, hb.2.2 h.2⟩)
theorem OnceI.looks {wn : Nat} {ro : Row3} {N : List Id2} (h : OnceI wn ro N) (hw : wn ≤ 64) (hok : okM N) {w : World} {b : Nat} (hM : OwnM w b N) (hp : ro.2.1 ≤ 13000) (q : Nat) (hq : (q : Int) ≤ ro.2.1) :
    (Instr.lookup MT (.map (some b)) (.agg #[.int .u8 0, .int .u16 ro.1, .int .u32 ((q : Int) + 1)]) false).run Tryd.prog w = .ok (.int .i64 (if (q : Int) < ro.2.1 then 1 else 0)) w := by
  have hR := h.row hw
  have hx : idR (0, ro.1, (q : Int) + 1) := ⟨(show (0 : Int) ≤ 0 ∧ (0 : Int) ≤ 255 by decide), hR.1, (show (0 : Int) ≤ (q : Int) + 1 by omega), (show (q : Int) + 1 ≤ 4294967295 by omega)⟩
  have h1 := hM.look hok hx
  have e : nM (0, ro.1, (q : Int) + 1) = (ro.1.toNat, q + 1) := by unfold nM; simp only; congr 1
  rw [e] at h1
  obtain ⟨c1, c2⟩ := h.count
  by_cases hlt : (q : Int) < ro.2.1
  · rw [if_pos hlt]
    rw [if_pos ⟨rfl, c1 q hlt⟩] at h1
    exact h1
  · rw [if_neg hlt]
    have hq2 : q = ro.2.1.toNat := by omega
    rw [if_neg (fun hc => c2 (by rw [← hq2]; exact hc.2))] at h1
    exact h1
theorem OnceI.took {wn : Nat} {ro : Row3} {N : List Id2} {x : Id3} (h : OnceI wn ro (nM x :: N)) (hx : idR x) (h0 : x.1 = 0) (wd : Int) (h1 : ro.1 = x.2.1) : hasI ro x = true ∧ mayI ro x wd = false := by
  have h2 := h.last (m := nM x) List.mem_cons_self wd
  rw [idM_n hx h0] at h2
  exact ⟨h2.1.trans (decide_eq_true h1.symm), h2.2⟩
/-- A range over the map, under way. -/
structure RG (w : World) (b r : Nat) (N : List Id2) (left : Lit → Bool) (cnt : Nat) : Prop where
  rg : w.ranges Tryd.prog 28 IntE b r N.length (DM N) left cnt
theorem RG.next {w w' : World} {b r cnt : Nat} {N : List Id2} {left : Lit → Bool} (h : RG w b r N left cnt) (hb : Below w.heap.size w w') : RG w' b r N left cnt := ⟨h.rg.kept (below_grown hb) (by simp) (by simp)⟩
theorem RowBlk.still {w w' : World} {g : Nat} {p : Row3} (h : RowBlk w g p) (hg : w.grownBy w' none) : RowBlk w' g p := (hg.block g h.lt (by simp)).trans h
end Go.Proofs.YtkdlgejkgcojkaaDoor
