/- Layer 7: ids, lists of ids: what they are. Plain facts; words for slices of ids. -/
import Derived.Test.YtkdlgejkgcojkaaDoorOw
import Derived.Test.YtkdlgejkgcojkaaDoorChecked
import Derived.BigQuiet
import Derived.BigCall
import Derived.Laws.ResultCell
import Derived.Laws.IdiomRangeMap
import Derived.Lib.Hide
import Derived.Lib.SmallJoins
import Derived.Test.YtkdlgejkgcojkaaDoorReg
namespace Go.Proofs.YtkdlgejkgcojkaaDoor
open Go.RowKit
set_option linter.unusedVariables false
abbrev Id3 := Int × Int × Int
def lessB (a b : Id3) : Bool := decide (a.1 < b.1 ∨ a.1 = b.1 ∧ (a.2.1 < b.2.1 ∨ a.2.1 = b.2.1 ∧ a.2.2 < b.2.2))
theorem less_iff {a b : Id3} : lessB a b = true ↔ (a.1 < b.1 ∨ a.1 = b.1 ∧ (a.2.1 < b.2.1 ∨ a.2.1 = b.2.1 ∧ a.2.2 < b.2.2)) := by simp [lessB]
theorem less_not {a b : Id3} : lessB a b = false ↔ ¬ (a.1 < b.1 ∨ a.1 = b.1 ∧ (a.2.1 < b.2.1 ∨ a.2.1 = b.2.1 ∧ a.2.2 < b.2.2)) := by
  cases h : lessB a b
  · simp only [true_iff]; rw [← less_iff, h]; simp
  · simp only [Bool.true_eq_false, false_iff]; rw [← less_iff, h]; simp
theorem id3_ext {a b : Id3} (h1 : a.1 = b.1) (h2 : a.2.1 = b.2.1) (h3 : a.2.2 = b.2.2) : a = b := Prod.ext h1 (Prod.ext h2 h3)
theorem less_trans {a b c : Id3} (h : lessB a b = true) (h' : lessB b c = true) : lessB a c = true := by rw [less_iff] at *; omega
theorem less_irr (a : Id3) : lessB a a = false := by rw [less_not]; omega
theorem less_tri {a b : Id3} (h : lessB a b = false) (h' : lessB b a = false) : a = b := by
  rw [less_not] at *
  exact id3_ext (by omega) (by omega) (by omega)
theorem less_ne {a b : Id3} (h : lessB a b = true) : a ≠ b := by rintro rfl; rw [less_irr] at h; cases h
def insL (x : Id3) : List Id3 → List Id3
  | [] => [x]
  | y :: t => if lessB x y then x :: y :: t else y :: insL x t
def putL (l : List Id3) (x : Id3) : List Id3 := if x ∈ l then l else insL x l
def dropL (l : List Id3) (x : Id3) : List Id3 := l.filter (fun y => decide (y ≠ x))
def madeL (l : List Id3) : List Id3 := l.foldl putL []
abbrev Rise (l : List Id3) : Prop := l.Pairwise (fun a b => lessB a b = true)
theorem insL_at (x : Id3) : ∀ l : List Id3, insL x l = l.take (l.findIdx (lessB x)) ++ x :: l.drop (l.findIdx (lessB x))
  | [] => rfl
  | y :: t => by
    unfold insL
    rw [List.findIdx_cons]
    cases h : lessB x y
    · simp [insL_at x t]
    · simp
theorem mem_insL {x y : Id3} : ∀ {l : List Id3}, y ∈ insL x l ↔ y = x ∨ y ∈ l
  | [] => by simp [insL]
  | z :: t => by
    unfold insL
    split
    · simp
    · simp only [List.mem_cons, mem_insL (l := t)]; grind
theorem mem_putL {l : List Id3} {x y : Id3} : y ∈ putL l x ↔ y = x ∨ y ∈ l := by
  unfold putL
  split
  · constructor
    · exact .inr
    · rintro (rfl | h)
      · assumption
      · exact h
  · exact mem_insL
theorem mem_dropL {l : List Id3} {x y : Id3} : y ∈ dropL l x ↔ y ∈ l ∧ y ≠ x := by simp [dropL]
theorem rise_insL {x : Id3} : ∀ {l : List Id3}, Rise l → x ∉ l → Rise (insL x l)
  | [], _, _ => by simp [insL]
  | y :: t, h, hx => by
    have h1 := List.pairwise_cons.1 h
    unfold insL
    split
    · rename_i hl
      refine List.pairwise_cons.2 ⟨fun z hz => ?_, h⟩
      rcases List.mem_cons.1 hz with rfl | hz
      · exact hl
      · exact less_trans hl (h1.1 z hz)
    · rename_i hl
      refine List.pairwise_cons.2 ⟨fun z hz => ?_, rise_insL h1.2 (fun e => hx (List.mem_cons_of_mem _ e))⟩
      rcases mem_insL.1 hz with rfl | hz
      · cases h2 : lessB y z
        · exact absurd (less_tri (by simpa using hl) h2) (fun e => hx (by rw [e]; exact List.mem_cons_self))
        · rfl
      · exact h1.1 z hz
theorem rise_putL {l : List Id3} {x : Id3} (h : Rise l) : Rise (putL l x) := by
  unfold putL
  split
  · exact h
  · exact rise_insL h (by assumption)
theorem rise_dropL {l : List Id3} {x : Id3} (h : Rise l) : Rise (dropL l x) := h.filter _
theorem rise_ext : ∀ {l l' : List Id3}, Rise l → Rise l' → (∀ y, y ∈ l ↔ y ∈ l') → l = l'
  | [], [], _, _, _ => rfl
  | [], y :: t, _, _, h => absurd ((h y).2 List.mem_cons_self) (by simp)
  | y :: t, [], _, _, h => absurd ((h y).1 List.mem_cons_self) (by simp)
  | y :: t, z :: s, h1, h2, h => by
    have a1 := List.pairwise_cons.1 h1
    have a2 := List.pairwise_cons.1 h2
    have e : y = z := by
      rcases List.mem_cons.1 ((h y).1 List.mem_cons_self) with e | e
      · exact e
      · rcases List.mem_cons.1 ((h z).2 List.mem_cons_self) with e' | e'
        · exact e'.symm
        · have := less_trans (a1.1 z e') (a2.1 y e)
          rw [less_irr] at this; cases this
    subst e
    rw [rise_ext a1.2 a2.2 (fun u => by
      constructor
      · intro hu
        rcases List.mem_cons.1 ((h u).1 (List.mem_cons_of_mem _ hu)) with rfl | e
        · exact absurd (a1.1 _ hu) (by rw [less_irr]; simp)
        · exact e
      · intro hu
        rcases List.mem_cons.1 ((h u).2 (List.mem_cons_of_mem _ hu)) with rfl | e
        · exact absurd (a2.1 _ hu) (by rw [less_irr]; simp)
        · exact e)]
theorem rise_foldl : ∀ (l a : List Id3), Rise a → Rise (l.foldl putL a)
  | [], a, h => h
  | x :: t, a, h => rise_foldl t _ (rise_putL h)
theorem mem_foldl {y : Id3} : ∀ (l a : List Id3), y ∈ l.foldl putL a ↔ y ∈ a ∨ y ∈ l
  | [], a => by simp
  | x :: t, a => by rw [List.foldl_cons, mem_foldl t, mem_putL, List.mem_cons]; grind
theorem rise_made (l : List Id3) : Rise (madeL l) := rise_foldl l [] List.Pairwise.nil
theorem mem_made {l : List Id3} {y : Id3} : y ∈ madeL l ↔ y ∈ l := by unfold madeL; rw [mem_foldl]; simp
theorem made_turn (l : List Id3) (k : Nat) : madeL (l.drop k ++ l.take k) = madeL l :=
  rise_ext (rise_made _) (rise_made _) fun y => by
    rw [mem_made, mem_made, List.mem_append]
    conv => rhs; rw [← List.take_append_drop k l, List.mem_append]
    exact Or.comm
theorem made_length : ∀ (l a : List Id3), (l.foldl putL a).length ≤ a.length + l.length
  | [], a => by simp
  | x :: t, a => by
    have h := made_length t (putL a x)
    have h2 : (putL a x).length ≤ a.length + 1 := by
      unfold putL
      split
      · omega
      · rw [insL_at]; simp; omega
    simp only [List.foldl_cons, List.length_cons]; omega
theorem put_again {a : List Id3} {x : Id3} : putL (putL a x) x = putL a x := by
  conv => lhs; unfold putL
  exact if_pos (mem_putL.2 (.inl rfl))
theorem drop_again {a : List Id3} {x : Id3} : dropL (dropL a x) x = dropL a x := by simp [dropL]
theorem drop_ins {x : Id3} : ∀ l : List Id3, dropL (insL x l) x = dropL l x
  | [] => by simp [insL, dropL]
  | y :: t => by
    have := drop_ins (x := x) t
    unfold insL
    unfold dropL at *
    split
    · simp [List.filter_cons]
    · rw [List.filter_cons, List.filter_cons, this]
theorem drop_put {a : List Id3} {x : Id3} : dropL (putL a x) x = dropL a x := by
  unfold putL
  split
  · rfl
  · exact drop_ins a
/-- Rising, as a test of neighbours. -/
def riseB (l : List Id3) : Bool := decide (Rise l)
theorem rise_near {l : List Id3} (h : ∀ i, 1 ≤ i → i < l.length → ∃ a b, l[i - 1]? = some a ∧ l[i]? = some b ∧ lessB a b = true) : Rise l := by
  induction l with
  | nil => exact List.Pairwise.nil
  | cons x t ih =>
    have h2 : Rise t := ih fun i h1 h2 => by
      have := h (i + 1) (by omega) (by simpa using h2)
      obtain ⟨a, b, e1, e2, e3⟩ := this
      refine ⟨a, b, ?_, by simpa using e2, e3⟩
      rw [show i + 1 - 1 = (i - 1) + 1 by omega, List.getElem?_cons_succ] at e1
      exact e1
    refine List.pairwise_cons.2 ⟨fun z hz => ?_, h2⟩
    cases t with
    | nil => cases hz
    | cons y s =>
      obtain ⟨a, b, e1, e2, e3⟩ := h 1 (Nat.le_refl _) (by simp)
      simp at e1 e2
      subst e1 e2
      rcases List.mem_cons.1 hz with rfl | hz
      · exact e3
      · exact less_trans e3 ((List.pairwise_cons.1 h2).1 z hz)
theorem rise_bad {l : List Id3} {i : Nat} {a b : Id3} (h1 : l[i]? = some a) (h2 : l[i + 1]? = some b) (h3 : lessB a b = false) : ¬ Rise l := by
  intro h
  obtain ⟨g1, rfl⟩ := List.getElem?_eq_some_iff.1 h1
  obtain ⟨g2, rfl⟩ := List.getElem?_eq_some_iff.1 h2
  have := List.pairwise_iff_getElem.1 h i (i + 1) g1 g2 (by omega)
  rw [h3] at this
  cases this
/-- An id as cells; a list of ids. -/
def idv (p : Id3) : List Value := [.int .u8 p.1, .int .u16 p.2.1, .int .u32 p.2.2]
def idl (ps : List Id3) : List Value := ps.flatMap idv
theorem idl_nil : idl [] = [] := rfl
theorem idl_cons (p : Id3) (ps : List Id3) : idl (p :: ps) = .int .u8 p.1 :: .int .u16 p.2.1 :: .int .u32 p.2.2 :: idl ps := rfl
theorem idl_append (ps qs : List Id3) : idl (ps ++ qs) = idl ps ++ idl qs := by simp [idl]
theorem idl_length : ∀ ps : List Id3, (idl ps).length = ps.length * 3
  | [] => rfl
  | p :: ps => by rw [idl_cons]; simp only [List.length_cons, idl_length ps]; omega
theorem idl_drop : ∀ (ps : List Id3) (j : Nat), (idl ps).drop (j * 3) = idl (ps.drop j)
  | ps, 0 => by simp
  | [], j + 1 => by simp [idl_nil]
  | p :: ps, j + 1 => by rw [show (j + 1) * 3 = j * 3 + 1 + 1 + 1 by omega, idl_cons, List.drop_succ_cons, List.drop_succ_cons, List.drop_succ_cons, List.drop_succ_cons, idl_drop ps j]
theorem idl_take : ∀ (ps : List Id3) (j : Nat), (idl ps).take (j * 3) = idl (ps.take j)
  | ps, 0 => by simp [idl_nil]
  | [], j + 1 => by simp [idl_nil]
  | p :: ps, j + 1 => by rw [show (j + 1) * 3 = j * 3 + 1 + 1 + 1 by omega, idl_cons, List.take_succ_cons, List.take_succ_cons, List.take_succ_cons, List.take_succ_cons, idl_cons, idl_take ps j]
theorem idl_one : ∀ ps : List Id3, ∀ u ∈ idl ps, u.oneCell' = true
  | [], u, h => by cases h
  | p :: ps, u, h => by
    rw [idl_cons] at h
    rcases List.mem_cons.1 h with rfl | h
    · rfl
    · rcases List.mem_cons.1 h with rfl | h
      · rfl
      · rcases List.mem_cons.1 h with rfl | h
        · rfl
        · exact idl_one ps u h
theorem idl_at : ∀ (ps : List Id3) (j : Nat) (p : Id3), ps[j]? = some p → (idl ps)[j * 3]? = some (.int .u8 p.1) ∧ (idl ps)[j * 3 + 1]? = some (.int .u16 p.2.1) ∧ (idl ps)[j * 3 + 2]? = some (.int .u32 p.2.2)
  | [], j, p, h => by simp at h
  | q :: ps, 0, p, h => by
    have : q = p := by simpa using h
    subst this
    exact ⟨rfl, rfl, rfl⟩
  | q :: ps, j + 1, p, h => by
    have := idl_at ps j p (by simpa using h)
    rw [show (j + 1) * 3 = j * 3 + 1 + 1 + 1 by omega, idl_cons]
    exact ⟨by simpa using this.1, by simpa using this.2.1, by simpa using this.2.2⟩
/-- A slice of ids. -/
abbrev Sd (w : World) (k : Nat) (A : Option Addr) (n c : Nat) (ps : List Id3) : Prop := Sn w k 3 A n c (idl ps)
section
variable {w : World} {k : Nat} {A : Option Addr} {n c : Nat} {ps : List Id3}
theorem sd_len (h : Sd w k A n c ps) : n = ps.length := by have := h.len; rw [idl_length] at this; omega
theorem sd_upto (h : Sd w k A n c ps) {hi : Nat} (hl : hi ≤ n) : Sd w k A hi c (ps.take hi) := by have := h.upto hl; rwa [idl_take] at this
theorem sd_from (h : Sd w k A n c ps) {lo : Nat} (hl : lo ≤ n) : Sd w k (if c = lo then A else A.map (·.add (lo * 3))) (n - lo) (c - lo) (ps.drop lo) := by have := h.from_ hl; rwa [idl_drop] at this
/-- Element j, in whatever world keeps what lies below k. -/
theorem sd_at (h : Sd w k A n c ps) {j : Nat} (hj : j < n) : ∃ b off p, A = some ⟨b, off, none⟩ ∧ b < k ∧ ps[j]? = some p ∧ w.cell? ⟨b, off + j * 3, none⟩ = some (.int .u8 p.1) ∧ w.cell? ⟨b, off + j * 3 + 1, none⟩ = some (.int .u16 p.2.1) ∧ w.cell? ⟨b, off + j * 3 + 2, none⟩ = some (.int .u32 p.2.2) := by
  obtain ⟨b, off, e, hb, hc⟩ := h.at_ (by omega)
  have hl := sd_len h
  have hj' : j < ps.length := by omega
  obtain ⟨h1, h2, h3⟩ := idl_at ps j ps[j] (List.getElem?_eq_getElem hj')
  exact ⟨b, off, ps[j], e, hb, List.getElem?_eq_getElem hj', hc _ _ h1, by rw [Nat.add_assoc]; exact hc _ _ h2, by rw [Nat.add_assoc]; exact hc _ _ h3⟩
end
/-- A block that holds one id. -/
def IdBlk (w : World) (g : Nat) (p : Id3) : Prop := w.heap[g]? = some (.cells #[.int .u8 p.1, .int .u16 p.2.1, .int .u32 p.2.2] 28 (0, 0))
section
variable {w w' : World} {g : Nat} {p : Id3}
theorem IdBlk.new (w : World) (p : Id3) : IdBlk (w.alloc (.cells #[.int .u8 p.1, .int .u16 p.2.1, .int .u32 p.2.2] 28)) w.heap.size p := heap_alloc_new w _
theorem IdBlk.lt (h : IdBlk w g p) : g < w.heap.size := (Array.getElem?_eq_some_iff.1 h).1
theorem IdBlk.next (h : IdBlk w g p) (hb : Below w.heap.size w w') : IdBlk w' g p := by unfold IdBlk; rw [hb.block g h.lt]; exact h
theorem IdBlk.cells (h : IdBlk w g p) : w.cell? ⟨g, 0, none⟩ = some (.int .u8 p.1) ∧ w.cell? ⟨g, 1, none⟩ = some (.int .u16 p.2.1) ∧ w.cell? ⟨g, 2, none⟩ = some (.int .u32 p.2.2) := by
  unfold IdBlk at h; simp [World.cell?, h]
theorem IdBlk.free (h : IdBlk w g p) : ∀ i, w.frozen? ⟨g, i, none⟩ = false := fun i => by unfold IdBlk at h; simp [World.frozen?, h]
end
theorem id_eq (p q : Id3) : decide (p.1 = q.1 ∧ p.2.1 = q.2.1 ∧ p.2.2 = q.2.2) = decide (p = q) := by
  rw [Bool.eq_iff_iff, decide_eq_true_eq, decide_eq_true_eq]
  exact ⟨fun ⟨h1, h2, h3⟩ => id3_ext h1 h2 h3, fun h => by rw [h]; exact ⟨rfl, rfl, rfl⟩⟩
theorem ideql (p q : Id3) (w : World) : (binOp .eql 28 (.agg #[.int .u8 p.1, .int .u16 p.2.1, .int .u32 p.2.2]) (.agg #[.int .u8 q.1, .int .u16 q.2.1, .int .u32 q.2.2])).run Tryd.prog w = .ok (.bool (decide (p = q))) w := by
  rw [← id_eq]
  by_cases h1 : p.1 = q.1
  · by_cases h2 : p.2.1 = q.2.1
    · by_cases h3 : p.2.2 = q.2.2
      · simp [go_sem, h1, h2, h3]
      · simp [go_sem, h1, h2, h3]
    · simp [go_sem, h1, h2]
  · simp [go_sem, h1]
theorem idneq (p q : Id3) (w : World) : (binOp .neq 28 (.agg #[.int .u8 p.1, .int .u16 p.2.1, .int .u32 p.2.2]) (.agg #[.int .u8 q.1, .int .u16 q.2.1, .int .u32 q.2.2])).run Tryd.prog w = .ok (.bool (!decide (p = q))) w := by
  rw [← id_eq]
  by_cases h1 : p.1 = q.1
  · by_cases h2 : p.2.1 = q.2.1
    · by_cases h3 : p.2.2 = q.2.2
      · simp [go_sem, h1, h2, h3]
      · simp [go_sem, h1, h2, h3]
    · simp [go_sem, h1, h2]
  · simp [go_sem, h1]
end Go.Proofs.YtkdlgejkgcojkaaDoor
