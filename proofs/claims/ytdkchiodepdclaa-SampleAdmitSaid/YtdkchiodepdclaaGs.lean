/- Words for slices of elements of several cells each, for lists of numbers, and for values that a call owns. No program is named here. -/
import Derived.Test.YtdkchiodepdclaaGv
import Derived.Deep.Slices
import Derived.Deep.Fields
import Derived.Lib.SmallJoins
namespace Go.Proofs.Ytdkchiodepdclaa
open Go.RowKit Go.ChangeShapes Go.WideShapes Go.Joins

/-- The slice value '.slice A n c' reads, in w, n elements of s cells each: the cells xs; it leads below block k. -/
def Sn (w : World) (k s : Nat) (A : Option Addr) (n c : Nat) (xs : List Value) : Prop :=
  xs.length = n * s ∧ n ≤ c ∧ c ≤ maxLen ∧
    (0 < n → ∃ b off, A = some ⟨b, off, none⟩ ∧ b < k ∧ ∀ j u, xs[j]? = some u → w.cell? ⟨b, off + j, none⟩ = some u)
section
variable {w w' : World} {k k' s : Nat} {A : Option Addr} {n c : Nat} {xs : List Value}
theorem Sn.len (h : Sn w k s A n c xs) : xs.length = n * s := h.1
theorem Sn.cap (h : Sn w k s A n c xs) : n ≤ c := h.2.1
theorem Sn.max (h : Sn w k s A n c xs) : c ≤ maxLen := h.2.2.1
theorem Sn.at_ (h : Sn w k s A n c xs) (hn : 0 < n) : ∃ b off, A = some ⟨b, off, none⟩ ∧ b < k ∧ ∀ j u, xs[j]? = some u → w.cell? ⟨b, off + j, none⟩ = some u := h.2.2.2 hn
theorem Sn.keep (h : Sn w k s A n c xs) (hk : ∀ p : Addr, p.block < k → w'.cell? p = w.cell? p) : Sn w' k s A n c xs :=
  ⟨h.len, h.cap, h.max, fun hn => by
    obtain ⟨b, off, e, hb, hc⟩ := h.at_ hn
    exact ⟨b, off, e, hb, fun j u hu => (hk _ hb).trans (hc j u hu)⟩⟩
theorem Sn.more (h : Sn w k s A n c xs) (hk : k ≤ k') : Sn w k' s A n c xs :=
  ⟨h.len, h.cap, h.max, fun hn => by
    obtain ⟨b, off, e, hb, hc⟩ := h.at_ hn
    exact ⟨b, off, e, by omega, hc⟩⟩
theorem Sn.below (h : Sn w k s A n c xs) (hb : Below k w w') : Sn w' k s A n c xs := h.keep fun _ hp => hb.cell hp
theorem Sn.next (h : Sn w w.heap.size s A n c xs) (hb : Below w.heap.size w w') : Sn w' w'.heap.size s A n c xs := (h.below hb).more hb.size
theorem Sn.nil (hk : xs = []) : Sn w k s none 0 0 xs := ⟨by simp [hk], Nat.le_refl _, by simp [maxLen], fun h => absurd h (by omega)⟩
theorem Sn.from_ (h : Sn w k s A n c xs) {lo : Nat} (hl : lo ≤ n) : Sn w k s (if c = lo then A else A.map (·.add (lo * s))) (n - lo) (c - lo) (xs.drop (lo * s)) := by
  have h1 := h.len
  have h2 := h.cap
  have h3 := h.max
  refine ⟨by rw [List.length_drop, h1, Nat.sub_mul], by omega, by omega, fun hn => ?_⟩
  obtain ⟨b, off, e, hb, hc⟩ := h.at_ (by omega)
  refine ⟨b, off + lo * s, ?_, hb, fun j u hu => ?_⟩
  · rw [if_neg (by omega), e]
    simp only [Option.map_some, Addr.add]
    split
    · rename_i h0; rw [h0]; rfl
    · rfl
  · rw [Nat.add_assoc]
    refine hc _ _ ?_
    rw [List.getElem?_drop] at hu
    exact hu
theorem Sn.upto (h : Sn w k s A n c xs) {hi : Nat} (hl : hi ≤ n) : Sn w k s A hi c (xs.take (hi * s)) := by
  have h1 := h.len
  have h2 := h.cap
  have h4 : hi * s ≤ n * s := Nat.mul_le_mul_right _ hl
  refine ⟨by rw [List.length_take, h1]; omega, by omega, h.max, fun hn => ?_⟩
  obtain ⟨b, off, e, hb, hc⟩ := h.at_ (by omega)
  refine ⟨b, off, e, hb, fun j u hu => hc _ _ ?_⟩
  rw [List.getElem?_take] at hu
  split at hu
  · exact hu
  · cases hu
theorem Sn.of_own {B : Nat} {E : TypeId} (h : w.ownsRow B E s (.slice A n c) n xs) : Sn w w.heap.size s A n c xs := by
  obtain ⟨h1, h2⟩ := h
  rcases h2 with ⟨hv, hn⟩ | ⟨g, cap, cur, hv, hB, hg, hn, hc, hs, ht⟩
  · injection hv with a b c
    subst a b c
    exact Sn.nil (List.eq_nil_of_length_eq_zero (by simpa using h1))
  · injection hv with a b c
    subst a c
    have hlt : g < w.heap.size := (Array.getElem?_eq_some_iff.1 hg).1
    refine ⟨h1, hn, hc, fun _ => ⟨g, 0, rfl, hlt, fun j u hu => ?_⟩⟩
    have hj : j < n * s := by
      rcases Nat.lt_or_ge j (n * s) with h | h
      · exact h
      · rw [List.getElem?_eq_none (by rw [h1]; exact h)] at hu; cases hu
    rw [Nat.zero_add, cell_of_row w g j cur E (0, 0) hg]
    rw [← ht, List.getElem?_take, if_pos hj] at hu
    simpa using hu
theorem Sn.sv (h : Sn w k 1 A n c xs) : Sv w k A n c xs := ⟨by have := h.len; omega, h.cap, h.max, h.2.2.2⟩
theorem Sv.sn (h : Sv w k A n c xs) : Sn w k 1 A n c xs := ⟨by have := h.len; omega, h.cap, h.max, h.2.2.2⟩
/-- A slice written out: a new block. -/
theorem Sn.lit (w : World) (cs : Array Value) (t : TypeId) (fr : Nat × Nat) (s n : Nat) (hn : cs.size = n * s) (hm : n ≤ maxLen) : Sn (w.alloc (.cells cs t fr)) (w.heap.size + 1) s (some ⟨w.heap.size, 0, none⟩) n n cs.toList :=
  ⟨by simp [hn], Nat.le_refl _, hm, fun _ => ⟨w.heap.size, 0, rfl, by omega, fun j u hu => by
    rw [Nat.zero_add, cell_of_row _ _ j cs t fr (heap_alloc_new w _)]
    simpa using hu⟩⟩
end

/-- 's[:hi]', the slice of elements of s cells: what the walk is told. -/
theorem run_upto {P : Program} {w : World} {A : Option Addr} {n c hi : Nat} (t E : TypeId) (ht : P.underlying t = some (.slice E)) (he : P.elem t = E) (z : Nat) (hs : ∀ w' : World, (sizeOf E).run P w' = .ok z w') (kh : IntKind) (y : Int) (hy : y = (hi : Int)) (hc : hi ≤ c) :
    (Instr.slice t (.slice A n c) none (some (.int kh y)) none).run P w = .ok (.slice A hi c) w := by
  subst hy he
  rw [run_slice_h (P := P) w t A n c ht kh (hi : Int) (by omega) (by omega), hs w]
  have e : ∀ x : Addr, x.add 0 = x := fun x => by simp [Addr.add]
  cases A <;> simp [Result.andThen, sliced, e]

/-- Two numbers as cells; lists of pairs. -/
def spv (p : Int × Int) : List Value := [.int .i32 p.1, .int .i32 p.2]
def spl (ps : List (Int × Int)) : List Value := ps.flatMap spv
theorem spl_nil : spl [] = [] := rfl
theorem spl_cons (p : Int × Int) (ps : List (Int × Int)) : spl (p :: ps) = .int .i32 p.1 :: .int .i32 p.2 :: spl ps := rfl
theorem spl_append (ps qs : List (Int × Int)) : spl (ps ++ qs) = spl ps ++ spl qs := by simp [spl]
theorem spl_length : ∀ ps : List (Int × Int), (spl ps).length = ps.length * 2
  | [] => rfl
  | p :: ps => by rw [spl_cons]; simp only [List.length_cons, spl_length ps]; omega
theorem spl_drop : ∀ (ps : List (Int × Int)) (j : Nat), (spl ps).drop (j * 2) = spl (ps.drop j)
  | ps, 0 => by simp
  | [], j + 1 => by simp [spl_nil]
  | p :: ps, j + 1 => by rw [show (j + 1) * 2 = j * 2 + 1 + 1 by omega, spl_cons, List.drop_succ_cons, List.drop_succ_cons, List.drop_succ_cons, spl_drop ps j]
theorem spl_take : ∀ (ps : List (Int × Int)) (j : Nat), (spl ps).take (j * 2) = spl (ps.take j)
  | ps, 0 => by simp [spl_nil]
  | [], j + 1 => by simp [spl_nil]
  | p :: ps, j + 1 => by rw [show (j + 1) * 2 = j * 2 + 1 + 1 by omega, spl_cons, List.take_succ_cons, List.take_succ_cons, List.take_succ_cons, spl_cons, spl_take ps j]
theorem spl_one : ∀ ps : List (Int × Int), ∀ u ∈ spl ps, u.oneCell' = true
  | [], u, h => by cases h
  | p :: ps, u, h => by
    rw [spl_cons] at h
    rcases List.mem_cons.1 h with rfl | h
    · rfl
    · rcases List.mem_cons.1 h with rfl | h
      · rfl
      · exact spl_one ps u h
theorem spl_at : ∀ (ps : List (Int × Int)) (j : Nat) (p : Int × Int), ps[j]? = some p → (spl ps)[j * 2]? = some (.int .i32 p.1) ∧ (spl ps)[j * 2 + 1]? = some (.int .i32 p.2)
  | [], j, p, h => by simp at h
  | q :: ps, 0, p, h => by
    have : q = p := by simpa using h
    subst this
    exact ⟨rfl, rfl⟩
  | q :: ps, j + 1, p, h => by
    have := spl_at ps j p (by simpa using h)
    rw [show (j + 1) * 2 = j * 2 + 1 + 1 by omega, spl_cons]
    exact ⟨by simpa using this.1, by simpa using this.2⟩

/-- A slice of pairs of numbers. -/
abbrev Sp (w : World) (k : Nat) (A : Option Addr) (n c : Nat) (ps : List (Int × Int)) : Prop := Sn w k 2 A n c (spl ps)
/-- A slice of numbers. -/
def Nl (k : IntKind) (xs : List Int) : List Value := xs.map (Value.int k)
abbrev Si (w : World) (k : Nat) (A : Option Addr) (n c : Nat) (xs : List Int) : Prop := Sv w k A n c (Nl .i32 xs)
theorem Nl_length (k : IntKind) (xs : List Int) : (Nl k xs).length = xs.length := by simp [Nl]
theorem Nl_at {k : IntKind} {xs : List Int} {j : Nat} {x : Int} (h : xs[j]? = some x) : (Nl k xs)[j]? = some (.int k x) := by simp [Nl, h]
theorem Nl_one (k : IntKind) (xs : List Int) : ∀ u ∈ Nl k xs, u.oneCell' = true := by
  intro u hu
  obtain ⟨x, _, rfl⟩ := List.mem_map.1 hu
  rfl
section
variable {w : World} {k : Nat} {A : Option Addr} {n c : Nat} {ps : List (Int × Int)} {xs : List Int}
theorem sp_len (h : Sp w k A n c ps) : n = ps.length := by have := h.len; rw [spl_length] at this; omega
theorem si_len (h : Si w k A n c xs) : n = xs.length := by have := h.len; rwa [Nl_length] at this
theorem sp_upto (h : Sp w k A n c ps) {hi : Nat} (hl : hi ≤ n) : Sp w k A hi c (ps.take hi) := by have := h.upto hl; rwa [spl_take] at this
theorem si_upto (h : Si w k A n c xs) {hi : Nat} (hl : hi ≤ n) : Si w k A hi c (xs.take hi) := by have := h.upto hl; unfold Nl at this; rwa [← List.map_take] at this
/-- Element j. -/
theorem sp_at (h : Sp w k A n c ps) {j : Nat} (hj : j < n) : ∃ b off p, A = some ⟨b, off, none⟩ ∧ b < k ∧ ps[j]? = some p ∧ w.cell? ⟨b, off + j * 2, none⟩ = some (.int .i32 p.1) ∧ w.cell? ⟨b, off + j * 2 + 1, none⟩ = some (.int .i32 p.2) := by
  obtain ⟨b, off, e, hb, hc⟩ := h.at_ (by omega)
  have hl := sp_len h
  have hj' : j < ps.length := by omega
  obtain ⟨h1, h2⟩ := spl_at ps j ps[j] (List.getElem?_eq_getElem hj')
  exact ⟨b, off, ps[j], e, hb, List.getElem?_eq_getElem hj', hc _ _ h1, by rw [Nat.add_assoc]; exact hc _ _ h2⟩
theorem si_at (h : Si w k A n c xs) {j : Nat} (hj : j < n) : ∃ b off x, A = some ⟨b, off, none⟩ ∧ b < k ∧ xs[j]? = some x ∧ w.cell? ⟨b, off + j, none⟩ = some (.int .i32 x) := by
  obtain ⟨b, off, e, hb, hc⟩ := h.at_ (by omega)
  have hl := si_len h
  have hj' : j < xs.length := by omega
  exact ⟨b, off, xs[j], e, hb, List.getElem?_eq_getElem hj', hc _ _ (Nl_at (List.getElem?_eq_getElem hj'))⟩
theorem sl_at {l : List UInt8} (h : Sl w k A n c l) {j : Nat} (hj : j < n) : ∃ b off x, A = some ⟨b, off, none⟩ ∧ b < k ∧ l[j]? = some x ∧ w.cell? ⟨b, off + j, none⟩ = some (.int .u8 (x.toNat : Int)) := by
  obtain ⟨b, off, e, hb, hc⟩ := h.at_ (by omega)
  have hl := sl_len h
  have hj' : j < l.length := by omega
  exact ⟨b, off, l[j], e, hb, List.getElem?_eq_getElem hj', hc _ _ (by simp [List.getElem?_map, List.getElem?_eq_getElem hj', Bv])⟩
end
theorem bcell {W w1 : World} (hb : Below W.heap.size W w1) : (∀ b o, b < W.heap.size → w1.cell? ⟨b, o, none⟩ = W.cell? ⟨b, o, none⟩) ∧ (∀ b o, b < W.heap.size → w1.frozen? ⟨b, o, none⟩ = W.frozen? ⟨b, o, none⟩) :=
  ⟨fun b o h => hb.cell (p := ⟨b, o, none⟩) h, fun b o h => hb.frozen (p := ⟨b, o, none⟩) h⟩
end Go.Proofs.Ytdkchiodepdclaa
