/- Layer 9 and on: descriptors, in memory and as data: words; what becomes of lists of them (plain facts). No function of the program is named here. -/
import Derived.Test.YtdkchiodepdclaaChecked
import Derived.Test.YtdkchiodepdclaaOw
import Derived.Test.YtdkchiodepdclaaAy
import Derived.Test.YtdkchiodepdclaaTy
import Derived.Lib.Hide
import Derived.Lib.SmallJoins
namespace Go.Proofs.Ytdkchiodepdclaa
open Go.RowKit
set_option linter.unusedVariables false
/-- node, incarnation, age, filter -/
abbrev Dsc := Int × Int × Int × List (Int × Int)
/-- A slice's header. -/
abbrev Hd := Option Addr × Nat × Nat
def dcl (x : Dsc × Hd) : List Value := [.int .u8 x.1.1, .int .u16 x.1.2.1, .int .u8 x.1.2.2.1, .slice x.2.1 x.2.2.1 x.2.2.2]
def dcs (xs : List (Dsc × Hd)) : List Value := xs.flatMap dcl
theorem dcs_nil : dcs [] = [] := rfl
theorem dcs_cons (x : Dsc × Hd) (xs : List (Dsc × Hd)) : dcs (x :: xs) = dcl x ++ dcs xs := by simp [dcs]
theorem dcs_append (xs ys : List (Dsc × Hd)) : dcs (xs ++ ys) = dcs xs ++ dcs ys := by simp [dcs]
theorem dcs_length : ∀ xs : List (Dsc × Hd), (dcs xs).length = xs.length * 4
  | [] => rfl
  | x :: xs => by rw [dcs_cons, List.length_append, dcs_length xs, List.length_cons]; simp [dcl]; omega
theorem dcl_one (x : Dsc × Hd) : ∀ u ∈ dcl x, u.oneCell' = true := by
  intro u hu
  simp [dcl] at hu
  rcases hu with rfl | rfl | rfl | rfl <;> rfl
theorem dcs_one (xs : List (Dsc × Hd)) : ∀ u ∈ dcs xs, u.oneCell' = true := by
  intro u hu
  obtain ⟨x, _, hx⟩ := List.mem_flatMap.1 hu
  exact dcl_one x u hx
theorem dcs_drop : ∀ (xs : List (Dsc × Hd)) (j : Nat), (dcs xs).drop (j * 4) = dcs (xs.drop j)
  | xs, 0 => by simp
  | [], j + 1 => by simp [dcs]
  | x :: xs, j + 1 => by
    rw [dcs_cons, List.drop_succ_cons, ← dcs_drop xs j, show (j + 1) * 4 = (dcl x).length + j * 4 by simp [dcl]; omega, ← List.drop_drop, List.drop_left']
    rfl
theorem dcs_take : ∀ (xs : List (Dsc × Hd)) (j : Nat), (dcs xs).take (j * 4) = dcs (xs.take j)
  | xs, 0 => by simp [dcs]
  | [], j + 1 => by simp [dcs]
  | x :: xs, j + 1 => by
    rw [dcs_cons, List.take_succ_cons, dcs_cons, ← dcs_take xs j, show (j + 1) * 4 = (dcl x).length + j * 4 by simp [dcl]; omega, List.take_length_add_append]
theorem dcs_at (xs : List (Dsc × Hd)) (j : Nat) (x : Dsc × Hd) (h : xs[j]? = some x) : (dcs xs)[j * 4]? = some (.int .u8 x.1.1) ∧ (dcs xs)[j * 4 + 1]? = some (.int .u16 x.1.2.1) ∧ (dcs xs)[j * 4 + 2]? = some (.int .u8 x.1.2.2.1) ∧ (dcs xs)[j * 4 + 3]? = some (.slice x.2.1 x.2.2.1 x.2.2.2) := by
  have hd : (dcs xs).drop (j * 4) = dcl x ++ dcs (xs.drop (j + 1)) := by
    rw [dcs_drop, List.drop_eq_getElem_cons (List.getElem?_eq_some_iff.1 h).1, (List.getElem?_eq_some_iff.1 h).2, dcs_cons]
  have key : ∀ i, (dcs xs)[j * 4 + i]? = (dcl x ++ dcs (xs.drop (j + 1)))[i]? := fun i => by rw [← hd, List.getElem?_drop]
  have k0 := key 0
  rw [Nat.add_zero] at k0
  exact ⟨k0.trans rfl, (key 1).trans rfl, (key 2).trans rfl, (key 3).trans rfl⟩
/-- The filter of x lies where its header says. -/
abbrev Fl (w : World) (x : Dsc × Hd) : Prop := Sp w w.heap.size x.2.1 x.2.2.1 x.2.2.2 x.1.2.2.2
/-- A slice of descriptors. -/
structure Sds (w : World) (A : Option Addr) (n c : Nat) (xs : List (Dsc × Hd)) : Prop where
  sn : Sn w w.heap.size 4 A n c (dcs xs)
  fl : ∀ x ∈ xs, Fl w x
section
variable {w w' : World} {A : Option Addr} {n c : Nat} {xs : List (Dsc × Hd)}
theorem Sds.next (h : Sds w A n c xs) (hb : Below w.heap.size w w') : Sds w' A n c xs := ⟨h.sn.next hb, fun x hx => (h.fl x hx).next hb⟩
theorem Sds.len (h : Sds w A n c xs) : n = xs.length := by have := h.sn.len; rw [dcs_length] at this; omega
theorem Sds.max (h : Sds w A n c xs) : c ≤ maxLen := h.sn.max
theorem Sds.cap (h : Sds w A n c xs) : n ≤ c := h.sn.cap
theorem Sds.nil (w : World) : Sds w none 0 0 [] := ⟨Sn.nil rfl, fun x hx => by cases hx⟩
/-- The j-th one: where it lies, and its cells, as long as the world only grows. -/
theorem Sds.at_ (h : Sds w A n c xs) {j : Nat} (hj : j < n) : ∃ b off x, A = some ⟨b, off, none⟩ ∧ b < w.heap.size ∧ xs[j]? = some x ∧ x ∈ xs ∧
    w.cell? ⟨b, off + j * 4, none⟩ = some (.int .u8 x.1.1) ∧ w.cell? ⟨b, off + j * 4 + 1, none⟩ = some (.int .u16 x.1.2.1) ∧ w.cell? ⟨b, off + j * 4 + 2, none⟩ = some (.int .u8 x.1.2.2.1) ∧ w.cell? ⟨b, off + j * 4 + 3, none⟩ = some (.slice x.2.1 x.2.2.1 x.2.2.2) := by
  have hl := h.len
  obtain ⟨b, off, hA, hb, hc⟩ := h.sn.at_ (by omega)
  have hlt : j < xs.length := by omega
  obtain ⟨c0, c1, c2, c3⟩ := dcs_at xs j xs[j] (by simp [hlt])
  refine ⟨b, off, xs[j], hA, hb, by simp [hlt], List.getElem_mem hlt, hc _ _ c0, ?_, ?_, ?_⟩
  · have := hc _ _ c1; rwa [← Nat.add_assoc] at this
  · have := hc _ _ c2; rwa [← Nat.add_assoc] at this
  · have := hc _ _ c3; rwa [← Nat.add_assoc] at this
end
/-- The same, for regions that draw. -/
theorem Sds.cells {w : World} {A : Option Addr} {n c : Nat} {xs : List (Dsc × Hd)} (h : Sds w A n c xs) {j : Nat} (hj : j < n) : ∃ b off x, A = some ⟨b, off, none⟩ ∧ xs[j]? = some x ∧ x ∈ xs ∧ Hid (∀ w', Below w.heap.size w w' →
    w'.cell? ⟨b, off + j * 4, none⟩ = some (.int .u8 x.1.1) ∧ w'.cell? ⟨b, off + j * 4 + 1, none⟩ = some (.int .u16 x.1.2.1) ∧ w'.cell? ⟨b, off + j * 4 + 2, none⟩ = some (.int .u8 x.1.2.2.1) ∧ w'.cell? ⟨b, off + j * 4 + 3, none⟩ = some (.slice x.2.1 x.2.2.1 x.2.2.2)) := by
  obtain ⟨b, off, x, hA, hb, hx, hm, c0, c1, c2, c3⟩ := h.at_ hj
  exact ⟨b, off, x, hA, hx, hm, fun w' hw => ⟨(hw.cell (p := ⟨b, off + j * 4, none⟩) hb).trans c0, (hw.cell (p := ⟨b, off + j * 4 + 1, none⟩) hb).trans c1, (hw.cell (p := ⟨b, off + j * 4 + 2, none⟩) hb).trans c2, (hw.cell (p := ⟨b, off + j * 4 + 3, none⟩) hb).trans c3⟩⟩
/-- A slice of descriptors that the call itself makes. -/
structure Ods (w : World) (B : Nat) (A : Option Addr) (n c : Nat) (xs : List (Dsc × Hd)) : Prop where
  ow : Ows w B 27 4 A n c (dcs xs)
  fl : ∀ x ∈ xs, Fl w x
theorem Ods.sds {w : World} {B : Nat} {A : Option Addr} {n c : Nat} {xs : List (Dsc × Hd)} (h : Ods w B A n c xs) : Sds w A n c xs := ⟨Sn.of_own h.ow, h.fl⟩
theorem Ods.below {w w' : World} {B : Nat} {A : Option Addr} {n c : Nat} {xs : List (Dsc × Hd)} (h : Ods w B A n c xs) (hb : Below w.heap.size w w') : Ods w' B A n c xs := ⟨h.ow.below hb, fun x hx => (h.fl x hx).next hb⟩
theorem Ods.nil (w : World) (B : Nat) : Ods w B none 0 0 [] := ⟨Ows.nil _ _ _ _, fun x hx => by cases hx⟩
theorem Ods.mono {w : World} {B B' : Nat} {A : Option Addr} {n c : Nat} {xs : List (Dsc × Hd)} (h : Ods w B A n c xs) (hB : B' ≤ B) : Ods w B' A n c xs := ⟨h.ow.mono hB, h.fl⟩
theorem Ods.len {w : World} {B : Nat} {A : Option Addr} {n c : Nat} {xs : List (Dsc × Hd)} (h : Ods w B A n c xs) : n = xs.length := h.sds.len
/-- A descriptor in a block of its own (a copy that the call holds). -/
def DBlk (w : World) (g : Nat) (d : Dsc) (h : Hd) : Prop := w.heap[g]? = some (.cells #[.int .u8 d.1, .int .u16 d.2.1, .int .u8 d.2.2.1, .slice h.1 h.2.1 h.2.2] 27 (0, 0))
section
variable {w w' : World} {g b : Nat} {d : Dsc} {h : Hd}
theorem DBlk.new (w : World) (d : Dsc) (h : Hd) : DBlk (w.alloc (.cells #[.int .u8 d.1, .int .u16 d.2.1, .int .u8 d.2.2.1, .slice h.1 h.2.1 h.2.2] 27)) w.heap.size d h := heap_alloc_new w _
theorem DBlk.lt (k : DBlk w g d h) : g < w.heap.size := (Array.getElem?_eq_some_iff.1 k).1
theorem DBlk.next (k : DBlk w g d h) (hb : Below w.heap.size w w') : DBlk w' g d h := (hb.block g k.lt).trans k
theorem DBlk.cells (k : DBlk w g d h) : w.cell? ⟨g, 0, none⟩ = some (.int .u8 d.1) ∧ w.cell? ⟨g, 1, none⟩ = some (.int .u16 d.2.1) ∧ w.cell? ⟨g, 2, none⟩ = some (.int .u8 d.2.2.1) ∧ w.cell? ⟨g, 3, none⟩ = some (.slice h.1 h.2.1 h.2.2) := by
  unfold DBlk at k; simp [World.cell?, k]
theorem DBlk.free (k : DBlk w g d h) : ∀ i, w.frozen? ⟨g, i, none⟩ = false := fun i => by unfold DBlk at k; simp [World.frozen?, k]
theorem DBlk.grown (k : DBlk w b d h) (hg : w.grownBy w' (some g)) (hne : b ≠ g) : DBlk w' b d h := (hg.block b k.lt (by simpa using hne)).trans k
theorem DBlk.put1 (k : DBlk w g d h) (v : Int) : DBlk (w.setCell ⟨g, 1, none⟩ (.int .u16 v)) g (d.1, v, d.2.2.1, d.2.2.2) h := Go.Joins.block_setCell (i := 1) k (.int .u16 v)
theorem DBlk.put2 (k : DBlk w g d h) (v : Int) : DBlk (w.setCell ⟨g, 2, none⟩ (.int .u8 v)) g (d.1, d.2.1, v, d.2.2.2) h := Go.Joins.block_setCell (i := 2) k (.int .u8 v)
theorem DBlk.put3 (k : DBlk w g d h) (h' : Hd) : DBlk (w.setCell ⟨g, 3, none⟩ (.slice h'.1 h'.2.1 h'.2.2)) g d h' := Go.Joins.block_setCell (i := 3) k (.slice h'.1 h'.2.1 h'.2.2)
end
theorem infoD : (Try.prog.info? 27).map (fun i => (i.zero, i.size, i.bytes)) = some (some (.agg #[.int .u8 0, .int .u16 0, .int .u8 0, .slice none 0 0]), 4, 32) := by kernel_rfl
def dscR (d : Dsc) : Prop := (0 ≤ d.1 ∧ d.1 ≤ 255) ∧ (0 ≤ d.2.1 ∧ d.2.1 ≤ 65535) ∧ (0 ≤ d.2.2.1 ∧ d.2.2.1 ≤ 255)
/-- What a call hands back: a slice of descriptors. -/
def GaveDs (ds : List Dsc) (w : World) (e : Ending) (w' : World) : Prop := ∃ (A : Option Addr) (n c : Nat) (xs : List (Dsc × Hd)), e = .returned (.slice A n c) ∧ xs.map (·.1) = ds ∧ Sds w' A n c xs ∧ Below w.heap.size w w'
end Go.Proofs.Ytdkchiodepdclaa
