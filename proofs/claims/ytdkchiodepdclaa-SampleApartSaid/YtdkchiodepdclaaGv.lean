/- Words for byte slices: a slice value that reads as a list of bytes, one that the call owns, and how both live on while memory grows. No program is named here. -/
import Derived.WalkKit
import Derived.WalkSpells
import Derived.Maps.AppendAt
import Derived.Deep.AppendLies
import Derived.Deep.Draws
import Derived.Laws.BytesArg
namespace Go.Proofs.Ytdkchiodepdclaa
open Go.RowKit

/-- A byte as a cell. -/
def Bv (u : UInt8) : Value := .int .u8 (u.toNat : Int)
theorem Bv_one (l : List UInt8) : ∀ u ∈ l.map Bv, u.oneCell' = true := by
  intro u hu
  obtain ⟨x, _, rfl⟩ := List.mem_map.1 hu
  rfl

/-- The slice value '.slice A n c' reads, in w, as the list xs of one-cell values; it leads below block k. -/
def Sv (w : World) (k : Nat) (A : Option Addr) (n c : Nat) (xs : List Value) : Prop :=
  n = xs.length ∧ n ≤ c ∧ c ≤ maxLen ∧
    (0 < n → ∃ b off, A = some ⟨b, off, none⟩ ∧ b < k ∧ ∀ j u, xs[j]? = some u → w.cell? ⟨b, off + j, none⟩ = some u)
/-- ... as the list l of bytes. -/
abbrev Sl (w : World) (k : Nat) (A : Option Addr) (n c : Nat) (l : List UInt8) : Prop := Sv w k A n c (l.map Bv)

section
variable {w w' : World} {k k' : Nat} {A : Option Addr} {n c : Nat} {xs : List Value}
theorem Sv.len (h : Sv w k A n c xs) : n = xs.length := h.1
theorem Sv.cap (h : Sv w k A n c xs) : n ≤ c := h.2.1
theorem Sv.max (h : Sv w k A n c xs) : c ≤ maxLen := h.2.2.1
theorem Sv.cast {n' : Nat} (h : Sv w k A n c xs) (e : n = n') : Sv w k A n' c xs := e ▸ h
theorem Sv.at_ (h : Sv w k A n c xs) (hn : 0 < n) : ∃ b off, A = some ⟨b, off, none⟩ ∧ b < k ∧ ∀ j u, xs[j]? = some u → w.cell? ⟨b, off + j, none⟩ = some u := h.2.2.2 hn
theorem Sv.keep (h : Sv w k A n c xs) (hk : ∀ p : Addr, p.block < k → w'.cell? p = w.cell? p) : Sv w' k A n c xs :=
  ⟨h.len, h.cap, h.max, fun hn => by
    obtain ⟨b, off, e, hb, hc⟩ := h.at_ hn
    exact ⟨b, off, e, hb, fun j u hu => (hk _ hb).trans (hc j u hu)⟩⟩
theorem Sv.more (h : Sv w k A n c xs) (hk : k ≤ k') : Sv w k' A n c xs :=
  ⟨h.len, h.cap, h.max, fun hn => by
    obtain ⟨b, off, e, hb, hc⟩ := h.at_ hn
    exact ⟨b, off, e, by omega, hc⟩⟩
theorem Sv.below (h : Sv w k A n c xs) (hb : Below k w w') : Sv w' k A n c xs := h.keep fun _ hp => hb.cell hp
theorem Sv.alloc (h : Sv w k A n c xs) (hk : k ≤ w.heap.size) (o : Obj) : Sv (w.alloc o) k A n c xs := h.keep fun p hp => World.cell?_alloc_lt w o p (by omega)
theorem Sv.drew (h : Sv w k A n c xs) : Sv w.drew k A n c xs := h
theorem Sv.drewN (h : Sv w k A n c xs) (m : Nat) : Sv (w.drewN m) k A n c xs := h
theorem Sv.nil (hk : xs = []) : Sv w k none 0 0 xs := ⟨by simp [hk], Nat.le_refl _, by simp [maxLen], fun h => absurd h (by omega)⟩
/-- 's[lo:]': the address is kept where nothing is left of the capacity. -/
theorem Sv.from_ (h : Sv w k A n c xs) {lo : Nat} (hl : lo ≤ n) : Sv w k (if c = lo then A else A.map (·.add lo)) (n - lo) (c - lo) (xs.drop lo) := by
  have h1 := h.len
  have h2 := h.cap
  have h3 := h.max
  refine ⟨by simp [h1], by omega, by omega, fun hn => ?_⟩
  · obtain ⟨b, off, e, hb, hc⟩ := h.at_ (by omega)
    refine ⟨b, off + lo, ?_, hb, fun j u hu => ?_⟩
    · rw [if_neg (by omega), e]
      simp only [Option.map_some, Addr.add]
      split <;> simp_all
    · rw [Nat.add_assoc]
      refine hc _ _ ?_
      rw [List.getElem?_drop] at hu
      exact hu
/-- 's[:hi]'. -/
theorem Sv.upto (h : Sv w k A n c xs) {hi : Nat} (hl : hi ≤ n) : Sv w k A hi c (xs.take hi) := by
  have h1 := h.len
  have h2 := h.cap
  refine ⟨by simp; omega, by omega, h.max, fun hn => ?_⟩
  obtain ⟨b, off, e, hb, hc⟩ := h.at_ (by omega)
  refine ⟨b, off, e, hb, fun j u hu => hc _ _ ?_⟩
  rw [List.getElem?_take] at hu
  split at hu
  · exact hu
  · cases hu
end

/-- A new block of one cell. -/
theorem Sv.one (w : World) (v : Value) (t : TypeId) : Sv (w.alloc (.cells #[v] t)) (w.heap.size + 1) (some ⟨w.heap.size, 0, none⟩) 1 1 [v] :=
  ⟨rfl, Nat.le_refl _, by simp [maxLen], fun _ => ⟨w.heap.size, 0, rfl, by omega, fun j u hu => by
    match j, hu with
    | 0, hu =>
      simp at hu
      subst hu
      simp⟩⟩

/-- A slice of the call's own: blocks from B on, elements of type E (one cell each). -/
abbrev Own (w : World) (B : Nat) (E : TypeId) (A : Option Addr) (n c : Nat) (xs : List Value) : Prop := w.ownsRow B E 1 (.slice A n c) n xs

theorem Own.sv {w : World} {B : Nat} {E : TypeId} {A : Option Addr} {n c : Nat} {xs : List Value} (h : Own w B E A n c xs) : Sv w w.heap.size A n c xs := by
  obtain ⟨h1, h2⟩ := h
  rcases h2 with ⟨hv, hn⟩ | ⟨g, cap, cur, hv, hB, hg, hn, hc, hs, ht⟩
  · injection hv with a b c
    subst a b c
    exact Sv.nil (List.eq_nil_of_length_eq_zero (by simpa using h1))
  · injection hv with a b c
    subst a c
    have hlt : g < w.heap.size := (Array.getElem?_eq_some_iff.1 hg).1
    refine ⟨by simpa using h1.symm, hn, hc, fun _ => ⟨g, 0, rfl, hlt, fun j u hu => ?_⟩⟩
    have hj : j < n := by
      rcases Nat.lt_or_ge j n with h | h
      · exact h
      · rw [List.getElem?_eq_none (by simpa [h1] using h)] at hu; cases hu
    rw [Nat.zero_add, cell_of_row w g j cur E (0, 0) hg]
    rw [← ht, List.getElem?_take] at hu
    split at hu
    · simpa using hu
    · cases hu

theorem sl_len {w : World} {k : Nat} {A : Option Addr} {n c : Nat} {l : List UInt8} (h : Sl w k A n c l) : n = l.length := by simpa using h.len
/-- 's[lo:]', the address left unsaid: what the walk is told. -/
theorem Sv.tail {P : Program} {w : World} {k : Nat} {A : Option Addr} {n c : Nat} {xs : List Value} (h : Sv w k A n c xs) {lo : Nat} (hl : lo ≤ n) (t E : TypeId) (ht : P.underlying t = some (.slice E)) (he : P.elem t = E) (hs : ∀ w' : World, (sizeOf E).run P w' = .ok 1 w') (kl : IntKind) (x : Int) (hx : x = (lo : Int)) :
    ∃ A2, (∀ w' : World, (Instr.slice t (.slice A n c) (some (.int kl x)) none none).run P w' = .ok (.slice A2 (n - lo) (c - lo)) w') ∧ Sv w k A2 (n - lo) (c - lo) (xs.drop lo) := by
  refine ⟨_, fun w' => ?_, h.from_ hl⟩
  subst he hx
  rw [run_slice_l (P := P) w' t A n c ht kl (lo : Int) (by omega) (by omega), hs w']
  simp [Result.andThen, sliced]
/-- 's[lo:hi]', within what is read. -/
theorem Sv.mid {P : Program} {w : World} {k : Nat} {A : Option Addr} {n c : Nat} {xs : List Value} (h : Sv w k A n c xs) {lo hi : Nat} (hl : lo ≤ hi) (hh : hi ≤ n) (t E : TypeId) (ht : P.underlying t = some (.slice E)) (he : P.elem t = E) (hs : ∀ w' : World, (sizeOf E).run P w' = .ok 1 w') (kl kh : IntKind) (x y : Int) (hx : x = (lo : Int)) (hy : y = (hi : Int)) :
    ∃ A2, (∀ w' : World, (Instr.slice t (.slice A n c) (some (.int kl x)) (some (.int kh y)) none).run P w' = .ok (.slice A2 (hi - lo) (c - lo)) w') ∧ Sv w k A2 (hi - lo) (c - lo) ((xs.take hi).drop lo) := by
  refine ⟨_, fun w' => ?_, (h.upto hh).from_ hl⟩
  have hc := h.cap
  subst he hx hy
  rw [run_slice_lh (P := P) w' t A n c ht kl kh (lo : Int) (hi : Int) (by omega) (by omega) (by omega), hs w']
  simp [Result.andThen, sliced]
theorem Sv.next {w w' : World} {A : Option Addr} {n c : Nat} {xs : List Value} (h : Sv w w.heap.size A n c xs) (hb : Below w.heap.size w w') : Sv w' w'.heap.size A n c xs := (h.below hb).more hb.size
theorem thn {w w1 w2 : World} (h : Below w.heap.size w w1) (h' : Below w1.heap.size w1 w2) : Below w.heap.size w w2 := h.trans (h'.mono h.size)
theorem dN {w w1 : World} {B : Nat} (h : Below B w w1) (m : Nat) : Below B w (w1.drewN m) := ⟨h.os, h.tape, h.output, h.size, h.block⟩

/-- 'string(b)'. -/
theorem run_str {P : Program} {w : World} {k : Nat} {A : Option Addr} {n c : Nat} {l : List UInt8} (src dst e : TypeId) (hs : P.underlying src = some (.slice e)) (he : P.underlying e = some (.int .u8)) (hd : P.underlying dst = some .string)
    (h : Sl w k A n c l) : (convert src dst (.slice A n c)).run P w = .ok (.string ⟨l.toArray⟩) w := by
  have hl : n = l.length := by simpa using h.len
  have key : ∀ b off, A = some ⟨b, off, none⟩ → (∀ j u, (l.map Bv)[j]? = some u → w.cell? ⟨b, off + j, none⟩ = some u) → (convert src dst (.slice A n c)).run P w = .ok (.string ⟨l.toArray⟩) w := by
    rintro b off rfl hc
    have := run_convert_bytes_arg (P := P) w src e hs he b off n c (l.map fun u => (u.toNat : Int)) (by simp [hl]) (fun i hi => by
      have hil : i < l.length := by omega
      rw [hc i (Bv l[i]) (by simp [List.getElem?_eq_getElem hil])]
      simp [Bv, List.getD, List.getElem?_eq_getElem hil]) dst hd
    rw [this]
    congr 3
    simp [strOfNums, Function.comp_def]
  rcases Nat.eq_zero_or_pos n with h0 | h0
  · have hnil : l = [] := List.eq_nil_of_length_eq_zero (by omega)
    subst hnil
    cases A with
    | none => subst h0; exact run_convert_bytes_nil w src e hs he 0 c dst hd
    | some a =>
      subst h0
      rw [run_convert_bytes_string w src dst e _ 0 c hs he hd, run_bytesToString w a 0 c [] (by simp [loadCells, loadCellsFrom])]
      rfl
  · obtain ⟨b, off, e1, _, hc⟩ := h.at_ h0
    exact key b off e1 hc

/-- Every memory that a walk knows, each with the list that it reads. -/
def Env (w : World) (L : List (Option Addr × Nat × Nat × List Value)) : Prop := ∀ x ∈ L, Sv w w.heap.size x.1 x.2.1 x.2.2.1 x.2.2.2
section
variable {w w' : World} {L : List (Option Addr × Nat × Nat × List Value)} {x : Option Addr × Nat × Nat × List Value} {A : Option Addr} {n c : Nat} {xs : List Value}
theorem Env.nil (w : World) : Env w [] := fun _ h => by cases h
theorem Env.add (h : Env w L) (hs : Sv w w.heap.size A n c xs) : Env w ((A, n, c, xs) :: L) := fun x hx => by
  rcases List.mem_cons.1 hx with rfl | hx
  · exact hs
  · exact h x hx
theorem Env.hd (h : Env w ((A, n, c, xs) :: L)) : Sv w w.heap.size A n c xs := h _ List.mem_cons_self
theorem Env.tl (h : Env w (x :: L)) : Env w L := fun y hy => h y (List.mem_cons_of_mem _ hy)
theorem Env.next (h : Env w L) (hb : Below w.heap.size w w') : Env w' L := fun x hx => (h x hx).next hb
theorem Env.of (h : Env w L) (hm : (A, n, c, xs) ∈ L) : Sv w w.heap.size A n c xs := h _ hm
end
theorem Own.cast_n {w : World} {B : Nat} {E : TypeId} {A : Option Addr} {n m c : Nat} {xs : List Value} (h : Own w B E A n c xs) (hm : m = n := by first | rfl | omega | (simp; done) | (simp; omega)) : Own w B E A m c xs := hm ▸ h
theorem Own.lit0 (w : World) (E : TypeId) : Own (w.alloc (.cells #[] E)) w.heap.size E (some ⟨w.heap.size, 0, none⟩) 0 0 [] := World.ownsRow_made w #[] 0 (Nat.le_refl _) (by simp [maxLen]) rfl
/-- A slice written out: a new block. -/
theorem Sv.lit (w : World) (cs : Array Value) (t : TypeId) (fr : Nat × Nat) (n : Nat) (hn : cs.size = n) (hm : n ≤ maxLen) : Sv (w.alloc (.cells cs t fr)) (w.heap.size + 1) (some ⟨w.heap.size, 0, none⟩) n n cs.toList :=
  ⟨by simp [hn], Nat.le_refl _, hm, fun _ => ⟨w.heap.size, 0, rfl, by omega, fun j u hu => by
    rw [Nat.zero_add, cell_of_row _ _ j cs t fr (heap_alloc_new w _)]
    simpa using hu⟩⟩
theorem Sl.lit (w : World) {cs : Array Value} (t : TypeId) (fr : Nat × Nat) {n : Nat} {l : List UInt8} (hl : cs.toList = l.map Bv) (hn : l.length = n) (hm : n ≤ 1000000) : Sl (w.alloc (.cells cs t fr)) (w.alloc (.cells cs t fr)).heap.size (some ⟨w.heap.size, 0, none⟩) n n l := by
  have hs : cs.size = n := by rw [← Array.length_toList, hl]; simpa using hn
  have := Sv.lit w cs t fr n hs (by simp only [maxLen]; omega)
  rw [hl] at this
  simpa using this
theorem below_lit (w : World) (o : Obj) : Below w.heap.size w (w.alloc o) := (Below.refl _ _).alloc (Nat.le_refl _) o

theorem Own.lt {w : World} {B : Nat} {E : TypeId} {A : Option Addr} {n c : Nat} {xs : List Value} (h : Own w B E A n c xs) : ∀ k, Value.ownBlock (.slice A n c) = some k → B ≤ k := fun k hk => (World.ownsRow.lt h k hk).1
theorem Own.nil (w : World) (B : Nat) (E : TypeId) : Own w B E none 0 0 [] := World.ownsRow_nil _ _ _ _
theorem Own.mono {w : World} {B B' : Nat} {E : TypeId} {A : Option Addr} {n c : Nat} {xs : List Value} (h : Own w B E A n c xs) (hB : B' ≤ B) : Own w B' E A n c xs := by
  obtain ⟨h1, h2⟩ := h
  refine ⟨h1, ?_⟩
  rcases h2 with h2 | ⟨g, cap, cur, hv, hg, r⟩
  · exact .inl h2
  · exact .inr ⟨g, cap, cur, hv, by omega, r⟩
/-- Blocks made later do not touch what is owned. -/
theorem Own.below {w w' : World} {B : Nat} {E : TypeId} {A : Option Addr} {n c : Nat} {xs : List Value} (h : Own w B E A n c xs) (hb : Below w.heap.size w w') : Own w' B E A n c xs := by
  obtain ⟨h1, h2⟩ := h
  refine ⟨h1, ?_⟩
  rcases h2 with h2 | ⟨g, cap, cur, hv, hg, hh, r⟩
  · exact .inl h2
  · exact .inr ⟨g, cap, cur, hv, hg, by rw [hb.block g (Array.getElem?_eq_some_iff.1 hh).1]; exact hh, r⟩

theorem wpList_want {P : Program} {ops : Array Oper} {rest : List Oper} {o : Oper} {a : Act} {w : World} {Q : Exit → Act → World → Prop} (hgd : Region.wanted o (yielded ops a.tmps) = true)
    (h : ∀ K : Act → World → Prop, (∀ a w, wpList P ops Q rest a w → K a w) → o.wp P a w K Q) : wpList P ops Q (o :: rest) a w :=
  wpList_step fun K hK => by simp only [hgd, if_true]; exact h K hK
/-- One operation whose run is known. -/
theorem wpList_run {P : Program} {ops : Array Oper} {rest : List Oper} {o : Oper} {a : Act} {w w' : World} {v : Value} {Q : Exit → Act → World → Prop} (hgd : Region.wanted o (yielded ops a.tmps) = true)
    (hr : (execOp a.eval o).run P w = .ok (.value v) w') (h : wpList P ops Q rest (a.put o.dst v) w') : wpList P ops Q (o :: rest) a w :=
  wpList_want hgd fun K hK => by
    unfold Oper.wp
    rw [hr]
    exact hK _ _ h

section
variable {P : Program} {ops : Array Oper} {rest : List Oper} {o : Oper} {a : Act} {w : World} {Q : Exit → Act → World → Prop}

/-- 'append(s, x...)' onto a slice of the call's own, the source wherever it lies. -/
theorem wpList_app (hgd : Region.wanted o (yielded ops a.tmps) = true) (s x : Operand) (t : TypeId) (ho : o.op = .call { callee := .builtin .append, args := #[s, x], argTypes := #[t, t] })
    {E : TypeId} {z : Value} {by_ : Nat} (ht : P.underlying t = some (.slice E)) (hE : (P.info? E).map (fun i => (i.zero, i.size, i.bytes)) = some (some z, 1, by_)) (hz : z.cells.size = 1)
    {B : Nat} {A : Option Addr} {n c : Nat} {xs : List Value} (hs : a.eval s = .slice A n c) (hown : Own w B E A n c xs)
    {k : Nat} {A' : Option Addr} {m c' : Nat} {ys : List Value} (hx : a.eval x = .slice A' m c') (hsv : Sv w k A' m c' ys) (h1 : ∀ u ∈ ys, u.oneCell' = true)
    (hb : (n + m) * by_ ≤ 140737488355328) (hby : 1 ≤ by_) (hB : B ≤ w.heap.size)
    (h : ∀ (A2 : Option Addr) (c2 : Nat) (w' : World), Own w' B E A2 (n + m) c2 (xs ++ ys) → w.grownBy w' (Value.ownBlock (.slice A n c)) → wpList P ops Q rest (a.put o.dst (.slice A2 (n + m) c2)) w') :
    wpList P ops Q (o :: rest) a w := by
  obtain ⟨i, hi, hz0, hz1, hz2⟩ := info_parts hE
  have hlen := hsv.len
  have hmax : n + m ≤ maxLen := by
    have : (n + m) * 1 ≤ (n + m) * by_ := Nat.mul_le_mul_left _ hby
    simp only [maxLen]
    omega
  have shape : ∀ (v' : Value) (w' : World), w'.ownsRow B E 1 v' (n + m) (xs ++ ys) → ∃ A2 c2, v' = .slice A2 (n + m) c2 := by
    rintro v' w' ⟨_, ⟨rfl, h0⟩ | ⟨g, cap, cur, rfl, _⟩⟩
    · exact ⟨none, 0, by rw [h0]⟩
    · exact ⟨_, _, rfl⟩
  rcases Nat.eq_zero_or_pos m with hm | hm
  · subst hm
    have hys : ys = [] := List.eq_nil_of_length_eq_zero hlen.symm
    subst hys
    have hrun : (Builtin.append_ #[t, t] o.type #[.slice A n c, .slice A' 0 c']).run P w = .ok (.slice A n c) w := by
      rcases hown.2 with ⟨hv, h0⟩ | ⟨g, cap, cur, hv, _, hg, hnc, _⟩
      · injection hv with e1 e2 e3
        subst e1 e2 e3
        cases A' <;> simp [Builtin.append_, run_underlying ht, sizeOf, typeInfo, hi, Builtin.lenOf, Builtin.firstCells, loadCells, loadCellsFrom]
      · injection hv with e1 e2 e3
        subst e1 e3
        cases A' <;> simp [Builtin.append_, run_underlying ht, sizeOf, typeInfo, hi, Builtin.lenOf, Builtin.firstCells, hnc, storeCells, loadCells, loadCellsFrom]
    refine wpList_run hgd (v := .slice A n c) (w' := w) ?_ ?_
    · unfold execOp
      simp only [ho, resolve, invoke, builtin, Sem.run_bind, Sem.run_pure, Result.andThen_ok, List.map_toArray, List.map_cons, List.map_nil, hs, hx, hrun]
    · simpa using h A c w (by simpa using hown) (World.grownBy.refl w _)
  · obtain ⟨b, off, rfl, _, hc⟩ := hsv.at_ hm
    refine wpList_want hgd fun K hK => ?_
    obtain ⟨v', w', hr, h2, h3, h4⟩ := run_append_own (P := P) w B t o.type E i z 1 by_ ht hi hz0 hz1 hz2 hz (by decide) (.slice A n c) n xs hown ⟨b, off, none⟩ m c' ys (by omega)
      (fun j u hu => by rw [Addr.add_lit]; exact hc j u hu) h1 hmax hb hB
    unfold Oper.wp execOp
    simp only [ho, resolve, invoke, builtin, Sem.run_bind, Sem.run_pure, Result.andThen_ok, List.map_toArray, List.map_cons, List.map_nil, hs, hx, hr]
    obtain ⟨A2, c2, rfl⟩ := shape v' w' h2
    exact hK _ _ (h A2 c2 w' h2 h3)

/-- ... and what was appended to reads as it did. -/
theorem append_keeps {t ty E : TypeId} {z : Value} {by_ : Nat} (ht : P.underlying t = some (.slice E)) (hE : (P.info? E).map (fun i => (i.zero, i.size, i.bytes)) = some (some z, 1, by_))
    {B : Nat} {A : Option Addr} {n c : Nat} {xs : List Value} (hown : Own w B E A n c xs) {b off m c' : Nat} {ys : List Value} (hm : ys.length = m) (hc : ∀ j u, ys[j]? = some u → w.cell? ⟨b, off + j, none⟩ = some u) (h1 : ∀ u ∈ ys, u.oneCell' = true)
    (h63 : n + m ≤ maxLen) (hb : (n + m) * by_ ≤ 140737488355328) {v' : Value} {w' : World} (hr : (Builtin.append_ #[t, t] ty #[.slice A n c, .slice (some ⟨b, off, none⟩) m c']).run P w = .ok v' w') : Own w' B E A n c xs := by
  obtain ⟨i, hi, hz0, hz1, hz2⟩ := info_parts hE
  simp only [maxLen] at h63
  have hl : ys.length = m * i.size := by rw [hz1, hm, Nat.mul_one]
  have hnews : ∀ j u, ys[j]? = some u → w.cell? ((⟨b, off, none⟩ : Addr).add j) = some u := fun j u hu => by rw [Addr.add_lit]; exact hc j u hu
  refine ⟨hown.1, ?_⟩
  rcases hown.2 with h0 | ⟨g, cap, cur, hv, hB, hg, hnc, hcm, hcs, htake⟩
  · exact .inl h0
  · injection hv with e1 e2 e3
    subst e1 e3
    by_cases hroom : n + m ≤ c
    · have hfit : n * i.size + ys.length ≤ cur.size := by rw [hl, hcs, hz1, ← Nat.add_mul]; exact Nat.mul_le_mul_right _ hroom
      have hr2 := run_append_room (P := P) w t ty E i ht hi g n c cur hg ⟨b, off, none⟩ m c' ys hl hnews h1 hroom hfit
      rw [hr] at hr2
      injection hr2 with _ hw
      subst hw
      refine .inr ⟨g, c, _, rfl, hB, setRow_heap w g cur _ E _ hg, hnc, hcm, ?_, ?_⟩
      · simp only [List.size_toArray, List.length_append, List.length_take, List.length_drop, Array.length_toList]
        omega
      · rw [hz1] at *
        have hx : n * 1 ≤ cur.toList.length := by simp only [Array.length_toList]; omega
        rw [List.append_assoc, List.take_append_of_le_length (by rw [List.length_take]; omega), List.take_take, Nat.min_self, htake]
    · have holds : ∀ j u, xs[j]? = some u → w.cell? ((⟨g, 0, none⟩ : Addr).add j) = some u := hown.cells (g := g) rfl
      have hr2 := run_append_grow (P := P) w t ty E i z ht hi hz0 ⟨g, 0, none⟩ n c xs (by rw [hz1]; exact hown.1) holds ⟨b, off, none⟩ m c' ys hl hnews (by omega) (by omega) (growslice_fits (by omega) (by rw [hz2]; exact hb))
      rw [hr] at hr2
      injection hr2 with _ hw
      subst hw
      exact .inr ⟨g, c, cur, rfl, hB, by rw [heap_alloc_old w.drew _ (Array.getElem?_eq_some_iff.1 hg).1]; exact hg, hnc, hcm, hcs, htake⟩
theorem wpList_app2 (hgd : Region.wanted o (yielded ops a.tmps) = true) (s x : Operand) (t : TypeId) (ho : o.op = .call { callee := .builtin .append, args := #[s, x], argTypes := #[t, t] })
    {E : TypeId} {z : Value} {by_ : Nat} (ht : P.underlying t = some (.slice E)) (hE : (P.info? E).map (fun i => (i.zero, i.size, i.bytes)) = some (some z, 1, by_)) (hz : z.cells.size = 1)
    {B : Nat} {A : Option Addr} {n c : Nat} {xs : List Value} (hs : a.eval s = .slice A n c) (hown : Own w B E A n c xs)
    {k : Nat} {A' : Option Addr} {m c' : Nat} {ys : List Value} (hx : a.eval x = .slice A' m c') (hsv : Sv w k A' m c' ys) (h1 : ∀ u ∈ ys, u.oneCell' = true) (hm : 0 < m)
    (hb : (n + m) * by_ ≤ 140737488355328) (hby : 1 ≤ by_) (hB : B ≤ w.heap.size)
    (h : ∀ (A2 : Option Addr) (c2 : Nat) (w' : World), Own w' B E A2 (n + m) c2 (xs ++ ys) → Own w' B E A n c xs → w.grownBy w' (Value.ownBlock (.slice A n c)) → wpList P ops Q rest (a.put o.dst (.slice A2 (n + m) c2)) w') :
    wpList P ops Q (o :: rest) a w := by
  obtain ⟨i, hi, hz0, hz1, hz2⟩ := info_parts hE
  have hlen := hsv.len
  have hmax : n + m ≤ maxLen := by
    have : (n + m) * 1 ≤ (n + m) * by_ := Nat.mul_le_mul_left _ hby
    simp only [maxLen]
    omega
  obtain ⟨b, off, rfl, _, hc⟩ := hsv.at_ hm
  refine wpList_want hgd fun K hK => ?_
  obtain ⟨v', w', hr, h2, h3, h4⟩ := run_append_own (P := P) w B t o.type E i z 1 by_ ht hi hz0 hz1 hz2 hz (by decide) (.slice A n c) n xs hown ⟨b, off, none⟩ m c' ys (by omega)
    (fun j u hu => by rw [Addr.add_lit]; exact hc j u hu) h1 hmax hb hB
  have hkeep := append_keeps ht hE hown hlen.symm hc h1 hmax hb hr
  have shape : ∃ A2 c2, v' = .slice A2 (n + m) c2 := by
    obtain ⟨_, ⟨rfl, h0⟩ | ⟨g, cap, cur, rfl, _⟩⟩ := h2
    · exact ⟨none, 0, by rw [h0]⟩
    · exact ⟨_, _, rfl⟩
  obtain ⟨A2, c2, rfl⟩ := shape
  unfold Oper.wp execOp
  simp only [ho, resolve, invoke, builtin, Sem.run_bind, Sem.run_pure, Result.andThen_ok, List.map_toArray, List.map_cons, List.map_nil, hs, hx, hr]
  exact hK _ _ (h A2 c2 w' h2 hkeep h3)

/-- 'make([]T, 0, C)'. -/
theorem wpList_mk (hgd : o.guard = none) (lo up : Operand) (t : TypeId) (ho : o.op = Op.makeSlice t lo up)
    {E : TypeId} {z : Value} {by_ : Nat} (ht : P.underlying t = some (.slice E)) (hE : (P.info? E).map (fun i => (i.zero, i.size, i.bytes)) = some (some z, 1, by_))
    {kl kc : IntKind} {C : Int} (hl : a.eval lo = .int kl 0) (hc : a.eval up = .int kc C) {B : Nat} (hB : B ≤ w.heap.size) (h0 : 0 ≤ C) (hb : C * by_ ≤ 281474976710656) (hby : 1 ≤ by_)
    (h : ∀ (A2 : Option Addr) (w' : World), Own w' B E A2 0 C.toNat [] → w.grownBy w' none → wpList P ops Q rest (a.put o.dst (.slice A2 0 C.toNat)) w') :
    wpList P ops Q (o :: rest) a w := by
  obtain ⟨i, hi, hz0, hz1, hz2⟩ := info_parts hE
  obtain ⟨m, rfl⟩ := Int.eq_ofNat_of_zero_le h0
  have hb' : by_ * m ≤ 281474976710656 := by
    have : ((m * by_ : Nat) : Int) ≤ 281474976710656 := by rw [Int.natCast_mul]; exact hb
    rw [Nat.mul_comm]; omega
  have hmax : m ≤ maxLen := by
    have : 1 * m ≤ by_ * m := Nat.mul_le_mul_right _ hby
    simp only [maxLen]; omega
  exact wpList_make_own w hgd lo up t ho B E i z 1 ht hi hz0 hz1 kl kc _ m hl hc rfl (by rw [hz2]; exact hb') hmax hB fun w' h1 h2 => h _ w' h1 h2
end

/-- What a shell says of bytes that came in. -/
theorem sl_of_row {w : World} {a : Option Addr} {len cap : Nat} {zs : List Int} (h : (a = none ∧ len = 0 ∧ cap = 0 ∧ zs = []) ∨
    ∃ x, a = some x ∧ len ≤ cap ∧ cap ≤ maxLen ∧ zs.length = cap ∧ (∀ i, i < zs.length → w.cell? (x.add i) = some (.int .u8 (zs.getD i 0))) ∧ ∀ n ∈ zs, (Lit.int .u8 n).wf = true) : ∃ l : List UInt8, Sl w w.heap.size a len cap l := by
  rcases h with ⟨rfl, rfl, rfl, rfl⟩ | ⟨x, rfl, hl, hm, hz, hc, hw⟩
  · exact ⟨[], Sv.nil rfl⟩
  · refine ⟨(zs.take len).map (fun n => UInt8.ofNat n.toNat), by simp; omega, hl, hm, fun hn => ?_⟩
    have c0 := hc 0 (by omega)
    obtain ⟨b, off, spot⟩ := x
    have hspot : spot = none := by simpa [Addr.add] using World.cell?_spot c0
    subst hspot
    refine ⟨b, off, rfl, ?_, fun j u hu => ?_⟩
    · simpa [Addr.add] using World.block_lt_of_cell? w _ c0
    · have hj : j < zs.length := by
        rcases Nat.lt_or_ge j zs.length with h | h
        · exact h
        · rw [List.getElem?_eq_none (by simp; omega)] at hu; cases hu
      have hjl : j < len := by
        rcases Nat.lt_or_ge j len with h | h
        · exact h
        · rw [List.getElem?_eq_none (by simp; omega)] at hu; cases hu
      have := hc j hj
      rw [Addr.add_lit] at this
      rw [this]
      have hwf := hw zs[j] (List.getElem_mem hj)
      simp only [List.getElem?_map, List.getElem?_take, hjl, if_true, List.getElem?_eq_getElem hj, Option.map_some] at hu
      injection hu with hu
      rw [← hu]
      simp only [Bv, List.getD, List.getElem?_eq_getElem hj, Option.getD_some]
      simp only [Lit.wf, IntKind.min, IntKind.max, IntKind.bits, IntKind.signed, Bool.and_eq_true] at hwf
      have h0 : 0 ≤ zs[j] ∧ zs[j] < 256 := by simp at hwf; omega
      congr 2
      rw [UInt8.toNat_ofNat']
      omega

/-- From a number's fit to its bounds. -/
theorem wf_u64 {n : Int} (h : (Lit.int .u64 n).wf = true) : 0 ≤ n ∧ n ≤ 18446744073709551615 := by
  simp [Lit.wf, IntKind.min, IntKind.max, IntKind.bits, IntKind.signed] at h; omega
theorem wf_i64 {n : Int} (h : (Lit.int .i64 n).wf = true) : -9223372036854775808 ≤ n ∧ n ≤ 9223372036854775807 := by
  simp [Lit.wf, IntKind.min, IntKind.max, IntKind.bits, IntKind.signed] at h; omega
theorem wf_i32 {n : Int} (h : (Lit.int .i32 n).wf = true) : -2147483648 ≤ n ∧ n ≤ 2147483647 := by
  simp [Lit.wf, IntKind.min, IntKind.max, IntKind.bits, IntKind.signed] at h; omega
theorem wf_u32 {n : Int} (h : (Lit.int .u32 n).wf = true) : 0 ≤ n ∧ n ≤ 4294967295 := by
  simp [Lit.wf, IntKind.min, IntKind.max, IntKind.bits, IntKind.signed] at h; omega
theorem wf_u16 {n : Int} (h : (Lit.int .u16 n).wf = true) : 0 ≤ n ∧ n ≤ 65535 := by
  simp [Lit.wf, IntKind.min, IntKind.max, IntKind.bits, IntKind.signed] at h; omega
theorem wf_u8 {n : Int} (h : (Lit.int .u8 n).wf = true) : 0 ≤ n ∧ n ≤ 255 := by
  simp [Lit.wf, IntKind.min, IntKind.max, IntKind.bits, IntKind.signed] at h; omega
end Go.Proofs.Ytdkchiodepdclaa
