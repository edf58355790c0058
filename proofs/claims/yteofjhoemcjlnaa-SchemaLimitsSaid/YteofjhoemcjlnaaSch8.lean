/- Layer 3: copies, events. -/
import Derived.Test.YteofjhoemcjlnaaSch7
namespace Go.Proofs.Yteofjhoemcjlnaa
open Go.RowKit
set_option linter.unusedVariables false
def GaveB (l : List UInt8) (w : World) (e : Ending) (w' : World) : Prop := ∃ A c, e = .returned (.slice A l.length c) ∧ Own w' w.heap.size 5 A l.length c (l.map Bv) ∧ Below w.heap.size w w'
theorem gaveB_of {w w' : World} {A : Option Addr} {n c : Nat} {l : List UInt8} (o : Own w' w.heap.size 5 A n c (l.map Bv)) (hb : Below w.heap.size w w') {e : Ending} (he : e = .returned (.slice A n c)) : GaveB l w e w' := by
  have hl : n = l.length := by have := o.1; simpa using this.symm
  subst hl
  exact ⟨A, c, he, o, hb⟩
theorem gaveI_of {w w' : World} {A : Option Addr} {n c : Nat} {l : List Int} (o : Own w' w.heap.size 21 A n c (Nl .i32 l)) (hb : Below w.heap.size w w') {e : Ending} (he : e = .returned (.slice A n c)) : GaveI l w e w' := by
  have hl : n = l.length := by have := o.1; simpa [Nl] using this.symm
  subst hl
  exact ⟨A, c, he, o, hb⟩
theorem bclone_any (A : Option Addr) (n c k : Nat) (l : List UInt8) (w : World) (h : Sl w k A n c l) (hk : k ≤ w.heap.size) (hn : n ≤ 1000000) :
    Calls Try.prog 27 #[.slice A n c] w (GaveB l w) := by
  have HL := sl_len h
  cases A with
  | none =>
    have hl : l = [] := by
      rcases Nat.eq_zero_or_pos n with h0 | h0
      · exact List.eq_nil_of_length_eq_zero (by omega)
      · obtain ⟨_, _, e, _⟩ := h.at_ h0; cases e
    subst hl
    obtain rfl : n = 0 := HL
    have hnil := fun w' : World => Lib.run_eql_slice_nil (P := Try.prog) w' 29 5 none 0 c 0 0 Try.underlying29
    go_enter Try.func27, Try.ntmps27
    go_wp2
    go_ret
    exact ⟨none, 0, rfl, Own.nil _ _ _, Below.refl _ _⟩
  | some a =>
    clear HL
    have hnil := fun w' : World => Lib.run_eql_slice_nil (P := Try.prog) w' 29 5 (some a) n c 0 0 Try.underlying29
    go_enter Try.func27, Try.ntmps27
    go_wp2_with (at_builtin; go_must (refine wpList_app rfl _ _ 29 rfl Try.underlying29 infoU8 rfl rfl (Own.lit0 _ 5) rfl (h.alloc hk _) (Bv_one _) (by omega) (by decide) (by simp) ?_); intro A1 c1 w1 o1 g1)
    go_ret
    rw [Nat.zero_add, List.nil_append] at o1
    exact gaveB_of (o1.mono (by simp)) (((Below.refl _ _).alloc (Nat.le_refl _) _).grown g1 (by simp) (Own.lit0 _ 5).lt) rfl
theorem iclone_any (A : Option Addr) (n c k : Nat) (l : List Int) (w : World) (h : Si w k A n c l) (hk : k ≤ w.heap.size) (hn : n ≤ 1000000) :
    Calls Try.prog 26 #[.slice A n c] w (GaveI l w) := by
  have HL := si_len h
  cases A with
  | none =>
    have hl : l = [] := by
      rcases Nat.eq_zero_or_pos n with h0 | h0
      · exact List.eq_nil_of_length_eq_zero (by omega)
      · obtain ⟨_, _, e, _⟩ := h.at_ h0; cases e
    subst hl
    obtain rfl : n = 0 := HL
    have hnil := fun w' : World => Lib.run_eql_slice_nil (P := Try.prog) w' 28 21 none 0 c 0 0 Try.underlying28
    go_enter Try.func26, Try.ntmps26
    go_wp2
    go_ret
    exact ⟨none, 0, rfl, Own.nil _ _ _, Below.refl _ _⟩
  | some a =>
    clear HL
    have hnil := fun w' : World => Lib.run_eql_slice_nil (P := Try.prog) w' 28 21 (some a) n c 0 0 Try.underlying28
    go_enter Try.func26, Try.ntmps26
    go_wp2_with (at_builtin; go_must (refine wpList_app rfl _ _ 28 rfl Try.underlying28 infoI32 rfl rfl (Own.lit0 _ 21) rfl (h.alloc hk _) (Nl_one _ _) (by omega) (by decide) (by simp) ?_); intro A1 c1 w1 o1 g1)
    go_ret
    rw [Nat.zero_add, List.nil_append] at o1
    exact gaveI_of (o1.mono (by simp)) (((Below.refl _ _).alloc (Nat.le_refl _) _).grown g1 (by simp) (Own.lit0 _ 21).lt) rfl

/-- What an event is. -/
theorem ev_cells {w : World} {g : Nat} {a b c d e : Value} {t : TypeId} (h : w.heap[g]? = some (.cells #[a, b, c, d, e] t (0, 0))) : w.cell? ⟨g, 0, none⟩ = some a ∧ w.cell? ⟨g, 1, none⟩ = some b ∧ w.cell? ⟨g, 2, none⟩ = some c ∧ w.cell? ⟨g, 3, none⟩ = some d ∧ w.cell? ⟨g, 4, none⟩ = some e := by
  simp [World.cell?, h]
theorem ev_free {w : World} {g : Nat} {cs : Array Value} {t : TypeId} (h : w.heap[g]? = some (.cells cs t (0, 0))) : ∀ i, w.frozen? ⟨g, i, none⟩ = false := fun i => by simp [World.frozen?, h]
structure Ev where
  node : Int
  inc : Int
  seq : Int
  xs : List Int
  l : List UInt8
/-- The value v is an event whose lists read so. -/
def EvR (w : World) (v : Value) (e : Ev) : Prop := ∃ V vn vc D dn dc, v = .agg #[.int .u8 e.node, .int .u16 e.inc, .int .u32 e.seq, .slice V vn vc, .slice D dn dc] ∧ Si w w.heap.size V vn vc e.xs ∧ Sl w w.heap.size D dn dc e.l
/-- ... whose lists are the call's own, from block B on. -/
def EvO (w : World) (B : Nat) (v : Value) (e : Ev) : Prop := ∃ V vc D dc, v = .agg #[.int .u8 e.node, .int .u16 e.inc, .int .u32 e.seq, .slice V e.xs.length vc, .slice D e.l.length dc] ∧ Own w B 21 V e.xs.length vc (Nl .i32 e.xs) ∧ Own w B 5 D e.l.length dc (e.l.map Bv)
theorem EvR.next {w w' : World} {v : Value} {e : Ev} (h : EvR w v e) (hb : Below w.heap.size w w') : EvR w' v e := by
  obtain ⟨V, vn, vc, D, dn, dc, hv, h1, h2⟩ := h
  exact ⟨V, vn, vc, D, dn, dc, hv, h1.next hb, h2.next hb⟩
theorem EvO.next {w w' : World} {B : Nat} {v : Value} {e : Ev} (h : EvO w B v e) (hb : Below w.heap.size w w') : EvO w' B v e := by
  obtain ⟨V, vc, D, dc, hv, h1, h2⟩ := h
  exact ⟨V, vc, D, dc, hv, h1.below hb, h2.below hb⟩
theorem EvO.reads {w : World} {B : Nat} {v : Value} {e : Ev} (h : EvO w B v e) : EvR w v e := by
  obtain ⟨V, vc, D, dc, hv, h1, h2⟩ := h
  exact ⟨V, _, vc, D, _, dc, hv, h1.sv, h2.sv⟩

def tyOI (B : Nat) (xs : List Int) : Ty := .pred (fun v w => ∃ A c, v = .slice A xs.length c ∧ Own w B 21 A xs.length c (Nl .i32 xs)) (fun _ _ _ ⟨A, c, h, o⟩ hb => ⟨A, c, h, o.below hb⟩)
def tyOB (B : Nat) (l : List UInt8) : Ty := .pred (fun v w => ∃ A c, v = .slice A l.length c ∧ Own w B 5 A l.length c (l.map Bv)) (fun _ _ _ ⟨A, c, h, o⟩ hb => ⟨A, c, h, o.below hb⟩)
def tyEvO (B : Nat) (e : Ev) : Ty := .pred (fun v w => EvO w B v e) (fun _ _ _ h hb => h.next hb)

def GaveE (e : Ev) (w : World) (r : Ending) (w' : World) : Prop := ∃ v, r = .returned v ∧ EvO w' w.heap.size v e ∧ Below w.heap.size w w'
theorem copy_any (v : Value) (e : Ev) (w : World) (h : EvR w v e) (hx : e.xs.length ≤ 1000000) (hl : e.l.length ≤ 1000000) :
    Calls Try.prog 14 #[v] w (GaveE e w) := by
  obtain ⟨V, vn, vc, D, dn, dc, rfl, h1, h2⟩ := h
  have HV : Hid (Si w w.heap.size V vn vc e.xs) := h1
  have HD : Hid (Sl w w.heap.size D dn dc e.l) := h2
  have l1 := si_len h1
  have l2 := sl_len h2
  have hx' : vn ≤ 1000000 := by omega
  have hl' : dn ≤ 1000000 := by omega
  clear h1 h2 l1 l2
  go_enter Try.func14, Try.ntmps14
  go_wp2
  have K1 : Hid (((w.alloc (.cells #[.int .u8 e.node, .int .u16 e.inc, .int .u32 e.seq, .slice V vn vc, .slice D dn dc] 31)).alloc (.cells #[.int .u8 0, .int .u16 0, .int .u32 0, .slice none 0 0, .slice none 0 0] 31)).heap[w.heap.size]? = some (.cells #[.int .u8 e.node, .int .u16 e.inc, .int .u32 e.seq, .slice V vn vc, .slice D dn dc] 31 (0, 0))) := by unfold Hid; rw [heap_alloc_old _ _ (by simp)]; exact heap_alloc_new w _
  have K2 : Hid (((w.alloc (.cells #[.int .u8 e.node, .int .u16 e.inc, .int .u32 e.seq, .slice V vn vc, .slice D dn dc] 31)).alloc (.cells #[.int .u8 0, .int .u16 0, .int .u32 0, .slice none 0 0, .slice none 0 0] 31)).heap[w.heap.size + 1]? = some (.cells #[.int .u8 0, .int .u16 0, .int .u32 0, .slice none 0 0, .slice none 0 0] 31 (0, 0))) := by
    unfold Hid
    have := heap_alloc_new (w.alloc (.cells #[.int .u8 e.node, .int .u16 e.inc, .int .u32 e.seq, .slice V vn vc, .slice D dn dc] 31)) (.cells #[.int .u8 0, .int .u16 0, .int .u32 0, .slice none 0 0, .slice none 0 0] 31)
    simpa using this
  have bW := Go.Joins.below_alloc2 w (.cells #[.int .u8 e.node, .int .u16 e.inc, .int .u32 e.seq, .slice V vn vc, .slice D dn dc] 31) (.cells #[.int .u8 0, .int .u16 0, .int .u32 0, .slice none 0 0, .slice none 0 0] 31)
  have hz : w.heap.size + 1 < ((w.alloc (.cells #[.int .u8 e.node, .int .u16 e.inc, .int .u32 e.seq, .slice V vn vc, .slice D dn dc] 31)).alloc (.cells #[.int .u8 0, .int .u16 0, .int .u32 0, .slice none 0 0, .slice none 0 0] 31)).heap.size := by simp
  generalize (w.alloc (.cells #[.int .u8 e.node, .int .u16 e.inc, .int .u32 e.seq, .slice V vn vc, .slice D dn dc] 31)).alloc (.cells #[.int .u8 0, .int .u16 0, .int .u32 0, .slice none 0 0, .slice none 0 0] 31) = W at *
  have HV2 := Lib.hid (HV.out.next bW)
  have HD2 := Lib.hid (HD.out.next bW)
  clear HV HD
  refine wp_region_typed 9 [(3, .val (.pointer (some ⟨w.heap.size, 0, none⟩))), (4, .val (.agg #[.int .u8 e.node, .int .u16 e.inc, .int .u32 e.seq])), (5, .val (.pointer (some ⟨w.heap.size, 3, none⟩))), (6, .val (.slice V vn vc)), (7, tyOI W.heap.size e.xs), (8, .val (.pointer (some ⟨w.heap.size, 4, none⟩))), (9, .val (.slice D dn dc)), (10, tyOB W.heap.size e.l), (11, tyEvO W.heap.size e)]
    [[], [3], [], [5], [6], [], [8], [9], [4, 7, 10]] (by kernel_rfl) (by kernel_rfl) ?_ ?_
  · simp only [List.take_succ_cons, List.take_zero]
    refine ⟨?_, ?_, ?_, ?_, ?_, ?_, ?_, ?_, ?_, trivial⟩
    case refine_5 =>
      intro w1 hb
      refine over_val rfl (over_nil ?_)
      go_wp2_with fail
      refine (iclone_any _ _ _ _ e.xs _ (HV2.out.next hb) (Nat.le_refl _) hx').mono ?_
      rintro r w2 ⟨A, c, rfl, o, b⟩
      go_wp2
      exact post_of (by rfl) (by rfl) b (by exact ⟨A, c, rfl, o.mono hb.size⟩)
    case refine_8 =>
      intro w1 hb
      refine over_val rfl (over_nil ?_)
      go_wp2_with fail
      refine (bclone_any _ _ _ _ e.l _ (HD2.out.next hb) (Nat.le_refl _) hl').mono ?_
      rintro r w2 ⟨A, c, rfl, o, b⟩
      go_wp2
      exact post_of (by rfl) (by rfl) b (by exact ⟨A, c, rfl, o.mono hb.size⟩)
    case refine_9 =>
      intro w1 hb
      refine over_val rfl (over_pred rfl ?_)
      rintro _ ⟨A, c, rfl, o⟩
      refine over_pred rfl ?_
      rintro _ ⟨A', c', rfl, o'⟩
      refine over_nil ?_
      go_wp2
      exact post_of (by rfl) (by rfl) (Below.refl _ _) (by exact ⟨A, c, A', c', rfl, o, o'⟩)
    all_goals
      intro w1 hb
      repeat refine over_val rfl ?_
      refine over_nil ?_
      obtain ⟨c0, c1, c2, c3, c4⟩ := ev_cells ((hb.block w.heap.size (by omega)).trans K1.out)
      go_wp2
      exact post_of (by rfl) (by rfl) (Below.refl _ _) (by rfl)
  · intro w1 hb
    simp only [List.take_succ_cons, List.take_zero, List.drop_succ_cons, List.drop_zero]
    refine over_val rfl (over_val rfl (over_val rfl (over_val rfl (over_pred rfl ?_))))
    rintro _ ⟨A, c, rfl, o⟩
    refine over_val rfl (over_val rfl (over_pred rfl ?_))
    rintro _ ⟨A', c', rfl, o'⟩
    refine over_pred rfl ?_
    rintro _ ⟨V', vc', D', dc', rfl, o3, o4⟩
    refine over_nil ?_
    have k2 := (hb.block (w.heap.size + 1) (by omega)).trans K2.out
    obtain ⟨c0, c1, c2, c3, c4⟩ := ev_cells k2
    have f2 := ev_free k2
    have O3 := Lib.hid o3
    have O4 := Lib.hid o4
    have hz2 := hb.size
    have K3 := Lib.hid k2
    clear o3 o4 o o' k2
    go_wp2
    refine bodyPost_ret (v := .agg #[.int .u8 e.node, .int .u16 e.inc, .int .u32 e.seq, .slice V' e.xs.length vc', .slice D' e.l.length dc']) ?_ rfl ⟨_, rfl, ⟨V', vc', D', dc', rfl, ?_, ?_⟩, ?_⟩
    · have kf := Go.Joins.block_setCell (i := 4) (Go.Joins.block_setCell (i := 3) (Go.Joins.block_setCell (i := 2) (Go.Joins.block_setCell (i := 1) (Go.Joins.block_setCell (i := 0) K3.out (.int .u8 e.node)) (.int .u16 e.inc)) (.int .u32 e.seq)) (.slice V' e.xs.length vc')) (.slice D' e.l.length dc')
      obtain ⟨e0, e1, e2, e3, e4⟩ := ev_cells kf
      generalize World.setCell _ _ _ = wf at *
      simp [results, Try.results14, go_sem, e0, e1, e2, e3, e4]
    · exact Own.mono (ownsRow_setCell_below (ownsRow_setCell_below (ownsRow_setCell_below (ownsRow_setCell_below (ownsRow_setCell_below O3.out hz _) hz _) hz _) hz _) hz _) (by omega)
    · exact Own.mono (ownsRow_setCell_below (ownsRow_setCell_below (ownsRow_setCell_below (ownsRow_setCell_below (ownsRow_setCell_below O4.out hz _) hz _) hz _) hz _) hz _) (by omega)
    · have hle : w.heap.size ≤ w.heap.size + 1 := by omega
      exact (((((bW.trans (hb.mono bW.size)).setCell hle _).setCell hle _).setCell hle _).setCell hle _).setCell hle _
end Go.Proofs.Yteofjhoemcjlnaa
