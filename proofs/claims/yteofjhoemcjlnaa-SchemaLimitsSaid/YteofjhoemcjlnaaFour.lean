/- Layer 3: 'long, node, inc, seq := fine, fine, fine, fine' of SchemaLimits, over operations and a frame that are letters. -/
import Derived.Test.YteofjhoemcjlnaaSt5
import Derived.Test.YteofjhoemcjlnaaReg6
namespace Go.Proofs.Yteofjhoemcjlnaa
open Go.RowKit
set_option linter.unusedVariables false
structure OpIs (o : Oper) (op : Op) (d : Option Tmp) : Prop where
  op : o.op = op
  dst : o.dst = d
  guard : o.guard = none
def tyNo (B : Nat) : Ty := .pred (fun v w => ∃ g, v = .pointer (some ⟨g, 0, none⟩) ∧ B ≤ g ∧ w.heap[g]? = some (.cells #[.int .u8 0, .int .u16 0, .int .u32 0, .slice none 0 0, .slice none 0 0] 31 (0, 0))) (fun _ _ _ ⟨g, h, hB, hh⟩ hb => ⟨g, h, hB, (hb.block g (Array.getElem?_eq_some_iff.1 hh).1).trans hh⟩)
theorem eval_put_eq {a : Act} {d : Tmp} {v : Value} (h : d < a.tmps.size) : (a.put (some d) v).eval (.tmp d) = v := by
  simp [Act.put, Act.eval, h]
theorem put_size {a : Act} {d : Tmp} {v : Value} : (a.put (some d) v).tmps.size = a.tmps.size := by simp [Act.put]
theorem over_none {T : Tmp → Ty} {ds : List Tmp} {a : Act} {w : World} {K : Act → Prop} (h : ds = []) (k : K a) : over T ds a w K := by subst h; exact k
theorem alloc5_run {o : Oper} {a : Act} {w : World} (ho : o.op = .alloc 31) : (execOp a.eval o).run Try.prog w = .ok (.value (.pointer (some ⟨w.heap.size, 0, none⟩))) (w.alloc (.cells #[.int .u8 0, .int .u16 0, .int .u32 0, .slice none 0 0, .slice none 0 0] 31 (0, 0))) := by
  have key : (execOp (Act.eval ⟨#[], []⟩) { dst := none, op := .alloc 31, type := 0, pos := "", after := #[], guard := none }).run Try.prog w = .ok (.value (.pointer (some ⟨w.heap.size, 0, none⟩))) (w.alloc (.cells #[.int .u8 0, .int .u16 0, .int .u32 0, .slice none 0 0, .slice none 0 0] 31 (0, 0))) := by
    kernel_rfl
  unfold execOp at key ⊢
  simp only [ho]
  exact key
theorem post2_alloc {ops : Array Oper} {T : Tmp → Ty} {ps : List Nat} {D : List Deferred} {o : Oper} {a : Act} {w : World} {d : Tmp} {B : Nat} (ho : OpIs o (.alloc 31) (some d)) (hD : a.defers = D) (hs : d < a.tmps.size) (hT : T d = tyNo B) (hB : B ≤ w.heap.size) :
    wpList Try.prog ops (Post2 T (mkF ps []) D o w) [o] a w := by
  have hw : Region.wanted o (yielded ops a.tmps) = true := wanted_none ho.guard
  unfold wpList
  rw [if_pos hw]
  left
  unfold Oper.wp
  rw [alloc5_run ho.op]
  have hv : (a.put o.dst (.pointer (some ⟨w.heap.size, 0, none⟩))).tmps.getD d undef = .pointer (some ⟨w.heap.size, 0, none⟩) := by
    rw [ho.dst]
    have := eval_put_eq (a := a) (v := .pointer (some ⟨w.heap.size, 0, none⟩)) hs
    exact this
  refine post2_of ho.dst ?_ (below_lit _ _) ?_ ?_
  · rw [ho.dst]; exact hD
  · rw [hv, hT]
    exact ⟨_, rfl, hB, heap_alloc_new _ _⟩
  · rw [hv]
    exact mkF_ptr rfl (by simp)
theorem event_of {A : Option Addr} {n c : Nat} {ps : List (Int × Int)} {v : Value} {e : Ev} {w : World} {b : Bool} (h : Sp w w.heap.size A n c ps) (hr : ∀ p ∈ ps, p.1 ≤ p.2) (hv : EvR w v e) (hb : eventB ps e = b) :
    Calls Try.prog 20 #[.slice A n c, v] w fun r w' => r = .returned (.bool b) ∧ Below w.heap.size w w' := by
  subst hb; exact event_any A n c ps v e w h hr hv
theorem four_gen {Q : Exit → Act → World → Prop} {id : Nat} {a : Act} {w : World} {g13 : Nat} {nd ic sq : Int} {A : Option Addr} {m c : Nat} {D : Option Addr} {dn dc : Nat} {o0 o1 o2 o3 o4 o5 o6 o7 o8 o9 o10 o11 : Oper}
    (i0 : OpIs o0 (.load 31 (.tmp 13)) (some 108))
    (i1 : OpIs o1 (.load 31 (.tmp 13)) (some 109))
    (i2 : OpIs o2 (.load 31 (.tmp 13)) (some 110))
    (i3 : OpIs o3 (.load 31 (.tmp 13)) (some 111))
    (i4 : OpIs o4 (.alloc 31) (some 14))
    (i5 : OpIs o5 (.alloc 31) (some 15))
    (i6 : OpIs o6 (.alloc 31) (some 16))
    (i7 : OpIs o7 (.alloc 31) (some 17))
    (i8 : OpIs o8 (.store 31 (.tmp 14) (.tmp 108)) none)
    (i9 : OpIs o9 (.store 31 (.tmp 15) (.tmp 109)) none)
    (i10 : OpIs o10 (.store 31 (.tmp 16) (.tmp 110)) none)
    (i11 : OpIs o11 (.store 31 (.tmp 17) (.tmp 111)) none)
    (hm : Try.prog.follows .mixedOrders = true) (hB3 : reg3OK [o0, o1, o2, o3, o4, o5, o6, o7, o8, o9, o10, o11].toArray [[], [], [], [], [], [], [], []] 4 8 = true) (hH : headOK [o0, o1, o2, o3, o4, o5, o6, o7, o8, o9, o10, o11].toArray 4 = true) (hC : closedOK [o0, o1, o2, o3, o4, o5, o6, o7, o8, o9, o10, o11].toArray 4 = true)
    (hn : 111 < a.tmps.size) (hx : a.eval (.tmp 13) = .pointer (some ⟨g13, 0, none⟩)) (hg : w.heap[g13]? = some (.cells #[.int .u8 nd, .int .u16 ic, .int .u32 sq, .slice A m c, .slice D dn dc] 31 (0, 0)))
    (h : ∀ (g14 g15 g16 g17 : Nat) (w' : World), (w.heap.size ≤ g14 ∧ w.heap.size ≤ g15 ∧ w.heap.size ≤ g16 ∧ w.heap.size ≤ g17) → (g14 ≠ g15 ∧ g14 ≠ g16 ∧ g14 ≠ g17 ∧ g15 ≠ g16 ∧ g15 ≠ g17 ∧ g16 ≠ g17) → Below w.heap.size w w' →
      w'.heap[g14]? = some (.cells #[.int .u8 nd, .int .u16 ic, .int .u32 sq, .slice A m c, .slice D dn dc] 31 (0, 0)) → w'.heap[g15]? = some (.cells #[.int .u8 nd, .int .u16 ic, .int .u32 sq, .slice A m c, .slice D dn dc] 31 (0, 0)) → w'.heap[g16]? = some (.cells #[.int .u8 nd, .int .u16 ic, .int .u32 sq, .slice A m c, .slice D dn dc] 31 (0, 0)) → w'.heap[g17]? = some (.cells #[.int .u8 nd, .int .u16 ic, .int .u32 sq, .slice A m c, .slice D dn dc] 31 (0, 0)) →
      Q .normal (putAll [108, 109, 110, 111, 14, 15, 16, 17] [(.agg #[.int .u8 nd, .int .u16 ic, .int .u32 sq, .slice A m c, .slice D dn dc]), (.agg #[.int .u8 nd, .int .u16 ic, .int .u32 sq, .slice A m c, .slice D dn dc]), (.agg #[.int .u8 nd, .int .u16 ic, .int .u32 sq, .slice A m c, .slice D dn dc]), (.agg #[.int .u8 nd, .int .u16 ic, .int .u32 sq, .slice A m c, .slice D dn dc]), (.pointer (some ⟨g14, 0, none⟩)), (.pointer (some ⟨g15, 0, none⟩)), (.pointer (some ⟨g16, 0, none⟩)), (.pointer (some ⟨g17, 0, none⟩))] (putAll [108, 109, 110, 111] [(.agg #[.int .u8 nd, .int .u16 ic, .int .u32 sq, .slice A m c, .slice D dn dc]), (.agg #[.int .u8 nd, .int .u16 ic, .int .u32 sq, .slice A m c, .slice D dn dc]), (.agg #[.int .u8 nd, .int .u16 ic, .int .u32 sq, .slice A m c, .slice D dn dc]), (.agg #[.int .u8 nd, .int .u16 ic, .int .u32 sq, .slice A m c, .slice D dn dc])] a)) w') :
    (Code.region id [o0, o1, o2, o3, o4, o5, o6, o7, o8, o9, o10, o11].toArray true).wp Try.prog Q a w := by
  have z13 : g13 < w.heap.size := (Array.getElem?_eq_some_iff.1 hg).1
  have t4 : [o0, o1, o2, o3, o4, o5, o6, o7, o8, o9, o10, o11].take 4 = [o0, o1, o2, o3] := rfl
  have ds4 : dstsOf [o0, o1, o2, o3] = [108, 109, 110, 111] := by simp [dstsOf, i0.dst, i1.dst, i2.dst, i3.dst]
  have ds8 : dstsOf ([o0, o1, o2, o3, o4, o5, o6, o7, o8, o9, o10, o11].take 8) = [108, 109, 110, 111, 14, 15, 16, 17] := by
    simp [dstsOf, i0.dst, i1.dst, i2.dst, i3.dst, i4.dst, i5.dst, i6.dst, i7.dst]
  refine wp_region_typed3 4 8 [(108, .val (.agg #[.int .u8 nd, .int .u16 ic, .int .u32 sq, .slice A m c, .slice D dn dc])), (109, .val (.agg #[.int .u8 nd, .int .u16 ic, .int .u32 sq, .slice A m c, .slice D dn dc])), (110, .val (.agg #[.int .u8 nd, .int .u16 ic, .int .u32 sq, .slice A m c, .slice D dn dc])), (111, .val (.agg #[.int .u8 nd, .int .u16 ic, .int .u32 sq, .slice A m c, .slice D dn dc])), (14, tyNo w.heap.size), (15, tyNo w.heap.size), (16, tyNo w.heap.size), (17, tyNo w.heap.size)]
    (mkF [14, 15, 16, 17] []) [[], [], [], [], [], [], [], []] (fun w' => w'.heap[g13]? = some (.cells #[.int .u8 nd, .int .u16 ic, .int .u32 sq, .slice A m c, .slice D dn dc] 31 (0, 0))) hm hB3 hH hC (by decide) (fun w' hb => (hb.block g13 z13).trans hg) ?_
  rw [t4]
  refine ⟨(.agg #[.int .u8 nd, .int .u16 ic, .int .u32 sq, .slice A m c, .slice D dn dc]), .inl ⟨wanted_none i0.guard, fun w' hS => load5_run (.tmp 13) i0.op hx hS⟩, ?_⟩
  rw [i0.dst]
  refine ⟨(.agg #[.int .u8 nd, .int .u16 ic, .int .u32 sq, .slice A m c, .slice D dn dc]), .inl ⟨wanted_none i1.guard, fun w' hS => load5_run (.tmp 13) i1.op (eval_put_ne (by decide) hx) hS⟩, ?_⟩
  rw [i1.dst]
  refine ⟨(.agg #[.int .u8 nd, .int .u16 ic, .int .u32 sq, .slice A m c, .slice D dn dc]), .inl ⟨wanted_none i2.guard, fun w' hS => load5_run (.tmp 13) i2.op (eval_put_ne (by decide) (eval_put_ne (by decide) hx)) hS⟩, ?_⟩
  rw [i2.dst]
  refine ⟨(.agg #[.int .u8 nd, .int .u16 ic, .int .u32 sq, .slice A m c, .slice D dn dc]), .inl ⟨wanted_none i3.guard, fun w' hS => load5_run (.tmp 13) i3.op (eval_put_ne (by decide) (eval_put_ne (by decide) (eval_put_ne (by decide) hx))) hS⟩, ?_⟩
  rw [i3.dst]
  have hf : putAll [108, 109, 110, 111] [(.agg #[.int .u8 nd, .int .u16 ic, .int .u32 sq, .slice A m c, .slice D dn dc]), (.agg #[.int .u8 nd, .int .u16 ic, .int .u32 sq, .slice A m c, .slice D dn dc]), (.agg #[.int .u8 nd, .int .u16 ic, .int .u32 sq, .slice A m c, .slice D dn dc]), (.agg #[.int .u8 nd, .int .u16 ic, .int .u32 sq, .slice A m c, .slice D dn dc])] a = ((((a.put (some 108) (.agg #[.int .u8 nd, .int .u16 ic, .int .u32 sq, .slice A m c, .slice D dn dc])).put (some 109) (.agg #[.int .u8 nd, .int .u16 ic, .int .u32 sq, .slice A m c, .slice D dn dc])).put (some 110) (.agg #[.int .u8 nd, .int .u16 ic, .int .u32 sq, .slice A m c, .slice D dn dc])).put (some 111) (.agg #[.int .u8 nd, .int .u16 ic, .int .u32 sq, .slice A m c, .slice D dn dc])) := rfl
  rw [← hf]
  have h108 : 108 < a.tmps.size := Nat.lt_trans (by decide) hn
  have h109 : 109 < a.tmps.size := Nat.lt_trans (by decide) hn
  have h110 : 110 < a.tmps.size := Nat.lt_trans (by decide) hn
  have v108 : (putAll [108, 109, 110, 111] [(.agg #[.int .u8 nd, .int .u16 ic, .int .u32 sq, .slice A m c, .slice D dn dc]), (.agg #[.int .u8 nd, .int .u16 ic, .int .u32 sq, .slice A m c, .slice D dn dc]), (.agg #[.int .u8 nd, .int .u16 ic, .int .u32 sq, .slice A m c, .slice D dn dc]), (.agg #[.int .u8 nd, .int .u16 ic, .int .u32 sq, .slice A m c, .slice D dn dc])] a).eval (.tmp 108) = (.agg #[.int .u8 nd, .int .u16 ic, .int .u32 sq, .slice A m c, .slice D dn dc]) := by rw [hf]; exact eval_put_ne (by decide) (eval_put_ne (by decide) (eval_put_ne (by decide) (eval_put_eq h108)))
  have v109 : (putAll [108, 109, 110, 111] [(.agg #[.int .u8 nd, .int .u16 ic, .int .u32 sq, .slice A m c, .slice D dn dc]), (.agg #[.int .u8 nd, .int .u16 ic, .int .u32 sq, .slice A m c, .slice D dn dc]), (.agg #[.int .u8 nd, .int .u16 ic, .int .u32 sq, .slice A m c, .slice D dn dc]), (.agg #[.int .u8 nd, .int .u16 ic, .int .u32 sq, .slice A m c, .slice D dn dc])] a).eval (.tmp 109) = (.agg #[.int .u8 nd, .int .u16 ic, .int .u32 sq, .slice A m c, .slice D dn dc]) := by rw [hf]; exact eval_put_ne (by decide) (eval_put_ne (by decide) (eval_put_eq (by simp only [put_size]; exact h109)))
  have v110 : (putAll [108, 109, 110, 111] [(.agg #[.int .u8 nd, .int .u16 ic, .int .u32 sq, .slice A m c, .slice D dn dc]), (.agg #[.int .u8 nd, .int .u16 ic, .int .u32 sq, .slice A m c, .slice D dn dc]), (.agg #[.int .u8 nd, .int .u16 ic, .int .u32 sq, .slice A m c, .slice D dn dc]), (.agg #[.int .u8 nd, .int .u16 ic, .int .u32 sq, .slice A m c, .slice D dn dc])] a).eval (.tmp 110) = (.agg #[.int .u8 nd, .int .u16 ic, .int .u32 sq, .slice A m c, .slice D dn dc]) := by rw [hf]; exact eval_put_ne (by decide) (eval_put_eq (by simp only [put_size]; exact h110))
  have v111 : (putAll [108, 109, 110, 111] [(.agg #[.int .u8 nd, .int .u16 ic, .int .u32 sq, .slice A m c, .slice D dn dc]), (.agg #[.int .u8 nd, .int .u16 ic, .int .u32 sq, .slice A m c, .slice D dn dc]), (.agg #[.int .u8 nd, .int .u16 ic, .int .u32 sq, .slice A m c, .slice D dn dc]), (.agg #[.int .u8 nd, .int .u16 ic, .int .u32 sq, .slice A m c, .slice D dn dc])] a).eval (.tmp 111) = (.agg #[.int .u8 nd, .int .u16 ic, .int .u32 sq, .slice A m c, .slice D dn dc]) := by rw [hf]; exact eval_put_eq (by simp only [put_size]; exact hn)
  have hn1 : (putAll [108, 109, 110, 111] [(.agg #[.int .u8 nd, .int .u16 ic, .int .u32 sq, .slice A m c, .slice D dn dc]), (.agg #[.int .u8 nd, .int .u16 ic, .int .u32 sq, .slice A m c, .slice D dn dc]), (.agg #[.int .u8 nd, .int .u16 ic, .int .u32 sq, .slice A m c, .slice D dn dc]), (.agg #[.int .u8 nd, .int .u16 ic, .int .u32 sq, .slice A m c, .slice D dn dc])] a).tmps.size = a.tmps.size := by rw [hf]; simp only [put_size]
  clear hf hx
  generalize putAll [108, 109, 110, 111] [(.agg #[.int .u8 nd, .int .u16 ic, .int .u32 sq, .slice A m c, .slice D dn dc]), (.agg #[.int .u8 nd, .int .u16 ic, .int .u32 sq, .slice A m c, .slice D dn dc]), (.agg #[.int .u8 nd, .int .u16 ic, .int .u32 sq, .slice A m c, .slice D dn dc]), (.agg #[.int .u8 nd, .int .u16 ic, .int .u32 sq, .slice A m c, .slice D dn dc])] a = a1 at *
  rw [ds4]
  refine ⟨?_, ?_, ?_⟩
  · intro d hd
    simp only [List.mem_cons, List.not_mem_nil, or_false] at hd
    rcases hd with rfl | rfl | rfl | rfl
    · exact ⟨fun w' => v108, fun g hg => by simp [mkF] at hg⟩
    · exact ⟨fun w' => v109, fun g hg => by simp [mkF] at hg⟩
    · exact ⟨fun w' => v110, fun g hg => by simp [mkF] at hg⟩
    · exact ⟨fun w' => v111, fun g hg => by simp [mkF] at hg⟩
  · intro i o hi hi' ho w5 hb
    obtain rfl | rfl | rfl | rfl : i = 4 ∨ i = 5 ∨ i = 6 ∨ i = 7 := by omega
    · obtain rfl : o4 = o := by simpa using ho
      exact over_none rfl (post2_alloc i4 rfl (by rw [hn1]; exact Nat.lt_trans (by decide) hn) rfl hb.size)
    · obtain rfl : o5 = o := by simpa using ho
      exact over_none rfl (post2_alloc i5 rfl (by rw [hn1]; exact Nat.lt_trans (by decide) hn) rfl hb.size)
    · obtain rfl : o6 = o := by simpa using ho
      exact over_none rfl (post2_alloc i6 rfl (by rw [hn1]; exact Nat.lt_trans (by decide) hn) rfl hb.size)
    · obtain rfl : o7 = o := by simpa using ho
      exact over_none rfl (post2_alloc i7 rfl (by rw [hn1]; exact Nat.lt_trans (by decide) hn) rfl hb.size)
  · intro w14 af hb hB
    have mem : ∀ d, d ∈ [108, 109, 110, 111, 14, 15, 16, 17] → d ∈ dstsOf ([o0, o1, o2, o3, o4, o5, o6, o7, o8, o9, o10, o11].toArray.toList.take 8) := fun d hd => by
      show d ∈ dstsOf ([o0, o1, o2, o3, o4, o5, o6, o7, o8, o9, o10, o11].take 8)
      rw [ds8]; exact hd
    obtain ⟨g14, h14, hg14, k14⟩ : ∃ g, af.tmps.getD 14 undef = .pointer (some ⟨g, 0, none⟩) ∧ w.heap.size ≤ g ∧ w14.heap[g]? = some (.cells #[.int .u8 0, .int .u16 0, .int .u32 0, .slice none 0 0, .slice none 0 0] 31 (0, 0)) := hB.new 14 (mem 14 (by decide))
    obtain ⟨g15, h15, hg15, k15⟩ : ∃ g, af.tmps.getD 15 undef = .pointer (some ⟨g, 0, none⟩) ∧ w.heap.size ≤ g ∧ w14.heap[g]? = some (.cells #[.int .u8 0, .int .u16 0, .int .u32 0, .slice none 0 0, .slice none 0 0] 31 (0, 0)) := hB.new 15 (mem 15 (by decide))
    obtain ⟨g16, h16, hg16, k16⟩ : ∃ g, af.tmps.getD 16 undef = .pointer (some ⟨g, 0, none⟩) ∧ w.heap.size ≤ g ∧ w14.heap[g]? = some (.cells #[.int .u8 0, .int .u16 0, .int .u32 0, .slice none 0 0, .slice none 0 0] 31 (0, 0)) := hB.new 16 (mem 16 (by decide))
    obtain ⟨g17, h17, hg17, k17⟩ : ∃ g, af.tmps.getD 17 undef = .pointer (some ⟨g, 0, none⟩) ∧ w.heap.size ≤ g ∧ w14.heap[g]? = some (.cells #[.int .u8 0, .int .u16 0, .int .u32 0, .slice none 0 0, .slice none 0 0] 31 (0, 0)) := hB.new 17 (mem 17 (by decide))
    have e108 : af.tmps.getD 108 undef = (.agg #[.int .u8 nd, .int .u16 ic, .int .u32 sq, .slice A m c, .slice D dn dc]) := hB.new 108 (mem 108 (by decide))
    have e109 : af.tmps.getD 109 undef = (.agg #[.int .u8 nd, .int .u16 ic, .int .u32 sq, .slice A m c, .slice D dn dc]) := hB.new 109 (mem 109 (by decide))
    have e110 : af.tmps.getD 110 undef = (.agg #[.int .u8 nd, .int .u16 ic, .int .u32 sq, .slice A m c, .slice D dn dc]) := hB.new 110 (mem 110 (by decide))
    have e111 : af.tmps.getD 111 undef = (.agg #[.int .u8 nd, .int .u16 ic, .int .u32 sq, .slice A m c, .slice D dn dc]) := hB.new 111 (mem 111 (by decide))
    have n45 : g14 ≠ g15 := by rintro rfl; exact hB.apart 14 (mem 14 (by decide)) 15 (mem 15 (by decide)) (by decide) g14 (.inl ⟨by decide, h14⟩) (.inl ⟨by decide, h15⟩)
    have n46 : g14 ≠ g16 := by rintro rfl; exact hB.apart 14 (mem 14 (by decide)) 16 (mem 16 (by decide)) (by decide) g14 (.inl ⟨by decide, h14⟩) (.inl ⟨by decide, h16⟩)
    have n47 : g14 ≠ g17 := by rintro rfl; exact hB.apart 14 (mem 14 (by decide)) 17 (mem 17 (by decide)) (by decide) g14 (.inl ⟨by decide, h14⟩) (.inl ⟨by decide, h17⟩)
    have n56 : g15 ≠ g16 := by rintro rfl; exact hB.apart 15 (mem 15 (by decide)) 16 (mem 16 (by decide)) (by decide) g15 (.inl ⟨by decide, h15⟩) (.inl ⟨by decide, h16⟩)
    have n57 : g15 ≠ g17 := by rintro rfl; exact hB.apart 15 (mem 15 (by decide)) 17 (mem 17 (by decide)) (by decide) g15 (.inl ⟨by decide, h15⟩) (.inl ⟨by decide, h17⟩)
    have n67 : g16 ≠ g17 := by rintro rfl; exact hB.apart 16 (mem 16 (by decide)) 17 (mem 17 (by decide)) (by decide) g16 (.inl ⟨by decide, h16⟩) (.inl ⟨by decide, h17⟩)
    have ef := behind2_fill (ds := [108, 109, 110, 111, 14, 15, 16, 17]) hB ds8
    simp only [fill, e108, e109, e110, e111, h14, h15, h16, h17] at ef
    have l14 := (Array.getElem?_eq_some_iff.1 k14).1
    have l15 := (Array.getElem?_eq_some_iff.1 k15).1
    have l16 := (Array.getElem?_eq_some_iff.1 k16).1
    have l17 := (Array.getElem?_eq_some_iff.1 k17).1
    have s0 := (hb.block g13 z13).trans hg
    have n34 : g13 ≠ g14 := by omega
    have n35 : g13 ≠ g15 := by omega
    have n36 : g13 ≠ g16 := by omega
    have n37 : g13 ≠ g17 := by omega
    have hbb : Below w.heap.size w14 (((((((((((((((((((((w14.setCell ⟨g14, 0, none⟩ (.int .u8 nd)).setCell ⟨g14, 1, none⟩ (.int .u16 ic)).setCell ⟨g14, 2, none⟩ (.int .u32 sq)).setCell ⟨g14, 3, none⟩ (.slice A m c)).setCell ⟨g14, 4, none⟩ (.slice D dn dc)).setCell ⟨g15, 0, none⟩ (.int .u8 nd)).setCell ⟨g15, 1, none⟩ (.int .u16 ic)).setCell ⟨g15, 2, none⟩ (.int .u32 sq)).setCell ⟨g15, 3, none⟩ (.slice A m c)).setCell ⟨g15, 4, none⟩ (.slice D dn dc)).setCell ⟨g16, 0, none⟩ (.int .u8 nd)).setCell ⟨g16, 1, none⟩ (.int .u16 ic)).setCell ⟨g16, 2, none⟩ (.int .u32 sq)).setCell ⟨g16, 3, none⟩ (.slice A m c)).setCell ⟨g16, 4, none⟩ (.slice D dn dc)).setCell ⟨g17, 0, none⟩ (.int .u8 nd)).setCell ⟨g17, 1, none⟩ (.int .u16 ic)).setCell ⟨g17, 2, none⟩ (.int .u32 sq)).setCell ⟨g17, 3, none⟩ (.slice A m c)).setCell ⟨g17, 4, none⟩ (.slice D dn dc))) := (((st5_below hg14).trans (st5_below hg15)).trans (st5_below hg16)).trans (st5_below hg17)
    show wpListS _ _ _ _ [o8, o9, o10, o11] af w14
    refine wpListS_want (wanted_none i8.guard) (wp_store5 (g := g14) (nd := nd) (ic := ic) (sq := sq) (V := A) (vn := m) (vc := c) (D := D) (dn := dn) (dc := dc) (.tmp 14) (.tmp 108) i8.op i8.dst h14 e108 k14 ⟨(st5_other n34).trans s0, ?_⟩)
    refine wpListS_want (wanted_none i9.guard) (wp_store5 (g := g15) (nd := nd) (ic := ic) (sq := sq) (V := A) (vn := m) (vc := c) (D := D) (dn := dn) (dc := dc) (.tmp 15) (.tmp 109) i9.op i9.dst h15 e109 ((st5_other n45.symm).trans k15) ⟨(st5_other n35).trans ((st5_other n34).trans s0), ?_⟩)
    refine wpListS_want (wanted_none i10.guard) (wp_store5 (g := g16) (nd := nd) (ic := ic) (sq := sq) (V := A) (vn := m) (vc := c) (D := D) (dn := dn) (dc := dc) (.tmp 16) (.tmp 110) i10.op i10.dst h16 e110 ((st5_other n56.symm).trans ((st5_other n46.symm).trans k16)) ⟨(st5_other n36).trans ((st5_other n35).trans ((st5_other n34).trans s0)), ?_⟩)
    refine wpListS_want (wanted_none i11.guard) (wp_store5 (g := g17) (nd := nd) (ic := ic) (sq := sq) (V := A) (vn := m) (vc := c) (D := D) (dn := dn) (dc := dc) (.tmp 17) (.tmp 111) i11.op i11.dst h17 e111 ((st5_other n67.symm).trans ((st5_other n57.symm).trans ((st5_other n47.symm).trans k17))) ⟨(st5_other n37).trans ((st5_other n36).trans ((st5_other n35).trans ((st5_other n34).trans s0))), ?_⟩)
    refine wpListS_nil (NoPanic.normal ?_)
    rw [ef]
    exact h g14 g15 g16 g17 _ ⟨hg14, hg15, hg16, hg17⟩ ⟨n45, n46, n47, n56, n57, n67⟩ (hb.trans hbb)
      ((st5_other n47).trans ((st5_other n46).trans ((st5_other n45).trans (st5_same k14))))
      ((st5_other n57).trans ((st5_other n56).trans (st5_same ((st5_other n45.symm).trans k15))))
      ((st5_other n67).trans (st5_same ((st5_other n56.symm).trans ((st5_other n46.symm).trans k16))))
      (st5_same ((st5_other n67.symm).trans ((st5_other n57.symm).trans ((st5_other n47.symm).trans k17))))
end Go.Proofs.Yteofjhoemcjlnaa
