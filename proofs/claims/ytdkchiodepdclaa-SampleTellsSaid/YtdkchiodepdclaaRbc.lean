/- Layer 9: own rows of several cells, written in place; desc.Copy. -/
import Derived.Test.YtdkchiodepdclaaRbb
import Derived.Laws.IdiomCopy
import Derived.Lib.LazyBuf
import Derived.Lib.SliceRun
import Derived.Shelf.Spec.SlicesInsert
import Derived.Lib.AppendZerosOnto
import Derived.Deep.Cut
import Derived.Deep.RegionLaw
namespace Go.Proofs.Ytdkchiodepdclaa
open Go.RowKit
set_option linter.unusedVariables false
section
variable {w w' : World} {B : Nat} {E : TypeId} {s g n c : Nat} {xs : List Value}
theorem Ows.rowc (h : Ows w B E s (some ⟨g, 0, none⟩) n c xs) : B ≤ g ∧ ∃ cur, w.heap[g]? = some (.cells cur E (0, 0)) ∧ n ≤ c ∧ c ≤ maxLen ∧ cur.size = c * s ∧ cur.toList.take (n * s) = xs := by
  rcases h.2 with ⟨hv, _⟩ | ⟨g', cap, cur, hv, hB, hh, r⟩
  · injection hv with e; cases e
  · injection hv with e1 e2 e3
    injection e1 with e1
    injection e1 with e1
    subst e1 e3
    exact ⟨hB, cur, hh, r⟩
theorem Ows.lenc (h : Ows w B E s (some ⟨g, 0, none⟩) n c xs) : xs.length = n * s := h.1
theorem Ows.capc (h : Ows w B E s (some ⟨g, 0, none⟩) n c xs) : n ≤ c ∧ c ≤ maxLen := by
  obtain ⟨_, cur, _, h1, h2, _⟩ := h.rowc; exact ⟨h1, h2⟩
theorem Ows.ltc (h : Ows w B E s (some ⟨g, 0, none⟩) n c xs) : g < w.heap.size := by
  obtain ⟨_, cur, hh, _⟩ := h.rowc; exact (Array.getElem?_eq_some_iff.1 hh).1
theorem Ows.setc (h : Ows w B E s (some ⟨g, 0, none⟩) n c xs) (t : Nat) (v : Value) : Ows (w.setCell ⟨g, t, none⟩ v) B E s (some ⟨g, 0, none⟩) n c (xs.set t v) := by
  obtain ⟨hB, cur, hh, h1, h2, h3, h4⟩ := h.rowc
  refine ⟨by rw [List.length_set]; exact h.1, .inr ⟨g, c, cur.setIfInBounds t v, rfl, hB, ?_, h1, h2, by simp [h3], ?_⟩⟩
  · simp [World.setCell, Array.getElem?_modify, hh]
  · rw [← h4, Array.toList_setIfInBounds, List.take_set]
theorem Ows.therec (h : Ows w B E s (some ⟨g, 0, none⟩) n c xs) (t : Nat) (ht : t < c * s) : (w.cell? ⟨g, t, none⟩).isSome = true ∧ w.frozen? ⟨g, t, none⟩ = false := by
  obtain ⟨hB, cur, hh, h1, h2, h3, h4⟩ := h.rowc
  refine ⟨?_, by simp [World.frozen?, hh]⟩
  rw [cell_of_row w g t cur E (0, 0) hh, Array.getElem?_eq_getElem (by omega)]
  rfl
theorem Ows.readc (h : Ows w B E s (some ⟨g, 0, none⟩) n c xs) (t : Nat) (v : Value) (ht : xs[t]? = some v) : w.cell? ⟨g, t, none⟩ = some v := by
  obtain ⟨hB, cur, hh, h1, h2, h3, h4⟩ := h.rowc
  rw [cell_of_row w g t cur E (0, 0) hh]
  rw [← h4, List.getElem?_take] at ht
  split at ht
  · simpa using ht
  · cases ht
theorem Ows.widen (h : Ows w B E s (some ⟨g, 0, none⟩) n c xs) {m : Nat} (hm : m ≤ c) : ∃ ws, Ows w B E s (some ⟨g, 0, none⟩) m c ws ∧ (n ≤ m → ws.take (n * s) = xs) ∧ (m ≤ n → ws = xs.take (m * s)) := by
  obtain ⟨hB, cur, hh, h1, h2, h3, h4⟩ := h.rowc
  refine ⟨cur.toList.take (m * s), ⟨?_, .inr ⟨g, c, cur, rfl, hB, hh, hm, h2, h3, rfl⟩⟩, fun hnm => ?_, fun hmn => ?_⟩
  · have := Nat.mul_le_mul_right s hm
    simp only [List.length_take, Array.length_toList]; omega
  · have := Nat.mul_le_mul_right s hnm
    rw [List.take_take, Nat.min_eq_left this]; exact h4
  · have := Nat.mul_le_mul_right s hmn
    rw [← h4, List.take_take, Nat.min_eq_left this]
theorem Ows.setsc : ∀ (vs : List Value) (o : Nat) {w : World} {xs : List Value}, Ows w B E s (some ⟨g, 0, none⟩) n c xs → Ows (w.setCells g o vs) B E s (some ⟨g, 0, none⟩) n c (if o + vs.length ≤ n * s then xs.take o ++ vs ++ xs.drop (o + vs.length) else (xs.take o ++ vs ++ xs.drop (o + vs.length)).take (n * s))
  | [], o, w, xs, h => by
    have := h.lenc
    simp only [World.setCells, List.length_nil, Nat.add_zero, List.append_nil, List.take_append_drop]
    split
    · exact h
    · rw [List.take_of_length_le (by omega)]; exact h
  | v :: r, o, w, xs, h => by
    have hl := h.lenc
    have ih := Ows.setsc r (o + 1) (h.setc o v)
    have e : (xs.set o v).take (o + 1) ++ r ++ (xs.set o v).drop (o + 1 + r.length) = if o < xs.length then xs.take o ++ v :: r ++ xs.drop (o + (r.length + 1)) else xs ++ r := by
      split
      · rename_i ho
        rw [List.drop_set_of_lt (by omega), List.take_add_one, List.take_set_of_le (Nat.le_refl _), List.getElem?_set_self ho]
        simp [Nat.add_assoc, Nat.add_comm 1]
      · rename_i ho
        rw [List.set_eq_of_length_le (by omega), List.take_of_length_le (by omega), List.drop_of_length_le (by omega), List.append_nil]
    have e2 : (v :: r).length = r.length + 1 := rfl
    rw [World.setCells, e2]
    rw [e] at ih
    by_cases ho : o < xs.length
    · rw [if_pos ho] at ih
      by_cases h2 : o + 1 + r.length ≤ n * s
      · rw [if_pos h2] at ih; rw [if_pos (by omega)]; exact ih
      · rw [if_neg h2] at ih; rw [if_neg (by omega)]; exact ih
    · rw [if_neg ho] at ih
      rw [if_neg (by omega)]
      rw [List.take_of_length_le (l := xs) (by omega), List.append_assoc, List.take_append_of_le_length (by omega), List.take_of_length_le (by omega)]
      by_cases h2 : o + 1 + r.length ≤ n * s
      · omega
      · rw [if_neg h2, List.take_append_of_le_length (by omega), List.take_of_length_le (by omega)] at ih
        exact ih
theorem Ows.inside (h : Ows w B E s (some ⟨g, 0, none⟩) n c xs) (vs : List Value) (o : Nat) (ho : o + vs.length ≤ n * s) : Ows (w.setCells g o vs) B E s (some ⟨g, 0, none⟩) n c (xs.take o ++ vs ++ xs.drop (o + vs.length)) := by
  have := h.setsc vs o; rwa [if_pos ho] at this
theorem Ows.behind (h : Ows w B E s (some ⟨g, 0, none⟩) n c xs) (vs : List Value) (o : Nat) (ho : n * s ≤ o) : Ows (w.setCells g o vs) B E s (some ⟨g, 0, none⟩) n c xs := by
  have hl := h.lenc
  have := h.setsc vs o
  split at this
  · have e : vs = [] := List.eq_nil_of_length_eq_zero (by omega)
    subst e
    simpa using this
  · rwa [List.append_assoc, List.take_append_of_le_length (by rw [List.length_take]; omega), List.take_take, Nat.min_eq_left (by omega), ← hl, List.take_length] at this
theorem Ows.extend (h : Ows w B E s (some ⟨g, 0, none⟩) n c xs) {m : Nat} (hm : n + m ≤ c) (ys : List Value) (hy : ys.length = m * s) : Ows (w.setCells g (n * s) ys) B E s (some ⟨g, 0, none⟩) (n + m) c (xs ++ ys) := by
  obtain ⟨ws, hw, h1, _⟩ := h.widen hm
  have hl := hw.lenc
  have e : n * s + ys.length = (n + m) * s := by rw [hy, Nat.add_mul]
  have := hw.inside ys (n * s) (by omega)
  rwa [h1 (Nat.le_add_right _ _), List.drop_of_length_le (by omega), List.append_nil] at this
theorem Ows.shrink (h : Ows w B E s (some ⟨g, 0, none⟩) n c xs) {m : Nat} (hm : m ≤ n) : Ows w B E s (some ⟨g, 0, none⟩) m c (xs.take (m * s)) := by
  obtain ⟨ws, hw, _, h2⟩ := h.widen (Nat.le_trans hm h.capc.1)
  rw [h2 hm] at hw
  exact hw
end
theorem grown_sets (g : Nat) : ∀ (vs : List Value) (o : Nat) (w : World), w.grownBy (w.setCells g o vs) (some g)
  | [], _, w => World.grownBy.refl w _
  | v :: r, o, w => grown_two (grown_set w g o v) (grown_sets g r (o + 1) _)
theorem grown_drew {w w' : World} {o : Option Nat} (h : w.grownBy w' o) (m : Nat) : w.grownBy (w'.drewN m) o := ⟨h.os, h.tape, h.output, h.size, h.block⟩
section
variable {P : Program}
theorem run_copy_n (w : World) (dT sT ty elem : TypeId) (s b o dLen dCap : Nat) (a : Addr) (sLen sCap : Nat) (cs : List Value)
    (hu : P.underlying dT = some (.slice elem)) (hs : (P.info? elem).map (·.size) = some s) (hn : cs.length = Nat.min sLen dLen * s)
    (hsrc : ∀ j v, cs[j]? = some v → w.cell? (a.add j) = some v) (hc : ∀ j, j < cs.length → (w.cell? ⟨b, o + j, none⟩).isSome = true) (hf : ∀ j, j < cs.length → w.frozen? ⟨b, o + j, none⟩ = false) (h1 : ∀ v ∈ cs, v.oneCell' = true) :
    (Builtin.copy_ #[dT, sT] ty #[.slice (some ⟨b, o, none⟩) dLen dCap, .slice (some a) sLen sCap]).run P w = .ok (goInt (Nat.min sLen dLen)) (w.setCells b o cs) := by
  have hl := run_firstCells_some (P := P) w s (Nat.min sLen dLen) a sLen sCap cs hn hsrc
  have hst := run_storeCells_cells (P := P) b o cs 0 w (by simpa using hc) (by simpa using hf) h1
  cases hq : P.info? elem with
  | none => simp [hq] at hs
  | some i =>
    have hi : i.size = s := by simpa [hq] using hs
    simp only [Nat.add_zero] at hst
    simp [Builtin.copy_, run_underlying hu, Builtin.lenOf, sizeOf, typeInfo, hq, hi, hl, hst]
variable {ops : Array Oper} {Q : Exit → Act → World → Prop} {o : Oper} {rest : List Oper} {a : Act} {w : World}
/-- An append onto the call's own slice that has the room. -/
theorem wpList_appsr (hgd : Region.wanted o (yielded ops a.tmps) = true) (s x : Operand) (t : TypeId) (ho : o.op = .call { callee := .builtin .append, args := #[s, x], argTypes := #[t, t] })
    {E : TypeId} {z : Value} {size by_ : Nat} (ht : P.underlying t = some (.slice E)) (hE : (P.info? E).map (fun i => (i.zero, i.size, i.bytes)) = some (some z, size, by_))
    {B g n c : Nat} {xs : List Value} (hs : a.eval s = .slice (some ⟨g, 0, none⟩) n c) (hown : Ows w B E size (some ⟨g, 0, none⟩) n c xs)
    {k : Nat} {A' : Option Addr} {m c' : Nat} {ys : List Value} (hx : a.eval x = .slice A' m c') (hsv : Sn w k size A' m c' ys) (h1 : ∀ u ∈ ys, u.oneCell' = true) (hm : 0 < m) (hroom : n + m ≤ c)
    (h : ∀ w' : World, Ows w' B E size (some ⟨g, 0, none⟩) (n + m) c (xs ++ ys) → w.grownBy w' (some g) → wpList P ops Q rest (a.put o.dst (.slice (some ⟨g, 0, none⟩) (n + m) c)) w') :
    wpList P ops Q (o :: rest) a w := by
  obtain ⟨i, hi, hz0, hz1, hz2⟩ := info_parts hE
  obtain ⟨b, off, rfl, _, hc⟩ := hsv.at_ hm
  have hlen := hsv.len
  have hfit : n * size + ys.length ≤ c * size := by rw [hlen, ← Nat.add_mul]; exact Nat.mul_le_mul_right _ hroom
  subst hz1
  have hr := run_append_room_cells (P := P) w t o.type E i ht hi g 0 n c ⟨b, off, none⟩ m c' ys hlen (fun j u hu => by rw [Addr.add_lit]; exact hc j u hu) h1 hroom
    (fun j hj => by rw [Nat.zero_add]; exact (hown.therec _ (by omega)).1) (fun j hj => by rw [Nat.zero_add]; exact (hown.therec _ (by omega)).2)
  rw [Nat.zero_add] at hr
  refine wpList_want hgd fun K hK => ?_
  unfold Oper.wp execOp
  simp only [ho, resolve, invoke, builtin, Sem.run_bind, Sem.run_pure, Result.andThen_ok, List.map_toArray, List.map_cons, List.map_nil, hs, hx, hr]
  exact hK _ _ (h _ (hown.extend hroom ys hlen) (grown_sets _ _ _ _))
end
theorem copyX_any (A : Option Addr) (n c : Nat) (xs : List (Dsc × Hd)) (w : World) (h : Sds w A n c xs) (hn8 : n ≤ 1000000) (hF : ∀ x ∈ xs, x.1.2.2.2.length ≤ 1000000) : Calls Try.prog 28 #[.slice A n c] w fun e w' => ∃ (g : Nat) (zs : List (Dsc × Hd)), e = .returned (.slice (some ⟨g, 0, none⟩) n n) ∧ zs.map (·.1) = xs.map (·.1) ∧ Dow w' w.heap.size (some ⟨g, 0, none⟩) n n zs ∧ Below w.heap.size w w' := by
  have HF := Lib.hid hF
  have HL : Hid (n = xs.length) := h.len
  have hm := h.max
  have hc := h.cap
  unfold maxLen at hm
  have HS := Lib.hid h
  obtain ⟨iD, hi, hz0, hz1, hz2⟩ := info_parts infoD
  clear h hF
  go_enter Try.func28, Try.ntmps28
  go_wp2_with (at_make; refine wpList_make_own _ rfl _ _ 23 rfl w.heap.size 27 iD _ 4 Try.underlying23 hi hz0 hz1 .i64 .i64 (n : Int) n rfl rfl rfl (by rw [hz2]; omega) (by unfold maxLen; omega) (Nat.le_refl _) ?_; intro w1 o1 g1; have O1 := Lib.hid o1; have G1 := Lib.hid g1; clear o1 g1 hi hz0 hz1 hz2)
  obtain ⟨g, hg⟩ : ∃ g, w.heap.size = g := ⟨_, rfl⟩
  have LG : Hid (w.heap.size ≤ g) := by unfold Hid; omega
  have BW : Hid (Below w.heap.size w w1) := (Below.refl w.heap.size w).grown G1.out (Nat.le_refl _) (by simp)
  have DO : Hid (Dow w1 w.heap.size (some ⟨g, 0, none⟩) 0 n []) := by rw [← hg]; exact ⟨O1.out, fun x hx => by cases hx⟩
  rw [hg]
  clear O1 G1 hg
  go_loopw [3, 5, 11] (fun lv _ i wr => ∃ (j : Nat) (zs : List (Dsc × Hd)), j ≤ n ∧ lv = .slice (some ⟨g, 0, none⟩) j n ∧ i = .int .i64 j ∧ Hid (zs.map (·.1) = (xs.take j).map (·.1)) ∧ Hid (Dow wr w.heap.size (some ⟨g, 0, none⟩) j n zs) ∧ Hid (Below w.heap.size w wr)) (fun _ _ i _ => n - (intOf i).toNat)
  case atStart => exact ⟨0, [], Nat.zero_le _, rfl, rfl, rfl, DO, BW⟩
  case round =>
    clear DO BW
    obtain ⟨j, zs, hj, rfl, rfl, HZ, SO, B⟩ := hrel
    have i0 : (0 : Int) ≤ (j : Int) := by omega
    by_cases hlt : j < n
    · obtain ⟨b, off, x, rfl, hb, hx, hxm, c0, c1, c2', c3'⟩ := (HS.out.next B.out).at_ hlt
      have i1 : (j : Int) < (n : Int) := by omega
      have HX := Lib.hid hx
      have SF := Lib.hid ((HS.out.next B.out).fl x hxm)
      have LF := Lib.hid (HF.out x hxm)
      clear hx hxm hb
      go_upto_region 5 with fail
      clear c0 c1 c2' c3'
      have hbl := below_lit wr (.cells #[.int .u8 x.1.1, .int .u16 x.1.2.1, .int .u8 x.1.2.2.1, .slice x.2.1 x.2.2.1 x.2.2.2] 27)
      have K : Hid (DBlk (wr.alloc (.cells #[.int .u8 x.1.1, .int .u16 x.1.2.1, .int .u8 x.1.2.2.1, .slice x.2.1 x.2.2.1 x.2.2.2] 27)) wr.heap.size x.1 x.2) := DBlk.new wr x.1 x.2
      replace B := Lib.hid (thn B.out hbl)
      replace SF := Lib.hid (Sn.next SF.out hbl)
      replace SO := Lib.hid (SO.out.below hbl)
      clear hbl
      generalize wr.alloc (.cells #[.int .u8 x.1.1, .int .u16 x.1.2.1, .int .u8 x.1.2.2.1, .slice x.2.1 x.2.2.1 x.2.2.2] 27) = w2 at *
      obtain ⟨q, hq⟩ : ∃ q, wr.heap.size = q := ⟨_, rfl⟩
      rw [hq] at K ⊢
      clear hq
      obtain ⟨p0, p1, p2, p3⟩ := K.out.cells
      go_wp2_with fail
      refine (own_any x w2 SF.out LF.out).mono ?_
      rintro e w3 ⟨hd, rfl, of, b3⟩
      have OF := Lib.hid (of.mono B.out.size)
      replace B := Lib.hid (thn B.out b3)
      replace SO := Lib.hid (SO.out.below b3)
      clear of b3 p0 p1 p2 p3 K SF LF
      go_wp2_with (at_builtin; go_must (refine wpList_appsr rfl _ _ 23 rfl Try.underlying23 infoD rfl (Ows.below SO.out.ow (below_lit _ _)) rfl (Sn.lit w3 #[.int .u8 x.1.1, .int .u16 x.1.2.1, .int .u8 x.1.2.2.1, .slice hd.1 hd.2.1 hd.2.2] 27 (0, 0) 4 1 rfl (by decide)) (dcl_one (x.1, hd)) (by decide) (by omega) ?_); intro w5 o5 g5)
      have hbl := below_lit w3 (.cells #[.int .u8 x.1.1, .int .u16 x.1.2.1, .int .u8 x.1.2.2.1, .slice hd.1 hd.2.1 hd.2.2] 27)
      have B5 := Lib.hid ((B.out.alloc B.out.size _).grown g5 (Nat.le_trans B.out.size hbl.size) (fun k hk => by cases hk; exact LG.out))
      have SO2 := Lib.hid (Dow.app (d := x.1) (hd := hd) SO.out hbl (OF.out.below hbl) o5 g5)
      clear g5 o5 hbl OF
      go_roundw
      case rel => exact ⟨j + 1, zs ++ [(x.1, hd)], by omega, rfl, by go_num, by unfold Hid; rw [List.map_append, HZ.out, List.take_add_one, HX.out, List.map_append]; rfl, SO2, B5⟩
      case measure => simp [intOf]; omega
    · obtain rfl : j = n := by omega
      rw [List.take_of_length_le (by rw [← HL.out]; exact Nat.le_refl _)] at HZ
      go_wp2
      go_ret
      exact ⟨g, rfl, zs, HZ.out, SO.out, B.out⟩
end Go.Proofs.Ytdkchiodepdclaa
