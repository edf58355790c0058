/- Layer 9: slices.Delete at descriptors; desc.Drop, Older. -/
import Derived.Test.YtdkchiodepdclaaRba
import Derived.Test.YtdkchiodepdclaaRbc
namespace Go.Proofs.Ytdkchiodepdclaa
open Go.RowKit
set_option linter.unusedVariables false
theorem run_clear_n {P : Program} {w : World} {t e : TypeId} {z : Value} {s : Nat} (ht : P.underlying t = some (.slice e)) (hv : ∀ w, (zeroValue e).run P w = .ok z w) (hz : z.cells.size = s) (h1 : ∀ u ∈ z.cells.toList, u.oneCell' = true) (b o n c : Nat) (hn : 0 < n)
    (hc : ∀ j, j < n * s → (w.cell? ⟨b, o + j, none⟩).isSome = true) (hf : ∀ j, j < n * s → w.frozen? ⟨b, o + j, none⟩ = false) :
    ∃ vs : List Value, vs.length = n * s ∧ ∀ ty, (Builtin.clear_ #[t] ty #[.slice (some ⟨b, o, none⟩) n c]).run P w = .ok (.tuple #[]) (w.setCells b o vs) := by
  have hlen : (Builtin.zeroCells z.cells n).toList.length = n * s := by simp [Builtin.zeroCells, hz]
  refine ⟨(Builtin.zeroCells z.cells n).toList, hlen, fun ty => ?_⟩
  have hst := run_storeCells_cells (P := P) b o (Builtin.zeroCells z.cells n).toList 0 w (by rw [hlen]; simpa using hc) (by rw [hlen]; simpa using hf) (by
    intro v hv'
    simp only [Builtin.zeroCells, Array.toList_map, List.mem_map] at hv'
    obtain ⟨i, hi, rfl⟩ := hv'
    have hs0 : 0 < z.cells.size := by
      rcases Nat.eq_zero_or_pos z.cells.size with h0 | h0
      · rw [h0] at hi; simp at hi
      · exact h0
    have hm := Nat.mod_lt i hs0
    rw [getElem!_pos z.cells _ hm]
    exact h1 _ (by simp))
  simp only [Nat.add_zero] at hst
  obtain ⟨m, rfl⟩ : ∃ m, n = m + 1 := ⟨n - 1, by omega⟩
  simp [Builtin.clear_, run_underlying ht, hv, hst]
set_option maxHeartbeats 4000000 in
set_option maxRecDepth 100000 in
theorem delete_any (g n c k : Nat) (xs : List (Dsc × Hd)) (w : World) (B : Nat) (h : Ows w B 27 4 (some ⟨g, 0, none⟩) n c (dcs xs)) (hk : k < n) (hn : n ≤ 1000000) :
    Calls Try.prog 42 #[.slice (some ⟨g, 0, none⟩) n c, .int .i64 (k : Int), .int .i64 ((k : Int) + 1)] w fun e w' => ∃ m, m + 1 = n ∧ e = .returned (.slice (some ⟨g, 0, none⟩) m c) ∧ Ows w' B 27 4 (some ⟨g, 0, none⟩) m c (dcs (xs.take k ++ xs.drop (k + 1))) ∧ w.grownBy w' (some g) := by
  obtain ⟨m, hnm⟩ : ∃ m, m + 1 = n := ⟨n - 1, by omega⟩
  obtain ⟨hnc, hcm⟩ := h.capc
  have hxl : xs.length = n := by have := h.lenc; rw [dcs_length] at this; omega
  unfold maxLen at hcm
  obtain ⟨i0, hi, hz0, hz1, hz2⟩ := info_parts infoD
  obtain ⟨news, hnews⟩ : ∃ news, news = (dcs xs).drop ((k + 1) * 4) := ⟨_, rfl⟩
  have hnl : news.length = (n - (k + 1)) * 4 := by rw [hnews, List.length_drop, h.lenc, ← Nat.sub_mul]
  have h1n : Hid (∀ u ∈ news, u.oneCell' = true) := fun u hu => dcs_one xs u (List.mem_of_mem_drop (by rw [← hnews]; exact hu))
  obtain ⟨ad, hA, hsrc⟩ : ∃ ad : Addr, (if c = k + 1 then some (⟨g, 0, none⟩ : Addr) else some ⟨g, (k + 1) * 4, none⟩) = some ad ∧ Hid (∀ t u, news[t]? = some u → w.drew.cell? (ad.add t) = some u) := by
    by_cases hc : c = k + 1
    · refine ⟨⟨g, 0, none⟩, by simp [hc], fun t u hu => ?_⟩
      have h0 : news = [] := List.eq_nil_of_length_eq_zero (by rw [hnl]; omega)
      rw [h0] at hu; simp at hu
    · refine ⟨⟨g, (k + 1) * 4, none⟩, by simp [hc], fun t u hu => ?_⟩
      rw [Addr.add_lit]
      rw [hnews, List.getElem?_drop] at hu
      exact h.readc _ u hu
  have hslJ : ∀ w' : World, (Instr.slice 23 (.slice (some ⟨g, 0, none⟩) n c) (some (.int .i64 ((k : Int) + 1))) none none).run Try.prog w' = .ok (.slice (some ad) (n - (k + 1)) (c - (k + 1))) w' := fun w' => by
    rw [run_slice_l (P := Try.prog) w' 23 (some ⟨g, 0, none⟩) n c Try.underlying23 .i64 ((k : Int) + 1) (by omega) (by omega), show Try.prog.elem 23 = 27 from rfl, Try.sizeOf27 w']
    have e : ((k : Int) + 1).toNat = k + 1 := by omega
    rw [← hA]
    simp only [Result.andThen, sliced, e, Option.map, Addr.add_lit, Nat.zero_add]
  have hup := fun w' : World => run_upto (P := Try.prog) (w := w') (A := some ⟨g, 0, none⟩) (n := n) (c := c) (hi := k) 23 27 Try.underlying23 rfl 4 (fun w' => Try.sizeOf27 w') .i64 (k : Int) rfl (by omega)
  obtain ⟨X3, h3⟩ : ∃ X, ∀ w' : World, (Instr.slice 23 (.slice (some ⟨g, 0, none⟩) n c) (some (.int .i64 (k : Int))) (some (.int .i64 ((k : Int) + 1))) (some (.int .i64 (n : Int)))).run Try.prog w' = .ok X w' := ⟨_, fun w' => by
    rw [run_slice_lhm (P := Try.prog) w' 23 (some ⟨g, 0, none⟩) n c Try.underlying23 .i64 .i64 .i64 (k : Int) ((k : Int) + 1) (n : Int) (by omega) (by omega) (by omega) (by omega), show Try.prog.elem 23 = 27 from rfl, Try.sizeOf27 w']
    rfl⟩
  have hcl0 : ¬ c = m := by omega
  have hsl2 : ∀ w' : World, (Instr.slice 23 (.slice (some ⟨g, 0, none⟩) m c) (some (.int .i64 (m : Int))) (some (.int .i64 (n : Int))) none).run Try.prog w' = .ok (.slice (some ⟨g, m * 4, none⟩) 1 (c - m)) w' := fun w' => by
    rw [run_slice_lh (P := Try.prog) w' 23 (some ⟨g, 0, none⟩) m c Try.underlying23 .i64 .i64 (m : Int) (n : Int) (by omega) (by omega) (by omega), show Try.prog.elem 23 = 27 from rfl, Try.sizeOf27 w']
    have e : n - m = 1 := by omega
    simp only [Result.andThen, sliced, Option.map, Addr.add_lit, Nat.zero_add, Int.toNat_natCast, hcl0, if_false, e]
  have hS : Hid (Ows w.drew B 27 4 (some ⟨g, 0, none⟩) n c (dcs xs)) := h.same fun _ _ => rfl
  have s3 : Hid (∀ t, t < news.length → (w.drew.cell? ⟨g, 0 + k * 4 + t, none⟩).isSome = true ∧ w.drew.frozen? ⟨g, 0 + k * 4 + t, none⟩ = false) := fun t ht => by
    rw [hnl] at ht
    rw [Nat.zero_add]
    exact hS.out.therec _ (by omega)
  have hM : k + (n - (k + 1)) = m := by omega
  have hO1 : Hid (Ows (w.drew.setCells g (0 + k * 4) news) B 27 4 (some ⟨g, 0, none⟩) m c (dcs (xs.take k ++ xs.drop (k + 1)))) := by
    have h1 := (hS.out.inside news (k * 4) (by rw [hnl]; omega)).shrink (m := m) (by omega)
    rw [Nat.zero_add]
    have e : ((dcs xs).take (k * 4) ++ news ++ (dcs xs).drop (k * 4 + news.length)).take (m * 4) = dcs (xs.take k ++ xs.drop (k + 1)) := by
      rw [dcs_append, ← dcs_take, ← dcs_drop, ← hnews]
      rw [List.take_append_of_le_length (by rw [List.length_append, List.length_take, h.lenc, hnl]; omega), List.take_of_length_le (by rw [List.length_append, List.length_take, h.lenc, hnl]; omega)]
    rw [e] at h1
    exact h1
  have hG1 : Hid (w.grownBy (w.drew.setCells g (0 + k * 4) news) (some g)) := by
    have := grown_sets g news (0 + k * 4) w.drew
    exact ⟨this.os, this.tape, this.output, this.size, this.block⟩
  obtain ⟨W1, hW1⟩ : ∃ W1, W1 = w.drew.setCells g (0 + k * 4) news := ⟨_, rfl⟩
  rw [← hW1] at hO1 hG1
  obtain ⟨vs, hvl, hcl⟩ := run_clear_n (P := Try.prog) (w := W1) (t := 23) (e := 27) (z := .agg #[.int .u8 0, .int .u16 0, .int .u8 0, .slice none 0 0]) (s := 4) Try.underlying23 (fun w => by simp [zeroValue, typeInfo, hi, hz0]) rfl (by intro u hu; exact dcl_one ((0, 0, 0, []), (none, 0, 0)) u hu) g (m * 4) 1 (c - m) (by omega)
    (fun t ht => (hO1.out.therec (m * 4 + t) (by omega)).1) (fun t ht => (hO1.out.therec (m * 4 + t) (by omega)).2)
  have hO2 : Hid (Ows (W1.setCells g (m * 4) vs) B 27 4 (some ⟨g, 0, none⟩) m c (dcs (xs.take k ++ xs.drop (k + 1)))) := hO1.out.behind vs (m * 4) (Nat.le_refl _)
  have hG2 : Hid (w.grownBy (W1.setCells g (m * 4) vs) (some g)) := grown_two hG1.out (grown_sets g vs (m * 4) W1)
  have HW := Lib.hid hW1
  have HI := Lib.hid hi
  have HZ1 := Lib.hid hz1
  have HNL := Lib.hid hnl
  have HM := Lib.hid hM
  have HR : k + (n - (k + 1)) ≤ c := by omega
  have hkk : ((k : Int) == (k : Int) + 1) = false := by
    rw [beq_eq_false_iff_ne]; omega
  clear hW1 hi hz0 hz1 hz2 hnl hM hO1 hG1 hvl h hS hA hnews
  go_enter Try.func42, Try.ntmps42
  have mixed : Try.prog.follows .mixedOrders = true := by kernel_rfl
  go_wp2_with fail
  go_region_law_o (refine step_append_room rfl (.tmp 22) (.tmp 25) 23 rfl 27 i0 4 Try.underlying23 HI.out HZ1.out g 0 k c (by simp [Act.eval, Act.put]) ad (n - (k + 1)) (c - (k + 1)) news (by simp [Act.eval, Act.put]) HNL.out hsrc.out h1n.out HR s3.out ?_; rw [← HW.out, HM.out])
  go_wp2
  go_ret
  exact ⟨m, hnm, rfl, hO2.out, hG2.out⟩
theorem spot_drop {xs : List (Dsc × Hd)} {node : Int} {k : Nat} (h : Spot xs node k true) (hr : RiseX xs) : xs.take k ++ xs.drop (k + 1) = xs.filter fun x => decide (x.1.1 ≠ node) := by
  obtain ⟨x, hx, he⟩ := h.hit rfl
  obtain ⟨hk, rfl⟩ := List.getElem?_eq_some_iff.1 hx
  have e : xs = xs.take k ++ xs[k] :: xs.drop (k + 1) := by rw [← List.drop_eq_getElem_cons hk, List.take_append_drop]
  have e1 : (xs.take k).filter (fun x => decide (x.1.1 ≠ node)) = xs.take k := List.filter_eq_self.2 fun y hy => by
    obtain ⟨i, hi, rfl⟩ := List.mem_iff_getElem.1 hy
    rw [List.length_take] at hi
    have := h.lo i _ (by omega) (List.getElem?_eq_getElem (by omega))
    rw [List.getElem_take]
    exact decide_eq_true (by omega)
  have e2 : (xs.drop (k + 1)).filter (fun x => decide (x.1.1 ≠ node)) = xs.drop (k + 1) := List.filter_eq_self.2 fun y hy => by
    obtain ⟨i, hi, rfl⟩ := List.mem_iff_getElem.1 hy
    rw [List.length_drop] at hi
    have := riseX_lt hr (i := k) (j := k + 1 + i) (by omega) hx (List.getElem?_eq_getElem (by omega))
    rw [List.getElem_drop]
    exact decide_eq_true (by omega)
  conv => rhs; rw [e]
  rw [List.filter_append, List.filter_cons, e1, e2, if_neg (by simpa using he)]
theorem spot_none {xs : List (Dsc × Hd)} {node : Int} {k : Nat} (h : Spot xs node k false) (hr : RiseX xs) : xs.filter (fun x => decide (x.1.1 ≠ node)) = xs := by
  have h1 := h.find hr
  simp only [Bool.false_eq_true, if_false] at h1
  have := findI_miss (ds := xs.map (·.1)) (n := node) (by omega)
  exact List.filter_eq_self.2 fun y hy => decide_eq_true (this y.1 (List.mem_map.2 ⟨y, hy, rfl⟩))
theorem Dow.rewrote {w w' : World} {B n c m : Nat} {g : Nat} {xs ys : List (Dsc × Hd)} (h : Dow w B (some ⟨g, 0, none⟩) n c xs) (hg : w.grownBy w' (some g)) (ho : Ows w' B 27 4 (some ⟨g, 0, none⟩) m c (dcs ys)) (hf : ∀ y ∈ ys, ∃ x ∈ xs, x.2 = y.2 ∧ x.1.2.2.2 = y.1.2.2.2) : Dow w' B (some ⟨g, 0, none⟩) m c ys :=
  ⟨ho, fun y hy => by
    obtain ⟨x, hx, h1, h2⟩ := hf y hy
    rw [← h1, ← h2]
    exact Ows.other (h.fo x hx) h.ow (by decide) hg⟩
theorem drop_any (A : Option Addr) (n c : Nat) (xs : List (Dsc × Hd)) (node : Int) (w : World) (h : Sds w A n c xs) (hf : Fit n xs) (hv : isView (xs.map (·.1))) : Calls Try.prog 32 #[.slice A n c, .int .u8 node] w (GaveDo (dropD (xs.map (·.1)) node) w) := by
  obtain ⟨self, room, hR⟩ := hv
  have HR := Lib.hid hR.2.1
  have hn : n ≤ 1000000 := by have := hf.len; omega
  have HC := Lib.hid (copyX_any A n c xs w h hn (fun x hx => by have := (hf.all x hx).2; omega))
  clear h hf hR
  go_enter Try.func32, Try.ntmps32
  go_wp2_with fail
  refine HC.out.mono ?_
  rintro e w1 ⟨g, zs, rfl, hz, dz, b1⟩
  have HZ := Lib.hid hz
  have hrz : RiseX zs := by show (zs.map (·.1)).Pairwise _; rw [hz]; exact HR.out
  have HRZ := Lib.hid hrz
  have DZ := Lib.hid dz
  have HP := Lib.hid (place_any (some ⟨g, 0, none⟩) n n zs node w1 dz.sds hn hrz)
  have B1 := Lib.hid b1
  have LG : Hid (w.heap.size ≤ g) := dz.ow.rowc.1
  clear hz hrz dz b1 HC
  go_wp2_with fail
  refine HP.out.mono ?_
  rintro e w2 ⟨k, b, rfl, sp, b2⟩
  have SP := Lib.hid sp
  have D2 := Lib.hid (DZ.out.below b2)
  have B2 := Lib.hid (thn B1.out b2)
  clear sp b2 DZ B1 HP
  cases b
  · have HE : Hid (zs.map (·.1) = dropD (xs.map (·.1)) node) := by
      unfold Hid
      rw [← HZ.out, ← xdrop, spot_none SP.out HRZ.out]
    go_wp2
    go_ret
    exact ⟨_, _, _, zs, rfl, HE.out, D2.out, B2.out⟩
  · have hk : k < n := by
      obtain ⟨x, hx, _⟩ := SP.out.hit rfl
      have := (List.getElem?_eq_some_iff.1 hx).1
      have := D2.out.len
      omega
    have HE : Hid ((zs.take k ++ zs.drop (k + 1)).map (·.1) = dropD (xs.map (·.1)) node) := by
      unfold Hid
      rw [← HZ.out, ← xdrop, spot_drop SP.out HRZ.out]
    have HD := Lib.hid (delete_any g n n k zs w2 w.heap.size D2.out.ow hk hn)
    go_wp2_with fail
    refine HD.out.mono ?_
    rintro e w3 ⟨m, hm, rfl, o3, g3⟩
    have D3 : Hid (Dow w3 w.heap.size (some ⟨g, 0, none⟩) m n (zs.take k ++ zs.drop (k + 1))) := D2.out.rewrote g3 o3 fun y hy => ⟨y, by
      rcases List.mem_append.1 hy with hy | hy
      · exact List.mem_of_mem_take hy
      · exact List.mem_of_mem_drop hy, rfl, rfl⟩
    have B3 := Lib.hid (belowG B2.out g3 B2.out.size LG.out)
    clear hm o3 g3
    go_wp2
    go_ret
    exact ⟨_, _, _, _, rfl, HE.out, D3.out, B3.out⟩
theorem dcs_set2 : ∀ (ys : List (Dsc × Hd)) (j : Nat) (y : Dsc × Hd) (a : Int), ys[j]? = some y → (dcs ys).set (j * 4 + 2) (.int .u8 a) = dcs (ys.set j ((y.1.1, y.1.2.1, a, y.1.2.2.2), y.2))
  | [], j, y, a, h => by simp at h
  | q :: ys, 0, y, a, h => by
    obtain rfl := Option.some.inj h
    simp [dcs_cons, dcl]
  | q :: ys, j + 1, y, a, h => by
    rw [dcs_cons, List.set_append_right _ _ (by simp [dcl]; omega), show (j + 1) * 4 + 2 - (dcl q).length = j * 4 + 2 by simp [dcl]; omega, dcs_set2 ys j y a (by simpa using h), List.set_cons_succ, dcs_cons]
abbrev olX (zs : List (Dsc × Hd)) (j : Nat) : List (Dsc × Hd) := (zs.take j).map (fun x => (oldD x.1, x.2)) ++ zs.drop j
theorem olX_at {zs : List (Dsc × Hd)} {j : Nat} {z : Dsc × Hd} (h : zs[j]? = some z) : (olX zs j)[j]? = some z := by
  have hj := (List.getElem?_eq_some_iff.1 h).1
  rw [List.getElem?_append_right (by simp; omega), List.length_map, List.length_take, Nat.min_eq_left (by omega), Nat.sub_self, List.getElem?_drop, Nat.add_zero]
  exact h
theorem olX_succ {zs : List (Dsc × Hd)} {j : Nat} {z : Dsc × Hd} (h : zs[j]? = some z) : (olX zs j).set j (oldD z.1, z.2) = olX zs (j + 1) := by
  have hj := (List.getElem?_eq_some_iff.1 h).1
  unfold olX
  rw [List.set_append_right _ _ (by simp; omega), List.length_map, List.length_take, Nat.min_eq_left (by omega), Nat.sub_self, List.drop_eq_getElem_cons hj, List.set_cons_zero, List.take_add_one, h]
  simp
end Go.Proofs.Ytdkchiodepdclaa
