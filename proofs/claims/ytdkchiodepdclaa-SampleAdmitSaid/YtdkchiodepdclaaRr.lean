/- Layer 9: the references Newer, Find, Drop, Older, Oldest; Few. -/
import Derived.Test.YtdkchiodepdclaaRl
import Derived.Deep.Cut
namespace Go.Proofs.Ytdkchiodepdclaa
open Go.RowKit
set_option linter.unusedVariables false
def newerD (a b : Dsc) : Bool := if a.2.1 = b.2.1 then decide (a.2.2.1 < b.2.2.1) else decide (b.2.1 < a.2.1)
def findI (ds : List Dsc) (n : Int) : Int := if ds.findIdx (fun d => decide (d.1 = n)) < ds.length then (ds.findIdx (fun d => decide (d.1 = n)) : Int) else -1
theorem findI_at {ds : List Dsc} {n : Int} {j : Nat} {d : Dsc} (hd : ds[j]? = some d) (h : d.1 = n) (hb : ∀ i e, i < j → ds[i]? = some e → e.1 ≠ n) : findI ds n = j := by
  have hj := (List.getElem?_eq_some_iff.1 hd).1
  have e : ds.findIdx (fun d => decide (d.1 = n)) = j := by
    rw [List.findIdx_eq hj]
    refine ⟨decide_eq_true (by rw [(List.getElem?_eq_some_iff.1 hd).2]; exact h), fun i hi => decide_eq_false (hb i _ hi (List.getElem?_eq_getElem _))⟩
  unfold findI
  rw [e, if_pos hj]
theorem findI_none {ds : List Dsc} {n : Int} (hb : ∀ d ∈ ds, d.1 ≠ n) : findI ds n = -1 := by
  have e : ds.findIdx (fun d => decide (d.1 = n)) = ds.length := List.findIdx_eq_length.2 fun d hd => decide_eq_false (hb d hd)
  unfold findI
  rw [e, if_neg (by omega)]
theorem findI_range (ds : List Dsc) (n : Int) : -1 ≤ findI ds n ∧ findI ds n < (ds.length : Int) := by
  unfold findI
  split <;> omega
theorem findI_hit {ds : List Dsc} {n : Int} (h : 0 ≤ findI ds n) : ∃ d, ds[(findI ds n).toNat]? = some d ∧ d.1 = n := by
  unfold findI at h ⊢
  split
  · rename_i hl
    refine ⟨_, by rw [Int.toNat_natCast]; exact List.getElem?_eq_getElem hl, ?_⟩
    have := List.findIdx_getElem (w := hl)
    exact of_decide_eq_true this
  · rename_i hl
    rw [if_neg hl] at h; omega
theorem findI_miss {ds : List Dsc} {n : Int} (h : findI ds n < 0) : ∀ d ∈ ds, d.1 ≠ n := by
  unfold findI at h
  split at h
  · omega
  · rename_i hl
    intro d hd he
    exact hl (List.findIdx_lt_length.2 ⟨d, hd, decide_eq_true he⟩)
def dropD (ds : List Dsc) (n : Int) : List Dsc := ds.filter fun d => decide (d.1 ≠ n)
def oldD (d : Dsc) : Dsc := (d.1, d.2.1, if d.2.2.1 = 255 then 255 else d.2.2.1 + 1, d.2.2.2)
def olderD (ds : List Dsc) : List Dsc := ds.map oldD
theorem xdrop (xs : List (Dsc × Hd)) (n : Int) : (xs.filter fun x => decide (x.1.1 ≠ n)).map (·.1) = dropD (xs.map (·.1)) n := by
  unfold dropD
  rw [List.filter_map]; rfl
theorem newer_any (x y : Dsc × Hd) (w : World) : Calls Try.prog 43 #[(.agg #[.int .u8 x.1.1, .int .u16 x.1.2.1, .int .u8 x.1.2.2.1, .slice x.2.1 x.2.2.1 x.2.2.2]), (.agg #[.int .u8 y.1.1, .int .u16 y.1.2.1, .int .u8 y.1.2.2.1, .slice y.2.1 y.2.2.1 y.2.2.2])] w fun e w' => e = .returned (.bool (newerD x.1 y.1)) ∧ Below w.heap.size w w' := by
  obtain ⟨_, _, B⟩ := dboxes2 w x y
  unfold newerD
  by_cases h : x.1.2.1 = y.1.2.1
  · rw [if_pos h]
    have hb : (x.1.2.1 == y.1.2.1) = true := by simpa using h
    clear h
    go_enter Try.func43, Try.ntmps43
    go_wp2
    go_ret
    exact ⟨rfl, B.out⟩
  · rw [if_neg h]
    have hb : (x.1.2.1 == y.1.2.1) = false := by simpa using h
    clear h
    go_enter Try.func43, Try.ntmps43
    go_wp2
    go_ret
    exact ⟨rfl, B.out⟩
theorem reffind_any (A : Option Addr) (n c : Nat) (xs : List (Dsc × Hd)) (node : Int) (w : World) (h : Sds w A n c xs) : Calls Try.prog 34 #[.slice A n c, .int .u8 node] w fun e w' => e = .returned (.int .i64 (findI (xs.map (·.1)) node)) ∧ Below w.heap.size w w' := by
  have HL : Hid (n = xs.length) := h.len
  have hm := h.max
  have hc := h.cap
  unfold maxLen at hm
  have HS := Lib.hid h
  clear h
  go_enter Try.func34, Try.ntmps34
  go_wp2
  go_loopw [5] (fun i wr => ∃ j : Nat, j ≤ n ∧ i = .int .i64 j ∧ Hid (∀ i x, i < j → xs[i]? = some x → x.1.1 ≠ node) ∧ Hid (Below w.heap.size w wr)) (fun i _ => n - (intOf i).toNat)
  case atStart => exact ⟨0, Nat.zero_le _, rfl, fun i x hi => absurd hi (Nat.not_lt_zero _), Below.refl _ _⟩
  case round =>
    obtain ⟨j, hj, rfl, HB, B⟩ := hrel
    have i0 : (0 : Int) ≤ (j : Int) := by omega
    by_cases hlt : j < n
    · obtain ⟨b, off, x, rfl, hb, hx, hxm, c0, c1, c2, c3⟩ := (HS.out.next B.out).at_ hlt
      have i1 : (j : Int) < (n : Int) := by omega
      by_cases he : x.1.1 = node
      · have HF : Hid (findI (xs.map (·.1)) node = j) := findI_at (by rw [List.getElem?_map, hx]; rfl) he fun i e hi hd => by
          rw [List.getElem?_map] at hd
          cases hxi : xs[i]? with
          | none => rw [hxi] at hd; cases hd
          | some y => rw [hxi] at hd; injection hd with hd; rw [← hd]; exact HB.out i y hi hxi
        have heb : (x.1.1 == node) = true := by simpa using he
        clear he hx hxm hb
        go_wp2
        go_ret
        exact ⟨by rw [HF.out]; rfl, B.out⟩
      · have HB2 : Hid (∀ i x, i < j + 1 → xs[i]? = some x → x.1.1 ≠ node) := fun i y hi hy => by
          rcases Nat.lt_or_ge i j with h1 | h1
          · exact HB.out i y h1 hy
          · obtain rfl : i = j := by omega
            rw [hx] at hy; injection hy with hy; rw [← hy]; exact he
        have heb : (x.1.1 == node) = false := by simpa using he
        clear he hx hxm hb HB
        go_wp2
        go_roundw
        case rel => exact ⟨j + 1, by omega, by go_num, HB2, B⟩
        case measure => simp [intOf]; omega
    · obtain rfl : j = n := by omega
      have HF : Hid (findI (xs.map (·.1)) node = -1) := findI_none fun d hd => by
        obtain ⟨x, hx, rfl⟩ := List.mem_map.1 hd
        obtain ⟨i, hi, e⟩ := List.mem_iff_getElem.1 hx
        exact HB.out i x (by rw [HL.out]; exact hi) (by rw [← e]; exact List.getElem?_eq_getElem hi)
      go_wp2
      go_ret
      exact ⟨by rw [HF.out]; rfl, B.out⟩
set_option maxHeartbeats 1000000 in
theorem refdrop_any (A : Option Addr) (n c : Nat) (xs : List (Dsc × Hd)) (node : Int) (w : World) (h : Sds w A n c xs) (hn8 : n ≤ 1000000) : Calls Try.prog 36 #[.slice A n c, .int .u8 node] w (GaveDs (dropD (xs.map (·.1)) node) w) := by
  have HL : Hid (n = xs.length) := h.len
  have hm := h.max
  have hc := h.cap
  unfold maxLen at hm
  have HS := Lib.hid h
  clear h
  go_enter Try.func36, Try.ntmps36
  go_wp2
  go_loopw [5, 6] (fun lv i wr => ∃ (j m : Nat) (A2 : Option Addr) (c2 : Nat) (zs : List (Dsc × Hd)), j ≤ n ∧ m ≤ j ∧ lv = .slice A2 m c2 ∧ i = .int .i64 j ∧ Hid ((xs.take j).filter (fun x => decide (x.1.1 ≠ node)) = zs) ∧ Hid (Ods wr w.heap.size A2 m c2 zs) ∧ Hid (Below w.heap.size w wr)) (fun _ i _ => n - (intOf i).toNat)
  case atStart => exact ⟨0, 0, none, 0, [], Nat.zero_le _, Nat.le_refl _, rfl, rfl, rfl, Ods.nil _ _, Below.refl _ _⟩
  case round =>
    obtain ⟨j, m, A2, c2, zs, hj, hmj, rfl, rfl, HZ, SO, B⟩ := hrel
    have i0 : (0 : Int) ≤ (j : Int) := by omega
    by_cases hlt : j < n
    · obtain ⟨b, off, x, rfl, hb, hx, hxm, c0, c1, c2', c3'⟩ := (HS.out.next B.out).at_ hlt
      have i1 : (j : Int) < (n : Int) := by omega
      by_cases he : x.1.1 = node
      · have HZ2 : Hid ((xs.take (j + 1)).filter (fun x => decide (x.1.1 ≠ node)) = zs) := by unfold Hid; rw [List.take_add_one, hx, List.filter_append, HZ.out]; simp [he]
        have heb : (x.1.1 == node) = true := by simpa using he
        clear he hx hxm hb HZ
        go_wp2
        go_roundw
        case rel => exact ⟨j + 1, m, A2, c2, zs, by omega, by omega, rfl, by go_num, HZ2, SO, B⟩
        case measure => simp [intOf]; omega
      · have HZ2 : Hid ((xs.take (j + 1)).filter (fun x => decide (x.1.1 ≠ node)) = zs ++ [x]) := by unfold Hid; rw [List.take_add_one, hx, List.filter_append, HZ.out]; simp [he]
        have heb : (x.1.1 == node) = false := by simpa using he
        have HM : Hid (∀ z ∈ zs ++ [x], z ∈ xs) := fun z hz => by rw [← HZ2.out] at hz; exact List.mem_of_mem_take (List.mem_filter.1 hz).1
        clear he hx hxm hb HZ
        go_wp2_with (at_builtin; go_must (refine wpList_appsx rfl _ _ 23 rfl Try.underlying23 infoD rfl (by decide) rfl (Ows.below SO.out.ow (below_lit _ _)) rfl (Sn.lit wr #[.int .u8 x.1.1, .int .u16 x.1.2.1, .int .u8 x.1.2.2.1, .slice x.2.1 x.2.2.1 x.2.2.2] 27 (0, 0) 4 1 rfl (by decide)) (dcl_one (x.1, x.2)) (by omega) (by decide) (Nat.le_trans B.out.size (below_lit _ _).size) ?_); intro A3 c3 w5 o5 g5)
        have hbl := below_lit wr (.cells #[.int .u8 x.1.1, .int .u16 x.1.2.1, .int .u8 x.1.2.2.1, .slice x.2.1 x.2.2.1 x.2.2.2] 27)
        have B5 := Lib.hid ((B.out.alloc B.out.size _).grown g5 (Nat.le_trans B.out.size hbl.size) (Ows.below SO.out.ow hbl).lt)
        clear g5 hbl
        have SO2 : Hid (Ods w5 w.heap.size A3 (m + 1) c3 (zs ++ [x])) := ⟨by rw [dcs_append, dcs_cons, dcs_nil, List.append_nil]; exact o5, fun z hz => Sn.next (HS.out.fl z (HM.out z hz)) B5.out⟩
        clear o5
        go_roundw
        case rel => exact ⟨j + 1, m + 1, A3, c3, zs ++ [x], by omega, by omega, rfl, by go_num, HZ2, SO2, B5⟩
        case measure => simp [intOf]; omega
    · obtain rfl : j = n := by omega
      rw [List.take_of_length_le (by rw [← HL.out]; exact Nat.le_refl _)] at HZ
      go_wp2
      go_ret
      exact ⟨A2, m, c2, zs, rfl, by rw [← HZ.out]; exact xdrop xs node, SO.out.sds, B.out⟩
theorem DBlk.pos {w : World} {g : Nat} {d : Dsc} {h : Hd} (k : DBlk w g d h) {B : Nat} (hB : B ≤ g) : B ≤ w.heap.size := Nat.le_trans hB (Nat.le_of_lt k.lt)
theorem grown_set (w : World) (g i : Nat) (v : Value) : w.grownBy (w.setCell ⟨g, i, none⟩ v) (some g) := ⟨rfl, rfl, rfl, by simp, fun k hk hne => Below.heap_setCell _ _ _ _ (fun e => hne (by rw [e]))⟩
theorem belowG {n0 g : Nat} {w0 w w' : World} (h : Below n0 w0 w) (hg : w.grownBy w' (some g)) (h1 : n0 ≤ w.heap.size) (h2 : n0 ≤ g) : Below n0 w0 w' := h.grown hg h1 fun k hk => by cases hk; exact h2
theorem Ows.grown {w w' : World} {B g : Nat} {E : TypeId} {s : Nat} {A : Option Addr} {n c : Nat} {xs : List Value} (h : Ows w B E s A n c xs) (hg : w.grownBy w' (some g)) (hne : ∀ q, Value.ownBlock (.slice A n c) = some q → q ≠ g) : Ows w' B E s A n c xs :=
  h.same fun q hq => hg.block q (h.near q hq).2 (by simpa using hne q hq)
theorem xolder (xs : List (Dsc × Hd)) : (xs.map fun x => (oldD x.1, x.2)).map (·.1) = olderD (xs.map (·.1)) := by
  unfold olderD
  rw [List.map_map, List.map_map]; rfl
end Go.Proofs.Ytdkchiodepdclaa
