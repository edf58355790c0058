/- Layer 10: the reference's Pick. -/
import Derived.Test.YtgbnnllbpidlfaaYc
namespace Go.Proofs.Ytgbnnllbpidlfaa
open Go.RowKit
set_option linter.unusedVariables false
set_option maxHeartbeats 1000000 in
theorem refdropK_any (A : Option Addr) (n c : Nat) (xs : List (Dsc × Hd)) (node : Int) (w : World) (h : Sds w A n c xs) (hn8 : n ≤ 1000000) : Calls Try.prog 33 #[.slice A n c, .int .u8 node] w fun e w' => ∃ (A2 : Option Addr) (m c2 : Nat), e = .returned (.slice A2 m c2) ∧ Ods w' w.heap.size A2 m c2 (xs.filter fun x => decide (x.1.1 ≠ node)) ∧ Below w.heap.size w w' := by
  have HL : Hid (n = xs.length) := h.len
  have hm := h.max
  have hc := h.cap
  unfold maxLen at hm
  have HS := Lib.hid h
  clear h
  go_enter Try.func33, Try.ntmps33
  go_wp2
  go_loopw [5, 6] (fun lv i wr => ∃ (j m : Nat) (A2 : Option Addr) (c2 : Nat) (zs : List (Dsc × Hd)), j ≤ n ∧ m ≤ j ∧ lv = .slice A2 m c2 ∧ i = .int .i64 j ∧ Hid ((xs.take j).filter (fun x => decide (x.1.1 ≠ node)) = zs) ∧ Hid (Ods wr w.heap.size A2 m c2 zs) ∧ Hid (Below w.heap.size w wr)) (fun _ i _ => n - (intOf i).toNat)
  case atStart => exact ⟨0, 0, none, 0, [], Nat.zero_le _, Nat.le_refl _, rfl, rfl, rfl, Ods.nil _ _, Below.refl _ _⟩
  case round =>
    obtain ⟨j, m, A2, c2, zs, hj, hmj, rfl, rfl, HZ, SO, B⟩ := hrel
    have i0 : (0 : Int) ≤ (j : Int) := by omega
    by_cases hlt : j < n
    · obtain ⟨b, off, x, rfl, hb, hx, hxm, c0, c1, c2', c3'⟩ := (HS.out.next B.out).at_ hlt
      have i1 : (j : Int) < (n : Int) := by omega
      by_cases he : x.1.1 = node
      · have HZ2 : Hid ((xs.take (j + 1)).filter (fun x => decide (x.1.1 ≠ node)) = zs) := by unfold Hid; rw [List.take_add_one, hx, List.filter_append, HZ.out]; simp [he]
        have heb : (x.1.1 == node) = true := by simpa using he
        clear he hx hxm hb HZ
        go_wp2
        go_roundw
        case rel => exact ⟨j + 1, m, A2, c2, zs, by omega, by omega, rfl, by go_num, HZ2, SO, B⟩
        case measure => simp [intOf]; omega
      · have HZ2 : Hid ((xs.take (j + 1)).filter (fun x => decide (x.1.1 ≠ node)) = zs ++ [x]) := by unfold Hid; rw [List.take_add_one, hx, List.filter_append, HZ.out]; simp [he]
        have heb : (x.1.1 == node) = false := by simpa using he
        have HM : Hid (∀ z ∈ zs ++ [x], z ∈ xs) := fun z hz => by rw [← HZ2.out] at hz; exact List.mem_of_mem_take (List.mem_filter.1 hz).1
        clear he hx hxm hb HZ
        go_wp2_with (at_builtin; go_must (refine wpList_appsx rfl _ _ 22 rfl Try.underlying22 infoD rfl (by decide) rfl (Ows.below SO.out.ow (below_lit _ _)) rfl (Sn.lit wr #[.int .u8 x.1.1, .int .u16 x.1.2.1, .int .u8 x.1.2.2.1, .slice x.2.1 x.2.2.1 x.2.2.2] 34 (0, 0) 4 1 rfl (by decide)) (dcl_one (x.1, x.2)) (by omega) (by decide) (Nat.le_trans B.out.size (below_lit _ _).size) ?_); intro A3 c3 w5 o5 g5)
        have hbl := below_lit wr (.cells #[.int .u8 x.1.1, .int .u16 x.1.2.1, .int .u8 x.1.2.2.1, .slice x.2.1 x.2.2.1 x.2.2.2] 34)
        have B5 := Lib.hid ((B.out.alloc B.out.size _).grown g5 (Nat.le_trans B.out.size hbl.size) (Ows.below SO.out.ow hbl).lt)
        clear g5 hbl
        have SO2 : Hid (Ods w5 w.heap.size A3 (m + 1) c3 (zs ++ [x])) := ⟨by rw [dcs_append, dcs_cons, dcs_nil, List.append_nil]; exact o5, fun z hz => Sn.next (HS.out.fl z (HM.out z hz)) B5.out⟩
        clear o5
        go_roundw
        case rel => exact ⟨j + 1, m + 1, A3, c3, zs ++ [x], by omega, by omega, rfl, by go_num, HZ2, SO2, B5⟩
        case measure => simp [intOf]; omega
    · obtain rfl : j = n := by omega
      rw [List.take_of_length_le (by rw [← HL.out]; exact Nat.le_refl _)] at HZ
      go_wp2
      go_ret
      exact ⟨A2, m, c2, rfl, by rw [HZ.out]; exact SO.out, B.out⟩
theorem Ows.apart {w w' : World} {B : Nat} {A A' : Option Addr} {n c n' c' : Nat} {xs : List Value} (h : Ows w B 34 4 A n c xs) (hne : ∀ q, Value.ownBlock (.slice A n c) = some q → Value.ownBlock (.slice A' n' c') ≠ some q) (g : w.grownBy w' (Value.ownBlock (.slice A' n' c'))) : Ows w' B 34 4 A n c xs :=
  h.same fun q hq => g.block q (h.near q hq).2 (fun e => hne q hq e.symm)
def GavePk (xs : List (Dsc × Hd)) (ds : List Dsc) (w : World) (e : Ending) (w' : World) : Prop := ∃ (A2 : Option Addr) (m c2 : Nat) (ps : List (Dsc × Hd)), e = .returned (.slice A2 m c2) ∧ ps.map (·.1) = ds ∧ Ows w' w.heap.size 34 4 A2 m c2 (dcs ps) ∧ (∀ x ∈ ps, x ∈ xs) ∧ Below w.heap.size w w'
theorem cut_of {ls : List (Dsc × Hd)} {k : Nat} {x : Dsc × Hd} (h : RiseD (ls.map (·.1))) (hx : ls[k]? = some x) : ls.filter (fun y => decide (y.1.1 ≠ x.1.1)) = ls.take k ++ ls.drop (k + 1) := by
  obtain ⟨hk, rfl⟩ := List.getElem?_eq_some_iff.1 hx
  have hp := List.pairwise_map.1 h
  have e : ls = ls.take k ++ ls[k] :: ls.drop (k + 1) := by rw [← List.drop_eq_getElem_cons hk, List.take_append_drop]
  have e1 : (ls.take k).filter (fun y => decide (y.1.1 ≠ ls[k].1.1)) = ls.take k := List.filter_eq_self.2 fun y hy => by
    obtain ⟨i, hi, rfl⟩ := List.mem_iff_getElem.1 hy
    rw [List.length_take] at hi
    have := List.pairwise_iff_getElem.1 hp i k (by omega) hk (by omega)
    rw [List.getElem_take]
    exact decide_eq_true (by omega)
  have e2 : (ls.drop (k + 1)).filter (fun y => decide (y.1.1 ≠ ls[k].1.1)) = ls.drop (k + 1) := List.filter_eq_self.2 fun y hy => by
    obtain ⟨i, hi, rfl⟩ := List.mem_iff_getElem.1 hy
    rw [List.length_drop] at hi
    have := List.pairwise_iff_getElem.1 hp k (k + 1 + i) hk (by omega) (by omega)
    rw [List.getElem_drop]
    exact decide_eq_true (by omega)
  generalize hn : ls[k].1.1 = node at *
  conv => lhs; rw [e]
  rw [List.filter_append, List.filter_cons, e1, e2, if_neg (by simpa using hn)]
set_option maxHeartbeats 4000000 in
set_option maxRecDepth 100000 in
theorem refpickK_any (A : Option Addr) (n c : Nat) (xs : List (Dsc × Hd)) (many not : Int) (Ad : Option Addr) (nd cd : Nat) (rs : List Int) (w : World) (h : Sds w A n c xs) (hn8 : n ≤ 1000000) (hrise : RiseD (xs.map (·.1))) (hd : Su w Ad nd cd rs) (hr : drawR rs) :
    Calls Try.prog 16 #[.slice A n c, .int .i64 many, .int .u8 not, .slice Ad nd cd] w (GavePk xs (pickD (dropD (xs.map (·.1)) not) many rs) w) := by
  have HFL := Lib.hid h.fl
  have HS := Lib.hid h
  have HD := Lib.hid hd
  have HR := Lib.hid hr
  have HLD := Lib.hid hd.len
  have HN : Hid (n = xs.length) := h.len
  have hdm := Sv.max hd
  have hdc := Sv.cap hd
  unfold maxLen at hdm
  have HRS : Hid (RiseD ((xs.filter (fun x => decide (x.1.1 ≠ not))).map (·.1))) := hrise.sublist (List.Sublist.map _ List.filter_sublist)
  have HI : Hid (pickD ((xs.filter (fun x => decide (x.1.1 ≠ not))).map (·.1)) many rs = pickD (dropD (xs.map (·.1)) not) many rs) := by unfold Hid; rw [xdrop]
  obtain ⟨RR, HRR⟩ : ∃ RR, Hid (pickD (dropD (xs.map (·.1)) not) many rs = RR) := ⟨_, rfl⟩
  rw [HRR.out] at HI ⊢
  have HSUB : Hid (∀ x ∈ xs.filter (fun x => decide (x.1.1 ≠ not)), x ∈ xs) := fun x hx => (List.mem_filter.1 hx).1
  have hfl : (xs.filter (fun x => decide (x.1.1 ≠ not))).length ≤ n := by rw [HN.out]; exact List.length_filter_le _ _
  have HC := Lib.hid (refdropK_any A n c xs not w h hn8)
  generalize xs.filter (fun x => decide (x.1.1 ≠ not)) = l0 at *
  clear h hd hr hrise HRR
  go_enter Try.func16, Try.ntmps16
  go_wp2_with fail
  refine HC.out.mono ?_
  rintro e w2 ⟨A1, m1, c1, rfl, o1, b1⟩
  have D1 := Lib.hid o1.ow
  obtain rfl : m1 = l0.length := o1.len
  have B1 := Lib.hid b1
  clear o1 b1 HC
  go_wp2
  go_loopw [9, 10, 11, 12] (fun s9 s10 s11 _ wr => ∃ (j nl m2 : Nat) (A9 A2 : Option Addr) (c9 c2 : Nat) (ls ps : List (Dsc × Hd)), j ≤ nd ∧ nl ≤ n ∧ s9 = .slice A9 nl c9 ∧ s10 = .slice A2 m2 c2 ∧ s11 = .int .i64 j ∧ m2 + nl ≤ n ∧ Hid (Ows wr w.heap.size 34 4 A9 nl c9 (dcs ls)) ∧ Hid (Ows wr w.heap.size 34 4 A2 m2 c2 (dcs ps)) ∧ Hid (∀ q, Value.ownBlock (.slice A9 nl c9) = some q → Value.ownBlock (.slice A2 m2 c2) ≠ some q) ∧ Hid (∀ x, x ∈ ls ∨ x ∈ ps → x ∈ xs) ∧ Hid (RiseD (ls.map (·.1))) ∧ Hid (ps.map (·.1) ++ pickD (ls.map (·.1)) (many - m2) (rs.drop j) = RR) ∧ Hid (Below w.heap.size w wr)) (fun _ _ s11 _ _ => nd - (intOf s11).toNat)
  case atStart => exact ⟨0, l0.length, 0, A1, none, c1, 0, l0, [], Nat.zero_le _, by omega, rfl, rfl, rfl, by omega, D1, Ows.nil _ _ _ _, (fun q _ => by simp [Value.ownBlock]), (fun x hx => hx.elim (fun h => HSUB.out x h) (fun h => by cases h)), HRS, by unfold Hid; simpa using HI.out, B1⟩
  case round =>
    clear D1 B1 HI HSUB HRS
    obtain ⟨j, nl, m2, A9, A2, c9, c2, ls, ps, hj, hln, rfl, rfl, rfl, hml, DL, DP, NE, SUB, RS, HI, BB⟩ := hrel
    have i0 : (0 : Int) ≤ (j : Int) := by omega
    have HLL : Hid (nl = ls.length) := by have := DL.out.1; rw [dcs_length] at this; unfold Hid; omega
    have HFIN : Hid (∀ x ∈ ps, x ∈ xs) := fun x hx => SUB.out x (.inr hx)
    by_cases hlt : j < nd
    · have i1 : (j : Int) < (nd : Int) := by omega
      obtain ⟨b, off, r, rfl, hb, hrj, hrm, c0⟩ := (Su.next HD.out BB.out).at_ hlt
      obtain ⟨r0, r1⟩ := HR.out r hrm
      have HRJ := Lib.hid hrj
      have hdrop : Hid (rs.drop j = r :: rs.drop (j + 1)) := by unfold Hid; rw [List.drop_eq_getElem_cons (List.getElem?_eq_some_iff.1 hrj).1, (List.getElem?_eq_some_iff.1 hrj).2]
      clear hrj hrm hb
      by_cases hm : (m2 : Int) < many
      · by_cases h0 : nl = 0
        · have HE : Hid (ps.map (·.1) = RR) := by
            have := HI.out
            rw [pick_stop _ (.inr (by rw [List.length_map, ← HLL.out]; exact h0)), List.append_nil] at this
            exact this
          subst h0
          go_wp2
          go_ret
          exact ⟨A2, m2, c2, ps, rfl, HE.out, DP.out, HFIN.out, BB.out⟩
        · have hnl : 0 < nl := by omega
          obtain ⟨k, hk⟩ : ∃ k, r.toNat % nl = k := ⟨_, rfl⟩
          have hkl : k < nl := by rw [← hk]; exact Nat.mod_lt _ hnl
          have hk2 : r.tmod (nl : Int) = (k : Int) := by
            rw [Int.tmod_eq_emod_of_nonneg r0, ← hk, Int.natCast_emod, Int.toNat_of_nonneg r0]
          have HK := Lib.hid hk
          clear hk
          obtain ⟨b', off', x, rfl, hb, hx, x0, x1, x2, x3⟩ := snd_at (Sn.of_own DL.out) hkl
          have HX := Lib.hid hx
          have k0 : (0 : Int) ≤ (k : Int) := by omega
          have k1 : (k : Int) < (nl : Int) := by omega
          have nl1 : (nl : Int) ≤ 1000000 := by omega
          have nl0 : (0 : Int) < (nl : Int) := by omega
          have hf0 : ((nl : Int) == 0) = false := beq_eq_false_iff_ne.2 (by omega)
          have HI2 : Hid ((ps ++ [x]).map (·.1) ++ pickD ((ls.take k ++ ls.drop (k + 1)).map (·.1)) (many - ((m2 + 1 : Nat) : Int)) (rs.drop (j + 1)) = RR) := by
            unfold Hid
            have h1 := HI.out
            rw [hdrop.out, pick_step (k := k) (d := x.1) (by omega) (by rw [List.length_map, ← HLL.out]; exact HK.out) (by rw [List.getElem?_map, HX.out]; rfl), ← cut_map] at h1
            rw [← h1, List.map_append, List.append_assoc, show many - ((m2 + 1 : Nat) : Int) = many - (m2 : Int) - 1 by omega]; rfl
          have hxm : x ∈ ls := List.mem_of_getElem? HX.out
          have hbl := below_lit wr (.cells #[.int .u8 x.1.1, .int .u16 x.1.2.1, .int .u8 x.1.2.2.1, .slice x.2.1 x.2.2.1 x.2.2.2] 34)
          have SZ : Hid (w.heap.size ≤ wr.heap.size) := BB.out.size
          have HCUT := Lib.hid (cut_of RS.out HX.out)
          have RS2 : Hid (RiseD ((ls.take k ++ ls.drop (k + 1)).map (·.1))) := by unfold Hid; rw [cut_map]; exact cut_rise RS.out k
          have SUB1 := SUB.out x (.inl hxm)
          have SUB2 : Hid (∀ y, y ∈ ls.take k ++ ls.drop (k + 1) ∨ y ∈ ps ++ [x] → y ∈ xs) := fun y hy => by
            rcases hy with hy | hy
            · rw [← HCUT.out] at hy; exact SUB.out y (.inl (List.mem_filter.1 hy).1)
            · rcases List.mem_append.1 hy with hy | hy
              · exact SUB.out y (.inr hy)
              · rw [List.mem_singleton] at hy; subst hy; exact SUB1
          have hgl := (DL.out.near b' rfl).2
          clear hx hb HI hdrop HK hxm SUB1 HFIN
          go_upto_region 8 with (at_builtin; go_must (refine wpList_appsy rfl _ _ 22 rfl Try.underlying22 infoD rfl (by decide) rfl (Ows.below DP.out (below_lit _ _)) rfl (Sn.lit wr #[.int .u8 x.1.1, .int .u16 x.1.2.1, .int .u8 x.1.2.2.1, .slice x.2.1 x.2.2.1 x.2.2.2] 34 (0, 0) 4 1 rfl (by decide)) (dcl_one x) (by omega) (by decide) (Nat.le_trans SZ.out (below_lit _ _).size) ?_); intro A3 c3 w5 o5 g5 q5)
          have B5 := Lib.hid ((BB.out.alloc SZ.out _).grown g5 (Nat.le_trans SZ.out hbl.size) (Ows.below DP.out hbl).lt)
          have DP2 : Hid (Ows w5 w.heap.size 34 4 A3 (m2 + 1) c3 (dcs (ps ++ [x]))) := by unfold Hid; rw [dcs_append, dcs_cons, dcs_nil, List.append_nil]; exact o5
          have DL2 := Lib.hid ((DL.out.below hbl).apart NE.out g5)
          have DS2 : Hid (Sds w5 (some ⟨b', off', none⟩) nl c9 ls) := ⟨Sn.of_own DL2.out, fun y hy => Sn.next (HFL.out y (SUB.out y (.inl hy))) B5.out⟩
          have HC6 := Lib.hid (refdropK_any _ nl c9 ls x.1.1 w5 DS2.out (by omega))
          rw [HCUT.out] at HC6
          obtain ⟨b2, off2, y, e, hb, hy, y0, _, _, _⟩ := snd_at (Sn.of_own DL2.out) hkl
          injection e with e
          injection e with e1 e2
          subst e1 e2
          rw [HX.out] at hy
          obtain rfl := Option.some.inj hy
          clear g5 o5 q5 hbl DP DL x0 x1 x2 x3 hgl NE HCUT hb hy DS2 SUB HX
          go_wp2_with fail
          refine HC6.out.mono ?_
          rintro e w6 ⟨A6, m6, c6, rfl, o6, b6⟩
          have hm6 : m6 + 1 = nl := by
            have h1 := o6.len
            rw [List.length_append, List.length_take, List.length_drop, ← HLL.out] at h1
            omega
          have NE3 : Hid (∀ q, Value.ownBlock (.slice A6 m6 c6) = some q → Value.ownBlock (.slice A3 (m2 + 1) c3) ≠ some q) := fun q hq hq2 => by
            have h1 := (o6.ow.near q hq).1
            have h2 := (DP2.out.near q hq2).2
            omega
          have DL3 := Lib.hid (o6.ow.mono B5.out.size)
          have DP3 := Lib.hid (DP2.out.below b6)
          have B6 := Lib.hid (thn B5.out b6)
          clear o6 b6 DP2 DL2 HC6 B5 y0
          go_wp2
          go_roundw
          case rel => exact ⟨j + 1, m6, m2 + 1, A6, A3, c6, c3, _, ps ++ [x], by omega, by omega, rfl, rfl, by go_num, by omega, DL3, DP3, NE3, SUB2, RS2, HI2, B6⟩
          case measure => simp [intOf]; omega
      · have HE : Hid (ps.map (·.1) = RR) := by
          have := HI.out
          rw [pick_stop _ (.inl (by omega)), List.append_nil] at this
          exact this
        go_wp2
        go_ret
        exact ⟨A2, m2, c2, ps, rfl, HE.out, DP.out, HFIN.out, BB.out⟩
    · obtain rfl : j = nd := by omega
      have HE : Hid (ps.map (·.1) = RR) := by
        have := HI.out
        rw [List.drop_of_length_le (by rw [← HLD.out]; exact Nat.le_refl _)] at this
        rw [show pickD (ls.map (·.1)) (many - m2) [] = [] from rfl, List.append_nil] at this
        exact this
      go_wp2
      go_ret
      exact ⟨A2, m2, c2, ps, rfl, HE.out, DP.out, HFIN.out, BB.out⟩
theorem refpick_any (A : Option Addr) (n c : Nat) (xs : List (Dsc × Hd)) (many not : Int) (Ad : Option Addr) (nd cd : Nat) (rs : List Int) (w : World) (h : Sds w A n c xs) (hn8 : n ≤ 1000000) (hrise : RiseD (xs.map (·.1))) (hd : Su w Ad nd cd rs) (hr : drawR rs) :
    Calls Try.prog 16 #[.slice A n c, .int .i64 many, .int .u8 not, .slice Ad nd cd] w (GaveDs (pickD (dropD (xs.map (·.1)) not) many rs) w) :=
  (refpickK_any A n c xs many not Ad nd cd rs w h hn8 hrise hd hr).mono fun e w' ⟨A2, m, c2, ps, h1, h2, h3, h4, h5⟩ => ⟨A2, m, c2, ps, h1, h2, ⟨Sn.of_own h3, fun x hx => Sn.next (h.fl x (h4 x hx)) h5⟩, h5⟩
end Go.Proofs.Ytgbnnllbpidlfaa
