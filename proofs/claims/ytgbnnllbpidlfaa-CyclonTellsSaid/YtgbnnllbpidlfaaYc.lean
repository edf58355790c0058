/- Layer 10: cyclon.Pick. -/
import Derived.Test.YtgbnnllbpidlfaaYb
import Derived.Test.YtgbnnllbpidlfaaAy
namespace Go.Proofs.Ytgbnnllbpidlfaa
open Go.RowKit
set_option linter.unusedVariables false
/-- A slice of draws. -/
abbrev Su (w : World) (A : Option Addr) (n c : Nat) (rs : List Int) : Prop := Sv w w.heap.size A n c (Nl .u32 rs)
abbrev drawR (rs : List Int) : Prop := ∀ r ∈ rs, 0 ≤ r ∧ r ≤ 4294967295
theorem Su.len {w : World} {A : Option Addr} {n c : Nat} {rs : List Int} (h : Su w A n c rs) : n = rs.length := by have := Sv.len h; rwa [Nl_length] at this
theorem Su.next {w w' : World} {A : Option Addr} {n c : Nat} {rs : List Int} (h : Su w A n c rs) (hb : Below w.heap.size w w') : Su w' A n c rs := Sv.next h hb
theorem Su.at_ {w : World} {A : Option Addr} {n c : Nat} {rs : List Int} (h : Su w A n c rs) {j : Nat} (hj : j < n) : ∃ b off r, A = some ⟨b, off, none⟩ ∧ b < w.heap.size ∧ rs[j]? = some r ∧ r ∈ rs ∧ w.cell? ⟨b, off + j, none⟩ = some (.int .u32 r) := by
  have hl := Su.len h
  obtain ⟨b, off, e, hb, hc⟩ := Sv.at_ h (by omega)
  have hj' : j < rs.length := by omega
  exact ⟨b, off, rs[j], e, hb, List.getElem?_eq_getElem hj', List.getElem_mem hj', hc _ _ (Nl_at (List.getElem?_eq_getElem hj'))⟩
theorem Dow.apart {w w' : World} {B B' : Nat} {A A' : Option Addr} {n c n' c' : Nat} {xs : List (Dsc × Hd)} {vs : List Value} (h : Dow w B A n c xs) (h' : Ows w B' 34 4 A' n' c' vs) (hne : ∀ q, Value.ownBlock (.slice A n c) = some q → Value.ownBlock (.slice A' n' c') ≠ some q) (g : w.grownBy w' (Value.ownBlock (.slice A' n' c'))) : Dow w' B A n c xs :=
  ⟨h.ow.same fun q hq => g.block q (h.ow.near q hq).2 (fun e => hne q hq e.symm), fun x hx => Ows.other (h.fo x hx) h' (by decide) g⟩
/-- What is left behind one that was picked. -/
theorem cut_map (ls : List (Dsc × Hd)) (k : Nat) : (ls.take k ++ ls.drop (k + 1)).map (·.1) = cutD (ls.map (·.1)) k := by unfold cutD; rw [List.map_append, List.map_take, List.map_drop]
set_option maxHeartbeats 4000000 in
set_option maxRecDepth 100000 in
theorem pick_any (A : Option Addr) (n c : Nat) (xs : List (Dsc × Hd)) (many not : Int) (Ad : Option Addr) (nd cd : Nat) (rs : List Int) (w : World) (h : Sds w A n c xs) (hf : Fit n xs) (hd : Su w Ad nd cd rs) (hr : drawR rs) :
    Calls Try.prog 15 #[.slice A n c, .int .i64 many, .int .u8 not, .slice Ad nd cd] w (GaveDo (pickD (dropD (xs.map (·.1)) not) many rs) w) := by
  have hbl := below_lit w (.cells #[.int .u8 not] 5)
  have HN : Hid ((w.alloc (.cells #[.int .u8 not] 5)).cell? ⟨w.heap.size, 0, none⟩ = some (.int .u8 not)) := by unfold Hid World.cell?; rw [heap_alloc_new]; rfl
  have HLT : Hid (w.heap.size < (w.alloc (.cells #[.int .u8 not] 5)).heap.size) := by show w.heap.size < (w.heap.push _).size; simp
  have HB := Lib.hid hbl
  have HS := Lib.hid (h.next hbl)
  have HF := Lib.hid hf
  have HD := Lib.hid (Su.next hd hbl)
  have HR := Lib.hid hr
  have HLD := Lib.hid hd.len
  have hdm := Sv.max hd
  have hdc := Sv.cap hd
  unfold maxLen at hdm
  have n1000 := hf.len
  have hn8 : n ≤ 1000000 := by omega
  obtain ⟨RR, HRR⟩ : ∃ RR, Hid (pickD (dropD (xs.map (·.1)) not) many rs = RR) := ⟨_, rfl⟩
  rw [HRR.out]
  clear hbl h hf hd hr
  go_enter Try.func15, Try.ntmps15
  go_upto_region 1 with fail
  generalize w.alloc _ = w1 at *
  have FB := Lib.hid HB.out
  have FL : Hid (w.heap.size ≤ w1.heap.size) := HB.out.size
  obtain ⟨B, hB⟩ : ∃ g, w.heap.size = g := ⟨_, rfl⟩
  rw [hB] at HN HLT HB ⊢
  clear hB
  go_wp2_with fail
  refine (copyX_any A n c xs w1 HS.out hn8 (fun x hx => by have := (HF.out.all x hx).2; omega)).mono ?_
  rintro e w2 ⟨g, zs, rfl, hz, dz, b2⟩
  have HZ := Lib.hid hz
  have D2 := Lib.hid dz
  have LG : Hid (w1.heap.size ≤ g) := dz.ow.rowc.1
  have HNE : Hid (B ≠ g) := by have := LG.out; have := HLT.out; unfold Hid; omega
  have HC := Lib.hid (delfd_any g n n zs 31 B not (fun y => decide (y.1.1 = not)) (enters_of Try.func31 (by kernel_rfl) rfl) (pick1_any B not) w2 w1.heap.size HNE.out (Nat.lt_of_lt_of_le HLT.out b2.size) ((b2.cell (p := ⟨B, 0, none⟩) HLT.out).trans HN.out) dz.ow)
  have B2 := Lib.hid b2
  clear hz dz b2 HS HF HN HNE
  go_wp2_with fail
  refine HC.out.mono ?_
  rintro e w3 ⟨m, rfl, o3, g3⟩
  have hsub : ∀ y ∈ zs.filter (fun y => !decide (y.1.1 = not)), ∃ x ∈ zs, x.2 = y.2 ∧ x.1.2.2.2 = y.1.2.2.2 := fun y hy => ⟨y, (List.mem_filter.1 hy).1, rfl, rfl⟩
  have D3 := Lib.hid (D2.out.rewrote g3 o3 hsub)
  have B3 := Lib.hid (belowG B2.out g3 B2.out.size LG.out)
  have HI : Hid (pickD ((zs.filter (fun y => !decide (y.1.1 = not))).map (·.1)) many rs = RR) := by
    unfold Hid
    rw [← HRR.out, ← HZ.out, ← xdrop]
    congr 2
    refine List.filter_congr fun y _ => ?_
    simp
  have hmn : m ≤ n := by
    have h1 : (dcs (zs.filter (fun y => !decide (y.1.1 = not)))).length = m * 4 := o3.lenc
    rw [dcs_length] at h1
    have h2 := List.length_filter_le (fun y : Dsc × Hd => !decide (y.1.1 = not)) zs
    have h3 := D2.out.len
    have h4 : m = (zs.filter (fun y => !decide (y.1.1 = not))).length := by omega
    rw [h4, h3]; exact h2
  generalize zs.filter (fun y => !decide (y.1.1 = not)) = l0 at *
  clear hsub o3 g3 D2 B2 HC HZ HRR
  go_wp2
  go_loopw [9, 10, 12, 13, 20] (fun s9 s10 _ _ s20 wr => ∃ (j nl m2 : Nat) (A2 : Option Addr) (c2 : Nat) (ls ps : List (Dsc × Hd)), j ≤ nd ∧ nl ≤ n ∧ s9 = .slice (some ⟨g, 0, none⟩) nl n ∧ s10 = .slice A2 m2 c2 ∧ s20 = .int .i64 j ∧ m2 + nl ≤ n ∧ Hid (Dow wr w1.heap.size (some ⟨g, 0, none⟩) nl n ls) ∧ Hid (Dow wr w1.heap.size A2 m2 c2 ps) ∧ Hid (Value.ownBlock (.slice A2 m2 c2) ≠ some g) ∧ Hid (ps.map (·.1) ++ pickD (ls.map (·.1)) (many - m2) (rs.drop j) = RR) ∧ Hid (Below w1.heap.size w1 wr)) (fun _ _ _ _ s20 _ => nd - (intOf s20).toNat)
  case atStart => exact ⟨0, m, 0, none, 0, l0, [], Nat.zero_le _, hmn, rfl, rfl, rfl, by omega, D3, Dow.nil _ _, by simp [Value.ownBlock, Hid], by unfold Hid; simpa using HI.out, B3⟩
  case round =>
    clear D3 B3 HI
    obtain ⟨j, nl, m2, A2, c2, ls, ps, hj, hln, rfl, rfl, rfl, hml, DL, DP, NE, HI, BB⟩ := hrel
    have i0 : (0 : Int) ≤ (j : Int) := by omega
    have HLL : Hid (nl = ls.length) := DL.out.len
    have HLP : Hid (m2 = ps.length) := DP.out.len
    by_cases hlt : j < nd
    · have i1 : (j : Int) < (nd : Int) := by omega
      obtain ⟨b, off, r, rfl, hb, hrj, hrm, c0⟩ := (Su.next HD.out BB.out).at_ hlt
      obtain ⟨r0, r1⟩ := HR.out r hrm
      have HRJ := Lib.hid hrj
      have hdrop : Hid (rs.drop j = r :: rs.drop (j + 1)) := by unfold Hid; rw [List.drop_eq_getElem_cons (List.getElem?_eq_some_iff.1 hrj).1, (List.getElem?_eq_some_iff.1 hrj).2]
      clear hrj hrm hb
      by_cases hm : many ≤ (m2 : Int)
      · have HE : Hid (ps.map (·.1) = RR) := by
          have := HI.out
          rw [pick_stop _ (.inl (by omega)), List.append_nil] at this
          exact this
        go_wp2
        go_ret
        exact ⟨A2, m2, c2, ps, rfl, HE.out, DP.out.mono FL.out, FB.out.trans (BB.out.mono FL.out)⟩
      · by_cases h0 : nl = 0
        · have HE : Hid (ps.map (·.1) = RR) := by
            have := HI.out
            rw [pick_stop _ (.inr (by rw [List.length_map, ← HLL.out]; exact h0)), List.append_nil] at this
            exact this
          subst h0
          go_wp2
          go_ret
          exact ⟨A2, m2, c2, ps, rfl, HE.out, DP.out.mono FL.out, FB.out.trans (BB.out.mono FL.out)⟩
        · have hnl : 0 < nl := by omega
          obtain ⟨k, hk⟩ : ∃ k, r.toNat % nl = k := ⟨_, rfl⟩
          have hkl : k < nl := by rw [← hk]; exact Nat.mod_lt _ hnl
          have hk2 : r.tmod (nl : Int) = (k : Int) := by
            rw [Int.tmod_eq_emod_of_nonneg r0, ← hk, Int.natCast_emod, Int.toNat_of_nonneg r0]
          have HK := Lib.hid hk
          clear hk
          obtain ⟨b', off', x, e, hb, hx, x0, x1, x2, x3⟩ := snd_at (Sn.of_own DL.out.ow) hkl
          injection e with e
          injection e with e1 e2
          subst e1 e2
          rw [Nat.zero_add] at x0 x1 x2 x3
          have HX := Lib.hid hx
          have k0 : (0 : Int) ≤ (k : Int) := by omega
          have k1 : (k : Int) < (nl : Int) := by omega
          have hf0 : ((nl : Int) == 0) = false := beq_eq_false_iff_ne.2 (by omega)
          have hm0 : ¬ many ≤ (m2 : Int) := hm
          have HI2 : Hid ((ps ++ [x]).map (·.1) ++ pickD ((ls.take k ++ ls.drop (k + 1)).map (·.1)) (many - ((m2 + 1 : Nat) : Int)) (rs.drop (j + 1)) = RR) := by
            unfold Hid
            have h1 := HI.out
            rw [hdrop.out, pick_step (k := k) (d := x.1) (by omega) (by rw [List.length_map, ← HLL.out]; exact HK.out) (by rw [List.getElem?_map, HX.out]; rfl), ← cut_map] at h1
            rw [← h1, List.map_append, List.append_assoc, show many - ((m2 + 1 : Nat) : Int) = many - (m2 : Int) - 1 by omega]; rfl
          clear hx hb HI hdrop HK
          have hxm : x ∈ ls := List.mem_of_getElem? HX.out
          have hbl := below_lit wr (.cells #[.int .u8 x.1.1, .int .u16 x.1.2.1, .int .u8 x.1.2.2.1, .slice x.2.1 x.2.2.1 x.2.2.2] 34)
          have FX := Lib.hid ((DL.out.fo x hxm).below hbl)
          have SZ : Hid (w1.heap.size ≤ wr.heap.size) := BB.out.size
          have hgl := DL.out.ow.ltc
          have HCD : Hid (∀ w6, Ows w6 w1.heap.size 34 4 (some ⟨g, 0, none⟩) nl n (dcs ls) → _) := fun w6 h6 => delete_any g nl n k ls w6 w1.heap.size h6 hkl (by omega)
          clear hxm HX
          go_wp2_with (at_builtin; go_must (refine wpList_appsy rfl _ _ 22 rfl Try.underlying22 infoD rfl (by decide) rfl (Ows.below DP.out.ow (below_lit _ _)) rfl (Sn.lit wr #[.int .u8 x.1.1, .int .u16 x.1.2.1, .int .u8 x.1.2.2.1, .slice x.2.1 x.2.2.1 x.2.2.2] 34 (0, 0) 4 1 rfl (by decide)) (dcl_one x) (by omega) (by decide) (Nat.le_trans SZ.out (below_lit _ _).size) ?_); intro A3 c3 w5 o5 g5 q5)
          have B5 := Lib.hid ((BB.out.alloc SZ.out _).grown g5 (Nat.le_trans SZ.out hbl.size) (Ows.below DP.out.ow hbl).lt)
          have DP2 := Lib.hid (Dow.app (d := x.1) (hd := x.2) DP.out hbl FX.out o5 g5)
          have DL2 := Lib.hid ((DL.out.below hbl).apart (DP.out.ow.below hbl) (fun q hq => by
            have e : g = q := by injection hq
            rw [← e]; exact NE.out) g5)
          have NE2 : Hid (Value.ownBlock (.slice A3 (m2 + 1) c3) ≠ some g) := fun e => by
            rcases q5 g e with h | h
            · exact NE.out h
            · have := hbl.size; omega
          have HC6 := Lib.hid (HCD.out w5 DL2.out.ow)
          clear g5 o5 q5 hbl FX DP DL HCD x0 x1 x2 x3 hgl
          go_wp2_with fail
          refine HC6.out.mono ?_
          rintro e w6 ⟨m6, hm6, rfl, o6, g6⟩
          have DL3 := Lib.hid (DL2.out.rewrote g6 o6 fun y hy => ⟨y, by
            rcases List.mem_append.1 hy with hy | hy
            · exact List.mem_of_mem_take hy
            · exact List.mem_of_mem_drop hy, rfl, rfl⟩)
          have DP3 := Lib.hid (DP2.out.apart DL2.out.ow (fun q hq e => by
            have e1 : g = q := by injection e
            rw [← e1] at hq; exact NE2.out hq) g6)
          have B6 := Lib.hid (belowG B5.out g6 B5.out.size LG.out)
          clear g6 o6 DP2 DL2 HC6 B5
          go_wp2
          go_roundw
          case rel => exact ⟨j + 1, m6, m2 + 1, A3, c3, _, ps ++ [x], by omega, by omega, rfl, rfl, by go_num, by omega, DL3, DP3, NE2, HI2, B6⟩
          case measure => simp [intOf]; omega
    · obtain rfl : j = nd := by omega
      have HE : Hid (ps.map (·.1) = RR) := by
        have := HI.out
        rw [List.drop_of_length_le (by rw [← HLD.out]; exact Nat.le_refl _)] at this
        rw [show pickD (ls.map (·.1)) (many - m2) [] = [] from rfl, List.append_nil] at this
        exact this
      go_wp2
      go_ret
      exact ⟨A2, m2, c2, ps, rfl, HE.out, DP.out.mono FL.out, FB.out.trans (BB.out.mono FL.out)⟩
end Go.Proofs.Ytgbnnllbpidlfaa
