/- Layer 10: cyclon.Ask, and the reference's. -/
import Derived.Test.YtgbnnllbpidlfaaYd
namespace Go.Proofs.Ytgbnnllbpidlfaa
open Go.RowKit
set_option linter.unusedVariables false
theorem ask_no {l : List Dsc} {me : Dsc} {many : Int} {rs : List Int} (h : l = [] ∨ many < 1) : askD l me many rs = (0, [], false) := by unfold askD; rw [if_pos h]
theorem ask_yes {l : List Dsc} (me : Dsc) {many : Int} (rs : List Int) (h : l ≠ []) (hm : 1 ≤ many) : ∃ (k : Nat) (d : Dsc), oldI l = (k : Int) ∧ l[k]? = some d ∧ askD l me many rs = (d.1, (me.1, me.2.1, 0, me.2.2.2) :: pickD (dropD l d.1) (many - 1) rs, true) := by
  obtain ⟨k, a, hk, e⟩ := oldI_is h
  obtain ⟨d, hd, _⟩ := hk.at_
  refine ⟨k, d, e, hd, ?_⟩
  unfold askD
  rw [if_neg (fun q => q.elim h (fun q => by omega)), e, Int.toNat_natCast, List.getD_eq_getElem?_getD, hd]; rfl
def GaveA (r : Int × List Dsc × Bool) (w : World) (e : Ending) (w' : World) : Prop := ∃ (A : Option Addr) (n c : Nat) (xs : List (Dsc × Hd)), e = .returned (.tuple #[.int .u8 r.1, .slice A n c, .bool r.2.2]) ∧ xs.map (·.1) = r.2.1 ∧ Dow w' w.heap.size A n c xs ∧ Below w.heap.size w w'
def GaveAs (r : Int × List Dsc × Bool) (w : World) (e : Ending) (w' : World) : Prop := ∃ (A : Option Addr) (n c : Nat) (xs : List (Dsc × Hd)), e = .returned (.tuple #[.int .u8 r.1, .slice A n c, .bool r.2.2]) ∧ xs.map (·.1) = r.2.1 ∧ Sds w' A n c xs ∧ Below w.heap.size w w'
theorem Dow.apps {w w' : World} {B : Nat} {A A2 A3 : Option Addr} {n c n2 c2 c3 : Nat} {xs ys : List (Dsc × Hd)} (h : Dow w B A n c xs) (h2 : Dow w B A2 n2 c2 ys) (o : Ows w' B 34 4 A3 (n + n2) c3 (dcs xs ++ dcs ys)) (g : w.grownBy w' (Value.ownBlock (.slice A n c))) : Dow w' B A3 (n + n2) c3 (xs ++ ys) :=
  ⟨by rw [dcs_append]; exact o, fun x hx => by
    rcases List.mem_append.1 hx with hx | hx
    · exact Ows.other (h.fo x hx) h.ow (by decide) g
    · exact Ows.other (h2.fo x hx) h.ow (by decide) g⟩
theorem pick_le (rs : List Int) (ds : List Dsc) (many : Int) : (pickD ds many rs).length ≤ ds.length := by have := pick_len rs ds many; omega
theorem ods1 (w : World) (x : Dsc × Hd) (hx : Fl w x) : Ods (w.alloc (.cells #[.int .u8 x.1.1, .int .u16 x.1.2.1, .int .u8 x.1.2.2.1, .slice x.2.1 x.2.2.1 x.2.2.2] 34)) w.heap.size (some ⟨w.heap.size, 0, none⟩) 1 1 [x] :=
  ⟨⟨rfl, .inr ⟨w.heap.size, 1, _, rfl, Nat.le_refl _, heap_alloc_new w _, Nat.le_refl _, by decide, rfl, rfl⟩⟩, fun z hz => by rw [List.mem_singleton] at hz; subst hz; exact Sn.next hx (below_lit w _)⟩
set_option maxHeartbeats 4000000 in
set_option maxRecDepth 100000 in
theorem ask_any (A : Option Addr) (n c : Nat) (xs : List (Dsc × Hd)) (me : Dsc) (hm : Hd) (many : Int) (Ad : Option Addr) (nd cd : Nat) (rs : List Int) (w : World) (h : Sds w A n c xs) (hf : Fit n xs) (hF : Fl w (me, hm)) (h1 : Fit1 me) (hmax : many ≤ 9223372036854775807) (hd : Su w Ad nd cd rs) (hr : drawR rs) :
    Calls Try.prog 12 #[.slice A n c, (.agg #[.int .u8 me.1, .int .u16 me.2.1, .int .u8 me.2.2.1, .slice hm.1 hm.2.1 hm.2.2]), .int .i64 many, .slice Ad nd cd] w (GaveA (askD (xs.map (·.1)) me many rs) w) := by
  have hbl := below_lit w (.cells #[.int .u8 me.1, .int .u16 me.2.1, .int .u8 me.2.2.1, .slice hm.1 hm.2.1 hm.2.2] 34)
  have K : Hid (DBlk (w.alloc (.cells #[.int .u8 me.1, .int .u16 me.2.1, .int .u8 me.2.2.1, .slice hm.1 hm.2.1 hm.2.2] 34)) w.heap.size me hm) := DBlk.new w me hm
  have HB := Lib.hid hbl
  have HSw := Lib.hid h
  have HDw := Lib.hid hd
  have HFw := Lib.hid hF
  have HS := Lib.hid (h.next hbl)
  have HF := Lib.hid hf
  have HFM : Hid (Fl (w.alloc (.cells #[.int .u8 me.1, .int .u16 me.2.1, .int .u8 me.2.2.1, .slice hm.1 hm.2.1 hm.2.2] 34)) (me, hm)) := Sn.next hF hbl
  have HD := Lib.hid (Su.next hd hbl)
  have HR := Lib.hid hr
  have HL : Hid (n = xs.length) := h.len
  have H1 := Lib.hid h1
  have n1000 := hf.len
  clear hbl h hf hF hd hr h1
  have FB := Lib.hid HB.out
  have HMX := Lib.hid hmax
  by_cases h0 : n = 0
  · have hx : xs = [] := List.eq_nil_of_length_eq_zero (by rw [← HL.out]; exact h0)
    subst hx h0
    rw [List.map_nil, ask_no (.inl rfl)]
    have HO := Lib.hid (fun W hW => oldest_any A 0 c [] W hW)
    clear hmax
    go_enter Try.func12, Try.ntmps12
    go_upto_region 1 with fail
    generalize w.alloc _ = w1 at *
    go_wp2_with fail
    refine (HO.out w1 HS.out).mono ?_
    rintro e w2 ⟨rfl, b2⟩
    rw [List.map_nil, oldI_nil]
    have B2 := Lib.hid (FB.out.trans (b2.mono HB.out.size))
    clear b2
    go_wp2
    go_ret3
    exact ⟨none, 0, 0, [], rfl, rfl, Dow.nil _ _, B2.out⟩
  · have hne : xs.map (·.1) ≠ [] := fun e => h0 (by rw [HL.out, ← List.length_map (f := (·.1)), e]; rfl)
    have hn0 : 0 < n := by omega
    by_cases hmm : many < 1
    · rw [ask_no (.inr hmm)]
      obtain ⟨k, a, hk, e⟩ := oldI_is hne
      have hO := fun W hW => oldest_any A n c xs W hW
      rw [e] at hO
      have HO := Lib.hid hO
      have k0 : ¬ (k : Int) < 0 := by omega
      clear hk e hO hmax
      go_enter Try.func12, Try.ntmps12
      go_upto_region 1 with fail
      generalize w.alloc _ = w1 at *
      go_wp2_with fail
      refine (HO.out w1 HS.out).mono ?_
      rintro e w2 ⟨rfl, b2⟩
      have B2 := Lib.hid (FB.out.trans (b2.mono HB.out.size))
      clear b2
      go_wp2
      go_ret3
      exact ⟨none, 0, 0, [], rfl, rfl, Dow.nil _ _, B2.out⟩
    · obtain ⟨k, d, e, hd, hA⟩ := ask_yes me rs hne (by omega : 1 ≤ many)
      rw [hA]
      have hO := fun W hW => oldest_any A n c xs W hW
      rw [e] at hO
      have HO := Lib.hid hO
      have k0 : (0 : Int) ≤ (k : Int) := by omega
      have hkn : k < n := by have := (List.getElem?_eq_some_iff.1 hd).1; rw [List.length_map] at this; rw [HL.out]; exact this
      have k1 : (k : Int) < (n : Int) := by omega
      have HDD := Lib.hid hd
      clear hd e hA hO
      go_enter Try.func12, Try.ntmps12
      go_upto_region 1 with fail
      generalize w.alloc _ = w1 at *
      obtain ⟨g, hg⟩ : ∃ g, w.heap.size = g := ⟨_, rfl⟩
      have HG := Lib.hid hg
      rw [hg] at K HB ⊢
      clear hg
      go_wp2_with fail
      refine (HO.out w1 HS.out).mono ?_
      rintro e w2 ⟨rfl, b2⟩
      obtain ⟨b, off, x, rfl, hb, hx, hxm, c0, _, _, _⟩ := (HS.out.next b2).at_ hkn
      obtain rfl : x.1 = d := by have := HDD.out; rw [List.getElem?_map, hx] at this; simpa using this
      have K2 := Lib.hid (K.out.next b2)
      have B2 := Lib.hid b2
      obtain ⟨q0, q1, q2, q3⟩ := K2.out.cells
      have r2 := K2.out.free 2
      clear b2 hb hx hxm HO HDD K
      go_upto_region 6 with fail
      have B3 : Hid (Below w.heap.size w (w2.setCell ⟨g, 2, none⟩ (.int .u8 0))) := (FB.out.trans (B2.out.mono FB.out.size)).setCell (p := ⟨g, 2, none⟩) (by rw [← HG.out]; exact Nat.le_refl _) _
      have K3 := Lib.hid (K2.out.put2 0)
      clear q0 q1 q2 q3 r2 K2 B2 HS HD HFM HB FB c0
      generalize w2.setCell ⟨g, 2, none⟩ (.int .u8 0) = w3 at *
      have FM3 : Fl w3 ((me.1, me.2.1, 0, me.2.2.2), hm) := Sn.next HFw.out B3.out
      have O4 := Lib.hid (ods1 w3 ((me.1, me.2.1, 0, me.2.2.2), hm) FM3)
      have hbl := below_lit w3 (.cells #[.int .u8 ((me.1, me.2.1, 0, me.2.2.2) : Dsc).1, .int .u16 ((me.1, me.2.1, 0, me.2.2.2) : Dsc).2.1, .int .u8 ((me.1, me.2.1, 0, me.2.2.2) : Dsc).2.2.1, .slice hm.1 hm.2.1 hm.2.2] 34)
      have B4 := Lib.hid (thn B3.out hbl)
      have HC4 := Lib.hid (copyX_any _ 1 1 [((me.1, me.2.1, 0, me.2.2.2), hm)] _ O4.out.sds (by decide) (fun z hz => by rw [List.mem_singleton] at hz; subst hz; have := H1.out.2; show me.2.2.2.length ≤ 1000000; omega))
      obtain ⟨q0, q1, q2, q3⟩ := K3.out.cells
      dsimp only at q0 q1 q2 q3 HC4 B4
      clear hbl O4 FM3 K3
      go_wp2_with fail
      refine HC4.out.mono ?_
      rintro e w5 ⟨g5, zs, rfl, hz, d5, b5⟩
      have D5 := Lib.hid (d5.mono B4.out.size)
      have B5 := Lib.hid (thn B4.out b5)
      have HZ := Lib.hid hz
      have HP := Lib.hid (pick_any _ n c xs (many - 1) x.1.1 Ad nd cd rs w5 (HSw.out.next B5.out) HF.out (Su.next HDw.out B5.out) HR.out)
      clear d5 b5 hz q0 q1 q2 q3 HC4
      go_wp2_with fail
      refine HP.out.mono ?_
      rintro e w6 ⟨A6, n6, c6, ps, rfl, hp, d6, b6⟩
      have D6 := Lib.hid (d6.mono B5.out.size)
      have D5b := Lib.hid (D5.out.below b6)
      have B6 := Lib.hid (thn B5.out b6)
      have HPP := Lib.hid hp
      have n6le : n6 ≤ 1000 := by
        have h1 := d6.len
        have h2 := congrArg List.length hp
        rw [List.length_map] at h2
        have h3 := pick_le rs (dropD (xs.map (·.1)) x.1.1) (many - 1)
        have h4 := drop_le (ds := xs.map (·.1)) x.1.1
        rw [List.length_map] at h4
        have := HL.out
        omega
      have SZ := Lib.hid B6.out.size
      clear d6 b6 hp HP D5 B5
      go_wp2_with (at_builtin; go_must (refine wpList_appsy rfl _ _ 22 rfl Try.underlying22 infoD rfl (by decide) rfl D5b.out.ow rfl (Sn.of_own D6.out.ow) (dcs_one ps) (by omega) (by decide) SZ.out ?_); intro A7 c7 w7 o7 g7 q7)
      have D7 := Lib.hid (D5b.out.apps D6.out o7 g7)
      have B7 := Lib.hid (B6.out.grown g7 SZ.out D5b.out.ow.lt)
      have HE : Hid ((zs ++ ps).map (·.1) = (me.1, me.2.1, 0, me.2.2.2) :: pickD (dropD (xs.map (·.1)) x.1.1) (many - 1) rs) := by unfold Hid; rw [List.map_append, HZ.out, HPP.out]; rfl
      clear o7 g7 q7
      go_wp2
      go_ret3
      exact ⟨A7, 1 + n6, c7, zs ++ ps, rfl, HE.out, D7.out, B7.out⟩
set_option maxHeartbeats 4000000 in
set_option maxRecDepth 100000 in
theorem refask_any (A : Option Addr) (n c : Nat) (xs : List (Dsc × Hd)) (me : Dsc) (hm : Hd) (many : Int) (Ad : Option Addr) (nd cd : Nat) (rs : List Int) (w : World) (h : Sds w A n c xs) (hf : Fit n xs) (hrise : RiseD (xs.map (·.1))) (hF : Fl w (me, hm)) (hmax : many ≤ 9223372036854775807) (hd : Su w Ad nd cd rs) (hr : drawR rs) :
    Calls Try.prog 13 #[.slice A n c, (.agg #[.int .u8 me.1, .int .u16 me.2.1, .int .u8 me.2.2.1, .slice hm.1 hm.2.1 hm.2.2]), .int .i64 many, .slice Ad nd cd] w (GaveAs (askD (xs.map (·.1)) me many rs) w) := by
  have hbl := below_lit w (.cells #[.int .u8 me.1, .int .u16 me.2.1, .int .u8 me.2.2.1, .slice hm.1 hm.2.1 hm.2.2] 34)
  have K : Hid (DBlk (w.alloc (.cells #[.int .u8 me.1, .int .u16 me.2.1, .int .u8 me.2.2.1, .slice hm.1 hm.2.1 hm.2.2] 34)) w.heap.size me hm) := DBlk.new w me hm
  have HB := Lib.hid hbl
  have HSw := Lib.hid h
  have HDw := Lib.hid hd
  have HFw := Lib.hid hF
  have HS := Lib.hid (h.next hbl)
  have HF := Lib.hid hf
  have HR := Lib.hid hr
  have HRI := Lib.hid hrise
  have HL : Hid (n = xs.length) := h.len
  have n1000 := hf.len
  clear hbl h hf hF hd hr hrise
  have FB := Lib.hid HB.out
  by_cases h0 : n = 0
  · have hx : xs = [] := List.eq_nil_of_length_eq_zero (by rw [← HL.out]; exact h0)
    subst hx h0
    rw [List.map_nil, ask_no (.inl rfl)]
    clear hmax
    go_enter Try.func13, Try.ntmps13
    go_upto_region 1 with fail
    generalize w.alloc _ = w1 at *
    go_wp2
    go_ret3
    exact ⟨none, 0, 0, [], rfl, rfl, Sds.nil _, FB.out⟩
  · have hne : xs.map (·.1) ≠ [] := fun e => h0 (by rw [HL.out, ← List.length_map (f := (·.1)), e]; rfl)
    have hn0 : 0 < n := by omega
    have hn0b : ((n : Int) == 0) = false := beq_eq_false_iff_ne.2 (by omega)
    by_cases hmm : many < 1
    · rw [ask_no (.inr hmm)]
      clear hmax
      go_enter Try.func13, Try.ntmps13
      go_upto_region 1 with fail
      generalize w.alloc _ = w1 at *
      go_wp2
      go_ret3
      exact ⟨none, 0, 0, [], rfl, rfl, Sds.nil _, FB.out⟩
    · obtain ⟨k, d, e, hd, hA⟩ := ask_yes me rs hne (by omega : 1 ≤ many)
      rw [hA]
      have hO := fun W hW => refoldest_any A n c xs W hW (fun x hx => (HF.out.all x hx).1)
      rw [e] at hO
      have HO := Lib.hid hO
      have k0 : (0 : Int) ≤ (k : Int) := by omega
      have hkn : k < n := by have := (List.getElem?_eq_some_iff.1 hd).1; rw [List.length_map] at this; rw [HL.out]; exact this
      have k1 : (k : Int) < (n : Int) := by omega
      have HDD := Lib.hid hd
      clear hd e hA hO
      go_enter Try.func13, Try.ntmps13
      go_upto_region 1 with fail
      generalize w.alloc _ = w1 at *
      obtain ⟨g, hg⟩ : ∃ g, w.heap.size = g := ⟨_, rfl⟩
      have HG := Lib.hid hg
      rw [hg] at K HB ⊢
      clear hg
      go_wp2_with fail
      refine (HO.out w1 HS.out).mono ?_
      rintro e w2 ⟨rfl, b2⟩
      obtain ⟨b, off, x, rfl, hb, hx, hxm, c0, _, _, _⟩ := (HS.out.next b2).at_ hkn
      obtain rfl : x.1 = d := by have := HDD.out; rw [List.getElem?_map, hx] at this; simpa using this
      have K2 := Lib.hid (K.out.next b2)
      have B2 := Lib.hid b2
      obtain ⟨q0, q1, q2, q3⟩ := K2.out.cells
      have r2 := K2.out.free 2
      clear b2 hb hx hxm HO HDD K
      go_upto_region 5 with fail
      have B3 : Hid (Below w.heap.size w (w2.setCell ⟨g, 2, none⟩ (.int .u8 0))) := (FB.out.trans (B2.out.mono FB.out.size)).setCell (p := ⟨g, 2, none⟩) (by rw [← HG.out]; exact Nat.le_refl _) _
      have K3 := Lib.hid (K2.out.put2 0)
      clear q0 q1 q2 q3 r2 K2 B2 HS HB FB c0
      generalize w2.setCell ⟨g, 2, none⟩ (.int .u8 0) = w3 at *
      have FM3 : Fl w3 ((me.1, me.2.1, 0, me.2.2.2), hm) := Sn.next HFw.out B3.out
      have O4 := Lib.hid (ods1 w3 ((me.1, me.2.1, 0, me.2.2.2), hm) FM3)
      have hbl := below_lit w3 (.cells #[.int .u8 ((me.1, me.2.1, 0, me.2.2.2) : Dsc).1, .int .u16 ((me.1, me.2.1, 0, me.2.2.2) : Dsc).2.1, .int .u8 ((me.1, me.2.1, 0, me.2.2.2) : Dsc).2.2.1, .slice hm.1 hm.2.1 hm.2.2] 34)
      have B4 := Lib.hid (thn B3.out hbl)
      obtain ⟨q0, q1, q2, q3⟩ := K3.out.cells
      have L3 : Hid (w.heap.size ≤ w3.heap.size) := B3.out.size
      dsimp only at q0 q1 q2 q3 O4 B4
      clear hbl FM3 K3
      go_upto_region 6 with fail
      generalize w3.alloc _ = w4 at *
      obtain ⟨g4, hg4⟩ : ∃ g, w3.heap.size = g := ⟨_, rfl⟩
      rw [hg4] at O4 L3 ⊢
      clear hg4 q0 q1 q2 q3
      have HP := Lib.hid (refpickK_any _ n c xs (many - 1) x.1.1 Ad nd cd rs w4 (HSw.out.next B4.out) (by omega) HRI.out (Su.next HDw.out B4.out) HR.out)
      go_wp2_with fail
      refine HP.out.mono ?_
      rintro e w6 ⟨A6, n6, c6, ps, rfl, hp, d6, p6, b6⟩
      have D6 := Lib.hid d6
      have P6 := Lib.hid p6
      have O6 := Lib.hid (O4.out.below b6)
      have B6 := Lib.hid (thn B4.out b6)
      have HPP := Lib.hid hp
      have n6le : n6 ≤ 1000 := by
        have h1 := d6.1
        rw [dcs_length] at h1
        have h2 := congrArg List.length hp
        rw [List.length_map] at h2
        have h3 := pick_le rs (dropD (xs.map (·.1)) x.1.1) (many - 1)
        have h4 := drop_le (ds := xs.map (·.1)) x.1.1
        rw [List.length_map] at h4
        have := HL.out
        omega
      have SZ := Lib.hid (Nat.le_of_lt O6.out.ow.ltc)
      clear d6 b6 p6 hp HP O4 B4
      go_wp2_with (at_builtin; go_must (refine wpList_appsy rfl _ _ 22 rfl Try.underlying22 infoD rfl (by decide) rfl O6.out.ow rfl (Sn.of_own D6.out) (dcs_one ps) (by omega) (by decide) SZ.out ?_); intro A7 c7 w7 o7 g7 q7)
      have B7 := Lib.hid (B6.out.grown g7 B6.out.size (fun q hq => Nat.le_trans L3.out (O6.out.ow.lt q hq)))
      have HE : Hid (((((me.1, me.2.1, 0, me.2.2.2), hm) : Dsc × Hd) :: ps).map (·.1) = (me.1, me.2.1, 0, me.2.2.2) :: pickD (dropD (xs.map (·.1)) x.1.1) (many - 1) rs) := by unfold Hid; rw [List.map_cons, HPP.out]
      have D7 : Hid (Sds w7 A7 (1 + n6) c7 ((((me.1, me.2.1, 0, me.2.2.2), hm) : Dsc × Hd) :: ps)) := ⟨by rw [dcs_cons, ← List.append_nil (dcl _), ← dcs_nil, ← dcs_cons]; exact Sn.of_own o7, fun z hz => by
        rcases List.mem_cons.1 hz with rfl | hz
        · exact Sn.next HFw.out B7.out
        · exact Sn.next (HSw.out.fl z (P6.out z hz)) B7.out⟩
      clear o7 g7 q7
      go_wp2
      go_ret3
      exact ⟨A7, 1 + n6, c7, _, rfl, HE.out, D7.out, B7.out⟩
end Go.Proofs.Ytgbnnllbpidlfaa
