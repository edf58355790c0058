/- Layer 3: the walk of SchemaLimits. -/
import Derived.Test.YteofjhoemcjlnaaL3b
import Derived.Test.YteofjhoemcjlnaaFour
import Derived.Deep.Cut
namespace Go.Proofs.Yteofjhoemcjlnaa
open Go.RowKit
set_option linter.unusedVariables false
def InR (x : Int) : Prop := -2147483648 ≤ x ∧ x ≤ 2147483647
theorem ofL_in (l : List (Int × Int)) (h : ∀ p ∈ l, InR p.1 ∧ InR p.2) : ∀ p ∈ ofL l, InR p.1 ∧ InR p.2 := by
  intro p hp
  unfold ofL at hp
  split at hp
  · simp only [twoL, List.mem_cons, List.not_mem_nil, or_false] at hp
    rcases hp with rfl | rfl <;> (unfold InR; omega)
  · obtain ⟨q, hq, rfl⟩ := List.mem_map.1 hp
    have := h q (List.mem_of_mem_take hq)
    unfold InR at *
    simp only [upright]
    omega
theorem set_unfit {ps : List (Int × Int)} {xs : List Int} {j : Nat} {p : Int × Int} {x : Int} (hp : ps[j]? = some p) (hl : xs.length = ps.length) (h : ¬ (p.1 ≤ x ∧ x ≤ p.2)) : fitsB ps (xs.set j x) = false :=
  fitsB_bad hp (by rw [List.getElem?_set]; have := (List.getElem?_eq_some_iff.1 hp).1; rw [if_pos rfl, if_pos (by omega)]) h
theorem Nl_set (k : IntKind) (xs : List Int) (j : Nat) (x : Int) : (Nl k xs).set j (.int k x) = Nl k (xs.set j x) := by unfold Nl; rw [List.map_set]
/-- One element of own numbers is written. -/
theorem own_set {w : World} {B : Nat} {A : Option Addr} {n c : Nat} {xs : List Int} {E : TypeId} (h : Own w B E A n c (Nl .i32 xs)) {j : Nat} (hj : j < n) (x : Int) :
    ∃ g, A = some ⟨g, 0, none⟩ ∧ B ≤ g ∧ w.cell? ⟨g, j, none⟩ = some (.int .i32 (xs.getD j 0)) ∧ w.frozen? ⟨g, j, none⟩ = false ∧ Own (w.setCell ⟨g, j, none⟩ (.int .i32 x)) B E A n c (Nl .i32 (xs.set j x)) := by
  rcases h.block with rfl | ⟨g, cur, rfl, hB, hh⟩
  · have hs := h.sv
    obtain ⟨_, _, e, _⟩ := hs.at_ (by omega)
    cases e
  · have hs := h.sv
    have hl := si_len hs
    obtain ⟨b, off, e, _, hc⟩ := hs.at_ (by omega)
    injection e with e
    injection e with e1 e2
    subst e1 e2
    have h1 := hc j _ (Nl_at (List.getElem?_eq_getElem (by omega : j < xs.length)))
    rw [Nat.zero_add] at h1
    refine ⟨g, rfl, hB, ?_, by simp [World.frozen?, hh], ?_⟩
    · rw [h1]; simp [List.getD, List.getElem?_eq_getElem (by omega : j < xs.length)]
    · have := (World.ownsRow.stored h j (.int .i32 x)).1
      rwa [Nl_set] at this
section --walk
def tyBlank (B : Nat) : Ty := .pred (fun v w => ∃ g, v = .pointer (some ⟨g, 0, none⟩) ∧ B ≤ g ∧ w.heap[g]? = some (.cells #[.int .u8 0, .int .u16 0, .int .u32 0, .slice none 0 0, .slice none 0 0] 31 (0, 0))) (fun _ _ _ ⟨g, h, hB, hh⟩ hb => ⟨g, h, hB, (hb.block g (Array.getElem?_eq_some_iff.1 hh).1).trans hh⟩)
def tyZero (B n : Nat) : Ty := .pred (fun v w => ∃ D, v = .slice D n n ∧ Own w B 5 D n n ((List.replicate n (0 : UInt8)).map Bv)) (fun _ _ _ ⟨D, h, o⟩ hb => ⟨D, h, o.below hb⟩)
def tyFine (B : Nat) (nd ic sq : Int) (A : Option Addr) (m c n : Nat) : Ty := .pred (fun v w => ∃ D, v = .agg #[.int .u8 nd, .int .u16 ic, .int .u32 sq, .slice A m c, .slice D n n] ∧ Own w B 5 D n n ((List.replicate n (0 : UInt8)).map Bv)) (fun _ _ _ ⟨D, h, o⟩ hb => ⟨D, h, o.below hb⟩)
theorem sn_apart {w w' : World} {k s : Nat} {A : Option Addr} {n c G : Nat} {xs : List Value} {cs : Array Value} {t : TypeId} {fr : Nat × Nat} (h : Sn w k s A n c xs) (hs : 0 < s) (hx : ∀ v ∈ xs, ∃ z, v = .int .i32 z) (hg : w.heap[G]? = some (.cells cs t fr)) (hc : ∀ v ∈ cs.toList, ∀ z, v ≠ .int .i32 z)
    (far : ∀ q : Addr, q.block ≠ G → w'.cell? q = w.cell? q) : Sn w' k s A n c xs :=
  ⟨h.len, h.cap, h.max, fun hn => by
    obtain ⟨b, off, e, hb, hcell⟩ := h.at_ hn
    have hl := h.len
    have hpos : 0 < n * s := Nat.mul_pos hn hs
    have h0 : xs[0]? = some xs[0] := List.getElem?_eq_getElem (by omega)
    have hne : b ≠ G := by
      rintro rfl
      have h1 := hcell 0 _ h0
      rw [cell_of_row w b _ cs t fr hg] at h1
      obtain ⟨z, hz⟩ := hx _ (List.mem_of_getElem? h0)
      exact hc _ (by rw [← Array.mem_def]; exact Array.mem_of_getElem? h1) z hz
    exact ⟨b, off, e, hb, fun j u hu => (far ⟨b, off + j, none⟩ hne).trans (hcell j u hu)⟩⟩
theorem spl_i32 : ∀ (ps : List (Int × Int)), ∀ v ∈ spl ps, ∃ z, v = .int .i32 z
  | [], v, h => by cases h
  | p :: ps, v, h => by
    rw [spl_cons] at h
    rcases List.mem_cons.1 h with rfl | h
    · exact ⟨_, rfl⟩
    · rcases List.mem_cons.1 h with rfl | h
      · exact ⟨_, rfl⟩
      · exact spl_i32 ps v h
theorem Nl_i32 (xs : List Int) : ∀ v ∈ Nl .i32 xs, ∃ z, v = .int .i32 z := fun v h => by
  obtain ⟨x, _, rfl⟩ := List.mem_map.1 h
  exact ⟨x, rfl⟩
theorem id_noti32 {a b c : Int} : ∀ v ∈ (#[.int .u8 a, .int .u16 b, .int .u32 c] : Array Value).toList, ∀ z, v ≠ .int .i32 z := by
  intro v hv z
  simp at hv
  rcases hv with rfl | rfl | rfl <;> simp
theorem id_cells {w : World} {g : Nat} {a b c : Value} {t : TypeId} (h : w.heap[g]? = some (.cells #[a, b, c] t (0, 0))) : w.cell? ⟨g, 0, none⟩ = some a ∧ w.cell? ⟨g, 1, none⟩ = some b ∧ w.cell? ⟨g, 2, none⟩ = some c := by
  simp [World.cell?, h]
set_option maxRecDepth 100000 in
set_option maxHeartbeats 8000000 in
theorem slimits_walk (A : Option Addr) (n c : Nat) (l : List (Int × Int)) (A' : Option Addr) (n' c' : Nat) (xs : List Int) (at_ nd ic sq : Int) (w : World) (h : Sp w w.heap.size A n c l) (hin : ∀ p ∈ l, InR p.1 ∧ InR p.2) (h' : Si w w.heap.size A' n' c' xs)
    (ha : 0 ≤ at_ ∧ at_ ≤ 255) (wn : 0 ≤ nd ∧ nd ≤ 255) (wi : 0 ≤ ic ∧ ic ≤ 65535) (ws : 0 ≤ sq ∧ sq ≤ 4294967295) :
    Calls Try.prog 5 #[.slice A n c, .slice A' n' c', .int .u8 at_, .agg #[.int .u8 nd, .int .u16 ic, .int .u32 sq]] w fun e w' => e = .returned (.bool true) ∧ Below w.heap.size w w' := by
  have hm' := h'.max
  have hc' := h'.cap
  unfold maxLen at hm'
  have hq : ∃ q : Nat, q ≤ n' ∧ q ≤ 20 ∧ (q : Int) = (if (20 : Int) < (n' : Int) then 20 else (n' : Int)) := by
    rcases Nat.lt_or_ge 20 n' with g | g
    · exact ⟨20, by omega, by omega, by rw [if_pos (by omega)]; rfl⟩
    · exact ⟨n', by omega, by omega, by rw [if_neg (by omega)]⟩
  obtain ⟨q, hq1, hq2, hq3⟩ := hq
  have e1 := fun w' : World => run_upto (P := Try.prog) (w := w') (A := A') (n := n') (c := c') (hi := q) 28 21 Try.underlying28 (by kernel_rfl) 1 (fun w' => by kernel_rfl) .i64 (q : Int) rfl (by omega)
  have HMIN := Lib.hid hq3.symm
  clear hq3
  have HS : Hid (Sp w w.heap.size A n c l) := h
  have HS' : Hid (Si w w.heap.size A' q c' (xs.take q)) := si_upto h' hq1
  clear h h'
  generalize xs.take q = ys at *
  have HQ : ∃ ps, Hid (ofL l = ps) ∧ Hid (∀ p ∈ ps, p.1 ≤ p.2) ∧ (1 ≤ ps.length ∧ ps.length ≤ 4) ∧ Hid (∀ p ∈ ps, InR p.1 ∧ InR p.2) := ⟨_, rfl, ofL_right l, ofL_length l, ofL_in l hin⟩
  obtain ⟨ps, HO, HR, ⟨hp1, hp4⟩, HIN⟩ := HQ
  clear hin
  have HP : ∃ m, Hid (ps.length = m) := ⟨_, rfl⟩
  obtain ⟨m, HP⟩ := HP
  rw [HP.out] at hp1 hp4
  obtain ⟨ha0, ha1⟩ := ha
  have HK : ∃ kk : Nat, at_ % (m : Int) = (kk : Int) ∧ kk < m := by
    have h1 := Int.emod_nonneg at_ (show (m : Int) ≠ 0 by omega)
    have h2 := Int.emod_lt_of_pos at_ (show (0 : Int) < (m : Int) by omega)
    exact ⟨(at_ % (m : Int)).toNat, by omega, by omega⟩
  obtain ⟨kk, hkk, hkm⟩ := HK
  have b0 := below_lit w (.cells #[.int .u8 nd, .int .u16 ic, .int .u32 sq] 27)
  have K0 : Hid ((w.alloc (.cells #[.int .u8 nd, .int .u16 ic, .int .u32 sq] 27)).heap[w.heap.size]? = some (.cells #[.int .u8 nd, .int .u16 ic, .int .u32 sq] 27 (0, 0))) := heap_alloc_new w _
  have HE1 := Lib.hid e1
  have HKK := Lib.hid hkk
  clear e1 hkk
  go_enter Try.func5, Try.ntmps5
  go_wp2_with fail
  have O := of_any _ _ _ l _ (HS.out.next b0)
  have HS1 := Lib.hid (HS'.out.next b0)
  clear HS HS'
  generalize w.alloc _ = W0 at *
  have z0 : w.heap.size < W0.heap.size := (Array.getElem?_eq_some_iff.1 K0.out).1
  refine O.mono ?_
  clear O
  rw [HO.out]
  rintro r w1 ⟨A1, c1, rfl, s1, b1⟩
  rw [HP.out] at s1
  rw [HP.out]
  have hm1 := s1.max
  have hc1 := s1.cap
  unfold maxLen at hm1
  have S1 := Lib.hid s1
  clear s1
  have e1 := HE1.out
  have hmin := HMIN.out
  go_wp2_with fail
  refine (bring_any _ _ _ _ ps _ _ _ _ ys w1 S1.out (Nat.le_refl _) (HS1.out.next b1) (Nat.le_refl _) hp4).mono ?_
  rintro r w2 ⟨A2, c2, rfl, o2, b2⟩
  have e2 : (bringL ps ys).length = m := by rw [bringL_length, HP.out]
  rw [e2] at o2
  rw [e2]
  have HX : Hid (fitsB ps (bringL ps ys) = true) := bring_fits ps ys HR.out
  have HXL : Hid ((bringL ps ys).length = m) := e2
  clear e2 e1 HE1 HS1 hmin HMIN
  generalize bringL ps ys = X at *
  have X2 := Lib.hid o2.sv
  have hm2 := X2.out.max
  have hc2 := X2.out.cap
  unfold maxLen at hm2
  clear o2
  obtain ⟨bs, os, p, rfl, hbs, hp, q1, q2⟩ := sp_at S1.out hkm
  have HPP : Hid (ps[kk]? = some p) := hp
  have hpr := HR.out p (List.mem_of_getElem? hp)
  have HPI := Lib.hid (HIN.out p (List.mem_of_getElem? hp))
  have HPI2 := HPI.out
  unfold InR at HPI2
  obtain ⟨⟨i1, i2⟩, i3, i4⟩ := HPI2
  clear hp
  have Q1 := Lib.hid q1
  have Q2 := Lib.hid q2
  clear q1 q2
  have hkk := HKK.out
  have FLAG1 : True := trivial
  have FLAG2 : True := trivial
  have hfr : -2147483648 < p.1 ∨ p.1 ≤ -2147483648 := by omega
  have hto : p.2 < 2147483647 ∨ 2147483647 ≤ p.2 := by omega
  rcases hfr with hfr | hfr <;> rcases hto with hto | hto
  · -- from True, to True
    go_wp2_with (first
    | (at_builtin; clear FLAG1; go_must (refine wpList_app rfl _ _ 28 rfl Try.underlying28 infoI32 rfl rfl (Own.lit0 _ 21) rfl (X2.out.next (below_lit _ _)) (Nl_one _ _) (by omega) (by decide) (by simp) ?_); intro A3 c3 w3 o3 g3
       have o3' : Own w3 w2.heap.size 21 A3 m c3 (Nl .i32 X) := by rw [Nat.zero_add, List.nil_append] at o3; exact o3
       have b3 : Below w2.heap.size w2 w3 := (below_lit w2 _).grown g3 (by simp) (fun k hk => by simp [Value.ownBlock] at hk; omega)
       have q1 := ((thn b2 b3).cell (p := ⟨bs, os + kk * 2, none⟩) hbs).trans Q1.out
       have q2 := ((thn b2 b3).cell (p := ⟨bs, os + kk * 2 + 1, none⟩) hbs).trans Q2.out
       have j0 : (0 : Int) ≤ (kk : Int) := by omega
       have j1 : (kk : Int) < (m : Int) := by omega
       obtain ⟨gy, rfl, hgy, cy, fy, o4⟩ := own_set o3' hkm (p.1 - 1)
       have O4 := Lib.hid o4
       have b4 := b3.setCell (p := ⟨gy, kk, none⟩) hgy (.int .i32 (p.1 - 1))
       clear o3' o4
       clear o3 g3))
    refine (fits_of (S1.out.next (thn b2 b4)) (Nat.le_refl _) (O4.out.sv) (Nat.le_refl _) HR.out ((set_unfit HPP.out (HXL.out.trans HP.out.symm) (by omega)))).mono ?_
    rintro r w5 ⟨rfl, b5⟩
    have b45 := thn b4 b5
    obtain ⟨gz, ez, hgz, cz, fz, o6⟩ := own_set (O4.out.below b5) hkm (p.2 + 1)
    injection ez with ez
    injection ez with ez
    subst ez
    have O6 := Lib.hid o6
    have b46 := b45.setCell (p := ⟨gy, kk, none⟩) hgz (.int .i32 (p.2 + 1))
    have r2 := ((thn b2 b45).cell (p := ⟨bs, os + kk * 2 + 1, none⟩) hbs).trans Q2.out
    clear o6 q1 q2
    go_wp2_with fail
    refine (fits_of (S1.out.next (thn b2 b46)) (Nat.le_refl _) (O6.out.sv) (Nat.le_refl _) HR.out ((set_unfit HPP.out (by rw [List.length_set]; exact HXL.out.trans HP.out.symm) (by omega)))).mono ?_
    rintro r w6 ⟨rfl, b6'⟩
    have b6 := thn b46 b6'
    clear b6' b46 b45 b5 O6 O4 b4 r2 cz fz cy fy
    have X6 := Lib.hid (X2.out.next b6)
    have S6 := Lib.hid (S1.out.next (thn b2 b6))
    go_wp2_with (first
    | (at_builtin; have o0 := O7.out; go_must (refine wpList_app rfl _ _ 28 rfl Try.underlying28 infoI32 rfl rfl (o0.below (below_lit _ _)) rfl (Sv.lit_at _ #[.int .i32 0] 21 (0, 0) 1 _ (by first | rfl | simp) rfl (by decide)) (one_one _ rfl) (by omega) (by decide) (by simp only [World.size_alloc]; omega) ?_); intro A8 c8 w8 o8 g8
       have o8' : Own w8 w6.heap.size 21 A8 (m + 1) c8 (Nl .i32 (X ++ [0])) := by rw [Nl_snoc]; exact o8
       have b8 : Below w6.heap.size w6 w8 := (b7.trans ((below_lit w7 _).mono b7.size)).grown g8 (by simp only [World.size_alloc]; have := b7.size; omega) o0.lt
       have O8 := Lib.hid o8'
       clear o8 o8' g8 o0 O7)
    | (at_builtin; clear FLAG2; go_must (refine wpList_app rfl _ _ 28 rfl Try.underlying28 infoI32 rfl rfl (Own.lit0 _ 21) rfl (X6.out.next (below_lit _ _)) (Nl_one _ _) (by omega) (by decide) (by simp) ?_); intro A7 c7 w7 o7 g7
       have o7' : Own w7 w6.heap.size 21 A7 m c7 (Nl .i32 X) := by rw [Nat.zero_add, List.nil_append] at o7; exact o7
       have b7 : Below w6.heap.size w6 w7 := (below_lit w6 _).grown g7 (by simp) (fun k hk => by simp [Value.ownBlock] at hk; omega)
       have O7 := Lib.hid o7'
       have hb7 := b7.size
       clear o7 o7' g7))
    skip
    refine (fits_of (S6.out.next b8) (Nat.le_refl _) (O8.out.sv) (Nat.le_refl _) HR.out (fitsB_len (by rw [List.length_append, HXL.out, HP.out]; simp))).mono ?_
    rintro r w9 ⟨rfl, b9⟩
    have e5 := fun w' : World => run_upto (P := Try.prog) (w := w') (A := A2) (n := m) (c := c2) (hi := m - 1) 28 21 Try.underlying28 (by kernel_rfl) 1 (fun w' => by kernel_rfl) .i64 ((m : Int) - 1) (by omega) (by omega)
    have b69 := thn b8 b9
    clear b8 b9 O8
    go_wp2_with fail
    refine (fits_of (S6.out.next b69) (Nat.le_refl _) (si_upto (X6.out.next b69) (by omega : m - 1 ≤ m)) (Nat.le_refl _) HR.out (fitsB_len (by rw [List.length_take, HXL.out, HP.out]; omega))).mono ?_
    rintro r w10 ⟨rfl, b10⟩
    have b2X := thn (thn (thn b2 b6) b69) b10
    have k10 := (((b1.trans (b2X.mono b1.size))).block _ z0).trans K0.out
    obtain ⟨y0, y1, y2⟩ := id_cells k10
    have f10 := ev_free k10
    have K10 := Lib.hid k10
    have X10 := Lib.hid (X6.out.next (thn b69 b10))
    have S10 := Lib.hid (S6.out.next (thn b69 b10))
    have bbX := thn (thn b0 b1) b2X
    obtain ⟨wn0, wn1⟩ := wn
    obtain ⟨wi0, wi1⟩ := wi
    obtain ⟨ws0, ws1⟩ := ws
    clear k10 b69 b10 b2X b1 b2 b6 S6 X6 X2 S1 K0 b0 Q1 Q2 e5 z0 HIN HPI HKK hkk
    obtain ⟨ic2, hic, hic1⟩ : ∃ v : Int, (if ic < 1 then 1 else ic) = v ∧ 1 ≤ v := ⟨_, rfl, by split <;> omega⟩
    obtain ⟨sq2, hsq, hsq1⟩ : ∃ v : Int, (if sq < 1 then 1 else sq) = v ∧ 1 ≤ v := ⟨_, rfl, by split <;> omega⟩
    obtain ⟨nd2, hnd, hnd0, hnd1⟩ : ∃ v : Int, nd % 12 = v ∧ 0 ≤ v ∧ v < 12 := ⟨_, rfl, by omega, by omega⟩
    go_wp2_with fail
    clear hic hsq hnd y0 y1 y2 f10
    have k11 := Go.Joins.block_setCell (i := 2) (Go.Joins.block_setCell (i := 1) (Go.Joins.block_setCell (i := 0) K10.out (.int .u8 nd2)) (.int .u16 ic2)) (.int .u32 sq2)
    have b11 := ((bbX.setCell (p := ⟨w.heap.size, 0, none⟩) (Nat.le_refl _) (.int .u8 nd2)).setCell (p := ⟨w.heap.size, 1, none⟩) (Nat.le_refl _) (.int .u16 ic2)).setCell (p := ⟨w.heap.size, 2, none⟩) (Nat.le_refl _) (.int .u32 sq2)
    have far : ∀ q : Addr, q.block ≠ w.heap.size → (((w10.setCell ⟨w.heap.size, 0, none⟩ (.int .u8 nd2)).setCell ⟨w.heap.size, 1, none⟩ (.int .u16 ic2)).setCell ⟨w.heap.size, 2, none⟩ (.int .u32 sq2)).cell? q = w10.cell? q := fun q hq => by
      rw [World.cell?_of_block (Below.heap_setCell _ ⟨w.heap.size, 2, none⟩ _ _ hq), World.cell?_of_block (Below.heap_setCell _ ⟨w.heap.size, 1, none⟩ _ _ hq), World.cell?_of_block (Below.heap_setCell _ ⟨w.heap.size, 0, none⟩ _ _ hq)]
    have hsz : w10.heap.size ≤ (((w10.setCell ⟨w.heap.size, 0, none⟩ (.int .u8 nd2)).setCell ⟨w.heap.size, 1, none⟩ (.int .u16 ic2)).setCell ⟨w.heap.size, 2, none⟩ (.int .u32 sq2)).heap.size := by simp
    have S11 := Lib.hid ((sn_apart S10.out (by decide) (spl_i32 ps) K10.out id_noti32 far).more hsz)
    have X11 := Lib.hid (Sn.sv ((sn_apart X10.out.sn (by decide) (Nl_i32 X) K10.out id_noti32 far).more hsz))
    have K11 := Lib.hid k11
    clear far hsz K10 S10 X10 bbX k11
    generalize ((w10.setCell ⟨w.heap.size, 0, none⟩ (.int .u8 nd2)).setCell ⟨w.heap.size, 1, none⟩ (.int .u16 ic2)).setCell ⟨w.heap.size, 2, none⟩ (.int .u32 sq2) = w11 at *
    have z11 : w.heap.size < w11.heap.size := (Array.getElem?_eq_some_iff.1 K11.out).1
    obtain ⟨i0, hi, hz0, hz1, hz2⟩ := info_parts infoU8
    have HI := Lib.hid hi
    have HZ0 := Lib.hid hz0
    have HZ1 := Lib.hid hz1
    have HZ2 := Lib.hid hz2
    clear hi hz0 hz1 hz2
    refine wp_region_typed 5 [(104, .val (.agg #[.int .u8 nd2, .int .u16 ic2, .int .u32 sq2])), (105, .val (.slice A2 m c2)), (106, tyZero w11.heap.size 64), (107, tyFine w11.heap.size nd2 ic2 sq2 A2 m c2 64), (13, tyBlank w11.heap.size)]
      [[], [], [], [104, 105, 106], []] (by kernel_rfl) (by kernel_rfl) ?_ ?_
    rotate_left
    · intro w12 hb
      simp only [List.take_succ_cons, List.take_zero, List.drop_succ_cons, List.drop_zero]
      refine over_val rfl (over_val rfl (over_pred rfl ?_))
      rintro _ ⟨D6, rfl, o6⟩
      refine over_pred rfl ?_
      rintro _ ⟨D7, rfl, o7⟩
      refine over_pred rfl ?_
      rintro _ ⟨g13, rfl, hg13, k13⟩
      refine over_nil ?_
      simp only [put_lit, List.set_cons_succ, List.set_cons_zero]
      obtain ⟨c130, c131, c132, c133, c134⟩ := ev_cells k13
      have f13 := ev_free k13
      have O7 := Lib.hid o7
      have K13 := Lib.hid k13
      have HB := Lib.hid hb
      clear o6 o7 k13 hb
      go_wp2_with fail
      have bA := HB.out.trans (st5_below (w := w12) (a := .int .u8 nd2) (b := .int .u16 ic2) (c := .int .u32 sq2) (d := .slice A2 m c2) (e := .slice D7 64 64) hg13)
      have kF := st5_same (a := .int .u8 nd2) (b := .int .u16 ic2) (c := .int .u32 sq2) (d := .slice A2 m c2) (e := .slice D7 64 64) K13.out
      have oF := O7.out.same5 (a := .int .u8 nd2) (b := .int .u16 ic2) (c := .int .u32 sq2) (d := .slice A2 m c2) (e := .slice D7 64 64) K13.out (by decide)
      clear c130 c131 c132 c133 c134 f13 O7 K13 HB
      generalize ((((w12.setCell ⟨g13, 0, none⟩ (.int .u8 nd2)).setCell ⟨g13, 1, none⟩ (.int .u16 ic2)).setCell ⟨g13, 2, none⟩ (.int .u32 sq2)).setCell ⟨g13, 3, none⟩ (.slice A2 m c2)).setCell ⟨g13, 4, none⟩ (.slice D7 64 64) = w13 at *
      have S13 := Lib.hid (S11.out.next bA)
      have X13 := Lib.hid (X11.out.next bA)
      have OF := Lib.hid oF
      have KF := Lib.hid kF
      have bb13 := b11.trans (bA.mono b11.size)
      have z13 : g13 < w13.heap.size := (Array.getElem?_eq_some_iff.1 kF).1
      clear oF kF bA S11 X11 K11 b11
      refine four_gen (g13 := g13) (nd := nd2) (ic := ic2) (sq := sq2) (A := A2) (m := m) (c := c2) (D := D7) (dn := 64) (dc := 64) ⟨rfl, rfl, rfl⟩ ⟨rfl, rfl, rfl⟩ ⟨rfl, rfl, rfl⟩ ⟨rfl, rfl, rfl⟩ ⟨rfl, rfl, rfl⟩ ⟨rfl, rfl, rfl⟩ ⟨rfl, rfl, rfl⟩ ⟨rfl, rfl, rfl⟩ ⟨rfl, rfl, rfl⟩ ⟨rfl, rfl, rfl⟩ ⟨rfl, rfl, rfl⟩ ⟨rfl, rfl, rfl⟩ (by kernel_rfl) (by kernel_rfl) (by kernel_rfl) (by kernel_rfl) (Nat.le_of_ble_eq_true (by kernel_rfl)) (by kernel_rfl) KF.out ?_
      intro g14 g15 g16 g17 w14 hge hne b14 k14 k15 k16 k17
      obtain ⟨hg14, hg15, hg16, hg17⟩ := hge
      obtain ⟨n45, n46, n47, n56, n57, n67⟩ := hne
      simp only [putAll, put_lit, List.set_cons_succ, List.set_cons_zero]
      have KF14 := Lib.hid ((b14.block g13 z13).trans KF.out)
      have l13 : g13 < w14.heap.size := Nat.lt_of_lt_of_le z13 b14.size
      have l14 := (Array.getElem?_eq_some_iff.1 k14).1
      have l15 := (Array.getElem?_eq_some_iff.1 k15).1
      have l16 := (Array.getElem?_eq_some_iff.1 k16).1
      have l17 := (Array.getElem?_eq_some_iff.1 k17).1
      have M14 := Lib.hid k14
      have M15 := Lib.hid k15
      have M16 := Lib.hid k16
      have M17 := Lib.hid k17
      have B14 := Lib.hid b14
      have hs14 := b14.size
      clear k14 k15 k16 k17 b14 KF
      go_upto_region 21 with (at_make; go_must (refine wpList_make_full _ rfl _ _ 29 rfl w13.heap.size 5 i0 (.int .u8 0) 1 Try.underlying29 HI.out HZ0.out HZ1.out .i64 .i64 _ _ 65 rfl rfl rfl rfl (by rw [HZ2.out]; omega) (by unfold maxLen; omega) hs14 ?_); intro w15 o15 g15'
                              have m14 := (g15'.block g14 l14 (by simp)).trans M14.out
                              have N14 := Lib.hid m14
                              have N15 := Lib.hid ((g15'.block g15 l15 (by simp)).trans M15.out)
                              have N16 := Lib.hid ((g15'.block g16 l16 (by simp)).trans M16.out)
                              have N17 := Lib.hid ((g15'.block g17 l17 (by simp)).trans M17.out)
                              have N13 := Lib.hid ((g15'.block g13 l13 (by simp)).trans KF14.out)
                              have b15 : Below w13.heap.size w13 w15 := B14.out.grown g15' hs14 (by simp)
                              have B15 := Lib.hid b15
                              rw [made_u8] at o15
                              have O15 := Lib.hid o15
                              clear o15 g15' M14 M15 M16 M17 KF14 b15
                              obtain ⟨c140, c141, c142, c143, c144⟩ := ev_cells m14
                              have f14 := ev_free m14
                              clear m14)
      clear c140 c141 c142 c143 c144 f14
      generalize (some ⟨w14.heap.size, 0, none⟩ : Option Addr) = D15 at *
      have j14 := Go.Joins.block_setCell (i := 4) N14.out (.slice D15 65 65)
      have j15 := (Below.heap_setCell w15 ⟨g14, 4, none⟩ (.slice D15 65 65) g15 n45.symm).trans N15.out
      have j16 := (Below.heap_setCell w15 ⟨g14, 4, none⟩ (.slice D15 65 65) g16 n46.symm).trans N16.out
      have j17 := (Below.heap_setCell w15 ⟨g14, 4, none⟩ (.slice D15 65 65) g17 n47.symm).trans N17.out
      have n43 : g13 ≠ g14 := by omega
      have j13 := (Below.heap_setCell w15 ⟨g14, 4, none⟩ (.slice D15 65 65) g13 n43).trans N13.out
      have B16 := Lib.hid (B15.out.setCell (p := ⟨g14, 4, none⟩) hg14 (.slice D15 65 65))
      have O16 := Lib.hid (Own.off O15.out N14.out (by decide) 4 (.slice D15 65 65))
      clear N13 N14 N15 N16 N17 B15 O15
      generalize w15.setCell ⟨g14, 4, none⟩ _ = w16 at *
      have J13 : Hid (w16.heap[g13]? = some (.cells #[.int .u8 nd2, .int .u16 ic2, .int .u32 sq2, .slice A2 m c2, .slice D7 64 64] 31 (0, 0))) := j13
      have J14 : Hid (w16.heap[g14]? = some (.cells #[.int .u8 nd2, .int .u16 ic2, .int .u32 sq2, .slice A2 m c2, .slice D15 65 65] 31 (0, 0))) := j14
      have J15 : Hid (w16.heap[g15]? = some (.cells #[.int .u8 nd2, .int .u16 ic2, .int .u32 sq2, .slice A2 m c2, .slice D7 64 64] 31 (0, 0))) := j15
      have J16 : Hid (w16.heap[g16]? = some (.cells #[.int .u8 nd2, .int .u16 ic2, .int .u32 sq2, .slice A2 m c2, .slice D7 64 64] 31 (0, 0))) := j16
      have J17 : Hid (w16.heap[g17]? = some (.cells #[.int .u8 nd2, .int .u16 ic2, .int .u32 sq2, .slice A2 m c2, .slice D7 64 64] 31 (0, 0))) := j17
      clear j13 j14 j15 j16 j17
      obtain ⟨c150, c151, c152, c153, c154⟩ := ev_cells J15.out
      obtain ⟨c160, c161, c162, c163, c164⟩ := ev_cells J16.out
      obtain ⟨c170, c171, c172, c173, c174⟩ := ev_cells J17.out
      have f15 := ev_free J15.out
      have f16 := ev_free J16.out
      have f17 := ev_free J17.out
      have n65 := n56.symm
      have n75 := n57.symm
      have n76 := n67.symm
      go_upto_region 22 with fail
      clear c150 c151 c152 c153 c154 c160 c161 c162 c163 c164 c170 c171 c172 c173 c174 f15 f16 f17
      have n53 : g13 ≠ g15 := by omega
      have n63 : g13 ≠ g16 := by omega
      have n73 : g13 ≠ g17 := by omega
      have ff : ∀ k, k ≠ g15 → k ≠ g16 → k ≠ g17 → (((w16.setCell ⟨g15, 0, none⟩ (.int .u8 12)).setCell ⟨g16, 1, none⟩ (.int .u16 0)).setCell ⟨g17, 2, none⟩ (.int .u32 0)).heap[k]? = w16.heap[k]? := fun k h1 h2 h3 => by
        rw [Below.heap_setCell _ ⟨g17, 2, none⟩ _ _ h3, Below.heap_setCell _ ⟨g16, 1, none⟩ _ _ h2, Below.heap_setCell _ ⟨g15, 0, none⟩ _ _ h1]
      have q13 := (ff g13 n53 n63 n73).trans J13.out
      have q14 := (ff g14 n45 n46 n47).trans J14.out
      have q15 := (Below.heap_setCell _ ⟨g17, 2, none⟩ (.int .u32 0) g15 n57).trans ((Below.heap_setCell _ ⟨g16, 1, none⟩ (.int .u16 0) g15 n56).trans (Go.Joins.block_setCell (i := 0) J15.out (.int .u8 12)))
      have q16 := (Below.heap_setCell _ ⟨g17, 2, none⟩ (.int .u32 0) g16 n67).trans (Go.Joins.block_setCell (i := 1) ((Below.heap_setCell w16 ⟨g15, 0, none⟩ (.int .u8 12) g16 n65).trans J16.out) (.int .u16 0))
      have q17 := Go.Joins.block_setCell (i := 2) ((Below.heap_setCell _ ⟨g16, 1, none⟩ (.int .u16 0) g17 n76).trans ((Below.heap_setCell w16 ⟨g15, 0, none⟩ (.int .u8 12) g17 n75).trans J17.out)) (.int .u32 0)
      have b22 := ((B16.out.setCell (p := ⟨g15, 0, none⟩) hg15 (.int .u8 12)).setCell (p := ⟨g16, 1, none⟩) hg16 (.int .u16 0)).setCell (p := ⟨g17, 2, none⟩) hg17 (.int .u32 0)
      have s65 := Own.off (Own.off (Own.off O16.out J15.out (by decide) 0 (.int .u8 12)) ((Below.heap_setCell w16 ⟨g15, 0, none⟩ (.int .u8 12) g16 n65).trans J16.out) (by decide) 1 (.int .u16 0)) ((Below.heap_setCell _ ⟨g16, 1, none⟩ (.int .u16 0) g17 n76).trans ((Below.heap_setCell w16 ⟨g15, 0, none⟩ (.int .u8 12) g17 n75).trans J17.out)) (by decide) 2 (.int .u32 0)
      clear J13 J14 J15 J16 J17 B16 O16 ff
      generalize ((w16.setCell ⟨g15, 0, none⟩ (.int .u8 12)).setCell ⟨g16, 1, none⟩ (.int .u16 0)).setCell ⟨g17, 2, none⟩ (.int .u32 0) = w22 at *
      have K13 : Hid (w22.heap[g13]? = some (.cells #[.int .u8 nd2, .int .u16 ic2, .int .u32 sq2, .slice A2 m c2, .slice D7 64 64] 31 (0, 0))) := q13
      have K14 : Hid (w22.heap[g14]? = some (.cells #[.int .u8 nd2, .int .u16 ic2, .int .u32 sq2, .slice A2 m c2, .slice D15 65 65] 31 (0, 0))) := q14
      have K15 : Hid (w22.heap[g15]? = some (.cells #[.int .u8 12, .int .u16 ic2, .int .u32 sq2, .slice A2 m c2, .slice D7 64 64] 31 (0, 0))) := q15
      have K16 : Hid (w22.heap[g16]? = some (.cells #[.int .u8 nd2, .int .u16 0, .int .u32 sq2, .slice A2 m c2, .slice D7 64 64] 31 (0, 0))) := q16
      have K17 : Hid (w22.heap[g17]? = some (.cells #[.int .u8 nd2, .int .u16 ic2, .int .u32 0, .slice A2 m c2, .slice D7 64 64] 31 (0, 0))) := q17
      have L13 := (Array.getElem?_eq_some_iff.1 q13).1
      have L14 := (Array.getElem?_eq_some_iff.1 q14).1
      have L15 := (Array.getElem?_eq_some_iff.1 q15).1
      have L16 := (Array.getElem?_eq_some_iff.1 q16).1
      have L17 := (Array.getElem?_eq_some_iff.1 q17).1
      clear q13 q14 q15 q16 q17
      have bb := bb13.trans (b22.mono bb13.size)
      have S22 : Hid (Sp w22 w22.heap.size (some ⟨bs, os, none⟩) m c1 ps) := S13.out.next b22
      have x22 : Si w22 w22.heap.size A2 m c2 X := X13.out.next b22
      have d22 : Sl w22 w22.heap.size D7 64 64 (List.replicate 64 0) := (Own.sv OF.out).next b22
      have d65 : Sl w22 w22.heap.size D15 65 65 (List.replicate 65 0) := Own.sv s65
      have E13 : Hid (EvR w22 (.agg #[.int .u8 nd2, .int .u16 ic2, .int .u32 sq2, .slice A2 m c2, .slice D7 64 64]) ⟨nd2, ic2, sq2, X, List.replicate 64 0⟩) := ⟨_, _, _, _, _, _, rfl, x22, d22⟩
      have E14 : Hid (EvR w22 (.agg #[.int .u8 nd2, .int .u16 ic2, .int .u32 sq2, .slice A2 m c2, .slice D15 65 65]) ⟨nd2, ic2, sq2, X, List.replicate 65 0⟩) := ⟨_, _, _, _, _, _, rfl, x22, d65⟩
      have E15 : Hid (EvR w22 (.agg #[.int .u8 12, .int .u16 ic2, .int .u32 sq2, .slice A2 m c2, .slice D7 64 64]) ⟨12, ic2, sq2, X, List.replicate 64 0⟩) := ⟨_, _, _, _, _, _, rfl, x22, d22⟩
      have E16 : Hid (EvR w22 (.agg #[.int .u8 nd2, .int .u16 0, .int .u32 sq2, .slice A2 m c2, .slice D7 64 64]) ⟨nd2, 0, sq2, X, List.replicate 64 0⟩) := ⟨_, _, _, _, _, _, rfl, x22, d22⟩
      have E17 : Hid (EvR w22 (.agg #[.int .u8 nd2, .int .u16 ic2, .int .u32 0, .slice A2 m c2, .slice D7 64 64]) ⟨nd2, ic2, 0, X, List.replicate 64 0⟩) := ⟨_, _, _, _, _, _, rfl, x22, d22⟩
      have B13 : Hid (eventB ps ⟨nd2, ic2, sq2, X, List.replicate 64 0⟩ = true) := by
        unfold Hid eventB namedB
        simp only [HX.out, List.length_replicate, Bool.true_and, Bool.and_eq_true, decide_eq_true_eq]
        omega
      have B14 : Hid (eventB ps ⟨nd2, ic2, sq2, X, List.replicate 65 0⟩ = false) := by
        unfold Hid eventB
        simp only [List.length_replicate]
        rw [show decide (65 ≤ 64) = false from rfl, Bool.and_false]
      have B15 : Hid (eventB ps ⟨12, ic2, sq2, X, List.replicate 64 0⟩ = false) := by
        unfold Hid eventB namedB
        simp only
        rw [show decide ((12 : Int) < 12) = false from rfl, Bool.false_and, Bool.false_and, Bool.and_false, Bool.false_and]
      have B16 : Hid (eventB ps ⟨nd2, 0, sq2, X, List.replicate 64 0⟩ = false) := by
        unfold Hid eventB namedB
        simp only
        rw [show decide (1 ≤ (0 : Int)) = false from rfl, Bool.and_false, Bool.false_and, Bool.and_false, Bool.false_and]
      have B17 : Hid (eventB ps ⟨nd2, ic2, 0, X, List.replicate 64 0⟩ = false) := by
        unfold Hid eventB namedB
        simp only
        rw [show decide (1 ≤ (0 : Int)) = false from rfl, Bool.and_false, Bool.and_false, Bool.false_and]
      clear x22 d22 d65 s65 b22 bb13 S13 X13 OF HX HXL
      refine wp_row_vals_end 31 [(120, (.slice (some ⟨bs, os, none⟩) m c1)), (121, (.agg #[.int .u8 nd2, .int .u16 ic2, .int .u32 sq2, .slice A2 m c2, .slice D7 64 64])), (122, (.bool true)), (123, (.bool true)), (124, (.slice (some ⟨bs, os, none⟩) m c1)), (125, (.agg #[.int .u8 nd2, .int .u16 ic2, .int .u32 sq2, .slice A2 m c2, .slice D15 65 65])), (126, (.bool false)), (127, (.bool true)), (128, (.bool true)), (129, (.bool true)), (130, (.slice (some ⟨bs, os, none⟩) m c1)), (131, (.agg #[.int .u8 12, .int .u16 ic2, .int .u32 sq2, .slice A2 m c2, .slice D7 64 64])), (132, (.bool false)), (133, (.bool true)), (134, (.bool true)), (135, (.bool true)), (136, (.slice (some ⟨bs, os, none⟩) m c1)), (137, (.agg #[.int .u8 nd2, .int .u16 0, .int .u32 sq2, .slice A2 m c2, .slice D7 64 64])), (138, (.bool false)), (139, (.bool true)), (140, (.bool true)), (141, (.bool true)), (142, (.slice (some ⟨bs, os, none⟩) m c1)), (143, (.agg #[.int .u8 nd2, .int .u16 ic2, .int .u32 0, .slice A2 m c2, .slice D7 64 64])), (144, (.bool false)), (145, (.bool true)), (146, (.bool true)), (147, (.bool true)), (148, (.bool true)), (149, (.bool true)), (8, (.bool true))]
        [[], [], [120, 121], [122], [123], [123], [123, 124, 125], [123, 126], [123, 127], [128], [129], [129], [129, 130, 131], [129, 132], [129, 133], [134], [135], [135], [135, 136, 137], [135, 138], [135, 139], [140], [141], [141], [141, 142, 143], [141, 144], [141, 145], [146], [147], [147, 148], [149]] (by kernel_rfl) ?_ ?_
      rotate_left
      · intro w5 a hb hB
        have h0 : a.tmps.getD 8 undef = .bool true := hB.new 8 (of_decide_eq_true (by kernel_rfl))
        have hd : a.defers = [] := hB.defers
        clear hB
        simp only [List.drop_succ_cons, List.drop_zero]
        refine wpList_nil ?_
        go_wp2
        exact bodyPost_ret (v := .bool true) ((results_tmp Try.results5 a.tmps _ _).trans (by rw [h0])) hd ⟨rfl, bb.trans (hb.mono bb.size)⟩
      simp only [List.take_succ_cons, List.take_zero]
      
      refine ⟨?w1r22g0, ?w1r22g1, ?w1r22g2, ?w1r22g3, ?w1r22g4, ?w1r22g5, ?w1r22g6, ?w1r22g7, ?w1r22g8, ?w1r22g9, ?w1r22g10, ?w1r22g11, ?w1r22g12, ?w1r22g13, ?w1r22g14, ?w1r22g15, ?w1r22g16, ?w1r22g17, ?w1r22g18, ?w1r22g19, ?w1r22g20, ?w1r22g21, ?w1r22g22, ?w1r22g23, ?w1r22g24, ?w1r22g25, ?w1r22g26, ?w1r22g27, ?w1r22g28, ?w1r22g29, ?w1r22g30, trivial⟩
      case w1r22g0 =>
        intro w5 hb
        refine over_nil ?_
        exact post_run (.slice (some ⟨bs, os, none⟩) m c1) rfl (by kernel_rfl) (by kernel_rfl) (by kernel_rfl) (by kernel_rfl) (by kernel_rfl)
      case w1r22g1 =>
        intro w5 hb
        refine over_nil ?_
        obtain ⟨u0, u1, u2, u3, u4⟩ := ev_cells ((hb.block g13 L13).trans K13.out)
        (go_wp2; all_goals (first | exact post_of (by rfl) (by rfl) (Below.refl _ _) (by rfl) | (exfalso; simp_all; done)))
      case w1r22g2 =>
        intro w5 hb
        refine over_vals (ds := [120, 121]) [(.slice (some ⟨bs, os, none⟩) m c1), (.agg #[.int .u8 nd2, .int .u16 ic2, .int .u32 sq2, .slice A2 m c2, .slice D7 64 64])] (by kernel_rfl) ?_
        simp only [putAll, put_lit, List.set_cons_succ, List.set_cons_zero]
        (go_wp2_with (go_at_call 20; go_must (refine (event_of (S22.out.next hb) HR.out (E13.out.next hb) B13.out).mono ?_); rintro r w6 ⟨rfl, b6⟩); all_goals (first | exact post_of (by rfl) (by rfl) (Below.refl _ _) (by rfl) | exact post_of (by rfl) (by rfl) b6 (by rfl) | (exfalso; simp_all; done)))
      case w1r22g3 =>
        intro w5 hb
        refine over_vals (ds := [122]) [(.bool true)] (by kernel_rfl) ?_
        exact post_run (.bool true) rfl (by kernel_rfl) (by kernel_rfl) (by kernel_rfl) (by kernel_rfl) (by kernel_rfl)
      case w1r22g4 =>
        intro w5 hb
        refine over_vals (ds := [123]) [(.bool true)] (by kernel_rfl) ?_
        exact post_run (.slice (some ⟨bs, os, none⟩) m c1) rfl (by kernel_rfl) (by kernel_rfl) (by kernel_rfl) (by kernel_rfl) (by kernel_rfl)
      case w1r22g5 =>
        intro w5 hb
        refine over_vals (ds := [123]) [(.bool true)] (by kernel_rfl) ?_
        obtain ⟨u0, u1, u2, u3, u4⟩ := ev_cells ((hb.block g14 L14).trans K14.out)
        simp only [putAll, put_lit, List.set_cons_succ, List.set_cons_zero]
        (go_wp2; all_goals (first | exact post_of (by rfl) (by rfl) (Below.refl _ _) (by rfl) | (exfalso; simp_all; done)))
      case w1r22g6 =>
        intro w5 hb
        refine over_vals (ds := [123, 124, 125]) [(.bool true), (.slice (some ⟨bs, os, none⟩) m c1), (.agg #[.int .u8 nd2, .int .u16 ic2, .int .u32 sq2, .slice A2 m c2, .slice D15 65 65])] (by kernel_rfl) ?_
        simp only [putAll, put_lit, List.set_cons_succ, List.set_cons_zero]
        (go_wp2_with (go_at_call 20; go_must (refine (event_of (S22.out.next hb) HR.out (E14.out.next hb) B14.out).mono ?_); rintro r w6 ⟨rfl, b6⟩); all_goals (first | exact post_of (by rfl) (by rfl) (Below.refl _ _) (by rfl) | exact post_of (by rfl) (by rfl) b6 (by rfl) | (exfalso; simp_all; done)))
      case w1r22g7 =>
        intro w5 hb
        refine over_vals (ds := [123, 126]) [(.bool true), (.bool false)] (by kernel_rfl) ?_
        exact post_run (.bool true) rfl (by kernel_rfl) (by kernel_rfl) (by kernel_rfl) (by kernel_rfl) (by kernel_rfl)
      case w1r22g8 =>
        intro w5 hb
        refine over_vals (ds := [123, 127]) [(.bool true), (.bool true)] (by kernel_rfl) ?_
        exact post_run (.bool true) rfl (by kernel_rfl) (by kernel_rfl) (by kernel_rfl) (by kernel_rfl) (by kernel_rfl)
      case w1r22g9 =>
        intro w5 hb
        refine over_vals (ds := [128]) [(.bool true)] (by kernel_rfl) ?_
        exact post_run (.bool true) rfl (by kernel_rfl) (by kernel_rfl) (by kernel_rfl) (by kernel_rfl) (by kernel_rfl)
      case w1r22g10 =>
        intro w5 hb
        refine over_vals (ds := [129]) [(.bool true)] (by kernel_rfl) ?_
        exact post_run (.slice (some ⟨bs, os, none⟩) m c1) rfl (by kernel_rfl) (by kernel_rfl) (by kernel_rfl) (by kernel_rfl) (by kernel_rfl)
      case w1r22g11 =>
        intro w5 hb
        refine over_vals (ds := [129]) [(.bool true)] (by kernel_rfl) ?_
        obtain ⟨u0, u1, u2, u3, u4⟩ := ev_cells ((hb.block g15 L15).trans K15.out)
        simp only [putAll, put_lit, List.set_cons_succ, List.set_cons_zero]
        (go_wp2; all_goals (first | exact post_of (by rfl) (by rfl) (Below.refl _ _) (by rfl) | (exfalso; simp_all; done)))
      case w1r22g12 =>
        intro w5 hb
        refine over_vals (ds := [129, 130, 131]) [(.bool true), (.slice (some ⟨bs, os, none⟩) m c1), (.agg #[.int .u8 12, .int .u16 ic2, .int .u32 sq2, .slice A2 m c2, .slice D7 64 64])] (by kernel_rfl) ?_
        simp only [putAll, put_lit, List.set_cons_succ, List.set_cons_zero]
        (go_wp2_with (go_at_call 20; go_must (refine (event_of (S22.out.next hb) HR.out (E15.out.next hb) B15.out).mono ?_); rintro r w6 ⟨rfl, b6⟩); all_goals (first | exact post_of (by rfl) (by rfl) (Below.refl _ _) (by rfl) | exact post_of (by rfl) (by rfl) b6 (by rfl) | (exfalso; simp_all; done)))
      case w1r22g13 =>
        intro w5 hb
        refine over_vals (ds := [129, 132]) [(.bool true), (.bool false)] (by kernel_rfl) ?_
        exact post_run (.bool true) rfl (by kernel_rfl) (by kernel_rfl) (by kernel_rfl) (by kernel_rfl) (by kernel_rfl)
      case w1r22g14 =>
        intro w5 hb
        refine over_vals (ds := [129, 133]) [(.bool true), (.bool true)] (by kernel_rfl) ?_
        exact post_run (.bool true) rfl (by kernel_rfl) (by kernel_rfl) (by kernel_rfl) (by kernel_rfl) (by kernel_rfl)
      case w1r22g15 =>
        intro w5 hb
        refine over_vals (ds := [134]) [(.bool true)] (by kernel_rfl) ?_
        exact post_run (.bool true) rfl (by kernel_rfl) (by kernel_rfl) (by kernel_rfl) (by kernel_rfl) (by kernel_rfl)
      case w1r22g16 =>
        intro w5 hb
        refine over_vals (ds := [135]) [(.bool true)] (by kernel_rfl) ?_
        exact post_run (.slice (some ⟨bs, os, none⟩) m c1) rfl (by kernel_rfl) (by kernel_rfl) (by kernel_rfl) (by kernel_rfl) (by kernel_rfl)
      case w1r22g17 =>
        intro w5 hb
        refine over_vals (ds := [135]) [(.bool true)] (by kernel_rfl) ?_
        obtain ⟨u0, u1, u2, u3, u4⟩ := ev_cells ((hb.block g16 L16).trans K16.out)
        simp only [putAll, put_lit, List.set_cons_succ, List.set_cons_zero]
        (go_wp2; all_goals (first | exact post_of (by rfl) (by rfl) (Below.refl _ _) (by rfl) | (exfalso; simp_all; done)))
      case w1r22g18 =>
        intro w5 hb
        refine over_vals (ds := [135, 136, 137]) [(.bool true), (.slice (some ⟨bs, os, none⟩) m c1), (.agg #[.int .u8 nd2, .int .u16 0, .int .u32 sq2, .slice A2 m c2, .slice D7 64 64])] (by kernel_rfl) ?_
        simp only [putAll, put_lit, List.set_cons_succ, List.set_cons_zero]
        (go_wp2_with (go_at_call 20; go_must (refine (event_of (S22.out.next hb) HR.out (E16.out.next hb) B16.out).mono ?_); rintro r w6 ⟨rfl, b6⟩); all_goals (first | exact post_of (by rfl) (by rfl) (Below.refl _ _) (by rfl) | exact post_of (by rfl) (by rfl) b6 (by rfl) | (exfalso; simp_all; done)))
      case w1r22g19 =>
        intro w5 hb
        refine over_vals (ds := [135, 138]) [(.bool true), (.bool false)] (by kernel_rfl) ?_
        exact post_run (.bool true) rfl (by kernel_rfl) (by kernel_rfl) (by kernel_rfl) (by kernel_rfl) (by kernel_rfl)
      case w1r22g20 =>
        intro w5 hb
        refine over_vals (ds := [135, 139]) [(.bool true), (.bool true)] (by kernel_rfl) ?_
        exact post_run (.bool true) rfl (by kernel_rfl) (by kernel_rfl) (by kernel_rfl) (by kernel_rfl) (by kernel_rfl)
      case w1r22g21 =>
        intro w5 hb
        refine over_vals (ds := [140]) [(.bool true)] (by kernel_rfl) ?_
        exact post_run (.bool true) rfl (by kernel_rfl) (by kernel_rfl) (by kernel_rfl) (by kernel_rfl) (by kernel_rfl)
      case w1r22g22 =>
        intro w5 hb
        refine over_vals (ds := [141]) [(.bool true)] (by kernel_rfl) ?_
        exact post_run (.slice (some ⟨bs, os, none⟩) m c1) rfl (by kernel_rfl) (by kernel_rfl) (by kernel_rfl) (by kernel_rfl) (by kernel_rfl)
      case w1r22g23 =>
        intro w5 hb
        refine over_vals (ds := [141]) [(.bool true)] (by kernel_rfl) ?_
        obtain ⟨u0, u1, u2, u3, u4⟩ := ev_cells ((hb.block g17 L17).trans K17.out)
        simp only [putAll, put_lit, List.set_cons_succ, List.set_cons_zero]
        (go_wp2; all_goals (first | exact post_of (by rfl) (by rfl) (Below.refl _ _) (by rfl) | (exfalso; simp_all; done)))
      case w1r22g24 =>
        intro w5 hb
        refine over_vals (ds := [141, 142, 143]) [(.bool true), (.slice (some ⟨bs, os, none⟩) m c1), (.agg #[.int .u8 nd2, .int .u16 ic2, .int .u32 0, .slice A2 m c2, .slice D7 64 64])] (by kernel_rfl) ?_
        simp only [putAll, put_lit, List.set_cons_succ, List.set_cons_zero]
        (go_wp2_with (go_at_call 20; go_must (refine (event_of (S22.out.next hb) HR.out (E17.out.next hb) B17.out).mono ?_); rintro r w6 ⟨rfl, b6⟩); all_goals (first | exact post_of (by rfl) (by rfl) (Below.refl _ _) (by rfl) | exact post_of (by rfl) (by rfl) b6 (by rfl) | (exfalso; simp_all; done)))
      case w1r22g25 =>
        intro w5 hb
        refine over_vals (ds := [141, 144]) [(.bool true), (.bool false)] (by kernel_rfl) ?_
        exact post_run (.bool true) rfl (by kernel_rfl) (by kernel_rfl) (by kernel_rfl) (by kernel_rfl) (by kernel_rfl)
      case w1r22g26 =>
        intro w5 hb
        refine over_vals (ds := [141, 145]) [(.bool true), (.bool true)] (by kernel_rfl) ?_
        exact post_run (.bool true) rfl (by kernel_rfl) (by kernel_rfl) (by kernel_rfl) (by kernel_rfl) (by kernel_rfl)
      case w1r22g27 =>
        intro w5 hb
        refine over_vals (ds := [146]) [(.bool true)] (by kernel_rfl) ?_
        exact post_run (.bool true) rfl (by kernel_rfl) (by kernel_rfl) (by kernel_rfl) (by kernel_rfl) (by kernel_rfl)
      case w1r22g28 =>
        intro w5 hb
        refine over_vals (ds := [147]) [(.bool true)] (by kernel_rfl) ?_
        simp only [putAll, put_lit, List.set_cons_succ, List.set_cons_zero]
        (go_wp2_with (go_at_call 9; go_must (refine (awake_any _).mono ?_); rintro r w6 ⟨rfl, b6⟩); all_goals (first | exact post_of (by rfl) (by rfl) (Below.refl _ _) (by rfl) | exact post_of (by rfl) (by rfl) b6 (by rfl) | (exfalso; simp_all; done)))
      case w1r22g29 =>
        intro w5 hb
        refine over_vals (ds := [147, 148]) [(.bool true), (.bool true)] (by kernel_rfl) ?_
        exact post_run (.bool true) rfl (by kernel_rfl) (by kernel_rfl) (by kernel_rfl) (by kernel_rfl) (by kernel_rfl)
      case w1r22g30 =>
        intro w5 hb
        refine over_vals (ds := [149]) [(.bool true)] (by kernel_rfl) ?_
        exact post_run (.bool true) rfl (by kernel_rfl) (by kernel_rfl) (by kernel_rfl) (by kernel_rfl) (by kernel_rfl)
    simp only [List.take_succ_cons, List.take_zero]
    refine ⟨?w1k0, ?w1k1, ?w1k2, ?w1k3, ?w1k4, trivial⟩
    case w1k2 =>
      intro w5 hb
      refine over_nil ?_
      go_wp2_with (at_make; go_must (refine wpList_make_full _ rfl _ _ 29 rfl w11.heap.size 5 i0 (.int .u8 0) 1 Try.underlying29 HI.out HZ0.out HZ1.out .i64 .i64 _ _ 64 rfl rfl rfl rfl (by rw [HZ2.out]; omega) (by unfold maxLen; omega) hb.size ?_); intro w6' o6' g6')
      rw [made_u8] at o6'
      exact post_of (by rfl) (by rfl) ((Below.refl _ _).grown g6' (Nat.le_refl _) (by simp)) (by exact ⟨_, rfl, o6'⟩)
    case w1k3 =>
      intro w5 hb
      refine over_val rfl (over_val rfl (over_pred rfl ?_))
      rintro _ ⟨D6, rfl, o6⟩
      refine over_nil ?_
      go_wp2
      exact post_of (by rfl) (by rfl) (Below.refl _ _) (by exact ⟨D6, rfl, o6⟩)
    case w1k4 =>
      intro w5 hb
      refine over_nil ?_
      go_wp2
      exact post_of (by rfl) (by rfl) (below_lit _ _) (by exact ⟨_, rfl, hb.size, heap_alloc_new _ _⟩)
    all_goals
      intro w5 hb
      refine over_nil ?_
      obtain ⟨c0, c1', c2'⟩ := id_cells ((hb.block w.heap.size z11).trans K11.out)
      go_wp2
      exact post_of (by rfl) (by rfl) (Below.refl _ _) (by rfl)
  · -- from True, to False
    go_wp2_with (first
    | (at_builtin; clear FLAG1; go_must (refine wpList_app rfl _ _ 28 rfl Try.underlying28 infoI32 rfl rfl (Own.lit0 _ 21) rfl (X2.out.next (below_lit _ _)) (Nl_one _ _) (by omega) (by decide) (by simp) ?_); intro A3 c3 w3 o3 g3
       have o3' : Own w3 w2.heap.size 21 A3 m c3 (Nl .i32 X) := by rw [Nat.zero_add, List.nil_append] at o3; exact o3
       have b3 : Below w2.heap.size w2 w3 := (below_lit w2 _).grown g3 (by simp) (fun k hk => by simp [Value.ownBlock] at hk; omega)
       have q1 := ((thn b2 b3).cell (p := ⟨bs, os + kk * 2, none⟩) hbs).trans Q1.out
       have q2 := ((thn b2 b3).cell (p := ⟨bs, os + kk * 2 + 1, none⟩) hbs).trans Q2.out
       have j0 : (0 : Int) ≤ (kk : Int) := by omega
       have j1 : (kk : Int) < (m : Int) := by omega
       obtain ⟨gy, rfl, hgy, cy, fy, o4⟩ := own_set o3' hkm (p.1 - 1)
       have O4 := Lib.hid o4
       have b4 := b3.setCell (p := ⟨gy, kk, none⟩) hgy (.int .i32 (p.1 - 1))
       clear o3' o4
       clear o3 g3))
    refine (fits_of (S1.out.next (thn b2 b4)) (Nat.le_refl _) (O4.out.sv) (Nat.le_refl _) HR.out ((set_unfit HPP.out (HXL.out.trans HP.out.symm) (by omega)))).mono ?_
    rintro r w6 ⟨rfl, b5⟩
    have b45 := thn b4 b5
    have b6 := b45
    have r2 := ((thn b2 b45).cell (p := ⟨bs, os + kk * 2 + 1, none⟩) hbs).trans Q2.out
    clear b45 b5 O4 b4 q1 q2 cy fy
    have X6 := Lib.hid (X2.out.next b6)
    have S6 := Lib.hid (S1.out.next (thn b2 b6))
    go_wp2_with (first
    | (at_builtin; have o0 := O7.out; go_must (refine wpList_app rfl _ _ 28 rfl Try.underlying28 infoI32 rfl rfl (o0.below (below_lit _ _)) rfl (Sv.lit_at _ #[.int .i32 0] 21 (0, 0) 1 _ (by first | rfl | simp) rfl (by decide)) (one_one _ rfl) (by omega) (by decide) (by simp only [World.size_alloc]; omega) ?_); intro A8 c8 w8 o8 g8
       have o8' : Own w8 w6.heap.size 21 A8 (m + 1) c8 (Nl .i32 (X ++ [0])) := by rw [Nl_snoc]; exact o8
       have b8 : Below w6.heap.size w6 w8 := (b7.trans ((below_lit w7 _).mono b7.size)).grown g8 (by simp only [World.size_alloc]; have := b7.size; omega) o0.lt
       have O8 := Lib.hid o8'
       clear o8 o8' g8 o0 O7)
    | (at_builtin; clear FLAG2; go_must (refine wpList_app rfl _ _ 28 rfl Try.underlying28 infoI32 rfl rfl (Own.lit0 _ 21) rfl (X6.out.next (below_lit _ _)) (Nl_one _ _) (by omega) (by decide) (by simp) ?_); intro A7 c7 w7 o7 g7
       have o7' : Own w7 w6.heap.size 21 A7 m c7 (Nl .i32 X) := by rw [Nat.zero_add, List.nil_append] at o7; exact o7
       have b7 : Below w6.heap.size w6 w7 := (below_lit w6 _).grown g7 (by simp) (fun k hk => by simp [Value.ownBlock] at hk; omega)
       have O7 := Lib.hid o7'
       have hb7 := b7.size
       clear o7 o7' g7))
    skip
    refine (fits_of (S6.out.next b8) (Nat.le_refl _) (O8.out.sv) (Nat.le_refl _) HR.out (fitsB_len (by rw [List.length_append, HXL.out, HP.out]; simp))).mono ?_
    rintro r w9 ⟨rfl, b9⟩
    have e5 := fun w' : World => run_upto (P := Try.prog) (w := w') (A := A2) (n := m) (c := c2) (hi := m - 1) 28 21 Try.underlying28 (by kernel_rfl) 1 (fun w' => by kernel_rfl) .i64 ((m : Int) - 1) (by omega) (by omega)
    have b69 := thn b8 b9
    clear b8 b9 O8
    go_wp2_with fail
    refine (fits_of (S6.out.next b69) (Nat.le_refl _) (si_upto (X6.out.next b69) (by omega : m - 1 ≤ m)) (Nat.le_refl _) HR.out (fitsB_len (by rw [List.length_take, HXL.out, HP.out]; omega))).mono ?_
    rintro r w10 ⟨rfl, b10⟩
    have b2X := thn (thn (thn b2 b6) b69) b10
    have k10 := (((b1.trans (b2X.mono b1.size))).block _ z0).trans K0.out
    obtain ⟨y0, y1, y2⟩ := id_cells k10
    have f10 := ev_free k10
    have K10 := Lib.hid k10
    have X10 := Lib.hid (X6.out.next (thn b69 b10))
    have S10 := Lib.hid (S6.out.next (thn b69 b10))
    have bbX := thn (thn b0 b1) b2X
    obtain ⟨wn0, wn1⟩ := wn
    obtain ⟨wi0, wi1⟩ := wi
    obtain ⟨ws0, ws1⟩ := ws
    clear k10 b69 b10 b2X b1 b2 b6 S6 X6 X2 S1 K0 b0 Q1 Q2 e5 z0 HIN HPI HKK hkk
    obtain ⟨ic2, hic, hic1⟩ : ∃ v : Int, (if ic < 1 then 1 else ic) = v ∧ 1 ≤ v := ⟨_, rfl, by split <;> omega⟩
    obtain ⟨sq2, hsq, hsq1⟩ : ∃ v : Int, (if sq < 1 then 1 else sq) = v ∧ 1 ≤ v := ⟨_, rfl, by split <;> omega⟩
    obtain ⟨nd2, hnd, hnd0, hnd1⟩ : ∃ v : Int, nd % 12 = v ∧ 0 ≤ v ∧ v < 12 := ⟨_, rfl, by omega, by omega⟩
    go_wp2_with fail
    clear hic hsq hnd y0 y1 y2 f10
    have k11 := Go.Joins.block_setCell (i := 2) (Go.Joins.block_setCell (i := 1) (Go.Joins.block_setCell (i := 0) K10.out (.int .u8 nd2)) (.int .u16 ic2)) (.int .u32 sq2)
    have b11 := ((bbX.setCell (p := ⟨w.heap.size, 0, none⟩) (Nat.le_refl _) (.int .u8 nd2)).setCell (p := ⟨w.heap.size, 1, none⟩) (Nat.le_refl _) (.int .u16 ic2)).setCell (p := ⟨w.heap.size, 2, none⟩) (Nat.le_refl _) (.int .u32 sq2)
    have far : ∀ q : Addr, q.block ≠ w.heap.size → (((w10.setCell ⟨w.heap.size, 0, none⟩ (.int .u8 nd2)).setCell ⟨w.heap.size, 1, none⟩ (.int .u16 ic2)).setCell ⟨w.heap.size, 2, none⟩ (.int .u32 sq2)).cell? q = w10.cell? q := fun q hq => by
      rw [World.cell?_of_block (Below.heap_setCell _ ⟨w.heap.size, 2, none⟩ _ _ hq), World.cell?_of_block (Below.heap_setCell _ ⟨w.heap.size, 1, none⟩ _ _ hq), World.cell?_of_block (Below.heap_setCell _ ⟨w.heap.size, 0, none⟩ _ _ hq)]
    have hsz : w10.heap.size ≤ (((w10.setCell ⟨w.heap.size, 0, none⟩ (.int .u8 nd2)).setCell ⟨w.heap.size, 1, none⟩ (.int .u16 ic2)).setCell ⟨w.heap.size, 2, none⟩ (.int .u32 sq2)).heap.size := by simp
    have S11 := Lib.hid ((sn_apart S10.out (by decide) (spl_i32 ps) K10.out id_noti32 far).more hsz)
    have X11 := Lib.hid (Sn.sv ((sn_apart X10.out.sn (by decide) (Nl_i32 X) K10.out id_noti32 far).more hsz))
    have K11 := Lib.hid k11
    clear far hsz K10 S10 X10 bbX k11
    generalize ((w10.setCell ⟨w.heap.size, 0, none⟩ (.int .u8 nd2)).setCell ⟨w.heap.size, 1, none⟩ (.int .u16 ic2)).setCell ⟨w.heap.size, 2, none⟩ (.int .u32 sq2) = w11 at *
    have z11 : w.heap.size < w11.heap.size := (Array.getElem?_eq_some_iff.1 K11.out).1
    obtain ⟨i0, hi, hz0, hz1, hz2⟩ := info_parts infoU8
    have HI := Lib.hid hi
    have HZ0 := Lib.hid hz0
    have HZ1 := Lib.hid hz1
    have HZ2 := Lib.hid hz2
    clear hi hz0 hz1 hz2
    refine wp_region_typed 5 [(104, .val (.agg #[.int .u8 nd2, .int .u16 ic2, .int .u32 sq2])), (105, .val (.slice A2 m c2)), (106, tyZero w11.heap.size 64), (107, tyFine w11.heap.size nd2 ic2 sq2 A2 m c2 64), (13, tyBlank w11.heap.size)]
      [[], [], [], [104, 105, 106], []] (by kernel_rfl) (by kernel_rfl) ?_ ?_
    rotate_left
    · intro w12 hb
      simp only [List.take_succ_cons, List.take_zero, List.drop_succ_cons, List.drop_zero]
      refine over_val rfl (over_val rfl (over_pred rfl ?_))
      rintro _ ⟨D6, rfl, o6⟩
      refine over_pred rfl ?_
      rintro _ ⟨D7, rfl, o7⟩
      refine over_pred rfl ?_
      rintro _ ⟨g13, rfl, hg13, k13⟩
      refine over_nil ?_
      simp only [put_lit, List.set_cons_succ, List.set_cons_zero]
      obtain ⟨c130, c131, c132, c133, c134⟩ := ev_cells k13
      have f13 := ev_free k13
      have O7 := Lib.hid o7
      have K13 := Lib.hid k13
      have HB := Lib.hid hb
      clear o6 o7 k13 hb
      go_wp2_with fail
      have bA := HB.out.trans (st5_below (w := w12) (a := .int .u8 nd2) (b := .int .u16 ic2) (c := .int .u32 sq2) (d := .slice A2 m c2) (e := .slice D7 64 64) hg13)
      have kF := st5_same (a := .int .u8 nd2) (b := .int .u16 ic2) (c := .int .u32 sq2) (d := .slice A2 m c2) (e := .slice D7 64 64) K13.out
      have oF := O7.out.same5 (a := .int .u8 nd2) (b := .int .u16 ic2) (c := .int .u32 sq2) (d := .slice A2 m c2) (e := .slice D7 64 64) K13.out (by decide)
      clear c130 c131 c132 c133 c134 f13 O7 K13 HB
      generalize ((((w12.setCell ⟨g13, 0, none⟩ (.int .u8 nd2)).setCell ⟨g13, 1, none⟩ (.int .u16 ic2)).setCell ⟨g13, 2, none⟩ (.int .u32 sq2)).setCell ⟨g13, 3, none⟩ (.slice A2 m c2)).setCell ⟨g13, 4, none⟩ (.slice D7 64 64) = w13 at *
      have S13 := Lib.hid (S11.out.next bA)
      have X13 := Lib.hid (X11.out.next bA)
      have OF := Lib.hid oF
      have KF := Lib.hid kF
      have bb13 := b11.trans (bA.mono b11.size)
      have z13 : g13 < w13.heap.size := (Array.getElem?_eq_some_iff.1 kF).1
      clear oF kF bA S11 X11 K11 b11
      refine four_gen (g13 := g13) (nd := nd2) (ic := ic2) (sq := sq2) (A := A2) (m := m) (c := c2) (D := D7) (dn := 64) (dc := 64) ⟨rfl, rfl, rfl⟩ ⟨rfl, rfl, rfl⟩ ⟨rfl, rfl, rfl⟩ ⟨rfl, rfl, rfl⟩ ⟨rfl, rfl, rfl⟩ ⟨rfl, rfl, rfl⟩ ⟨rfl, rfl, rfl⟩ ⟨rfl, rfl, rfl⟩ ⟨rfl, rfl, rfl⟩ ⟨rfl, rfl, rfl⟩ ⟨rfl, rfl, rfl⟩ ⟨rfl, rfl, rfl⟩ (by kernel_rfl) (by kernel_rfl) (by kernel_rfl) (by kernel_rfl) (Nat.le_of_ble_eq_true (by kernel_rfl)) (by kernel_rfl) KF.out ?_
      intro g14 g15 g16 g17 w14 hge hne b14 k14 k15 k16 k17
      obtain ⟨hg14, hg15, hg16, hg17⟩ := hge
      obtain ⟨n45, n46, n47, n56, n57, n67⟩ := hne
      simp only [putAll, put_lit, List.set_cons_succ, List.set_cons_zero]
      have KF14 := Lib.hid ((b14.block g13 z13).trans KF.out)
      have l13 : g13 < w14.heap.size := Nat.lt_of_lt_of_le z13 b14.size
      have l14 := (Array.getElem?_eq_some_iff.1 k14).1
      have l15 := (Array.getElem?_eq_some_iff.1 k15).1
      have l16 := (Array.getElem?_eq_some_iff.1 k16).1
      have l17 := (Array.getElem?_eq_some_iff.1 k17).1
      have M14 := Lib.hid k14
      have M15 := Lib.hid k15
      have M16 := Lib.hid k16
      have M17 := Lib.hid k17
      have B14 := Lib.hid b14
      have hs14 := b14.size
      clear k14 k15 k16 k17 b14 KF
      go_upto_region 21 with (at_make; go_must (refine wpList_make_full _ rfl _ _ 29 rfl w13.heap.size 5 i0 (.int .u8 0) 1 Try.underlying29 HI.out HZ0.out HZ1.out .i64 .i64 _ _ 65 rfl rfl rfl rfl (by rw [HZ2.out]; omega) (by unfold maxLen; omega) hs14 ?_); intro w15 o15 g15'
                              have m14 := (g15'.block g14 l14 (by simp)).trans M14.out
                              have N14 := Lib.hid m14
                              have N15 := Lib.hid ((g15'.block g15 l15 (by simp)).trans M15.out)
                              have N16 := Lib.hid ((g15'.block g16 l16 (by simp)).trans M16.out)
                              have N17 := Lib.hid ((g15'.block g17 l17 (by simp)).trans M17.out)
                              have N13 := Lib.hid ((g15'.block g13 l13 (by simp)).trans KF14.out)
                              have b15 : Below w13.heap.size w13 w15 := B14.out.grown g15' hs14 (by simp)
                              have B15 := Lib.hid b15
                              rw [made_u8] at o15
                              have O15 := Lib.hid o15
                              clear o15 g15' M14 M15 M16 M17 KF14 b15
                              obtain ⟨c140, c141, c142, c143, c144⟩ := ev_cells m14
                              have f14 := ev_free m14
                              clear m14)
      clear c140 c141 c142 c143 c144 f14
      generalize (some ⟨w14.heap.size, 0, none⟩ : Option Addr) = D15 at *
      have j14 := Go.Joins.block_setCell (i := 4) N14.out (.slice D15 65 65)
      have j15 := (Below.heap_setCell w15 ⟨g14, 4, none⟩ (.slice D15 65 65) g15 n45.symm).trans N15.out
      have j16 := (Below.heap_setCell w15 ⟨g14, 4, none⟩ (.slice D15 65 65) g16 n46.symm).trans N16.out
      have j17 := (Below.heap_setCell w15 ⟨g14, 4, none⟩ (.slice D15 65 65) g17 n47.symm).trans N17.out
      have n43 : g13 ≠ g14 := by omega
      have j13 := (Below.heap_setCell w15 ⟨g14, 4, none⟩ (.slice D15 65 65) g13 n43).trans N13.out
      have B16 := Lib.hid (B15.out.setCell (p := ⟨g14, 4, none⟩) hg14 (.slice D15 65 65))
      have O16 := Lib.hid (Own.off O15.out N14.out (by decide) 4 (.slice D15 65 65))
      clear N13 N14 N15 N16 N17 B15 O15
      generalize w15.setCell ⟨g14, 4, none⟩ _ = w16 at *
      have J13 : Hid (w16.heap[g13]? = some (.cells #[.int .u8 nd2, .int .u16 ic2, .int .u32 sq2, .slice A2 m c2, .slice D7 64 64] 31 (0, 0))) := j13
      have J14 : Hid (w16.heap[g14]? = some (.cells #[.int .u8 nd2, .int .u16 ic2, .int .u32 sq2, .slice A2 m c2, .slice D15 65 65] 31 (0, 0))) := j14
      have J15 : Hid (w16.heap[g15]? = some (.cells #[.int .u8 nd2, .int .u16 ic2, .int .u32 sq2, .slice A2 m c2, .slice D7 64 64] 31 (0, 0))) := j15
      have J16 : Hid (w16.heap[g16]? = some (.cells #[.int .u8 nd2, .int .u16 ic2, .int .u32 sq2, .slice A2 m c2, .slice D7 64 64] 31 (0, 0))) := j16
      have J17 : Hid (w16.heap[g17]? = some (.cells #[.int .u8 nd2, .int .u16 ic2, .int .u32 sq2, .slice A2 m c2, .slice D7 64 64] 31 (0, 0))) := j17
      clear j13 j14 j15 j16 j17
      obtain ⟨c150, c151, c152, c153, c154⟩ := ev_cells J15.out
      obtain ⟨c160, c161, c162, c163, c164⟩ := ev_cells J16.out
      obtain ⟨c170, c171, c172, c173, c174⟩ := ev_cells J17.out
      have f15 := ev_free J15.out
      have f16 := ev_free J16.out
      have f17 := ev_free J17.out
      have n65 := n56.symm
      have n75 := n57.symm
      have n76 := n67.symm
      go_upto_region 22 with fail
      clear c150 c151 c152 c153 c154 c160 c161 c162 c163 c164 c170 c171 c172 c173 c174 f15 f16 f17
      have n53 : g13 ≠ g15 := by omega
      have n63 : g13 ≠ g16 := by omega
      have n73 : g13 ≠ g17 := by omega
      have ff : ∀ k, k ≠ g15 → k ≠ g16 → k ≠ g17 → (((w16.setCell ⟨g15, 0, none⟩ (.int .u8 12)).setCell ⟨g16, 1, none⟩ (.int .u16 0)).setCell ⟨g17, 2, none⟩ (.int .u32 0)).heap[k]? = w16.heap[k]? := fun k h1 h2 h3 => by
        rw [Below.heap_setCell _ ⟨g17, 2, none⟩ _ _ h3, Below.heap_setCell _ ⟨g16, 1, none⟩ _ _ h2, Below.heap_setCell _ ⟨g15, 0, none⟩ _ _ h1]
      have q13 := (ff g13 n53 n63 n73).trans J13.out
      have q14 := (ff g14 n45 n46 n47).trans J14.out
      have q15 := (Below.heap_setCell _ ⟨g17, 2, none⟩ (.int .u32 0) g15 n57).trans ((Below.heap_setCell _ ⟨g16, 1, none⟩ (.int .u16 0) g15 n56).trans (Go.Joins.block_setCell (i := 0) J15.out (.int .u8 12)))
      have q16 := (Below.heap_setCell _ ⟨g17, 2, none⟩ (.int .u32 0) g16 n67).trans (Go.Joins.block_setCell (i := 1) ((Below.heap_setCell w16 ⟨g15, 0, none⟩ (.int .u8 12) g16 n65).trans J16.out) (.int .u16 0))
      have q17 := Go.Joins.block_setCell (i := 2) ((Below.heap_setCell _ ⟨g16, 1, none⟩ (.int .u16 0) g17 n76).trans ((Below.heap_setCell w16 ⟨g15, 0, none⟩ (.int .u8 12) g17 n75).trans J17.out)) (.int .u32 0)
      have b22 := ((B16.out.setCell (p := ⟨g15, 0, none⟩) hg15 (.int .u8 12)).setCell (p := ⟨g16, 1, none⟩) hg16 (.int .u16 0)).setCell (p := ⟨g17, 2, none⟩) hg17 (.int .u32 0)
      have s65 := Own.off (Own.off (Own.off O16.out J15.out (by decide) 0 (.int .u8 12)) ((Below.heap_setCell w16 ⟨g15, 0, none⟩ (.int .u8 12) g16 n65).trans J16.out) (by decide) 1 (.int .u16 0)) ((Below.heap_setCell _ ⟨g16, 1, none⟩ (.int .u16 0) g17 n76).trans ((Below.heap_setCell w16 ⟨g15, 0, none⟩ (.int .u8 12) g17 n75).trans J17.out)) (by decide) 2 (.int .u32 0)
      clear J13 J14 J15 J16 J17 B16 O16 ff
      generalize ((w16.setCell ⟨g15, 0, none⟩ (.int .u8 12)).setCell ⟨g16, 1, none⟩ (.int .u16 0)).setCell ⟨g17, 2, none⟩ (.int .u32 0) = w22 at *
      have K13 : Hid (w22.heap[g13]? = some (.cells #[.int .u8 nd2, .int .u16 ic2, .int .u32 sq2, .slice A2 m c2, .slice D7 64 64] 31 (0, 0))) := q13
      have K14 : Hid (w22.heap[g14]? = some (.cells #[.int .u8 nd2, .int .u16 ic2, .int .u32 sq2, .slice A2 m c2, .slice D15 65 65] 31 (0, 0))) := q14
      have K15 : Hid (w22.heap[g15]? = some (.cells #[.int .u8 12, .int .u16 ic2, .int .u32 sq2, .slice A2 m c2, .slice D7 64 64] 31 (0, 0))) := q15
      have K16 : Hid (w22.heap[g16]? = some (.cells #[.int .u8 nd2, .int .u16 0, .int .u32 sq2, .slice A2 m c2, .slice D7 64 64] 31 (0, 0))) := q16
      have K17 : Hid (w22.heap[g17]? = some (.cells #[.int .u8 nd2, .int .u16 ic2, .int .u32 0, .slice A2 m c2, .slice D7 64 64] 31 (0, 0))) := q17
      have L13 := (Array.getElem?_eq_some_iff.1 q13).1
      have L14 := (Array.getElem?_eq_some_iff.1 q14).1
      have L15 := (Array.getElem?_eq_some_iff.1 q15).1
      have L16 := (Array.getElem?_eq_some_iff.1 q16).1
      have L17 := (Array.getElem?_eq_some_iff.1 q17).1
      clear q13 q14 q15 q16 q17
      have bb := bb13.trans (b22.mono bb13.size)
      have S22 : Hid (Sp w22 w22.heap.size (some ⟨bs, os, none⟩) m c1 ps) := S13.out.next b22
      have x22 : Si w22 w22.heap.size A2 m c2 X := X13.out.next b22
      have d22 : Sl w22 w22.heap.size D7 64 64 (List.replicate 64 0) := (Own.sv OF.out).next b22
      have d65 : Sl w22 w22.heap.size D15 65 65 (List.replicate 65 0) := Own.sv s65
      have E13 : Hid (EvR w22 (.agg #[.int .u8 nd2, .int .u16 ic2, .int .u32 sq2, .slice A2 m c2, .slice D7 64 64]) ⟨nd2, ic2, sq2, X, List.replicate 64 0⟩) := ⟨_, _, _, _, _, _, rfl, x22, d22⟩
      have E14 : Hid (EvR w22 (.agg #[.int .u8 nd2, .int .u16 ic2, .int .u32 sq2, .slice A2 m c2, .slice D15 65 65]) ⟨nd2, ic2, sq2, X, List.replicate 65 0⟩) := ⟨_, _, _, _, _, _, rfl, x22, d65⟩
      have E15 : Hid (EvR w22 (.agg #[.int .u8 12, .int .u16 ic2, .int .u32 sq2, .slice A2 m c2, .slice D7 64 64]) ⟨12, ic2, sq2, X, List.replicate 64 0⟩) := ⟨_, _, _, _, _, _, rfl, x22, d22⟩
      have E16 : Hid (EvR w22 (.agg #[.int .u8 nd2, .int .u16 0, .int .u32 sq2, .slice A2 m c2, .slice D7 64 64]) ⟨nd2, 0, sq2, X, List.replicate 64 0⟩) := ⟨_, _, _, _, _, _, rfl, x22, d22⟩
      have E17 : Hid (EvR w22 (.agg #[.int .u8 nd2, .int .u16 ic2, .int .u32 0, .slice A2 m c2, .slice D7 64 64]) ⟨nd2, ic2, 0, X, List.replicate 64 0⟩) := ⟨_, _, _, _, _, _, rfl, x22, d22⟩
      have B13 : Hid (eventB ps ⟨nd2, ic2, sq2, X, List.replicate 64 0⟩ = true) := by
        unfold Hid eventB namedB
        simp only [HX.out, List.length_replicate, Bool.true_and, Bool.and_eq_true, decide_eq_true_eq]
        omega
      have B14 : Hid (eventB ps ⟨nd2, ic2, sq2, X, List.replicate 65 0⟩ = false) := by
        unfold Hid eventB
        simp only [List.length_replicate]
        rw [show decide (65 ≤ 64) = false from rfl, Bool.and_false]
      have B15 : Hid (eventB ps ⟨12, ic2, sq2, X, List.replicate 64 0⟩ = false) := by
        unfold Hid eventB namedB
        simp only
        rw [show decide ((12 : Int) < 12) = false from rfl, Bool.false_and, Bool.false_and, Bool.and_false, Bool.false_and]
      have B16 : Hid (eventB ps ⟨nd2, 0, sq2, X, List.replicate 64 0⟩ = false) := by
        unfold Hid eventB namedB
        simp only
        rw [show decide (1 ≤ (0 : Int)) = false from rfl, Bool.and_false, Bool.false_and, Bool.and_false, Bool.false_and]
      have B17 : Hid (eventB ps ⟨nd2, ic2, 0, X, List.replicate 64 0⟩ = false) := by
        unfold Hid eventB namedB
        simp only
        rw [show decide (1 ≤ (0 : Int)) = false from rfl, Bool.and_false, Bool.and_false, Bool.false_and]
      clear x22 d22 d65 s65 b22 bb13 S13 X13 OF HX HXL
      refine wp_row_vals_end 31 [(120, (.slice (some ⟨bs, os, none⟩) m c1)), (121, (.agg #[.int .u8 nd2, .int .u16 ic2, .int .u32 sq2, .slice A2 m c2, .slice D7 64 64])), (122, (.bool true)), (123, (.bool true)), (124, (.slice (some ⟨bs, os, none⟩) m c1)), (125, (.agg #[.int .u8 nd2, .int .u16 ic2, .int .u32 sq2, .slice A2 m c2, .slice D15 65 65])), (126, (.bool false)), (127, (.bool true)), (128, (.bool true)), (129, (.bool true)), (130, (.slice (some ⟨bs, os, none⟩) m c1)), (131, (.agg #[.int .u8 12, .int .u16 ic2, .int .u32 sq2, .slice A2 m c2, .slice D7 64 64])), (132, (.bool false)), (133, (.bool true)), (134, (.bool true)), (135, (.bool true)), (136, (.slice (some ⟨bs, os, none⟩) m c1)), (137, (.agg #[.int .u8 nd2, .int .u16 0, .int .u32 sq2, .slice A2 m c2, .slice D7 64 64])), (138, (.bool false)), (139, (.bool true)), (140, (.bool true)), (141, (.bool true)), (142, (.slice (some ⟨bs, os, none⟩) m c1)), (143, (.agg #[.int .u8 nd2, .int .u16 ic2, .int .u32 0, .slice A2 m c2, .slice D7 64 64])), (144, (.bool false)), (145, (.bool true)), (146, (.bool true)), (147, (.bool true)), (148, (.bool true)), (149, (.bool true)), (8, (.bool true))]
        [[], [], [120, 121], [122], [123], [123], [123, 124, 125], [123, 126], [123, 127], [128], [129], [129], [129, 130, 131], [129, 132], [129, 133], [134], [135], [135], [135, 136, 137], [135, 138], [135, 139], [140], [141], [141], [141, 142, 143], [141, 144], [141, 145], [146], [147], [147, 148], [149]] (by kernel_rfl) ?_ ?_
      rotate_left
      · intro w5 a hb hB
        have h0 : a.tmps.getD 8 undef = .bool true := hB.new 8 (of_decide_eq_true (by kernel_rfl))
        have hd : a.defers = [] := hB.defers
        clear hB
        simp only [List.drop_succ_cons, List.drop_zero]
        refine wpList_nil ?_
        go_wp2
        exact bodyPost_ret (v := .bool true) ((results_tmp Try.results5 a.tmps _ _).trans (by rw [h0])) hd ⟨rfl, bb.trans (hb.mono bb.size)⟩
      simp only [List.take_succ_cons, List.take_zero]
      
      refine ⟨?w2r22g0, ?w2r22g1, ?w2r22g2, ?w2r22g3, ?w2r22g4, ?w2r22g5, ?w2r22g6, ?w2r22g7, ?w2r22g8, ?w2r22g9, ?w2r22g10, ?w2r22g11, ?w2r22g12, ?w2r22g13, ?w2r22g14, ?w2r22g15, ?w2r22g16, ?w2r22g17, ?w2r22g18, ?w2r22g19, ?w2r22g20, ?w2r22g21, ?w2r22g22, ?w2r22g23, ?w2r22g24, ?w2r22g25, ?w2r22g26, ?w2r22g27, ?w2r22g28, ?w2r22g29, ?w2r22g30, trivial⟩
      case w2r22g0 =>
        intro w5 hb
        refine over_nil ?_
        exact post_run (.slice (some ⟨bs, os, none⟩) m c1) rfl (by kernel_rfl) (by kernel_rfl) (by kernel_rfl) (by kernel_rfl) (by kernel_rfl)
      case w2r22g1 =>
        intro w5 hb
        refine over_nil ?_
        obtain ⟨u0, u1, u2, u3, u4⟩ := ev_cells ((hb.block g13 L13).trans K13.out)
        (go_wp2; all_goals (first | exact post_of (by rfl) (by rfl) (Below.refl _ _) (by rfl) | (exfalso; simp_all; done)))
      case w2r22g2 =>
        intro w5 hb
        refine over_vals (ds := [120, 121]) [(.slice (some ⟨bs, os, none⟩) m c1), (.agg #[.int .u8 nd2, .int .u16 ic2, .int .u32 sq2, .slice A2 m c2, .slice D7 64 64])] (by kernel_rfl) ?_
        simp only [putAll, put_lit, List.set_cons_succ, List.set_cons_zero]
        (go_wp2_with (go_at_call 20; go_must (refine (event_of (S22.out.next hb) HR.out (E13.out.next hb) B13.out).mono ?_); rintro r w6 ⟨rfl, b6⟩); all_goals (first | exact post_of (by rfl) (by rfl) (Below.refl _ _) (by rfl) | exact post_of (by rfl) (by rfl) b6 (by rfl) | (exfalso; simp_all; done)))
      case w2r22g3 =>
        intro w5 hb
        refine over_vals (ds := [122]) [(.bool true)] (by kernel_rfl) ?_
        exact post_run (.bool true) rfl (by kernel_rfl) (by kernel_rfl) (by kernel_rfl) (by kernel_rfl) (by kernel_rfl)
      case w2r22g4 =>
        intro w5 hb
        refine over_vals (ds := [123]) [(.bool true)] (by kernel_rfl) ?_
        exact post_run (.slice (some ⟨bs, os, none⟩) m c1) rfl (by kernel_rfl) (by kernel_rfl) (by kernel_rfl) (by kernel_rfl) (by kernel_rfl)
      case w2r22g5 =>
        intro w5 hb
        refine over_vals (ds := [123]) [(.bool true)] (by kernel_rfl) ?_
        obtain ⟨u0, u1, u2, u3, u4⟩ := ev_cells ((hb.block g14 L14).trans K14.out)
        simp only [putAll, put_lit, List.set_cons_succ, List.set_cons_zero]
        (go_wp2; all_goals (first | exact post_of (by rfl) (by rfl) (Below.refl _ _) (by rfl) | (exfalso; simp_all; done)))
      case w2r22g6 =>
        intro w5 hb
        refine over_vals (ds := [123, 124, 125]) [(.bool true), (.slice (some ⟨bs, os, none⟩) m c1), (.agg #[.int .u8 nd2, .int .u16 ic2, .int .u32 sq2, .slice A2 m c2, .slice D15 65 65])] (by kernel_rfl) ?_
        simp only [putAll, put_lit, List.set_cons_succ, List.set_cons_zero]
        (go_wp2_with (go_at_call 20; go_must (refine (event_of (S22.out.next hb) HR.out (E14.out.next hb) B14.out).mono ?_); rintro r w6 ⟨rfl, b6⟩); all_goals (first | exact post_of (by rfl) (by rfl) (Below.refl _ _) (by rfl) | exact post_of (by rfl) (by rfl) b6 (by rfl) | (exfalso; simp_all; done)))
      case w2r22g7 =>
        intro w5 hb
        refine over_vals (ds := [123, 126]) [(.bool true), (.bool false)] (by kernel_rfl) ?_
        exact post_run (.bool true) rfl (by kernel_rfl) (by kernel_rfl) (by kernel_rfl) (by kernel_rfl) (by kernel_rfl)
      case w2r22g8 =>
        intro w5 hb
        refine over_vals (ds := [123, 127]) [(.bool true), (.bool true)] (by kernel_rfl) ?_
        exact post_run (.bool true) rfl (by kernel_rfl) (by kernel_rfl) (by kernel_rfl) (by kernel_rfl) (by kernel_rfl)
      case w2r22g9 =>
        intro w5 hb
        refine over_vals (ds := [128]) [(.bool true)] (by kernel_rfl) ?_
        exact post_run (.bool true) rfl (by kernel_rfl) (by kernel_rfl) (by kernel_rfl) (by kernel_rfl) (by kernel_rfl)
      case w2r22g10 =>
        intro w5 hb
        refine over_vals (ds := [129]) [(.bool true)] (by kernel_rfl) ?_
        exact post_run (.slice (some ⟨bs, os, none⟩) m c1) rfl (by kernel_rfl) (by kernel_rfl) (by kernel_rfl) (by kernel_rfl) (by kernel_rfl)
      case w2r22g11 =>
        intro w5 hb
        refine over_vals (ds := [129]) [(.bool true)] (by kernel_rfl) ?_
        obtain ⟨u0, u1, u2, u3, u4⟩ := ev_cells ((hb.block g15 L15).trans K15.out)
        simp only [putAll, put_lit, List.set_cons_succ, List.set_cons_zero]
        (go_wp2; all_goals (first | exact post_of (by rfl) (by rfl) (Below.refl _ _) (by rfl) | (exfalso; simp_all; done)))
      case w2r22g12 =>
        intro w5 hb
        refine over_vals (ds := [129, 130, 131]) [(.bool true), (.slice (some ⟨bs, os, none⟩) m c1), (.agg #[.int .u8 12, .int .u16 ic2, .int .u32 sq2, .slice A2 m c2, .slice D7 64 64])] (by kernel_rfl) ?_
        simp only [putAll, put_lit, List.set_cons_succ, List.set_cons_zero]
        (go_wp2_with (go_at_call 20; go_must (refine (event_of (S22.out.next hb) HR.out (E15.out.next hb) B15.out).mono ?_); rintro r w6 ⟨rfl, b6⟩); all_goals (first | exact post_of (by rfl) (by rfl) (Below.refl _ _) (by rfl) | exact post_of (by rfl) (by rfl) b6 (by rfl) | (exfalso; simp_all; done)))
      case w2r22g13 =>
        intro w5 hb
        refine over_vals (ds := [129, 132]) [(.bool true), (.bool false)] (by kernel_rfl) ?_
        exact post_run (.bool true) rfl (by kernel_rfl) (by kernel_rfl) (by kernel_rfl) (by kernel_rfl) (by kernel_rfl)
      case w2r22g14 =>
        intro w5 hb
        refine over_vals (ds := [129, 133]) [(.bool true), (.bool true)] (by kernel_rfl) ?_
        exact post_run (.bool true) rfl (by kernel_rfl) (by kernel_rfl) (by kernel_rfl) (by kernel_rfl) (by kernel_rfl)
      case w2r22g15 =>
        intro w5 hb
        refine over_vals (ds := [134]) [(.bool true)] (by kernel_rfl) ?_
        exact post_run (.bool true) rfl (by kernel_rfl) (by kernel_rfl) (by kernel_rfl) (by kernel_rfl) (by kernel_rfl)
      case w2r22g16 =>
        intro w5 hb
        refine over_vals (ds := [135]) [(.bool true)] (by kernel_rfl) ?_
        exact post_run (.slice (some ⟨bs, os, none⟩) m c1) rfl (by kernel_rfl) (by kernel_rfl) (by kernel_rfl) (by kernel_rfl) (by kernel_rfl)
      case w2r22g17 =>
        intro w5 hb
        refine over_vals (ds := [135]) [(.bool true)] (by kernel_rfl) ?_
        obtain ⟨u0, u1, u2, u3, u4⟩ := ev_cells ((hb.block g16 L16).trans K16.out)
        simp only [putAll, put_lit, List.set_cons_succ, List.set_cons_zero]
        (go_wp2; all_goals (first | exact post_of (by rfl) (by rfl) (Below.refl _ _) (by rfl) | (exfalso; simp_all; done)))
      case w2r22g18 =>
        intro w5 hb
        refine over_vals (ds := [135, 136, 137]) [(.bool true), (.slice (some ⟨bs, os, none⟩) m c1), (.agg #[.int .u8 nd2, .int .u16 0, .int .u32 sq2, .slice A2 m c2, .slice D7 64 64])] (by kernel_rfl) ?_
        simp only [putAll, put_lit, List.set_cons_succ, List.set_cons_zero]
        (go_wp2_with (go_at_call 20; go_must (refine (event_of (S22.out.next hb) HR.out (E16.out.next hb) B16.out).mono ?_); rintro r w6 ⟨rfl, b6⟩); all_goals (first | exact post_of (by rfl) (by rfl) (Below.refl _ _) (by rfl) | exact post_of (by rfl) (by rfl) b6 (by rfl) | (exfalso; simp_all; done)))
      case w2r22g19 =>
        intro w5 hb
        refine over_vals (ds := [135, 138]) [(.bool true), (.bool false)] (by kernel_rfl) ?_
        exact post_run (.bool true) rfl (by kernel_rfl) (by kernel_rfl) (by kernel_rfl) (by kernel_rfl) (by kernel_rfl)
      case w2r22g20 =>
        intro w5 hb
        refine over_vals (ds := [135, 139]) [(.bool true), (.bool true)] (by kernel_rfl) ?_
        exact post_run (.bool true) rfl (by kernel_rfl) (by kernel_rfl) (by kernel_rfl) (by kernel_rfl) (by kernel_rfl)
      case w2r22g21 =>
        intro w5 hb
        refine over_vals (ds := [140]) [(.bool true)] (by kernel_rfl) ?_
        exact post_run (.bool true) rfl (by kernel_rfl) (by kernel_rfl) (by kernel_rfl) (by kernel_rfl) (by kernel_rfl)
      case w2r22g22 =>
        intro w5 hb
        refine over_vals (ds := [141]) [(.bool true)] (by kernel_rfl) ?_
        exact post_run (.slice (some ⟨bs, os, none⟩) m c1) rfl (by kernel_rfl) (by kernel_rfl) (by kernel_rfl) (by kernel_rfl) (by kernel_rfl)
      case w2r22g23 =>
        intro w5 hb
        refine over_vals (ds := [141]) [(.bool true)] (by kernel_rfl) ?_
        obtain ⟨u0, u1, u2, u3, u4⟩ := ev_cells ((hb.block g17 L17).trans K17.out)
        simp only [putAll, put_lit, List.set_cons_succ, List.set_cons_zero]
        (go_wp2; all_goals (first | exact post_of (by rfl) (by rfl) (Below.refl _ _) (by rfl) | (exfalso; simp_all; done)))
      case w2r22g24 =>
        intro w5 hb
        refine over_vals (ds := [141, 142, 143]) [(.bool true), (.slice (some ⟨bs, os, none⟩) m c1), (.agg #[.int .u8 nd2, .int .u16 ic2, .int .u32 0, .slice A2 m c2, .slice D7 64 64])] (by kernel_rfl) ?_
        simp only [putAll, put_lit, List.set_cons_succ, List.set_cons_zero]
        (go_wp2_with (go_at_call 20; go_must (refine (event_of (S22.out.next hb) HR.out (E17.out.next hb) B17.out).mono ?_); rintro r w6 ⟨rfl, b6⟩); all_goals (first | exact post_of (by rfl) (by rfl) (Below.refl _ _) (by rfl) | exact post_of (by rfl) (by rfl) b6 (by rfl) | (exfalso; simp_all; done)))
      case w2r22g25 =>
        intro w5 hb
        refine over_vals (ds := [141, 144]) [(.bool true), (.bool false)] (by kernel_rfl) ?_
        exact post_run (.bool true) rfl (by kernel_rfl) (by kernel_rfl) (by kernel_rfl) (by kernel_rfl) (by kernel_rfl)
      case w2r22g26 =>
        intro w5 hb
        refine over_vals (ds := [141, 145]) [(.bool true), (.bool true)] (by kernel_rfl) ?_
        exact post_run (.bool true) rfl (by kernel_rfl) (by kernel_rfl) (by kernel_rfl) (by kernel_rfl) (by kernel_rfl)
      case w2r22g27 =>
        intro w5 hb
        refine over_vals (ds := [146]) [(.bool true)] (by kernel_rfl) ?_
        exact post_run (.bool true) rfl (by kernel_rfl) (by kernel_rfl) (by kernel_rfl) (by kernel_rfl) (by kernel_rfl)
      case w2r22g28 =>
        intro w5 hb
        refine over_vals (ds := [147]) [(.bool true)] (by kernel_rfl) ?_
        simp only [putAll, put_lit, List.set_cons_succ, List.set_cons_zero]
        (go_wp2_with (go_at_call 9; go_must (refine (awake_any _).mono ?_); rintro r w6 ⟨rfl, b6⟩); all_goals (first | exact post_of (by rfl) (by rfl) (Below.refl _ _) (by rfl) | exact post_of (by rfl) (by rfl) b6 (by rfl) | (exfalso; simp_all; done)))
      case w2r22g29 =>
        intro w5 hb
        refine over_vals (ds := [147, 148]) [(.bool true), (.bool true)] (by kernel_rfl) ?_
        exact post_run (.bool true) rfl (by kernel_rfl) (by kernel_rfl) (by kernel_rfl) (by kernel_rfl) (by kernel_rfl)
      case w2r22g30 =>
        intro w5 hb
        refine over_vals (ds := [149]) [(.bool true)] (by kernel_rfl) ?_
        exact post_run (.bool true) rfl (by kernel_rfl) (by kernel_rfl) (by kernel_rfl) (by kernel_rfl) (by kernel_rfl)
    simp only [List.take_succ_cons, List.take_zero]
    refine ⟨?w2k0, ?w2k1, ?w2k2, ?w2k3, ?w2k4, trivial⟩
    case w2k2 =>
      intro w5 hb
      refine over_nil ?_
      go_wp2_with (at_make; go_must (refine wpList_make_full _ rfl _ _ 29 rfl w11.heap.size 5 i0 (.int .u8 0) 1 Try.underlying29 HI.out HZ0.out HZ1.out .i64 .i64 _ _ 64 rfl rfl rfl rfl (by rw [HZ2.out]; omega) (by unfold maxLen; omega) hb.size ?_); intro w6' o6' g6')
      rw [made_u8] at o6'
      exact post_of (by rfl) (by rfl) ((Below.refl _ _).grown g6' (Nat.le_refl _) (by simp)) (by exact ⟨_, rfl, o6'⟩)
    case w2k3 =>
      intro w5 hb
      refine over_val rfl (over_val rfl (over_pred rfl ?_))
      rintro _ ⟨D6, rfl, o6⟩
      refine over_nil ?_
      go_wp2
      exact post_of (by rfl) (by rfl) (Below.refl _ _) (by exact ⟨D6, rfl, o6⟩)
    case w2k4 =>
      intro w5 hb
      refine over_nil ?_
      go_wp2
      exact post_of (by rfl) (by rfl) (below_lit _ _) (by exact ⟨_, rfl, hb.size, heap_alloc_new _ _⟩)
    all_goals
      intro w5 hb
      refine over_nil ?_
      obtain ⟨c0, c1', c2'⟩ := id_cells ((hb.block w.heap.size z11).trans K11.out)
      go_wp2
      exact post_of (by rfl) (by rfl) (Below.refl _ _) (by rfl)
  · -- from False, to True
    go_wp2_with (first
    | (at_builtin; clear FLAG1; go_must (refine wpList_app rfl _ _ 28 rfl Try.underlying28 infoI32 rfl rfl (Own.lit0 _ 21) rfl (X2.out.next (below_lit _ _)) (Nl_one _ _) (by omega) (by decide) (by simp) ?_); intro A3 c3 w3 o3 g3
       have o3' : Own w3 w2.heap.size 21 A3 m c3 (Nl .i32 X) := by rw [Nat.zero_add, List.nil_append] at o3; exact o3
       have b3 : Below w2.heap.size w2 w3 := (below_lit w2 _).grown g3 (by simp) (fun k hk => by simp [Value.ownBlock] at hk; omega)
       have q1 := ((thn b2 b3).cell (p := ⟨bs, os + kk * 2, none⟩) hbs).trans Q1.out
       have q2 := ((thn b2 b3).cell (p := ⟨bs, os + kk * 2 + 1, none⟩) hbs).trans Q2.out
       have j0 : (0 : Int) ≤ (kk : Int) := by omega
       have j1 : (kk : Int) < (m : Int) := by omega
       obtain ⟨gy, rfl, hgy, cy, fy, o4⟩ := own_set o3' hkm (p.2 + 1)
       have O4 := Lib.hid o4
       have b4 := b3.setCell (p := ⟨gy, kk, none⟩) hgy (.int .i32 (p.2 + 1))
       clear o3' o4
       clear o3 g3))
    refine (fits_of (S1.out.next (thn b2 b4)) (Nat.le_refl _) (O4.out.sv) (Nat.le_refl _) HR.out ((set_unfit HPP.out (HXL.out.trans HP.out.symm) (by omega)))).mono ?_
    rintro r w6 ⟨rfl, b5⟩
    have b45 := thn b4 b5
    have b6 := b45
    have r2 := ((thn b2 b45).cell (p := ⟨bs, os + kk * 2 + 1, none⟩) hbs).trans Q2.out
    clear b45 b5 O4 b4 q1 q2 cy fy
    have X6 := Lib.hid (X2.out.next b6)
    have S6 := Lib.hid (S1.out.next (thn b2 b6))
    go_wp2_with (first
    | (at_builtin; have o0 := O7.out; go_must (refine wpList_app rfl _ _ 28 rfl Try.underlying28 infoI32 rfl rfl (o0.below (below_lit _ _)) rfl (Sv.lit_at _ #[.int .i32 0] 21 (0, 0) 1 _ (by first | rfl | simp) rfl (by decide)) (one_one _ rfl) (by omega) (by decide) (by simp only [World.size_alloc]; omega) ?_); intro A8 c8 w8 o8 g8
       have o8' : Own w8 w6.heap.size 21 A8 (m + 1) c8 (Nl .i32 (X ++ [0])) := by rw [Nl_snoc]; exact o8
       have b8 : Below w6.heap.size w6 w8 := (b7.trans ((below_lit w7 _).mono b7.size)).grown g8 (by simp only [World.size_alloc]; have := b7.size; omega) o0.lt
       have O8 := Lib.hid o8'
       clear o8 o8' g8 o0 O7)
    | (at_builtin; clear FLAG2; go_must (refine wpList_app rfl _ _ 28 rfl Try.underlying28 infoI32 rfl rfl (Own.lit0 _ 21) rfl (X6.out.next (below_lit _ _)) (Nl_one _ _) (by omega) (by decide) (by simp) ?_); intro A7 c7 w7 o7 g7
       have o7' : Own w7 w6.heap.size 21 A7 m c7 (Nl .i32 X) := by rw [Nat.zero_add, List.nil_append] at o7; exact o7
       have b7 : Below w6.heap.size w6 w7 := (below_lit w6 _).grown g7 (by simp) (fun k hk => by simp [Value.ownBlock] at hk; omega)
       have O7 := Lib.hid o7'
       have hb7 := b7.size
       clear o7 o7' g7))
    skip
    refine (fits_of (S6.out.next b8) (Nat.le_refl _) (O8.out.sv) (Nat.le_refl _) HR.out (fitsB_len (by rw [List.length_append, HXL.out, HP.out]; simp))).mono ?_
    rintro r w9 ⟨rfl, b9⟩
    have e5 := fun w' : World => run_upto (P := Try.prog) (w := w') (A := A2) (n := m) (c := c2) (hi := m - 1) 28 21 Try.underlying28 (by kernel_rfl) 1 (fun w' => by kernel_rfl) .i64 ((m : Int) - 1) (by omega) (by omega)
    have b69 := thn b8 b9
    clear b8 b9 O8
    go_wp2_with fail
    refine (fits_of (S6.out.next b69) (Nat.le_refl _) (si_upto (X6.out.next b69) (by omega : m - 1 ≤ m)) (Nat.le_refl _) HR.out (fitsB_len (by rw [List.length_take, HXL.out, HP.out]; omega))).mono ?_
    rintro r w10 ⟨rfl, b10⟩
    have b2X := thn (thn (thn b2 b6) b69) b10
    have k10 := (((b1.trans (b2X.mono b1.size))).block _ z0).trans K0.out
    obtain ⟨y0, y1, y2⟩ := id_cells k10
    have f10 := ev_free k10
    have K10 := Lib.hid k10
    have X10 := Lib.hid (X6.out.next (thn b69 b10))
    have S10 := Lib.hid (S6.out.next (thn b69 b10))
    have bbX := thn (thn b0 b1) b2X
    obtain ⟨wn0, wn1⟩ := wn
    obtain ⟨wi0, wi1⟩ := wi
    obtain ⟨ws0, ws1⟩ := ws
    clear k10 b69 b10 b2X b1 b2 b6 S6 X6 X2 S1 K0 b0 Q1 Q2 e5 z0 HIN HPI HKK hkk
    obtain ⟨ic2, hic, hic1⟩ : ∃ v : Int, (if ic < 1 then 1 else ic) = v ∧ 1 ≤ v := ⟨_, rfl, by split <;> omega⟩
    obtain ⟨sq2, hsq, hsq1⟩ : ∃ v : Int, (if sq < 1 then 1 else sq) = v ∧ 1 ≤ v := ⟨_, rfl, by split <;> omega⟩
    obtain ⟨nd2, hnd, hnd0, hnd1⟩ : ∃ v : Int, nd % 12 = v ∧ 0 ≤ v ∧ v < 12 := ⟨_, rfl, by omega, by omega⟩
    go_wp2_with fail
    clear hic hsq hnd y0 y1 y2 f10
    have k11 := Go.Joins.block_setCell (i := 2) (Go.Joins.block_setCell (i := 1) (Go.Joins.block_setCell (i := 0) K10.out (.int .u8 nd2)) (.int .u16 ic2)) (.int .u32 sq2)
    have b11 := ((bbX.setCell (p := ⟨w.heap.size, 0, none⟩) (Nat.le_refl _) (.int .u8 nd2)).setCell (p := ⟨w.heap.size, 1, none⟩) (Nat.le_refl _) (.int .u16 ic2)).setCell (p := ⟨w.heap.size, 2, none⟩) (Nat.le_refl _) (.int .u32 sq2)
    have far : ∀ q : Addr, q.block ≠ w.heap.size → (((w10.setCell ⟨w.heap.size, 0, none⟩ (.int .u8 nd2)).setCell ⟨w.heap.size, 1, none⟩ (.int .u16 ic2)).setCell ⟨w.heap.size, 2, none⟩ (.int .u32 sq2)).cell? q = w10.cell? q := fun q hq => by
      rw [World.cell?_of_block (Below.heap_setCell _ ⟨w.heap.size, 2, none⟩ _ _ hq), World.cell?_of_block (Below.heap_setCell _ ⟨w.heap.size, 1, none⟩ _ _ hq), World.cell?_of_block (Below.heap_setCell _ ⟨w.heap.size, 0, none⟩ _ _ hq)]
    have hsz : w10.heap.size ≤ (((w10.setCell ⟨w.heap.size, 0, none⟩ (.int .u8 nd2)).setCell ⟨w.heap.size, 1, none⟩ (.int .u16 ic2)).setCell ⟨w.heap.size, 2, none⟩ (.int .u32 sq2)).heap.size := by simp
    have S11 := Lib.hid ((sn_apart S10.out (by decide) (spl_i32 ps) K10.out id_noti32 far).more hsz)
    have X11 := Lib.hid (Sn.sv ((sn_apart X10.out.sn (by decide) (Nl_i32 X) K10.out id_noti32 far).more hsz))
    have K11 := Lib.hid k11
    clear far hsz K10 S10 X10 bbX k11
    generalize ((w10.setCell ⟨w.heap.size, 0, none⟩ (.int .u8 nd2)).setCell ⟨w.heap.size, 1, none⟩ (.int .u16 ic2)).setCell ⟨w.heap.size, 2, none⟩ (.int .u32 sq2) = w11 at *
    have z11 : w.heap.size < w11.heap.size := (Array.getElem?_eq_some_iff.1 K11.out).1
    obtain ⟨i0, hi, hz0, hz1, hz2⟩ := info_parts infoU8
    have HI := Lib.hid hi
    have HZ0 := Lib.hid hz0
    have HZ1 := Lib.hid hz1
    have HZ2 := Lib.hid hz2
    clear hi hz0 hz1 hz2
    refine wp_region_typed 5 [(104, .val (.agg #[.int .u8 nd2, .int .u16 ic2, .int .u32 sq2])), (105, .val (.slice A2 m c2)), (106, tyZero w11.heap.size 64), (107, tyFine w11.heap.size nd2 ic2 sq2 A2 m c2 64), (13, tyBlank w11.heap.size)]
      [[], [], [], [104, 105, 106], []] (by kernel_rfl) (by kernel_rfl) ?_ ?_
    rotate_left
    · intro w12 hb
      simp only [List.take_succ_cons, List.take_zero, List.drop_succ_cons, List.drop_zero]
      refine over_val rfl (over_val rfl (over_pred rfl ?_))
      rintro _ ⟨D6, rfl, o6⟩
      refine over_pred rfl ?_
      rintro _ ⟨D7, rfl, o7⟩
      refine over_pred rfl ?_
      rintro _ ⟨g13, rfl, hg13, k13⟩
      refine over_nil ?_
      simp only [put_lit, List.set_cons_succ, List.set_cons_zero]
      obtain ⟨c130, c131, c132, c133, c134⟩ := ev_cells k13
      have f13 := ev_free k13
      have O7 := Lib.hid o7
      have K13 := Lib.hid k13
      have HB := Lib.hid hb
      clear o6 o7 k13 hb
      go_wp2_with fail
      have bA := HB.out.trans (st5_below (w := w12) (a := .int .u8 nd2) (b := .int .u16 ic2) (c := .int .u32 sq2) (d := .slice A2 m c2) (e := .slice D7 64 64) hg13)
      have kF := st5_same (a := .int .u8 nd2) (b := .int .u16 ic2) (c := .int .u32 sq2) (d := .slice A2 m c2) (e := .slice D7 64 64) K13.out
      have oF := O7.out.same5 (a := .int .u8 nd2) (b := .int .u16 ic2) (c := .int .u32 sq2) (d := .slice A2 m c2) (e := .slice D7 64 64) K13.out (by decide)
      clear c130 c131 c132 c133 c134 f13 O7 K13 HB
      generalize ((((w12.setCell ⟨g13, 0, none⟩ (.int .u8 nd2)).setCell ⟨g13, 1, none⟩ (.int .u16 ic2)).setCell ⟨g13, 2, none⟩ (.int .u32 sq2)).setCell ⟨g13, 3, none⟩ (.slice A2 m c2)).setCell ⟨g13, 4, none⟩ (.slice D7 64 64) = w13 at *
      have S13 := Lib.hid (S11.out.next bA)
      have X13 := Lib.hid (X11.out.next bA)
      have OF := Lib.hid oF
      have KF := Lib.hid kF
      have bb13 := b11.trans (bA.mono b11.size)
      have z13 : g13 < w13.heap.size := (Array.getElem?_eq_some_iff.1 kF).1
      clear oF kF bA S11 X11 K11 b11
      refine four_gen (g13 := g13) (nd := nd2) (ic := ic2) (sq := sq2) (A := A2) (m := m) (c := c2) (D := D7) (dn := 64) (dc := 64) ⟨rfl, rfl, rfl⟩ ⟨rfl, rfl, rfl⟩ ⟨rfl, rfl, rfl⟩ ⟨rfl, rfl, rfl⟩ ⟨rfl, rfl, rfl⟩ ⟨rfl, rfl, rfl⟩ ⟨rfl, rfl, rfl⟩ ⟨rfl, rfl, rfl⟩ ⟨rfl, rfl, rfl⟩ ⟨rfl, rfl, rfl⟩ ⟨rfl, rfl, rfl⟩ ⟨rfl, rfl, rfl⟩ (by kernel_rfl) (by kernel_rfl) (by kernel_rfl) (by kernel_rfl) (Nat.le_of_ble_eq_true (by kernel_rfl)) (by kernel_rfl) KF.out ?_
      intro g14 g15 g16 g17 w14 hge hne b14 k14 k15 k16 k17
      obtain ⟨hg14, hg15, hg16, hg17⟩ := hge
      obtain ⟨n45, n46, n47, n56, n57, n67⟩ := hne
      simp only [putAll, put_lit, List.set_cons_succ, List.set_cons_zero]
      have KF14 := Lib.hid ((b14.block g13 z13).trans KF.out)
      have l13 : g13 < w14.heap.size := Nat.lt_of_lt_of_le z13 b14.size
      have l14 := (Array.getElem?_eq_some_iff.1 k14).1
      have l15 := (Array.getElem?_eq_some_iff.1 k15).1
      have l16 := (Array.getElem?_eq_some_iff.1 k16).1
      have l17 := (Array.getElem?_eq_some_iff.1 k17).1
      have M14 := Lib.hid k14
      have M15 := Lib.hid k15
      have M16 := Lib.hid k16
      have M17 := Lib.hid k17
      have B14 := Lib.hid b14
      have hs14 := b14.size
      clear k14 k15 k16 k17 b14 KF
      go_upto_region 21 with (at_make; go_must (refine wpList_make_full _ rfl _ _ 29 rfl w13.heap.size 5 i0 (.int .u8 0) 1 Try.underlying29 HI.out HZ0.out HZ1.out .i64 .i64 _ _ 65 rfl rfl rfl rfl (by rw [HZ2.out]; omega) (by unfold maxLen; omega) hs14 ?_); intro w15 o15 g15'
                              have m14 := (g15'.block g14 l14 (by simp)).trans M14.out
                              have N14 := Lib.hid m14
                              have N15 := Lib.hid ((g15'.block g15 l15 (by simp)).trans M15.out)
                              have N16 := Lib.hid ((g15'.block g16 l16 (by simp)).trans M16.out)
                              have N17 := Lib.hid ((g15'.block g17 l17 (by simp)).trans M17.out)
                              have N13 := Lib.hid ((g15'.block g13 l13 (by simp)).trans KF14.out)
                              have b15 : Below w13.heap.size w13 w15 := B14.out.grown g15' hs14 (by simp)
                              have B15 := Lib.hid b15
                              rw [made_u8] at o15
                              have O15 := Lib.hid o15
                              clear o15 g15' M14 M15 M16 M17 KF14 b15
                              obtain ⟨c140, c141, c142, c143, c144⟩ := ev_cells m14
                              have f14 := ev_free m14
                              clear m14)
      clear c140 c141 c142 c143 c144 f14
      generalize (some ⟨w14.heap.size, 0, none⟩ : Option Addr) = D15 at *
      have j14 := Go.Joins.block_setCell (i := 4) N14.out (.slice D15 65 65)
      have j15 := (Below.heap_setCell w15 ⟨g14, 4, none⟩ (.slice D15 65 65) g15 n45.symm).trans N15.out
      have j16 := (Below.heap_setCell w15 ⟨g14, 4, none⟩ (.slice D15 65 65) g16 n46.symm).trans N16.out
      have j17 := (Below.heap_setCell w15 ⟨g14, 4, none⟩ (.slice D15 65 65) g17 n47.symm).trans N17.out
      have n43 : g13 ≠ g14 := by omega
      have j13 := (Below.heap_setCell w15 ⟨g14, 4, none⟩ (.slice D15 65 65) g13 n43).trans N13.out
      have B16 := Lib.hid (B15.out.setCell (p := ⟨g14, 4, none⟩) hg14 (.slice D15 65 65))
      have O16 := Lib.hid (Own.off O15.out N14.out (by decide) 4 (.slice D15 65 65))
      clear N13 N14 N15 N16 N17 B15 O15
      generalize w15.setCell ⟨g14, 4, none⟩ _ = w16 at *
      have J13 : Hid (w16.heap[g13]? = some (.cells #[.int .u8 nd2, .int .u16 ic2, .int .u32 sq2, .slice A2 m c2, .slice D7 64 64] 31 (0, 0))) := j13
      have J14 : Hid (w16.heap[g14]? = some (.cells #[.int .u8 nd2, .int .u16 ic2, .int .u32 sq2, .slice A2 m c2, .slice D15 65 65] 31 (0, 0))) := j14
      have J15 : Hid (w16.heap[g15]? = some (.cells #[.int .u8 nd2, .int .u16 ic2, .int .u32 sq2, .slice A2 m c2, .slice D7 64 64] 31 (0, 0))) := j15
      have J16 : Hid (w16.heap[g16]? = some (.cells #[.int .u8 nd2, .int .u16 ic2, .int .u32 sq2, .slice A2 m c2, .slice D7 64 64] 31 (0, 0))) := j16
      have J17 : Hid (w16.heap[g17]? = some (.cells #[.int .u8 nd2, .int .u16 ic2, .int .u32 sq2, .slice A2 m c2, .slice D7 64 64] 31 (0, 0))) := j17
      clear j13 j14 j15 j16 j17
      obtain ⟨c150, c151, c152, c153, c154⟩ := ev_cells J15.out
      obtain ⟨c160, c161, c162, c163, c164⟩ := ev_cells J16.out
      obtain ⟨c170, c171, c172, c173, c174⟩ := ev_cells J17.out
      have f15 := ev_free J15.out
      have f16 := ev_free J16.out
      have f17 := ev_free J17.out
      have n65 := n56.symm
      have n75 := n57.symm
      have n76 := n67.symm
      go_upto_region 22 with fail
      clear c150 c151 c152 c153 c154 c160 c161 c162 c163 c164 c170 c171 c172 c173 c174 f15 f16 f17
      have n53 : g13 ≠ g15 := by omega
      have n63 : g13 ≠ g16 := by omega
      have n73 : g13 ≠ g17 := by omega
      have ff : ∀ k, k ≠ g15 → k ≠ g16 → k ≠ g17 → (((w16.setCell ⟨g15, 0, none⟩ (.int .u8 12)).setCell ⟨g16, 1, none⟩ (.int .u16 0)).setCell ⟨g17, 2, none⟩ (.int .u32 0)).heap[k]? = w16.heap[k]? := fun k h1 h2 h3 => by
        rw [Below.heap_setCell _ ⟨g17, 2, none⟩ _ _ h3, Below.heap_setCell _ ⟨g16, 1, none⟩ _ _ h2, Below.heap_setCell _ ⟨g15, 0, none⟩ _ _ h1]
      have q13 := (ff g13 n53 n63 n73).trans J13.out
      have q14 := (ff g14 n45 n46 n47).trans J14.out
      have q15 := (Below.heap_setCell _ ⟨g17, 2, none⟩ (.int .u32 0) g15 n57).trans ((Below.heap_setCell _ ⟨g16, 1, none⟩ (.int .u16 0) g15 n56).trans (Go.Joins.block_setCell (i := 0) J15.out (.int .u8 12)))
      have q16 := (Below.heap_setCell _ ⟨g17, 2, none⟩ (.int .u32 0) g16 n67).trans (Go.Joins.block_setCell (i := 1) ((Below.heap_setCell w16 ⟨g15, 0, none⟩ (.int .u8 12) g16 n65).trans J16.out) (.int .u16 0))
      have q17 := Go.Joins.block_setCell (i := 2) ((Below.heap_setCell _ ⟨g16, 1, none⟩ (.int .u16 0) g17 n76).trans ((Below.heap_setCell w16 ⟨g15, 0, none⟩ (.int .u8 12) g17 n75).trans J17.out)) (.int .u32 0)
      have b22 := ((B16.out.setCell (p := ⟨g15, 0, none⟩) hg15 (.int .u8 12)).setCell (p := ⟨g16, 1, none⟩) hg16 (.int .u16 0)).setCell (p := ⟨g17, 2, none⟩) hg17 (.int .u32 0)
      have s65 := Own.off (Own.off (Own.off O16.out J15.out (by decide) 0 (.int .u8 12)) ((Below.heap_setCell w16 ⟨g15, 0, none⟩ (.int .u8 12) g16 n65).trans J16.out) (by decide) 1 (.int .u16 0)) ((Below.heap_setCell _ ⟨g16, 1, none⟩ (.int .u16 0) g17 n76).trans ((Below.heap_setCell w16 ⟨g15, 0, none⟩ (.int .u8 12) g17 n75).trans J17.out)) (by decide) 2 (.int .u32 0)
      clear J13 J14 J15 J16 J17 B16 O16 ff
      generalize ((w16.setCell ⟨g15, 0, none⟩ (.int .u8 12)).setCell ⟨g16, 1, none⟩ (.int .u16 0)).setCell ⟨g17, 2, none⟩ (.int .u32 0) = w22 at *
      have K13 : Hid (w22.heap[g13]? = some (.cells #[.int .u8 nd2, .int .u16 ic2, .int .u32 sq2, .slice A2 m c2, .slice D7 64 64] 31 (0, 0))) := q13
      have K14 : Hid (w22.heap[g14]? = some (.cells #[.int .u8 nd2, .int .u16 ic2, .int .u32 sq2, .slice A2 m c2, .slice D15 65 65] 31 (0, 0))) := q14
      have K15 : Hid (w22.heap[g15]? = some (.cells #[.int .u8 12, .int .u16 ic2, .int .u32 sq2, .slice A2 m c2, .slice D7 64 64] 31 (0, 0))) := q15
      have K16 : Hid (w22.heap[g16]? = some (.cells #[.int .u8 nd2, .int .u16 0, .int .u32 sq2, .slice A2 m c2, .slice D7 64 64] 31 (0, 0))) := q16
      have K17 : Hid (w22.heap[g17]? = some (.cells #[.int .u8 nd2, .int .u16 ic2, .int .u32 0, .slice A2 m c2, .slice D7 64 64] 31 (0, 0))) := q17
      have L13 := (Array.getElem?_eq_some_iff.1 q13).1
      have L14 := (Array.getElem?_eq_some_iff.1 q14).1
      have L15 := (Array.getElem?_eq_some_iff.1 q15).1
      have L16 := (Array.getElem?_eq_some_iff.1 q16).1
      have L17 := (Array.getElem?_eq_some_iff.1 q17).1
      clear q13 q14 q15 q16 q17
      have bb := bb13.trans (b22.mono bb13.size)
      have S22 : Hid (Sp w22 w22.heap.size (some ⟨bs, os, none⟩) m c1 ps) := S13.out.next b22
      have x22 : Si w22 w22.heap.size A2 m c2 X := X13.out.next b22
      have d22 : Sl w22 w22.heap.size D7 64 64 (List.replicate 64 0) := (Own.sv OF.out).next b22
      have d65 : Sl w22 w22.heap.size D15 65 65 (List.replicate 65 0) := Own.sv s65
      have E13 : Hid (EvR w22 (.agg #[.int .u8 nd2, .int .u16 ic2, .int .u32 sq2, .slice A2 m c2, .slice D7 64 64]) ⟨nd2, ic2, sq2, X, List.replicate 64 0⟩) := ⟨_, _, _, _, _, _, rfl, x22, d22⟩
      have E14 : Hid (EvR w22 (.agg #[.int .u8 nd2, .int .u16 ic2, .int .u32 sq2, .slice A2 m c2, .slice D15 65 65]) ⟨nd2, ic2, sq2, X, List.replicate 65 0⟩) := ⟨_, _, _, _, _, _, rfl, x22, d65⟩
      have E15 : Hid (EvR w22 (.agg #[.int .u8 12, .int .u16 ic2, .int .u32 sq2, .slice A2 m c2, .slice D7 64 64]) ⟨12, ic2, sq2, X, List.replicate 64 0⟩) := ⟨_, _, _, _, _, _, rfl, x22, d22⟩
      have E16 : Hid (EvR w22 (.agg #[.int .u8 nd2, .int .u16 0, .int .u32 sq2, .slice A2 m c2, .slice D7 64 64]) ⟨nd2, 0, sq2, X, List.replicate 64 0⟩) := ⟨_, _, _, _, _, _, rfl, x22, d22⟩
      have E17 : Hid (EvR w22 (.agg #[.int .u8 nd2, .int .u16 ic2, .int .u32 0, .slice A2 m c2, .slice D7 64 64]) ⟨nd2, ic2, 0, X, List.replicate 64 0⟩) := ⟨_, _, _, _, _, _, rfl, x22, d22⟩
      have B13 : Hid (eventB ps ⟨nd2, ic2, sq2, X, List.replicate 64 0⟩ = true) := by
        unfold Hid eventB namedB
        simp only [HX.out, List.length_replicate, Bool.true_and, Bool.and_eq_true, decide_eq_true_eq]
        omega
      have B14 : Hid (eventB ps ⟨nd2, ic2, sq2, X, List.replicate 65 0⟩ = false) := by
        unfold Hid eventB
        simp only [List.length_replicate]
        rw [show decide (65 ≤ 64) = false from rfl, Bool.and_false]
      have B15 : Hid (eventB ps ⟨12, ic2, sq2, X, List.replicate 64 0⟩ = false) := by
        unfold Hid eventB namedB
        simp only
        rw [show decide ((12 : Int) < 12) = false from rfl, Bool.false_and, Bool.false_and, Bool.and_false, Bool.false_and]
      have B16 : Hid (eventB ps ⟨nd2, 0, sq2, X, List.replicate 64 0⟩ = false) := by
        unfold Hid eventB namedB
        simp only
        rw [show decide (1 ≤ (0 : Int)) = false from rfl, Bool.and_false, Bool.false_and, Bool.and_false, Bool.false_and]
      have B17 : Hid (eventB ps ⟨nd2, ic2, 0, X, List.replicate 64 0⟩ = false) := by
        unfold Hid eventB namedB
        simp only
        rw [show decide (1 ≤ (0 : Int)) = false from rfl, Bool.and_false, Bool.and_false, Bool.false_and]
      clear x22 d22 d65 s65 b22 bb13 S13 X13 OF HX HXL
      refine wp_row_vals_end 31 [(120, (.slice (some ⟨bs, os, none⟩) m c1)), (121, (.agg #[.int .u8 nd2, .int .u16 ic2, .int .u32 sq2, .slice A2 m c2, .slice D7 64 64])), (122, (.bool true)), (123, (.bool true)), (124, (.slice (some ⟨bs, os, none⟩) m c1)), (125, (.agg #[.int .u8 nd2, .int .u16 ic2, .int .u32 sq2, .slice A2 m c2, .slice D15 65 65])), (126, (.bool false)), (127, (.bool true)), (128, (.bool true)), (129, (.bool true)), (130, (.slice (some ⟨bs, os, none⟩) m c1)), (131, (.agg #[.int .u8 12, .int .u16 ic2, .int .u32 sq2, .slice A2 m c2, .slice D7 64 64])), (132, (.bool false)), (133, (.bool true)), (134, (.bool true)), (135, (.bool true)), (136, (.slice (some ⟨bs, os, none⟩) m c1)), (137, (.agg #[.int .u8 nd2, .int .u16 0, .int .u32 sq2, .slice A2 m c2, .slice D7 64 64])), (138, (.bool false)), (139, (.bool true)), (140, (.bool true)), (141, (.bool true)), (142, (.slice (some ⟨bs, os, none⟩) m c1)), (143, (.agg #[.int .u8 nd2, .int .u16 ic2, .int .u32 0, .slice A2 m c2, .slice D7 64 64])), (144, (.bool false)), (145, (.bool true)), (146, (.bool true)), (147, (.bool true)), (148, (.bool true)), (149, (.bool true)), (8, (.bool true))]
        [[], [], [120, 121], [122], [123], [123], [123, 124, 125], [123, 126], [123, 127], [128], [129], [129], [129, 130, 131], [129, 132], [129, 133], [134], [135], [135], [135, 136, 137], [135, 138], [135, 139], [140], [141], [141], [141, 142, 143], [141, 144], [141, 145], [146], [147], [147, 148], [149]] (by kernel_rfl) ?_ ?_
      rotate_left
      · intro w5 a hb hB
        have h0 : a.tmps.getD 8 undef = .bool true := hB.new 8 (of_decide_eq_true (by kernel_rfl))
        have hd : a.defers = [] := hB.defers
        clear hB
        simp only [List.drop_succ_cons, List.drop_zero]
        refine wpList_nil ?_
        go_wp2
        exact bodyPost_ret (v := .bool true) ((results_tmp Try.results5 a.tmps _ _).trans (by rw [h0])) hd ⟨rfl, bb.trans (hb.mono bb.size)⟩
      simp only [List.take_succ_cons, List.take_zero]
      
      refine ⟨?w3r22g0, ?w3r22g1, ?w3r22g2, ?w3r22g3, ?w3r22g4, ?w3r22g5, ?w3r22g6, ?w3r22g7, ?w3r22g8, ?w3r22g9, ?w3r22g10, ?w3r22g11, ?w3r22g12, ?w3r22g13, ?w3r22g14, ?w3r22g15, ?w3r22g16, ?w3r22g17, ?w3r22g18, ?w3r22g19, ?w3r22g20, ?w3r22g21, ?w3r22g22, ?w3r22g23, ?w3r22g24, ?w3r22g25, ?w3r22g26, ?w3r22g27, ?w3r22g28, ?w3r22g29, ?w3r22g30, trivial⟩
      case w3r22g0 =>
        intro w5 hb
        refine over_nil ?_
        exact post_run (.slice (some ⟨bs, os, none⟩) m c1) rfl (by kernel_rfl) (by kernel_rfl) (by kernel_rfl) (by kernel_rfl) (by kernel_rfl)
      case w3r22g1 =>
        intro w5 hb
        refine over_nil ?_
        obtain ⟨u0, u1, u2, u3, u4⟩ := ev_cells ((hb.block g13 L13).trans K13.out)
        (go_wp2; all_goals (first | exact post_of (by rfl) (by rfl) (Below.refl _ _) (by rfl) | (exfalso; simp_all; done)))
      case w3r22g2 =>
        intro w5 hb
        refine over_vals (ds := [120, 121]) [(.slice (some ⟨bs, os, none⟩) m c1), (.agg #[.int .u8 nd2, .int .u16 ic2, .int .u32 sq2, .slice A2 m c2, .slice D7 64 64])] (by kernel_rfl) ?_
        simp only [putAll, put_lit, List.set_cons_succ, List.set_cons_zero]
        (go_wp2_with (go_at_call 20; go_must (refine (event_of (S22.out.next hb) HR.out (E13.out.next hb) B13.out).mono ?_); rintro r w6 ⟨rfl, b6⟩); all_goals (first | exact post_of (by rfl) (by rfl) (Below.refl _ _) (by rfl) | exact post_of (by rfl) (by rfl) b6 (by rfl) | (exfalso; simp_all; done)))
      case w3r22g3 =>
        intro w5 hb
        refine over_vals (ds := [122]) [(.bool true)] (by kernel_rfl) ?_
        exact post_run (.bool true) rfl (by kernel_rfl) (by kernel_rfl) (by kernel_rfl) (by kernel_rfl) (by kernel_rfl)
      case w3r22g4 =>
        intro w5 hb
        refine over_vals (ds := [123]) [(.bool true)] (by kernel_rfl) ?_
        exact post_run (.slice (some ⟨bs, os, none⟩) m c1) rfl (by kernel_rfl) (by kernel_rfl) (by kernel_rfl) (by kernel_rfl) (by kernel_rfl)
      case w3r22g5 =>
        intro w5 hb
        refine over_vals (ds := [123]) [(.bool true)] (by kernel_rfl) ?_
        obtain ⟨u0, u1, u2, u3, u4⟩ := ev_cells ((hb.block g14 L14).trans K14.out)
        simp only [putAll, put_lit, List.set_cons_succ, List.set_cons_zero]
        (go_wp2; all_goals (first | exact post_of (by rfl) (by rfl) (Below.refl _ _) (by rfl) | (exfalso; simp_all; done)))
      case w3r22g6 =>
        intro w5 hb
        refine over_vals (ds := [123, 124, 125]) [(.bool true), (.slice (some ⟨bs, os, none⟩) m c1), (.agg #[.int .u8 nd2, .int .u16 ic2, .int .u32 sq2, .slice A2 m c2, .slice D15 65 65])] (by kernel_rfl) ?_
        simp only [putAll, put_lit, List.set_cons_succ, List.set_cons_zero]
        (go_wp2_with (go_at_call 20; go_must (refine (event_of (S22.out.next hb) HR.out (E14.out.next hb) B14.out).mono ?_); rintro r w6 ⟨rfl, b6⟩); all_goals (first | exact post_of (by rfl) (by rfl) (Below.refl _ _) (by rfl) | exact post_of (by rfl) (by rfl) b6 (by rfl) | (exfalso; simp_all; done)))
      case w3r22g7 =>
        intro w5 hb
        refine over_vals (ds := [123, 126]) [(.bool true), (.bool false)] (by kernel_rfl) ?_
        exact post_run (.bool true) rfl (by kernel_rfl) (by kernel_rfl) (by kernel_rfl) (by kernel_rfl) (by kernel_rfl)
      case w3r22g8 =>
        intro w5 hb
        refine over_vals (ds := [123, 127]) [(.bool true), (.bool true)] (by kernel_rfl) ?_
        exact post_run (.bool true) rfl (by kernel_rfl) (by kernel_rfl) (by kernel_rfl) (by kernel_rfl) (by kernel_rfl)
      case w3r22g9 =>
        intro w5 hb
        refine over_vals (ds := [128]) [(.bool true)] (by kernel_rfl) ?_
        exact post_run (.bool true) rfl (by kernel_rfl) (by kernel_rfl) (by kernel_rfl) (by kernel_rfl) (by kernel_rfl)
      case w3r22g10 =>
        intro w5 hb
        refine over_vals (ds := [129]) [(.bool true)] (by kernel_rfl) ?_
        exact post_run (.slice (some ⟨bs, os, none⟩) m c1) rfl (by kernel_rfl) (by kernel_rfl) (by kernel_rfl) (by kernel_rfl) (by kernel_rfl)
      case w3r22g11 =>
        intro w5 hb
        refine over_vals (ds := [129]) [(.bool true)] (by kernel_rfl) ?_
        obtain ⟨u0, u1, u2, u3, u4⟩ := ev_cells ((hb.block g15 L15).trans K15.out)
        simp only [putAll, put_lit, List.set_cons_succ, List.set_cons_zero]
        (go_wp2; all_goals (first | exact post_of (by rfl) (by rfl) (Below.refl _ _) (by rfl) | (exfalso; simp_all; done)))
      case w3r22g12 =>
        intro w5 hb
        refine over_vals (ds := [129, 130, 131]) [(.bool true), (.slice (some ⟨bs, os, none⟩) m c1), (.agg #[.int .u8 12, .int .u16 ic2, .int .u32 sq2, .slice A2 m c2, .slice D7 64 64])] (by kernel_rfl) ?_
        simp only [putAll, put_lit, List.set_cons_succ, List.set_cons_zero]
        (go_wp2_with (go_at_call 20; go_must (refine (event_of (S22.out.next hb) HR.out (E15.out.next hb) B15.out).mono ?_); rintro r w6 ⟨rfl, b6⟩); all_goals (first | exact post_of (by rfl) (by rfl) (Below.refl _ _) (by rfl) | exact post_of (by rfl) (by rfl) b6 (by rfl) | (exfalso; simp_all; done)))
      case w3r22g13 =>
        intro w5 hb
        refine over_vals (ds := [129, 132]) [(.bool true), (.bool false)] (by kernel_rfl) ?_
        exact post_run (.bool true) rfl (by kernel_rfl) (by kernel_rfl) (by kernel_rfl) (by kernel_rfl) (by kernel_rfl)
      case w3r22g14 =>
        intro w5 hb
        refine over_vals (ds := [129, 133]) [(.bool true), (.bool true)] (by kernel_rfl) ?_
        exact post_run (.bool true) rfl (by kernel_rfl) (by kernel_rfl) (by kernel_rfl) (by kernel_rfl) (by kernel_rfl)
      case w3r22g15 =>
        intro w5 hb
        refine over_vals (ds := [134]) [(.bool true)] (by kernel_rfl) ?_
        exact post_run (.bool true) rfl (by kernel_rfl) (by kernel_rfl) (by kernel_rfl) (by kernel_rfl) (by kernel_rfl)
      case w3r22g16 =>
        intro w5 hb
        refine over_vals (ds := [135]) [(.bool true)] (by kernel_rfl) ?_
        exact post_run (.slice (some ⟨bs, os, none⟩) m c1) rfl (by kernel_rfl) (by kernel_rfl) (by kernel_rfl) (by kernel_rfl) (by kernel_rfl)
      case w3r22g17 =>
        intro w5 hb
        refine over_vals (ds := [135]) [(.bool true)] (by kernel_rfl) ?_
        obtain ⟨u0, u1, u2, u3, u4⟩ := ev_cells ((hb.block g16 L16).trans K16.out)
        simp only [putAll, put_lit, List.set_cons_succ, List.set_cons_zero]
        (go_wp2; all_goals (first | exact post_of (by rfl) (by rfl) (Below.refl _ _) (by rfl) | (exfalso; simp_all; done)))
      case w3r22g18 =>
        intro w5 hb
        refine over_vals (ds := [135, 136, 137]) [(.bool true), (.slice (some ⟨bs, os, none⟩) m c1), (.agg #[.int .u8 nd2, .int .u16 0, .int .u32 sq2, .slice A2 m c2, .slice D7 64 64])] (by kernel_rfl) ?_
        simp only [putAll, put_lit, List.set_cons_succ, List.set_cons_zero]
        (go_wp2_with (go_at_call 20; go_must (refine (event_of (S22.out.next hb) HR.out (E16.out.next hb) B16.out).mono ?_); rintro r w6 ⟨rfl, b6⟩); all_goals (first | exact post_of (by rfl) (by rfl) (Below.refl _ _) (by rfl) | exact post_of (by rfl) (by rfl) b6 (by rfl) | (exfalso; simp_all; done)))
      case w3r22g19 =>
        intro w5 hb
        refine over_vals (ds := [135, 138]) [(.bool true), (.bool false)] (by kernel_rfl) ?_
        exact post_run (.bool true) rfl (by kernel_rfl) (by kernel_rfl) (by kernel_rfl) (by kernel_rfl) (by kernel_rfl)
      case w3r22g20 =>
        intro w5 hb
        refine over_vals (ds := [135, 139]) [(.bool true), (.bool true)] (by kernel_rfl) ?_
        exact post_run (.bool true) rfl (by kernel_rfl) (by kernel_rfl) (by kernel_rfl) (by kernel_rfl) (by kernel_rfl)
      case w3r22g21 =>
        intro w5 hb
        refine over_vals (ds := [140]) [(.bool true)] (by kernel_rfl) ?_
        exact post_run (.bool true) rfl (by kernel_rfl) (by kernel_rfl) (by kernel_rfl) (by kernel_rfl) (by kernel_rfl)
      case w3r22g22 =>
        intro w5 hb
        refine over_vals (ds := [141]) [(.bool true)] (by kernel_rfl) ?_
        exact post_run (.slice (some ⟨bs, os, none⟩) m c1) rfl (by kernel_rfl) (by kernel_rfl) (by kernel_rfl) (by kernel_rfl) (by kernel_rfl)
      case w3r22g23 =>
        intro w5 hb
        refine over_vals (ds := [141]) [(.bool true)] (by kernel_rfl) ?_
        obtain ⟨u0, u1, u2, u3, u4⟩ := ev_cells ((hb.block g17 L17).trans K17.out)
        simp only [putAll, put_lit, List.set_cons_succ, List.set_cons_zero]
        (go_wp2; all_goals (first | exact post_of (by rfl) (by rfl) (Below.refl _ _) (by rfl) | (exfalso; simp_all; done)))
      case w3r22g24 =>
        intro w5 hb
        refine over_vals (ds := [141, 142, 143]) [(.bool true), (.slice (some ⟨bs, os, none⟩) m c1), (.agg #[.int .u8 nd2, .int .u16 ic2, .int .u32 0, .slice A2 m c2, .slice D7 64 64])] (by kernel_rfl) ?_
        simp only [putAll, put_lit, List.set_cons_succ, List.set_cons_zero]
        (go_wp2_with (go_at_call 20; go_must (refine (event_of (S22.out.next hb) HR.out (E17.out.next hb) B17.out).mono ?_); rintro r w6 ⟨rfl, b6⟩); all_goals (first | exact post_of (by rfl) (by rfl) (Below.refl _ _) (by rfl) | exact post_of (by rfl) (by rfl) b6 (by rfl) | (exfalso; simp_all; done)))
      case w3r22g25 =>
        intro w5 hb
        refine over_vals (ds := [141, 144]) [(.bool true), (.bool false)] (by kernel_rfl) ?_
        exact post_run (.bool true) rfl (by kernel_rfl) (by kernel_rfl) (by kernel_rfl) (by kernel_rfl) (by kernel_rfl)
      case w3r22g26 =>
        intro w5 hb
        refine over_vals (ds := [141, 145]) [(.bool true), (.bool true)] (by kernel_rfl) ?_
        exact post_run (.bool true) rfl (by kernel_rfl) (by kernel_rfl) (by kernel_rfl) (by kernel_rfl) (by kernel_rfl)
      case w3r22g27 =>
        intro w5 hb
        refine over_vals (ds := [146]) [(.bool true)] (by kernel_rfl) ?_
        exact post_run (.bool true) rfl (by kernel_rfl) (by kernel_rfl) (by kernel_rfl) (by kernel_rfl) (by kernel_rfl)
      case w3r22g28 =>
        intro w5 hb
        refine over_vals (ds := [147]) [(.bool true)] (by kernel_rfl) ?_
        simp only [putAll, put_lit, List.set_cons_succ, List.set_cons_zero]
        (go_wp2_with (go_at_call 9; go_must (refine (awake_any _).mono ?_); rintro r w6 ⟨rfl, b6⟩); all_goals (first | exact post_of (by rfl) (by rfl) (Below.refl _ _) (by rfl) | exact post_of (by rfl) (by rfl) b6 (by rfl) | (exfalso; simp_all; done)))
      case w3r22g29 =>
        intro w5 hb
        refine over_vals (ds := [147, 148]) [(.bool true), (.bool true)] (by kernel_rfl) ?_
        exact post_run (.bool true) rfl (by kernel_rfl) (by kernel_rfl) (by kernel_rfl) (by kernel_rfl) (by kernel_rfl)
      case w3r22g30 =>
        intro w5 hb
        refine over_vals (ds := [149]) [(.bool true)] (by kernel_rfl) ?_
        exact post_run (.bool true) rfl (by kernel_rfl) (by kernel_rfl) (by kernel_rfl) (by kernel_rfl) (by kernel_rfl)
    simp only [List.take_succ_cons, List.take_zero]
    refine ⟨?w3k0, ?w3k1, ?w3k2, ?w3k3, ?w3k4, trivial⟩
    case w3k2 =>
      intro w5 hb
      refine over_nil ?_
      go_wp2_with (at_make; go_must (refine wpList_make_full _ rfl _ _ 29 rfl w11.heap.size 5 i0 (.int .u8 0) 1 Try.underlying29 HI.out HZ0.out HZ1.out .i64 .i64 _ _ 64 rfl rfl rfl rfl (by rw [HZ2.out]; omega) (by unfold maxLen; omega) hb.size ?_); intro w6' o6' g6')
      rw [made_u8] at o6'
      exact post_of (by rfl) (by rfl) ((Below.refl _ _).grown g6' (Nat.le_refl _) (by simp)) (by exact ⟨_, rfl, o6'⟩)
    case w3k3 =>
      intro w5 hb
      refine over_val rfl (over_val rfl (over_pred rfl ?_))
      rintro _ ⟨D6, rfl, o6⟩
      refine over_nil ?_
      go_wp2
      exact post_of (by rfl) (by rfl) (Below.refl _ _) (by exact ⟨D6, rfl, o6⟩)
    case w3k4 =>
      intro w5 hb
      refine over_nil ?_
      go_wp2
      exact post_of (by rfl) (by rfl) (below_lit _ _) (by exact ⟨_, rfl, hb.size, heap_alloc_new _ _⟩)
    all_goals
      intro w5 hb
      refine over_nil ?_
      obtain ⟨c0, c1', c2'⟩ := id_cells ((hb.block w.heap.size z11).trans K11.out)
      go_wp2
      exact post_of (by rfl) (by rfl) (Below.refl _ _) (by rfl)
  · -- from False, to False
    go_wp2_with (first
    | (at_builtin; clear FLAG1; go_must (refine wpList_app rfl _ _ 28 rfl Try.underlying28 infoI32 rfl rfl (Own.lit0 _ 21) rfl (X2.out.next (below_lit _ _)) (Nl_one _ _) (by omega) (by decide) (by simp) ?_); intro A3 c3 w6 o3 g3
       have o3' : Own w6 w2.heap.size 21 A3 m c3 (Nl .i32 X) := by rw [Nat.zero_add, List.nil_append] at o3; exact o3
       have b3 : Below w2.heap.size w2 w6 := (below_lit w2 _).grown g3 (by simp) (fun k hk => by simp [Value.ownBlock] at hk; omega)
       have q1 := ((thn b2 b3).cell (p := ⟨bs, os + kk * 2, none⟩) hbs).trans Q1.out
       have q2 := ((thn b2 b3).cell (p := ⟨bs, os + kk * 2 + 1, none⟩) hbs).trans Q2.out
       have j0 : (0 : Int) ≤ (kk : Int) := by omega
       have j1 : (kk : Int) < (m : Int) := by omega
       have b6 := b3
       have X6 := Lib.hid (X2.out.next b3)
       clear o3'
       clear o3 g3)
    | (at_builtin; have o0 := O7.out; go_must (refine wpList_app rfl _ _ 28 rfl Try.underlying28 infoI32 rfl rfl (o0.below (below_lit _ _)) rfl (Sv.lit_at _ #[.int .i32 0] 21 (0, 0) 1 _ (by first | rfl | simp) rfl (by decide)) (one_one _ rfl) (by omega) (by decide) (by simp only [World.size_alloc]; omega) ?_); intro A8 c8 w8 o8 g8
       have o8' : Own w8 w6.heap.size 21 A8 (m + 1) c8 (Nl .i32 (X ++ [0])) := by rw [Nl_snoc]; exact o8
       have b8 : Below w6.heap.size w6 w8 := (b7.trans ((below_lit w7 _).mono b7.size)).grown g8 (by simp only [World.size_alloc]; have := b7.size; omega) o0.lt
       have O8 := Lib.hid o8'
       clear o8 o8' g8 o0 O7)
    | (at_builtin; clear FLAG2; go_must (refine wpList_app rfl _ _ 28 rfl Try.underlying28 infoI32 rfl rfl (Own.lit0 _ 21) rfl (X6.out.next (below_lit _ _)) (Nl_one _ _) (by omega) (by decide) (by simp) ?_); intro A7 c7 w7 o7 g7
       have o7' : Own w7 w6.heap.size 21 A7 m c7 (Nl .i32 X) := by rw [Nat.zero_add, List.nil_append] at o7; exact o7
       have b7 : Below w6.heap.size w6 w7 := (below_lit w6 _).grown g7 (by simp) (fun k hk => by simp [Value.ownBlock] at hk; omega)
       have O7 := Lib.hid o7'
       have hb7 := b7.size
       clear o7 o7' g7))
    have S6 := Lib.hid (S1.out.next (thn b2 b6))
    clear q1 q2
    skip
    refine (fits_of (S6.out.next b8) (Nat.le_refl _) (O8.out.sv) (Nat.le_refl _) HR.out (fitsB_len (by rw [List.length_append, HXL.out, HP.out]; simp))).mono ?_
    rintro r w9 ⟨rfl, b9⟩
    have e5 := fun w' : World => run_upto (P := Try.prog) (w := w') (A := A2) (n := m) (c := c2) (hi := m - 1) 28 21 Try.underlying28 (by kernel_rfl) 1 (fun w' => by kernel_rfl) .i64 ((m : Int) - 1) (by omega) (by omega)
    have b69 := thn b8 b9
    clear b8 b9 O8
    go_wp2_with fail
    refine (fits_of (S6.out.next b69) (Nat.le_refl _) (si_upto (X6.out.next b69) (by omega : m - 1 ≤ m)) (Nat.le_refl _) HR.out (fitsB_len (by rw [List.length_take, HXL.out, HP.out]; omega))).mono ?_
    rintro r w10 ⟨rfl, b10⟩
    have b2X := thn (thn (thn b2 b6) b69) b10
    have k10 := (((b1.trans (b2X.mono b1.size))).block _ z0).trans K0.out
    obtain ⟨y0, y1, y2⟩ := id_cells k10
    have f10 := ev_free k10
    have K10 := Lib.hid k10
    have X10 := Lib.hid (X6.out.next (thn b69 b10))
    have S10 := Lib.hid (S6.out.next (thn b69 b10))
    have bbX := thn (thn b0 b1) b2X
    obtain ⟨wn0, wn1⟩ := wn
    obtain ⟨wi0, wi1⟩ := wi
    obtain ⟨ws0, ws1⟩ := ws
    clear k10 b69 b10 b2X b1 b2 b6 S6 X6 X2 S1 K0 b0 Q1 Q2 e5 z0 HIN HPI HKK hkk
    obtain ⟨ic2, hic, hic1⟩ : ∃ v : Int, (if ic < 1 then 1 else ic) = v ∧ 1 ≤ v := ⟨_, rfl, by split <;> omega⟩
    obtain ⟨sq2, hsq, hsq1⟩ : ∃ v : Int, (if sq < 1 then 1 else sq) = v ∧ 1 ≤ v := ⟨_, rfl, by split <;> omega⟩
    obtain ⟨nd2, hnd, hnd0, hnd1⟩ : ∃ v : Int, nd % 12 = v ∧ 0 ≤ v ∧ v < 12 := ⟨_, rfl, by omega, by omega⟩
    go_wp2_with fail
    clear hic hsq hnd y0 y1 y2 f10
    have k11 := Go.Joins.block_setCell (i := 2) (Go.Joins.block_setCell (i := 1) (Go.Joins.block_setCell (i := 0) K10.out (.int .u8 nd2)) (.int .u16 ic2)) (.int .u32 sq2)
    have b11 := ((bbX.setCell (p := ⟨w.heap.size, 0, none⟩) (Nat.le_refl _) (.int .u8 nd2)).setCell (p := ⟨w.heap.size, 1, none⟩) (Nat.le_refl _) (.int .u16 ic2)).setCell (p := ⟨w.heap.size, 2, none⟩) (Nat.le_refl _) (.int .u32 sq2)
    have far : ∀ q : Addr, q.block ≠ w.heap.size → (((w10.setCell ⟨w.heap.size, 0, none⟩ (.int .u8 nd2)).setCell ⟨w.heap.size, 1, none⟩ (.int .u16 ic2)).setCell ⟨w.heap.size, 2, none⟩ (.int .u32 sq2)).cell? q = w10.cell? q := fun q hq => by
      rw [World.cell?_of_block (Below.heap_setCell _ ⟨w.heap.size, 2, none⟩ _ _ hq), World.cell?_of_block (Below.heap_setCell _ ⟨w.heap.size, 1, none⟩ _ _ hq), World.cell?_of_block (Below.heap_setCell _ ⟨w.heap.size, 0, none⟩ _ _ hq)]
    have hsz : w10.heap.size ≤ (((w10.setCell ⟨w.heap.size, 0, none⟩ (.int .u8 nd2)).setCell ⟨w.heap.size, 1, none⟩ (.int .u16 ic2)).setCell ⟨w.heap.size, 2, none⟩ (.int .u32 sq2)).heap.size := by simp
    have S11 := Lib.hid ((sn_apart S10.out (by decide) (spl_i32 ps) K10.out id_noti32 far).more hsz)
    have X11 := Lib.hid (Sn.sv ((sn_apart X10.out.sn (by decide) (Nl_i32 X) K10.out id_noti32 far).more hsz))
    have K11 := Lib.hid k11
    clear far hsz K10 S10 X10 bbX k11
    generalize ((w10.setCell ⟨w.heap.size, 0, none⟩ (.int .u8 nd2)).setCell ⟨w.heap.size, 1, none⟩ (.int .u16 ic2)).setCell ⟨w.heap.size, 2, none⟩ (.int .u32 sq2) = w11 at *
    have z11 : w.heap.size < w11.heap.size := (Array.getElem?_eq_some_iff.1 K11.out).1
    obtain ⟨i0, hi, hz0, hz1, hz2⟩ := info_parts infoU8
    have HI := Lib.hid hi
    have HZ0 := Lib.hid hz0
    have HZ1 := Lib.hid hz1
    have HZ2 := Lib.hid hz2
    clear hi hz0 hz1 hz2
    refine wp_region_typed 5 [(104, .val (.agg #[.int .u8 nd2, .int .u16 ic2, .int .u32 sq2])), (105, .val (.slice A2 m c2)), (106, tyZero w11.heap.size 64), (107, tyFine w11.heap.size nd2 ic2 sq2 A2 m c2 64), (13, tyBlank w11.heap.size)]
      [[], [], [], [104, 105, 106], []] (by kernel_rfl) (by kernel_rfl) ?_ ?_
    rotate_left
    · intro w12 hb
      simp only [List.take_succ_cons, List.take_zero, List.drop_succ_cons, List.drop_zero]
      refine over_val rfl (over_val rfl (over_pred rfl ?_))
      rintro _ ⟨D6, rfl, o6⟩
      refine over_pred rfl ?_
      rintro _ ⟨D7, rfl, o7⟩
      refine over_pred rfl ?_
      rintro _ ⟨g13, rfl, hg13, k13⟩
      refine over_nil ?_
      simp only [put_lit, List.set_cons_succ, List.set_cons_zero]
      obtain ⟨c130, c131, c132, c133, c134⟩ := ev_cells k13
      have f13 := ev_free k13
      have O7 := Lib.hid o7
      have K13 := Lib.hid k13
      have HB := Lib.hid hb
      clear o6 o7 k13 hb
      go_wp2_with fail
      have bA := HB.out.trans (st5_below (w := w12) (a := .int .u8 nd2) (b := .int .u16 ic2) (c := .int .u32 sq2) (d := .slice A2 m c2) (e := .slice D7 64 64) hg13)
      have kF := st5_same (a := .int .u8 nd2) (b := .int .u16 ic2) (c := .int .u32 sq2) (d := .slice A2 m c2) (e := .slice D7 64 64) K13.out
      have oF := O7.out.same5 (a := .int .u8 nd2) (b := .int .u16 ic2) (c := .int .u32 sq2) (d := .slice A2 m c2) (e := .slice D7 64 64) K13.out (by decide)
      clear c130 c131 c132 c133 c134 f13 O7 K13 HB
      generalize ((((w12.setCell ⟨g13, 0, none⟩ (.int .u8 nd2)).setCell ⟨g13, 1, none⟩ (.int .u16 ic2)).setCell ⟨g13, 2, none⟩ (.int .u32 sq2)).setCell ⟨g13, 3, none⟩ (.slice A2 m c2)).setCell ⟨g13, 4, none⟩ (.slice D7 64 64) = w13 at *
      have S13 := Lib.hid (S11.out.next bA)
      have X13 := Lib.hid (X11.out.next bA)
      have OF := Lib.hid oF
      have KF := Lib.hid kF
      have bb13 := b11.trans (bA.mono b11.size)
      have z13 : g13 < w13.heap.size := (Array.getElem?_eq_some_iff.1 kF).1
      clear oF kF bA S11 X11 K11 b11
      refine four_gen (g13 := g13) (nd := nd2) (ic := ic2) (sq := sq2) (A := A2) (m := m) (c := c2) (D := D7) (dn := 64) (dc := 64) ⟨rfl, rfl, rfl⟩ ⟨rfl, rfl, rfl⟩ ⟨rfl, rfl, rfl⟩ ⟨rfl, rfl, rfl⟩ ⟨rfl, rfl, rfl⟩ ⟨rfl, rfl, rfl⟩ ⟨rfl, rfl, rfl⟩ ⟨rfl, rfl, rfl⟩ ⟨rfl, rfl, rfl⟩ ⟨rfl, rfl, rfl⟩ ⟨rfl, rfl, rfl⟩ ⟨rfl, rfl, rfl⟩ (by kernel_rfl) (by kernel_rfl) (by kernel_rfl) (by kernel_rfl) (Nat.le_of_ble_eq_true (by kernel_rfl)) (by kernel_rfl) KF.out ?_
      intro g14 g15 g16 g17 w14 hge hne b14 k14 k15 k16 k17
      obtain ⟨hg14, hg15, hg16, hg17⟩ := hge
      obtain ⟨n45, n46, n47, n56, n57, n67⟩ := hne
      simp only [putAll, put_lit, List.set_cons_succ, List.set_cons_zero]
      have KF14 := Lib.hid ((b14.block g13 z13).trans KF.out)
      have l13 : g13 < w14.heap.size := Nat.lt_of_lt_of_le z13 b14.size
      have l14 := (Array.getElem?_eq_some_iff.1 k14).1
      have l15 := (Array.getElem?_eq_some_iff.1 k15).1
      have l16 := (Array.getElem?_eq_some_iff.1 k16).1
      have l17 := (Array.getElem?_eq_some_iff.1 k17).1
      have M14 := Lib.hid k14
      have M15 := Lib.hid k15
      have M16 := Lib.hid k16
      have M17 := Lib.hid k17
      have B14 := Lib.hid b14
      have hs14 := b14.size
      clear k14 k15 k16 k17 b14 KF
      go_upto_region 21 with (at_make; go_must (refine wpList_make_full _ rfl _ _ 29 rfl w13.heap.size 5 i0 (.int .u8 0) 1 Try.underlying29 HI.out HZ0.out HZ1.out .i64 .i64 _ _ 65 rfl rfl rfl rfl (by rw [HZ2.out]; omega) (by unfold maxLen; omega) hs14 ?_); intro w15 o15 g15'
                              have m14 := (g15'.block g14 l14 (by simp)).trans M14.out
                              have N14 := Lib.hid m14
                              have N15 := Lib.hid ((g15'.block g15 l15 (by simp)).trans M15.out)
                              have N16 := Lib.hid ((g15'.block g16 l16 (by simp)).trans M16.out)
                              have N17 := Lib.hid ((g15'.block g17 l17 (by simp)).trans M17.out)
                              have N13 := Lib.hid ((g15'.block g13 l13 (by simp)).trans KF14.out)
                              have b15 : Below w13.heap.size w13 w15 := B14.out.grown g15' hs14 (by simp)
                              have B15 := Lib.hid b15
                              rw [made_u8] at o15
                              have O15 := Lib.hid o15
                              clear o15 g15' M14 M15 M16 M17 KF14 b15
                              obtain ⟨c140, c141, c142, c143, c144⟩ := ev_cells m14
                              have f14 := ev_free m14
                              clear m14)
      clear c140 c141 c142 c143 c144 f14
      generalize (some ⟨w14.heap.size, 0, none⟩ : Option Addr) = D15 at *
      have j14 := Go.Joins.block_setCell (i := 4) N14.out (.slice D15 65 65)
      have j15 := (Below.heap_setCell w15 ⟨g14, 4, none⟩ (.slice D15 65 65) g15 n45.symm).trans N15.out
      have j16 := (Below.heap_setCell w15 ⟨g14, 4, none⟩ (.slice D15 65 65) g16 n46.symm).trans N16.out
      have j17 := (Below.heap_setCell w15 ⟨g14, 4, none⟩ (.slice D15 65 65) g17 n47.symm).trans N17.out
      have n43 : g13 ≠ g14 := by omega
      have j13 := (Below.heap_setCell w15 ⟨g14, 4, none⟩ (.slice D15 65 65) g13 n43).trans N13.out
      have B16 := Lib.hid (B15.out.setCell (p := ⟨g14, 4, none⟩) hg14 (.slice D15 65 65))
      have O16 := Lib.hid (Own.off O15.out N14.out (by decide) 4 (.slice D15 65 65))
      clear N13 N14 N15 N16 N17 B15 O15
      generalize w15.setCell ⟨g14, 4, none⟩ _ = w16 at *
      have J13 : Hid (w16.heap[g13]? = some (.cells #[.int .u8 nd2, .int .u16 ic2, .int .u32 sq2, .slice A2 m c2, .slice D7 64 64] 31 (0, 0))) := j13
      have J14 : Hid (w16.heap[g14]? = some (.cells #[.int .u8 nd2, .int .u16 ic2, .int .u32 sq2, .slice A2 m c2, .slice D15 65 65] 31 (0, 0))) := j14
      have J15 : Hid (w16.heap[g15]? = some (.cells #[.int .u8 nd2, .int .u16 ic2, .int .u32 sq2, .slice A2 m c2, .slice D7 64 64] 31 (0, 0))) := j15
      have J16 : Hid (w16.heap[g16]? = some (.cells #[.int .u8 nd2, .int .u16 ic2, .int .u32 sq2, .slice A2 m c2, .slice D7 64 64] 31 (0, 0))) := j16
      have J17 : Hid (w16.heap[g17]? = some (.cells #[.int .u8 nd2, .int .u16 ic2, .int .u32 sq2, .slice A2 m c2, .slice D7 64 64] 31 (0, 0))) := j17
      clear j13 j14 j15 j16 j17
      obtain ⟨c150, c151, c152, c153, c154⟩ := ev_cells J15.out
      obtain ⟨c160, c161, c162, c163, c164⟩ := ev_cells J16.out
      obtain ⟨c170, c171, c172, c173, c174⟩ := ev_cells J17.out
      have f15 := ev_free J15.out
      have f16 := ev_free J16.out
      have f17 := ev_free J17.out
      have n65 := n56.symm
      have n75 := n57.symm
      have n76 := n67.symm
      go_upto_region 22 with fail
      clear c150 c151 c152 c153 c154 c160 c161 c162 c163 c164 c170 c171 c172 c173 c174 f15 f16 f17
      have n53 : g13 ≠ g15 := by omega
      have n63 : g13 ≠ g16 := by omega
      have n73 : g13 ≠ g17 := by omega
      have ff : ∀ k, k ≠ g15 → k ≠ g16 → k ≠ g17 → (((w16.setCell ⟨g15, 0, none⟩ (.int .u8 12)).setCell ⟨g16, 1, none⟩ (.int .u16 0)).setCell ⟨g17, 2, none⟩ (.int .u32 0)).heap[k]? = w16.heap[k]? := fun k h1 h2 h3 => by
        rw [Below.heap_setCell _ ⟨g17, 2, none⟩ _ _ h3, Below.heap_setCell _ ⟨g16, 1, none⟩ _ _ h2, Below.heap_setCell _ ⟨g15, 0, none⟩ _ _ h1]
      have q13 := (ff g13 n53 n63 n73).trans J13.out
      have q14 := (ff g14 n45 n46 n47).trans J14.out
      have q15 := (Below.heap_setCell _ ⟨g17, 2, none⟩ (.int .u32 0) g15 n57).trans ((Below.heap_setCell _ ⟨g16, 1, none⟩ (.int .u16 0) g15 n56).trans (Go.Joins.block_setCell (i := 0) J15.out (.int .u8 12)))
      have q16 := (Below.heap_setCell _ ⟨g17, 2, none⟩ (.int .u32 0) g16 n67).trans (Go.Joins.block_setCell (i := 1) ((Below.heap_setCell w16 ⟨g15, 0, none⟩ (.int .u8 12) g16 n65).trans J16.out) (.int .u16 0))
      have q17 := Go.Joins.block_setCell (i := 2) ((Below.heap_setCell _ ⟨g16, 1, none⟩ (.int .u16 0) g17 n76).trans ((Below.heap_setCell w16 ⟨g15, 0, none⟩ (.int .u8 12) g17 n75).trans J17.out)) (.int .u32 0)
      have b22 := ((B16.out.setCell (p := ⟨g15, 0, none⟩) hg15 (.int .u8 12)).setCell (p := ⟨g16, 1, none⟩) hg16 (.int .u16 0)).setCell (p := ⟨g17, 2, none⟩) hg17 (.int .u32 0)
      have s65 := Own.off (Own.off (Own.off O16.out J15.out (by decide) 0 (.int .u8 12)) ((Below.heap_setCell w16 ⟨g15, 0, none⟩ (.int .u8 12) g16 n65).trans J16.out) (by decide) 1 (.int .u16 0)) ((Below.heap_setCell _ ⟨g16, 1, none⟩ (.int .u16 0) g17 n76).trans ((Below.heap_setCell w16 ⟨g15, 0, none⟩ (.int .u8 12) g17 n75).trans J17.out)) (by decide) 2 (.int .u32 0)
      clear J13 J14 J15 J16 J17 B16 O16 ff
      generalize ((w16.setCell ⟨g15, 0, none⟩ (.int .u8 12)).setCell ⟨g16, 1, none⟩ (.int .u16 0)).setCell ⟨g17, 2, none⟩ (.int .u32 0) = w22 at *
      have K13 : Hid (w22.heap[g13]? = some (.cells #[.int .u8 nd2, .int .u16 ic2, .int .u32 sq2, .slice A2 m c2, .slice D7 64 64] 31 (0, 0))) := q13
      have K14 : Hid (w22.heap[g14]? = some (.cells #[.int .u8 nd2, .int .u16 ic2, .int .u32 sq2, .slice A2 m c2, .slice D15 65 65] 31 (0, 0))) := q14
      have K15 : Hid (w22.heap[g15]? = some (.cells #[.int .u8 12, .int .u16 ic2, .int .u32 sq2, .slice A2 m c2, .slice D7 64 64] 31 (0, 0))) := q15
      have K16 : Hid (w22.heap[g16]? = some (.cells #[.int .u8 nd2, .int .u16 0, .int .u32 sq2, .slice A2 m c2, .slice D7 64 64] 31 (0, 0))) := q16
      have K17 : Hid (w22.heap[g17]? = some (.cells #[.int .u8 nd2, .int .u16 ic2, .int .u32 0, .slice A2 m c2, .slice D7 64 64] 31 (0, 0))) := q17
      have L13 := (Array.getElem?_eq_some_iff.1 q13).1
      have L14 := (Array.getElem?_eq_some_iff.1 q14).1
      have L15 := (Array.getElem?_eq_some_iff.1 q15).1
      have L16 := (Array.getElem?_eq_some_iff.1 q16).1
      have L17 := (Array.getElem?_eq_some_iff.1 q17).1
      clear q13 q14 q15 q16 q17
      have bb := bb13.trans (b22.mono bb13.size)
      have S22 : Hid (Sp w22 w22.heap.size (some ⟨bs, os, none⟩) m c1 ps) := S13.out.next b22
      have x22 : Si w22 w22.heap.size A2 m c2 X := X13.out.next b22
      have d22 : Sl w22 w22.heap.size D7 64 64 (List.replicate 64 0) := (Own.sv OF.out).next b22
      have d65 : Sl w22 w22.heap.size D15 65 65 (List.replicate 65 0) := Own.sv s65
      have E13 : Hid (EvR w22 (.agg #[.int .u8 nd2, .int .u16 ic2, .int .u32 sq2, .slice A2 m c2, .slice D7 64 64]) ⟨nd2, ic2, sq2, X, List.replicate 64 0⟩) := ⟨_, _, _, _, _, _, rfl, x22, d22⟩
      have E14 : Hid (EvR w22 (.agg #[.int .u8 nd2, .int .u16 ic2, .int .u32 sq2, .slice A2 m c2, .slice D15 65 65]) ⟨nd2, ic2, sq2, X, List.replicate 65 0⟩) := ⟨_, _, _, _, _, _, rfl, x22, d65⟩
      have E15 : Hid (EvR w22 (.agg #[.int .u8 12, .int .u16 ic2, .int .u32 sq2, .slice A2 m c2, .slice D7 64 64]) ⟨12, ic2, sq2, X, List.replicate 64 0⟩) := ⟨_, _, _, _, _, _, rfl, x22, d22⟩
      have E16 : Hid (EvR w22 (.agg #[.int .u8 nd2, .int .u16 0, .int .u32 sq2, .slice A2 m c2, .slice D7 64 64]) ⟨nd2, 0, sq2, X, List.replicate 64 0⟩) := ⟨_, _, _, _, _, _, rfl, x22, d22⟩
      have E17 : Hid (EvR w22 (.agg #[.int .u8 nd2, .int .u16 ic2, .int .u32 0, .slice A2 m c2, .slice D7 64 64]) ⟨nd2, ic2, 0, X, List.replicate 64 0⟩) := ⟨_, _, _, _, _, _, rfl, x22, d22⟩
      have B13 : Hid (eventB ps ⟨nd2, ic2, sq2, X, List.replicate 64 0⟩ = true) := by
        unfold Hid eventB namedB
        simp only [HX.out, List.length_replicate, Bool.true_and, Bool.and_eq_true, decide_eq_true_eq]
        omega
      have B14 : Hid (eventB ps ⟨nd2, ic2, sq2, X, List.replicate 65 0⟩ = false) := by
        unfold Hid eventB
        simp only [List.length_replicate]
        rw [show decide (65 ≤ 64) = false from rfl, Bool.and_false]
      have B15 : Hid (eventB ps ⟨12, ic2, sq2, X, List.replicate 64 0⟩ = false) := by
        unfold Hid eventB namedB
        simp only
        rw [show decide ((12 : Int) < 12) = false from rfl, Bool.false_and, Bool.false_and, Bool.and_false, Bool.false_and]
      have B16 : Hid (eventB ps ⟨nd2, 0, sq2, X, List.replicate 64 0⟩ = false) := by
        unfold Hid eventB namedB
        simp only
        rw [show decide (1 ≤ (0 : Int)) = false from rfl, Bool.and_false, Bool.false_and, Bool.and_false, Bool.false_and]
      have B17 : Hid (eventB ps ⟨nd2, ic2, 0, X, List.replicate 64 0⟩ = false) := by
        unfold Hid eventB namedB
        simp only
        rw [show decide (1 ≤ (0 : Int)) = false from rfl, Bool.and_false, Bool.and_false, Bool.false_and]
      clear x22 d22 d65 s65 b22 bb13 S13 X13 OF HX HXL
      refine wp_row_vals_end 31 [(120, (.slice (some ⟨bs, os, none⟩) m c1)), (121, (.agg #[.int .u8 nd2, .int .u16 ic2, .int .u32 sq2, .slice A2 m c2, .slice D7 64 64])), (122, (.bool true)), (123, (.bool true)), (124, (.slice (some ⟨bs, os, none⟩) m c1)), (125, (.agg #[.int .u8 nd2, .int .u16 ic2, .int .u32 sq2, .slice A2 m c2, .slice D15 65 65])), (126, (.bool false)), (127, (.bool true)), (128, (.bool true)), (129, (.bool true)), (130, (.slice (some ⟨bs, os, none⟩) m c1)), (131, (.agg #[.int .u8 12, .int .u16 ic2, .int .u32 sq2, .slice A2 m c2, .slice D7 64 64])), (132, (.bool false)), (133, (.bool true)), (134, (.bool true)), (135, (.bool true)), (136, (.slice (some ⟨bs, os, none⟩) m c1)), (137, (.agg #[.int .u8 nd2, .int .u16 0, .int .u32 sq2, .slice A2 m c2, .slice D7 64 64])), (138, (.bool false)), (139, (.bool true)), (140, (.bool true)), (141, (.bool true)), (142, (.slice (some ⟨bs, os, none⟩) m c1)), (143, (.agg #[.int .u8 nd2, .int .u16 ic2, .int .u32 0, .slice A2 m c2, .slice D7 64 64])), (144, (.bool false)), (145, (.bool true)), (146, (.bool true)), (147, (.bool true)), (148, (.bool true)), (149, (.bool true)), (8, (.bool true))]
        [[], [], [120, 121], [122], [123], [123], [123, 124, 125], [123, 126], [123, 127], [128], [129], [129], [129, 130, 131], [129, 132], [129, 133], [134], [135], [135], [135, 136, 137], [135, 138], [135, 139], [140], [141], [141], [141, 142, 143], [141, 144], [141, 145], [146], [147], [147, 148], [149]] (by kernel_rfl) ?_ ?_
      rotate_left
      · intro w5 a hb hB
        have h0 : a.tmps.getD 8 undef = .bool true := hB.new 8 (of_decide_eq_true (by kernel_rfl))
        have hd : a.defers = [] := hB.defers
        clear hB
        simp only [List.drop_succ_cons, List.drop_zero]
        refine wpList_nil ?_
        go_wp2
        exact bodyPost_ret (v := .bool true) ((results_tmp Try.results5 a.tmps _ _).trans (by rw [h0])) hd ⟨rfl, bb.trans (hb.mono bb.size)⟩
      simp only [List.take_succ_cons, List.take_zero]
      
      refine ⟨?w4r22g0, ?w4r22g1, ?w4r22g2, ?w4r22g3, ?w4r22g4, ?w4r22g5, ?w4r22g6, ?w4r22g7, ?w4r22g8, ?w4r22g9, ?w4r22g10, ?w4r22g11, ?w4r22g12, ?w4r22g13, ?w4r22g14, ?w4r22g15, ?w4r22g16, ?w4r22g17, ?w4r22g18, ?w4r22g19, ?w4r22g20, ?w4r22g21, ?w4r22g22, ?w4r22g23, ?w4r22g24, ?w4r22g25, ?w4r22g26, ?w4r22g27, ?w4r22g28, ?w4r22g29, ?w4r22g30, trivial⟩
      case w4r22g0 =>
        intro w5 hb
        refine over_nil ?_
        exact post_run (.slice (some ⟨bs, os, none⟩) m c1) rfl (by kernel_rfl) (by kernel_rfl) (by kernel_rfl) (by kernel_rfl) (by kernel_rfl)
      case w4r22g1 =>
        intro w5 hb
        refine over_nil ?_
        obtain ⟨u0, u1, u2, u3, u4⟩ := ev_cells ((hb.block g13 L13).trans K13.out)
        (go_wp2; all_goals (first | exact post_of (by rfl) (by rfl) (Below.refl _ _) (by rfl) | (exfalso; simp_all; done)))
      case w4r22g2 =>
        intro w5 hb
        refine over_vals (ds := [120, 121]) [(.slice (some ⟨bs, os, none⟩) m c1), (.agg #[.int .u8 nd2, .int .u16 ic2, .int .u32 sq2, .slice A2 m c2, .slice D7 64 64])] (by kernel_rfl) ?_
        simp only [putAll, put_lit, List.set_cons_succ, List.set_cons_zero]
        (go_wp2_with (go_at_call 20; go_must (refine (event_of (S22.out.next hb) HR.out (E13.out.next hb) B13.out).mono ?_); rintro r w6 ⟨rfl, b6⟩); all_goals (first | exact post_of (by rfl) (by rfl) (Below.refl _ _) (by rfl) | exact post_of (by rfl) (by rfl) b6 (by rfl) | (exfalso; simp_all; done)))
      case w4r22g3 =>
        intro w5 hb
        refine over_vals (ds := [122]) [(.bool true)] (by kernel_rfl) ?_
        exact post_run (.bool true) rfl (by kernel_rfl) (by kernel_rfl) (by kernel_rfl) (by kernel_rfl) (by kernel_rfl)
      case w4r22g4 =>
        intro w5 hb
        refine over_vals (ds := [123]) [(.bool true)] (by kernel_rfl) ?_
        exact post_run (.slice (some ⟨bs, os, none⟩) m c1) rfl (by kernel_rfl) (by kernel_rfl) (by kernel_rfl) (by kernel_rfl) (by kernel_rfl)
      case w4r22g5 =>
        intro w5 hb
        refine over_vals (ds := [123]) [(.bool true)] (by kernel_rfl) ?_
        obtain ⟨u0, u1, u2, u3, u4⟩ := ev_cells ((hb.block g14 L14).trans K14.out)
        simp only [putAll, put_lit, List.set_cons_succ, List.set_cons_zero]
        (go_wp2; all_goals (first | exact post_of (by rfl) (by rfl) (Below.refl _ _) (by rfl) | (exfalso; simp_all; done)))
      case w4r22g6 =>
        intro w5 hb
        refine over_vals (ds := [123, 124, 125]) [(.bool true), (.slice (some ⟨bs, os, none⟩) m c1), (.agg #[.int .u8 nd2, .int .u16 ic2, .int .u32 sq2, .slice A2 m c2, .slice D15 65 65])] (by kernel_rfl) ?_
        simp only [putAll, put_lit, List.set_cons_succ, List.set_cons_zero]
        (go_wp2_with (go_at_call 20; go_must (refine (event_of (S22.out.next hb) HR.out (E14.out.next hb) B14.out).mono ?_); rintro r w6 ⟨rfl, b6⟩); all_goals (first | exact post_of (by rfl) (by rfl) (Below.refl _ _) (by rfl) | exact post_of (by rfl) (by rfl) b6 (by rfl) | (exfalso; simp_all; done)))
      case w4r22g7 =>
        intro w5 hb
        refine over_vals (ds := [123, 126]) [(.bool true), (.bool false)] (by kernel_rfl) ?_
        exact post_run (.bool true) rfl (by kernel_rfl) (by kernel_rfl) (by kernel_rfl) (by kernel_rfl) (by kernel_rfl)
      case w4r22g8 =>
        intro w5 hb
        refine over_vals (ds := [123, 127]) [(.bool true), (.bool true)] (by kernel_rfl) ?_
        exact post_run (.bool true) rfl (by kernel_rfl) (by kernel_rfl) (by kernel_rfl) (by kernel_rfl) (by kernel_rfl)
      case w4r22g9 =>
        intro w5 hb
        refine over_vals (ds := [128]) [(.bool true)] (by kernel_rfl) ?_
        exact post_run (.bool true) rfl (by kernel_rfl) (by kernel_rfl) (by kernel_rfl) (by kernel_rfl) (by kernel_rfl)
      case w4r22g10 =>
        intro w5 hb
        refine over_vals (ds := [129]) [(.bool true)] (by kernel_rfl) ?_
        exact post_run (.slice (some ⟨bs, os, none⟩) m c1) rfl (by kernel_rfl) (by kernel_rfl) (by kernel_rfl) (by kernel_rfl) (by kernel_rfl)
      case w4r22g11 =>
        intro w5 hb
        refine over_vals (ds := [129]) [(.bool true)] (by kernel_rfl) ?_
        obtain ⟨u0, u1, u2, u3, u4⟩ := ev_cells ((hb.block g15 L15).trans K15.out)
        simp only [putAll, put_lit, List.set_cons_succ, List.set_cons_zero]
        (go_wp2; all_goals (first | exact post_of (by rfl) (by rfl) (Below.refl _ _) (by rfl) | (exfalso; simp_all; done)))
      case w4r22g12 =>
        intro w5 hb
        refine over_vals (ds := [129, 130, 131]) [(.bool true), (.slice (some ⟨bs, os, none⟩) m c1), (.agg #[.int .u8 12, .int .u16 ic2, .int .u32 sq2, .slice A2 m c2, .slice D7 64 64])] (by kernel_rfl) ?_
        simp only [putAll, put_lit, List.set_cons_succ, List.set_cons_zero]
        (go_wp2_with (go_at_call 20; go_must (refine (event_of (S22.out.next hb) HR.out (E15.out.next hb) B15.out).mono ?_); rintro r w6 ⟨rfl, b6⟩); all_goals (first | exact post_of (by rfl) (by rfl) (Below.refl _ _) (by rfl) | exact post_of (by rfl) (by rfl) b6 (by rfl) | (exfalso; simp_all; done)))
      case w4r22g13 =>
        intro w5 hb
        refine over_vals (ds := [129, 132]) [(.bool true), (.bool false)] (by kernel_rfl) ?_
        exact post_run (.bool true) rfl (by kernel_rfl) (by kernel_rfl) (by kernel_rfl) (by kernel_rfl) (by kernel_rfl)
      case w4r22g14 =>
        intro w5 hb
        refine over_vals (ds := [129, 133]) [(.bool true), (.bool true)] (by kernel_rfl) ?_
        exact post_run (.bool true) rfl (by kernel_rfl) (by kernel_rfl) (by kernel_rfl) (by kernel_rfl) (by kernel_rfl)
      case w4r22g15 =>
        intro w5 hb
        refine over_vals (ds := [134]) [(.bool true)] (by kernel_rfl) ?_
        exact post_run (.bool true) rfl (by kernel_rfl) (by kernel_rfl) (by kernel_rfl) (by kernel_rfl) (by kernel_rfl)
      case w4r22g16 =>
        intro w5 hb
        refine over_vals (ds := [135]) [(.bool true)] (by kernel_rfl) ?_
        exact post_run (.slice (some ⟨bs, os, none⟩) m c1) rfl (by kernel_rfl) (by kernel_rfl) (by kernel_rfl) (by kernel_rfl) (by kernel_rfl)
      case w4r22g17 =>
        intro w5 hb
        refine over_vals (ds := [135]) [(.bool true)] (by kernel_rfl) ?_
        obtain ⟨u0, u1, u2, u3, u4⟩ := ev_cells ((hb.block g16 L16).trans K16.out)
        simp only [putAll, put_lit, List.set_cons_succ, List.set_cons_zero]
        (go_wp2; all_goals (first | exact post_of (by rfl) (by rfl) (Below.refl _ _) (by rfl) | (exfalso; simp_all; done)))
      case w4r22g18 =>
        intro w5 hb
        refine over_vals (ds := [135, 136, 137]) [(.bool true), (.slice (some ⟨bs, os, none⟩) m c1), (.agg #[.int .u8 nd2, .int .u16 0, .int .u32 sq2, .slice A2 m c2, .slice D7 64 64])] (by kernel_rfl) ?_
        simp only [putAll, put_lit, List.set_cons_succ, List.set_cons_zero]
        (go_wp2_with (go_at_call 20; go_must (refine (event_of (S22.out.next hb) HR.out (E16.out.next hb) B16.out).mono ?_); rintro r w6 ⟨rfl, b6⟩); all_goals (first | exact post_of (by rfl) (by rfl) (Below.refl _ _) (by rfl) | exact post_of (by rfl) (by rfl) b6 (by rfl) | (exfalso; simp_all; done)))
      case w4r22g19 =>
        intro w5 hb
        refine over_vals (ds := [135, 138]) [(.bool true), (.bool false)] (by kernel_rfl) ?_
        exact post_run (.bool true) rfl (by kernel_rfl) (by kernel_rfl) (by kernel_rfl) (by kernel_rfl) (by kernel_rfl)
      case w4r22g20 =>
        intro w5 hb
        refine over_vals (ds := [135, 139]) [(.bool true), (.bool true)] (by kernel_rfl) ?_
        exact post_run (.bool true) rfl (by kernel_rfl) (by kernel_rfl) (by kernel_rfl) (by kernel_rfl) (by kernel_rfl)
      case w4r22g21 =>
        intro w5 hb
        refine over_vals (ds := [140]) [(.bool true)] (by kernel_rfl) ?_
        exact post_run (.bool true) rfl (by kernel_rfl) (by kernel_rfl) (by kernel_rfl) (by kernel_rfl) (by kernel_rfl)
      case w4r22g22 =>
        intro w5 hb
        refine over_vals (ds := [141]) [(.bool true)] (by kernel_rfl) ?_
        exact post_run (.slice (some ⟨bs, os, none⟩) m c1) rfl (by kernel_rfl) (by kernel_rfl) (by kernel_rfl) (by kernel_rfl) (by kernel_rfl)
      case w4r22g23 =>
        intro w5 hb
        refine over_vals (ds := [141]) [(.bool true)] (by kernel_rfl) ?_
        obtain ⟨u0, u1, u2, u3, u4⟩ := ev_cells ((hb.block g17 L17).trans K17.out)
        simp only [putAll, put_lit, List.set_cons_succ, List.set_cons_zero]
        (go_wp2; all_goals (first | exact post_of (by rfl) (by rfl) (Below.refl _ _) (by rfl) | (exfalso; simp_all; done)))
      case w4r22g24 =>
        intro w5 hb
        refine over_vals (ds := [141, 142, 143]) [(.bool true), (.slice (some ⟨bs, os, none⟩) m c1), (.agg #[.int .u8 nd2, .int .u16 ic2, .int .u32 0, .slice A2 m c2, .slice D7 64 64])] (by kernel_rfl) ?_
        simp only [putAll, put_lit, List.set_cons_succ, List.set_cons_zero]
        (go_wp2_with (go_at_call 20; go_must (refine (event_of (S22.out.next hb) HR.out (E17.out.next hb) B17.out).mono ?_); rintro r w6 ⟨rfl, b6⟩); all_goals (first | exact post_of (by rfl) (by rfl) (Below.refl _ _) (by rfl) | exact post_of (by rfl) (by rfl) b6 (by rfl) | (exfalso; simp_all; done)))
      case w4r22g25 =>
        intro w5 hb
        refine over_vals (ds := [141, 144]) [(.bool true), (.bool false)] (by kernel_rfl) ?_
        exact post_run (.bool true) rfl (by kernel_rfl) (by kernel_rfl) (by kernel_rfl) (by kernel_rfl) (by kernel_rfl)
      case w4r22g26 =>
        intro w5 hb
        refine over_vals (ds := [141, 145]) [(.bool true), (.bool true)] (by kernel_rfl) ?_
        exact post_run (.bool true) rfl (by kernel_rfl) (by kernel_rfl) (by kernel_rfl) (by kernel_rfl) (by kernel_rfl)
      case w4r22g27 =>
        intro w5 hb
        refine over_vals (ds := [146]) [(.bool true)] (by kernel_rfl) ?_
        exact post_run (.bool true) rfl (by kernel_rfl) (by kernel_rfl) (by kernel_rfl) (by kernel_rfl) (by kernel_rfl)
      case w4r22g28 =>
        intro w5 hb
        refine over_vals (ds := [147]) [(.bool true)] (by kernel_rfl) ?_
        simp only [putAll, put_lit, List.set_cons_succ, List.set_cons_zero]
        (go_wp2_with (go_at_call 9; go_must (refine (awake_any _).mono ?_); rintro r w6 ⟨rfl, b6⟩); all_goals (first | exact post_of (by rfl) (by rfl) (Below.refl _ _) (by rfl) | exact post_of (by rfl) (by rfl) b6 (by rfl) | (exfalso; simp_all; done)))
      case w4r22g29 =>
        intro w5 hb
        refine over_vals (ds := [147, 148]) [(.bool true), (.bool true)] (by kernel_rfl) ?_
        exact post_run (.bool true) rfl (by kernel_rfl) (by kernel_rfl) (by kernel_rfl) (by kernel_rfl) (by kernel_rfl)
      case w4r22g30 =>
        intro w5 hb
        refine over_vals (ds := [149]) [(.bool true)] (by kernel_rfl) ?_
        exact post_run (.bool true) rfl (by kernel_rfl) (by kernel_rfl) (by kernel_rfl) (by kernel_rfl) (by kernel_rfl)
    simp only [List.take_succ_cons, List.take_zero]
    refine ⟨?w4k0, ?w4k1, ?w4k2, ?w4k3, ?w4k4, trivial⟩
    case w4k2 =>
      intro w5 hb
      refine over_nil ?_
      go_wp2_with (at_make; go_must (refine wpList_make_full _ rfl _ _ 29 rfl w11.heap.size 5 i0 (.int .u8 0) 1 Try.underlying29 HI.out HZ0.out HZ1.out .i64 .i64 _ _ 64 rfl rfl rfl rfl (by rw [HZ2.out]; omega) (by unfold maxLen; omega) hb.size ?_); intro w6' o6' g6')
      rw [made_u8] at o6'
      exact post_of (by rfl) (by rfl) ((Below.refl _ _).grown g6' (Nat.le_refl _) (by simp)) (by exact ⟨_, rfl, o6'⟩)
    case w4k3 =>
      intro w5 hb
      refine over_val rfl (over_val rfl (over_pred rfl ?_))
      rintro _ ⟨D6, rfl, o6⟩
      refine over_nil ?_
      go_wp2
      exact post_of (by rfl) (by rfl) (Below.refl _ _) (by exact ⟨D6, rfl, o6⟩)
    case w4k4 =>
      intro w5 hb
      refine over_nil ?_
      go_wp2
      exact post_of (by rfl) (by rfl) (below_lit _ _) (by exact ⟨_, rfl, hb.size, heap_alloc_new _ _⟩)
    all_goals
      intro w5 hb
      refine over_nil ?_
      obtain ⟨c0, c1', c2'⟩ := id_cells ((hb.block w.heap.size z11).trans K11.out)
      go_wp2
      exact post_of (by rfl) (by rfl) (Below.refl _ _) (by rfl)
end --walk
end Go.Proofs.Yteofjhoemcjlnaa
