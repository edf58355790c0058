/- Layer 8: SeenAny. -/
import Derived.Test.YtkdlgejkgcojkaaDoorQy
import Derived.Test.YtkdlgejkgcojkaaDoorQl
namespace Go.Proofs.YtkdlgejkgcojkaaDoor
open Go.RowKit
set_option linter.unusedVariables false
theorem infoInt : (Tryd.prog.info? 3).map (fun i => (i.zero, i.size, i.bytes)) = some (some (.int .i64 0), 1, 8) := by kernel_rfl
theorem infoU32 : (Tryd.prog.info? 23).map (fun i => (i.zero, i.size, i.bytes)) = some (some (.int .u32 0), 1, 4) := by kernel_rfl
theorem made_int (n : Nat) : (madeCells (Value.cells (.int .i64 0)) (n * 1)).toList = List.replicate n (.int .i64 0) := by
  apply List.ext_getElem?
  intro i
  by_cases h : i < n
  · simp [madeCells, h, Value.cells, Nat.mod_one]
  · simp [madeCells, h]
theorem pick_len {w : Nat} (hw : 1 ≤ w) (l : List UInt8) : (pickN w l).length ≤ w := (pigeon w _ (pick_nodup hw l) (pick_range hw l)).1
theorem pk_facts {w : Nat} {x : UInt8} (hw : 1 ≤ w) (h64 : w ≤ 64) : 1 ≤ pk w x ∧ pk w x ≤ w ∧ Int.tmod (x.toNat : Int) (w : Int) + 1 = (pk w x : Int) ∧ 0 ≤ Int.tmod (x.toNat : Int) (w : Int) ∧ Int.tmod (x.toNat : Int) (w : Int) ≤ 64 := by
  have h1 := Nat.mod_lt x.toNat (show w > 0 by omega)
  have e : Int.tmod (x.toNat : Int) (w : Int) = ((x.toNat % w : Nat) : Int) := by rw [Int.ofNat_tmod]
  rw [e]
  unfold pk
  omega
theorem OneB.other {w w' : World} {g B : Nat} {v : Value} {t E : TypeId} {A : Option Addr} {n c : Nat} {xs : List Value} (h : OneB w g v t) (ho : Own w B E A n c xs) (hne : E ≠ t) (gr : w.grownBy w' (Value.ownBlock (.slice A n c))) : OneB w' g v t := block_grown h ho hne gr
theorem InB.other {w w' : World} {g B N : Nat} {M : List Nat} {t E : TypeId} {A : Option Addr} {n c : Nat} {xs : List Value} (h : InB w g N M t) (ho : Own w B E A n c xs) (hne : E ≠ t) (gr : w.grownBy w' (Value.ownBlock (.slice A n c))) : InB w' g N M t := by
  obtain ⟨cs, h1, r⟩ := h
  exact ⟨cs, block_grown h1 ho hne gr, r⟩
theorem InB.own {w : World} {g B N i : Nat} {M : List Nat} {t E : TypeId} {A : Option Addr} {n c : Nat} {xs : List Value} {u : Value} (h : InB w g N M t) (ho : Own w B E A n c xs) (hne : E ≠ t) : Own (w.setCell ⟨g, i, none⟩ u) B E A n c xs := by
  obtain ⟨cs, h1, r⟩ := h
  exact Own.off ho h1 hne i u
theorem rowT_R {wn : Nat} {M : List Nat} {inc : Int} (hi : 1 ≤ inc ∧ inc ≤ 65535) (hw : wn ≤ 64) (h : Fine wn M) : rowR (rowT inc M) := by
  obtain ⟨hR, hp, _⟩ := row_bounds hw h M.length
  rw [List.take_length] at hR hp
  have hb := hR.lt hw
  unfold rowT
  split
  · exact rowR_zero (by decide)
  · exact ⟨⟨by show 0 ≤ inc; omega, hi.2⟩, ⟨by simp, by show ((allN M).1 : Int) ≤ _; omega⟩, by simp, by show ((allN M).2 : Int) ≤ _; omega⟩
theorem rowT_full {wn : Nat} {M : List Nat} {inc : Int} (hw1 : 1 ≤ wn) (hw : wn ≤ 64) (h : Fine wn M) (he : M.length = wn) : rowT inc M = (inc, (wn : Int), 0) := by
  unfold rowT
  rw [if_neg (fun e => by rw [e] at he; simp at he; omega), allN_full hw M h.nodup h.range he]; rfl
theorem rowT_turn {wn : Nat} {M : List Nat} {inc : Int} (hw : wn ≤ 64) (h : Fine wn M) (k : Nat) : rowT inc (M.drop k ++ M.take k) = rowT inc M := by
  have e : M.drop k ++ M.take k = [] ↔ M = [] := by
    have hp : (M.drop k ++ M.take k).Perm M := List.perm_append_comm.trans (by rw [List.take_append_drop])
    constructor
    · intro h0; rw [h0] at hp; exact hp.symm.eq_nil
    · intro h0; subst h0; simp
  unfold rowT
  rw [allN_turn hw M h.nodup h.range k]
  by_cases h0 : M = []
  · rw [if_pos (e.2 h0), if_pos h0]
  · rw [if_neg (fun h => h0 (e.1 h)), if_neg h0]
abbrev tyM (n0 : Nat) (M : List Nat) (n : Nat) : Tyq := .own (fun v w => ∃ A c, v = .slice A n c ∧ Own w n0 23 A n c (ML M)) (fun _ _ _ ⟨A, c, h, o⟩ hs => ⟨A, c, h, Ows.same o (fun g hg => hs g (by rw [h]; cases A with | none => cases hg | some a => exact hg))⟩)
abbrev tyRow (p : Row3) : Tyq := .own (fun v w => ∃ b, v = .pointer (some ⟨b, 0, none⟩) ∧ RowBlk w b p) (fun _ _ _ ⟨b, h, o⟩ hs => ⟨b, h, (hs b (by rw [h]; rfl)).trans o⟩)
theorem ownB_slice {A : Option Addr} {n c : Nat} : ownB (.slice A n c) = Value.ownBlock (.slice A n c) := by cases A <;> rfl
theorem ownB_to {A : Option Addr} {n c g : Nat} (h : ownB (.slice A n c) = some g) : Value.ownBlock (.slice A n c) = some g := by rw [← ownB_slice]; exact h
theorem ownB_of {A : Option Addr} {n c g : Nat} (h : Value.ownBlock (.slice A n c) = some g) : ownB (.slice A n c) = some g := by rw [ownB_slice]; exact h
theorem lit_nearQ {o : Obj} (w : World) (g : Nat) (h : (some w.heap.size : Option Nat) = some g) : w.heap.size ≤ g ∧ g < (w.alloc o).heap.size := by
  injection h with h; subst h; exact ⟨Nat.le_refl _, by simp⟩
theorem ptr_nearQ {o : Obj} (w : World) (g : Nat) (h : (some w.heap.size : Option Nat) = some g) : w.heap.size ≤ g ∧ g < (w.alloc o).heap.size := lit_nearQ w g h
set_option maxRecDepth 100000 in
set_option maxHeartbeats 20000000 in
theorem any_walk (inc : Int) (A : Option Addr) (n c : Nat) (l : List UInt8) (turn v : Int) (w : World) (hinc : 0 ≤ inc ∧ inc ≤ 65535) (hturn : 0 ≤ turn ∧ turn ≤ 255) (hv : 0 ≤ v ∧ v ≤ 255) (hT : Tab w) (hs : Sl w w.heap.size A n c l) :
    Calls Tryd.prog 5 #[.int .u16 inc, .slice A n c, .int .u8 turn, .int .u8 v] w fun e w' => e = .returned (.bool true) ∧ Below w.heap.size w w' := by
  obtain ⟨t0, t1⟩ := hturn
  obtain ⟨in0, in1⟩ := hinc
  have HL : Hid (n = l.length) := sl_len hs
  have hm := hs.max
  have hc := hs.cap
  unfold maxLen at hm
  have HT := Lib.hid hT
  have HV := Lib.hid hv
  have SL := Lib.hid hs
  have hs0 := hs
  obtain ⟨wd, HW⟩ : ∃ wd, Hid (1 + v % 64 = wd) := ⟨_, rfl⟩
  obtain ⟨f0, f1⟩ : 1 ≤ wd ∧ wd ≤ 64 := by rw [← HW.out]; exact win_fit hv
  have B := Lib.hid (below_lit w (.cells #[.int .u16 inc] 22))
  have KI := Lib.hid (OneB.new w (.int .u16 inc) 22)
  replace SL := Lib.hid (SL.out.next (below_lit w (.cells #[.int .u16 inc] 22)))
  clear hT hv hs
  by_cases hz : inc = 0
  · have hz' : (inc == 0) = true := by simpa using hz
    clear hz
    go_enter Tryd.func5, Tryd.ntmps5
    go_upto_region 1 with fail
    generalize w.alloc (.cells #[.int .u16 inc] 22) = w1 at *
    have LI : Hid (w.heap.size < w1.heap.size) := KI.out.lt
    obtain ⟨gi, hgi⟩ : ∃ g, w.heap.size = g := ⟨_, rfl⟩
    rw [hgi] at KI LI ⊢
    have HGI := Lib.hid hgi
    clear hgi
    have pKI := KI.out.cell
    go_wp2_with fail
    have hc := awake_any w1 (HT.out.next B.out)
    refine hc.mono ?_
    clear hc
    clear pKI
    rintro e w2 ⟨rfl, b5⟩
    replace KI := Lib.hid (KI.out.next b5)
    replace SL := Lib.hid (SL.out.next b5)
    replace B := Lib.hid (thn B.out b5)
    clear b5
    go_wp2
    go_ret
    exact ⟨rfl, B.out⟩
  have hz' : (inc == 0) = false := by simpa using hz
  have HINC : Hid (1 ≤ inc ∧ inc ≤ 65535) := by unfold Hid; omega
  clear hz
  obtain ⟨wn, hwn⟩ : ∃ wn : Nat, wd = (wn : Int) := ⟨wd.toNat, by omega⟩
  have HWN := Lib.hid hwn
  have HW1 : Hid (1 ≤ wn) := by unfold Hid; omega
  have HW2 : Hid (wn ≤ 64) := by unfold Hid; omega
  obtain ⟨N, hN⟩ : ∃ N : Nat, wd + 1 = (N : Int) := ⟨wn + 1, by omega⟩
  have HN : Hid (N = wn + 1) := by unfold Hid; omega
  have hN8 : N ≤ 65 := by omega
  clear hwn
  go_enter Tryd.func5, Tryd.ntmps5
  go_upto_region 1 with fail
  generalize w.alloc (.cells #[.int .u16 inc] 22) = w1 at *
  have LI : Hid (w.heap.size < w1.heap.size) := KI.out.lt
  obtain ⟨gi, hgi⟩ : ∃ g, w.heap.size = g := ⟨_, rfl⟩
  rw [hgi] at KI LI ⊢
  have HGI := Lib.hid hgi
  clear hgi
  have pKI := KI.out.cell
  go_wp2_with fail
  have hc := win_any v w1 HV.out
  rw [HW.out] at hc
  refine hc.mono ?_
  clear hc
  clear pKI
  rintro e w2 ⟨rfl, b5⟩
  replace KI := Lib.hid (KI.out.next b5)
  replace SL := Lib.hid (SL.out.next b5)
  replace B := Lib.hid (thn B.out b5)
  clear b5
  have pKI := KI.out.cell
  go_upto_region 4 with fail
  clear pKI
  have hbl := below_lit w2 (.cells #[.int .i64 wd] 3)
  replace KI := Lib.hid (KI.out.next hbl)
  replace SL := Lib.hid (SL.out.next hbl)
  replace B := Lib.hid (thn B.out hbl)
  clear hbl
  have KW : Hid (OneB (w2.alloc (.cells #[.int .i64 wd] 3)) w2.heap.size (.int .i64 wd) 3) := OneB.new w2 _ _
  generalize w2.alloc (.cells #[.int .i64 wd] 3) = w3 at *
  have LW0 := KW.out.lt
  obtain ⟨gw, hgw⟩ : ∃ g, w2.heap.size = g := ⟨_, rfl⟩
  rw [hgw] at KW LW0 ⊢
  have HGW := Lib.hid hgw
  clear hgw
  have BB3 := B
  obtain ⟨i0, hi, hz0, hz1, hz2⟩ := info_parts infoInt
  have pKI := KI.out.cell
  have pKW := KW.out.cell
  go_upto_region 5 with (at_make; go_must (refine wpList_make_full _ rfl _ _ 43 rfl w3.heap.size 3 i0 (.int .i64 0) 1 Tryd.underlying43 hi hz0 hz1 .i64 .i64 _ _ N rfl rfl rfl rfl (by rw [hz2]; omega) (by unfold maxLen; omega) (Nat.le_refl _) ?_); intro w4 o4 g4)
  rw [made_int] at o4
  clear pKI pKW
  have hb4 : Below w3.heap.size w3 w4 := (Below.refl _ _).grown g4 (Nat.le_refl _) (by simp)
  have KM : Hid (InB w4 w3.heap.size N [] 3) := InB.made o4 (by have := HN.out; omega)
  clear o4 g4 hi hz0 hz1 hz2
  replace KI := Lib.hid (KI.out.next hb4)
  replace SL := Lib.hid (SL.out.next hb4)
  replace KW := Lib.hid (KW.out.next hb4)
  replace B := Lib.hid (thn B.out hb4)
  clear hb4
  have LM0 : Hid (w.heap.size ≤ w3.heap.size) := BB3.out.size
  obtain ⟨gm, hgm⟩ : ∃ g, w3.heap.size = g := ⟨_, rfl⟩
  rw [hgm] at KM LW0 LM0 ⊢
  have n1 : gm ≠ gw := by omega
  have n2 : gw ≠ gm := n1.symm
  have n3 : gm ≠ gi := fun e => by subst e; obtain ⟨cs, h1, _⟩ := KM.out; have h2 := KI.out; unfold OneB at h2; rw [h1] at h2; injection h2 with h2; injection h2 with _ h2; cases h2
  have n4 : gi ≠ gm := n3.symm
  have LM : Hid (w.heap.size ≤ gm) := by have h := LM0.out; unfold Hid; omega
  clear hgm LW0
  have SL0 := Lib.hid hs0
  clear hs0 BB3 LM0
  go_wp2
  go_loopw [11, 31] (fun lv i wr => ∃ (j m : Nat) (A2 : Option Addr) (c2 : Nat) (M : List Nat), j ≤ n ∧ m ≤ 64 ∧ lv = .slice A2 m c2 ∧ i = .int .i64 j ∧ Hid (pickN wn (l.take j) = M) ∧ Hid (m = M.length) ∧ Hid (Own wr w.heap.size 23 A2 m c2 (ML M)) ∧ Hid (InB wr gm N M 3) ∧ Hid (OneB wr gi (.int .u16 inc) 22) ∧ Hid (OneB wr gw (.int .i64 wd) 3) ∧ Hid (Below w.heap.size w wr)) (fun _ i _ => n - (intOf i).toNat)
  case atStart => exact ⟨0, 0, none, 0, [], Nat.zero_le _, Nat.zero_le _, rfl, rfl, rfl, rfl, Own.nil _ _ _, KM, KI, KW, B⟩
  case round =>
    clear KM KI KW B SL
    obtain ⟨j, m, A2, c2, M, hj, hm64, rfl, rfl, HM, HMl, SO, KM, KI, KW, B⟩ := hrel
    have i0 : (0 : Int) ≤ (j : Int) := by omega
    have S0 := Lib.hid (SL0.out.below B.out)
    by_cases hlt : j < n
    · have i1 : (j : Int) < (n : Int) := by omega
      obtain ⟨b, off, x, rfl, hb, hx, e0⟩ := sl_at S0.out hlt
      have HS2 := Lib.hid (pick_succ (w := wn) hx)
      rw [HM.out] at HS2
      obtain ⟨p1, p2, p3, p4, p5⟩ := pk_facts (x := x) HW1.out HW2.out
      rw [← HWN.out] at p3 p4 p5
      have hx255 : x.toNat ≤ 255 := by have := x.toNat_lt; omega
      obtain ⟨pz, hpz⟩ : ∃ pz : Int, (x.toNat : Int) = pz := ⟨_, rfl⟩
      have pz0 : 0 ≤ pz := by omega
      have pz1 : pz ≤ 255 := by omega
      rw [hpz] at p3 p4 p5 e0
      obtain ⟨mz, hmz⟩ : ∃ mz : Int, Int.tmod pz wd = mz := ⟨_, rfl⟩
      rw [hmz] at p3 p4 p5
      obtain ⟨k, hk⟩ : ∃ k : Nat, pk wn x = k := ⟨_, rfl⟩
      rw [hk] at p1 p2 p3 HS2
      have p6 : 1 + mz = (k : Int) := by omega
      have hkN : k < N := by have := HN.out; omega
      have hkN' : (k : Int) < (N : Int) := by omega
      have hk0 : (0 : Int) ≤ (k : Int) := by omega
      have hk64 : (k : Int) ≤ 64 := by omega
      have hwz : (wd == 0) = false := by simp; omega
      have cw := KW.out.cell
      have cm := KM.out.cell hkN
      clear hx hb p3 hk hpz hx255
      by_cases hin : k ∈ M
      · rw [if_pos hin] at cm HS2
        clear hin
        go_wp2
        go_roundw
        case rel => exact ⟨j + 1, m, A2, c2, M, by omega, hm64, rfl, by go_num, HS2, HMl, SO, KM, KI, KW, B⟩
        case measure => simp [intOf]; omega
      · rw [if_neg hin] at cm HS2
        have HP : Hid ((M ++ [k]).length ≤ wn) := by
          have h1 := HS2.out; have h2 := pick_len HW1.out (l.take (j + 1)); rw [h1] at h2; exact h2
        have hm1 : m + 1 ≤ 64 := by have h1 := HP.out; have h2 := HMl.out; have h3 := HW2.out; rw [List.length_append] at h1; simp at h1; omega
        clear hin
        have fm := KM.out.free
        go_upto_region 12 with fail
        have hgw := grown_set wr gm k (.int .i64 1)
        have SO2 := Lib.hid (KM.out.own (i := k) (u := .int .i64 1) SO.out (by decide))
        have KM2 := Lib.hid (KM.out.set hkN)
        have KI2 := Lib.hid (KI.out.grown hgw n4)
        have KW2 := Lib.hid (KW.out.grown hgw n2)
        have B2' := Lib.hid (belowG B.out hgw B.out.size LM.out)
        clear hgw fm cw cm e0 S0 SO KM KI KW
        clear B
        generalize wr.setCell ⟨gm, k, none⟩ (.int .i64 1) = wa at *
        go_wp2_with (at_builtin; go_must (refine wpList_app rfl _ _ 44 rfl Tryd.underlying44 infoU32 rfl rfl (Own.below SO2.out (below_lit _ _)) rfl (Sv.one _ _ _) (fun u hu => by simp at hu; subst hu; rfl) (by omega) (by decide) (Nat.le_trans B2'.out.size (below_lit _ _).size) ?_); intro A3 c3 w5 o5 g5)
        have hbl := below_lit wa (.cells #[.int .u32 (k : Int)] 23)
        have OB := Own.below SO2.out hbl
        have KM3 := Lib.hid ((KM2.out.next hbl).other OB (by decide) g5)
        have KI3 := Lib.hid ((KI2.out.next hbl).other OB (by decide) g5)
        have KW3 := Lib.hid ((KW2.out.next hbl).other OB (by decide) g5)
        have B3 := Lib.hid ((B2'.out.alloc B2'.out.size _).grown g5 (Nat.le_trans B2'.out.size hbl.size) OB.lt)
        have eML : ML M ++ [.int .u32 (k : Int)] = ML (M ++ [k]) := by simp [ML]
        rw [eML] at o5
        have SO3 := Lib.hid o5
        have HM3 : Hid (m + 1 = (M ++ [k]).length) := by have := HMl.out; unfold Hid; simp; omega
        clear hbl OB o5 g5 SO2 KM2 KI2 KW2 B2' eML
        go_roundw
        case rel => exact ⟨j + 1, m + 1, A3, c3, M ++ [k], by omega, hm1, rfl, by go_num, HS2, HM3, SO3, KM3, KI3, KW3, B3⟩
        case measure => simp [intOf]; omega
    · obtain rfl : j = n := by omega
      rw [List.take_of_length_le (by rw [← HL.out]; exact Nat.le_refl _)] at HM
      have HF : Hid (Fine wn M) := by have h1 := pick_nodup HW1.out l; have h2 := pick_range HW1.out l; rw [HM.out] at h1 h2; exact ⟨h1, h2⟩
      have hmw : m ≤ wn := by have h1 := pick_len HW1.out l; rw [HM.out] at h1; have := HMl.out; omega
      obtain ⟨K, hK, hK0, hK1⟩ : ∃ K : Int, Int.tmod turn ((m : Int) + 1) = K ∧ 0 ≤ K ∧ K ≤ m := ⟨_, rfl, Int.tmod_nonneg _ t0, by have := Int.tmod_lt_of_pos turn (b := (m : Int) + 1) (by omega); omega⟩
      obtain ⟨k, rfl⟩ := Int.eq_ofNat_of_zero_le hK0
      have hkm : k ≤ m := by omega
      have hz1 : (((m : Int) + 1) == 0) = false := by simp; omega
      have SM : Hid (Sm wr wr.heap.size A2 m c2 M) := Own.sv SO.out
      have hmx := SM.out.max
      have hcp := SM.out.cap
      unfold maxLen at hmx
      have hup := fun w' : World => run_upto (P := Tryd.prog) (w := w') (A := A2) (n := m) (c := c2) (hi := k) 44 23 Tryd.underlying44 rfl 1 (fun w' => Tryd.sizeOf23 w') .i64 (k : Int) rfl (by omega)
      obtain ⟨A5, htl, s2⟩ := SM.out.tail (lo := k) hkm 44 23 Tryd.underlying44 rfl (fun w' => Tryd.sizeOf23 w') .i64 (k : Int) rfl
      have s1 := SM.out.upto hkm
      rw [← ML_drop] at s2
      rw [← ML_take] at s1
      have S1 := Lib.hid s1.sn
      have S2 := Lib.hid s2.sn
      obtain ⟨ra, HRA⟩ : ∃ r, Hid (rowT inc M = r) := ⟨_, rfl⟩
      have HRR := rowT_R HINC.out HW2.out HF.out
      have HTU := Lib.hid (rowT_turn (inc := inc) HW2.out HF.out k)
      have HFT := Lib.hid (HF.out.turn k)
      rw [HRA.out] at HRR HTU
      obtain ⟨_, ⟨rp0, rp1⟩, rb0, rb1⟩ := HRR
      have heq := eq_refl ra
      have eg : ∀ args (w : World), (callFunc 20 args).run Tryd.prog w = .ok (.enter 20 args) w := enters_of Tryd.func20 (by kernel_rfl) rfl
      clear s1 s2 SO KM hK0 hK1
      go_wp2_with fail
      have hc2 := taken_any inc wd wn gi gw A2 m c2 M wr HINC.out HW1.out HW2.out HWN.out KI.out KW.out (HT.out.next B.out) HF.out SM.out
      rw [HRA.out] at hc2
      refine hc2.mono ?_
      clear hc2
      rintro e w51 ⟨rfl, b5⟩
      replace KI := Lib.hid (KI.out.next b5)
      replace KW := Lib.hid (KW.out.next b5)
      replace SM := Lib.hid (SM.out.next b5)
      replace S1 := Lib.hid (S1.out.next b5)
      replace S2 := Lib.hid (S2.out.next b5)
      replace B := Lib.hid (thn B.out b5)
      clear b5
      go_wp2
      have hli := KI.out.lt
      have hlw := KW.out.lt
      have hbl := below_lit w51 (.cells #[.int .u16 ra.1, .int .u32 ra.2.1, .int .u64 ra.2.2] 26)
      replace KI := Lib.hid (KI.out.next hbl)
      replace KW := Lib.hid (KW.out.next hbl)
      replace SM := Lib.hid (SM.out.next hbl)
      replace S1 := Lib.hid (S1.out.next hbl)
      replace S2 := Lib.hid (S2.out.next hbl)
      replace B := Lib.hid (thn B.out hbl)
      clear hbl
      have KA : Hid (RowBlk (w51.alloc (.cells #[.int .u16 ra.1, .int .u32 ra.2.1, .int .u64 ra.2.2] 26)) w51.heap.size ra) := RowBlk.new w51 ra
      generalize w51.alloc (.cells #[.int .u16 ra.1, .int .u32 ra.2.1, .int .u64 ra.2.2] 26) = w52 at *
      obtain ⟨ga, hga⟩ : ∃ g, w51.heap.size = g := ⟨_, rfl⟩
      rw [hga] at KA hli hlw ⊢
      clear hga
      have a1 : ga ≠ gw := by omega
      have a2 : gw ≠ ga := a1.symm
      clear hli hlw
      have BL : Hid (w.heap.size ≤ w52.heap.size) := B.out.size
      have LAlt := KA.out.lt
      have LWlt := KW.out.lt
      refine wp_region_own_late 15 13 _ _ [(68, .val (.func (.func 20) #[] #[.pointer (some ⟨gi, 0, none⟩), .pointer (some ⟨gw, 0, none⟩)])), (69, tyM w52.heap.size [] 0), (70, .val (.slice A2 m c2)), (71, .val (.int .i64 (k : Int))), (72, .val (.slice A5 (m - k) (c2 - k))), (73, tyM w52.heap.size (M.drop k) (m - k)), (74, .val (.slice A2 m c2)), (75, .val (.int .i64 (k : Int))), (76, .val (.slice A2 k c2)), (77, tyM w52.heap.size (M.drop k ++ M.take k) m), (78, .val (.tuple #[(.agg #[.int .u16 ra.1, .int .u32 ra.2.1, .int .u64 ra.2.2]), .bool true])), (67, .val (.tuple #[(.agg #[.int .u16 ra.1, .int .u32 ra.2.1, .int .u64 ra.2.2]), .bool true])), (79, .val (.agg #[.int .u16 ra.1, .int .u32 ra.2.1, .int .u64 ra.2.2])), (80, .val (.bool true)), (19, tyRow (0, 0, 0))]
        [[], [], [], [], [], [69], [], [], [], [73], [], [], [], [], []] [[], [], [], [], [70, 71], [69, 72], [], [], [74, 75], [73, 76], [68, 77], [78], [67], [67], []] (by kernel_rfl) (by kernel_rfl) (by kernel_rfl) rfl rfl ?_ ?_ ?_
      · simp only [List.take_succ_cons, List.take_zero]
        refine ⟨?g0, ?g1, ?g2, ?g3, ?g4, ?g5, ?g6, ?g7, ?g8, ?g9, ?g10, ?g11, ?g12, ?g13, ?g14, trivial⟩
        case g0 =>
          intro w5 hb
          have hsz := hb.size
          refine overQ_nil ?_
          go_wp2
          exact postQ_of (by rfl) (by rfl) hsz (Below.refl _ _) (by rfl) (by exact fun _ h => False.elim h)
        case g1 =>
          intro w5 hb
          have hsz := hb.size
          refine overQ_nil ?_
          go_wp2
          exact postQ_of (by rfl) (by rfl) hsz (below_lit _ _) (by exact ⟨_, _, rfl, (Ows.lit0 w5 23 1).mono hsz⟩) (by exact fun g h => lit_nearQ w5 g h)
        case g2 =>
          intro w5 hb
          have hsz := hb.size
          refine overQ_nil ?_
          go_wp2
          exact postQ_of (by rfl) (by rfl) hsz (Below.refl _ _) (by rfl) (by exact fun _ h => False.elim h)
        case g3 =>
          intro w5 hb
          have hsz := hb.size
          refine overQ_nil ?_
          go_wp2
          exact postQ_of (by rfl) (by rfl) hsz (Below.refl _ _) (by rfl) (by exact fun _ h => False.elim h)
        case g4 =>
          intro w5 hb
          have hsz := hb.size
          refine overQ_val rfl ?_
          refine overQ_val rfl ?_
          refine overQ_nil ?_
          go_wp2
          exact postQ_of (by rfl) (by rfl) hsz (Below.refl _ _) (by rfl) (by exact fun _ h => False.elim h)
        case g5 =>
          intro w5 hb
          have hsz := hb.size
          refine overQ_own rfl ?_
          rintro _ ⟨A6, c6, rfl, o6⟩ near
          refine overQ_val rfl ?_
          refine overQ_nil ?_
          have hm8 : (0 + (m - k)) * 4 ≤ 140737488355328 := by omega
          go_wp2_with (at_builtin; go_must (refine wpList_appsy rfl _ _ 44 rfl Tryd.underlying44 infoU32 rfl (by decide) rfl o6 rfl (S2.out.next hb) (ML_one _) hm8 (by decide) hsz ?_); intro A7 c7 w6 o7 g6 hat)
          rw [show ML [] = [] from rfl, List.nil_append] at o7
          simp only [Nat.zero_add] at o7 hat ⊢
          have near7 := Ows.near o7
          exact postQ_grown (by rfl) (by rfl) ((Below.refl w52.heap.size w5).grown g6 hsz (fun q hq => (near q (by rw [ownB_slice]; exact hq)).1)) (by exact fun q hq hno => g6.block q hq (fun e => hno ⟨69, List.mem_singleton.2 rfl, ownB_of e.symm⟩)) (by exact ⟨A7, c7, rfl, o7⟩) (by exact fun q hq => ⟨(hat q (ownB_to hq)).imp (fun h => ⟨69, List.mem_singleton.2 rfl, ownB_of h⟩) id, (near7 q (ownB_to hq)).2⟩)
        case g6 =>
          intro w5 hb
          have hsz := hb.size
          refine overQ_nil ?_
          go_wp2
          exact postQ_of (by rfl) (by rfl) hsz (Below.refl _ _) (by rfl) (by exact fun _ h => False.elim h)
        case g7 =>
          intro w5 hb
          have hsz := hb.size
          refine overQ_nil ?_
          go_wp2
          exact postQ_of (by rfl) (by rfl) hsz (Below.refl _ _) (by rfl) (by exact fun _ h => False.elim h)
        case g8 =>
          intro w5 hb
          have hsz := hb.size
          refine overQ_val rfl ?_
          refine overQ_val rfl ?_
          refine overQ_nil ?_
          go_wp2
          exact postQ_of (by rfl) (by rfl) hsz (Below.refl _ _) (by rfl) (by exact fun _ h => False.elim h)
        case g9 =>
          intro w5 hb
          have hsz := hb.size
          refine overQ_own rfl ?_
          rintro _ ⟨A6, c6, rfl, o6⟩ near
          refine overQ_val rfl ?_
          refine overQ_nil ?_
          have hm8 : (m - k + (k)) * 4 ≤ 140737488355328 := by omega
          go_wp2_with (at_builtin; go_must (refine wpList_appsy rfl _ _ 44 rfl Tryd.underlying44 infoU32 rfl (by decide) rfl o6 rfl (S1.out.next hb) (ML_one _) hm8 (by decide) hsz ?_); intro A7 c7 w6 o7 g6 hat)
          rw [← ML_append] at o7
          have enk : m - k + k = m := by omega
          rw [enk] at o7 hat
          have near7 := Ows.near o7
          exact postQ_grown (by rfl) (by rfl) ((Below.refl w52.heap.size w5).grown g6 hsz (fun q hq => (near q (by rw [ownB_slice]; exact hq)).1)) (by exact fun q hq hno => g6.block q hq (fun e => hno ⟨73, List.mem_singleton.2 rfl, ownB_of e.symm⟩)) (by exact ⟨A7, c7, rfl, o7⟩) (by exact fun q hq => ⟨(hat q (ownB_to hq)).imp (fun h => ⟨73, List.mem_singleton.2 rfl, ownB_of h⟩) id, (near7 q (ownB_to hq)).2⟩)
        case g10 =>
          intro w5 hb
          have hsz := hb.size
          refine overQ_val rfl ?_
          refine overQ_own rfl ?_
          rintro _ ⟨A6, c6, rfl, o6⟩ near
          refine overQ_nil ?_
          go_wp2_with fail
          have hc2 := taken_any inc wd wn gi gw A6 m c6 (M.drop k ++ M.take k) w5 HINC.out HW1.out HW2.out HWN.out (KI.out.next hb) (KW.out.next hb) (HT.out.next (thn B.out hb)) HFT.out (Own.sv o6)
          rw [HTU.out] at hc2
          refine hc2.mono ?_
          clear hc2
          rintro e w6 ⟨rfl, b6⟩
          go_wp2
          exact postQ_of (by rfl) (by rfl) hsz b6 (by rfl) (by exact fun _ h => False.elim h)
        case g11 =>
          intro w5 hb
          have hsz := hb.size
          refine overQ_val rfl ?_
          refine overQ_nil ?_
          go_wp2
          exact postQ_of (by rfl) (by rfl) hsz (Below.refl _ _) (by rfl) (by exact fun _ h => False.elim h)
        case g12 =>
          intro w5 hb
          have hsz := hb.size
          refine overQ_val rfl ?_
          refine overQ_nil ?_
          go_wp2
          exact postQ_of (by rfl) (by rfl) hsz (Below.refl _ _) (by rfl) (by exact fun _ h => False.elim h)
        case g13 =>
          intro w5 hb
          have hsz := hb.size
          refine overQ_val rfl ?_
          refine overQ_nil ?_
          go_wp2
          exact postQ_of (by rfl) (by rfl) hsz (Below.refl _ _) (by rfl) (by exact fun _ h => False.elim h)
        case g14 =>
          intro w5 hb
          have hsz := hb.size
          refine overQ_nil ?_
          go_wp2
          exact postQ_of (by rfl) (by rfl) hsz (below_lit _ _) (by exact ⟨_, rfl, RowBlk.new w5 (0, 0, 0)⟩) (by exact fun g h => ptr_nearQ w5 g h)
      · intro v6 af hb hB
        obtain ⟨gb, hgb, ob⟩ : ∃ b, af.tmps.getD 19 undef = .pointer (some ⟨b, 0, none⟩) ∧ RowBlk v6 b (0, 0, 0) := hB.new 19 (of_decide_eq_true (by kernel_rfl)) (of_decide_eq_true (by kernel_rfl))
        have lb : w52.heap.size ≤ gb := (hB.base 19 (of_decide_eq_true (by kernel_rfl)) (of_decide_eq_true (by kernel_rfl)) gb (by show ownB (af.tmps.getD 19 undef) = some gb; rw [hgb]; rfl)).1
        have ef := behindQ_ds (ds := [68, 69, 70, 71, 72, 73, 74, 75, 76, 77, 78, 67, 79, 80, 19]) hB (by kernel_rfl)
        have h79 : af.tmps.getD 79 undef = (.agg #[.int .u16 ra.1, .int .u32 ra.2.1, .int .u64 ra.2.2]) := hB.new 79 (of_decide_eq_true (by kernel_rfl)) (of_decide_eq_true (by kernel_rfl))
        have h80 : af.tmps.getD 80 undef = (.bool true) := hB.new 80 (of_decide_eq_true (by kernel_rfl)) (of_decide_eq_true (by kernel_rfl))
        clear hB
        rw [ef]
        simp only [fill, hgb, h79, h80]
        generalize af.tmps.getD 68 undef = y68
        generalize af.tmps.getD 69 undef = y69
        generalize af.tmps.getD 70 undef = y70
        generalize af.tmps.getD 71 undef = y71
        generalize af.tmps.getD 72 undef = y72
        generalize af.tmps.getD 73 undef = y73
        generalize af.tmps.getD 74 undef = y74
        generalize af.tmps.getD 75 undef = y75
        generalize af.tmps.getD 76 undef = y76
        generalize af.tmps.getD 77 undef = y77
        generalize af.tmps.getD 78 undef = y78
        generalize af.tmps.getD 67 undef = y67
        clear ef hgb h79 h80
        simp only [List.drop_succ_cons, List.drop_zero, put_lit, List.set_cons_succ, List.set_cons_zero]
        replace KW := Lib.hid (KW.out.next hb)
        replace KA := Lib.hid (KA.out.next hb)
        replace B := Lib.hid (thn B.out hb)
        clear hb S1 S2 SM KI htl hup eg
        have KB := Lib.hid ob
        have a3 : ga ≠ gb := by omega
        have a4 : gb ≠ ga := a3.symm
        have a5 : gw ≠ gb := by omega
        have a6 : gb ≠ gw := a5.symm
        have LB : Hid (w.heap.size ≤ gb) := Nat.le_trans BL.out lb
        clear ob lb
        obtain ⟨pKA, qKA, rKA⟩ := KA.out.cells
        obtain ⟨pKB, qKB, rKB⟩ := KB.out.cells
        have pKW := KW.out.cell
        have fKB := KB.out.free
        go_upto_region 18 with fail
        clear pKA qKA rKA pKB qKB rKB pKW fKB
        have hgw := grown_set3 v6 gb (.int .u16 ra.1) (.int .u32 ra.2.1) (.int .u64 ra.2.2)
        replace KB := Lib.hid (KB.out.store ra)
        replace KA := Lib.hid (KA.out.grown hgw a3)
        replace KW := Lib.hid (KW.out.grown hgw a5)
        replace B := Lib.hid (belowG B.out hgw B.out.size LB.out)
        clear hgw
        generalize ((v6.setCell ⟨gb, 0, none⟩ (.int .u16 ra.1)).setCell ⟨gb, 1, none⟩ (.int .u32 ra.2.1)).setCell ⟨gb, 2, none⟩ (.int .u64 ra.2.2) = v7 at *
        by_cases hfull : m < wn
        · have hfull1 : (m : Int) < wd := by have := HWN.out; omega
          clear hfull
          obtain ⟨pKA, qKA, rKA⟩ := KA.out.cells
          obtain ⟨pKB, qKB, rKB⟩ := KB.out.cells
          have pKW := KW.out.cell
          go_wp2_with fail
          refine (awake_any v7 (HT.out.next B.out)).mono ?_
          rintro e v8 ⟨rfl, b8⟩
          have BB := Lib.hid (thn B.out b8)
          clear b8
          clear pKA qKA rKA pKB qKB rKB pKW
          go_wp2
          go_ret
          exact ⟨rfl, BB.out⟩
        · have hfm : m = wn := by omega
          have hra := rowT_full (inc := inc) HW1.out HW2.out HF.out (by have := HMl.out; omega)
          rw [HRA.out] at hra
          have hr1 : (ra.2.1 == wd) = true := by rw [hra]; have := HWN.out; simp only [beq_iff_eq]; omega
          have hr2 : (ra.2.2 == 0) = true := by rw [hra]; rfl
          have hfull1 : wd ≤ (m : Int) := by have := HWN.out; omega
          clear hra hfull hfm
          obtain ⟨pKA, qKA, rKA⟩ := KA.out.cells
          obtain ⟨pKB, qKB, rKB⟩ := KB.out.cells
          have pKW := KW.out.cell
          go_wp2_with fail
          refine (awake_any v7 (HT.out.next B.out)).mono ?_
          rintro e v8 ⟨rfl, b8⟩
          have BB := Lib.hid (thn B.out b8)
          clear b8
          clear pKA qKA rKA pKB qKB rKB pKW
          go_wp2
          go_ret
          exact ⟨rfl, BB.out⟩
      · intro v6 af hb hB
        obtain ⟨gb, hgb, ob⟩ : ∃ b, af.tmps.getD 19 undef = .pointer (some ⟨b, 0, none⟩) ∧ RowBlk v6 b (0, 0, 0) := hB.new 19 (of_decide_eq_true (by kernel_rfl)) (of_decide_eq_true (by kernel_rfl))
        have lb : w52.heap.size ≤ gb := (hB.base 19 (of_decide_eq_true (by kernel_rfl)) (of_decide_eq_true (by kernel_rfl)) gb (by show ownB (af.tmps.getD 19 undef) = some gb; rw [hgb]; rfl)).1
        have ef := behindLQ_fill hB (ds := [68, 69, 70, 71, 72, 73, 74, 75, 76, 77, 78, 67, 79, 19]) (by kernel_rfl)
        have h67 : af.tmps.getD 67 undef = (.tuple #[(.agg #[.int .u16 ra.1, .int .u32 ra.2.1, .int .u64 ra.2.2]), .bool true]) := hB.new 67 (of_decide_eq_true (by kernel_rfl)) (of_decide_eq_true (by kernel_rfl))
        have h79 : af.tmps.getD 79 undef = (.agg #[.int .u16 ra.1, .int .u32 ra.2.1, .int .u64 ra.2.2]) := hB.new 79 (of_decide_eq_true (by kernel_rfl)) (of_decide_eq_true (by kernel_rfl))
        clear hB
        rw [ef]
        simp only [fill, hgb, h67, h79]
        generalize af.tmps.getD 68 undef = y68
        generalize af.tmps.getD 69 undef = y69
        generalize af.tmps.getD 70 undef = y70
        generalize af.tmps.getD 71 undef = y71
        generalize af.tmps.getD 72 undef = y72
        generalize af.tmps.getD 73 undef = y73
        generalize af.tmps.getD 74 undef = y74
        generalize af.tmps.getD 75 undef = y75
        generalize af.tmps.getD 76 undef = y76
        generalize af.tmps.getD 77 undef = y77
        generalize af.tmps.getD 78 undef = y78
        clear ef hgb h67 h79
        simp only [List.drop_succ_cons, List.drop_zero, put_lit, List.set_cons_succ, List.set_cons_zero]
        replace KW := Lib.hid (KW.out.next hb)
        replace KA := Lib.hid (KA.out.next hb)
        replace B := Lib.hid (thn B.out hb)
        clear hb S1 S2 SM KI htl hup eg
        have KB := Lib.hid ob
        have a3 : ga ≠ gb := by omega
        have a4 : gb ≠ ga := a3.symm
        have a5 : gw ≠ gb := by omega
        have a6 : gb ≠ gw := a5.symm
        have LB : Hid (w.heap.size ≤ gb) := Nat.le_trans BL.out lb
        clear ob lb
        obtain ⟨pKA, qKA, rKA⟩ := KA.out.cells
        obtain ⟨pKB, qKB, rKB⟩ := KB.out.cells
        have pKW := KW.out.cell
        have fKB := KB.out.free
        go_upto_region 18 with fail
        clear pKA qKA rKA pKB qKB rKB pKW fKB
        have hgw := grown_set3 v6 gb (.int .u16 ra.1) (.int .u32 ra.2.1) (.int .u64 ra.2.2)
        replace KB := Lib.hid (KB.out.store ra)
        replace KA := Lib.hid (KA.out.grown hgw a3)
        replace KW := Lib.hid (KW.out.grown hgw a5)
        replace B := Lib.hid (belowG B.out hgw B.out.size LB.out)
        clear hgw
        generalize ((v6.setCell ⟨gb, 0, none⟩ (.int .u16 ra.1)).setCell ⟨gb, 1, none⟩ (.int .u32 ra.2.1)).setCell ⟨gb, 2, none⟩ (.int .u64 ra.2.2) = v7 at *
        by_cases hfull : m < wn
        · have hfull1 : (m : Int) < wd := by have := HWN.out; omega
          clear hfull
          obtain ⟨pKA, qKA, rKA⟩ := KA.out.cells
          obtain ⟨pKB, qKB, rKB⟩ := KB.out.cells
          have pKW := KW.out.cell
          go_wp2_with fail
          refine (awake_any v7 (HT.out.next B.out)).mono ?_
          rintro e v8 ⟨rfl, b8⟩
          have BB := Lib.hid (thn B.out b8)
          clear b8
          clear pKA qKA rKA pKB qKB rKB pKW
          go_wp2
          go_ret
          exact ⟨rfl, BB.out⟩
        · have hfm : m = wn := by omega
          have hra := rowT_full (inc := inc) HW1.out HW2.out HF.out (by have := HMl.out; omega)
          rw [HRA.out] at hra
          have hr1 : (ra.2.1 == wd) = true := by rw [hra]; have := HWN.out; simp only [beq_iff_eq]; omega
          have hr2 : (ra.2.2 == 0) = true := by rw [hra]; rfl
          have hfull1 : wd ≤ (m : Int) := by have := HWN.out; omega
          clear hra hfull hfm
          obtain ⟨pKA, qKA, rKA⟩ := KA.out.cells
          obtain ⟨pKB, qKB, rKB⟩ := KB.out.cells
          have pKW := KW.out.cell
          go_wp2_with fail
          refine (awake_any v7 (HT.out.next B.out)).mono ?_
          rintro e v8 ⟨rfl, b8⟩
          have BB := Lib.hid (thn B.out b8)
          clear b8
          clear pKA qKA rKA pKB qKB rKB pKW
          go_wp2
          go_ret
          exact ⟨rfl, BB.out⟩
end Go.Proofs.YtkdlgejkgcojkaaDoor
