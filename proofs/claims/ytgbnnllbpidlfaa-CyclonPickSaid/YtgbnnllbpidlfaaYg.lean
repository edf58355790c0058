/- Layer 10: the closure that drops what was sent. -/
import Derived.Test.YtgbnnllbpidlfaaYf
namespace Go.Proofs.Ytgbnnllbpidlfaa
open Go.RowKit
set_option linter.unusedVariables false
theorem Ows.offG {w w' : World} {B g : Nat} {E t : TypeId} {s : Nat} {A : Option Addr} {n c : Nat} {xs : List Value} {cs : Array Value} (h : Ows w B E s A n c xs) (k : w.heap[g]? = some (.cells cs t (0, 0))) (hne : E ≠ t) (hg : w.grownBy w' (some g)) : Ows w' B E s A n c xs :=
  h.grown hg fun q hq e => by
    subst e
    rcases h.2 with ⟨hv, _⟩ | ⟨b1, cap, cur, hv, _, hh, _⟩
    · rw [hv] at hq; cases hq
    · rw [hv] at hq
      injection hq with hq
      have e1 : b1 = q := hq
      subst e1
      rw [k] at hh
      injection hh with hh
      injection hh with _ h2
      exact hne h2.symm
theorem Dow.offG {w w' : World} {B g : Nat} {t : TypeId} {A : Option Addr} {n c : Nat} {xs : List (Dsc × Hd)} {cs : Array Value} (h : Dow w B A n c xs) (k : w.heap[g]? = some (.cells cs t (0, 0))) (h1 : 34 ≠ t) (h2 : 30 ≠ t) (hg : w.grownBy w' (some g)) : Dow w' B A n c xs :=
  ⟨h.ow.offG k h1 hg, fun x hx => (h.fo x hx).offG k h2 hg⟩
def atOf (w : World) (b : Nat) : Nat := match w.cell? ⟨b, 0, none⟩ with
  | some (.int _ v) => v.toNat
  | _ => 0
def DropRes (got l rest l' rest' : List Dsc) : Prop := match skipS got l rest with
  | none => l' = l ∧ rest' = []
  | some (m, t) => l' = dropD l m ∧ rest' = t
def GaveC (bA bS bN : Nat) (got : List Dsc) (As : Option Addr) (ns cs : Nat) (l rest ss : List Dsc) (B : Nat) (w : World) (e : Ending) (w' : World) : Prop := ∃ (A' : Option Addr) (n' c' k' : Nat) (xs' : List (Dsc × Hd)), e = .returned (.slice A' n' c') ∧ Dow w' B A' n' c' xs' ∧ DropSt w' bA bS bN got As ns cs k' ∧ DropRes got l rest (xs'.map (·.1)) (ss.drop k') ∧ w.grownBy w' (some bA)
theorem DropSt.cells {w : World} {bA bS bN : Nat} {got : List Dsc} {As : Option Addr} {ns cs k : Nat} (h : DropSt w bA bS bN got As ns cs k) : w.cell? ⟨bA, 0, none⟩ = some (.int .i64 (k : Int)) ∧ w.frozen? ⟨bA, 0, none⟩ = false ∧ w.cell? ⟨bS, 0, none⟩ = some (.slice As ns cs) := by
  have h1 := h.at_
  have h2 := h.sent
  refine ⟨?_, by simp [World.frozen?, h1], ?_⟩
  · rw [cell_of_row w bA 0 _ _ (0, 0) h1]; rfl
  · rw [cell_of_row w bS 0 _ _ (0, 0) h2]; rfl
theorem DropSt.step {w : World} {bA bS bN : Nat} {got : List Dsc} {As : Option Addr} {ns cs k : Nat} (h : DropSt w bA bS bN got As ns cs k) (hk : k < ns) : DropSt (w.setCell ⟨bA, 0, none⟩ (.int .i64 ((k + 1 : Nat) : Int))) bA bS bN got As ns cs (k + 1) := by
  refine ⟨?_, by rw [Below.heap_setCell _ _ _ _ h.ne1.symm]; exact h.sent, h.named.grown (grown_set w bA 0 _) h.ne2.symm, h.ne1, h.ne2, hk⟩
  simp [World.setCell, Array.getElem?_modify, h.at_]
theorem skip_step {got l : List Dsc} {ss : List Dsc} {j : Nat} {s : Dsc} (hs : ss[j]? = some s) : skipS got l (ss.drop j) = if !hasN got s.1 && hasN l s.1 then some (s.1, ss.drop (j + 1)) else skipS got l (ss.drop (j + 1)) := by
  rw [List.drop_eq_getElem_cons (List.getElem?_eq_some_iff.1 hs).1, (List.getElem?_eq_some_iff.1 hs).2]; rfl
set_option maxHeartbeats 4000000 in
set_option maxRecDepth 100000 in
theorem drop1_any (A : Option Addr) (n c : Nat) (xs : List (Dsc × Hd)) (As : Option Addr) (ns cs : Nat) (ss : List (Dsc × Hd)) (bA bS bN k B : Nat) (got : List Dsc) (w0 w : World) (hs : Sds w0 As ns cs ss) (hsr : ∀ x ∈ ss, dscR x.1) (hb0 : Below w0.heap.size w0 w) (hA0 : w0.heap.size ≤ bA)
    (h : Dow w B A n c xs) (hB : B ≤ w.heap.size) (hf : Fit n xs) (hv : isView (xs.map (·.1))) (hd : DropSt w bA bS bN got As ns cs k) :
    Calls Try.prog 44 #[.slice A n c, .pointer (some ⟨bA, 0, none⟩), .pointer (some ⟨bS, 0, none⟩), .pointer (some ⟨bN, 0, none⟩)] w (GaveC bA bS bN got As ns cs (xs.map (·.1)) ((ss.map (·.1)).drop k) (ss.map (·.1)) B w) := by
  have HS := Lib.hid hs
  have HSR := Lib.hid hsr
  have HB0 := Lib.hid hb0
  have HA0 := Lib.hid hA0
  have HX := Lib.hid h
  have HBB := Lib.hid hB
  have HF := Lib.hid hf
  have HV := Lib.hid hv
  have HD := Lib.hid hd
  have HLS : Hid (ns = ss.length) := hs.len
  have hsm := hs.max
  have hsc := hs.cap
  unfold maxLen at hsm
  have HNE : Hid (bA ≠ bS ∧ bA ≠ bN) := ⟨hd.ne1, hd.ne2⟩
  clear hs hsr hb0 hA0 h hB hf hv hd
  go_enter Try.func44, Try.ntmps44
  go_wp2
  go_loopw [6] (fun _ wr => ∃ j : Nat, j ≤ ns ∧ Hid (DropSt wr bA bS bN got As ns cs j) ∧ Hid (Dow wr B A n c xs) ∧ Hid (skipS got (xs.map (·.1)) ((ss.map (·.1)).drop k) = skipS got (xs.map (·.1)) ((ss.map (·.1)).drop j)) ∧ Hid (w.grownBy wr (some bA))) (fun _ wr => ns - atOf wr bA)
  case atStart => exact ⟨k, HD.out.le, HD, HX, rfl, World.grownBy.refl _ _⟩
  case round =>
    clear HD HX
    obtain ⟨j, hj, D, X, HE, G⟩ := hrel
    have i0 : (0 : Int) ≤ (j : Int) := by omega
    obtain ⟨a0, a1, s0⟩ := D.out.cells
    have b0 := belowG HB0.out G.out HB0.out.size HA0.out
    by_cases hlt : j < ns
    · have i1 : (j : Int) < (ns : Int) := by omega
      obtain ⟨b, off, x, rfl, hb, hx, hxm, c0, _, _, _⟩ := (HS.out.next b0).at_ hlt
      obtain ⟨⟨v0, v1⟩, _⟩ := HSR.out x hxm
      obtain ⟨v, hv⟩ : ∃ v : Nat, x.1.1 = (v : Int) := ⟨x.1.1.toNat, by omega⟩
      have hv256 : v < 256 := by omega
      have HSK := Lib.hid (skip_step (got := got) (l := xs.map (·.1)) (ss := ss.map (·.1)) (j := j) (s := x.1) (by rw [List.getElem?_map, hx]; rfl))
      rw [hv] at c0 HSK
      clear hb hx hxm b0 v0 v1
      go_upto_region 4 with fail
      have HM : Hid (atOf wr bA = j) := by unfold Hid atOf; rw [a0]; rfl
      have X2 := Lib.hid (X.out.offG D.out.at_ (by decide) (by decide) (grown_set wr bA 0 (.int .i64 ((j : Int) + 1))))
      have G2 := Lib.hid (grown_two G.out (grown_set wr bA 0 (.int .i64 ((j : Int) + 1))))
      have D2 : Hid (DropSt (wr.setCell ⟨bA, 0, none⟩ (.int .i64 ((j : Int) + 1))) bA bS bN got (some ⟨b, off, none⟩) ns cs (j + 1)) := D.out.step hlt
      clear c0 a0 a1 s0 D X G
      generalize wr.setCell ⟨bA, 0, none⟩ (.int .i64 ((j : Int) + 1)) = w2 at *
      have n0 := D2.out.named.cell hv256
      have v1 : (v : Int) < 256 := by omega
      have v0 : (0 : Int) ≤ (v : Int) := by omega
      have HSZ : Hid (w.heap.size ≤ w2.heap.size) := G2.out.size
      obtain ⟨bb, hbb⟩ : ∃ bb, hasN got (v : Int) = bb := ⟨_, rfl⟩
      rw [hbb] at n0 HSK
      clear hbb hv
      cases bb
      · have HC := Lib.hid (find_any A n c xs (v : Int) w2 X2.out.sds HF.out HV.out)
        obtain ⟨f, hfd⟩ : ∃ f, findI (xs.map (·.1)) (v : Int) = f := ⟨_, rfl⟩
        unfold hasN at HSK
        rw [hfd] at HC HSK
        clear hfd
        by_cases hf0 : 0 ≤ f
        · rw [decide_eq_true hf0, if_pos (by rfl)] at HSK
          go_wp2_with fail
          refine HC.out.mono ?_
          rintro e w3 ⟨rfl, b3⟩
          have X3 := Lib.hid (X2.out.below b3)
          have G3 := Lib.hid (grown_below G2.out b3)
          have D3 := Lib.hid (D2.out.next b3)
          have S3 : Hid (B ≤ w3.heap.size) := by have := HBB.out; have := HSZ.out; have := b3.size; unfold Hid; omega
          have HC4 := Lib.hid (drop_any A n c xs (v : Int) w3 X3.out.sds HF.out HV.out)
          clear b3 n0 HC X2 G2 D2
          go_wp2_with fail
          refine HC4.out.mono ?_
          rintro e w4 ⟨A4, n4, c4, zs, rfl, hz, d4, b4⟩
          have R : Hid (DropRes got (xs.map (·.1)) ((ss.map (·.1)).drop k) (zs.map (·.1)) ((ss.map (·.1)).drop (j + 1))) := by
            unfold Hid DropRes
            rw [HE.out, HSK.out]
            exact ⟨hz, rfl⟩
          have D4 := Lib.hid (D3.out.next b4)
          have G4 := Lib.hid (grown_below G3.out b4)
          have X4 := Lib.hid (d4.mono S3.out)
          clear hz d4 b4 HC4
          go_wp2
          go_ret
          exact ⟨A4, n4, c4, j + 1, zs, rfl, X4.out, D4.out, R.out, G4.out⟩
        · rw [decide_eq_false hf0, if_neg (by decide)] at HSK
          go_wp2_with fail
          refine HC.out.mono ?_
          rintro e w3 ⟨rfl, b3⟩
          have X3 := Lib.hid (X2.out.below b3)
          have G3 := Lib.hid (grown_below G2.out b3)
          have D3 := Lib.hid (D2.out.next b3)
          have HM3 : Hid (atOf w3 bA = j + 1) := by unfold Hid atOf; rw [D3.out.cells.1]; rfl
          have HE3 := Lib.hid (HE.out.trans HSK.out)
          clear b3 n0 HC X2 G2 D2 HE HSK
          go_wp2
          go_roundw
          case rel => exact ⟨j + 1, hlt, D3, X3, HE3, G3⟩
          case measure => rw [HM.out, HM3.out]; omega
      · rw [if_neg (by simp)] at HSK
        have HM3 : Hid (atOf w2 bA = j + 1) := by unfold Hid atOf; rw [D2.out.cells.1]; rfl
        have HE3 := Lib.hid (HE.out.trans HSK.out)
        clear HE HSK
        go_wp2
        go_roundw
        case rel => exact ⟨j + 1, hlt, D2, X2, HE3, G2⟩
        case measure => rw [HM.out, HM3.out]; omega
    · obtain rfl : j = ns := by omega
      have R : Hid (DropRes got (xs.map (·.1)) ((ss.map (·.1)).drop k) (xs.map (·.1)) ((ss.map (·.1)).drop j)) := by
        unfold Hid DropRes
        have e : (ss.map (·.1)).drop j = [] := List.drop_of_length_le (by rw [List.length_map, ← HLS.out]; exact Nat.le_refl _)
        rw [HE.out, e]
        exact ⟨rfl, rfl⟩
      go_wp2
      go_ret
      exact ⟨A, n, c, j, xs, rfl, X.out, D.out, R.out, G.out⟩
end Go.Proofs.Ytgbnnllbpidlfaa
