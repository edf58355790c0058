/- Layer 7: slices.DeleteFunc at ids; ident.Drop. -/
import Derived.Test.YtdpcknfplognmaaIk
namespace Go.Proofs.Ytdpcknfplognmaa
open Go.RowKit
set_option linter.unusedVariables false
theorem Ows.ptr {w : World} {B : Nat} {E : TypeId} {s : Nat} {A : Option Addr} {n c : Nat} {xs : List Value} (h : Ows w B E s A n c xs) (hn : 0 < n) : ∃ g, A = some ⟨g, 0, none⟩ ∧ B ≤ g := by
  rcases h.2 with ⟨hv, h0⟩ | ⟨g, cap, cur, hv, hB, _⟩
  · omega
  · injection hv with e1 _ _; exact ⟨g, e1, hB⟩
theorem find_all {p : Id3 → Bool} {l : List Id3} {n : Nat} (hn : n = l.length) (h : ¬ l.findIdx p < n) : l.filter (fun y => !p y) = l :=
  List.filter_eq_self.2 fun y hy => by
    have h1 : l.findIdx p = l.length := by have := List.findIdx_le_length (xs := l) (p := p); omega
    have := List.findIdx_eq_length.1 h1 y hy
    simp [this]
set_option maxHeartbeats 4000000 in
theorem delf_any (A : Option Addr) (n c : Nat) (l : List Id3) (g B : Nat) (x : Id3) (p : Id3 → Bool) (eg : ∀ args w, (callFunc g args).run Try.prog w = .ok (.enter g args) w) (hp : PredP g B x p) (w : World) (B0 : Nat) (hlt0 : B < B0) (hle0 : B0 ≤ w.heap.size) (hB : IdBlk w B x) (h : Ows w B0 25 3 A n c (idl l)) :
    Calls Try.prog 35 #[.slice A n c, .func (.func g) #[] #[.pointer (some ⟨B, 0, none⟩)]] w fun e w' => ∃ m, e = .returned (.slice A m c) ∧ Sd w' w'.heap.size A m c (l.filter (fun y => !p y)) ∧ Below B0 w w' := by
  have HL : Hid (n = l.length) := ows_len h
  have hs := Sn.of_own h
  have hm := hs.max
  have hc := hs.cap
  unfold maxLen at hm
  have hidx := indexf_any A n c l g B x p eg hp w hB hs
  have HB := Lib.hid hB
  have HP := Lib.hid hp
  have HO := Lib.hid h
  clear hB hp
  by_cases hk : l.findIdx p < n
  · rw [if_pos hk] at hidx
    have HK : Hid (Kept (fun y => !p y) l l (l.findIdx p + 1) (l.findIdx p)) := Kept.start (by rw [← HL.out]; exact hk) (fun t ht y hy => by
      obtain ⟨h1, rfl⟩ := List.getElem?_eq_some_iff.1 hy
      have := List.not_of_lt_findIdx ht
      simp [this]) (fun y hy => by
      obtain ⟨h1, rfl⟩ := List.getElem?_eq_some_iff.1 hy
      have := List.findIdx_getElem (w := h1)
      simp [this])
    generalize l.findIdx p = k0 at *
    obtain ⟨b, e, hg0⟩ := h.ptr (by omega)
    subst e
    clear h hs
    have hne1 : ((k0 : Int) == -1) = false := beq_eq_false_iff_ne.2 (by omega)
    go_enter Try.func35, Try.ntmps35
    go_wp2_with fail
    refine hidx.mono ?_
    rintro e W ⟨rfl, b1⟩
    replace HO := Lib.hid (HO.out.below b1)
    replace HB := Lib.hid (HB.out.next b1)
    have BL := Lib.hid (b1.mono hle0)
    have hle1 : B0 ≤ W.heap.size := Nat.le_trans hle0 b1.size
    clear b1 hidx
    go_wp2
    go_loopw [5, 6, 7] (fun s5 s6 _ wr => ∃ (i j : Nat) (d : List Id3), s5 = .int .i64 i ∧ s6 = .int .i64 j ∧ i < j ∧ j ≤ n ∧ Hid (Kept (fun y => !p y) l d j i) ∧ Hid (Ows wr B0 25 3 (some ⟨b, 0, none⟩) n c (idl d)) ∧ Hid (Below B0 W wr)) (fun _ s6 _ _ => n - (intOf s6).toNat)
    case atStart => exact ⟨k0, k0 + 1, l, rfl, by go_num, by omega, by omega, HK, HO, Below.refl _ _⟩
    case round =>
      obtain ⟨i, j, d, rfl, rfl, hij, hjn, HK, O3, b3⟩ := hrel
      have i0 : (0 : Int) ≤ (j : Int) := by omega
      have i2 : (0 : Int) ≤ (i : Int) := by omega
      have hsz := Nat.le_trans hle1 b3.out.size
      by_cases hlt : j < n
      · have i1 : (j : Int) < (n : Int) := by omega
        have i3 : (i : Int) < (n : Int) := by omega
        obtain ⟨b', off', y, e, hb, hy, c0, c1, c2⟩ := sd_at (Sn.of_own O3.out) hlt
        injection e with e
        injection e with e1 e2
        subst e1 e2
        rw [Nat.zero_add] at c0 c1 c2
        rw [HK.out.high j (by omega)] at hy
        have HY := Lib.hid hy
        have hbl := below_lit wr (.cells #[.int .u8 y.1, .int .u16 y.2.1, .int .u32 y.2.2] 25)
        have HBr : Hid (IdBlk wr B x) := by unfold Hid IdBlk; rw [b3.out.block B hlt0]; exact HB.out
        have hcall := HP.out _ y (HBr.out.next hbl)
        have HN := Lib.hid (IdBlk.new wr y)
        clear hy
        cases hq : p y with
        | true =>
          rw [hq] at hcall
          have HK2 := Lib.hid (HK.out.skip HY.out (by rw [hq]; rfl))
          go_wp2_with fail
          refine hcall.mono ?_
          rintro e w2 ⟨rfl, hb'⟩
          have b4 := thn hbl hb'
          have O4 := Lib.hid (O3.out.below b4)
          have B4 := Lib.hid (b3.out.trans (b4.mono hsz))
          clear hb' b4 hbl
          go_wp2
          go_roundw
          case rel => exact ⟨i, j + 1, d, rfl, by go_num, by omega, by omega, HK2, O4, B4⟩
          case measure => simp [intOf]; omega
        | false =>
          rw [hq] at hcall
          have HK2 := Lib.hid (HK.out.keep HY.out (by rw [hq]; rfl))
          go_wp2_with fail
          refine hcall.mono ?_
          rintro e w2 ⟨rfl, hb'⟩
          have b4 := thn hbl hb'
          have O4 := Lib.hid (O3.out.below b4)
          have B4 := Lib.hid (b3.out.trans (b4.mono hsz))
          obtain ⟨e0, e1, e2⟩ := (HN.out.next hb').cells
          clear hb' b4 hbl c0 c1 c2
          have t0 := O4.out.there (i * 3) (by omega)
          have t1 := O4.out.there (i * 3 + 1) (by omega)
          have t2 := O4.out.there (i * 3 + 2) (by omega)
          obtain ⟨v0, f0⟩ := t0
          obtain ⟨v1, f1⟩ := t1
          obtain ⟨v2, f2⟩ := t2
          obtain ⟨v0, h0⟩ := Option.isSome_iff_exists.1 v0
          obtain ⟨v1, h1⟩ := Option.isSome_iff_exists.1 v1
          obtain ⟨v2, h2⟩ := Option.isSome_iff_exists.1 v2
          go_wp2
          have hid : i < d.length := by have := HK.out.size; have := HL.out; omega
          have O5 : Hid (Ows (((w2.setCell ⟨b, i * 3, none⟩ (.int .u8 y.1)).setCell ⟨b, i * 3 + 1, none⟩ (.int .u16 y.2.1)).setCell ⟨b, i * 3 + 2, none⟩ (.int .u32 y.2.2)) B0 25 3 (some ⟨b, 0, none⟩) n c (idl (d.set i y))) := by
            unfold Hid
            rw [← idl_set d i y hid]
            exact ((O4.out.set _ _).set _ _).set _ _
          have B5 := Lib.hid (((B4.out.setCell (p := ⟨b, i * 3, none⟩) hg0 (.int .u8 y.1)).setCell (p := ⟨b, i * 3 + 1, none⟩) hg0 (.int .u16 y.2.1)).setCell (p := ⟨b, i * 3 + 2, none⟩) hg0 (.int .u32 y.2.2))
          go_roundw
          case rel => exact ⟨i + 1, j + 1, d.set i y, by go_num, by go_num, by omega, by omega, HK2, O5, B5⟩
          case measure => simp [intOf]; omega
      · obtain rfl : j = n := by omega
        have i1 : ¬ (j : Int) < (j : Int) := by omega
        have HR : Hid (d.take i = l.filter (fun y => !p y)) := by have h1 := HK.out; rw [HL.out] at h1; exact h1.done
        have S2 := sd_upto (Sn.of_own O3.out) (hi := i) (by omega)
        rw [HR.out] at S2
        obtain ⟨ti, hti, ht0, ht1, ht2⟩ := info_parts infoId
        obtain ⟨vs, hvl, hcl⟩ := run_clear_n (P := Try.prog) (w := wr) (t := 26) (e := 25) (z := .agg #[.int .u8 0, .int .u16 0, .int .u32 0]) (s := 3) Try.underlying26 (fun w => by simp [zeroValue, typeInfo, hti, ht0]) rfl (by intro u hu; exact id_one (0, 0, 0) u hu) b (i * 3) (j - i) (c - i) (by omega)
          (fun t ht => (O3.out.there (i * 3 + t) (by omega)).1) (fun t ht => (O3.out.there (i * 3 + t) (by omega)).2)
        clear hti ht0 ht1 ht2
        have hsl : ∀ w' : World, (Instr.slice 26 (.slice (some ⟨b, 0, none⟩) j c) (some (.int .i64 (i : Int))) none none).run Try.prog w' = .ok (.slice (some ⟨b, i * 3, none⟩) (j - i) (c - i)) w' := fun w' => by
          rw [run_slice_l (P := Try.prog) w' 26 (some ⟨b, 0, none⟩) j c Try.underlying26 .i64 (i : Int) (by omega) (by omega), show Try.prog.elem 26 = 25 from rfl, Try.sizeOf25 w']
          have hci : ¬ c = i := by omega
          simp [Result.andThen, sliced, hci, Addr.add]
          intro h; omega
        have hup := fun w' : World => run_upto (P := Try.prog) (w := w') (A := some ⟨b, 0, none⟩) (n := j) (c := c) (hi := i) 26 25 Try.underlying26 rfl 3 (fun w' => Try.sizeOf25 w') .i64 (i : Int) rfl (by omega)
        have B5 := Go.below_setCells hg0 vs (i * 3) wr b3.out
        have hsw : wr.heap.size ≤ (wr.setCells b (i * 3) vs).heap.size := (Go.below_setCells (Nat.zero_le b) vs (i * 3) wr (Below.refl 0 wr)).size
        have S3 := Lib.hid ((S2.cleared vs (i * 3) (Nat.le_refl _)).more hsw)
        have B6 := Lib.hid (BL.out.trans B5)
        clear S2 B5 hsw
        go_wp2
        go_ret
        exact ⟨i, rfl, S3.out, B6.out⟩
  · have HR := Lib.hid (find_all HL.out hk)
    rw [if_neg hk] at hidx
    go_enter Try.func35, Try.ntmps35
    go_wp2_with fail
    refine hidx.mono ?_
    rintro e W ⟨rfl, b1⟩
    have S1 := Lib.hid (hs.next b1)
    have BL := Lib.hid (b1.mono hle0)
    clear b1 hidx h hs
    go_wp2
    go_ret
    exact ⟨n, rfl, by rw [HR.out]; exact S1.out, BL.out⟩
theorem drop_any (A : Option Addr) (n c : Nat) (l : List Id3) (x : Id3) (w : World) (h : Sd w w.heap.size A n c l) (hn8 : n ≤ 1000000) :
    Calls Try.prog 22 #[.slice A n c, (.agg #[.int .u8 x.1, .int .u16 x.2.1, .int .u32 x.2.2])] w (GaveD (dropL l x) w) := by
  have bl := below_lit w (.cells #[.int .u8 x.1, .int .u16 x.2.1, .int .u32 x.2.2] 25)
  have HS := Lib.hid (h.next bl)
  have HX := Lib.hid (IdBlk.new w x)
  have BL := Lib.hid bl
  have hfl : Hid (l.filter (fun y => !decide (y = x)) = dropL l x) := by unfold Hid dropL; congr 1; funext y; simp
  clear h bl
  go_enter Try.func22, Try.ntmps22
  go_upto_region 1 with fail
  generalize w.alloc _ = W at *
  obtain ⟨g, hg⟩ : ∃ g, w.heap.size = g := ⟨_, rfl⟩
  rw [hg] at HX ⊢
  have hgW := HX.out.lt
  go_wp2_with fail
  refine (clone_any A n c l W HS.out hn8).mono ?_
  rintro e W1 ⟨A1, c1, rfl, o1, b1⟩
  have O1 := Lib.hid o1
  have hc := delf_any A1 n c1 l 36 g x (fun y => decide (y = x)) (enters_of Try.func36 (by kernel_rfl) rfl) (fun W y hB => drop1_any hB) W1 W.heap.size hgW b1.size (HX.out.next b1) o1
  rw [hfl.out] at hc
  have B1 := Lib.hid (thn BL.out b1)
  have BW := BL.out.size
  clear o1 b1
  go_wp2_with fail
  refine hc.mono ?_
  rintro e W2 ⟨m, rfl, s2, b2⟩
  have S2 := Lib.hid s2
  have B2 := Lib.hid (B1.out.trans (b2.mono BW))
  clear s2 b2 hc
  go_wp2
  go_ret
  exact gaveD_of S2.out B2.out rfl
end Go.Proofs.Ytdpcknfplognmaa
