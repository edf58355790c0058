/- Layer 9 and on: lists of descriptors all of whose memory is the call's own; grapevinelow.Anew. -/
import Derived.Test.YtdkchiodepdclaaRt
namespace Go.Proofs.Ytdkchiodepdclaa
open Go.RowKit
set_option linter.unusedVariables false
/-- One's own slice stays while another one's own, of elements of another type, is written. -/
theorem Ows.other {w w' : World} {B B' : Nat} {E E' : TypeId} {s s' : Nat} {A A' : Option Addr} {n c n' c' : Nat} {xs xs' : List Value} (h : Ows w B E s A n c xs) (h' : Ows w B' E' s' A' n' c' xs') (hne : E ≠ E') (g : w.grownBy w' (Value.ownBlock (.slice A' n' c'))) : Ows w' B E s A n c xs := by
  refine h.same fun q hq => g.block q (h.near q hq).2 fun e => ?_
  rcases h.2 with ⟨hv, _⟩ | ⟨b1, cap, cur, hv, _, hh, _⟩
  · rw [hv] at hq; cases hq
  · rcases h'.2 with ⟨hv', _⟩ | ⟨b2, cap', cur', hv', _, hh', _⟩
    · rw [hv'] at e; cases e
    · rw [hv] at hq
      rw [hv'] at e
      injection hq with hq
      injection e with e
      have e1 : b1 = b2 := by
        have h1 : b1 = q := hq
        have h2 : q = b2 := e
        omega
      rw [e1, hh'] at hh
      injection hh with hh
      injection hh with _ h2
      exact hne h2.symm
/-- A slice of descriptors, it and their filters in memory from B on. -/
structure Dow (w : World) (B : Nat) (A : Option Addr) (n c : Nat) (xs : List (Dsc × Hd)) : Prop where
  ow : Ows w B 27 4 A n c (dcs xs)
  fo : ∀ x ∈ xs, Ows w B 52 2 x.2.1 x.2.2.1 x.2.2.2 (spl x.1.2.2.2)
section
variable {w w' : World} {B B' : Nat} {A : Option Addr} {n c : Nat} {xs : List (Dsc × Hd)}
theorem Dow.ods (h : Dow w B A n c xs) : Ods w B A n c xs := ⟨h.ow, fun x hx => Sn.of_own (h.fo x hx)⟩
theorem Dow.sds (h : Dow w B A n c xs) : Sds w A n c xs := h.ods.sds
theorem Dow.nil (w : World) (B : Nat) : Dow w B none 0 0 [] := ⟨Ows.nil _ _ _ _, fun x hx => by cases hx⟩
theorem Dow.below (h : Dow w B A n c xs) (hb : Below w.heap.size w w') : Dow w' B A n c xs := ⟨h.ow.below hb, fun x hx => (h.fo x hx).below hb⟩
theorem Dow.mono (h : Dow w B A n c xs) (hB : B' ≤ B) : Dow w B' A n c xs := ⟨h.ow.mono hB, fun x hx => (h.fo x hx).mono hB⟩
theorem Dow.len (h : Dow w B A n c xs) : n = xs.length := h.sds.len
/-- One more, its filter the call's own too. -/
theorem Dow.app {w1 : World} {A3 : Option Addr} {c3 : Nat} {d : Dsc} {hd : Hd} (h : Dow w B A n c xs) (hl : Below w.heap.size w w1) (hf : Ows w1 B 52 2 hd.1 hd.2.1 hd.2.2 (spl d.2.2.2)) (o : Ows w' B 27 4 A3 (n + 1) c3 (dcs xs ++ dcl (d, hd))) (g : w1.grownBy w' (Value.ownBlock (.slice A n c))) :
    Dow w' B A3 (n + 1) c3 (xs ++ [(d, hd)]) := by
  have ho := h.ow.below hl
  refine ⟨by rw [dcs_append, dcs_cons, dcs_nil, List.append_nil]; exact o, fun x hx => ?_⟩
  rcases List.mem_append.1 hx with hx | hx
  · exact Ows.other ((h.fo x hx).below hl) ho (by decide) g
  · rw [List.mem_singleton] at hx; subst hx
    exact Ows.other hf ho (by decide) g
end
/-- What a call hands back: descriptors in memory of its own. -/
def GaveDo (ds : List Dsc) (w : World) (e : Ending) (w' : World) : Prop := ∃ (A : Option Addr) (n c : Nat) (xs : List (Dsc × Hd)), e = .returned (.slice A n c) ∧ xs.map (·.1) = ds ∧ Dow w' w.heap.size A n c xs ∧ Below w.heap.size w w'
theorem GaveDo.ds {ds : List Dsc} {w w' : World} {e : Ending} (h : GaveDo ds w e w') : GaveDs ds w e w' := by
  obtain ⟨A, n, c, xs, h1, h2, h3, h4⟩ := h
  exact ⟨A, n, c, xs, h1, h2, h3.sds, h4⟩
theorem infoSp : (Try.prog.info? 52).map (fun i => (i.zero, i.size, i.bytes)) = some (some (.agg #[.int .i32 0, .int .i32 0]), 2, 8) := by kernel_rfl
theorem DBlk.gr {w w' : World} {b : Nat} {d : Dsc} {h : Hd} {o : Option Nat} (k : DBlk w b d h) (hg : w.grownBy w' o) (hne : some b ≠ o) : DBlk w' b d h := (hg.block b k.lt hne).trans k
/-- The copy of a filter: append(api.Filter{}, d.Filter...): the new one, and what the world has become. -/
theorem anew_any (A : Option Addr) (n c : Nat) (xs : List (Dsc × Hd)) (w : World) (h : Sds w A n c xs) (hn8 : n ≤ 1000000) (hF : ∀ x ∈ xs, x.1.2.2.2.length ≤ 1000000) : Calls Try.prog 19 #[.slice A n c] w (GaveDo (xs.map (·.1)) w) := by
  have HF := Lib.hid hF
  have HL : Hid (n = xs.length) := h.len
  have hm := h.max
  have hc := h.cap
  unfold maxLen at hm
  have HS := Lib.hid h
  clear h hF
  go_enter Try.func19, Try.ntmps19
  go_wp2
  go_loopw [3, 8] (fun lv i wr => ∃ (j : Nat) (A2 : Option Addr) (c2 : Nat) (zs : List (Dsc × Hd)), j ≤ n ∧ lv = .slice A2 j c2 ∧ i = .int .i64 j ∧ Hid (zs.map (·.1) = (xs.take j).map (·.1)) ∧ Hid (Dow wr w.heap.size A2 j c2 zs) ∧ Hid (Below w.heap.size w wr)) (fun _ i _ => n - (intOf i).toNat)
  case atStart => exact ⟨0, none, 0, [], Nat.zero_le _, rfl, rfl, rfl, Dow.nil _ _, Below.refl _ _⟩
  case round =>
    obtain ⟨j, A2, c2, zs, hj, rfl, rfl, HZ, SO, B⟩ := hrel
    have i0 : (0 : Int) ≤ (j : Int) := by omega
    by_cases hlt : j < n
    · obtain ⟨b, off, x, rfl, hb, hx, hxm, c0, c1, c2', c3'⟩ := (HS.out.next B.out).at_ hlt
      have i1 : (j : Int) < (n : Int) := by omega
      have HX := Lib.hid hx
      have hfl : x.2.2.1 = x.1.2.2.2.length := sp_len ((HS.out.next B.out).fl x hxm)
      have hf8 : x.2.2.1 ≤ 1000000 := by have := HF.out x hxm; omega
      have SF := Lib.hid ((HS.out.next B.out).fl x hxm)
      have LX : Hid (w.heap.size ≤ wr.heap.size) := B.out.size
      clear hx hxm hb hfl
      go_upto_region 5 with fail
      clear c0 c1 c2' c3'
      have BW : Hid (Below wr.heap.size wr (wr.alloc (.cells #[.int .u8 x.1.1, .int .u16 x.1.2.1, .int .u8 x.1.2.2.1, .slice x.2.1 x.2.2.1 x.2.2.2] 27))) := below_lit wr (.cells #[.int .u8 x.1.1, .int .u16 x.1.2.1, .int .u8 x.1.2.2.1, .slice x.2.1 x.2.2.1 x.2.2.2] 27)
      have KD : Hid (DBlk (wr.alloc (.cells #[.int .u8 x.1.1, .int .u16 x.1.2.1, .int .u8 x.1.2.2.1, .slice x.2.1 x.2.2.1 x.2.2.2] 27)) wr.heap.size x.1 x.2) := DBlk.new wr x.1 x.2
      replace SF := Lib.hid (Sn.next SF.out BW.out)
      generalize wr.alloc (.cells #[.int .u8 x.1.1, .int .u16 x.1.2.1, .int .u8 x.1.2.2.1, .slice x.2.1 x.2.2.1 x.2.2.2] 27) = w10 at *
      obtain ⟨g, hg⟩ : ∃ g, wr.heap.size = g := ⟨_, rfl⟩
      rw [hg] at KD LX BW ⊢
      have HG := Lib.hid hg
      clear hg
      have hbl := below_lit w10 (.cells #[] 52)
      have KDl := Lib.hid (KD.out.next hbl)
      have LG := Lib.hid KD.out.lt
      obtain ⟨q0, q1, q2, q3⟩ := KD.out.cells
      obtain ⟨p0, p1, p2, p3⟩ := KDl.out.cells
      clear hbl
      have NE : Hid (some g ≠ Value.ownBlock (.slice (some ⟨w10.heap.size, 0, none⟩) 0 0)) := by
        intro e
        have e1 : g = w10.heap.size := by injection e
        have := LG.out
        omega
      go_upto_region 6 with (at_builtin; go_must (refine wpList_appsx rfl _ _ 25 rfl Try.underlying25 infoSp rfl (by decide) rfl (Ows.lit0 _ 52 2) rfl (Sn.next SF.out (below_lit _ _)) (spl_one _) (by omega) (by decide) (by simp) ?_); intro A4 c4 w11 o4 g4; have KD4 := KDl.out.gr g4 NE.out; have r3 := KD4.free 3; obtain ⟨s0, s1, s2, s3⟩ := KD4.cells)
      clear q0 q1 q2 q3 p0 p1 p2 p3 r3 s0 s1 s2 s3
      rw [Nat.zero_add, List.nil_append] at o4
      have L10 := Nat.le_of_lt LG.out
      have hbl := below_lit w10 (.cells #[] 52)
      have h11 : w10.heap.size ≤ w11.heap.size := Nat.le_trans hbl.size g4.size
      replace BW := Lib.hid ((BW.out.alloc L10 _).grown g4 (Nat.le_trans L10 hbl.size) (fun q hq => by
        have e1 : w10.heap.size = q := by injection hq
        omega))
      clear hbl
      have hgs := grown_set w11 g 3 (.slice A4 x.2.2.1 c4)
      have KD2 := Lib.hid (KD4.put3 (A4, x.2.2.1, c4))
      have OF := Lib.hid ((o4.grown hgs fun q hq => Nat.ne_of_gt (Nat.lt_of_lt_of_le LG.out (o4.near q hq).1)).mono (Nat.le_of_lt LG.out))
      replace BW := Lib.hid (belowG BW.out hgs (Nat.le_trans L10 h11) (Nat.le_refl _))
      clear KD4 o4 g4 hgs KD KDl NE SF
      generalize w11.setCell ⟨g, 3, none⟩ (.slice A4 x.2.2.1 c4) = w12 at *
      rw [← HG.out] at BW
      have BB := Lib.hid (thn B.out BW.out)
      replace SO := Lib.hid (SO.out.below BW.out)
      obtain ⟨p0, p1, p2, p3⟩ := KD2.out.cells
      go_wp2_with (at_builtin; go_must (refine wpList_appsx rfl _ _ 23 rfl Try.underlying23 infoD rfl (by decide) rfl (Ows.below SO.out.ow (below_lit _ _)) rfl (Sn.lit w12 #[.int .u8 x.1.1, .int .u16 x.1.2.1, .int .u8 x.1.2.2.1, .slice (A4, x.2.2.1, c4).1 (A4, x.2.2.1, c4).2.1 (A4, x.2.2.1, c4).2.2] 27 (0, 0) 4 1 rfl (by decide)) (dcl_one (x.1, (A4, x.2.2.1, c4))) (by omega) (by decide) (Nat.le_trans BB.out.size (below_lit _ _).size) ?_); intro A3 c3 w5 o5 g5)
      have hbl := below_lit w12 (.cells #[.int .u8 x.1.1, .int .u16 x.1.2.1, .int .u8 x.1.2.2.1, .slice (A4, x.2.2.1, c4).1 (A4, x.2.2.1, c4).2.1 (A4, x.2.2.1, c4).2.2] 27)
      have B5 := Lib.hid ((BB.out.alloc BB.out.size _).grown g5 (Nat.le_trans BB.out.size hbl.size) (Ows.below SO.out.ow hbl).lt)
      have OF2 : Ows (w12.alloc (.cells #[.int .u8 x.1.1, .int .u16 x.1.2.1, .int .u8 x.1.2.2.1, .slice (A4, x.2.2.1, c4).1 (A4, x.2.2.1, c4).2.1 (A4, x.2.2.1, c4).2.2] 27)) w.heap.size 52 2 A4 x.2.2.1 c4 (spl x.1.2.2.2) := (OF.out.mono LX.out).below hbl
      have SO2 := Lib.hid (Dow.app (d := x.1) (hd := (A4, x.2.2.1, c4)) SO.out hbl OF2 o5 g5)
      clear g5 o5 hbl OF2
      go_roundw
      case rel => exact ⟨j + 1, A3, c3, zs ++ [(x.1, (A4, x.2.2.1, c4))], by omega, rfl, by go_num, by unfold Hid; rw [List.map_append, HZ.out, List.take_add_one, HX.out, List.map_append]; rfl, SO2, B5⟩
      case measure => simp [intOf]; omega
    · obtain rfl : j = n := by omega
      rw [List.take_of_length_le (by rw [← HL.out]; exact Nat.le_refl _)] at HZ
      go_wp2
      go_ret
      exact ⟨A2, j, c2, zs, rfl, HZ.out, SO.out, B.out⟩
end Go.Proofs.Ytdkchiodepdclaa
