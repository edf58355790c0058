/- Layer 9: the law's View: what it makes is a view. -/
import Derived.Test.YtdkchiodepdclaaRx
namespace Go.Proofs.Ytdkchiodepdclaa
open Go.RowKit
set_option linter.unusedVariables false
/-- What the view has so far: descriptors of the list, each Inc at least 1, of nodes below k. -/
structure ViewX (xs zs : List (Dsc × Hd)) (me room : Int) (k : Int) : Prop where
  from_ : ∀ z ∈ zs, (∃ x ∈ xs, z.1.1 = x.1.1 ∧ z.1.2.2 = x.1.2.2 ∧ z.2 = x.2) ∧ 1 ≤ z.1.2.1 ∧ z.1.2.1 ≤ 65535 ∧ z.1.1 ≠ me ∧ z.1.1 < k
  rise : zs.Pairwise fun a b => a.1.1 < b.1.1
  room_ : (zs.length : Int) ≤ room
theorem ViewX.nil (xs : List (Dsc × Hd)) {self room : Int} (h : 0 ≤ room) : ViewX xs [] self room 0 := ⟨(fun z hz => by cases hz), List.Pairwise.nil, by simpa using h⟩
theorem ViewX.up {xs zs : List (Dsc × Hd)} {self room k : Int} (h : ViewX xs zs self room k) : ViewX xs zs self room (k + 1) := ⟨(fun z hz => by
  obtain ⟨a, b, c, d, e⟩ := h.from_ z hz
  exact ⟨a, b, c, d, by omega⟩), h.rise, h.room_⟩
theorem ViewX.add {xs zs : List (Dsc × Hd)} {self room k : Int} (h : ViewX xs zs self room k) {x : Dsc × Hd} (hx : x ∈ xs) {m : Int} (hm : 1 ≤ m) (hm2 : m ≤ 65535) (hk : x.1.1 = k) (hs : x.1.1 ≠ self) (hr : (zs.length : Int) < room) : ViewX xs (zs ++ [((x.1.1, m, x.1.2.2), x.2)]) self room (k + 1) := by
  refine ⟨fun z hz => ?_, List.pairwise_append.2 ⟨h.rise, List.pairwise_singleton _ _, fun a ha b hb => ?_⟩, by simp; omega⟩
  · rcases List.mem_append.1 hz with hz | hz
    · exact h.up.from_ z hz
    · rw [List.mem_singleton] at hz; subst hz
      exact ⟨⟨x, hx, rfl, rfl, rfl⟩, hm, hm2, hs, by show x.1.1 < k + 1; omega⟩
  · rw [List.mem_singleton] at hb; subst hb
    have := (h.from_ a ha).2.2.2.2
    show a.1.1 < x.1.1
    omega
theorem ViewX.right {xs zs : List (Dsc × Hd)} {self room k : Int} (h : ViewX xs zs self room k) : RightD (zs.map (·.1)) self room := by
  refine ⟨fun d hd => ?_, ?_, ?_, by simpa using h.room_⟩
  · obtain ⟨z, hz, rfl⟩ := List.mem_map.1 hd
    obtain ⟨_, a, b, c, _⟩ := h.from_ z hz
    exact ⟨c, by omega⟩
  · rw [List.pairwise_map]; exact h.rise
  · have := h.room_; omega
theorem ViewX.well {xs zs : List (Dsc × Hd)} {self room k : Int} (h : ViewX xs zs self room k) {L : Nat} (hx : ∀ x ∈ xs, dscR x.1 ∧ x.1.2.2.2.length ≤ L) : ∀ z ∈ zs, dscR z.1 ∧ z.1.2.2.2.length ≤ L := fun z hz => by
  obtain ⟨⟨x, hxm, e1, e2, e3⟩, a, b, c, d⟩ := h.from_ z hz
  obtain ⟨⟨r1, r2, r3⟩, l⟩ := hx x hxm
  refine ⟨⟨by rw [e1]; exact r1, ⟨by omega, by omega⟩, by rw [e2]; exact r3⟩, by rw [e2]; exact l⟩
set_option maxHeartbeats 2000000 in
theorem view_any (A : Option Addr) (n c : Nat) (xs : List (Dsc × Hd)) (self room : Int) (w : World) (h : Sds w A n c xs) (hR : ∀ x ∈ xs, dscR x.1) (h0 : 0 ≤ room) : Calls Try.prog 18 #[.slice A n c, .int .u8 self, .int .i64 room] w fun e w' => ∃ (A2 : Option Addr) (m c2 : Nat) (zs : List (Dsc × Hd)), e = .returned (.slice A2 m c2) ∧ ViewX xs zs self room 256 ∧ Ods w' w.heap.size A2 m c2 zs ∧ Below w.heap.size w w' := by
  have HL : Hid (n = xs.length) := h.len
  have HR := Lib.hid hR
  have hm := h.max
  have hc := h.cap
  unfold maxLen at hm
  have HS := Lib.hid h
  clear h hR
  go_enter Try.func18, Try.ntmps18
  go_wp2
  go_loopw [7, 11] (fun lv kv wr => ∃ (k m : Nat) (A2 : Option Addr) (c2 : Nat) (zs : List (Dsc × Hd)), k ≤ 256 ∧ m ≤ k ∧ lv = .slice A2 m c2 ∧ kv = .int .i64 k ∧ Hid (ViewX xs zs self room k) ∧ Hid (Ods wr w.heap.size A2 m c2 zs) ∧ Hid (Below w.heap.size w wr)) (fun _ kv _ => 256 - (intOf kv).toNat)
  case atStart => exact ⟨0, 0, none, 0, [], by omega, Nat.le_refl _, rfl, rfl, ViewX.nil xs h0, Ods.nil _ _, Below.refl _ _⟩
  case round =>
    obtain ⟨k, m, A2, c2, zs, hk, hmk, rfl, rfl, HV, SO, B⟩ := hrel
    have k0 : (0 : Int) ≤ (k : Int) := by omega
    by_cases hkl : k < 256
    · have k1 : (k : Int) < 256 := by omega
      go_wp2
      go_loopw [7, 16] (fun lv iv wq => ∃ j : Nat, j ≤ n ∧ lv = .slice A2 m c2 ∧ iv = .int .i64 j ∧ Hid (Ods wq w.heap.size A2 m c2 zs) ∧ Hid (Below w.heap.size w wq)) (fun _ iv _ => n - (intOf iv).toNat)
      case atStart => exact ⟨0, Nat.zero_le _, rfl, rfl, SO, B⟩
      case round =>
        clear SO B
        obtain ⟨j, hj, rfl, rfl, SO, B⟩ := hrel
        have i0 : (0 : Int) ≤ (j : Int) := by omega
        by_cases hlt : j < n
        · obtain ⟨b, off, x, rfl, hb, hx, hxm, c0, c1, c2', c3'⟩ := (HS.out.next B.out).at_ hlt
          have i1 : (j : Int) < (n : Int) := by omega
          obtain ⟨⟨r0, r1⟩, _⟩ := HR.out x hxm
          have HXM := Lib.hid hxm
          clear hx hxm hb
          go_upto_region 8 with fail
          clear c0 c1 c2' c3'
          have BW : Hid (Below wr.heap.size wr (wr.alloc (.cells #[.int .u8 x.1.1, .int .u16 x.1.2.1, .int .u8 x.1.2.2.1, .slice x.2.1 x.2.2.1 x.2.2.2] 27))) := below_lit wr (.cells #[.int .u8 x.1.1, .int .u16 x.1.2.1, .int .u8 x.1.2.2.1, .slice x.2.1 x.2.2.1 x.2.2.2] 27)
          have KD : Hid (DBlk (wr.alloc (.cells #[.int .u8 x.1.1, .int .u16 x.1.2.1, .int .u8 x.1.2.2.1, .slice x.2.1 x.2.2.1 x.2.2.2] 27)) wr.heap.size x.1 x.2) := DBlk.new wr x.1 x.2
          have LX : Hid (w.heap.size ≤ wr.heap.size) := B.out.size
          have HG : Hid (∃ g, wr.heap.size = g) := ⟨_, rfl⟩
          generalize wr.alloc (.cells #[.int .u8 x.1.1, .int .u16 x.1.2.1, .int .u8 x.1.2.2.1, .slice x.2.1 x.2.2.1 x.2.2.2] 27) = w10 at *
          obtain ⟨g, hg⟩ := HG.out
          rw [hg] at KD LX ⊢
          have HG2 := Lib.hid hg
          clear hg HG
          obtain ⟨p0, p1, p2, p3⟩ := KD.out.cells
          have fr := KD.out.free
          by_cases he : x.1.1 = k ∧ x.1.1 ≠ self ∧ (m : Int) < room
          · obtain ⟨he1, he2, he3⟩ := he
            have heb : (x.1.1 == (k : Int)) = true := by simpa using he1
            have heb2 : (x.1.1 != self) = true := by simpa using he2
            have HE := Lib.hid he1
            have HE2 := Lib.hid he2
            clear he1 he2
            set_option maxRecDepth 4000 in
            go_upto_region 9 with fail
            go_upto_region 10 with fail
            clear p0 p1 p2 p3 fr
            have hgs := grown_set w10 g 1 (.int .u16 (if x.1.2.1 < 1 then 1 else x.1.2.1))
            have KD2 : Hid (DBlk (w10.setCell ⟨g, 1, none⟩ (.int .u16 (if x.1.2.1 < 1 then 1 else x.1.2.1))) g (x.1.1, (if x.1.2.1 < 1 then 1 else x.1.2.1), x.1.2.2) x.2) := KD.out.put1 _
            replace BW := Lib.hid (belowG BW.out hgs BW.out.size (Nat.le_of_eq HG2.out))
            have HM : Hid (1 ≤ (if x.1.2.1 < 1 then 1 else x.1.2.1) ∧ (if x.1.2.1 < 1 then 1 else x.1.2.1) ≤ 65535) := by
              obtain ⟨_, q, _⟩ := HR.out x HXM.out
              unfold Hid
              split <;> omega
            clear hgs KD
            generalize w10.setCell ⟨g, 1, none⟩ (.int .u16 (if x.1.2.1 < 1 then 1 else x.1.2.1)) = w12 at *
            generalize (if x.1.2.1 < 1 then 1 else x.1.2.1) = v at *
            have BB := Lib.hid (thn B.out BW.out)
            have SO2 := Lib.hid (SO.out.below BW.out)
            have SF := Lib.hid ((HS.out.fl x HXM.out).next BB.out)
            obtain ⟨p0, p1, p2, p3⟩ := KD2.out.cells
            have HLZ : Hid (m = zs.length) := SO.out.len
            go_wp2_with (at_builtin; go_must (refine wpList_appsx rfl _ _ 23 rfl Try.underlying23 infoD rfl (by decide) rfl (Ows.below SO2.out.ow (below_lit _ _)) rfl (Sn.lit w12 #[.int .u8 (x.1.1, v, x.1.2.2).1, .int .u16 (x.1.1, v, x.1.2.2).2.1, .int .u8 (x.1.1, v, x.1.2.2).2.2.1, .slice x.2.1 x.2.2.1 x.2.2.2] 27 (0, 0) 4 1 rfl (by decide)) (dcl_one ((x.1.1, v, x.1.2.2), x.2)) (by omega) (by decide) (Nat.le_trans BB.out.size (below_lit _ _).size) ?_); intro A3 c3 w5 o5 g5)
            have hbl := below_lit w12 (.cells #[.int .u8 (x.1.1, v, x.1.2.2).1, .int .u16 (x.1.1, v, x.1.2.2).2.1, .int .u8 (x.1.1, v, x.1.2.2).2.2.1, .slice x.2.1 x.2.2.1 x.2.2.2] 27)
            have B5 := Lib.hid ((BB.out.alloc BB.out.size _).grown g5 (Nat.le_trans BB.out.size hbl.size) (Ows.below SO2.out.ow hbl).lt)
            have HV2 := Lib.hid (HV.out.add HXM.out HM.out.1 HM.out.2 HE.out HE2.out (by rw [← HLZ.out]; exact he3))
            have SO3 : Hid (Ods w5 w.heap.size A3 (m + 1) c3 (zs ++ [((x.1.1, v, x.1.2.2), x.2)])) := by
              refine ⟨by rw [dcs_append, dcs_cons, dcs_nil, List.append_nil]; exact o5, fun z hz => ?_⟩
              obtain ⟨⟨y, hy, _, e2, e3⟩, _⟩ := HV2.out.from_ z hz
              have := (HS.out.fl y hy).next B5.out
              show Sp _ _ z.2.1 z.2.2.1 z.2.2.2 z.1.2.2.2
              rw [e2, e3]; exact this
            clear g5 o5 hbl
            go_wp2
            go_roundw
            case rel => exact ⟨k + 1, m + 1, A3, c3, zs ++ [((x.1.1, v, x.1.2.2), x.2)], by omega, by omega, rfl, by go_num, HV2, SO3, B5⟩
            case measure => simp [intOf]; omega
          · by_cases he1 : x.1.1 = k
            · have heb : (x.1.1 == (k : Int)) = true := by simpa using he1
              by_cases he2 : x.1.1 = self
              · have heb2 : (x.1.1 != self) = false := by simpa using he2
                clear he he1 he2
                set_option maxRecDepth 4000 in
                go_wp2
                clear p0 p1 p2 p3 fr
                have SO2 := Lib.hid (SO.out.below BW.out)
                have BB := Lib.hid (thn B.out BW.out)
                go_roundw
                case rel => exact ⟨j + 1, by omega, rfl, by go_num, SO2, BB⟩
                case measure => simp [intOf]; omega
              · have heb2 : (x.1.1 != self) = true := by simpa using he2
                have he3 : ¬ ((m : Int) < room) := fun h => he ⟨he1, he2, h⟩
                clear he he1 he2
                set_option maxRecDepth 4000 in
                go_wp2
                clear p0 p1 p2 p3 fr
                have SO2 := Lib.hid (SO.out.below BW.out)
                have BB := Lib.hid (thn B.out BW.out)
                go_roundw
                case rel => exact ⟨j + 1, by omega, rfl, by go_num, SO2, BB⟩
                case measure => simp [intOf]; omega
            · have heb : (x.1.1 == (k : Int)) = false := by simpa using he1
              clear he he1
              set_option maxRecDepth 4000 in
              go_wp2
              clear p0 p1 p2 p3 fr
              have SO2 := Lib.hid (SO.out.below BW.out)
              have BB := Lib.hid (thn B.out BW.out)
              go_roundw
              case rel => exact ⟨j + 1, by omega, rfl, by go_num, SO2, BB⟩
              case measure => simp [intOf]; omega
        · obtain rfl : j = n := by omega
          have HV2 := Lib.hid HV.out.up
          go_wp2
          go_roundw
          case rel => exact ⟨k + 1, m, A2, c2, zs, by omega, by omega, rfl, by go_num, HV2, SO, B⟩
          case measure => simp [intOf]; omega
    · obtain rfl : k = 256 := by omega
      go_wp2
      go_ret
      exact ⟨A2, m, c2, zs, rfl, HV.out, SO.out, B.out⟩
end Go.Proofs.Ytdkchiodepdclaa
