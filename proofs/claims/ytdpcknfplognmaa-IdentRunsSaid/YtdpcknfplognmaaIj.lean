/- Layer 7: ident.Put. -/
import Derived.Test.YtdpcknfplognmaaIi
namespace Go.Proofs.Ytdpcknfplognmaa
open Go.RowKit
set_option linter.unusedVariables false
def tyD (xs : List Id3) (n : Nat) : Ty := .pred (fun v w => ∃ A c, v = .slice A n c ∧ Sd w w.heap.size A n c xs) (fun _ _ _ ⟨A, c, h, s⟩ hb => ⟨A, c, h, s.next hb⟩)
def tyW (B : Nat) (xs : List Id3) (n : Nat) : Ty := .pred (fun v w => ∃ A c, v = .slice A n c ∧ Ows w B 25 3 A n c (idl xs)) (fun _ _ _ ⟨A, c, h, o⟩ hb => ⟨A, c, h, o.below hb⟩)
def ty3 (v1 v3 : Value) (x : Id3) : Ty := .pred (fun v w => ∃ A c, v = .slice A 3 c ∧ ∃ A' c', Sv w w.heap.size A 3 c [v1, .slice A' 1 c', v3] ∧ Sd w w.heap.size A' 1 c' [x]) (fun _ _ _ ⟨A, c, h, A', c', s, s'⟩ hb => ⟨A, c, h, A', c', (s.below hb).more hb.size, s'.next hb⟩)
theorem sd_lit (w : World) (x : Id3) : Sd (w.alloc (.cells #[.int .u8 x.1, .int .u16 x.2.1, .int .u32 x.2.2] 25)) (w.alloc (.cells #[.int .u8 x.1, .int .u16 x.2.1, .int .u32 x.2.2] 25)).heap.size (some ⟨w.heap.size, 0, none⟩) 1 1 [x] :=
  (Sn.lit w #[.int .u8 x.1, .int .u16 x.2.1, .int .u32 x.2.2] 25 (0, 0) 3 1 rfl (by decide)).more (by simp)
theorem put_at' {x : Id3} {l : List Id3} (h : x ∉ l) : putL l x = l.take (l.findIdx (lessB x)) ++ ([x] ++ l.drop (l.findIdx (lessB x))) := by
  unfold putL; rw [if_neg h, insL_at]; rfl
set_option maxHeartbeats 4000000 in
theorem put_own (A : Option Addr) (n c : Nat) (l : List Id3) (x : Id3) (w : World) (h : Sd w w.heap.size A n c l) (hn8 : n ≤ 1000000) :
    Calls Try.prog 20 #[.slice A n c, (.agg #[.int .u8 x.1, .int .u16 x.2.1, .int .u32 x.2.2])] w (GaveW (putL l x) w) := by
  have HL : Hid (n = l.length) := sd_len h
  have hm := h.max
  have hc := h.cap
  unfold maxLen at hm
  have bl := below_lit w (.cells #[.int .u8 x.1, .int .u16 x.2.1, .int .u32 x.2.2] 25)
  have HS := Lib.hid (h.next bl)
  have HX := Lib.hid (IdBlk.new w x)
  have BL := Lib.hid bl
  clear h bl
  by_cases hx : x ∈ l
  · have HF := Lib.hid (decide_eq_true hx)
    have HR : Hid (putL l x = l) := if_pos hx
    clear hx
    go_enter Try.func20, Try.ntmps20
    go_upto_region 1 with fail
    generalize w.alloc _ = W at *
    obtain ⟨g, hg⟩ : ∃ g, w.heap.size = g := ⟨_, rfl⟩
    rw [hg] at HX ⊢
    obtain ⟨c0, c1, c2⟩ := HX.out.cells
    go_wp2_with fail
    have hc := has_any A n c l x W HS.out
    rw [HF.out] at hc
    refine hc.mono ?_
    rintro e W1 ⟨rfl, b1⟩
    replace HS := Lib.hid (HS.out.next b1)
    replace BL := Lib.hid (thn BL.out b1)
    clear b1 hc c0 c1 c2
    go_wp2_with fail
    refine (clone_any A n c l W1 HS.out hn8).mono ?_
    rintro e W2 ⟨A2, c2, rfl, o2, b2⟩
    have S2 := Lib.hid o2
    have hsz := BL.out.size
    replace BL := Lib.hid (thn BL.out b2)
    clear o2 b2
    go_wp2
    go_ret
    rw [HR.out]
    exact gaveW_of S2.out hsz BL.out rfl
  · have HF := Lib.hid (decide_eq_false hx)
    have HR := Lib.hid (put_at' hx)
    have hk : l.findIdx (lessB x) ≤ n := by rw [HL.out]; exact List.findIdx_le_length
    clear hx
    go_enter Try.func20, Try.ntmps20
    go_upto_region 1 with fail
    generalize w.alloc _ = W at *
    obtain ⟨g, hg⟩ : ∃ g, w.heap.size = g := ⟨_, rfl⟩
    rw [hg] at HX ⊢
    obtain ⟨c0, c1, c2⟩ := HX.out.cells
    go_wp2_with fail
    have hc := has_any A n c l x W HS.out
    rw [HF.out] at hc
    refine hc.mono ?_
    rintro e W1 ⟨rfl, b1⟩
    replace HS := Lib.hid (HS.out.next b1)
    replace HX := Lib.hid (HX.out.next b1)
    replace BL := Lib.hid (thn BL.out b1)
    clear b1 hc c0 c1 c2
    go_wp2_with fail
    refine (place_any A n c l 33 g x (lessB x) (enters_of Try.func33 (by kernel_rfl) rfl) (fun W y hB => put1_any hB) W1 HX.out HS.out).mono ?_
    generalize l.findIdx (lessB x) = k at *
    rintro e W2 ⟨rfl, b2⟩
    replace HS := Lib.hid (HS.out.next b2)
    replace HX := Lib.hid (HX.out.next b2)
    replace BL := Lib.hid (thn BL.out b2)
    clear b2
    have hup := fun w' : World => run_upto (P := Try.prog) (w := w') (A := A) (n := n) (c := c) (hi := k) 26 25 Try.underlying26 rfl 3 (fun w' => Try.sizeOf25 w') .i64 (k : Int) rfl (by omega)
    obtain ⟨A2, htl, s2⟩ := HS.out.tail (lo := k) (by omega) 26 25 Try.underlying26 rfl (fun w' => Try.sizeOf25 w') .i64 (k : Int) rfl
    rw [idl_drop] at s2
    have S1 := Lib.hid (sd_upto HS.out hk)
    have S2 := Lib.hid s2
    clear s2
    go_wp2
    refine wp_region_typed 10 [(14, .val (.slice A n c)), (15, .val (.int .i64 (k : Int))), (16, .val (.slice A k c)), (17, .val (.agg #[.int .u8 x.1, .int .u16 x.2.1, .int .u32 x.2.2])), (18, tyD [x] 1), (19, .val (.slice A n c)), (20, .val (.int .i64 (k : Int))), (21, .val (.slice A2 (n - k) (c - k))), (22, ty3 (.slice A k c) (.slice A2 (n - k) (c - k)) x), (23, tyW W2.heap.size (putL l x) (putL l x).length)]
      [[], [], [14, 15], [], [17], [], [], [19, 20], [16, 18, 21], [22]] (by kernel_rfl) (by kernel_rfl) ?_ ?_
    rotate_left
    · intro w9 hb
      simp only [List.take_succ_cons, List.take_zero, List.drop_succ_cons, List.drop_zero]
      refine over_ds (ds := [14, 15, 16, 17, 18, 19, 20, 21, 22, 23]) (by kernel_rfl) ?_
      refine over_some (ds1 := [14, 15, 16, 17]) (ds2 := [18, 19, 20, 21, 22, 23]) [(.slice A n c), (.int .i64 (k : Int)), (.slice A k c), (.agg #[.int .u8 x.1, .int .u16 x.2.1, .int .u32 x.2.2])] (by kernel_rfl) ?_
      refine over_pred rfl ?_
      rintro _ ⟨A8, c8, rfl, s8⟩
      refine over_some (ds1 := [19, 20, 21]) (ds2 := [22, 23]) [(.slice A n c), (.int .i64 (k : Int)), (.slice A2 (n - k) (c - k))] (by kernel_rfl) ?_
      refine over_pred rfl ?_
      rintro _ ⟨A8, c8, rfl, s8⟩
      refine over_pred rfl ?_
      rintro _ ⟨A8, c8, rfl, s8⟩
      refine over_nil ?_
      simp only [putAll, put_lit, List.set_cons_succ, List.set_cons_zero]
      have S8 := Lib.hid s8
      clear s8
      have BB := Lib.hid (thn BL.out hb)
      clear hb
      go_wp2
      go_ret
      exact gaveW_of S8.out BL.out.size BB.out rfl
    simp only [List.take_succ_cons, List.take_zero]
    refine ⟨?r1g0, ?r1g1, ?r1g2, ?r1g3, ?r1g4, ?r1g5, ?r1g6, ?r1g7, ?r1g8, ?r1g9, trivial⟩
    case r1g0 =>
      intro w9 hb
      refine over_nil ?_
      go_wp2
      first | exact post_of (by rfl) (by rfl) (Below.refl _ _) (by rfl) | exact rfl
    case r1g1 =>
      intro w9 hb
      refine over_nil ?_
      go_wp2
      first | exact post_of (by rfl) (by rfl) (Below.refl _ _) (by rfl) | exact rfl
    case r1g2 =>
      intro w9 hb
      refine over_some (ds1 := [14, 15]) (ds2 := []) [(.slice A n c), (.int .i64 (k : Int))] (by kernel_rfl) ?_
      refine over_nil ?_
      simp only [putAll, put_lit, List.set_cons_succ, List.set_cons_zero]
      go_wp2
      first | exact post_of (by rfl) (by rfl) (Below.refl _ _) (by rfl) | exact rfl
    case r1g3 =>
      intro w9 hb
      refine over_nil ?_
      obtain ⟨c0, c1, c2⟩ := (HX.out.next hb).cells
      go_wp2
      first | exact post_of (by rfl) (by rfl) (Below.refl _ _) (by rfl) | exact rfl
    case r1g4 =>
      intro w9 hb
      refine over_some (ds1 := [17]) (ds2 := []) [(.agg #[.int .u8 x.1, .int .u16 x.2.1, .int .u32 x.2.2])] (by kernel_rfl) ?_
      refine over_nil ?_
      simp only [putAll, put_lit, List.set_cons_succ, List.set_cons_zero]
      go_wp2
      exact post_of (by rfl) (by rfl) (below_lit _ _) (by exact ⟨_, _, rfl, sd_lit w9 x⟩)
    case r1g5 =>
      intro w9 hb
      refine over_nil ?_
      go_wp2
      first | exact post_of (by rfl) (by rfl) (Below.refl _ _) (by rfl) | exact rfl
    case r1g6 =>
      intro w9 hb
      refine over_nil ?_
      go_wp2
      first | exact post_of (by rfl) (by rfl) (Below.refl _ _) (by rfl) | exact rfl
    case r1g7 =>
      intro w9 hb
      refine over_some (ds1 := [19, 20]) (ds2 := []) [(.slice A n c), (.int .i64 (k : Int))] (by kernel_rfl) ?_
      refine over_nil ?_
      simp only [putAll, put_lit, List.set_cons_succ, List.set_cons_zero]
      go_wp2
      first | exact post_of (by rfl) (by rfl) (Below.refl _ _) (by rfl) | exact rfl
    case r1g8 =>
      intro w9 hb
      refine over_some (ds1 := [16]) (ds2 := [18, 21]) [(.slice A k c)] (by kernel_rfl) ?_
      refine over_pred rfl ?_
      rintro _ ⟨A8, c8, rfl, s8⟩
      refine over_some (ds1 := [21]) (ds2 := []) [(.slice A2 (n - k) (c - k))] (by kernel_rfl) ?_
      refine over_nil ?_
      simp only [putAll, put_lit, List.set_cons_succ, List.set_cons_zero]
      go_wp2
      exact post_of (by rfl) (by rfl) (below_lit _ _) (by exact ⟨_, _, rfl, A8, c8, (Sv.lit w9 _ _ _ 3 rfl (by decide)).more (by simp), s8.next (below_lit _ _)⟩)
    case r1g9 =>
      intro w9 hb
      refine over_pred rfl ?_
      rintro _ ⟨A8, c8, rfl, A7, c7, s8, s7⟩
      refine over_nil ?_
      simp only [put_lit, List.set_cons_succ, List.set_cons_zero]
      have S8 := Lib.hid s8
      have S7 := Lib.hid s7
      clear s8 s7
      go_wp2_with fail
      refine (concat_any A8 3 c8 [(A, k, c, l.take k), (A7, 1, c7, [x]), (A2, n - k, c - k, l.drop k)] w9 S8.out ?_ ?_ (by decide)).mono ?_
      · intro p hp; simp only [List.mem_cons, List.not_mem_nil, or_false] at hp; rcases hp with rfl | rfl | rfl
        · exact S1.out.next hb
        · exact S7.out
        · exact S2.out.next hb
      · intro p hp; simp only [List.mem_cons, List.not_mem_nil, or_false] at hp; rcases hp with rfl | rfl | rfl
        · show k ≤ 1000000; omega
        · show 1 ≤ 1000000; omega
        · show n - k ≤ 1000000; omega
      · have hflat : flat [(A, k, c, l.take k), (A7, 1, c7, [x]), (A2, n - k, c - k, l.drop k)] = putL l x := by rw [HR.out]; simp [flat]
        rw [hflat]
        rintro e w8 ⟨A9, c9, rfl, s9, b6⟩
        have S9 := Lib.hid s9
        clear s9
        go_wp2
        exact post_of (by rfl) (by rfl) b6 (by exact ⟨_, _, rfl, S9.out.mono hb.size⟩)
theorem put_any (A : Option Addr) (n c : Nat) (l : List Id3) (x : Id3) (w : World) (h : Sd w w.heap.size A n c l) (hn8 : n ≤ 1000000) :
    Calls Try.prog 20 #[.slice A n c, (.agg #[.int .u8 x.1, .int .u16 x.2.1, .int .u32 x.2.2])] w (GaveD (putL l x) w) := (put_own A n c l x w h hn8).mono fun _ _ h => h.d
end Go.Proofs.Ytdpcknfplognmaa
