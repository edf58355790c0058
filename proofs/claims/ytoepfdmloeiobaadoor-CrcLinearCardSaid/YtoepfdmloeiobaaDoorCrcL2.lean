/- Walk of CrcParts. -/
import Derived.Test.YtoepfdmloeiobaaDoorCrc2
import Derived.Test.YtoepfdmloeiobaaDoorCrcTab
namespace Go.Proofs.YtoepfdmloeiobaaDoor
open Go.RowKit
set_option linter.unusedVariables false

theorem sum_of (A : Option Addr) (n c : Nat) (xs : List Value) (l : List UInt8) (x : Nat) (w : World) (h : Sv w w.heap.size A n c xs) (hT : Tab w) (hx : xs = l.map Bv) (hs : csum l = x) :
    Calls Tryd.prog 10 #[.slice A n c] w fun e w' => e = .returned (.int .u32 (x : Nat)) ∧ w = w' := by
  subst hx hs
  exact sum_any A n c _ l w h hT
theorem more_of (s x : Nat) (A : Option Addr) (n c : Nat) (xs : List Value) (l : List UInt8) (w : World) (h : Sv w w.heap.size A n c xs) (hT : Tab w) (hs : s < 4294967296) (hx : xs = l.map Bv) (hm : more s l = x) :
    Calls Tryd.prog 12 #[.int .u32 s, .slice A n c] w fun e w' => e = .returned (.int .u32 (x : Nat)) ∧ w = w' := by
  subst hx hm
  exact more_any s A n c _ l w h hT hs

theorem more_lit (s x : Nat) (p : UInt8) (w : World) (hT : Tab w) (hs : s < 4294967296) (hm : more s [p] = x) :
    Calls Tryd.prog 12 #[.int .u32 s, .slice (some ⟨w.heap.size, 0, none⟩) 1 1] (w.alloc (.cells #[.int .u8 (p.toNat : Int)] 5)) fun e w' => e = .returned (.int .u32 (x : Nat)) ∧ Below w.heap.size w w' :=
  (more_of s x _ 1 1 _ [p] _ (Sl.lit w 5 (0, 0) (l := [p]) rfl rfl (by simp)) (hT.next (below_lit w _)) hs rfl hm).mono fun e w' ⟨he, h2⟩ => ⟨he, h2 ▸ below_lit w _⟩

set_option maxHeartbeats 400000 in
theorem parts_any (A : Option Addr) (n c : Nat) (l : List UInt8) (A' : Option Addr) (n' c' : Nat) (t : List UInt8) (p q : UInt8) (w : World) (h : Sl w w.heap.size A n c l) (h' : Sl w w.heap.size A' n' c' t) (hT : Tab w) (hn : (n : Int) ≤ 300) (hn' : (n' : Int) ≤ 300)
    (x y : Nat) (hx : csum (l ++ t ++ [p]) = x) (hy : csum (l ++ t ++ [q]) = y) (hxy : ((x : Int) == (y : Int)) = ((p.toNat : Int) == (q.toNat : Int))) :
    Calls Tryd.prog 4 #[.slice A n c, .slice A' n' c', .int .u8 p.toNat, .int .u8 q.toNat] w fun e w' => e = .returned (.bool true) ∧ Below w.heap.size w w' := by
  have E : Env w [(A', n', c', t.map Bv), (A, n, c, l.map Bv)] := ((Env.nil w).add h).add h'
  have hB := Below.refl w.heap.size w
  have HT : Hid (Tab w) := hT
  have HX : Hid (csum (l ++ t ++ [p]) = x) := hx
  have HY : Hid (csum (l ++ t ++ [q]) = y) := hy
  have hl := csum_le l
  have hlt := csum_le (l ++ t)
  have HLL : Hid (more (csum l) t = csum (l ++ t)) := csum_more l t
  have HL0 : Hid (more (csum l) [] = csum l) := more_nil _ hl
  have HLX : Hid (more (csum (l ++ t)) [p] = x) := by unfold Hid; rw [csum_more, HX.out]
  clear h h' hT hx hy
  go_enter Tryd.func4, Tryd.ntmps4
  go_wp2_with (first
    | (at_builtin; have o0 := o2; go_must (refine wpList_app2 rfl _ _ 23 rfl Tryd.underlying23 infoU8 rfl rfl (o0.alloc _) rfl (Sv.one _ _ _) (fun u hu => by simp at hu; subst hu; rfl) (by decide) (by omega) (by decide) (by simp; have := hB.size; omega) ?_); intro A3 c3 w3 o3 o2 g3; replace hB := (hB.alloc hB.size _).grown g3 (by simp; have := hB.size; omega) o0.lt; clear o0 g3)
    | (at_builtin; have o0 := o1; go_must (refine wpList_app rfl _ _ 23 rfl Tryd.underlying23 infoU8 rfl rfl o0 rfl ((E.next hB).of (by repeat (first | exact List.Mem.head _ | apply List.Mem.tail))) (Bv_one _) (by omega) (by decide) hB.size ?_); intro A2 c2 w2 o2 g2; replace hB := hB.grown g2 hB.size o0.lt; clear o0 o1 g2)
    | (at_builtin; go_must (refine wpList_app rfl _ _ 23 rfl Tryd.underlying23 infoU8 rfl rfl (Own.lit0 _ 5) rfl ((E.next (below_lit _ _)).of (by repeat (first | exact List.Mem.head _ | apply List.Mem.tail))) (Bv_one _) (by omega) (by decide) (by simp) ?_); intro A1 c1 w1 o1 g1; replace hB := ((Below.refl _ _).alloc (Nat.le_refl _) _).grown g1 (by simp) (Own.lit0 _ 5).lt; rw [Nat.zero_add, List.nil_append] at o1; clear g1)
    | (go_at_call_of 10 A3; go_must (refine (sum_of _ _ _ _ _ _ _ o3.sv (HT.out.next hB) (by first | (show _ = List.map Bv (l ++ t ++ [p]); simp [Bv]; done) | (show _ = List.map Bv (l ++ t ++ [q]); simp [Bv]; done)) (by first | exact HX.out | exact HY.out)).mono ?_); rintro e w4 ⟨rfl, rfl⟩; clear o3)
    | (go_at_call_of 10 A2; go_must (refine (sum_of _ _ _ _ (l ++ t) _ _ o2.sv (HT.out.next hB) (by simp) rfl).mono ?_); rintro e w4 ⟨rfl, rfl⟩)
    | (go_at_call_of 10 A; go_must (refine (sum_of _ _ _ _ l _ _ ((E.next hB).of (by repeat (first | exact List.Mem.head _ | apply List.Mem.tail))) (HT.out.next hB) rfl rfl).mono ?_); rintro e w4 ⟨rfl, rfl⟩)
    | (go_at_call_of 12 A'; go_must (refine (more_of _ _ _ _ _ _ t _ ((E.next hB).of (by repeat (first | exact List.Mem.head _ | apply List.Mem.tail))) (HT.out.next hB) (by omega) rfl HLL.out).mono ?_); rintro e w4 ⟨rfl, rfl⟩))
  refine (more_lit _ _ p _ (HT.out.next hB) (by omega) HLX.out).mono ?_
  rintro e w4 ⟨rfl, b4⟩
  replace hB := hB.trans (b4.mono hB.size); clear b4
  go_wp2_with fail
  refine (sum_of _ _ _ _ l _ _ ((E.next hB).of (by repeat (first | exact List.Mem.head _ | apply List.Mem.tail))) (HT.out.next hB) rfl rfl).mono ?_
  rintro e w5 ⟨rfl, rfl⟩
  go_wp2_with fail
  refine (more_of _ _ _ _ _ _ [] _ (Sv.nil rfl) (HT.out.next hB) (by omega) rfl HL0.out).mono ?_
  rintro e w5 ⟨rfl, rfl⟩
  go_wp2_with fail
  refine (sum_of _ _ _ _ l _ _ ((E.next hB).of (by repeat (first | exact List.Mem.head _ | apply List.Mem.tail))) (HT.out.next hB) rfl rfl).mono ?_
  rintro e w5 ⟨rfl, rfl⟩
  go_wp2_with fail
  refine (awake_any _ (HT.out.next hB)).mono ?_
  rintro e w6 ⟨rfl, b4⟩; replace hB := hB.trans (b4.mono hB.size); clear b4
  go_wp2_with fail
  go_ret
  exact ⟨rfl, hB⟩
theorem parts_full (A : Option Addr) (n c : Nat) (l : List UInt8) (A' : Option Addr) (n' c' : Nat) (t : List UInt8) (p q : Int) (w : World) (h : Sl w w.heap.size A n c l) (h' : Sl w w.heap.size A' n' c' t) (hT : Tab w) (hp : 0 ≤ p ∧ p ≤ 255) (hq : 0 ≤ q ∧ q ≤ 255) :
    Calls Tryd.prog 4 #[.slice A n c, .slice A' n' c', .int .u8 p, .int .u8 q] w fun e w' => e = .returned (.bool true) ∧ Below w.heap.size w w' := by
  by_cases hn : 300 < (n : Int) ∨ 300 < (n' : Int)
  · clear hp hq
    by_cases h1 : 300 < (n : Int)
    · clear hn
      go_enter Tryd.func4, Tryd.ntmps4
      go_wp2_with (go_at_call 7; go_must (refine (awake_any _ hT).mono ?_); rintro e w1 ⟨rfl, b1⟩)
      go_ret
      exact ⟨rfl, b1⟩
    · have h2 : 300 < (n' : Int) := by omega
      clear hn
      go_enter Tryd.func4, Tryd.ntmps4
      go_wp2_with (go_at_call 7; go_must (refine (awake_any _ hT).mono ?_); rintro e w1 ⟨rfl, b1⟩)
      go_ret
      exact ⟨rfl, b1⟩
  · obtain ⟨p, rfl⟩ : ∃ u : UInt8, p = (u.toNat : Int) := ⟨UInt8.ofNat p.toNat, by rw [UInt8.toNat_ofNat']; omega⟩
    obtain ⟨q, rfl⟩ : ∃ u : UInt8, q = (u.toNat : Int) := ⟨UInt8.ofNat q.toNat, by rw [UInt8.toNat_ofNat']; omega⟩
    refine parts_any A n c l A' n' c' t p q w h h' hT (by omega) (by omega) _ _ rfl rfl ?_
    have key := csum_snoc_inj (l ++ t) p q
    rw [Bool.eq_iff_iff, beq_iff_eq, beq_iff_eq]
    constructor
    · intro e
      rw [key.1 (by omega)]
    · intro e
      rw [key.2 (UInt8.toNat_inj.1 (by omega))]
end Go.Proofs.YtoepfdmloeiobaaDoor
