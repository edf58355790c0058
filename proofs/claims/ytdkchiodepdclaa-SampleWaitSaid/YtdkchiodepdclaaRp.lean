/- Layer 9: the reference Put; plain facts of putting. -/
import Derived.Test.YtdkchiodepdclaaRt
namespace Go.Proofs.Ytdkchiodepdclaa
open Go.RowKit
set_option linter.unusedVariables false
section
variable {α : Type} (key : α → Int) (d : α)
/-- One step of putting: what is told so far, and whether d has been put. -/
def insStep (s : List α × Bool) (x : α) : List α × Bool :=
  let s1 := if !s.2 && decide (key d ≤ key x) then (s.1 ++ [d], true) else s
  if key x = key d then s1 else (s1.1 ++ [x], s1.2)
def insRun (xs : List α) : List α × Bool := xs.foldl (insStep key d) ([], false)
def insG (xs : List α) : List α := if (insRun key d xs).2 then (insRun key d xs).1 else (insRun key d xs).1 ++ [d]
theorem insRun_snoc (xs : List α) (x : α) : insRun key d (xs ++ [x]) = insStep key d (insRun key d xs) x := by simp [insRun]
theorem insStep_tt (zs : List α) (x : α) (h : key x ≠ key d) : insStep key d (zs, true) x = (zs ++ [x], true) := by simp [insStep, h]
theorem insStep_te (zs : List α) (x : α) (h : key x = key d) : insStep key d (zs, true) x = (zs, true) := by simp [insStep, h]
theorem insStep_fl (zs : List α) (x : α) (h : key x < key d) : insStep key d (zs, false) x = (zs ++ [x], false) := by
  have h1 : ¬ (key d ≤ key x) := by omega
  have h2 : key x ≠ key d := by omega
  simp [insStep, h1, h2]
theorem insStep_fe (zs : List α) (x : α) (h : key x = key d) : insStep key d (zs, false) x = (zs ++ [d], true) := by
  have h1 : key d ≤ key x := by omega
  simp [insStep, h]
theorem insStep_fg (zs : List α) (x : α) (h : key d < key x) : insStep key d (zs, false) x = (zs ++ [d] ++ [x], true) := by
  have h1 : key d ≤ key x := by omega
  have h2 : key x ≠ key d := by omega
  simp [insStep, h1, h2]
theorem insStep_mem {s : List α × Bool} {x z : α} (h : z ∈ (insStep key d s x).1) : z ∈ s.1 ∨ z = d ∨ z = x := by
  unfold insStep at h
  rcases s with ⟨zs, b⟩
  cases b <;> by_cases h1 : key d ≤ key x <;> by_cases h2 : key x = key d <;> simp [h1, h2] at h <;> simp <;> grind
theorem insRun_mem {xs : List α} : ∀ z ∈ (insRun key d xs).1, z = d ∨ z ∈ xs := by
  suffices H : ∀ (xs : List α) (s : List α × Bool), ∀ z ∈ (xs.foldl (insStep key d) s).1, z ∈ s.1 ∨ z = d ∨ z ∈ xs by
    intro z hz
    rcases H xs _ z hz with h | h | h
    · cases h
    · exact .inl h
    · exact .inr h
  intro xs
  induction xs with
  | nil => exact fun s z hz => .inl hz
  | cons x t ih =>
    intro s z hz
    rcases ih _ z hz with h | h | h
    · rcases insStep_mem key d h with h | h | h
      · exact .inl h
      · exact .inr (.inl h)
      · exact .inr (.inr (by rw [h]; exact List.mem_cons_self))
    · exact .inr (.inl h)
    · exact .inr (.inr (List.mem_cons_of_mem _ h))
theorem insRun_true (xs zs : List α) : xs.foldl (insStep key d) (zs, true) = (zs ++ xs.filter (fun x => decide (key x ≠ key d)), true) := by
  induction xs generalizing zs with
  | nil => simp
  | cons x t ih =>
    rw [List.foldl_cons]
    by_cases h : key x = key d
    · rw [insStep_te key d zs x h, ih, List.filter_cons_of_neg (by simpa using h)]
    · rw [insStep_tt key d zs x h, ih, List.filter_cons_of_pos (by simpa using h)]; simp
/-- What becomes of a rising list. -/
theorem insG_rise {xs : List α} (h : xs.Pairwise fun a b => key a < key b) : insG key d xs = xs.filter (fun x => decide (key x < key d)) ++ d :: xs.filter (fun x => decide (key d < key x)) := by
  suffices H : ∀ (xs zs : List α), (xs.Pairwise fun a b => key a < key b) → (if (xs.foldl (insStep key d) (zs, false)).2 then (xs.foldl (insStep key d) (zs, false)).1 else (xs.foldl (insStep key d) (zs, false)).1 ++ [d]) = zs ++ (xs.filter (fun x => decide (key x < key d)) ++ d :: xs.filter (fun x => decide (key d < key x))) by
    have := H xs [] h
    rw [List.nil_append] at this
    exact this
  intro xs
  induction xs with
  | nil => intro zs _; simp
  | cons x t ih =>
    intro zs hp
    rw [List.pairwise_cons] at hp
    obtain ⟨hx, ht⟩ := hp
    rw [List.foldl_cons]
    by_cases h1 : key x < key d
    · rw [insStep_fl key d zs x h1, ih _ ht, List.filter_cons_of_pos (by simpa using h1), List.filter_cons_of_neg (by simp; omega)]
      simp
    · have hl : t.filter (fun x => decide (key x < key d)) = [] := List.filter_eq_nil_iff.2 fun y hy => by have := hx y hy; simp; omega
      have hg : t.filter (fun x => decide (key x ≠ key d)) = t.filter (fun x => decide (key d < key x)) := List.filter_congr fun y hy => by have := hx y hy; simp only [decide_eq_decide]; omega
      rw [List.filter_cons_of_neg (by simpa using h1), hl]
      by_cases h2 : key x = key d
      · rw [insStep_fe key d zs x h2, insRun_true, List.filter_cons_of_neg (by simp; omega), hg]; simp
      · rw [insStep_fg key d zs x (by omega), insRun_true, List.filter_cons_of_pos (by simp; omega), hg]; simp
end
theorem insRun_map {α β : Type} (f : α → β) (k1 : α → Int) (k2 : β → Int) (h : ∀ a, k2 (f a) = k1 a) (d : α) (xs : List α) : insRun k2 (f d) (xs.map f) = ((insRun k1 d xs).1.map f, (insRun k1 d xs).2) := by
  suffices H : ∀ (xs : List α) (s : List α × Bool), (xs.map f).foldl (insStep k2 (f d)) (s.1.map f, s.2) = ((xs.foldl (insStep k1 d) s).1.map f, (xs.foldl (insStep k1 d) s).2) from H xs ([], false)
  intro xs
  induction xs with
  | nil => intro s; rfl
  | cons x t ih =>
    intro s
    rw [List.map_cons, List.foldl_cons, List.foldl_cons, ← ih]
    congr 1
    rcases s with ⟨zs, b⟩
    unfold insStep
    rw [h, h]
    cases b <;> by_cases h1 : k1 d ≤ k1 x <;> by_cases h2 : k1 x = k1 d <;> simp [h1, h2]
theorem insG_map {α β : Type} (f : α → β) (k1 : α → Int) (k2 : β → Int) (h : ∀ a, k2 (f a) = k1 a) (d : α) (xs : List α) : (insG k1 d xs).map f = insG k2 (f d) (xs.map f) := by
  unfold insG
  rw [insRun_map f k1 k2 h]
  split <;> simp
def keyD (d : Dsc) : Int := d.1
def keyX (x : Dsc × Hd) : Int := x.1.1
/-- Does the list refuse d? -/
def refuseD (ds : List Dsc) (d : Dsc) (self room : Int) : Bool := decide (d.1 = self ∨ d.2.1 = 0) || (if 0 ≤ findI ds d.1 then !(newerD d (ds.getD (findI ds d.1).toNat (0, 0, 0, []))) else decide (room ≤ ds.length))
def putD (ds : List Dsc) (d : Dsc) (self room : Int) : List Dsc := if refuseD ds d self room then ds else insG keyD d ds
/-- What Put hands back. -/
def GaveP (ds : List Dsc) (b : Bool) (w : World) (e : Ending) (w' : World) : Prop := ∃ (A : Option Addr) (n c : Nat) (xs : List (Dsc × Hd)), e = .returned (.tuple #[.slice A n c, .bool b]) ∧ xs.map (·.1) = ds ∧ Sds w' A n c xs ∧ Below w.heap.size w w'
set_option maxRecDepth 100000 in
set_option maxHeartbeats 40000000 in
theorem refput_any (A : Option Addr) (n c : Nat) (xs : List (Dsc × Hd)) (d : Dsc) (hd : Hd) (self room : Int) (w : World) (h : Sds w A n c xs) (hn8 : n ≤ 1000000) (hF : Fl w (d, hd)) : Calls Try.prog 33 #[.slice A n c, (.agg #[.int .u8 d.1, .int .u16 d.2.1, .int .u8 d.2.2.1, .slice hd.1 hd.2.1 hd.2.2]), .int .u8 self, .int .i64 room] w (GaveP (putD (xs.map (·.1)) d self room) (!refuseD (xs.map (·.1)) d self room) w) := by
  have HL : Hid (n = xs.length) := h.len
  have hm := h.max
  have hc := h.cap
  unfold maxLen at hm
  have HS := Lib.hid h
  have FLX : Hid (∀ z, (z = (d, hd) ∨ z ∈ xs) → Fl w z) := fun z hz => by
    rcases hz with rfl | hz
    · exact hF
    · exact h.fl z hz
  have hfr := findI_range (xs.map (·.1)) d.1
  have hfh := fun h0 => findI_hit (ds := xs.map (·.1)) (n := d.1) h0
  have B := Lib.hid (below_lit w (.cells #[.int .u8 d.1, .int .u16 d.2.1, .int .u8 d.2.2.1, .slice hd.1 hd.2.1 hd.2.2] 27))
  have KD : Hid (DBlk (w.alloc (.cells #[.int .u8 d.1, .int .u16 d.2.1, .int .u8 d.2.2.1, .slice hd.1 hd.2.1 hd.2.2] 27)) w.heap.size d hd) := DBlk.new w d hd
  clear h hF
  obtain ⟨kk, HK⟩ : ∃ kk, Hid (findI (xs.map (·.1)) d.1 = kk) := ⟨_, rfl⟩
  rw [HK.out] at hfr hfh
  obtain ⟨k0, k1⟩ := hfr
  rw [List.length_map, ← HL.out] at k1
  obtain ⟨rf, HR⟩ : ∃ rf, Hid (refuseD (xs.map (·.1)) d self room = rf) := ⟨_, rfl⟩
  unfold putD
  rw [HR.out]
  have HRU := HR.out
  unfold refuseD at HRU
  rw [HK.out, List.length_map, ← HL.out] at HRU
  by_cases h1 : d.1 = self
  · have heb : (d.1 == self) = true := by simpa using h1
    obtain rfl : rf = true := by rw [← HRU]; simp [h1]
    clear HRU h1 hfh
    go_enter Try.func33, Try.ntmps33
    go_upto_region 1 with fail
    generalize w.alloc (.cells #[.int .u8 d.1, .int .u16 d.2.1, .int .u8 d.2.2.1, .slice hd.1 hd.2.1 hd.2.2] 27) = w1 at *
    obtain ⟨g, hg⟩ : ∃ g, w.heap.size = g := ⟨_, rfl⟩
    rw [hg] at KD ⊢
    clear hg
    obtain ⟨p0, p1, p2, p3⟩ := KD.out.cells
    go_wp2_with fail
    have hc := reffind_any A n c xs d.1 w1 (HS.out.next B.out)
    rw [HK.out] at hc
    refine hc.mono ?_
    clear hc p0 p1 p2 p3
    rintro e w2 ⟨rfl, b5⟩
    replace KD := Lib.hid (KD.out.next b5)
    replace B := Lib.hid (thn B.out b5)
    clear b5
    go_upto_region 2 with fail
    refine wp_region_typed 31 [(19, .val (.pointer (some ⟨g, 0, none⟩))), (20, .val (.int .u8 d.1)), (21, .val (.int .u8 self)), (22, .val (.bool true)), (23, .val (.bool true)), (24, .val undef), (25, .val undef), (26, .val undef), (27, .val (.bool true)), (28, .val (.bool true)), (29, .val undef), (30, .val undef), (31, .val undef), (32, .val undef), (33, .val undef), (34, .val undef), (35, .val undef), (36, .val undef), (37, .val undef), (38, .val undef), (39, .val undef), (40, .val (.bool true)), (41, .val (.bool true)), (42, .val undef), (43, .val undef), (44, .val undef), (45, .val undef), (46, .val undef), (47, .val undef), (48, .val undef), (49, .val undef)]
      [[], [19], [], [20, 21], [22], [23], [23, 24], [23, 25], [23, 26], [27], [28], [28, 29], [28, 30], [31], [31], [31], [31, 33, 34], [31, 35], [31, 32, 36], [31, 37], [28, 31, 38], [28, 39], [40], [41], [41, 42], [41, 43], [44], [44, 45], [44], [44, 46, 47], [41, 44, 48]] (by kernel_rfl) (by kernel_rfl) ?_ ?_
    rotate_left
    · intro v3 hb
      simp only [List.take_succ_cons, List.take_zero, List.drop_succ_cons, List.drop_zero]
      refine over_ds (ds := [19, 20, 21, 22, 23, 24, 25, 26, 27, 28, 29, 30, 31, 32, 33, 34, 35, 36, 37, 38, 39, 40, 41, 42, 43, 44, 45, 46, 47, 48, 49]) (by kernel_rfl) ?_
      refine over_some (ds1 := [19, 20, 21, 22, 23, 24, 25, 26, 27, 28, 29, 30, 31, 32, 33, 34, 35, 36, 37, 38, 39, 40, 41, 42, 43, 44, 45, 46, 47, 48, 49]) (ds2 := []) [(.pointer (some ⟨g, 0, none⟩)), (.int .u8 d.1), (.int .u8 self), (.bool true), (.bool true), undef, undef, undef, (.bool true), (.bool true), undef, undef, undef, undef, undef, undef, undef, undef, undef, undef, undef, (.bool true), (.bool true), undef, undef, undef, undef, undef, undef, undef, undef] (by kernel_rfl) ?_
      refine over_nil ?_
      simp only [putAll, put_lit, List.set_cons_succ, List.set_cons_zero]
      replace KD := Lib.hid (KD.out.next hb)
      replace B := Lib.hid (thn B.out hb)
      clear hb
      have OB := Lib.hid B.out.size
      go_wp2_with (at_builtin; go_must (refine wpList_appsx rfl _ _ 23 rfl Try.underlying23 infoD rfl (by decide) rfl (Ows.nil v3 w.heap.size 27 4) rfl (HS.out.next B.out).sn (dcs_one xs) (by omega) (by decide) B.out.size ?_); intro A3 c3 w5 o5 g5)
      have B5 := Lib.hid (B.out.grown g5 B.out.size (Ows.nil v3 w.heap.size 27 4).lt)
      rw [List.nil_append] at o5
      simp only [Nat.zero_add] at o5 ⊢
      exact bodyPost_ret (v := .tuple #[.slice A3 n c3, .bool false]) (by simp [results, Try.results33, go_sem]) rfl ⟨A3, n, c3, xs, rfl, by simp, ⟨Sn.of_own o5, fun z hz => (FLX.out z (.inr hz)).next B5.out⟩, B5.out⟩
    simp only [List.take_succ_cons, List.take_zero]
    refine ⟨?r2g0, ?r2g1, ?r2g2, ?r2g3, ?r2g4, ?r2g5, ?r2g6, ?r2g7, ?r2g8, ?r2g9, ?r2g10, ?r2g11, ?r2g12, ?r2g13, ?r2g14, ?r2g15, ?r2g16, ?r2g17, ?r2g18, ?r2g19, ?r2g20, ?r2g21, ?r2g22, ?r2g23, ?r2g24, ?r2g25, ?r2g26, ?r2g27, ?r2g28, ?r2g29, ?r2g30, trivial⟩
    case r2g0 =>
      intro w9 hb
      refine over_nil ?_
      go_wp2
      first | exact post_of (by rfl) (by rfl) (Below.refl _ _) (by rfl) | exact rfl
    case r2g1 =>
      intro w9 hb
      refine over_some (ds1 := [19]) (ds2 := []) [(.pointer (some ⟨g, 0, none⟩))] (by kernel_rfl) ?_
      refine over_nil ?_
      simp only [putAll, put_lit, List.set_cons_succ, List.set_cons_zero]
      obtain ⟨p0, q0, r0, s0⟩ := (KD.out.next hb).cells
      go_wp2
      first | exact post_of (by rfl) (by rfl) (Below.refl _ _) (by rfl) | exact rfl
    case r2g2 =>
      intro w9 hb
      refine over_nil ?_
      go_wp2
      first | exact post_of (by rfl) (by rfl) (Below.refl _ _) (by rfl) | exact rfl
    case r2g3 =>
      intro w9 hb
      refine over_some (ds1 := [20, 21]) (ds2 := []) [(.int .u8 d.1), (.int .u8 self)] (by kernel_rfl) ?_
      refine over_nil ?_
      simp only [putAll, put_lit, List.set_cons_succ, List.set_cons_zero]
      go_wp2
      exact post_of (by rfl) (by rfl) (Below.refl _ _) (by first | rfl | (show Value.bool _ = Value.bool _; rw [Value.bool.injEq]; first | exact decide_eq_true (by omega) | exact decide_eq_false (by omega) | assumption | (simp; omega)))
    case r2g4 =>
      intro w9 hb
      refine over_some (ds1 := [22]) (ds2 := []) [(.bool true)] (by kernel_rfl) ?_
      refine over_nil ?_
      simp only [putAll, put_lit, List.set_cons_succ, List.set_cons_zero]
      go_wp2
      first | exact post_of (by rfl) (by rfl) (Below.refl _ _) (by rfl) | exact rfl
    case r2g5 =>
      intro w9 hb
      refine over_some (ds1 := [23]) (ds2 := []) [(.bool true)] (by kernel_rfl) ?_
      refine over_nil ?_
      simp only [putAll, put_lit, List.set_cons_succ, List.set_cons_zero]
      exact post_skip rfl (by kernel_rfl) (by kernel_rfl) (by kernel_rfl) (by kernel_rfl)
    case r2g6 =>
      intro w9 hb
      refine over_some (ds1 := [23, 24]) (ds2 := []) [(.bool true), undef] (by kernel_rfl) ?_
      refine over_nil ?_
      simp only [putAll, put_lit, List.set_cons_succ, List.set_cons_zero]
      exact post_skip rfl (by kernel_rfl) (by kernel_rfl) (by kernel_rfl) (by kernel_rfl)
    case r2g7 =>
      intro w9 hb
      refine over_some (ds1 := [23, 25]) (ds2 := []) [(.bool true), undef] (by kernel_rfl) ?_
      refine over_nil ?_
      simp only [putAll, put_lit, List.set_cons_succ, List.set_cons_zero]
      exact post_skip rfl (by kernel_rfl) (by kernel_rfl) (by kernel_rfl) (by kernel_rfl)
    case r2g8 =>
      intro w9 hb
      refine over_some (ds1 := [23, 26]) (ds2 := []) [(.bool true), undef] (by kernel_rfl) ?_
      refine over_nil ?_
      simp only [putAll, put_lit, List.set_cons_succ, List.set_cons_zero]
      go_wp2
      first | exact post_of (by rfl) (by rfl) (Below.refl _ _) (by rfl) | exact rfl
    case r2g9 =>
      intro w9 hb
      refine over_some (ds1 := [27]) (ds2 := []) [(.bool true)] (by kernel_rfl) ?_
      refine over_nil ?_
      simp only [putAll, put_lit, List.set_cons_succ, List.set_cons_zero]
      go_wp2
      first | exact post_of (by rfl) (by rfl) (Below.refl _ _) (by rfl) | exact rfl
    case r2g10 =>
      intro w9 hb
      refine over_some (ds1 := [28]) (ds2 := []) [(.bool true)] (by kernel_rfl) ?_
      refine over_nil ?_
      simp only [putAll, put_lit, List.set_cons_succ, List.set_cons_zero]
      exact post_skip rfl (by kernel_rfl) (by kernel_rfl) (by kernel_rfl) (by kernel_rfl)
    case r2g11 =>
      intro w9 hb
      refine over_some (ds1 := [28, 29]) (ds2 := []) [(.bool true), undef] (by kernel_rfl) ?_
      refine over_nil ?_
      simp only [putAll, put_lit, List.set_cons_succ, List.set_cons_zero]
      exact post_skip rfl (by kernel_rfl) (by kernel_rfl) (by kernel_rfl) (by kernel_rfl)
    case r2g12 =>
      intro w9 hb
      refine over_some (ds1 := [28, 30]) (ds2 := []) [(.bool true), undef] (by kernel_rfl) ?_
      refine over_nil ?_
      simp only [putAll, put_lit, List.set_cons_succ, List.set_cons_zero]
      exact post_skip rfl (by kernel_rfl) (by kernel_rfl) (by kernel_rfl) (by kernel_rfl)
    case r2g13 =>
      intro w9 hb
      refine over_some (ds1 := [31]) (ds2 := []) [undef] (by kernel_rfl) ?_
      refine over_nil ?_
      simp only [putAll, put_lit, List.set_cons_succ, List.set_cons_zero]
      exact post_skip rfl (by kernel_rfl) (by kernel_rfl) (by kernel_rfl) (by kernel_rfl)
    case r2g14 =>
      intro w9 hb
      refine over_some (ds1 := [31]) (ds2 := []) [undef] (by kernel_rfl) ?_
      refine over_nil ?_
      simp only [putAll, put_lit, List.set_cons_succ, List.set_cons_zero]
      exact post_skip rfl (by kernel_rfl) (by kernel_rfl) (by kernel_rfl) (by kernel_rfl)
    case r2g15 =>
      intro w9 hb
      refine over_some (ds1 := [31]) (ds2 := []) [undef] (by kernel_rfl) ?_
      refine over_nil ?_
      simp only [putAll, put_lit, List.set_cons_succ, List.set_cons_zero]
      exact post_skip rfl (by kernel_rfl) (by kernel_rfl) (by kernel_rfl) (by kernel_rfl)
    case r2g16 =>
      intro w9 hb
      refine over_some (ds1 := [31, 33, 34]) (ds2 := []) [undef, undef, undef] (by kernel_rfl) ?_
      refine over_nil ?_
      simp only [putAll, put_lit, List.set_cons_succ, List.set_cons_zero]
      exact post_skip rfl (by kernel_rfl) (by kernel_rfl) (by kernel_rfl) (by kernel_rfl)
    case r2g17 =>
      intro w9 hb
      refine over_some (ds1 := [31, 35]) (ds2 := []) [undef, undef] (by kernel_rfl) ?_
      refine over_nil ?_
      simp only [putAll, put_lit, List.set_cons_succ, List.set_cons_zero]
      exact post_skip rfl (by kernel_rfl) (by kernel_rfl) (by kernel_rfl) (by kernel_rfl)
    case r2g18 =>
      intro w9 hb
      refine over_some (ds1 := [31, 32, 36]) (ds2 := []) [undef, undef, undef] (by kernel_rfl) ?_
      refine over_nil ?_
      simp only [putAll, put_lit, List.set_cons_succ, List.set_cons_zero]
      exact post_skip rfl (by kernel_rfl) (by kernel_rfl) (by kernel_rfl) (by kernel_rfl)
    case r2g19 =>
      intro w9 hb
      refine over_some (ds1 := [31, 37]) (ds2 := []) [undef, undef] (by kernel_rfl) ?_
      refine over_nil ?_
      simp only [putAll, put_lit, List.set_cons_succ, List.set_cons_zero]
      exact post_skip rfl (by kernel_rfl) (by kernel_rfl) (by kernel_rfl) (by kernel_rfl)
    case r2g20 =>
      intro w9 hb
      refine over_some (ds1 := [28, 31, 38]) (ds2 := []) [(.bool true), undef, undef] (by kernel_rfl) ?_
      refine over_nil ?_
      simp only [putAll, put_lit, List.set_cons_succ, List.set_cons_zero]
      exact post_skip rfl (by kernel_rfl) (by kernel_rfl) (by kernel_rfl) (by kernel_rfl)
    case r2g21 =>
      intro w9 hb
      refine over_some (ds1 := [28, 39]) (ds2 := []) [(.bool true), undef] (by kernel_rfl) ?_
      refine over_nil ?_
      simp only [putAll, put_lit, List.set_cons_succ, List.set_cons_zero]
      go_wp2
      first | exact post_of (by rfl) (by rfl) (Below.refl _ _) (by rfl) | exact rfl
    case r2g22 =>
      intro w9 hb
      refine over_some (ds1 := [40]) (ds2 := []) [(.bool true)] (by kernel_rfl) ?_
      refine over_nil ?_
      simp only [putAll, put_lit, List.set_cons_succ, List.set_cons_zero]
      go_wp2
      first | exact post_of (by rfl) (by rfl) (Below.refl _ _) (by rfl) | exact rfl
    case r2g23 =>
      intro w9 hb
      refine over_some (ds1 := [41]) (ds2 := []) [(.bool true)] (by kernel_rfl) ?_
      refine over_nil ?_
      simp only [putAll, put_lit, List.set_cons_succ, List.set_cons_zero]
      exact post_skip rfl (by kernel_rfl) (by kernel_rfl) (by kernel_rfl) (by kernel_rfl)
    case r2g24 =>
      intro w9 hb
      refine over_some (ds1 := [41, 42]) (ds2 := []) [(.bool true), undef] (by kernel_rfl) ?_
      refine over_nil ?_
      simp only [putAll, put_lit, List.set_cons_succ, List.set_cons_zero]
      exact post_skip rfl (by kernel_rfl) (by kernel_rfl) (by kernel_rfl) (by kernel_rfl)
    case r2g25 =>
      intro w9 hb
      refine over_some (ds1 := [41, 43]) (ds2 := []) [(.bool true), undef] (by kernel_rfl) ?_
      refine over_nil ?_
      simp only [putAll, put_lit, List.set_cons_succ, List.set_cons_zero]
      exact post_skip rfl (by kernel_rfl) (by kernel_rfl) (by kernel_rfl) (by kernel_rfl)
    case r2g26 =>
      intro w9 hb
      refine over_some (ds1 := [44]) (ds2 := []) [undef] (by kernel_rfl) ?_
      refine over_nil ?_
      simp only [putAll, put_lit, List.set_cons_succ, List.set_cons_zero]
      exact post_skip rfl (by kernel_rfl) (by kernel_rfl) (by kernel_rfl) (by kernel_rfl)
    case r2g27 =>
      intro w9 hb
      refine over_some (ds1 := [44, 45]) (ds2 := []) [undef, undef] (by kernel_rfl) ?_
      refine over_nil ?_
      simp only [putAll, put_lit, List.set_cons_succ, List.set_cons_zero]
      exact post_skip rfl (by kernel_rfl) (by kernel_rfl) (by kernel_rfl) (by kernel_rfl)
    case r2g28 =>
      intro w9 hb
      refine over_some (ds1 := [44]) (ds2 := []) [undef] (by kernel_rfl) ?_
      refine over_nil ?_
      simp only [putAll, put_lit, List.set_cons_succ, List.set_cons_zero]
      exact post_skip rfl (by kernel_rfl) (by kernel_rfl) (by kernel_rfl) (by kernel_rfl)
    case r2g29 =>
      intro w9 hb
      refine over_some (ds1 := [44, 46, 47]) (ds2 := []) [undef, undef, undef] (by kernel_rfl) ?_
      refine over_nil ?_
      simp only [putAll, put_lit, List.set_cons_succ, List.set_cons_zero]
      exact post_skip rfl (by kernel_rfl) (by kernel_rfl) (by kernel_rfl) (by kernel_rfl)
    case r2g30 =>
      intro w9 hb
      refine over_some (ds1 := [41, 44, 48]) (ds2 := []) [(.bool true), undef, undef] (by kernel_rfl) ?_
      refine over_nil ?_
      simp only [putAll, put_lit, List.set_cons_succ, List.set_cons_zero]
      exact post_skip rfl (by kernel_rfl) (by kernel_rfl) (by kernel_rfl) (by kernel_rfl)
  · have heb : (d.1 == self) = false := by simpa using h1
    by_cases h2 : d.2.1 = 0
    · have heb2 : (d.2.1 == 0) = true := by simpa using h2
      obtain rfl : rf = true := by rw [← HRU]; simp [h2]
      clear HRU h1 h2 hfh
      go_enter Try.func33, Try.ntmps33
      go_upto_region 1 with fail
      generalize w.alloc (.cells #[.int .u8 d.1, .int .u16 d.2.1, .int .u8 d.2.2.1, .slice hd.1 hd.2.1 hd.2.2] 27) = w1 at *
      obtain ⟨g, hg⟩ : ∃ g, w.heap.size = g := ⟨_, rfl⟩
      rw [hg] at KD ⊢
      clear hg
      obtain ⟨p0, p1, p2, p3⟩ := KD.out.cells
      go_wp2_with fail
      have hc := reffind_any A n c xs d.1 w1 (HS.out.next B.out)
      rw [HK.out] at hc
      refine hc.mono ?_
      clear hc p0 p1 p2 p3
      rintro e w2 ⟨rfl, b5⟩
      replace KD := Lib.hid (KD.out.next b5)
      replace B := Lib.hid (thn B.out b5)
      clear b5
      go_upto_region 2 with fail
      refine wp_region_typed 31 [(19, .val (.pointer (some ⟨g, 0, none⟩))), (20, .val (.int .u8 d.1)), (21, .val (.int .u8 self)), (22, .val (.bool false)), (23, .val (.bool false)), (24, .val (.pointer (some ⟨g, 1, none⟩))), (25, .val (.int .u16 d.2.1)), (26, .val (.bool true)), (27, .val (.bool true)), (28, .val (.bool true)), (29, .val undef), (30, .val undef), (31, .val undef), (32, .val undef), (33, .val undef), (34, .val undef), (35, .val undef), (36, .val undef), (37, .val undef), (38, .val undef), (39, .val undef), (40, .val (.bool true)), (41, .val (.bool true)), (42, .val undef), (43, .val undef), (44, .val undef), (45, .val undef), (46, .val undef), (47, .val undef), (48, .val undef), (49, .val undef)]
        [[], [19], [], [20, 21], [22], [23], [23, 24], [23, 25], [23, 26], [27], [28], [28, 29], [28, 30], [31], [31], [31], [31, 33, 34], [31, 35], [31, 32, 36], [31, 37], [28, 31, 38], [28, 39], [40], [41], [41, 42], [41, 43], [44], [44, 45], [44], [44, 46, 47], [41, 44, 48]] (by kernel_rfl) (by kernel_rfl) ?_ ?_
      rotate_left
      · intro v3 hb
        simp only [List.take_succ_cons, List.take_zero, List.drop_succ_cons, List.drop_zero]
        refine over_ds (ds := [19, 20, 21, 22, 23, 24, 25, 26, 27, 28, 29, 30, 31, 32, 33, 34, 35, 36, 37, 38, 39, 40, 41, 42, 43, 44, 45, 46, 47, 48, 49]) (by kernel_rfl) ?_
        refine over_some (ds1 := [19, 20, 21, 22, 23, 24, 25, 26, 27, 28, 29, 30, 31, 32, 33, 34, 35, 36, 37, 38, 39, 40, 41, 42, 43, 44, 45, 46, 47, 48, 49]) (ds2 := []) [(.pointer (some ⟨g, 0, none⟩)), (.int .u8 d.1), (.int .u8 self), (.bool false), (.bool false), (.pointer (some ⟨g, 1, none⟩)), (.int .u16 d.2.1), (.bool true), (.bool true), (.bool true), undef, undef, undef, undef, undef, undef, undef, undef, undef, undef, undef, (.bool true), (.bool true), undef, undef, undef, undef, undef, undef, undef, undef] (by kernel_rfl) ?_
        refine over_nil ?_
        simp only [putAll, put_lit, List.set_cons_succ, List.set_cons_zero]
        replace KD := Lib.hid (KD.out.next hb)
        replace B := Lib.hid (thn B.out hb)
        clear hb
        have OB := Lib.hid B.out.size
        go_wp2_with (at_builtin; go_must (refine wpList_appsx rfl _ _ 23 rfl Try.underlying23 infoD rfl (by decide) rfl (Ows.nil v3 w.heap.size 27 4) rfl (HS.out.next B.out).sn (dcs_one xs) (by omega) (by decide) B.out.size ?_); intro A3 c3 w5 o5 g5)
        have B5 := Lib.hid (B.out.grown g5 B.out.size (Ows.nil v3 w.heap.size 27 4).lt)
        rw [List.nil_append] at o5
        simp only [Nat.zero_add] at o5 ⊢
        exact bodyPost_ret (v := .tuple #[.slice A3 n c3, .bool false]) (by simp [results, Try.results33, go_sem]) rfl ⟨A3, n, c3, xs, rfl, by simp, ⟨Sn.of_own o5, fun z hz => (FLX.out z (.inr hz)).next B5.out⟩, B5.out⟩
      simp only [List.take_succ_cons, List.take_zero]
      refine ⟨?r2g0, ?r2g1, ?r2g2, ?r2g3, ?r2g4, ?r2g5, ?r2g6, ?r2g7, ?r2g8, ?r2g9, ?r2g10, ?r2g11, ?r2g12, ?r2g13, ?r2g14, ?r2g15, ?r2g16, ?r2g17, ?r2g18, ?r2g19, ?r2g20, ?r2g21, ?r2g22, ?r2g23, ?r2g24, ?r2g25, ?r2g26, ?r2g27, ?r2g28, ?r2g29, ?r2g30, trivial⟩
      case r2g0 =>
        intro w9 hb
        refine over_nil ?_
        go_wp2
        first | exact post_of (by rfl) (by rfl) (Below.refl _ _) (by rfl) | exact rfl
      case r2g1 =>
        intro w9 hb
        refine over_some (ds1 := [19]) (ds2 := []) [(.pointer (some ⟨g, 0, none⟩))] (by kernel_rfl) ?_
        refine over_nil ?_
        simp only [putAll, put_lit, List.set_cons_succ, List.set_cons_zero]
        obtain ⟨p0, q0, r0, s0⟩ := (KD.out.next hb).cells
        go_wp2
        first | exact post_of (by rfl) (by rfl) (Below.refl _ _) (by rfl) | exact rfl
      case r2g2 =>
        intro w9 hb
        refine over_nil ?_
        go_wp2
        first | exact post_of (by rfl) (by rfl) (Below.refl _ _) (by rfl) | exact rfl
      case r2g3 =>
        intro w9 hb
        refine over_some (ds1 := [20, 21]) (ds2 := []) [(.int .u8 d.1), (.int .u8 self)] (by kernel_rfl) ?_
        refine over_nil ?_
        simp only [putAll, put_lit, List.set_cons_succ, List.set_cons_zero]
        go_wp2
        exact post_of (by rfl) (by rfl) (Below.refl _ _) (by first | rfl | (show Value.bool _ = Value.bool _; rw [Value.bool.injEq]; first | exact decide_eq_true (by omega) | exact decide_eq_false (by omega) | assumption | (simp; omega)))
      case r2g4 =>
        intro w9 hb
        refine over_some (ds1 := [22]) (ds2 := []) [(.bool false)] (by kernel_rfl) ?_
        refine over_nil ?_
        simp only [putAll, put_lit, List.set_cons_succ, List.set_cons_zero]
        go_wp2
        first | exact post_of (by rfl) (by rfl) (Below.refl _ _) (by rfl) | exact rfl
      case r2g5 =>
        intro w9 hb
        refine over_some (ds1 := [23]) (ds2 := []) [(.bool false)] (by kernel_rfl) ?_
        refine over_nil ?_
        simp only [putAll, put_lit, List.set_cons_succ, List.set_cons_zero]
        go_wp2
        first | exact post_of (by rfl) (by rfl) (Below.refl _ _) (by rfl) | exact rfl
      case r2g6 =>
        intro w9 hb
        refine over_some (ds1 := [23, 24]) (ds2 := []) [(.bool false), (.pointer (some ⟨g, 1, none⟩))] (by kernel_rfl) ?_
        refine over_nil ?_
        simp only [putAll, put_lit, List.set_cons_succ, List.set_cons_zero]
        obtain ⟨p0, q0, r0, s0⟩ := (KD.out.next hb).cells
        go_wp2
        first | exact post_of (by rfl) (by rfl) (Below.refl _ _) (by rfl) | exact rfl
      case r2g7 =>
        intro w9 hb
        refine over_some (ds1 := [23, 25]) (ds2 := []) [(.bool false), (.int .u16 d.2.1)] (by kernel_rfl) ?_
        refine over_nil ?_
        simp only [putAll, put_lit, List.set_cons_succ, List.set_cons_zero]
        go_wp2
        exact post_of (by rfl) (by rfl) (Below.refl _ _) (by first | rfl | (show Value.bool _ = Value.bool _; rw [Value.bool.injEq]; first | exact decide_eq_true (by omega) | exact decide_eq_false (by omega) | assumption | (simp; omega)))
      case r2g8 =>
        intro w9 hb
        refine over_some (ds1 := [23, 26]) (ds2 := []) [(.bool false), (.bool true)] (by kernel_rfl) ?_
        refine over_nil ?_
        simp only [putAll, put_lit, List.set_cons_succ, List.set_cons_zero]
        go_wp2
        first | exact post_of (by rfl) (by rfl) (Below.refl _ _) (by rfl) | exact rfl
      case r2g9 =>
        intro w9 hb
        refine over_some (ds1 := [27]) (ds2 := []) [(.bool true)] (by kernel_rfl) ?_
        refine over_nil ?_
        simp only [putAll, put_lit, List.set_cons_succ, List.set_cons_zero]
        go_wp2
        first | exact post_of (by rfl) (by rfl) (Below.refl _ _) (by rfl) | exact rfl
      case r2g10 =>
        intro w9 hb
        refine over_some (ds1 := [28]) (ds2 := []) [(.bool true)] (by kernel_rfl) ?_
        refine over_nil ?_
        simp only [putAll, put_lit, List.set_cons_succ, List.set_cons_zero]
        exact post_skip rfl (by kernel_rfl) (by kernel_rfl) (by kernel_rfl) (by kernel_rfl)
      case r2g11 =>
        intro w9 hb
        refine over_some (ds1 := [28, 29]) (ds2 := []) [(.bool true), undef] (by kernel_rfl) ?_
        refine over_nil ?_
        simp only [putAll, put_lit, List.set_cons_succ, List.set_cons_zero]
        exact post_skip rfl (by kernel_rfl) (by kernel_rfl) (by kernel_rfl) (by kernel_rfl)
      case r2g12 =>
        intro w9 hb
        refine over_some (ds1 := [28, 30]) (ds2 := []) [(.bool true), undef] (by kernel_rfl) ?_
        refine over_nil ?_
        simp only [putAll, put_lit, List.set_cons_succ, List.set_cons_zero]
        exact post_skip rfl (by kernel_rfl) (by kernel_rfl) (by kernel_rfl) (by kernel_rfl)
      case r2g13 =>
        intro w9 hb
        refine over_some (ds1 := [31]) (ds2 := []) [undef] (by kernel_rfl) ?_
        refine over_nil ?_
        simp only [putAll, put_lit, List.set_cons_succ, List.set_cons_zero]
        exact post_skip rfl (by kernel_rfl) (by kernel_rfl) (by kernel_rfl) (by kernel_rfl)
      case r2g14 =>
        intro w9 hb
        refine over_some (ds1 := [31]) (ds2 := []) [undef] (by kernel_rfl) ?_
        refine over_nil ?_
        simp only [putAll, put_lit, List.set_cons_succ, List.set_cons_zero]
        exact post_skip rfl (by kernel_rfl) (by kernel_rfl) (by kernel_rfl) (by kernel_rfl)
      case r2g15 =>
        intro w9 hb
        refine over_some (ds1 := [31]) (ds2 := []) [undef] (by kernel_rfl) ?_
        refine over_nil ?_
        simp only [putAll, put_lit, List.set_cons_succ, List.set_cons_zero]
        exact post_skip rfl (by kernel_rfl) (by kernel_rfl) (by kernel_rfl) (by kernel_rfl)
      case r2g16 =>
        intro w9 hb
        refine over_some (ds1 := [31, 33, 34]) (ds2 := []) [undef, undef, undef] (by kernel_rfl) ?_
        refine over_nil ?_
        simp only [putAll, put_lit, List.set_cons_succ, List.set_cons_zero]
        exact post_skip rfl (by kernel_rfl) (by kernel_rfl) (by kernel_rfl) (by kernel_rfl)
      case r2g17 =>
        intro w9 hb
        refine over_some (ds1 := [31, 35]) (ds2 := []) [undef, undef] (by kernel_rfl) ?_
        refine over_nil ?_
        simp only [putAll, put_lit, List.set_cons_succ, List.set_cons_zero]
        exact post_skip rfl (by kernel_rfl) (by kernel_rfl) (by kernel_rfl) (by kernel_rfl)
      case r2g18 =>
        intro w9 hb
        refine over_some (ds1 := [31, 32, 36]) (ds2 := []) [undef, undef, undef] (by kernel_rfl) ?_
        refine over_nil ?_
        simp only [putAll, put_lit, List.set_cons_succ, List.set_cons_zero]
        exact post_skip rfl (by kernel_rfl) (by kernel_rfl) (by kernel_rfl) (by kernel_rfl)
      case r2g19 =>
        intro w9 hb
        refine over_some (ds1 := [31, 37]) (ds2 := []) [undef, undef] (by kernel_rfl) ?_
        refine over_nil ?_
        simp only [putAll, put_lit, List.set_cons_succ, List.set_cons_zero]
        exact post_skip rfl (by kernel_rfl) (by kernel_rfl) (by kernel_rfl) (by kernel_rfl)
      case r2g20 =>
        intro w9 hb
        refine over_some (ds1 := [28, 31, 38]) (ds2 := []) [(.bool true), undef, undef] (by kernel_rfl) ?_
        refine over_nil ?_
        simp only [putAll, put_lit, List.set_cons_succ, List.set_cons_zero]
        exact post_skip rfl (by kernel_rfl) (by kernel_rfl) (by kernel_rfl) (by kernel_rfl)
      case r2g21 =>
        intro w9 hb
        refine over_some (ds1 := [28, 39]) (ds2 := []) [(.bool true), undef] (by kernel_rfl) ?_
        refine over_nil ?_
        simp only [putAll, put_lit, List.set_cons_succ, List.set_cons_zero]
        go_wp2
        first | exact post_of (by rfl) (by rfl) (Below.refl _ _) (by rfl) | exact rfl
      case r2g22 =>
        intro w9 hb
        refine over_some (ds1 := [40]) (ds2 := []) [(.bool true)] (by kernel_rfl) ?_
        refine over_nil ?_
        simp only [putAll, put_lit, List.set_cons_succ, List.set_cons_zero]
        go_wp2
        first | exact post_of (by rfl) (by rfl) (Below.refl _ _) (by rfl) | exact rfl
      case r2g23 =>
        intro w9 hb
        refine over_some (ds1 := [41]) (ds2 := []) [(.bool true)] (by kernel_rfl) ?_
        refine over_nil ?_
        simp only [putAll, put_lit, List.set_cons_succ, List.set_cons_zero]
        exact post_skip rfl (by kernel_rfl) (by kernel_rfl) (by kernel_rfl) (by kernel_rfl)
      case r2g24 =>
        intro w9 hb
        refine over_some (ds1 := [41, 42]) (ds2 := []) [(.bool true), undef] (by kernel_rfl) ?_
        refine over_nil ?_
        simp only [putAll, put_lit, List.set_cons_succ, List.set_cons_zero]
        exact post_skip rfl (by kernel_rfl) (by kernel_rfl) (by kernel_rfl) (by kernel_rfl)
      case r2g25 =>
        intro w9 hb
        refine over_some (ds1 := [41, 43]) (ds2 := []) [(.bool true), undef] (by kernel_rfl) ?_
        refine over_nil ?_
        simp only [putAll, put_lit, List.set_cons_succ, List.set_cons_zero]
        exact post_skip rfl (by kernel_rfl) (by kernel_rfl) (by kernel_rfl) (by kernel_rfl)
      case r2g26 =>
        intro w9 hb
        refine over_some (ds1 := [44]) (ds2 := []) [undef] (by kernel_rfl) ?_
        refine over_nil ?_
        simp only [putAll, put_lit, List.set_cons_succ, List.set_cons_zero]
        exact post_skip rfl (by kernel_rfl) (by kernel_rfl) (by kernel_rfl) (by kernel_rfl)
      case r2g27 =>
        intro w9 hb
        refine over_some (ds1 := [44, 45]) (ds2 := []) [undef, undef] (by kernel_rfl) ?_
        refine over_nil ?_
        simp only [putAll, put_lit, List.set_cons_succ, List.set_cons_zero]
        exact post_skip rfl (by kernel_rfl) (by kernel_rfl) (by kernel_rfl) (by kernel_rfl)
      case r2g28 =>
        intro w9 hb
        refine over_some (ds1 := [44]) (ds2 := []) [undef] (by kernel_rfl) ?_
        refine over_nil ?_
        simp only [putAll, put_lit, List.set_cons_succ, List.set_cons_zero]
        exact post_skip rfl (by kernel_rfl) (by kernel_rfl) (by kernel_rfl) (by kernel_rfl)
      case r2g29 =>
        intro w9 hb
        refine over_some (ds1 := [44, 46, 47]) (ds2 := []) [undef, undef, undef] (by kernel_rfl) ?_
        refine over_nil ?_
        simp only [putAll, put_lit, List.set_cons_succ, List.set_cons_zero]
        exact post_skip rfl (by kernel_rfl) (by kernel_rfl) (by kernel_rfl) (by kernel_rfl)
      case r2g30 =>
        intro w9 hb
        refine over_some (ds1 := [41, 44, 48]) (ds2 := []) [(.bool true), undef, undef] (by kernel_rfl) ?_
        refine over_nil ?_
        simp only [putAll, put_lit, List.set_cons_succ, List.set_cons_zero]
        exact post_skip rfl (by kernel_rfl) (by kernel_rfl) (by kernel_rfl) (by kernel_rfl)
    · have heb2 : (d.2.1 == 0) = false := by simpa using h2
      have h12 : decide (d.1 = self ∨ d.2.1 = 0) = false := decide_eq_false fun h => h.elim h1 h2
      rw [h12, Bool.false_or] at HRU
      clear h1 h2 h12
      by_cases hk : 0 ≤ kk
      · rw [if_pos hk] at HRU
        obtain ⟨y0, hy0, hyn⟩ := hfh hk
        obtain ⟨i, rfl⟩ : ∃ i : Nat, kk = i := ⟨kk.toNat, by omega⟩
        rw [Int.toNat_natCast] at hy0 HRU
        rw [List.getD_eq_getElem?_getD, hy0] at HRU
        rw [List.getElem?_map] at hy0
        obtain ⟨y, hy, rfl⟩ := Option.map_eq_some_iff.1 hy0
        have il : i < n := by omega
        have HY := Lib.hid hy
        have HYN := Lib.hid hyn
        obtain ⟨nb, HN⟩ : ∃ nb, Hid (newerD d y.1 = nb) := ⟨_, rfl⟩
        have HRV : rf = !nb := by rw [← HRU, ← HN.out]; rfl
        clear HRU hfh hy0 hy hyn hk
        have i0 : (0 : Int) ≤ (i : Int) := by omega
        obtain ⟨b, off, y', rfl, hy', hym, HC⟩ := HS.out.cells il
        obtain rfl : y' = y := Option.some.inj (hy'.symm.trans HY.out)
        clear hy' hym
        cases nb
        · obtain rfl : rf = true := HRV
          skip
          go_enter Try.func33, Try.ntmps33
          go_upto_region 1 with fail
          generalize w.alloc (.cells #[.int .u8 d.1, .int .u16 d.2.1, .int .u8 d.2.2.1, .slice hd.1 hd.2.1 hd.2.2] 27) = w1 at *
          obtain ⟨g, hg⟩ : ∃ g, w.heap.size = g := ⟨_, rfl⟩
          rw [hg] at KD ⊢
          clear hg
          obtain ⟨p0, p1, p2, p3⟩ := KD.out.cells
          go_wp2_with fail
          have hc := reffind_any (some ⟨b, off, none⟩) n c xs d.1 w1 (HS.out.next B.out)
          rw [HK.out] at hc
          refine hc.mono ?_
          clear hc p0 p1 p2 p3
          rintro e w2 ⟨rfl, b5⟩
          replace KD := Lib.hid (KD.out.next b5)
          replace B := Lib.hid (thn B.out b5)
          clear b5
          go_upto_region 2 with fail
          refine wp_region_typed 31 [(19, .val (.pointer (some ⟨g, 0, none⟩))), (20, .val (.int .u8 d.1)), (21, .val (.int .u8 self)), (22, .val (.bool false)), (23, .val (.bool false)), (24, .val (.pointer (some ⟨g, 1, none⟩))), (25, .val (.int .u16 d.2.1)), (26, .val (.bool false)), (27, .val (.bool false)), (28, .val (.bool false)), (29, .val (.int .i64 (i : Int))), (30, .val (.bool true)), (31, .val (.bool true)), (32, .val (.agg #[.int .u8 d.1, .int .u16 d.2.1, .int .u8 d.2.2.1, .slice hd.1 hd.2.1 hd.2.2])), (33, .val (.slice (some ⟨b, off, none⟩) n c)), (34, .val (.int .i64 (i : Int))), (35, .val (.pointer (some ⟨b, off + i * 4, none⟩))), (36, .val (.agg #[.int .u8 y'.1.1, .int .u16 y'.1.2.1, .int .u8 y'.1.2.2.1, .slice y'.2.1 y'.2.2.1 y'.2.2.2])), (37, .val (.bool false)), (38, .val (.bool true)), (39, .val (.bool true)), (40, .val (.bool true)), (41, .val (.bool true)), (42, .val undef), (43, .val undef), (44, .val undef), (45, .val undef), (46, .val undef), (47, .val undef), (48, .val undef), (49, .val undef)]
            [[], [19], [], [20, 21], [22], [23], [23, 24], [23, 25], [23, 26], [27], [28], [28, 29], [28, 30], [31], [31], [31], [31, 33, 34], [31, 35], [31, 32, 36], [31, 37], [28, 31, 38], [28, 39], [40], [41], [41, 42], [41, 43], [44], [44, 45], [44], [44, 46, 47], [41, 44, 48]] (by kernel_rfl) (by kernel_rfl) ?_ ?_
          rotate_left
          · intro v3 hb
            simp only [List.take_succ_cons, List.take_zero, List.drop_succ_cons, List.drop_zero]
            refine over_ds (ds := [19, 20, 21, 22, 23, 24, 25, 26, 27, 28, 29, 30, 31, 32, 33, 34, 35, 36, 37, 38, 39, 40, 41, 42, 43, 44, 45, 46, 47, 48, 49]) (by kernel_rfl) ?_
            refine over_some (ds1 := [19, 20, 21, 22, 23, 24, 25, 26, 27, 28, 29, 30, 31, 32, 33, 34, 35, 36, 37, 38, 39, 40, 41, 42, 43, 44, 45, 46, 47, 48, 49]) (ds2 := []) [(.pointer (some ⟨g, 0, none⟩)), (.int .u8 d.1), (.int .u8 self), (.bool false), (.bool false), (.pointer (some ⟨g, 1, none⟩)), (.int .u16 d.2.1), (.bool false), (.bool false), (.bool false), (.int .i64 (i : Int)), (.bool true), (.bool true), (.agg #[.int .u8 d.1, .int .u16 d.2.1, .int .u8 d.2.2.1, .slice hd.1 hd.2.1 hd.2.2]), (.slice (some ⟨b, off, none⟩) n c), (.int .i64 (i : Int)), (.pointer (some ⟨b, off + i * 4, none⟩)), (.agg #[.int .u8 y'.1.1, .int .u16 y'.1.2.1, .int .u8 y'.1.2.2.1, .slice y'.2.1 y'.2.2.1 y'.2.2.2]), (.bool false), (.bool true), (.bool true), (.bool true), (.bool true), undef, undef, undef, undef, undef, undef, undef, undef] (by kernel_rfl) ?_
            refine over_nil ?_
            simp only [putAll, put_lit, List.set_cons_succ, List.set_cons_zero]
            replace KD := Lib.hid (KD.out.next hb)
            replace B := Lib.hid (thn B.out hb)
            clear hb
            have OB := Lib.hid B.out.size
            go_wp2_with (at_builtin; go_must (refine wpList_appsx rfl _ _ 23 rfl Try.underlying23 infoD rfl (by decide) rfl (Ows.nil v3 w.heap.size 27 4) rfl (HS.out.next B.out).sn (dcs_one xs) (by omega) (by decide) B.out.size ?_); intro A3 c3 w5 o5 g5)
            have B5 := Lib.hid (B.out.grown g5 B.out.size (Ows.nil v3 w.heap.size 27 4).lt)
            rw [List.nil_append] at o5
            simp only [Nat.zero_add] at o5 ⊢
            exact bodyPost_ret (v := .tuple #[.slice A3 n c3, .bool false]) (by simp [results, Try.results33, go_sem]) rfl ⟨A3, n, c3, xs, rfl, by simp, ⟨Sn.of_own o5, fun z hz => (FLX.out z (.inr hz)).next B5.out⟩, B5.out⟩
          simp only [List.take_succ_cons, List.take_zero]
          refine ⟨?r2g0, ?r2g1, ?r2g2, ?r2g3, ?r2g4, ?r2g5, ?r2g6, ?r2g7, ?r2g8, ?r2g9, ?r2g10, ?r2g11, ?r2g12, ?r2g13, ?r2g14, ?r2g15, ?r2g16, ?r2g17, ?r2g18, ?r2g19, ?r2g20, ?r2g21, ?r2g22, ?r2g23, ?r2g24, ?r2g25, ?r2g26, ?r2g27, ?r2g28, ?r2g29, ?r2g30, trivial⟩
          case r2g0 =>
            intro w9 hb
            refine over_nil ?_
            go_wp2
            first | exact post_of (by rfl) (by rfl) (Below.refl _ _) (by rfl) | exact rfl
          case r2g1 =>
            intro w9 hb
            refine over_some (ds1 := [19]) (ds2 := []) [(.pointer (some ⟨g, 0, none⟩))] (by kernel_rfl) ?_
            refine over_nil ?_
            simp only [putAll, put_lit, List.set_cons_succ, List.set_cons_zero]
            obtain ⟨p0, q0, r0, s0⟩ := (KD.out.next hb).cells
            go_wp2
            first | exact post_of (by rfl) (by rfl) (Below.refl _ _) (by rfl) | exact rfl
          case r2g2 =>
            intro w9 hb
            refine over_nil ?_
            go_wp2
            first | exact post_of (by rfl) (by rfl) (Below.refl _ _) (by rfl) | exact rfl
          case r2g3 =>
            intro w9 hb
            refine over_some (ds1 := [20, 21]) (ds2 := []) [(.int .u8 d.1), (.int .u8 self)] (by kernel_rfl) ?_
            refine over_nil ?_
            simp only [putAll, put_lit, List.set_cons_succ, List.set_cons_zero]
            go_wp2
            exact post_of (by rfl) (by rfl) (Below.refl _ _) (by first | rfl | (show Value.bool _ = Value.bool _; rw [Value.bool.injEq]; first | exact decide_eq_true (by omega) | exact decide_eq_false (by omega) | assumption | (simp; omega)))
          case r2g4 =>
            intro w9 hb
            refine over_some (ds1 := [22]) (ds2 := []) [(.bool false)] (by kernel_rfl) ?_
            refine over_nil ?_
            simp only [putAll, put_lit, List.set_cons_succ, List.set_cons_zero]
            go_wp2
            first | exact post_of (by rfl) (by rfl) (Below.refl _ _) (by rfl) | exact rfl
          case r2g5 =>
            intro w9 hb
            refine over_some (ds1 := [23]) (ds2 := []) [(.bool false)] (by kernel_rfl) ?_
            refine over_nil ?_
            simp only [putAll, put_lit, List.set_cons_succ, List.set_cons_zero]
            go_wp2
            first | exact post_of (by rfl) (by rfl) (Below.refl _ _) (by rfl) | exact rfl
          case r2g6 =>
            intro w9 hb
            refine over_some (ds1 := [23, 24]) (ds2 := []) [(.bool false), (.pointer (some ⟨g, 1, none⟩))] (by kernel_rfl) ?_
            refine over_nil ?_
            simp only [putAll, put_lit, List.set_cons_succ, List.set_cons_zero]
            obtain ⟨p0, q0, r0, s0⟩ := (KD.out.next hb).cells
            go_wp2
            first | exact post_of (by rfl) (by rfl) (Below.refl _ _) (by rfl) | exact rfl
          case r2g7 =>
            intro w9 hb
            refine over_some (ds1 := [23, 25]) (ds2 := []) [(.bool false), (.int .u16 d.2.1)] (by kernel_rfl) ?_
            refine over_nil ?_
            simp only [putAll, put_lit, List.set_cons_succ, List.set_cons_zero]
            go_wp2
            exact post_of (by rfl) (by rfl) (Below.refl _ _) (by first | rfl | (show Value.bool _ = Value.bool _; rw [Value.bool.injEq]; first | exact decide_eq_true (by omega) | exact decide_eq_false (by omega) | assumption | (simp; omega)))
          case r2g8 =>
            intro w9 hb
            refine over_some (ds1 := [23, 26]) (ds2 := []) [(.bool false), (.bool false)] (by kernel_rfl) ?_
            refine over_nil ?_
            simp only [putAll, put_lit, List.set_cons_succ, List.set_cons_zero]
            go_wp2
            first | exact post_of (by rfl) (by rfl) (Below.refl _ _) (by rfl) | exact rfl
          case r2g9 =>
            intro w9 hb
            refine over_some (ds1 := [27]) (ds2 := []) [(.bool false)] (by kernel_rfl) ?_
            refine over_nil ?_
            simp only [putAll, put_lit, List.set_cons_succ, List.set_cons_zero]
            go_wp2
            first | exact post_of (by rfl) (by rfl) (Below.refl _ _) (by rfl) | exact rfl
          case r2g10 =>
            intro w9 hb
            refine over_some (ds1 := [28]) (ds2 := []) [(.bool false)] (by kernel_rfl) ?_
            refine over_nil ?_
            simp only [putAll, put_lit, List.set_cons_succ, List.set_cons_zero]
            go_wp2
            first | exact post_of (by rfl) (by rfl) (Below.refl _ _) (by rfl) | exact rfl
          case r2g11 =>
            intro w9 hb
            refine over_some (ds1 := [28, 29]) (ds2 := []) [(.bool false), (.int .i64 (i : Int))] (by kernel_rfl) ?_
            refine over_nil ?_
            simp only [putAll, put_lit, List.set_cons_succ, List.set_cons_zero]
            go_wp2
            exact post_of (by rfl) (by rfl) (Below.refl _ _) (by first | rfl | (show Value.bool _ = Value.bool _; rw [Value.bool.injEq]; first | exact decide_eq_true (by omega) | exact decide_eq_false (by omega) | assumption | (simp; omega)))
          case r2g12 =>
            intro w9 hb
            refine over_some (ds1 := [28, 30]) (ds2 := []) [(.bool false), (.bool true)] (by kernel_rfl) ?_
            refine over_nil ?_
            simp only [putAll, put_lit, List.set_cons_succ, List.set_cons_zero]
            go_wp2
            first | exact post_of (by rfl) (by rfl) (Below.refl _ _) (by rfl) | exact rfl
          case r2g13 =>
            intro w9 hb
            refine over_some (ds1 := [31]) (ds2 := []) [(.bool true)] (by kernel_rfl) ?_
            refine over_nil ?_
            simp only [putAll, put_lit, List.set_cons_succ, List.set_cons_zero]
            obtain ⟨p0, q0, r0, s0⟩ := (KD.out.next hb).cells
            go_wp2
            first | exact post_of (by rfl) (by rfl) (Below.refl _ _) (by rfl) | exact rfl
          case r2g14 =>
            intro w9 hb
            refine over_some (ds1 := [31]) (ds2 := []) [(.bool true)] (by kernel_rfl) ?_
            refine over_nil ?_
            simp only [putAll, put_lit, List.set_cons_succ, List.set_cons_zero]
            go_wp2
            first | exact post_of (by rfl) (by rfl) (Below.refl _ _) (by rfl) | exact rfl
          case r2g15 =>
            intro w9 hb
            refine over_some (ds1 := [31]) (ds2 := []) [(.bool true)] (by kernel_rfl) ?_
            refine over_nil ?_
            simp only [putAll, put_lit, List.set_cons_succ, List.set_cons_zero]
            go_wp2
            first | exact post_of (by rfl) (by rfl) (Below.refl _ _) (by rfl) | exact rfl
          case r2g16 =>
            intro w9 hb
            refine over_some (ds1 := [31, 33, 34]) (ds2 := []) [(.bool true), (.slice (some ⟨b, off, none⟩) n c), (.int .i64 (i : Int))] (by kernel_rfl) ?_
            refine over_nil ?_
            simp only [putAll, put_lit, List.set_cons_succ, List.set_cons_zero]
            go_wp2
            first | exact post_of (by rfl) (by rfl) (Below.refl _ _) (by rfl) | exact rfl
          case r2g17 =>
            intro w9 hb
            refine over_some (ds1 := [31, 35]) (ds2 := []) [(.bool true), (.pointer (some ⟨b, off + i * 4, none⟩))] (by kernel_rfl) ?_
            refine over_nil ?_
            simp only [putAll, put_lit, List.set_cons_succ, List.set_cons_zero]
            obtain ⟨p0, q0, r0, s0⟩ := HC.out _ (thn B.out hb)
            go_wp2
            first | exact post_of (by rfl) (by rfl) (Below.refl _ _) (by rfl) | exact rfl
          case r2g18 =>
            intro w9 hb
            refine over_some (ds1 := [31, 32, 36]) (ds2 := []) [(.bool true), (.agg #[.int .u8 d.1, .int .u16 d.2.1, .int .u8 d.2.2.1, .slice hd.1 hd.2.1 hd.2.2]), (.agg #[.int .u8 y'.1.1, .int .u16 y'.1.2.1, .int .u8 y'.1.2.2.1, .slice y'.2.1 y'.2.2.1 y'.2.2.2])] (by kernel_rfl) ?_
            refine over_nil ?_
            simp only [putAll, put_lit, List.set_cons_succ, List.set_cons_zero]
            go_wp2_with fail
            have hc2 := newer_any (d, hd) y' w9
            rw [HN.out] at hc2
            refine hc2.mono ?_
            clear hc2
            rintro e w8 ⟨rfl, b6⟩
            go_wp2
            exact post_of (by rfl) (by rfl) b6 (by rfl)
          case r2g19 =>
            intro w9 hb
            refine over_some (ds1 := [31, 37]) (ds2 := []) [(.bool true), (.bool false)] (by kernel_rfl) ?_
            refine over_nil ?_
            simp only [putAll, put_lit, List.set_cons_succ, List.set_cons_zero]
            go_wp2
            first | exact post_of (by rfl) (by rfl) (Below.refl _ _) (by rfl) | exact rfl
          case r2g20 =>
            intro w9 hb
            refine over_some (ds1 := [28, 31, 38]) (ds2 := []) [(.bool false), (.bool true), (.bool true)] (by kernel_rfl) ?_
            refine over_nil ?_
            simp only [putAll, put_lit, List.set_cons_succ, List.set_cons_zero]
            go_wp2
            first | exact post_of (by rfl) (by rfl) (Below.refl _ _) (by rfl) | exact rfl
          case r2g21 =>
            intro w9 hb
            refine over_some (ds1 := [28, 39]) (ds2 := []) [(.bool false), (.bool true)] (by kernel_rfl) ?_
            refine over_nil ?_
            simp only [putAll, put_lit, List.set_cons_succ, List.set_cons_zero]
            go_wp2
            first | exact post_of (by rfl) (by rfl) (Below.refl _ _) (by rfl) | exact rfl
          case r2g22 =>
            intro w9 hb
            refine over_some (ds1 := [40]) (ds2 := []) [(.bool true)] (by kernel_rfl) ?_
            refine over_nil ?_
            simp only [putAll, put_lit, List.set_cons_succ, List.set_cons_zero]
            go_wp2
            first | exact post_of (by rfl) (by rfl) (Below.refl _ _) (by rfl) | exact rfl
          case r2g23 =>
            intro w9 hb
            refine over_some (ds1 := [41]) (ds2 := []) [(.bool true)] (by kernel_rfl) ?_
            refine over_nil ?_
            simp only [putAll, put_lit, List.set_cons_succ, List.set_cons_zero]
            exact post_skip rfl (by kernel_rfl) (by kernel_rfl) (by kernel_rfl) (by kernel_rfl)
          case r2g24 =>
            intro w9 hb
            refine over_some (ds1 := [41, 42]) (ds2 := []) [(.bool true), undef] (by kernel_rfl) ?_
            refine over_nil ?_
            simp only [putAll, put_lit, List.set_cons_succ, List.set_cons_zero]
            exact post_skip rfl (by kernel_rfl) (by kernel_rfl) (by kernel_rfl) (by kernel_rfl)
          case r2g25 =>
            intro w9 hb
            refine over_some (ds1 := [41, 43]) (ds2 := []) [(.bool true), undef] (by kernel_rfl) ?_
            refine over_nil ?_
            simp only [putAll, put_lit, List.set_cons_succ, List.set_cons_zero]
            exact post_skip rfl (by kernel_rfl) (by kernel_rfl) (by kernel_rfl) (by kernel_rfl)
          case r2g26 =>
            intro w9 hb
            refine over_some (ds1 := [44]) (ds2 := []) [undef] (by kernel_rfl) ?_
            refine over_nil ?_
            simp only [putAll, put_lit, List.set_cons_succ, List.set_cons_zero]
            exact post_skip rfl (by kernel_rfl) (by kernel_rfl) (by kernel_rfl) (by kernel_rfl)
          case r2g27 =>
            intro w9 hb
            refine over_some (ds1 := [44, 45]) (ds2 := []) [undef, undef] (by kernel_rfl) ?_
            refine over_nil ?_
            simp only [putAll, put_lit, List.set_cons_succ, List.set_cons_zero]
            exact post_skip rfl (by kernel_rfl) (by kernel_rfl) (by kernel_rfl) (by kernel_rfl)
          case r2g28 =>
            intro w9 hb
            refine over_some (ds1 := [44]) (ds2 := []) [undef] (by kernel_rfl) ?_
            refine over_nil ?_
            simp only [putAll, put_lit, List.set_cons_succ, List.set_cons_zero]
            exact post_skip rfl (by kernel_rfl) (by kernel_rfl) (by kernel_rfl) (by kernel_rfl)
          case r2g29 =>
            intro w9 hb
            refine over_some (ds1 := [44, 46, 47]) (ds2 := []) [undef, undef, undef] (by kernel_rfl) ?_
            refine over_nil ?_
            simp only [putAll, put_lit, List.set_cons_succ, List.set_cons_zero]
            exact post_skip rfl (by kernel_rfl) (by kernel_rfl) (by kernel_rfl) (by kernel_rfl)
          case r2g30 =>
            intro w9 hb
            refine over_some (ds1 := [41, 44, 48]) (ds2 := []) [(.bool true), undef, undef] (by kernel_rfl) ?_
            refine over_nil ?_
            simp only [putAll, put_lit, List.set_cons_succ, List.set_cons_zero]
            exact post_skip rfl (by kernel_rfl) (by kernel_rfl) (by kernel_rfl) (by kernel_rfl)
        · obtain rfl : rf = false := HRV
          skip
          go_enter Try.func33, Try.ntmps33
          go_upto_region 1 with fail
          generalize w.alloc (.cells #[.int .u8 d.1, .int .u16 d.2.1, .int .u8 d.2.2.1, .slice hd.1 hd.2.1 hd.2.2] 27) = w1 at *
          obtain ⟨g, hg⟩ : ∃ g, w.heap.size = g := ⟨_, rfl⟩
          rw [hg] at KD ⊢
          clear hg
          obtain ⟨p0, p1, p2, p3⟩ := KD.out.cells
          go_wp2_with fail
          have hc := reffind_any (some ⟨b, off, none⟩) n c xs d.1 w1 (HS.out.next B.out)
          rw [HK.out] at hc
          refine hc.mono ?_
          clear hc p0 p1 p2 p3
          rintro e w2 ⟨rfl, b5⟩
          replace KD := Lib.hid (KD.out.next b5)
          replace B := Lib.hid (thn B.out b5)
          clear b5
          go_upto_region 2 with fail
          refine wp_region_typed 31 [(19, .val (.pointer (some ⟨g, 0, none⟩))), (20, .val (.int .u8 d.1)), (21, .val (.int .u8 self)), (22, .val (.bool false)), (23, .val (.bool false)), (24, .val (.pointer (some ⟨g, 1, none⟩))), (25, .val (.int .u16 d.2.1)), (26, .val (.bool false)), (27, .val (.bool false)), (28, .val (.bool false)), (29, .val (.int .i64 (i : Int))), (30, .val (.bool true)), (31, .val (.bool true)), (32, .val (.agg #[.int .u8 d.1, .int .u16 d.2.1, .int .u8 d.2.2.1, .slice hd.1 hd.2.1 hd.2.2])), (33, .val (.slice (some ⟨b, off, none⟩) n c)), (34, .val (.int .i64 (i : Int))), (35, .val (.pointer (some ⟨b, off + i * 4, none⟩))), (36, .val (.agg #[.int .u8 y'.1.1, .int .u16 y'.1.2.1, .int .u8 y'.1.2.2.1, .slice y'.2.1 y'.2.2.1 y'.2.2.2])), (37, .val (.bool true)), (38, .val (.bool false)), (39, .val (.bool false)), (40, .val (.bool false)), (41, .val (.bool false)), (42, .val (.int .i64 (i : Int))), (43, .val (.bool false)), (44, .val (.bool false)), (45, .val undef), (46, .val undef), (47, .val undef), (48, .val undef), (49, .val (.bool false))]
            [[], [19], [], [20, 21], [22], [23], [23, 24], [23, 25], [23, 26], [27], [28], [28, 29], [28, 30], [31], [31], [31], [31, 33, 34], [31, 35], [31, 32, 36], [31, 37], [28, 31, 38], [28, 39], [40], [41], [41, 42], [41, 43], [44], [44, 45], [44], [44, 46, 47], [41, 44, 48]] (by kernel_rfl) (by kernel_rfl) ?_ ?_
          rotate_left
          · intro v3 hb
            simp only [List.take_succ_cons, List.take_zero, List.drop_succ_cons, List.drop_zero]
            refine over_ds (ds := [19, 20, 21, 22, 23, 24, 25, 26, 27, 28, 29, 30, 31, 32, 33, 34, 35, 36, 37, 38, 39, 40, 41, 42, 43, 44, 45, 46, 47, 48, 49]) (by kernel_rfl) ?_
            refine over_some (ds1 := [19, 20, 21, 22, 23, 24, 25, 26, 27, 28, 29, 30, 31, 32, 33, 34, 35, 36, 37, 38, 39, 40, 41, 42, 43, 44, 45, 46, 47, 48, 49]) (ds2 := []) [(.pointer (some ⟨g, 0, none⟩)), (.int .u8 d.1), (.int .u8 self), (.bool false), (.bool false), (.pointer (some ⟨g, 1, none⟩)), (.int .u16 d.2.1), (.bool false), (.bool false), (.bool false), (.int .i64 (i : Int)), (.bool true), (.bool true), (.agg #[.int .u8 d.1, .int .u16 d.2.1, .int .u8 d.2.2.1, .slice hd.1 hd.2.1 hd.2.2]), (.slice (some ⟨b, off, none⟩) n c), (.int .i64 (i : Int)), (.pointer (some ⟨b, off + i * 4, none⟩)), (.agg #[.int .u8 y'.1.1, .int .u16 y'.1.2.1, .int .u8 y'.1.2.2.1, .slice y'.2.1 y'.2.2.1 y'.2.2.2]), (.bool true), (.bool false), (.bool false), (.bool false), (.bool false), (.int .i64 (i : Int)), (.bool false), (.bool false), undef, undef, undef, undef, (.bool false)] (by kernel_rfl) ?_
            refine over_nil ?_
            simp only [putAll, put_lit, List.set_cons_succ, List.set_cons_zero]
            replace KD := Lib.hid (KD.out.next hb)
            replace B := Lib.hid (thn B.out hb)
            clear hb
            obtain ⟨A, hA⟩ : ∃ A, A = some (⟨b, off, none⟩ : Addr) := ⟨_, rfl⟩
            rw [← hA] at HS ⊢
            clear hA HC
            have HS2 := Lib.hid (HS.out.next B.out)
            have FL2 : Hid (∀ z, (z = (d, hd) ∨ z ∈ xs) → Fl v3 z) := fun z hz => (FLX.out z hz).next B.out
            have B0 := B
            clear B HS FLX
            go_wp2
            go_loopw [12, 13, 14] (fun lv pv iv wr => ∃ (j m : Nat) (A2 : Option Addr) (c2 : Nat) (zs : List (Dsc × Hd)) (pb : Bool), j ≤ n ∧ m ≤ j + 1 ∧ (pb = false → m ≤ j) ∧ lv = .slice A2 m c2 ∧ pv = .bool pb ∧ iv = .int .i64 j ∧ Hid (insRun keyX (d, hd) (xs.take j) = (zs, pb)) ∧ Hid (Ods wr v3.heap.size A2 m c2 zs) ∧ Hid (Below v3.heap.size v3 wr)) (fun _ _ iv _ => n - (intOf iv).toNat)
            case atStart => exact ⟨0, 0, none, 0, [], false, Nat.zero_le _, by omega, fun _ => by omega, rfl, rfl, rfl, rfl, Ods.nil _ _, Below.refl _ _⟩
            case round =>
              obtain ⟨j, m, A2, c2, zs, pb, hj, hm1, hm2, rfl, rfl, rfl, HZ, SO, B⟩ := hrel
              have i0 : (0 : Int) ≤ (j : Int) := by omega
              by_cases hlt : j < n
              · have i1 : (j : Int) < (n : Int) := by omega
                obtain ⟨b, off, x, rfl, hx, hxm, HC⟩ := HS2.out.cells hlt
                have HX := Lib.hid hx
                have HXM := Lib.hid hxm
                have HMZ : Hid (∀ z ∈ zs, z = (d, hd) ∨ z ∈ xs) := fun z hz => (insRun_mem keyX (d, hd) z (by rw [HZ.out]; exact hz)).imp_right List.mem_of_mem_take
                clear hx hxm
                cases pb
                · replace hm2 := hm2 rfl
                  by_cases he : keyX x = keyX (d, hd)
                  · skip
                    have HZ2 : Hid (insRun keyX (d, hd) (xs.take (j + 1)) = insStep keyX (d, hd) (zs, false) x) := by unfold Hid; rw [List.take_add_one, HX.out, Option.toList_some, insRun_snoc, HZ.out]
                    rw [insStep_fe keyX (d, hd) zs x he] at HZ2
                    have hne : (x.1.1 != d.1) = false := by rw [show x.1.1 = d.1 from he]; simp
                    have hcm : d.1 ≤ x.1.1 := Int.le_of_eq he.symm
                    clear he HZ
                    obtain ⟨p0, p1, p2, p3⟩ := HC.out _ B.out
                    obtain ⟨q0, q1, q2, q3⟩ := (KD.out.next B.out).cells
                    go_wp2
                    go_quiet (fail)
                    clear p0 p1 p2 p3 q0 q1 q2 q3
                    replace SO := Lib.hid (SO.out.below (dN (Below.refl _ _) nq))
                    replace B := Lib.hid (dN B.out nq)
                    generalize World.drewN wr nq = w1 at *
                    clear nq
                    obtain ⟨p0, p1, p2, p3⟩ := HC.out _ B.out
                    obtain ⟨q0, q1, q2, q3⟩ := (KD.out.next B.out).cells
                    have HM2 : Hid (∀ z ∈ zs ++ [(d, hd)], z = (d, hd) ∨ z ∈ xs) := fun z hz => (List.mem_append.1 hz).elim (HMZ.out z) (fun h => .inl (List.mem_singleton.1 h))
                    go_wp2_with (at_builtin; go_must (refine wpList_appsx rfl _ _ 23 rfl Try.underlying23 infoD rfl (by decide) rfl (Ows.below SO.out.ow (below_lit _ _)) rfl (Sn.lit w1 #[.int .u8 d.1, .int .u16 d.2.1, .int .u8 d.2.2.1, .slice hd.1 hd.2.1 hd.2.2] 27 (0, 0) 4 1 rfl (by decide)) (dcl_one (d, hd)) (by omega) (by decide) (Nat.le_trans B.out.size (below_lit _ _).size) ?_); intro A3 c3 w5 o5 g5)
                    have hbl := below_lit w1 (.cells #[.int .u8 d.1, .int .u16 d.2.1, .int .u8 d.2.2.1, .slice hd.1 hd.2.1 hd.2.2] 27)
                    have B2 := Lib.hid ((B.out.alloc B.out.size _).grown g5 (Nat.le_trans B.out.size hbl.size) (Ows.below SO.out.ow hbl).lt)
                    clear g5 hbl
                    have SO2 : Hid (Ods w5 v3.heap.size A3 (m + 1) c3 (zs ++ [(d, hd)])) := ⟨by rw [dcs_append, dcs_cons, dcs_nil, List.append_nil]; exact o5, fun z hz => (FL2.out z (HM2.out z hz)).next B2.out⟩
                    clear o5
                    clear p0 p1 p2 p3 q0 q1 q2 q3
                    obtain ⟨p0, p1, p2, p3⟩ := HC.out _ B2.out
                    obtain ⟨q0, q1, q2, q3⟩ := (KD.out.next B2.out).cells
                    go_wp2
                    go_quiet (fail)
                    clear p0 p1 p2 p3 q0 q1 q2 q3
                    replace SO2 := Lib.hid (SO2.out.below (dN (Below.refl _ _) nq))
                    replace B2 := Lib.hid (dN B2.out nq)
                    generalize World.drewN w5 nq = w6 at *
                    clear nq
                    obtain ⟨p0, p1, p2, p3⟩ := HC.out _ B2.out
                    obtain ⟨q0, q1, q2, q3⟩ := (KD.out.next B2.out).cells
                    go_wp2
                    go_roundw
                    case rel => exact ⟨j + 1, (m + 1), A3, c3, (zs ++ [(d, hd)]), true, by omega, by omega, (fun h => by cases h), rfl, rfl, by go_num, HZ2, SO2, B2⟩
                    case measure => simp [intOf]; omega
                  · by_cases he2 : keyX x < keyX (d, hd)
                    · replace he := he2
                      clear he2
                      have HZ2 : Hid (insRun keyX (d, hd) (xs.take (j + 1)) = insStep keyX (d, hd) (zs, false) x) := by unfold Hid; rw [List.take_add_one, HX.out, Option.toList_some, insRun_snoc, HZ.out]
                      rw [insStep_fl keyX (d, hd) zs x he] at HZ2
                      have hne : (x.1.1 != d.1) = true := by have h : x.1.1 < d.1 := he; simp; omega
                      have hcm : x.1.1 < d.1 := he
                      clear he HZ
                      obtain ⟨p0, p1, p2, p3⟩ := HC.out _ B.out
                      obtain ⟨q0, q1, q2, q3⟩ := (KD.out.next B.out).cells
                      go_wp2
                      go_quiet (fail)
                      clear p0 p1 p2 p3 q0 q1 q2 q3
                      replace SO := Lib.hid (SO.out.below (dN (Below.refl _ _) nq))
                      replace B := Lib.hid (dN B.out nq)
                      generalize World.drewN wr nq = w1 at *
                      clear nq
                      obtain ⟨p0, p1, p2, p3⟩ := HC.out _ B.out
                      obtain ⟨q0, q1, q2, q3⟩ := (KD.out.next B.out).cells
                      clear p0 p1 p2 p3 q0 q1 q2 q3
                      obtain ⟨p0, p1, p2, p3⟩ := HC.out _ B.out
                      obtain ⟨q0, q1, q2, q3⟩ := (KD.out.next B.out).cells
                      go_wp2
                      go_quiet (fail)
                      clear p0 p1 p2 p3 q0 q1 q2 q3
                      replace SO := Lib.hid (SO.out.below (dN (Below.refl _ _) nq))
                      replace B := Lib.hid (dN B.out nq)
                      generalize World.drewN w1 nq = w2 at *
                      clear nq
                      obtain ⟨p0, p1, p2, p3⟩ := HC.out _ B.out
                      obtain ⟨q0, q1, q2, q3⟩ := (KD.out.next B.out).cells
                      have HM3 : Hid (∀ z ∈ zs ++ [x], z = (d, hd) ∨ z ∈ xs) := fun z hz => (List.mem_append.1 hz).elim (HMZ.out z) (fun h => .inr (by rw [List.mem_singleton.1 h]; exact HXM.out))
                      go_wp2_with (at_builtin; go_must (refine wpList_appsx rfl _ _ 23 rfl Try.underlying23 infoD rfl (by decide) rfl (Ows.below SO.out.ow (below_lit _ _)) rfl (Sn.lit w2 #[.int .u8 x.1.1, .int .u16 x.1.2.1, .int .u8 x.1.2.2.1, .slice x.2.1 x.2.2.1 x.2.2.2] 27 (0, 0) 4 1 rfl (by decide)) (dcl_one (x.1, x.2)) (by omega) (by decide) (Nat.le_trans B.out.size (below_lit _ _).size) ?_); intro A4 c4 w7 o7 g7)
                      have hbl := below_lit w2 (.cells #[.int .u8 x.1.1, .int .u16 x.1.2.1, .int .u8 x.1.2.2.1, .slice x.2.1 x.2.2.1 x.2.2.2] 27)
                      have B3 := Lib.hid ((B.out.alloc B.out.size _).grown g7 (Nat.le_trans B.out.size hbl.size) (Ows.below SO.out.ow hbl).lt)
                      clear g7 hbl
                      have SO3 : Hid (Ods w7 v3.heap.size A4 (m + 1) c4 (zs ++ [(x.1, x.2)])) := ⟨by rw [dcs_append, dcs_cons, dcs_nil, List.append_nil]; exact o7, fun z hz => (FL2.out z (HM3.out z hz)).next B3.out⟩
                      clear o7
                      go_roundw
                      case rel => exact ⟨j + 1, (m + 1), A4, c4, (zs ++ [x]), false, by omega, by omega, (fun _ => by omega), rfl, rfl, by go_num, HZ2, SO3, B3⟩
                      case measure => simp [intOf]; omega
                    · replace he : keyX (d, hd) < keyX x := by omega
                      clear he2
                      have HZ2 : Hid (insRun keyX (d, hd) (xs.take (j + 1)) = insStep keyX (d, hd) (zs, false) x) := by unfold Hid; rw [List.take_add_one, HX.out, Option.toList_some, insRun_snoc, HZ.out]
                      rw [insStep_fg keyX (d, hd) zs x he] at HZ2
                      have hne : (x.1.1 != d.1) = true := by have h : d.1 < x.1.1 := he; simp; omega
                      have hcm : d.1 < x.1.1 := he
                      clear he HZ
                      obtain ⟨p0, p1, p2, p3⟩ := HC.out _ B.out
                      obtain ⟨q0, q1, q2, q3⟩ := (KD.out.next B.out).cells
                      go_wp2
                      go_quiet (fail)
                      clear p0 p1 p2 p3 q0 q1 q2 q3
                      replace SO := Lib.hid (SO.out.below (dN (Below.refl _ _) nq))
                      replace B := Lib.hid (dN B.out nq)
                      generalize World.drewN wr nq = w1 at *
                      clear nq
                      obtain ⟨p0, p1, p2, p3⟩ := HC.out _ B.out
                      obtain ⟨q0, q1, q2, q3⟩ := (KD.out.next B.out).cells
                      have HM2 : Hid (∀ z ∈ zs ++ [(d, hd)], z = (d, hd) ∨ z ∈ xs) := fun z hz => (List.mem_append.1 hz).elim (HMZ.out z) (fun h => .inl (List.mem_singleton.1 h))
                      go_wp2_with (at_builtin; go_must (refine wpList_appsx rfl _ _ 23 rfl Try.underlying23 infoD rfl (by decide) rfl (Ows.below SO.out.ow (below_lit _ _)) rfl (Sn.lit w1 #[.int .u8 d.1, .int .u16 d.2.1, .int .u8 d.2.2.1, .slice hd.1 hd.2.1 hd.2.2] 27 (0, 0) 4 1 rfl (by decide)) (dcl_one (d, hd)) (by omega) (by decide) (Nat.le_trans B.out.size (below_lit _ _).size) ?_); intro A3 c3 w5 o5 g5)
                      have hbl := below_lit w1 (.cells #[.int .u8 d.1, .int .u16 d.2.1, .int .u8 d.2.2.1, .slice hd.1 hd.2.1 hd.2.2] 27)
                      have B2 := Lib.hid ((B.out.alloc B.out.size _).grown g5 (Nat.le_trans B.out.size hbl.size) (Ows.below SO.out.ow hbl).lt)
                      clear g5 hbl
                      have SO2 : Hid (Ods w5 v3.heap.size A3 (m + 1) c3 (zs ++ [(d, hd)])) := ⟨by rw [dcs_append, dcs_cons, dcs_nil, List.append_nil]; exact o5, fun z hz => (FL2.out z (HM2.out z hz)).next B2.out⟩
                      clear o5
                      clear p0 p1 p2 p3 q0 q1 q2 q3
                      obtain ⟨p0, p1, p2, p3⟩ := HC.out _ B2.out
                      obtain ⟨q0, q1, q2, q3⟩ := (KD.out.next B2.out).cells
                      go_wp2
                      go_quiet (fail)
                      clear p0 p1 p2 p3 q0 q1 q2 q3
                      replace SO2 := Lib.hid (SO2.out.below (dN (Below.refl _ _) nq))
                      replace B2 := Lib.hid (dN B2.out nq)
                      generalize World.drewN w5 nq = w6 at *
                      clear nq
                      obtain ⟨p0, p1, p2, p3⟩ := HC.out _ B2.out
                      obtain ⟨q0, q1, q2, q3⟩ := (KD.out.next B2.out).cells
                      have HM3 : Hid (∀ z ∈ (zs ++ [(d, hd)]) ++ [x], z = (d, hd) ∨ z ∈ xs) := fun z hz => (List.mem_append.1 hz).elim (HM2.out z) (fun h => .inr (by rw [List.mem_singleton.1 h]; exact HXM.out))
                      go_wp2_with (at_builtin; go_must (refine wpList_appsx rfl _ _ 23 rfl Try.underlying23 infoD rfl (by decide) rfl (Ows.below SO2.out.ow (below_lit _ _)) rfl (Sn.lit w6 #[.int .u8 x.1.1, .int .u16 x.1.2.1, .int .u8 x.1.2.2.1, .slice x.2.1 x.2.2.1 x.2.2.2] 27 (0, 0) 4 1 rfl (by decide)) (dcl_one (x.1, x.2)) (by omega) (by decide) (Nat.le_trans B2.out.size (below_lit _ _).size) ?_); intro A4 c4 w7 o7 g7)
                      have hbl := below_lit w6 (.cells #[.int .u8 x.1.1, .int .u16 x.1.2.1, .int .u8 x.1.2.2.1, .slice x.2.1 x.2.2.1 x.2.2.2] 27)
                      have B3 := Lib.hid ((B2.out.alloc B2.out.size _).grown g7 (Nat.le_trans B2.out.size hbl.size) (Ows.below SO2.out.ow hbl).lt)
                      clear g7 hbl
                      have SO3 : Hid (Ods w7 v3.heap.size A4 ((m + 1) + 1) c4 ((zs ++ [(d, hd)]) ++ [(x.1, x.2)])) := ⟨by rw [dcs_append, dcs_cons, dcs_nil, List.append_nil]; exact o7, fun z hz => (FL2.out z (HM3.out z hz)).next B3.out⟩
                      clear o7
                      go_roundw
                      case rel => exact ⟨j + 1, ((m + 1) + 1), A4, c4, ((zs ++ [(d, hd)]) ++ [x]), true, by omega, by omega, (fun h => by cases h), rfl, rfl, by go_num, HZ2, SO3, B3⟩
                      case measure => simp [intOf]; omega
                · clear hm2
                  by_cases he : keyX x = keyX (d, hd)
                  · skip
                    have HZ2 : Hid (insRun keyX (d, hd) (xs.take (j + 1)) = insStep keyX (d, hd) (zs, true) x) := by unfold Hid; rw [List.take_add_one, HX.out, Option.toList_some, insRun_snoc, HZ.out]
                    rw [insStep_te keyX (d, hd) zs x he] at HZ2
                    have hne : (x.1.1 != d.1) = false := by rw [show x.1.1 = d.1 from he]; simp
                    clear he HZ
                    obtain ⟨p0, p1, p2, p3⟩ := HC.out _ B.out
                    obtain ⟨q0, q1, q2, q3⟩ := (KD.out.next B.out).cells
                    go_wp2
                    go_quiet (fail)
                    clear p0 p1 p2 p3 q0 q1 q2 q3
                    replace SO := Lib.hid (SO.out.below (dN (Below.refl _ _) nq))
                    replace B := Lib.hid (dN B.out nq)
                    generalize World.drewN wr nq = w1 at *
                    clear nq
                    obtain ⟨p0, p1, p2, p3⟩ := HC.out _ B.out
                    obtain ⟨q0, q1, q2, q3⟩ := (KD.out.next B.out).cells
                    clear p0 p1 p2 p3 q0 q1 q2 q3
                    obtain ⟨p0, p1, p2, p3⟩ := HC.out _ B.out
                    obtain ⟨q0, q1, q2, q3⟩ := (KD.out.next B.out).cells
                    go_wp2
                    go_quiet (fail)
                    clear p0 p1 p2 p3 q0 q1 q2 q3
                    replace SO := Lib.hid (SO.out.below (dN (Below.refl _ _) nq))
                    replace B := Lib.hid (dN B.out nq)
                    generalize World.drewN w1 nq = w2 at *
                    clear nq
                    obtain ⟨p0, p1, p2, p3⟩ := HC.out _ B.out
                    obtain ⟨q0, q1, q2, q3⟩ := (KD.out.next B.out).cells
                    go_wp2
                    go_roundw
                    case rel => exact ⟨j + 1, m, A2, c2, zs, true, by omega, by omega, (fun h => by cases h), rfl, rfl, by go_num, HZ2, SO, B⟩
                    case measure => simp [intOf]; omega
                  · skip
                    have HZ2 : Hid (insRun keyX (d, hd) (xs.take (j + 1)) = insStep keyX (d, hd) (zs, true) x) := by unfold Hid; rw [List.take_add_one, HX.out, Option.toList_some, insRun_snoc, HZ.out]
                    rw [insStep_tt keyX (d, hd) zs x he] at HZ2
                    have hne : (x.1.1 != d.1) = true := by have h : ¬ x.1.1 = d.1 := he; simp; omega
                    clear he HZ
                    obtain ⟨p0, p1, p2, p3⟩ := HC.out _ B.out
                    obtain ⟨q0, q1, q2, q3⟩ := (KD.out.next B.out).cells
                    go_wp2
                    go_quiet (fail)
                    clear p0 p1 p2 p3 q0 q1 q2 q3
                    replace SO := Lib.hid (SO.out.below (dN (Below.refl _ _) nq))
                    replace B := Lib.hid (dN B.out nq)
                    generalize World.drewN wr nq = w1 at *
                    clear nq
                    obtain ⟨p0, p1, p2, p3⟩ := HC.out _ B.out
                    obtain ⟨q0, q1, q2, q3⟩ := (KD.out.next B.out).cells
                    clear p0 p1 p2 p3 q0 q1 q2 q3
                    obtain ⟨p0, p1, p2, p3⟩ := HC.out _ B.out
                    obtain ⟨q0, q1, q2, q3⟩ := (KD.out.next B.out).cells
                    go_wp2
                    go_quiet (fail)
                    clear p0 p1 p2 p3 q0 q1 q2 q3
                    replace SO := Lib.hid (SO.out.below (dN (Below.refl _ _) nq))
                    replace B := Lib.hid (dN B.out nq)
                    generalize World.drewN w1 nq = w2 at *
                    clear nq
                    obtain ⟨p0, p1, p2, p3⟩ := HC.out _ B.out
                    obtain ⟨q0, q1, q2, q3⟩ := (KD.out.next B.out).cells
                    have HM3 : Hid (∀ z ∈ zs ++ [x], z = (d, hd) ∨ z ∈ xs) := fun z hz => (List.mem_append.1 hz).elim (HMZ.out z) (fun h => .inr (by rw [List.mem_singleton.1 h]; exact HXM.out))
                    go_wp2_with (at_builtin; go_must (refine wpList_appsx rfl _ _ 23 rfl Try.underlying23 infoD rfl (by decide) rfl (Ows.below SO.out.ow (below_lit _ _)) rfl (Sn.lit w2 #[.int .u8 x.1.1, .int .u16 x.1.2.1, .int .u8 x.1.2.2.1, .slice x.2.1 x.2.2.1 x.2.2.2] 27 (0, 0) 4 1 rfl (by decide)) (dcl_one (x.1, x.2)) (by omega) (by decide) (Nat.le_trans B.out.size (below_lit _ _).size) ?_); intro A4 c4 w7 o7 g7)
                    have hbl := below_lit w2 (.cells #[.int .u8 x.1.1, .int .u16 x.1.2.1, .int .u8 x.1.2.2.1, .slice x.2.1 x.2.2.1 x.2.2.2] 27)
                    have B3 := Lib.hid ((B.out.alloc B.out.size _).grown g7 (Nat.le_trans B.out.size hbl.size) (Ows.below SO.out.ow hbl).lt)
                    clear g7 hbl
                    have SO3 : Hid (Ods w7 v3.heap.size A4 (m + 1) c4 (zs ++ [(x.1, x.2)])) := ⟨by rw [dcs_append, dcs_cons, dcs_nil, List.append_nil]; exact o7, fun z hz => (FL2.out z (HM3.out z hz)).next B3.out⟩
                    clear o7
                    go_roundw
                    case rel => exact ⟨j + 1, (m + 1), A4, c4, (zs ++ [x]), true, by omega, by omega, (fun h => by cases h), rfl, rfl, by go_num, HZ2, SO3, B3⟩
                    case measure => simp [intOf]; omega
              · obtain rfl : j = n := by omega
                rw [List.take_of_length_le (by rw [← HL.out]; exact Nat.le_refl _)] at HZ
                cases pb
                · have HMZ : Hid (∀ z ∈ zs ++ [(d, hd)], z = (d, hd) ∨ z ∈ xs) := fun z hz => (List.mem_append.1 hz).elim (fun h => insRun_mem keyX (d, hd) z (by rw [HZ.out]; exact h)) (fun h => .inl (List.mem_singleton.1 h))
                  have HI : Hid (insG keyX (d, hd) xs = zs ++ [(d, hd)]) := by unfold Hid insG; rw [HZ.out]; rfl
                  obtain ⟨q0, q1, q2, q3⟩ := (KD.out.next B.out).cells
                  go_wp2_with (at_builtin; go_must (refine wpList_appsx rfl _ _ 23 rfl Try.underlying23 infoD rfl (by decide) rfl (Ows.below SO.out.ow (below_lit _ _)) rfl (Sn.lit wr #[.int .u8 d.1, .int .u16 d.2.1, .int .u8 d.2.2.1, .slice hd.1 hd.2.1 hd.2.2] 27 (0, 0) 4 1 rfl (by decide)) (dcl_one (d, hd)) (by omega) (by decide) (Nat.le_trans B.out.size (below_lit _ _).size) ?_); intro A3 c3 w5 o5 g5)
                  have hbl := below_lit wr (.cells #[.int .u8 d.1, .int .u16 d.2.1, .int .u8 d.2.2.1, .slice hd.1 hd.2.1 hd.2.2] 27)
                  have B2 := Lib.hid ((B.out.alloc B.out.size _).grown g5 (Nat.le_trans B.out.size hbl.size) (Ows.below SO.out.ow hbl).lt)
                  clear g5 hbl
                  have SO2 : Hid (Ods w5 v3.heap.size A3 (m + 1) c3 (zs ++ [(d, hd)])) := ⟨by rw [dcs_append, dcs_cons, dcs_nil, List.append_nil]; exact o5, fun z hz => (FL2.out z (HMZ.out z hz)).next B2.out⟩
                  clear o5
                  exact bodyPost_ret (v := .tuple #[.slice A3 (m + 1) c3, .bool true]) (by simp [results, Try.results33, go_sem]) rfl ⟨A3, m + 1, c3, zs ++ [(d, hd)], rfl, by rw [← HI.out]; exact insG_map (·.1) keyX keyD (fun _ => rfl) (d, hd) xs, SO2.out.sds, thn B0.out B2.out⟩
                · have HI : Hid (insG keyX (d, hd) xs = zs) := by unfold Hid insG; rw [HZ.out]; rfl
                  go_wp2
                  exact bodyPost_ret (v := .tuple #[.slice A2 m c2, .bool true]) (by simp [results, Try.results33, go_sem]) rfl ⟨A2, m, c2, zs, rfl, by rw [← HI.out]; exact insG_map (·.1) keyX keyD (fun _ => rfl) (d, hd) xs, SO.out.sds, thn B0.out B.out⟩
          simp only [List.take_succ_cons, List.take_zero]
          refine ⟨?r2g0, ?r2g1, ?r2g2, ?r2g3, ?r2g4, ?r2g5, ?r2g6, ?r2g7, ?r2g8, ?r2g9, ?r2g10, ?r2g11, ?r2g12, ?r2g13, ?r2g14, ?r2g15, ?r2g16, ?r2g17, ?r2g18, ?r2g19, ?r2g20, ?r2g21, ?r2g22, ?r2g23, ?r2g24, ?r2g25, ?r2g26, ?r2g27, ?r2g28, ?r2g29, ?r2g30, trivial⟩
          case r2g0 =>
            intro w9 hb
            refine over_nil ?_
            go_wp2
            first | exact post_of (by rfl) (by rfl) (Below.refl _ _) (by rfl) | exact rfl
          case r2g1 =>
            intro w9 hb
            refine over_some (ds1 := [19]) (ds2 := []) [(.pointer (some ⟨g, 0, none⟩))] (by kernel_rfl) ?_
            refine over_nil ?_
            simp only [putAll, put_lit, List.set_cons_succ, List.set_cons_zero]
            obtain ⟨p0, q0, r0, s0⟩ := (KD.out.next hb).cells
            go_wp2
            first | exact post_of (by rfl) (by rfl) (Below.refl _ _) (by rfl) | exact rfl
          case r2g2 =>
            intro w9 hb
            refine over_nil ?_
            go_wp2
            first | exact post_of (by rfl) (by rfl) (Below.refl _ _) (by rfl) | exact rfl
          case r2g3 =>
            intro w9 hb
            refine over_some (ds1 := [20, 21]) (ds2 := []) [(.int .u8 d.1), (.int .u8 self)] (by kernel_rfl) ?_
            refine over_nil ?_
            simp only [putAll, put_lit, List.set_cons_succ, List.set_cons_zero]
            go_wp2
            exact post_of (by rfl) (by rfl) (Below.refl _ _) (by first | rfl | (show Value.bool _ = Value.bool _; rw [Value.bool.injEq]; first | exact decide_eq_true (by omega) | exact decide_eq_false (by omega) | assumption | (simp; omega)))
          case r2g4 =>
            intro w9 hb
            refine over_some (ds1 := [22]) (ds2 := []) [(.bool false)] (by kernel_rfl) ?_
            refine over_nil ?_
            simp only [putAll, put_lit, List.set_cons_succ, List.set_cons_zero]
            go_wp2
            first | exact post_of (by rfl) (by rfl) (Below.refl _ _) (by rfl) | exact rfl
          case r2g5 =>
            intro w9 hb
            refine over_some (ds1 := [23]) (ds2 := []) [(.bool false)] (by kernel_rfl) ?_
            refine over_nil ?_
            simp only [putAll, put_lit, List.set_cons_succ, List.set_cons_zero]
            go_wp2
            first | exact post_of (by rfl) (by rfl) (Below.refl _ _) (by rfl) | exact rfl
          case r2g6 =>
            intro w9 hb
            refine over_some (ds1 := [23, 24]) (ds2 := []) [(.bool false), (.pointer (some ⟨g, 1, none⟩))] (by kernel_rfl) ?_
            refine over_nil ?_
            simp only [putAll, put_lit, List.set_cons_succ, List.set_cons_zero]
            obtain ⟨p0, q0, r0, s0⟩ := (KD.out.next hb).cells
            go_wp2
            first | exact post_of (by rfl) (by rfl) (Below.refl _ _) (by rfl) | exact rfl
          case r2g7 =>
            intro w9 hb
            refine over_some (ds1 := [23, 25]) (ds2 := []) [(.bool false), (.int .u16 d.2.1)] (by kernel_rfl) ?_
            refine over_nil ?_
            simp only [putAll, put_lit, List.set_cons_succ, List.set_cons_zero]
            go_wp2
            exact post_of (by rfl) (by rfl) (Below.refl _ _) (by first | rfl | (show Value.bool _ = Value.bool _; rw [Value.bool.injEq]; first | exact decide_eq_true (by omega) | exact decide_eq_false (by omega) | assumption | (simp; omega)))
          case r2g8 =>
            intro w9 hb
            refine over_some (ds1 := [23, 26]) (ds2 := []) [(.bool false), (.bool false)] (by kernel_rfl) ?_
            refine over_nil ?_
            simp only [putAll, put_lit, List.set_cons_succ, List.set_cons_zero]
            go_wp2
            first | exact post_of (by rfl) (by rfl) (Below.refl _ _) (by rfl) | exact rfl
          case r2g9 =>
            intro w9 hb
            refine over_some (ds1 := [27]) (ds2 := []) [(.bool false)] (by kernel_rfl) ?_
            refine over_nil ?_
            simp only [putAll, put_lit, List.set_cons_succ, List.set_cons_zero]
            go_wp2
            first | exact post_of (by rfl) (by rfl) (Below.refl _ _) (by rfl) | exact rfl
          case r2g10 =>
            intro w9 hb
            refine over_some (ds1 := [28]) (ds2 := []) [(.bool false)] (by kernel_rfl) ?_
            refine over_nil ?_
            simp only [putAll, put_lit, List.set_cons_succ, List.set_cons_zero]
            go_wp2
            first | exact post_of (by rfl) (by rfl) (Below.refl _ _) (by rfl) | exact rfl
          case r2g11 =>
            intro w9 hb
            refine over_some (ds1 := [28, 29]) (ds2 := []) [(.bool false), (.int .i64 (i : Int))] (by kernel_rfl) ?_
            refine over_nil ?_
            simp only [putAll, put_lit, List.set_cons_succ, List.set_cons_zero]
            go_wp2
            exact post_of (by rfl) (by rfl) (Below.refl _ _) (by first | rfl | (show Value.bool _ = Value.bool _; rw [Value.bool.injEq]; first | exact decide_eq_true (by omega) | exact decide_eq_false (by omega) | assumption | (simp; omega)))
          case r2g12 =>
            intro w9 hb
            refine over_some (ds1 := [28, 30]) (ds2 := []) [(.bool false), (.bool true)] (by kernel_rfl) ?_
            refine over_nil ?_
            simp only [putAll, put_lit, List.set_cons_succ, List.set_cons_zero]
            go_wp2
            first | exact post_of (by rfl) (by rfl) (Below.refl _ _) (by rfl) | exact rfl
          case r2g13 =>
            intro w9 hb
            refine over_some (ds1 := [31]) (ds2 := []) [(.bool true)] (by kernel_rfl) ?_
            refine over_nil ?_
            simp only [putAll, put_lit, List.set_cons_succ, List.set_cons_zero]
            obtain ⟨p0, q0, r0, s0⟩ := (KD.out.next hb).cells
            go_wp2
            first | exact post_of (by rfl) (by rfl) (Below.refl _ _) (by rfl) | exact rfl
          case r2g14 =>
            intro w9 hb
            refine over_some (ds1 := [31]) (ds2 := []) [(.bool true)] (by kernel_rfl) ?_
            refine over_nil ?_
            simp only [putAll, put_lit, List.set_cons_succ, List.set_cons_zero]
            go_wp2
            first | exact post_of (by rfl) (by rfl) (Below.refl _ _) (by rfl) | exact rfl
          case r2g15 =>
            intro w9 hb
            refine over_some (ds1 := [31]) (ds2 := []) [(.bool true)] (by kernel_rfl) ?_
            refine over_nil ?_
            simp only [putAll, put_lit, List.set_cons_succ, List.set_cons_zero]
            go_wp2
            first | exact post_of (by rfl) (by rfl) (Below.refl _ _) (by rfl) | exact rfl
          case r2g16 =>
            intro w9 hb
            refine over_some (ds1 := [31, 33, 34]) (ds2 := []) [(.bool true), (.slice (some ⟨b, off, none⟩) n c), (.int .i64 (i : Int))] (by kernel_rfl) ?_
            refine over_nil ?_
            simp only [putAll, put_lit, List.set_cons_succ, List.set_cons_zero]
            go_wp2
            first | exact post_of (by rfl) (by rfl) (Below.refl _ _) (by rfl) | exact rfl
          case r2g17 =>
            intro w9 hb
            refine over_some (ds1 := [31, 35]) (ds2 := []) [(.bool true), (.pointer (some ⟨b, off + i * 4, none⟩))] (by kernel_rfl) ?_
            refine over_nil ?_
            simp only [putAll, put_lit, List.set_cons_succ, List.set_cons_zero]
            obtain ⟨p0, q0, r0, s0⟩ := HC.out _ (thn B.out hb)
            go_wp2
            first | exact post_of (by rfl) (by rfl) (Below.refl _ _) (by rfl) | exact rfl
          case r2g18 =>
            intro w9 hb
            refine over_some (ds1 := [31, 32, 36]) (ds2 := []) [(.bool true), (.agg #[.int .u8 d.1, .int .u16 d.2.1, .int .u8 d.2.2.1, .slice hd.1 hd.2.1 hd.2.2]), (.agg #[.int .u8 y'.1.1, .int .u16 y'.1.2.1, .int .u8 y'.1.2.2.1, .slice y'.2.1 y'.2.2.1 y'.2.2.2])] (by kernel_rfl) ?_
            refine over_nil ?_
            simp only [putAll, put_lit, List.set_cons_succ, List.set_cons_zero]
            go_wp2_with fail
            have hc2 := newer_any (d, hd) y' w9
            rw [HN.out] at hc2
            refine hc2.mono ?_
            clear hc2
            rintro e w8 ⟨rfl, b6⟩
            go_wp2
            exact post_of (by rfl) (by rfl) b6 (by rfl)
          case r2g19 =>
            intro w9 hb
            refine over_some (ds1 := [31, 37]) (ds2 := []) [(.bool true), (.bool true)] (by kernel_rfl) ?_
            refine over_nil ?_
            simp only [putAll, put_lit, List.set_cons_succ, List.set_cons_zero]
            go_wp2
            first | exact post_of (by rfl) (by rfl) (Below.refl _ _) (by rfl) | exact rfl
          case r2g20 =>
            intro w9 hb
            refine over_some (ds1 := [28, 31, 38]) (ds2 := []) [(.bool false), (.bool true), (.bool false)] (by kernel_rfl) ?_
            refine over_nil ?_
            simp only [putAll, put_lit, List.set_cons_succ, List.set_cons_zero]
            go_wp2
            first | exact post_of (by rfl) (by rfl) (Below.refl _ _) (by rfl) | exact rfl
          case r2g21 =>
            intro w9 hb
            refine over_some (ds1 := [28, 39]) (ds2 := []) [(.bool false), (.bool false)] (by kernel_rfl) ?_
            refine over_nil ?_
            simp only [putAll, put_lit, List.set_cons_succ, List.set_cons_zero]
            go_wp2
            first | exact post_of (by rfl) (by rfl) (Below.refl _ _) (by rfl) | exact rfl
          case r2g22 =>
            intro w9 hb
            refine over_some (ds1 := [40]) (ds2 := []) [(.bool false)] (by kernel_rfl) ?_
            refine over_nil ?_
            simp only [putAll, put_lit, List.set_cons_succ, List.set_cons_zero]
            go_wp2
            first | exact post_of (by rfl) (by rfl) (Below.refl _ _) (by rfl) | exact rfl
          case r2g23 =>
            intro w9 hb
            refine over_some (ds1 := [41]) (ds2 := []) [(.bool false)] (by kernel_rfl) ?_
            refine over_nil ?_
            simp only [putAll, put_lit, List.set_cons_succ, List.set_cons_zero]
            go_wp2
            first | exact post_of (by rfl) (by rfl) (Below.refl _ _) (by rfl) | exact rfl
          case r2g24 =>
            intro w9 hb
            refine over_some (ds1 := [41, 42]) (ds2 := []) [(.bool false), (.int .i64 (i : Int))] (by kernel_rfl) ?_
            refine over_nil ?_
            simp only [putAll, put_lit, List.set_cons_succ, List.set_cons_zero]
            go_wp2
            exact post_of (by rfl) (by rfl) (Below.refl _ _) (by first | rfl | (show Value.bool _ = Value.bool _; rw [Value.bool.injEq]; first | exact decide_eq_true (by omega) | exact decide_eq_false (by omega) | assumption | (simp; omega)))
          case r2g25 =>
            intro w9 hb
            refine over_some (ds1 := [41, 43]) (ds2 := []) [(.bool false), (.bool false)] (by kernel_rfl) ?_
            refine over_nil ?_
            simp only [putAll, put_lit, List.set_cons_succ, List.set_cons_zero]
            go_wp2
            first | exact post_of (by rfl) (by rfl) (Below.refl _ _) (by rfl) | exact rfl
          case r2g26 =>
            intro w9 hb
            refine over_some (ds1 := [44]) (ds2 := []) [(.bool false)] (by kernel_rfl) ?_
            refine over_nil ?_
            simp only [putAll, put_lit, List.set_cons_succ, List.set_cons_zero]
            exact post_skip rfl (by kernel_rfl) (by kernel_rfl) (by kernel_rfl) (by kernel_rfl)
          case r2g27 =>
            intro w9 hb
            refine over_some (ds1 := [44, 45]) (ds2 := []) [(.bool false), undef] (by kernel_rfl) ?_
            refine over_nil ?_
            simp only [putAll, put_lit, List.set_cons_succ, List.set_cons_zero]
            exact post_skip rfl (by kernel_rfl) (by kernel_rfl) (by kernel_rfl) (by kernel_rfl)
          case r2g28 =>
            intro w9 hb
            refine over_some (ds1 := [44]) (ds2 := []) [(.bool false)] (by kernel_rfl) ?_
            refine over_nil ?_
            simp only [putAll, put_lit, List.set_cons_succ, List.set_cons_zero]
            exact post_skip rfl (by kernel_rfl) (by kernel_rfl) (by kernel_rfl) (by kernel_rfl)
          case r2g29 =>
            intro w9 hb
            refine over_some (ds1 := [44, 46, 47]) (ds2 := []) [(.bool false), undef, undef] (by kernel_rfl) ?_
            refine over_nil ?_
            simp only [putAll, put_lit, List.set_cons_succ, List.set_cons_zero]
            exact post_skip rfl (by kernel_rfl) (by kernel_rfl) (by kernel_rfl) (by kernel_rfl)
          case r2g30 =>
            intro w9 hb
            refine over_some (ds1 := [41, 44, 48]) (ds2 := []) [(.bool false), (.bool false), undef] (by kernel_rfl) ?_
            refine over_nil ?_
            simp only [putAll, put_lit, List.set_cons_succ, List.set_cons_zero]
            go_wp2
            first | exact post_of (by rfl) (by rfl) (Below.refl _ _) (by rfl) | exact rfl
      · rw [if_neg hk] at HRU
        have hk1 : kk < 0 := by omega
        clear hfh hk
        by_cases hr : room ≤ (n : Int)
        · obtain rfl : rf = true := by rw [← HRU]; exact decide_eq_true hr
          clear HRU
          go_enter Try.func33, Try.ntmps33
          go_upto_region 1 with fail
          generalize w.alloc (.cells #[.int .u8 d.1, .int .u16 d.2.1, .int .u8 d.2.2.1, .slice hd.1 hd.2.1 hd.2.2] 27) = w1 at *
          obtain ⟨g, hg⟩ : ∃ g, w.heap.size = g := ⟨_, rfl⟩
          rw [hg] at KD ⊢
          clear hg
          obtain ⟨p0, p1, p2, p3⟩ := KD.out.cells
          go_wp2_with fail
          have hc := reffind_any A n c xs d.1 w1 (HS.out.next B.out)
          rw [HK.out] at hc
          refine hc.mono ?_
          clear hc p0 p1 p2 p3
          rintro e w2 ⟨rfl, b5⟩
          replace KD := Lib.hid (KD.out.next b5)
          replace B := Lib.hid (thn B.out b5)
          clear b5
          go_upto_region 2 with fail
          refine wp_region_typed 31 [(19, .val (.pointer (some ⟨g, 0, none⟩))), (20, .val (.int .u8 d.1)), (21, .val (.int .u8 self)), (22, .val (.bool false)), (23, .val (.bool false)), (24, .val (.pointer (some ⟨g, 1, none⟩))), (25, .val (.int .u16 d.2.1)), (26, .val (.bool false)), (27, .val (.bool false)), (28, .val (.bool false)), (29, .val (.int .i64 kk)), (30, .val (.bool false)), (31, .val (.bool false)), (32, .val undef), (33, .val undef), (34, .val undef), (35, .val undef), (36, .val undef), (37, .val undef), (38, .val undef), (39, .val (.bool false)), (40, .val (.bool false)), (41, .val (.bool false)), (42, .val (.int .i64 kk)), (43, .val (.bool true)), (44, .val (.bool true)), (45, .val (.slice A n c)), (46, .val (.int .i64 n)), (47, .val (.int .i64 room)), (48, .val (.bool true)), (49, .val (.bool true))]
            [[], [19], [], [20, 21], [22], [23], [23, 24], [23, 25], [23, 26], [27], [28], [28, 29], [28, 30], [31], [31], [31], [31, 33, 34], [31, 35], [31, 32, 36], [31, 37], [28, 31, 38], [28, 39], [40], [41], [41, 42], [41, 43], [44], [44, 45], [44], [44, 46, 47], [41, 44, 48]] (by kernel_rfl) (by kernel_rfl) ?_ ?_
          rotate_left
          · intro v3 hb
            simp only [List.take_succ_cons, List.take_zero, List.drop_succ_cons, List.drop_zero]
            refine over_ds (ds := [19, 20, 21, 22, 23, 24, 25, 26, 27, 28, 29, 30, 31, 32, 33, 34, 35, 36, 37, 38, 39, 40, 41, 42, 43, 44, 45, 46, 47, 48, 49]) (by kernel_rfl) ?_
            refine over_some (ds1 := [19, 20, 21, 22, 23, 24, 25, 26, 27, 28, 29, 30, 31, 32, 33, 34, 35, 36, 37, 38, 39, 40, 41, 42, 43, 44, 45, 46, 47, 48, 49]) (ds2 := []) [(.pointer (some ⟨g, 0, none⟩)), (.int .u8 d.1), (.int .u8 self), (.bool false), (.bool false), (.pointer (some ⟨g, 1, none⟩)), (.int .u16 d.2.1), (.bool false), (.bool false), (.bool false), (.int .i64 kk), (.bool false), (.bool false), undef, undef, undef, undef, undef, undef, undef, (.bool false), (.bool false), (.bool false), (.int .i64 kk), (.bool true), (.bool true), (.slice A n c), (.int .i64 n), (.int .i64 room), (.bool true), (.bool true)] (by kernel_rfl) ?_
            refine over_nil ?_
            simp only [putAll, put_lit, List.set_cons_succ, List.set_cons_zero]
            replace KD := Lib.hid (KD.out.next hb)
            replace B := Lib.hid (thn B.out hb)
            clear hb
            have OB := Lib.hid B.out.size
            go_wp2_with (at_builtin; go_must (refine wpList_appsx rfl _ _ 23 rfl Try.underlying23 infoD rfl (by decide) rfl (Ows.nil v3 w.heap.size 27 4) rfl (HS.out.next B.out).sn (dcs_one xs) (by omega) (by decide) B.out.size ?_); intro A3 c3 w5 o5 g5)
            have B5 := Lib.hid (B.out.grown g5 B.out.size (Ows.nil v3 w.heap.size 27 4).lt)
            rw [List.nil_append] at o5
            simp only [Nat.zero_add] at o5 ⊢
            exact bodyPost_ret (v := .tuple #[.slice A3 n c3, .bool false]) (by simp [results, Try.results33, go_sem]) rfl ⟨A3, n, c3, xs, rfl, by simp, ⟨Sn.of_own o5, fun z hz => (FLX.out z (.inr hz)).next B5.out⟩, B5.out⟩
          simp only [List.take_succ_cons, List.take_zero]
          refine ⟨?r2g0, ?r2g1, ?r2g2, ?r2g3, ?r2g4, ?r2g5, ?r2g6, ?r2g7, ?r2g8, ?r2g9, ?r2g10, ?r2g11, ?r2g12, ?r2g13, ?r2g14, ?r2g15, ?r2g16, ?r2g17, ?r2g18, ?r2g19, ?r2g20, ?r2g21, ?r2g22, ?r2g23, ?r2g24, ?r2g25, ?r2g26, ?r2g27, ?r2g28, ?r2g29, ?r2g30, trivial⟩
          case r2g0 =>
            intro w9 hb
            refine over_nil ?_
            go_wp2
            first | exact post_of (by rfl) (by rfl) (Below.refl _ _) (by rfl) | exact rfl
          case r2g1 =>
            intro w9 hb
            refine over_some (ds1 := [19]) (ds2 := []) [(.pointer (some ⟨g, 0, none⟩))] (by kernel_rfl) ?_
            refine over_nil ?_
            simp only [putAll, put_lit, List.set_cons_succ, List.set_cons_zero]
            obtain ⟨p0, q0, r0, s0⟩ := (KD.out.next hb).cells
            go_wp2
            first | exact post_of (by rfl) (by rfl) (Below.refl _ _) (by rfl) | exact rfl
          case r2g2 =>
            intro w9 hb
            refine over_nil ?_
            go_wp2
            first | exact post_of (by rfl) (by rfl) (Below.refl _ _) (by rfl) | exact rfl
          case r2g3 =>
            intro w9 hb
            refine over_some (ds1 := [20, 21]) (ds2 := []) [(.int .u8 d.1), (.int .u8 self)] (by kernel_rfl) ?_
            refine over_nil ?_
            simp only [putAll, put_lit, List.set_cons_succ, List.set_cons_zero]
            go_wp2
            exact post_of (by rfl) (by rfl) (Below.refl _ _) (by first | rfl | (show Value.bool _ = Value.bool _; rw [Value.bool.injEq]; first | exact decide_eq_true (by omega) | exact decide_eq_false (by omega) | assumption | (simp; omega)))
          case r2g4 =>
            intro w9 hb
            refine over_some (ds1 := [22]) (ds2 := []) [(.bool false)] (by kernel_rfl) ?_
            refine over_nil ?_
            simp only [putAll, put_lit, List.set_cons_succ, List.set_cons_zero]
            go_wp2
            first | exact post_of (by rfl) (by rfl) (Below.refl _ _) (by rfl) | exact rfl
          case r2g5 =>
            intro w9 hb
            refine over_some (ds1 := [23]) (ds2 := []) [(.bool false)] (by kernel_rfl) ?_
            refine over_nil ?_
            simp only [putAll, put_lit, List.set_cons_succ, List.set_cons_zero]
            go_wp2
            first | exact post_of (by rfl) (by rfl) (Below.refl _ _) (by rfl) | exact rfl
          case r2g6 =>
            intro w9 hb
            refine over_some (ds1 := [23, 24]) (ds2 := []) [(.bool false), (.pointer (some ⟨g, 1, none⟩))] (by kernel_rfl) ?_
            refine over_nil ?_
            simp only [putAll, put_lit, List.set_cons_succ, List.set_cons_zero]
            obtain ⟨p0, q0, r0, s0⟩ := (KD.out.next hb).cells
            go_wp2
            first | exact post_of (by rfl) (by rfl) (Below.refl _ _) (by rfl) | exact rfl
          case r2g7 =>
            intro w9 hb
            refine over_some (ds1 := [23, 25]) (ds2 := []) [(.bool false), (.int .u16 d.2.1)] (by kernel_rfl) ?_
            refine over_nil ?_
            simp only [putAll, put_lit, List.set_cons_succ, List.set_cons_zero]
            go_wp2
            exact post_of (by rfl) (by rfl) (Below.refl _ _) (by first | rfl | (show Value.bool _ = Value.bool _; rw [Value.bool.injEq]; first | exact decide_eq_true (by omega) | exact decide_eq_false (by omega) | assumption | (simp; omega)))
          case r2g8 =>
            intro w9 hb
            refine over_some (ds1 := [23, 26]) (ds2 := []) [(.bool false), (.bool false)] (by kernel_rfl) ?_
            refine over_nil ?_
            simp only [putAll, put_lit, List.set_cons_succ, List.set_cons_zero]
            go_wp2
            first | exact post_of (by rfl) (by rfl) (Below.refl _ _) (by rfl) | exact rfl
          case r2g9 =>
            intro w9 hb
            refine over_some (ds1 := [27]) (ds2 := []) [(.bool false)] (by kernel_rfl) ?_
            refine over_nil ?_
            simp only [putAll, put_lit, List.set_cons_succ, List.set_cons_zero]
            go_wp2
            first | exact post_of (by rfl) (by rfl) (Below.refl _ _) (by rfl) | exact rfl
          case r2g10 =>
            intro w9 hb
            refine over_some (ds1 := [28]) (ds2 := []) [(.bool false)] (by kernel_rfl) ?_
            refine over_nil ?_
            simp only [putAll, put_lit, List.set_cons_succ, List.set_cons_zero]
            go_wp2
            first | exact post_of (by rfl) (by rfl) (Below.refl _ _) (by rfl) | exact rfl
          case r2g11 =>
            intro w9 hb
            refine over_some (ds1 := [28, 29]) (ds2 := []) [(.bool false), (.int .i64 kk)] (by kernel_rfl) ?_
            refine over_nil ?_
            simp only [putAll, put_lit, List.set_cons_succ, List.set_cons_zero]
            go_wp2
            exact post_of (by rfl) (by rfl) (Below.refl _ _) (by first | rfl | (show Value.bool _ = Value.bool _; rw [Value.bool.injEq]; first | exact decide_eq_true (by omega) | exact decide_eq_false (by omega) | assumption | (simp; omega)))
          case r2g12 =>
            intro w9 hb
            refine over_some (ds1 := [28, 30]) (ds2 := []) [(.bool false), (.bool false)] (by kernel_rfl) ?_
            refine over_nil ?_
            simp only [putAll, put_lit, List.set_cons_succ, List.set_cons_zero]
            go_wp2
            first | exact post_of (by rfl) (by rfl) (Below.refl _ _) (by rfl) | exact rfl
          case r2g13 =>
            intro w9 hb
            refine over_some (ds1 := [31]) (ds2 := []) [(.bool false)] (by kernel_rfl) ?_
            refine over_nil ?_
            simp only [putAll, put_lit, List.set_cons_succ, List.set_cons_zero]
            exact post_skip rfl (by kernel_rfl) (by kernel_rfl) (by kernel_rfl) (by kernel_rfl)
          case r2g14 =>
            intro w9 hb
            refine over_some (ds1 := [31]) (ds2 := []) [(.bool false)] (by kernel_rfl) ?_
            refine over_nil ?_
            simp only [putAll, put_lit, List.set_cons_succ, List.set_cons_zero]
            exact post_skip rfl (by kernel_rfl) (by kernel_rfl) (by kernel_rfl) (by kernel_rfl)
          case r2g15 =>
            intro w9 hb
            refine over_some (ds1 := [31]) (ds2 := []) [(.bool false)] (by kernel_rfl) ?_
            refine over_nil ?_
            simp only [putAll, put_lit, List.set_cons_succ, List.set_cons_zero]
            exact post_skip rfl (by kernel_rfl) (by kernel_rfl) (by kernel_rfl) (by kernel_rfl)
          case r2g16 =>
            intro w9 hb
            refine over_some (ds1 := [31, 33, 34]) (ds2 := []) [(.bool false), undef, undef] (by kernel_rfl) ?_
            refine over_nil ?_
            simp only [putAll, put_lit, List.set_cons_succ, List.set_cons_zero]
            exact post_skip rfl (by kernel_rfl) (by kernel_rfl) (by kernel_rfl) (by kernel_rfl)
          case r2g17 =>
            intro w9 hb
            refine over_some (ds1 := [31, 35]) (ds2 := []) [(.bool false), undef] (by kernel_rfl) ?_
            refine over_nil ?_
            simp only [putAll, put_lit, List.set_cons_succ, List.set_cons_zero]
            exact post_skip rfl (by kernel_rfl) (by kernel_rfl) (by kernel_rfl) (by kernel_rfl)
          case r2g18 =>
            intro w9 hb
            refine over_some (ds1 := [31, 32, 36]) (ds2 := []) [(.bool false), undef, undef] (by kernel_rfl) ?_
            refine over_nil ?_
            simp only [putAll, put_lit, List.set_cons_succ, List.set_cons_zero]
            exact post_skip rfl (by kernel_rfl) (by kernel_rfl) (by kernel_rfl) (by kernel_rfl)
          case r2g19 =>
            intro w9 hb
            refine over_some (ds1 := [31, 37]) (ds2 := []) [(.bool false), undef] (by kernel_rfl) ?_
            refine over_nil ?_
            simp only [putAll, put_lit, List.set_cons_succ, List.set_cons_zero]
            exact post_skip rfl (by kernel_rfl) (by kernel_rfl) (by kernel_rfl) (by kernel_rfl)
          case r2g20 =>
            intro w9 hb
            refine over_some (ds1 := [28, 31, 38]) (ds2 := []) [(.bool false), (.bool false), undef] (by kernel_rfl) ?_
            refine over_nil ?_
            simp only [putAll, put_lit, List.set_cons_succ, List.set_cons_zero]
            go_wp2
            first | exact post_of (by rfl) (by rfl) (Below.refl _ _) (by rfl) | exact rfl
          case r2g21 =>
            intro w9 hb
            refine over_some (ds1 := [28, 39]) (ds2 := []) [(.bool false), (.bool false)] (by kernel_rfl) ?_
            refine over_nil ?_
            simp only [putAll, put_lit, List.set_cons_succ, List.set_cons_zero]
            go_wp2
            first | exact post_of (by rfl) (by rfl) (Below.refl _ _) (by rfl) | exact rfl
          case r2g22 =>
            intro w9 hb
            refine over_some (ds1 := [40]) (ds2 := []) [(.bool false)] (by kernel_rfl) ?_
            refine over_nil ?_
            simp only [putAll, put_lit, List.set_cons_succ, List.set_cons_zero]
            go_wp2
            first | exact post_of (by rfl) (by rfl) (Below.refl _ _) (by rfl) | exact rfl
          case r2g23 =>
            intro w9 hb
            refine over_some (ds1 := [41]) (ds2 := []) [(.bool false)] (by kernel_rfl) ?_
            refine over_nil ?_
            simp only [putAll, put_lit, List.set_cons_succ, List.set_cons_zero]
            go_wp2
            first | exact post_of (by rfl) (by rfl) (Below.refl _ _) (by rfl) | exact rfl
          case r2g24 =>
            intro w9 hb
            refine over_some (ds1 := [41, 42]) (ds2 := []) [(.bool false), (.int .i64 kk)] (by kernel_rfl) ?_
            refine over_nil ?_
            simp only [putAll, put_lit, List.set_cons_succ, List.set_cons_zero]
            go_wp2
            exact post_of (by rfl) (by rfl) (Below.refl _ _) (by first | rfl | (show Value.bool _ = Value.bool _; rw [Value.bool.injEq]; first | exact decide_eq_true (by omega) | exact decide_eq_false (by omega) | assumption | (simp; omega)))
          case r2g25 =>
            intro w9 hb
            refine over_some (ds1 := [41, 43]) (ds2 := []) [(.bool false), (.bool true)] (by kernel_rfl) ?_
            refine over_nil ?_
            simp only [putAll, put_lit, List.set_cons_succ, List.set_cons_zero]
            go_wp2
            first | exact post_of (by rfl) (by rfl) (Below.refl _ _) (by rfl) | exact rfl
          case r2g26 =>
            intro w9 hb
            refine over_some (ds1 := [44]) (ds2 := []) [(.bool true)] (by kernel_rfl) ?_
            refine over_nil ?_
            simp only [putAll, put_lit, List.set_cons_succ, List.set_cons_zero]
            go_wp2
            first | exact post_of (by rfl) (by rfl) (Below.refl _ _) (by rfl) | exact rfl
          case r2g27 =>
            intro w9 hb
            refine over_some (ds1 := [44, 45]) (ds2 := []) [(.bool true), (.slice A n c)] (by kernel_rfl) ?_
            refine over_nil ?_
            simp only [putAll, put_lit, List.set_cons_succ, List.set_cons_zero]
            go_wp2
            first | exact post_of (by rfl) (by rfl) (Below.refl _ _) (by rfl) | exact rfl
          case r2g28 =>
            intro w9 hb
            refine over_some (ds1 := [44]) (ds2 := []) [(.bool true)] (by kernel_rfl) ?_
            refine over_nil ?_
            simp only [putAll, put_lit, List.set_cons_succ, List.set_cons_zero]
            go_wp2
            first | exact post_of (by rfl) (by rfl) (Below.refl _ _) (by rfl) | exact rfl
          case r2g29 =>
            intro w9 hb
            refine over_some (ds1 := [44, 46, 47]) (ds2 := []) [(.bool true), (.int .i64 n), (.int .i64 room)] (by kernel_rfl) ?_
            refine over_nil ?_
            simp only [putAll, put_lit, List.set_cons_succ, List.set_cons_zero]
            go_wp2
            exact post_of (by rfl) (by rfl) (Below.refl _ _) (by first | rfl | (show Value.bool _ = Value.bool _; rw [Value.bool.injEq]; first | exact decide_eq_true (by omega) | exact decide_eq_false (by omega) | assumption | (simp; omega)))
          case r2g30 =>
            intro w9 hb
            refine over_some (ds1 := [41, 44, 48]) (ds2 := []) [(.bool false), (.bool true), (.bool true)] (by kernel_rfl) ?_
            refine over_nil ?_
            simp only [putAll, put_lit, List.set_cons_succ, List.set_cons_zero]
            go_wp2
            first | exact post_of (by rfl) (by rfl) (Below.refl _ _) (by rfl) | exact rfl
        · obtain rfl : rf = false := by rw [← HRU]; exact decide_eq_false hr
          clear HRU
          go_enter Try.func33, Try.ntmps33
          go_upto_region 1 with fail
          generalize w.alloc (.cells #[.int .u8 d.1, .int .u16 d.2.1, .int .u8 d.2.2.1, .slice hd.1 hd.2.1 hd.2.2] 27) = w1 at *
          obtain ⟨g, hg⟩ : ∃ g, w.heap.size = g := ⟨_, rfl⟩
          rw [hg] at KD ⊢
          clear hg
          obtain ⟨p0, p1, p2, p3⟩ := KD.out.cells
          go_wp2_with fail
          have hc := reffind_any A n c xs d.1 w1 (HS.out.next B.out)
          rw [HK.out] at hc
          refine hc.mono ?_
          clear hc p0 p1 p2 p3
          rintro e w2 ⟨rfl, b5⟩
          replace KD := Lib.hid (KD.out.next b5)
          replace B := Lib.hid (thn B.out b5)
          clear b5
          go_upto_region 2 with fail
          refine wp_region_typed 31 [(19, .val (.pointer (some ⟨g, 0, none⟩))), (20, .val (.int .u8 d.1)), (21, .val (.int .u8 self)), (22, .val (.bool false)), (23, .val (.bool false)), (24, .val (.pointer (some ⟨g, 1, none⟩))), (25, .val (.int .u16 d.2.1)), (26, .val (.bool false)), (27, .val (.bool false)), (28, .val (.bool false)), (29, .val (.int .i64 kk)), (30, .val (.bool false)), (31, .val (.bool false)), (32, .val undef), (33, .val undef), (34, .val undef), (35, .val undef), (36, .val undef), (37, .val undef), (38, .val undef), (39, .val (.bool false)), (40, .val (.bool false)), (41, .val (.bool false)), (42, .val (.int .i64 kk)), (43, .val (.bool true)), (44, .val (.bool true)), (45, .val (.slice A n c)), (46, .val (.int .i64 n)), (47, .val (.int .i64 room)), (48, .val (.bool false)), (49, .val (.bool false))]
            [[], [19], [], [20, 21], [22], [23], [23, 24], [23, 25], [23, 26], [27], [28], [28, 29], [28, 30], [31], [31], [31], [31, 33, 34], [31, 35], [31, 32, 36], [31, 37], [28, 31, 38], [28, 39], [40], [41], [41, 42], [41, 43], [44], [44, 45], [44], [44, 46, 47], [41, 44, 48]] (by kernel_rfl) (by kernel_rfl) ?_ ?_
          rotate_left
          · intro v3 hb
            simp only [List.take_succ_cons, List.take_zero, List.drop_succ_cons, List.drop_zero]
            refine over_ds (ds := [19, 20, 21, 22, 23, 24, 25, 26, 27, 28, 29, 30, 31, 32, 33, 34, 35, 36, 37, 38, 39, 40, 41, 42, 43, 44, 45, 46, 47, 48, 49]) (by kernel_rfl) ?_
            refine over_some (ds1 := [19, 20, 21, 22, 23, 24, 25, 26, 27, 28, 29, 30, 31, 32, 33, 34, 35, 36, 37, 38, 39, 40, 41, 42, 43, 44, 45, 46, 47, 48, 49]) (ds2 := []) [(.pointer (some ⟨g, 0, none⟩)), (.int .u8 d.1), (.int .u8 self), (.bool false), (.bool false), (.pointer (some ⟨g, 1, none⟩)), (.int .u16 d.2.1), (.bool false), (.bool false), (.bool false), (.int .i64 kk), (.bool false), (.bool false), undef, undef, undef, undef, undef, undef, undef, (.bool false), (.bool false), (.bool false), (.int .i64 kk), (.bool true), (.bool true), (.slice A n c), (.int .i64 n), (.int .i64 room), (.bool false), (.bool false)] (by kernel_rfl) ?_
            refine over_nil ?_
            simp only [putAll, put_lit, List.set_cons_succ, List.set_cons_zero]
            replace KD := Lib.hid (KD.out.next hb)
            replace B := Lib.hid (thn B.out hb)
            clear hb
            have HS2 := Lib.hid (HS.out.next B.out)
            have FL2 : Hid (∀ z, (z = (d, hd) ∨ z ∈ xs) → Fl v3 z) := fun z hz => (FLX.out z hz).next B.out
            have B0 := B
            clear B HS FLX
            go_wp2
            go_loopw [12, 13, 14] (fun lv pv iv wr => ∃ (j m : Nat) (A2 : Option Addr) (c2 : Nat) (zs : List (Dsc × Hd)) (pb : Bool), j ≤ n ∧ m ≤ j + 1 ∧ (pb = false → m ≤ j) ∧ lv = .slice A2 m c2 ∧ pv = .bool pb ∧ iv = .int .i64 j ∧ Hid (insRun keyX (d, hd) (xs.take j) = (zs, pb)) ∧ Hid (Ods wr v3.heap.size A2 m c2 zs) ∧ Hid (Below v3.heap.size v3 wr)) (fun _ _ iv _ => n - (intOf iv).toNat)
            case atStart => exact ⟨0, 0, none, 0, [], false, Nat.zero_le _, by omega, fun _ => by omega, rfl, rfl, rfl, rfl, Ods.nil _ _, Below.refl _ _⟩
            case round =>
              obtain ⟨j, m, A2, c2, zs, pb, hj, hm1, hm2, rfl, rfl, rfl, HZ, SO, B⟩ := hrel
              have i0 : (0 : Int) ≤ (j : Int) := by omega
              by_cases hlt : j < n
              · have i1 : (j : Int) < (n : Int) := by omega
                obtain ⟨b, off, x, rfl, hx, hxm, HC⟩ := HS2.out.cells hlt
                have HX := Lib.hid hx
                have HXM := Lib.hid hxm
                have HMZ : Hid (∀ z ∈ zs, z = (d, hd) ∨ z ∈ xs) := fun z hz => (insRun_mem keyX (d, hd) z (by rw [HZ.out]; exact hz)).imp_right List.mem_of_mem_take
                clear hx hxm
                cases pb
                · replace hm2 := hm2 rfl
                  by_cases he : keyX x = keyX (d, hd)
                  · skip
                    have HZ2 : Hid (insRun keyX (d, hd) (xs.take (j + 1)) = insStep keyX (d, hd) (zs, false) x) := by unfold Hid; rw [List.take_add_one, HX.out, Option.toList_some, insRun_snoc, HZ.out]
                    rw [insStep_fe keyX (d, hd) zs x he] at HZ2
                    have hne : (x.1.1 != d.1) = false := by rw [show x.1.1 = d.1 from he]; simp
                    have hcm : d.1 ≤ x.1.1 := Int.le_of_eq he.symm
                    clear he HZ
                    obtain ⟨p0, p1, p2, p3⟩ := HC.out _ B.out
                    obtain ⟨q0, q1, q2, q3⟩ := (KD.out.next B.out).cells
                    go_wp2
                    go_quiet (fail)
                    clear p0 p1 p2 p3 q0 q1 q2 q3
                    replace SO := Lib.hid (SO.out.below (dN (Below.refl _ _) nq))
                    replace B := Lib.hid (dN B.out nq)
                    generalize World.drewN wr nq = w1 at *
                    clear nq
                    obtain ⟨p0, p1, p2, p3⟩ := HC.out _ B.out
                    obtain ⟨q0, q1, q2, q3⟩ := (KD.out.next B.out).cells
                    have HM2 : Hid (∀ z ∈ zs ++ [(d, hd)], z = (d, hd) ∨ z ∈ xs) := fun z hz => (List.mem_append.1 hz).elim (HMZ.out z) (fun h => .inl (List.mem_singleton.1 h))
                    go_wp2_with (at_builtin; go_must (refine wpList_appsx rfl _ _ 23 rfl Try.underlying23 infoD rfl (by decide) rfl (Ows.below SO.out.ow (below_lit _ _)) rfl (Sn.lit w1 #[.int .u8 d.1, .int .u16 d.2.1, .int .u8 d.2.2.1, .slice hd.1 hd.2.1 hd.2.2] 27 (0, 0) 4 1 rfl (by decide)) (dcl_one (d, hd)) (by omega) (by decide) (Nat.le_trans B.out.size (below_lit _ _).size) ?_); intro A3 c3 w5 o5 g5)
                    have hbl := below_lit w1 (.cells #[.int .u8 d.1, .int .u16 d.2.1, .int .u8 d.2.2.1, .slice hd.1 hd.2.1 hd.2.2] 27)
                    have B2 := Lib.hid ((B.out.alloc B.out.size _).grown g5 (Nat.le_trans B.out.size hbl.size) (Ows.below SO.out.ow hbl).lt)
                    clear g5 hbl
                    have SO2 : Hid (Ods w5 v3.heap.size A3 (m + 1) c3 (zs ++ [(d, hd)])) := ⟨by rw [dcs_append, dcs_cons, dcs_nil, List.append_nil]; exact o5, fun z hz => (FL2.out z (HM2.out z hz)).next B2.out⟩
                    clear o5
                    clear p0 p1 p2 p3 q0 q1 q2 q3
                    obtain ⟨p0, p1, p2, p3⟩ := HC.out _ B2.out
                    obtain ⟨q0, q1, q2, q3⟩ := (KD.out.next B2.out).cells
                    go_wp2
                    go_quiet (fail)
                    clear p0 p1 p2 p3 q0 q1 q2 q3
                    replace SO2 := Lib.hid (SO2.out.below (dN (Below.refl _ _) nq))
                    replace B2 := Lib.hid (dN B2.out nq)
                    generalize World.drewN w5 nq = w6 at *
                    clear nq
                    obtain ⟨p0, p1, p2, p3⟩ := HC.out _ B2.out
                    obtain ⟨q0, q1, q2, q3⟩ := (KD.out.next B2.out).cells
                    go_wp2
                    go_roundw
                    case rel => exact ⟨j + 1, (m + 1), A3, c3, (zs ++ [(d, hd)]), true, by omega, by omega, (fun h => by cases h), rfl, rfl, by go_num, HZ2, SO2, B2⟩
                    case measure => simp [intOf]; omega
                  · by_cases he2 : keyX x < keyX (d, hd)
                    · replace he := he2
                      clear he2
                      have HZ2 : Hid (insRun keyX (d, hd) (xs.take (j + 1)) = insStep keyX (d, hd) (zs, false) x) := by unfold Hid; rw [List.take_add_one, HX.out, Option.toList_some, insRun_snoc, HZ.out]
                      rw [insStep_fl keyX (d, hd) zs x he] at HZ2
                      have hne : (x.1.1 != d.1) = true := by have h : x.1.1 < d.1 := he; simp; omega
                      have hcm : x.1.1 < d.1 := he
                      clear he HZ
                      obtain ⟨p0, p1, p2, p3⟩ := HC.out _ B.out
                      obtain ⟨q0, q1, q2, q3⟩ := (KD.out.next B.out).cells
                      go_wp2
                      go_quiet (fail)
                      clear p0 p1 p2 p3 q0 q1 q2 q3
                      replace SO := Lib.hid (SO.out.below (dN (Below.refl _ _) nq))
                      replace B := Lib.hid (dN B.out nq)
                      generalize World.drewN wr nq = w1 at *
                      clear nq
                      obtain ⟨p0, p1, p2, p3⟩ := HC.out _ B.out
                      obtain ⟨q0, q1, q2, q3⟩ := (KD.out.next B.out).cells
                      clear p0 p1 p2 p3 q0 q1 q2 q3
                      obtain ⟨p0, p1, p2, p3⟩ := HC.out _ B.out
                      obtain ⟨q0, q1, q2, q3⟩ := (KD.out.next B.out).cells
                      go_wp2
                      go_quiet (fail)
                      clear p0 p1 p2 p3 q0 q1 q2 q3
                      replace SO := Lib.hid (SO.out.below (dN (Below.refl _ _) nq))
                      replace B := Lib.hid (dN B.out nq)
                      generalize World.drewN w1 nq = w2 at *
                      clear nq
                      obtain ⟨p0, p1, p2, p3⟩ := HC.out _ B.out
                      obtain ⟨q0, q1, q2, q3⟩ := (KD.out.next B.out).cells
                      have HM3 : Hid (∀ z ∈ zs ++ [x], z = (d, hd) ∨ z ∈ xs) := fun z hz => (List.mem_append.1 hz).elim (HMZ.out z) (fun h => .inr (by rw [List.mem_singleton.1 h]; exact HXM.out))
                      go_wp2_with (at_builtin; go_must (refine wpList_appsx rfl _ _ 23 rfl Try.underlying23 infoD rfl (by decide) rfl (Ows.below SO.out.ow (below_lit _ _)) rfl (Sn.lit w2 #[.int .u8 x.1.1, .int .u16 x.1.2.1, .int .u8 x.1.2.2.1, .slice x.2.1 x.2.2.1 x.2.2.2] 27 (0, 0) 4 1 rfl (by decide)) (dcl_one (x.1, x.2)) (by omega) (by decide) (Nat.le_trans B.out.size (below_lit _ _).size) ?_); intro A4 c4 w7 o7 g7)
                      have hbl := below_lit w2 (.cells #[.int .u8 x.1.1, .int .u16 x.1.2.1, .int .u8 x.1.2.2.1, .slice x.2.1 x.2.2.1 x.2.2.2] 27)
                      have B3 := Lib.hid ((B.out.alloc B.out.size _).grown g7 (Nat.le_trans B.out.size hbl.size) (Ows.below SO.out.ow hbl).lt)
                      clear g7 hbl
                      have SO3 : Hid (Ods w7 v3.heap.size A4 (m + 1) c4 (zs ++ [(x.1, x.2)])) := ⟨by rw [dcs_append, dcs_cons, dcs_nil, List.append_nil]; exact o7, fun z hz => (FL2.out z (HM3.out z hz)).next B3.out⟩
                      clear o7
                      go_roundw
                      case rel => exact ⟨j + 1, (m + 1), A4, c4, (zs ++ [x]), false, by omega, by omega, (fun _ => by omega), rfl, rfl, by go_num, HZ2, SO3, B3⟩
                      case measure => simp [intOf]; omega
                    · replace he : keyX (d, hd) < keyX x := by omega
                      clear he2
                      have HZ2 : Hid (insRun keyX (d, hd) (xs.take (j + 1)) = insStep keyX (d, hd) (zs, false) x) := by unfold Hid; rw [List.take_add_one, HX.out, Option.toList_some, insRun_snoc, HZ.out]
                      rw [insStep_fg keyX (d, hd) zs x he] at HZ2
                      have hne : (x.1.1 != d.1) = true := by have h : d.1 < x.1.1 := he; simp; omega
                      have hcm : d.1 < x.1.1 := he
                      clear he HZ
                      obtain ⟨p0, p1, p2, p3⟩ := HC.out _ B.out
                      obtain ⟨q0, q1, q2, q3⟩ := (KD.out.next B.out).cells
                      go_wp2
                      go_quiet (fail)
                      clear p0 p1 p2 p3 q0 q1 q2 q3
                      replace SO := Lib.hid (SO.out.below (dN (Below.refl _ _) nq))
                      replace B := Lib.hid (dN B.out nq)
                      generalize World.drewN wr nq = w1 at *
                      clear nq
                      obtain ⟨p0, p1, p2, p3⟩ := HC.out _ B.out
                      obtain ⟨q0, q1, q2, q3⟩ := (KD.out.next B.out).cells
                      have HM2 : Hid (∀ z ∈ zs ++ [(d, hd)], z = (d, hd) ∨ z ∈ xs) := fun z hz => (List.mem_append.1 hz).elim (HMZ.out z) (fun h => .inl (List.mem_singleton.1 h))
                      go_wp2_with (at_builtin; go_must (refine wpList_appsx rfl _ _ 23 rfl Try.underlying23 infoD rfl (by decide) rfl (Ows.below SO.out.ow (below_lit _ _)) rfl (Sn.lit w1 #[.int .u8 d.1, .int .u16 d.2.1, .int .u8 d.2.2.1, .slice hd.1 hd.2.1 hd.2.2] 27 (0, 0) 4 1 rfl (by decide)) (dcl_one (d, hd)) (by omega) (by decide) (Nat.le_trans B.out.size (below_lit _ _).size) ?_); intro A3 c3 w5 o5 g5)
                      have hbl := below_lit w1 (.cells #[.int .u8 d.1, .int .u16 d.2.1, .int .u8 d.2.2.1, .slice hd.1 hd.2.1 hd.2.2] 27)
                      have B2 := Lib.hid ((B.out.alloc B.out.size _).grown g5 (Nat.le_trans B.out.size hbl.size) (Ows.below SO.out.ow hbl).lt)
                      clear g5 hbl
                      have SO2 : Hid (Ods w5 v3.heap.size A3 (m + 1) c3 (zs ++ [(d, hd)])) := ⟨by rw [dcs_append, dcs_cons, dcs_nil, List.append_nil]; exact o5, fun z hz => (FL2.out z (HM2.out z hz)).next B2.out⟩
                      clear o5
                      clear p0 p1 p2 p3 q0 q1 q2 q3
                      obtain ⟨p0, p1, p2, p3⟩ := HC.out _ B2.out
                      obtain ⟨q0, q1, q2, q3⟩ := (KD.out.next B2.out).cells
                      go_wp2
                      go_quiet (fail)
                      clear p0 p1 p2 p3 q0 q1 q2 q3
                      replace SO2 := Lib.hid (SO2.out.below (dN (Below.refl _ _) nq))
                      replace B2 := Lib.hid (dN B2.out nq)
                      generalize World.drewN w5 nq = w6 at *
                      clear nq
                      obtain ⟨p0, p1, p2, p3⟩ := HC.out _ B2.out
                      obtain ⟨q0, q1, q2, q3⟩ := (KD.out.next B2.out).cells
                      have HM3 : Hid (∀ z ∈ (zs ++ [(d, hd)]) ++ [x], z = (d, hd) ∨ z ∈ xs) := fun z hz => (List.mem_append.1 hz).elim (HM2.out z) (fun h => .inr (by rw [List.mem_singleton.1 h]; exact HXM.out))
                      go_wp2_with (at_builtin; go_must (refine wpList_appsx rfl _ _ 23 rfl Try.underlying23 infoD rfl (by decide) rfl (Ows.below SO2.out.ow (below_lit _ _)) rfl (Sn.lit w6 #[.int .u8 x.1.1, .int .u16 x.1.2.1, .int .u8 x.1.2.2.1, .slice x.2.1 x.2.2.1 x.2.2.2] 27 (0, 0) 4 1 rfl (by decide)) (dcl_one (x.1, x.2)) (by omega) (by decide) (Nat.le_trans B2.out.size (below_lit _ _).size) ?_); intro A4 c4 w7 o7 g7)
                      have hbl := below_lit w6 (.cells #[.int .u8 x.1.1, .int .u16 x.1.2.1, .int .u8 x.1.2.2.1, .slice x.2.1 x.2.2.1 x.2.2.2] 27)
                      have B3 := Lib.hid ((B2.out.alloc B2.out.size _).grown g7 (Nat.le_trans B2.out.size hbl.size) (Ows.below SO2.out.ow hbl).lt)
                      clear g7 hbl
                      have SO3 : Hid (Ods w7 v3.heap.size A4 ((m + 1) + 1) c4 ((zs ++ [(d, hd)]) ++ [(x.1, x.2)])) := ⟨by rw [dcs_append, dcs_cons, dcs_nil, List.append_nil]; exact o7, fun z hz => (FL2.out z (HM3.out z hz)).next B3.out⟩
                      clear o7
                      go_roundw
                      case rel => exact ⟨j + 1, ((m + 1) + 1), A4, c4, ((zs ++ [(d, hd)]) ++ [x]), true, by omega, by omega, (fun h => by cases h), rfl, rfl, by go_num, HZ2, SO3, B3⟩
                      case measure => simp [intOf]; omega
                · clear hm2
                  by_cases he : keyX x = keyX (d, hd)
                  · skip
                    have HZ2 : Hid (insRun keyX (d, hd) (xs.take (j + 1)) = insStep keyX (d, hd) (zs, true) x) := by unfold Hid; rw [List.take_add_one, HX.out, Option.toList_some, insRun_snoc, HZ.out]
                    rw [insStep_te keyX (d, hd) zs x he] at HZ2
                    have hne : (x.1.1 != d.1) = false := by rw [show x.1.1 = d.1 from he]; simp
                    clear he HZ
                    obtain ⟨p0, p1, p2, p3⟩ := HC.out _ B.out
                    obtain ⟨q0, q1, q2, q3⟩ := (KD.out.next B.out).cells
                    go_wp2
                    go_quiet (fail)
                    clear p0 p1 p2 p3 q0 q1 q2 q3
                    replace SO := Lib.hid (SO.out.below (dN (Below.refl _ _) nq))
                    replace B := Lib.hid (dN B.out nq)
                    generalize World.drewN wr nq = w1 at *
                    clear nq
                    obtain ⟨p0, p1, p2, p3⟩ := HC.out _ B.out
                    obtain ⟨q0, q1, q2, q3⟩ := (KD.out.next B.out).cells
                    clear p0 p1 p2 p3 q0 q1 q2 q3
                    obtain ⟨p0, p1, p2, p3⟩ := HC.out _ B.out
                    obtain ⟨q0, q1, q2, q3⟩ := (KD.out.next B.out).cells
                    go_wp2
                    go_quiet (fail)
                    clear p0 p1 p2 p3 q0 q1 q2 q3
                    replace SO := Lib.hid (SO.out.below (dN (Below.refl _ _) nq))
                    replace B := Lib.hid (dN B.out nq)
                    generalize World.drewN w1 nq = w2 at *
                    clear nq
                    obtain ⟨p0, p1, p2, p3⟩ := HC.out _ B.out
                    obtain ⟨q0, q1, q2, q3⟩ := (KD.out.next B.out).cells
                    go_wp2
                    go_roundw
                    case rel => exact ⟨j + 1, m, A2, c2, zs, true, by omega, by omega, (fun h => by cases h), rfl, rfl, by go_num, HZ2, SO, B⟩
                    case measure => simp [intOf]; omega
                  · skip
                    have HZ2 : Hid (insRun keyX (d, hd) (xs.take (j + 1)) = insStep keyX (d, hd) (zs, true) x) := by unfold Hid; rw [List.take_add_one, HX.out, Option.toList_some, insRun_snoc, HZ.out]
                    rw [insStep_tt keyX (d, hd) zs x he] at HZ2
                    have hne : (x.1.1 != d.1) = true := by have h : ¬ x.1.1 = d.1 := he; simp; omega
                    clear he HZ
                    obtain ⟨p0, p1, p2, p3⟩ := HC.out _ B.out
                    obtain ⟨q0, q1, q2, q3⟩ := (KD.out.next B.out).cells
                    go_wp2
                    go_quiet (fail)
                    clear p0 p1 p2 p3 q0 q1 q2 q3
                    replace SO := Lib.hid (SO.out.below (dN (Below.refl _ _) nq))
                    replace B := Lib.hid (dN B.out nq)
                    generalize World.drewN wr nq = w1 at *
                    clear nq
                    obtain ⟨p0, p1, p2, p3⟩ := HC.out _ B.out
                    obtain ⟨q0, q1, q2, q3⟩ := (KD.out.next B.out).cells
                    clear p0 p1 p2 p3 q0 q1 q2 q3
                    obtain ⟨p0, p1, p2, p3⟩ := HC.out _ B.out
                    obtain ⟨q0, q1, q2, q3⟩ := (KD.out.next B.out).cells
                    go_wp2
                    go_quiet (fail)
                    clear p0 p1 p2 p3 q0 q1 q2 q3
                    replace SO := Lib.hid (SO.out.below (dN (Below.refl _ _) nq))
                    replace B := Lib.hid (dN B.out nq)
                    generalize World.drewN w1 nq = w2 at *
                    clear nq
                    obtain ⟨p0, p1, p2, p3⟩ := HC.out _ B.out
                    obtain ⟨q0, q1, q2, q3⟩ := (KD.out.next B.out).cells
                    have HM3 : Hid (∀ z ∈ zs ++ [x], z = (d, hd) ∨ z ∈ xs) := fun z hz => (List.mem_append.1 hz).elim (HMZ.out z) (fun h => .inr (by rw [List.mem_singleton.1 h]; exact HXM.out))
                    go_wp2_with (at_builtin; go_must (refine wpList_appsx rfl _ _ 23 rfl Try.underlying23 infoD rfl (by decide) rfl (Ows.below SO.out.ow (below_lit _ _)) rfl (Sn.lit w2 #[.int .u8 x.1.1, .int .u16 x.1.2.1, .int .u8 x.1.2.2.1, .slice x.2.1 x.2.2.1 x.2.2.2] 27 (0, 0) 4 1 rfl (by decide)) (dcl_one (x.1, x.2)) (by omega) (by decide) (Nat.le_trans B.out.size (below_lit _ _).size) ?_); intro A4 c4 w7 o7 g7)
                    have hbl := below_lit w2 (.cells #[.int .u8 x.1.1, .int .u16 x.1.2.1, .int .u8 x.1.2.2.1, .slice x.2.1 x.2.2.1 x.2.2.2] 27)
                    have B3 := Lib.hid ((B.out.alloc B.out.size _).grown g7 (Nat.le_trans B.out.size hbl.size) (Ows.below SO.out.ow hbl).lt)
                    clear g7 hbl
                    have SO3 : Hid (Ods w7 v3.heap.size A4 (m + 1) c4 (zs ++ [(x.1, x.2)])) := ⟨by rw [dcs_append, dcs_cons, dcs_nil, List.append_nil]; exact o7, fun z hz => (FL2.out z (HM3.out z hz)).next B3.out⟩
                    clear o7
                    go_roundw
                    case rel => exact ⟨j + 1, (m + 1), A4, c4, (zs ++ [x]), true, by omega, by omega, (fun h => by cases h), rfl, rfl, by go_num, HZ2, SO3, B3⟩
                    case measure => simp [intOf]; omega
              · obtain rfl : j = n := by omega
                rw [List.take_of_length_le (by rw [← HL.out]; exact Nat.le_refl _)] at HZ
                cases pb
                · have HMZ : Hid (∀ z ∈ zs ++ [(d, hd)], z = (d, hd) ∨ z ∈ xs) := fun z hz => (List.mem_append.1 hz).elim (fun h => insRun_mem keyX (d, hd) z (by rw [HZ.out]; exact h)) (fun h => .inl (List.mem_singleton.1 h))
                  have HI : Hid (insG keyX (d, hd) xs = zs ++ [(d, hd)]) := by unfold Hid insG; rw [HZ.out]; rfl
                  obtain ⟨q0, q1, q2, q3⟩ := (KD.out.next B.out).cells
                  go_wp2_with (at_builtin; go_must (refine wpList_appsx rfl _ _ 23 rfl Try.underlying23 infoD rfl (by decide) rfl (Ows.below SO.out.ow (below_lit _ _)) rfl (Sn.lit wr #[.int .u8 d.1, .int .u16 d.2.1, .int .u8 d.2.2.1, .slice hd.1 hd.2.1 hd.2.2] 27 (0, 0) 4 1 rfl (by decide)) (dcl_one (d, hd)) (by omega) (by decide) (Nat.le_trans B.out.size (below_lit _ _).size) ?_); intro A3 c3 w5 o5 g5)
                  have hbl := below_lit wr (.cells #[.int .u8 d.1, .int .u16 d.2.1, .int .u8 d.2.2.1, .slice hd.1 hd.2.1 hd.2.2] 27)
                  have B2 := Lib.hid ((B.out.alloc B.out.size _).grown g5 (Nat.le_trans B.out.size hbl.size) (Ows.below SO.out.ow hbl).lt)
                  clear g5 hbl
                  have SO2 : Hid (Ods w5 v3.heap.size A3 (m + 1) c3 (zs ++ [(d, hd)])) := ⟨by rw [dcs_append, dcs_cons, dcs_nil, List.append_nil]; exact o5, fun z hz => (FL2.out z (HMZ.out z hz)).next B2.out⟩
                  clear o5
                  exact bodyPost_ret (v := .tuple #[.slice A3 (m + 1) c3, .bool true]) (by simp [results, Try.results33, go_sem]) rfl ⟨A3, m + 1, c3, zs ++ [(d, hd)], rfl, by rw [← HI.out]; exact insG_map (·.1) keyX keyD (fun _ => rfl) (d, hd) xs, SO2.out.sds, thn B0.out B2.out⟩
                · have HI : Hid (insG keyX (d, hd) xs = zs) := by unfold Hid insG; rw [HZ.out]; rfl
                  go_wp2
                  exact bodyPost_ret (v := .tuple #[.slice A2 m c2, .bool true]) (by simp [results, Try.results33, go_sem]) rfl ⟨A2, m, c2, zs, rfl, by rw [← HI.out]; exact insG_map (·.1) keyX keyD (fun _ => rfl) (d, hd) xs, SO.out.sds, thn B0.out B.out⟩
          simp only [List.take_succ_cons, List.take_zero]
          refine ⟨?r2g0, ?r2g1, ?r2g2, ?r2g3, ?r2g4, ?r2g5, ?r2g6, ?r2g7, ?r2g8, ?r2g9, ?r2g10, ?r2g11, ?r2g12, ?r2g13, ?r2g14, ?r2g15, ?r2g16, ?r2g17, ?r2g18, ?r2g19, ?r2g20, ?r2g21, ?r2g22, ?r2g23, ?r2g24, ?r2g25, ?r2g26, ?r2g27, ?r2g28, ?r2g29, ?r2g30, trivial⟩
          case r2g0 =>
            intro w9 hb
            refine over_nil ?_
            go_wp2
            first | exact post_of (by rfl) (by rfl) (Below.refl _ _) (by rfl) | exact rfl
          case r2g1 =>
            intro w9 hb
            refine over_some (ds1 := [19]) (ds2 := []) [(.pointer (some ⟨g, 0, none⟩))] (by kernel_rfl) ?_
            refine over_nil ?_
            simp only [putAll, put_lit, List.set_cons_succ, List.set_cons_zero]
            obtain ⟨p0, q0, r0, s0⟩ := (KD.out.next hb).cells
            go_wp2
            first | exact post_of (by rfl) (by rfl) (Below.refl _ _) (by rfl) | exact rfl
          case r2g2 =>
            intro w9 hb
            refine over_nil ?_
            go_wp2
            first | exact post_of (by rfl) (by rfl) (Below.refl _ _) (by rfl) | exact rfl
          case r2g3 =>
            intro w9 hb
            refine over_some (ds1 := [20, 21]) (ds2 := []) [(.int .u8 d.1), (.int .u8 self)] (by kernel_rfl) ?_
            refine over_nil ?_
            simp only [putAll, put_lit, List.set_cons_succ, List.set_cons_zero]
            go_wp2
            exact post_of (by rfl) (by rfl) (Below.refl _ _) (by first | rfl | (show Value.bool _ = Value.bool _; rw [Value.bool.injEq]; first | exact decide_eq_true (by omega) | exact decide_eq_false (by omega) | assumption | (simp; omega)))
          case r2g4 =>
            intro w9 hb
            refine over_some (ds1 := [22]) (ds2 := []) [(.bool false)] (by kernel_rfl) ?_
            refine over_nil ?_
            simp only [putAll, put_lit, List.set_cons_succ, List.set_cons_zero]
            go_wp2
            first | exact post_of (by rfl) (by rfl) (Below.refl _ _) (by rfl) | exact rfl
          case r2g5 =>
            intro w9 hb
            refine over_some (ds1 := [23]) (ds2 := []) [(.bool false)] (by kernel_rfl) ?_
            refine over_nil ?_
            simp only [putAll, put_lit, List.set_cons_succ, List.set_cons_zero]
            go_wp2
            first | exact post_of (by rfl) (by rfl) (Below.refl _ _) (by rfl) | exact rfl
          case r2g6 =>
            intro w9 hb
            refine over_some (ds1 := [23, 24]) (ds2 := []) [(.bool false), (.pointer (some ⟨g, 1, none⟩))] (by kernel_rfl) ?_
            refine over_nil ?_
            simp only [putAll, put_lit, List.set_cons_succ, List.set_cons_zero]
            obtain ⟨p0, q0, r0, s0⟩ := (KD.out.next hb).cells
            go_wp2
            first | exact post_of (by rfl) (by rfl) (Below.refl _ _) (by rfl) | exact rfl
          case r2g7 =>
            intro w9 hb
            refine over_some (ds1 := [23, 25]) (ds2 := []) [(.bool false), (.int .u16 d.2.1)] (by kernel_rfl) ?_
            refine over_nil ?_
            simp only [putAll, put_lit, List.set_cons_succ, List.set_cons_zero]
            go_wp2
            exact post_of (by rfl) (by rfl) (Below.refl _ _) (by first | rfl | (show Value.bool _ = Value.bool _; rw [Value.bool.injEq]; first | exact decide_eq_true (by omega) | exact decide_eq_false (by omega) | assumption | (simp; omega)))
          case r2g8 =>
            intro w9 hb
            refine over_some (ds1 := [23, 26]) (ds2 := []) [(.bool false), (.bool false)] (by kernel_rfl) ?_
            refine over_nil ?_
            simp only [putAll, put_lit, List.set_cons_succ, List.set_cons_zero]
            go_wp2
            first | exact post_of (by rfl) (by rfl) (Below.refl _ _) (by rfl) | exact rfl
          case r2g9 =>
            intro w9 hb
            refine over_some (ds1 := [27]) (ds2 := []) [(.bool false)] (by kernel_rfl) ?_
            refine over_nil ?_
            simp only [putAll, put_lit, List.set_cons_succ, List.set_cons_zero]
            go_wp2
            first | exact post_of (by rfl) (by rfl) (Below.refl _ _) (by rfl) | exact rfl
          case r2g10 =>
            intro w9 hb
            refine over_some (ds1 := [28]) (ds2 := []) [(.bool false)] (by kernel_rfl) ?_
            refine over_nil ?_
            simp only [putAll, put_lit, List.set_cons_succ, List.set_cons_zero]
            go_wp2
            first | exact post_of (by rfl) (by rfl) (Below.refl _ _) (by rfl) | exact rfl
          case r2g11 =>
            intro w9 hb
            refine over_some (ds1 := [28, 29]) (ds2 := []) [(.bool false), (.int .i64 kk)] (by kernel_rfl) ?_
            refine over_nil ?_
            simp only [putAll, put_lit, List.set_cons_succ, List.set_cons_zero]
            go_wp2
            exact post_of (by rfl) (by rfl) (Below.refl _ _) (by first | rfl | (show Value.bool _ = Value.bool _; rw [Value.bool.injEq]; first | exact decide_eq_true (by omega) | exact decide_eq_false (by omega) | assumption | (simp; omega)))
          case r2g12 =>
            intro w9 hb
            refine over_some (ds1 := [28, 30]) (ds2 := []) [(.bool false), (.bool false)] (by kernel_rfl) ?_
            refine over_nil ?_
            simp only [putAll, put_lit, List.set_cons_succ, List.set_cons_zero]
            go_wp2
            first | exact post_of (by rfl) (by rfl) (Below.refl _ _) (by rfl) | exact rfl
          case r2g13 =>
            intro w9 hb
            refine over_some (ds1 := [31]) (ds2 := []) [(.bool false)] (by kernel_rfl) ?_
            refine over_nil ?_
            simp only [putAll, put_lit, List.set_cons_succ, List.set_cons_zero]
            exact post_skip rfl (by kernel_rfl) (by kernel_rfl) (by kernel_rfl) (by kernel_rfl)
          case r2g14 =>
            intro w9 hb
            refine over_some (ds1 := [31]) (ds2 := []) [(.bool false)] (by kernel_rfl) ?_
            refine over_nil ?_
            simp only [putAll, put_lit, List.set_cons_succ, List.set_cons_zero]
            exact post_skip rfl (by kernel_rfl) (by kernel_rfl) (by kernel_rfl) (by kernel_rfl)
          case r2g15 =>
            intro w9 hb
            refine over_some (ds1 := [31]) (ds2 := []) [(.bool false)] (by kernel_rfl) ?_
            refine over_nil ?_
            simp only [putAll, put_lit, List.set_cons_succ, List.set_cons_zero]
            exact post_skip rfl (by kernel_rfl) (by kernel_rfl) (by kernel_rfl) (by kernel_rfl)
          case r2g16 =>
            intro w9 hb
            refine over_some (ds1 := [31, 33, 34]) (ds2 := []) [(.bool false), undef, undef] (by kernel_rfl) ?_
            refine over_nil ?_
            simp only [putAll, put_lit, List.set_cons_succ, List.set_cons_zero]
            exact post_skip rfl (by kernel_rfl) (by kernel_rfl) (by kernel_rfl) (by kernel_rfl)
          case r2g17 =>
            intro w9 hb
            refine over_some (ds1 := [31, 35]) (ds2 := []) [(.bool false), undef] (by kernel_rfl) ?_
            refine over_nil ?_
            simp only [putAll, put_lit, List.set_cons_succ, List.set_cons_zero]
            exact post_skip rfl (by kernel_rfl) (by kernel_rfl) (by kernel_rfl) (by kernel_rfl)
          case r2g18 =>
            intro w9 hb
            refine over_some (ds1 := [31, 32, 36]) (ds2 := []) [(.bool false), undef, undef] (by kernel_rfl) ?_
            refine over_nil ?_
            simp only [putAll, put_lit, List.set_cons_succ, List.set_cons_zero]
            exact post_skip rfl (by kernel_rfl) (by kernel_rfl) (by kernel_rfl) (by kernel_rfl)
          case r2g19 =>
            intro w9 hb
            refine over_some (ds1 := [31, 37]) (ds2 := []) [(.bool false), undef] (by kernel_rfl) ?_
            refine over_nil ?_
            simp only [putAll, put_lit, List.set_cons_succ, List.set_cons_zero]
            exact post_skip rfl (by kernel_rfl) (by kernel_rfl) (by kernel_rfl) (by kernel_rfl)
          case r2g20 =>
            intro w9 hb
            refine over_some (ds1 := [28, 31, 38]) (ds2 := []) [(.bool false), (.bool false), undef] (by kernel_rfl) ?_
            refine over_nil ?_
            simp only [putAll, put_lit, List.set_cons_succ, List.set_cons_zero]
            go_wp2
            first | exact post_of (by rfl) (by rfl) (Below.refl _ _) (by rfl) | exact rfl
          case r2g21 =>
            intro w9 hb
            refine over_some (ds1 := [28, 39]) (ds2 := []) [(.bool false), (.bool false)] (by kernel_rfl) ?_
            refine over_nil ?_
            simp only [putAll, put_lit, List.set_cons_succ, List.set_cons_zero]
            go_wp2
            first | exact post_of (by rfl) (by rfl) (Below.refl _ _) (by rfl) | exact rfl
          case r2g22 =>
            intro w9 hb
            refine over_some (ds1 := [40]) (ds2 := []) [(.bool false)] (by kernel_rfl) ?_
            refine over_nil ?_
            simp only [putAll, put_lit, List.set_cons_succ, List.set_cons_zero]
            go_wp2
            first | exact post_of (by rfl) (by rfl) (Below.refl _ _) (by rfl) | exact rfl
          case r2g23 =>
            intro w9 hb
            refine over_some (ds1 := [41]) (ds2 := []) [(.bool false)] (by kernel_rfl) ?_
            refine over_nil ?_
            simp only [putAll, put_lit, List.set_cons_succ, List.set_cons_zero]
            go_wp2
            first | exact post_of (by rfl) (by rfl) (Below.refl _ _) (by rfl) | exact rfl
          case r2g24 =>
            intro w9 hb
            refine over_some (ds1 := [41, 42]) (ds2 := []) [(.bool false), (.int .i64 kk)] (by kernel_rfl) ?_
            refine over_nil ?_
            simp only [putAll, put_lit, List.set_cons_succ, List.set_cons_zero]
            go_wp2
            exact post_of (by rfl) (by rfl) (Below.refl _ _) (by first | rfl | (show Value.bool _ = Value.bool _; rw [Value.bool.injEq]; first | exact decide_eq_true (by omega) | exact decide_eq_false (by omega) | assumption | (simp; omega)))
          case r2g25 =>
            intro w9 hb
            refine over_some (ds1 := [41, 43]) (ds2 := []) [(.bool false), (.bool true)] (by kernel_rfl) ?_
            refine over_nil ?_
            simp only [putAll, put_lit, List.set_cons_succ, List.set_cons_zero]
            go_wp2
            first | exact post_of (by rfl) (by rfl) (Below.refl _ _) (by rfl) | exact rfl
          case r2g26 =>
            intro w9 hb
            refine over_some (ds1 := [44]) (ds2 := []) [(.bool true)] (by kernel_rfl) ?_
            refine over_nil ?_
            simp only [putAll, put_lit, List.set_cons_succ, List.set_cons_zero]
            go_wp2
            first | exact post_of (by rfl) (by rfl) (Below.refl _ _) (by rfl) | exact rfl
          case r2g27 =>
            intro w9 hb
            refine over_some (ds1 := [44, 45]) (ds2 := []) [(.bool true), (.slice A n c)] (by kernel_rfl) ?_
            refine over_nil ?_
            simp only [putAll, put_lit, List.set_cons_succ, List.set_cons_zero]
            go_wp2
            first | exact post_of (by rfl) (by rfl) (Below.refl _ _) (by rfl) | exact rfl
          case r2g28 =>
            intro w9 hb
            refine over_some (ds1 := [44]) (ds2 := []) [(.bool true)] (by kernel_rfl) ?_
            refine over_nil ?_
            simp only [putAll, put_lit, List.set_cons_succ, List.set_cons_zero]
            go_wp2
            first | exact post_of (by rfl) (by rfl) (Below.refl _ _) (by rfl) | exact rfl
          case r2g29 =>
            intro w9 hb
            refine over_some (ds1 := [44, 46, 47]) (ds2 := []) [(.bool true), (.int .i64 n), (.int .i64 room)] (by kernel_rfl) ?_
            refine over_nil ?_
            simp only [putAll, put_lit, List.set_cons_succ, List.set_cons_zero]
            go_wp2
            exact post_of (by rfl) (by rfl) (Below.refl _ _) (by first | rfl | (show Value.bool _ = Value.bool _; rw [Value.bool.injEq]; first | exact decide_eq_true (by omega) | exact decide_eq_false (by omega) | assumption | (simp; omega)))
          case r2g30 =>
            intro w9 hb
            refine over_some (ds1 := [41, 44, 48]) (ds2 := []) [(.bool false), (.bool true), (.bool false)] (by kernel_rfl) ?_
            refine over_nil ?_
            simp only [putAll, put_lit, List.set_cons_succ, List.set_cons_zero]
            go_wp2
            first | exact post_of (by rfl) (by rfl) (Below.refl _ _) (by rfl) | exact rfl
end Go.Proofs.Ytdkchiodepdclaa
