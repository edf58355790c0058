/- Layer 11: who is admitted, who fills a view: plain facts. -/
import Derived.Test.YtdkchiodepdclaaYa
namespace Go.Proofs.Ytdkchiodepdclaa
open Go.RowKit
set_option linter.unusedVariables false
abbrev oldN (l : List Dsc) : Int := (l.getD (oldI l).toNat (0, 0, 0, [])).1
def admitD (l : List Dsc) (d : Dsc) (self room : Int) : List Dsc :=
  if refuseD l d self room = false then putD l d self room
  else if d.1 = self ∨ d.2.1 = 0 ∨ hasN l d.1 = true ∨ l = [] then l
  else putD (dropD l (oldN l)) d self room
def fillD (l got : List Dsc) (self room : Int) : List Dsc := got.foldl (fun s d => putD s d self room) l
section
variable {ds : List Dsc} {d g : Dsc} {self room : Int}
theorem refuse_in {l : List Dsc} {r : Int} (h1 : d.1 ≠ self) (h2 : d.2.1 ≠ 0) (h3 : hasN l d.1 = false) : refuseD l d self r = decide (r ≤ (l.length : Int)) := by
  unfold refuseD
  unfold hasN at h3
  rw [if_neg (of_decide_eq_false h3), decide_eq_false (fun e => e.elim h1 h2), Bool.false_or]
theorem refuse_out {l : List Dsc} {r : Int} (h : d.1 = self ∨ d.2.1 = 0) : refuseD l d self r = true := by
  unfold refuseD
  rw [decide_eq_true h, Bool.true_or]
theorem old_at {l : List Dsc} (h : l ≠ []) : ∃ (k : Nat) (e : Dsc), oldI l = (k : Int) ∧ l[k]? = some e ∧ oldN l = e.1 := by
  obtain ⟨k, a, hk, e⟩ := oldI_is h
  obtain ⟨x, hx, _⟩ := hk.at_
  refine ⟨k, x, e, hx, ?_⟩
  unfold oldN
  rw [e, Int.toNat_natCast, List.getD_eq_getElem?_getD, hx]; rfl
/-- The one that is given up goes for d, whether the room or the length is the bound. -/
theorem admit_swap {n : Int} (hr : RightD ds self room) (hn : hasN ds n = true) (h1 : d.1 ≠ self) (h2 : d.2.1 ≠ 0) (h3 : hasN ds d.1 = false) :
    refuseD (dropD ds n) d self room = false ∧ refuseD (dropD ds n) d self (ds.length : Int) = false ∧ putD (dropD ds n) d self (ds.length : Int) = putD (dropD ds n) d self room := by
  have h4 : hasN (dropD ds n) d.1 = false := hasN_false.2 fun e he => hasN_false.1 h3 e (dropD_mem.1 he).1
  have hl := drop_len hr.2.1 hn
  have := hr.2.2.2
  have a1 : refuseD (dropD ds n) d self room = false := by rw [refuse_in h1 h2 h4]; exact decide_eq_false (by omega)
  have a2 : refuseD (dropD ds n) d self (ds.length : Int) = false := by rw [refuse_in h1 h2 h4]; exact decide_eq_false (by omega)
  exact ⟨a1, a2, by unfold putD; rw [a1, a2]⟩
theorem right_len (hr : RightD ds self room) : RightD ds self (ds.length : Int) := ⟨hr.1, hr.2.1, by omega, by omega⟩
theorem hasN_at {k : Nat} {e : Dsc} (h : ds[k]? = some e) : hasN ds e.1 = true := hasN_iff.2 ⟨e, List.mem_of_getElem? h, rfl⟩
theorem admit_put (h : refuseD ds d self room = false) : admitD ds d self room = putD ds d self room := by unfold admitD; rw [if_pos h]
theorem admit_not (h : refuseD ds d self room = true) (h2 : d.1 = self ∨ d.2.1 = 0 ∨ hasN ds d.1 = true ∨ ds = []) : admitD ds d self room = ds := by unfold admitD; rw [if_neg (by rw [h]; decide), if_pos h2]
theorem admit_sw (h : refuseD ds d self room = true) (h2 : ¬(d.1 = self ∨ d.2.1 = 0 ∨ hasN ds d.1 = true ∨ ds = [])) : admitD ds d self room = putD (dropD ds (oldN ds)) d self room := by unfold admitD; rw [if_neg (by rw [h]; decide), if_neg h2]
theorem refuse_tf : refuseD ds d self room = true ∨ refuseD ds d self room = false := by cases refuseD ds d self room <;> simp
/-- What the law asks of who is let in (P11.3, P11.4). -/
structure AdmitSays (v : List Dsc) (d : Dsc) (me room : Int) (out : List Dsc) : Prop where
  right : RightD out me room
  more : v.length ≤ out.length
  most : out.length ≤ v.length + 1
  there : d.1 ≠ me → d.2.1 ≠ 0 → 0 < room → hasN out d.1 = true
  kept : ∀ (i : Nat) (e : Dsc), v[i]? = some e → hasN out e.1 = true ∨ ((i : Int) = oldI v ∧ ¬ (v.length : Int) < room)
  of_ : ∀ e ∈ out, e = d ∨ e ∈ v
theorem admit_says (hr : RightD ds self room) : AdmitSays ds d self room (admitD ds d self room) := by
  rcases refuse_tf (ds := ds) (d := d) (self := self) (room := room) with h | h
  · by_cases h2 : d.1 = self ∨ d.2.1 = 0 ∨ hasN ds d.1 = true ∨ ds = []
    · rw [admit_not h h2]
      refine ⟨hr, Nat.le_refl _, Nat.le_succ _, fun a b c => ?_, fun i e he => .inl (hasN_at he), fun e he => .inr he⟩
      rcases h2 with h2 | h2 | h2 | h2
      · exact absurd h2 a
      · exact absurd h2 b
      · exact h2
      · subst h2
        rw [refuse_in a b (by rfl)] at h
        have := of_decide_eq_true h
        simp at this
        omega
    · rw [admit_sw h h2]
      have h3 : d.1 ≠ self := fun q => h2 (.inl q)
      have h4 : d.2.1 ≠ 0 := fun q => h2 (.inr (.inl q))
      have h5 : hasN ds d.1 = false := by cases hq : hasN ds d.1; rfl; exact absurd (.inr (.inr (.inl hq))) h2
      have h6 : ds ≠ [] := fun q => h2 (.inr (.inr (.inr q)))
      obtain ⟨k, x, hk, hx, hn⟩ := old_at h6
      have hh := hasN_at hx
      rw [← hn] at hh
      obtain ⟨a1, _, _⟩ := admit_swap hr hh h3 h4 h5
      obtain ⟨_, a2⟩ := swap_new hr hh h3 h4 h5
      have hfull : ¬ (ds.length : Int) < room := by
        rw [refuse_in h3 h4 h5] at h
        have := of_decide_eq_true h
        omega
      refine ⟨right_put (right_drop hr _) d, Nat.le_of_eq a2.symm, by omega, fun _ _ _ => hasN_putself (right_drop hr _) a1, fun i e he => ?_, fun e he => ?_⟩
      · by_cases hik : i = k
        · exact .inr ⟨by rw [hk, hik], hfull⟩
        · refine .inl (hasN_put (right_drop hr _) (hasN_drop (hasN_at he) ?_))
          rw [hn]
          intro q
          obtain ⟨i1, rfl⟩ := List.getElem?_eq_some_iff.1 he
          obtain ⟨k1, rfl⟩ := List.getElem?_eq_some_iff.1 hx
          rcases Nat.lt_or_gt_of_ne hik with hlt | hlt
          · have := List.pairwise_iff_getElem.1 hr.2.1 i k i1 k1 hlt; omega
          · have := List.pairwise_iff_getElem.1 hr.2.1 k i k1 i1 hlt; omega
      · rcases put_mem (right_drop hr _) he with h | h
        · exact .inl h
        · exact .inr (dropD_mem.1 h).1
  · rw [admit_put h]
    exact ⟨right_put hr d, (put_len hr).1, (put_len hr).2, fun _ _ _ => hasN_putself hr h, fun i e he => .inl (hasN_put hr (hasN_at he)), fun e he => put_mem hr he⟩
theorem newer_trans {a b c : Dsc} (h1 : newerD a b = true) (h2 : newerD b c = true) : newerD a c = true := by
  unfold newerD at *
  split at h1 <;> split at h2 <;> have h1 := of_decide_eq_true h1 <;> have h2 := of_decide_eq_true h2 <;> split <;> exact decide_eq_true (by omega)
theorem held_of {n : Int} (h : hasN ds n = true) : ∃ (k : Nat) (e : Dsc), ds[k]? = some e ∧ e.1 = n := by
  obtain ⟨e, he, q⟩ := hasN_iff.1 h
  obtain ⟨k, hk⟩ := List.mem_iff_getElem?.1 he
  exact ⟨k, e, hk, q⟩
theorem put_self (hr : RightD ds self room) : refuseD (putD ds g self room) g self room = true := by
  rcases refuse_tf (ds := ds) (d := g) (self := self) (room := room) with h | h
  · rw [put_yes h]; exact h
  · obtain ⟨a, b⟩ := put_there hr h
    have hn := refuse_no h
    rw [put_held (right_put hr g) b rfl hn.1 hn.2.1, newer_irrefl]; rfl
/-- One that is refused is refused behind any other one, too. -/
theorem refuse_put (hr : RightD ds self room) (h : refuseD ds g self room = true) : refuseD (putD ds d self room) g self room = true := by
  rcases refuse_tf (ds := ds) (d := d) (self := self) (room := room) with hd | hd
  · rw [put_yes hd]; exact h
  · by_cases h1 : g.1 = self ∨ g.2.1 = 0
    · exact refuse_out h1
    · have g1 : g.1 ≠ self := fun q => h1 (.inl q)
      have g2 : g.2.1 ≠ 0 := fun q => h1 (.inr q)
      have hp := right_put hr d
      have e1 := put_no hr hd
      cases hg : hasN ds g.1 with
      | true =>
        obtain ⟨k, e, hk, he⟩ := held_of hg
        rw [put_held hr hk he g1 g2] at h
        by_cases hdg : d.1 = g.1
        · have hde : newerD d e = true := by
            have hn := refuse_no hd
            rw [put_held hr hk (he.trans hdg.symm) hn.1 hn.2.1] at hd
            simpa using hd
          have hdm : d ∈ putD ds d self room := by rw [e1]; exact insL_mem.2 (.inl rfl)
          obtain ⟨k2, hk2⟩ := List.mem_iff_getElem?.1 hdm
          rw [put_held hp hk2 hdg g1 g2]
          cases hq : newerD g d with
          | false => rfl
          | true => rw [newer_trans hq hde] at h; cases h
        · have hem : e ∈ putD ds d self room := by rw [e1]; exact insL_mem.2 (.inr ⟨List.mem_of_getElem? hk, by rw [he]; exact fun q => hdg q.symm⟩)
          obtain ⟨k2, hk2⟩ := List.mem_iff_getElem?.1 hem
          rw [put_held hp hk2 he g1 g2]; exact h
      | false =>
        rw [refuse_in g1 g2 hg] at h
        have hfull := of_decide_eq_true h
        have hdd : hasN ds d.1 = true := by
          cases hq : hasN ds d.1 with
          | true => rfl
          | false =>
            have hn := refuse_no hd
            rw [refuse_in hn.1 hn.2.1 hq] at hd
            exact absurd hfull (of_decide_eq_false hd)
        have hg2 : hasN (putD ds d self room) g.1 = false := hasN_false.2 fun x hx => by
          rcases put_mem hr hx with rfl | hx
          · intro q; rw [q, hg] at hdd; cases hdd
          · exact hasN_false.1 hg x hx
        rw [refuse_in g1 g2 hg2, e1, insL_len hr.2.1, if_pos hdd]
        exact decide_eq_true (by omega)
theorem fill_cons (l : List Dsc) (g : Dsc) (gs : List Dsc) (self room : Int) : fillD l (g :: gs) self room = fillD (putD l g self room) gs self room := rfl
theorem fill_refuse (g : Dsc) : ∀ (gs : List Dsc) {l : List Dsc}, RightD l self room → refuseD l g self room = true → refuseD (fillD l gs self room) g self room = true
  | [], l, hr, h => h
  | x :: gs, l, hr, h => by rw [fill_cons]; exact fill_refuse g gs (right_put hr x) (refuse_put hr h)
theorem fill_all : ∀ (gs : List Dsc) {l : List Dsc}, RightD l self room → ∀ g ∈ gs, refuseD (fillD l gs self room) g self room = true
  | [], l, hr, g, hg => by cases hg
  | x :: gs, l, hr, g, hg => by
    rw [fill_cons]
    rcases List.mem_cons.1 hg with rfl | hg
    · exact fill_refuse g gs (right_put hr g) (put_self hr)
    · exact fill_all gs (right_put hr x) g hg
theorem fill_still : ∀ (gs : List Dsc) {l : List Dsc}, (∀ g ∈ gs, refuseD l g self room = true) → fillD l gs self room = l
  | [], l, h => rfl
  | x :: gs, l, h => by rw [fill_cons, put_yes (h x List.mem_cons_self)]; exact fill_still gs fun g hg => h g (List.mem_cons_of_mem _ hg)
/-- What Fill keeps. -/
structure Filled (v gs out : List Dsc) (me room : Int) : Prop where
  right : RightD out me room
  more : v.length ≤ out.length
  kept : ∀ n, hasN v n = true → hasN out n = true
  of_ : ∀ e ∈ out, e ∈ v ∨ e ∈ gs
theorem filled : ∀ (gs : List Dsc) {v : List Dsc}, RightD v self room → Filled v gs (fillD v gs self room) self room
  | [], v, hr => ⟨hr, Nat.le_refl _, fun n h => h, fun e he => .inl he⟩
  | g :: gs, v, hr => by
    have h := filled gs (right_put hr g)
    rw [fill_cons]
    refine ⟨h.right, Nat.le_trans (put_len hr).1 h.more, fun n hn => h.kept n (hasN_put hr hn), fun e he => ?_⟩
    rcases h.of_ e he with h | h
    · rcases put_mem hr h with rfl | h
      · exact .inr List.mem_cons_self
      · exact .inl h
    · exact .inr (List.mem_cons_of_mem _ h)
/-- What the law asks of who fills a view. -/
structure FillSays (v gs out : List Dsc) (me room : Int) : Prop extends Filled v gs out me room where
  there : (out.length : Int) < room → ∀ d ∈ gs, d.1 ≠ me → d.2.1 ≠ 0 → hasN out d.1 = true
  again : fillD out gs me room = out
theorem fill_says {v gs : List Dsc} (hr : RightD v self room) : FillSays v gs (fillD v gs self room) self room := by
  have h := filled gs hr
  have ha := fill_all gs hr
  refine ⟨h, fun hl d hd h1 h2 => ?_, fill_still gs ha⟩
  cases hq : hasN (fillD v gs self room) d.1 with
  | true => rfl
  | false =>
    have := ha d hd
    rw [refuse_in h1 h2 hq] at this
    have := of_decide_eq_true this
    omega
end
/-- A wait: whether it is one, its node, its ticks. -/
abbrev Wn := Bool × Int × Int
def tickW (s : Wn) : Wn := if s.1 = true ∧ 1 < s.2.2 then (true, s.2.1, s.2.2 - 1) else (false, 0, 0)
def tickS (s : Wn) (ds : List Dsc) : List Dsc := if s.1 = true ∧ 1 < s.2.2 then ds else []
def tickP (s : Wn) : Int := if s.1 = true ∧ s.2.2 ≤ 1 then s.2.1 else 0
def tickB (s : Wn) : Bool := s.1 && decide (s.2.2 ≤ 1)
/-- A wait that is none, or has ticks. -/
def WOk (s : Wn) (ds : List Dsc) : Prop := (s = (false, 0, 0) ∧ ds = []) ∨ (s.1 = true ∧ 1 ≤ s.2.2 ∧ s.2.2 ≤ 255 ∧ 0 ≤ s.2.1 ∧ s.2.1 ≤ 255)
theorem WOk.tick {s : Wn} {ds : List Dsc} (h : WOk s ds) : WOk (tickW s) (tickS s ds) := by
  unfold tickW tickS
  rcases h with ⟨rfl, rfl⟩ | ⟨h1, h2, h3, h4, h5⟩
  · exact .inl ⟨rfl, rfl⟩
  · by_cases h : s.1 = true ∧ 1 < s.2.2
    · rw [if_pos h, if_pos h]; exact .inr ⟨rfl, by show 1 ≤ s.2.2 - 1; omega, by show s.2.2 - 1 ≤ 255; omega, h4, h5⟩
    · rw [if_neg h, if_neg h]; exact .inl ⟨rfl, rfl⟩
end Go.Proofs.Ytdkchiodepdclaa
