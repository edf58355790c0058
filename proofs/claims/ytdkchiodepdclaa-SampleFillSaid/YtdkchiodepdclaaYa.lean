/- Layer 10: what is picked, asked and merged: plain facts. -/
import Derived.Test.YtdkchiodepdclaaRb9
namespace Go.Proofs.Ytdkchiodepdclaa
open Go.RowKit
set_option linter.unusedVariables false
abbrev RiseD (ds : List Dsc) : Prop := ds.Pairwise fun a b => a.1 < b.1
abbrev cutD (ds : List Dsc) (k : Nat) : List Dsc := ds.take k ++ ds.drop (k + 1)
def pickD : List Dsc → Int → List Int → List Dsc
  | _, _, [] => []
  | ds, many, r :: rs => if many ≤ 0 ∨ ds.length = 0 then [] else ds.getD (r.toNat % ds.length) (0, 0, 0, []) :: pickD (cutD ds (r.toNat % ds.length)) (many - 1) rs
theorem pick_stop {ds : List Dsc} {many : Int} (rs : List Int) (h : many ≤ 0 ∨ ds.length = 0) : pickD ds many rs = [] := by
  cases rs with
  | nil => rfl
  | cons r rs => unfold pickD; rw [if_pos h]
theorem pick_step {ds : List Dsc} {many r : Int} {rs : List Int} {k : Nat} {d : Dsc} (h1 : 0 < many) (hk : r.toNat % ds.length = k) (hd : ds[k]? = some d) : pickD ds many (r :: rs) = d :: pickD (cutD ds k) (many - 1) rs := by
  have hl := (List.getElem?_eq_some_iff.1 hd).1
  show (if many ≤ 0 ∨ ds.length = 0 then [] else _) = _
  rw [if_neg (by omega), hk, List.getD_eq_getElem?_getD, hd]; rfl
theorem drop_at {ds : List Dsc} {k : Nat} {d : Dsc} (h : RiseD ds) (hd : ds[k]? = some d) : dropD ds d.1 = cutD ds k := by
  obtain ⟨hk, rfl⟩ := List.getElem?_eq_some_iff.1 hd
  have e : ds = ds.take k ++ ds[k] :: ds.drop (k + 1) := by rw [← List.drop_eq_getElem_cons hk, List.take_append_drop]
  have e1 : (ds.take k).filter (fun x => decide (x.1 ≠ ds[k].1)) = ds.take k := List.filter_eq_self.2 fun y hy => by
    obtain ⟨i, hi, rfl⟩ := List.mem_iff_getElem.1 hy
    rw [List.length_take] at hi
    have := List.pairwise_iff_getElem.1 h i k (by omega) hk (by omega)
    rw [List.getElem_take]
    exact decide_eq_true (by omega)
  have e2 : (ds.drop (k + 1)).filter (fun x => decide (x.1 ≠ ds[k].1)) = ds.drop (k + 1) := List.filter_eq_self.2 fun y hy => by
    obtain ⟨i, hi, rfl⟩ := List.mem_iff_getElem.1 hy
    rw [List.length_drop] at hi
    have := List.pairwise_iff_getElem.1 h k (k + 1 + i) hk (by omega) (by omega)
    rw [List.getElem_drop]
    exact decide_eq_true (by omega)
  unfold dropD cutD
  generalize hn : ds[k].1 = node at *
  conv => lhs; rw [e]
  rw [List.filter_append, List.filter_cons, e1, e2, if_neg (by simpa using hn)]
theorem cut_sub (ds : List Dsc) (k : Nat) : (cutD ds k).Sublist ds := by
  have : ds.take k ++ ds.drop k = ds := List.take_append_drop k ds
  conv => rhs; rw [← this]
  exact (List.Sublist.refl _).append (by rw [← List.drop_drop]; exact List.drop_sublist _ _)
theorem cut_len {ds : List Dsc} {k : Nat} (h : k < ds.length) : (cutD ds k).length + 1 = ds.length := by
  unfold cutD; rw [List.length_append, List.length_take, List.length_drop]; omega
theorem cut_rise {ds : List Dsc} (h : RiseD ds) (k : Nat) : RiseD (cutD ds k) := h.sublist (cut_sub ds k)
theorem pick_mem : ∀ {rs : List Int} {ds : List Dsc} {many : Int} {e : Dsc}, e ∈ pickD ds many rs → e ∈ ds
  | [], ds, many, e, h => by cases h
  | r :: rs, ds, many, e, h => by
    unfold pickD at h
    split at h
    · cases h
    · next hn =>
      have hl : r.toNat % ds.length < ds.length := Nat.mod_lt _ (by omega)
      rcases List.mem_cons.1 h with rfl | h
      · rw [List.getD_eq_getElem?_getD, List.getElem?_eq_getElem hl]; exact List.getElem_mem hl
      · exact (cut_sub _ _).subset (pick_mem h)
theorem pick_len : ∀ (rs : List Int) (ds : List Dsc) (many : Int), ((pickD ds many rs).length : Int) = max (min (min many (ds.length : Int)) (rs.length : Int)) 0
  | [], ds, many => by simp [pickD]; omega
  | r :: rs, ds, many => by
    unfold pickD
    split
    · next h => simp; omega
    · next h =>
      have hl : r.toNat % ds.length < ds.length := Nat.mod_lt _ (by omega)
      have := cut_len hl
      rw [List.length_cons, Int.natCast_add, pick_len rs]
      simp only [List.length_cons]
      omega
theorem cut_not {ds : List Dsc} {k : Nat} {d : Dsc} (h : RiseD ds) (hd : ds[k]? = some d) : ∀ e ∈ cutD ds k, e.1 ≠ d.1 := fun e he => by
  rw [← drop_at h hd] at he; exact (dropD_mem.1 he).2
theorem pick_apart : ∀ {rs : List Int} {ds : List Dsc} {many : Int}, RiseD ds → (pickD ds many rs).Pairwise fun a b => a.1 ≠ b.1
  | [], ds, many, h => List.Pairwise.nil
  | r :: rs, ds, many, h => by
    unfold pickD
    split
    · exact List.Pairwise.nil
    · next hn =>
      have hl : r.toNat % ds.length < ds.length := Nat.mod_lt _ (by omega)
      refine List.pairwise_cons.2 ⟨fun e he => ?_, pick_apart (cut_rise h _)⟩
      have hd : ds[r.toNat % ds.length]? = some (ds.getD (r.toNat % ds.length) (0, 0, 0, [])) := by rw [List.getD_eq_getElem?_getD, List.getElem?_eq_getElem hl]; rfl
      exact fun q => cut_not h hd e (pick_mem he) q.symm
/-- With one draw each has its draw. -/
theorem pick_one {ds : List Dsc} {i : Nat} {d : Dsc} (hd : ds[i]? = some d) {r : Int} (hr : r = ((i + 3 * ds.length : Nat) : Int)) : pickD ds 1 [r] = [d] := by
  have hl := (List.getElem?_eq_some_iff.1 hd).1
  subst hr
  rw [pick_step (k := i) (d := d) (by decide) (by rw [Int.toNat_natCast, Nat.add_mul_mod_self_right]; exact Nat.mod_eq_of_lt hl) hd]; rfl
def hasN (ds : List Dsc) (n : Int) : Bool := decide (0 ≤ findI ds n)
theorem hasN_iff {ds : List Dsc} {n : Int} : hasN ds n = true ↔ ∃ d ∈ ds, d.1 = n := by
  unfold hasN
  rw [decide_eq_true_iff]
  constructor
  · intro h
    obtain ⟨d, hd, e⟩ := findI_hit h
    exact ⟨d, List.mem_of_getElem? hd, e⟩
  · rintro ⟨d, hd, e⟩
    rcases findI_neg (ds := ds) (n := n) with h | h
    · exact absurd e (findI_miss (by omega) d hd)
    · exact h
theorem hasN_false {ds : List Dsc} {n : Int} : hasN ds n = false ↔ ∀ d ∈ ds, d.1 ≠ n := by
  constructor
  · intro h d hd e
    have := hasN_iff.2 ⟨d, hd, e⟩
    rw [h] at this; cases this
  · intro h
    cases hh : hasN ds n with
    | false => rfl
    | true => obtain ⟨d, hd, e⟩ := hasN_iff.1 hh; exact absurd e (h d hd)
/-- The next of sent that may be dropped, and those behind it. -/
def skipS (got l : List Dsc) : List Dsc → Option (Int × List Dsc)
  | [] => none
  | s :: t => if !hasN got s.1 && hasN l s.1 then some (s.1, t) else skipS got l t
def mergeStep (got : List Dsc) (self room : Int) (st : List Dsc × List Dsc) (d : Dsc) : List Dsc × List Dsc :=
  if refuseD st.1 d self room = false then (putD st.1 d self room, st.2)
  else if d.1 = self ∨ d.2.1 = 0 ∨ hasN st.1 d.1 = true then st
  else match skipS got st.1 st.2 with
    | none => (st.1, [])
    | some (n, t) => (putD (dropD st.1 n) d self room, t)
def mergeD (l got sent : List Dsc) (self room : Int) : List Dsc := (got.foldl (mergeStep got self room) (l, sent)).1
theorem skip_some {got l : List Dsc} : ∀ {s : List Dsc} {n : Int} {t : List Dsc}, skipS got l s = some (n, t) → hasN got n = false ∧ hasN l n = true ∧ (∃ d ∈ s, d.1 = n) ∧ ∀ x ∈ t, x ∈ s
  | [], n, t, h => by cases h
  | s :: r, n, t, h => by
    unfold skipS at h
    split at h
    · next hc =>
      injection h with h
      injection h with h1 h2
      subst h1 h2
      simp only [Bool.and_eq_true, Bool.not_eq_true'] at hc
      exact ⟨hc.1, hc.2, ⟨s, List.mem_cons_self, rfl⟩, fun x hx => List.mem_cons_of_mem _ hx⟩
    · obtain ⟨a, b, ⟨d, hd, e⟩, c⟩ := skip_some h
      exact ⟨a, b, ⟨d, List.mem_cons_of_mem _ hd, e⟩, fun x hx => List.mem_cons_of_mem _ (c x hx)⟩
theorem skip_none {got l : List Dsc} : ∀ {s : List Dsc}, skipS got l s = none → ∀ d ∈ s, hasN got d.1 = true ∨ hasN l d.1 = false
  | [], h, d, hd => by cases hd
  | s :: r, h, d, hd => by
    unfold skipS at h
    split at h
    · cases h
    · next hc =>
      rcases List.mem_cons.1 hd with rfl | hd
      · cases h1 : hasN got d.1 with
        | true => exact .inl rfl
        | false =>
          cases h2 : hasN l d.1 with
          | false => exact .inr rfl
          | true => rw [h1, h2] at hc; exact absurd rfl hc
      · exact skip_none h d hd
section
variable {ds : List Dsc} {d : Dsc} {self room : Int}
theorem drop_len {n : Int} (h : RiseD ds) (hn : hasN ds n = true) : (dropD ds n).length + 1 = ds.length := by
  obtain ⟨e, he, rfl⟩ := hasN_iff.1 hn
  obtain ⟨k, hk⟩ := List.mem_iff_getElem?.1 he
  rw [drop_at h hk]; exact cut_len (List.getElem?_eq_some_iff.1 hk).1
theorem drop_none {n : Int} (hn : hasN ds n = false) : dropD ds n = ds := List.filter_eq_self.2 fun y hy => decide_eq_true (hasN_false.1 hn y hy)
theorem insL_len : RiseD ds → (insL ds d).length = ds.length + if hasN ds d.1 then 0 else 1 := fun h => by
  rw [insL_length]
  cases hh : hasN ds d.1 with
  | true => rw [if_pos rfl]; exact drop_len h hh
  | false => rw [if_neg (by decide), drop_none hh]
theorem put_len (hr : RightD ds self room) : ds.length ≤ (putD ds d self room).length ∧ (putD ds d self room).length ≤ ds.length + 1 := by
  cases h : refuseD ds d self room with
  | true => rw [put_yes h]; omega
  | false => rw [put_no hr h, insL_len hr.2.1]; split <;> omega
theorem hasN_put (hr : RightD ds self room) {n : Int} (h : hasN ds n = true) : hasN (putD ds d self room) n = true := by
  cases hf : refuseD ds d self room with
  | true => rw [put_yes hf]; exact h
  | false =>
    rw [put_no hr hf]
    obtain ⟨e, he, rfl⟩ := hasN_iff.1 h
    by_cases hd : e.1 = d.1
    · exact hasN_iff.2 ⟨d, insL_mem.2 (.inl rfl), hd.symm⟩
    · exact hasN_iff.2 ⟨e, insL_mem.2 (.inr ⟨he, hd⟩), rfl⟩
theorem hasN_putself (hr : RightD ds self room) (h : refuseD ds d self room = false) : hasN (putD ds d self room) d.1 = true := hasN_iff.2 ⟨d, by rw [put_no hr h]; exact insL_mem.2 (.inl rfl), rfl⟩
theorem hasN_drop {n m : Int} (h : hasN ds n = true) (hne : n ≠ m) : hasN (dropD ds m) n = true := by
  obtain ⟨e, he, rfl⟩ := hasN_iff.1 h
  exact hasN_iff.2 ⟨e, dropD_mem.2 ⟨he, hne⟩, rfl⟩
/-- The one way that is not plain: somebody is dropped for d. -/
theorem swap_new {n : Int} (hr : RightD ds self room) (hn : hasN ds n = true) (h1 : d.1 ≠ self) (h2 : d.2.1 ≠ 0) (h3 : hasN ds d.1 = false) : refuseD (dropD ds n) d self room = false ∧ (putD (dropD ds n) d self room).length = ds.length := by
  have h4 : hasN (dropD ds n) d.1 = false := hasN_false.2 fun e he => hasN_false.1 h3 e (dropD_mem.1 he).1
  have hl := drop_len hr.2.1 hn
  have := hr.2.2.2
  have h5 : refuseD (dropD ds n) d self room = false := put_new (right_drop hr n) (by
    unfold hasN at h4; have := of_decide_eq_false h4; omega) h1 h2 (by omega)
  refine ⟨h5, ?_⟩
  rw [put_no (right_drop hr n) h5, insL_len (right_drop hr n).2.1, if_neg (by rw [h4]; decide)]
  exact hl
end
/-- What a step of Merge keeps. -/
structure Stepped (got : List Dsc) (me room : Int) (st st' : List Dsc × List Dsc) (d : Dsc) : Prop where
  right : RightD st'.1 me room
  more : st.1.length ≤ st'.1.length
  most : st'.1.length ≤ st.1.length + 1
  of_ : ∀ e ∈ st'.1, e ∈ st.1 ∨ e = d
  sent : ∀ x ∈ st'.2, x ∈ st.2
  kept : ∀ n, hasN st.1 n = true → hasN st'.1 n = true ∨ (hasN got n = false ∧ ∃ s ∈ st.2, s.1 = n)
  there : d.1 ≠ me → d.2.1 ≠ 0 → hasN st'.1 d.1 = true ∨ (room ≤ (st'.1.length : Int) ∧ ∀ s ∈ st.2, hasN got s.1 = true ∨ hasN st.1 s.1 = false)
theorem stepped {got : List Dsc} {me room : Int} {st : List Dsc × List Dsc} (d : Dsc) (hr : RightD st.1 me room) : Stepped got me room st (mergeStep got me room st d) d := by
  unfold mergeStep
  split
  · next h => exact ⟨right_put hr d, (put_len hr).1, (put_len hr).2, fun e he => (put_mem hr he).symm, fun x hx => hx, fun n hn => .inl (hasN_put hr hn), fun _ _ => .inl (hasN_putself hr h)⟩
  · next h =>
    have hy : refuseD st.1 d me room = true := by cases hq : refuseD st.1 d me room; exact absurd hq h; rfl
    split
    · next h2 => exact ⟨hr, Nat.le_refl _, Nat.le_succ _, fun e he => .inl he, fun x hx => hx, fun n hn => .inl hn, fun a b => by
        rcases h2 with h2 | h2 | h2
        · exact absurd h2 a
        · exact absurd h2 b
        · exact .inl h2⟩
    · next h2 =>
      have h3 : d.1 ≠ me := fun q => h2 (.inl q)
      have h4 : d.2.1 ≠ 0 := fun q => h2 (.inr (.inl q))
      have h5 : hasN st.1 d.1 = false := by cases hq : hasN st.1 d.1; rfl; exact absurd (.inr (.inr hq)) h2
      split
      · next hs =>
        refine ⟨hr, Nat.le_refl _, Nat.le_succ _, fun e he => .inl he, (fun x hx => by cases hx), fun n hn => .inl hn, fun a b => .inr ⟨?_, skip_none hs⟩⟩
        refine (put_kept hr hy).1 a b ?_
        unfold hasN at h5
        have := of_decide_eq_false h5
        omega
      · next n t hs =>
        obtain ⟨s1, s2, s3, s4⟩ := skip_some hs
        obtain ⟨w1, w2⟩ := swap_new (d := d) hr s2 h3 h4 h5
        refine ⟨right_put (right_drop hr n) d, Nat.le_of_eq w2.symm, by dsimp only; omega, fun e he => ?_, s4, fun m hm => ?_, fun _ _ => .inl (hasN_putself (right_drop hr n) w1)⟩
        · rcases put_mem (right_drop hr n) he with h | h
          · exact .inr h
          · exact .inl (dropD_mem.1 h).1
        · by_cases hmn : m = n
          · subst hmn; exact .inr ⟨s1, s3⟩
          · exact .inl (hasN_put (right_drop hr n) (hasN_drop hm hmn))
/-- What Merge keeps, behind some of got. -/
structure Merged (got : List Dsc) (me room : Int) (st st' : List Dsc × List Dsc) (gs : List Dsc) : Prop where
  right : RightD st'.1 me room
  more : st.1.length ≤ st'.1.length
  most : st'.1.length ≤ st.1.length + gs.length
  of_ : ∀ e ∈ st'.1, e ∈ st.1 ∨ e ∈ gs
  sent : ∀ x ∈ st'.2, x ∈ st.2
  kept : ∀ n, hasN st.1 n = true → hasN st'.1 n = true ∨ (hasN got n = false ∧ ∃ s ∈ st.2, s.1 = n)
  there : (st'.1.length : Int) < room → ∀ d ∈ gs, d ∈ got → d.1 ≠ me → d.2.1 ≠ 0 → hasN st'.1 d.1 = true
theorem merged {got : List Dsc} {me room : Int} : ∀ (gs : List Dsc) (st : List Dsc × List Dsc), RightD st.1 me room → Merged got me room st (gs.foldl (mergeStep got me room) st) gs
  | [], st, hr => ⟨hr, Nat.le_refl _, Nat.le_refl _, fun e he => .inl he, fun x hx => hx, fun n hn => .inl hn, fun _ d hd => by cases hd⟩
  | g :: gs, st, hr => by
    have h1 := stepped (got := got) g hr
    have h2 := merged (got := got) gs (mergeStep got me room st g) h1.right
    rw [List.foldl_cons]
    refine ⟨h2.right, Nat.le_trans h1.more h2.more, by have := h1.most; have := h2.most; rw [List.length_cons]; omega, fun e he => ?_, fun x hx => h1.sent x (h2.sent x hx), fun n hn => ?_, fun hl d hd hg a b => ?_⟩
    · rcases h2.of_ e he with h | h
      · rcases h1.of_ e h with h | rfl
        · exact .inl h
        · exact .inr List.mem_cons_self
      · exact .inr (List.mem_cons_of_mem _ h)
    · rcases h1.kept n hn with h | h
      · rcases h2.kept n h with h | ⟨h, s, hs, e⟩
        · exact .inl h
        · exact .inr ⟨h, s, h1.sent s hs, e⟩
      · exact .inr h
    · rcases List.mem_cons.1 hd with rfl | hd
      · rcases h1.there a b with h | h
        · rcases h2.kept d.1 h with h | ⟨h, _⟩
          · exact h
          · rw [hasN_iff.2 ⟨d, hg, rfl⟩] at h; cases h
        · have := h2.more; have := h.1; omega
      · exact h2.there hl d hd hg a b
/-- What Merge hands back (P10.4). -/
theorem merge_facts {l got sent : List Dsc} {self room : Int} (hr : RightD l self room) : Merged got self room (l, sent) (got.foldl (mergeStep got self room) (l, sent)) got := merged got (l, sent) hr
theorem merge_right {l got sent : List Dsc} {self room : Int} (hr : RightD l self room) : RightD (mergeD l got sent self room) self room := (merge_facts hr).right
/-- Of got's first: it is there, where there is room, or one may be dropped. -/
theorem merge_first {l gs sent : List Dsc} {d : Dsc} {self room : Int} (hr : RightD l self room) (h1 : d.1 ≠ self) (h2 : d.2.1 ≠ 0) (hm : (l.length : Int) < room ∨ hasN l d.1 = true ∨ ∃ s ∈ sent, hasN (d :: gs) s.1 = false ∧ hasN l s.1 = true) : hasN (mergeD l (d :: gs) sent self room) d.1 = true := by
  have s1 := stepped (got := d :: gs) (st := (l, sent)) d hr
  have s2 := merged (got := d :: gs) gs _ s1.right
  have hg : hasN (d :: gs) d.1 = true := hasN_iff.2 ⟨d, List.mem_cons_self, rfl⟩
  have h3 : hasN (mergeStep (d :: gs) self room (l, sent) d).1 d.1 = true := by
    rcases s1.there h1 h2 with h | ⟨h, h'⟩
    · exact h
    · rcases hm with hm | hm | ⟨s, hs, a, b⟩
      · cases hf : refuseD l d self room with
        | false =>
          unfold mergeStep
          rw [if_pos hf]; exact hasN_putself hr hf
        | true =>
          have := (put_kept hr hf).1 h1 h2
          rcases findI_neg (ds := l) (n := d.1) with q | q
          · have := this (by omega); omega
          · have hh : hasN l d.1 = true := decide_eq_true q
            rcases s1.kept d.1 hh with h | ⟨h, _⟩
            · exact h
            · rw [hg] at h; cases h
      · rcases s1.kept d.1 hm with h | ⟨h, _⟩
        · exact h
        · rw [hg] at h; cases h
      · rcases h' s hs with q | q
        · rw [a] at q; cases q
        · rw [b] at q; cases q
  rcases s2.kept d.1 h3 with h | ⟨h, _⟩
  · exact h
  · rw [hg] at h; cases h
def askD (l : List Dsc) (me : Dsc) (many : Int) (rs : List Int) : Int × List Dsc × Bool :=
  if l = [] ∨ many < 1 then (0, [], false) else ((l.getD (oldI l).toNat (0, 0, 0, [])).1, (me.1, me.2.1, 0, me.2.2.2) :: pickD (dropD l (l.getD (oldI l).toNat (0, 0, 0, [])).1) (many - 1) rs, true)
end Go.Proofs.Ytdkchiodepdclaa
