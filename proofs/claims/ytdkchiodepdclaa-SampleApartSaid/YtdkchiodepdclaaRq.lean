/- Layer 9: plain facts of views: what is put, dropped and made older stays a view; of two the newer one is there; ages. -/
import Derived.Test.YtdkchiodepdclaaRp
namespace Go.Proofs.Ytdkchiodepdclaa
open Go.RowKit
set_option linter.unusedVariables false
section
variable {ds : List Dsc} {d : Dsc} {self room : Int}
theorem RightD.wider (h : RightD ds self room) {r2 : Int} (hr : room ≤ r2) : RightD ds self r2 := ⟨h.1, h.2.1, by have := h.2.2.1; omega, by have := h.2.2.2; omega⟩
theorem RightD.sub {es : List Dsc} (h : RightD ds self room) (hs : es.Sublist ds) : RightD es self room := by
  have hl := hs.length_le
  exact ⟨fun e he => h.1 e (hs.subset he), h.2.1.sublist hs, h.2.2.1, by have := h.2.2.2; omega⟩
theorem right_drop (h : RightD ds self room) (n : Int) : RightD (dropD ds n) self room := h.sub List.filter_sublist
theorem dropD_mem {n : Int} {e : Dsc} : e ∈ dropD ds n ↔ e ∈ ds ∧ e.1 ≠ n := by unfold dropD; simp [List.mem_filter]
theorem find_drop (ds : List Dsc) (n : Int) : findI (dropD ds n) n = -1 := findI_none fun e he => (dropD_mem.1 he).2
theorem oldD_node (e : Dsc) : (oldD e).1 = e.1 := rfl
theorem right_older (h : RightD ds self room) : RightD (olderD ds) self room := by
  unfold olderD
  refine ⟨fun e he => ?_, ?_, h.2.2.1, by rw [List.length_map]; exact h.2.2.2⟩
  · obtain ⟨x, hx, rfl⟩ := List.mem_map.1 he
    exact h.1 x hx
  · rw [List.pairwise_map]; exact h.2.1
/-- In a rising list a node is at one place. -/
theorem findI_rise {k : Nat} {e : Dsc} (h : ds.Pairwise fun a b => a.1 < b.1) (hk : ds[k]? = some e) : findI ds e.1 = k := by
  refine findI_at hk rfl fun i f hi hf => ?_
  obtain ⟨h1, h2⟩ := List.getElem?_eq_some_iff.1 hk
  obtain ⟨h3, h4⟩ := List.getElem?_eq_some_iff.1 hf
  have := List.pairwise_iff_getElem.1 h i k h3 h1 hi
  rw [h2, h4] at this
  omega
theorem findI_neg {n : Int} : findI ds n = -1 ∨ 0 ≤ findI ds n := by have := (findI_range ds n).1; omega
/-- What is put into a rising list: the smaller ones, d, the greater ones. -/
def insL (ds : List Dsc) (d : Dsc) : List Dsc := ds.filter (fun e => decide (e.1 < d.1)) ++ d :: ds.filter (fun e => decide (d.1 < e.1))
theorem ins_eq (h : ds.Pairwise fun a b => a.1 < b.1) : insG keyD d ds = insL ds d := insG_rise keyD d h
theorem insL_mem {e : Dsc} : e ∈ insL ds d ↔ e = d ∨ (e ∈ ds ∧ e.1 ≠ d.1) := by
  unfold insL
  simp only [List.mem_append, List.mem_cons, List.mem_filter, decide_eq_true_eq]
  constructor
  · rintro (h | h | h)
    · exact .inr ⟨h.1, by omega⟩
    · exact .inl h
    · exact .inr ⟨h.1, by omega⟩
  · rintro (h | h)
    · exact .inr (.inl h)
    · rcases Int.lt_or_gt_of_ne h.2 with h2 | h2
      · exact .inl ⟨h.1, h2⟩
      · exact .inr (.inr ⟨h.1, h2⟩)
theorem insL_rise (h : ds.Pairwise fun a b => a.1 < b.1) : (insL ds d).Pairwise fun a b => a.1 < b.1 := by
  unfold insL
  refine List.pairwise_append.2 ⟨h.sublist List.filter_sublist, List.pairwise_cons.2 ⟨fun e he => ?_, h.sublist List.filter_sublist⟩, fun a ha b hb => ?_⟩
  · simpa using (List.mem_filter.1 he).2
  · have h1 : a.1 < d.1 := by simpa using (List.mem_filter.1 ha).2
    rcases List.mem_cons.1 hb with rfl | hb
    · exact h1
    · have h2 : d.1 < b.1 := by simpa using (List.mem_filter.1 hb).2
      omega
theorem parts_length (ds : List Dsc) (n : Int) : (ds.filter (fun e => decide (e.1 < n))).length + (ds.filter (fun e => decide (n < e.1))).length = (dropD ds n).length := by
  unfold dropD
  induction ds with
  | nil => rfl
  | cons x t ih =>
    rcases Int.lt_trichotomy x.1 n with h | h | h
    · rw [List.filter_cons_of_pos (by simpa using h), List.filter_cons_of_neg (by simp; omega), List.filter_cons_of_pos (by simp; omega)]; simp only [List.length_cons]; omega
    · rw [List.filter_cons_of_neg (by simp; omega), List.filter_cons_of_neg (by simp; omega), List.filter_cons_of_neg (by simpa using h)]; exact ih
    · rw [List.filter_cons_of_neg (by simp; omega), List.filter_cons_of_pos (by simpa using h), List.filter_cons_of_pos (by simp; omega)]; simp only [List.length_cons]; omega
theorem insL_length : (insL ds d).length = (dropD ds d.1).length + 1 := by
  unfold insL
  rw [List.length_append, List.length_cons, ← parts_length]; omega
theorem drop_short {n : Int} (h : 0 ≤ findI ds n) : (dropD ds n).length + 1 ≤ ds.length := by
  obtain ⟨e, he, hn⟩ := findI_hit h
  have hm := List.mem_of_getElem? he
  have hl : (dropD ds n).length ≠ ds.length := fun hl => by
    have := List.length_filter_eq_length_iff.1 hl e hm
    simp [hn] at this
  have := List.length_filter_le (fun e : Dsc => decide (e.1 ≠ n)) ds
  unfold dropD at hl ⊢
  omega
theorem drop_le (n : Int) : (dropD ds n).length ≤ ds.length := List.length_filter_le _ _
/-- When it is not refused. -/
theorem refuse_no (h : refuseD ds d self room = false) : d.1 ≠ self ∧ d.2.1 ≠ 0 ∧ (0 ≤ findI ds d.1 → ∃ e, ds[(findI ds d.1).toNat]? = some e ∧ e.1 = d.1 ∧ newerD d e = true) ∧ (findI ds d.1 < 0 → (ds.length : Int) < room) := by
  unfold refuseD at h
  obtain ⟨h1, h2⟩ := Bool.or_eq_false_iff.1 h
  have h1 := of_decide_eq_false h1
  refine ⟨fun e => h1 (.inl e), fun e => h1 (.inr e), fun h0 => ?_, fun h0 => ?_⟩
  · rw [if_pos h0] at h2
    obtain ⟨e, he, hn⟩ := findI_hit h0
    rw [List.getD_eq_getElem?_getD, he] at h2
    exact ⟨e, he, hn, by simpa using h2⟩
  · rw [if_neg (by omega)] at h2
    have := of_decide_eq_false h2
    omega
/-- When it is refused. -/
theorem refuse_yes (h : refuseD ds d self room = true) : d.1 = self ∨ d.2.1 = 0 ∨ (0 ≤ findI ds d.1 ∧ ∃ e, ds[(findI ds d.1).toNat]? = some e ∧ e.1 = d.1 ∧ newerD d e = false) ∨ (findI ds d.1 < 0 ∧ room ≤ (ds.length : Int)) := by
  unfold refuseD at h
  rcases Bool.or_eq_true_iff.1 h with h1 | h2
  · rcases of_decide_eq_true h1 with h1 | h1
    · exact .inl h1
    · exact .inr (.inl h1)
  · by_cases h0 : 0 ≤ findI ds d.1
    · rw [if_pos h0] at h2
      obtain ⟨e, he, hn⟩ := findI_hit h0
      rw [List.getD_eq_getElem?_getD, he] at h2
      exact .inr (.inr (.inl ⟨h0, e, he, hn, by simpa using h2⟩))
    · rw [if_neg h0] at h2
      exact .inr (.inr (.inr ⟨by omega, of_decide_eq_true h2⟩))
theorem put_yes (h : refuseD ds d self room = true) : putD ds d self room = ds := by unfold putD; rw [if_pos h]
theorem put_no (hr : RightD ds self room) (h : refuseD ds d self room = false) : putD ds d self room = insL ds d := by
  unfold putD
  rw [h, if_neg (by decide), ins_eq hr.2.1]
theorem right_put (hr : RightD ds self room) (d : Dsc) : RightD (putD ds d self room) self room := by
  cases h : refuseD ds d self room with
  | true => rw [put_yes h]; exact hr
  | false =>
    rw [put_no hr h]
    obtain ⟨h1, h2, h3, h4⟩ := refuse_no h
    refine ⟨fun e he => ?_, insL_rise hr.2.1, hr.2.2.1, ?_⟩
    · rcases insL_mem.1 he with rfl | he
      · exact ⟨h1, h2⟩
      · exact hr.1 e he.1
    · rw [insL_length]
      have := hr.2.2.2
      rcases findI_neg (ds := ds) (n := d.1) with h0 | h0
      · have := h4 (by omega)
        have := drop_le (ds := ds) d.1
        omega
      · have := drop_short h0
        omega
/-- Where it is, once it is put. -/
theorem put_there (hr : RightD ds self room) (h : refuseD ds d self room = false) : 0 ≤ findI (putD ds d self room) d.1 ∧ (putD ds d self room)[(findI (putD ds d self room) d.1).toNat]? = some d := by
  have hp := right_put hr d
  have hm : d ∈ putD ds d self room := by rw [put_no hr h]; exact insL_mem.2 (.inl rfl)
  obtain ⟨k, he⟩ := List.mem_iff_getElem?.1 hm
  rw [findI_rise hp.2.1 he]
  exact ⟨by omega, by simpa using he⟩
/-- Of what is refused: either a newer one is there, or there is no room. -/
theorem put_kept (hr : RightD ds self room) (h : refuseD ds d self room = true) : (d.1 ≠ self → d.2.1 ≠ 0 → findI ds d.1 < 0 → room ≤ (ds.length : Int)) ∧ (∀ e, 0 ≤ findI ds d.1 → ds[(findI ds d.1).toNat]? = some e → d.2.1 ≤ e.2.1 ∨ d.2.1 = 0) ∧ (∀ e, 0 ≤ findI ds d.1 → ds[(findI ds d.1).toNat]? = some e → e.2.1 = d.2.1 → d.2.1 ≠ 0 → e.2.2.1 ≤ d.2.2.1) := by
  have hself : d.1 = self → findI ds d.1 = -1 := fun hs => findI_none fun e he => by rw [hs]; exact (hr.1 e he).1
  refine ⟨fun h1 h2 h3 => ?_, fun e h0 he => ?_, fun e h0 he h1 h2 => ?_⟩
  · rcases refuse_yes h with h | h | h | h
    · exact absurd h h1
    · exact absurd h h2
    · omega
    · exact h.2
  · rcases refuse_yes h with h | h | ⟨_, e', he', hn, h⟩ | h
    · have := hself h; omega
    · exact .inr h
    · rw [he] at he'; injection he' with he'; subst he'
      unfold newerD at h
      split at h
      · left; omega
      · have := of_decide_eq_false h; left; omega
    · omega
  · rcases refuse_yes h with h | h | ⟨_, e', he', hn, h⟩ | h
    · have := hself h; omega
    · exact absurd h h2
    · rw [he] at he'; injection he' with he'; subst he'
      unfold newerD at h
      rw [if_pos h1.symm] at h
      have := of_decide_eq_false h
      omega
    · omega
/-- Into a view without its node. -/
theorem put_new (hr : RightD ds self room) (hn : findI ds d.1 < 0) (h1 : d.1 ≠ self) (h2 : d.2.1 ≠ 0) (hl : (ds.length : Int) < room) : refuseD ds d self room = false := by
  unfold refuseD
  rw [decide_eq_false (fun h => h.elim h1 h2), if_neg (by omega), decide_eq_false (by omega)]; rfl
/-- Into a view that holds one of its node. -/
theorem put_held {e : Dsc} {k : Nat} (hr : RightD ds self room) (hk : ds[k]? = some e) (he : e.1 = d.1) (h1 : d.1 ≠ self) (h2 : d.2.1 ≠ 0) : refuseD ds d self room = !newerD d e := by
  have hf : findI ds d.1 = k := by rw [← he]; exact findI_rise hr.2.1 hk
  unfold refuseD
  rw [decide_eq_false (fun h => h.elim h1 h2), hf, if_pos (by omega), Int.toNat_natCast, List.getD_eq_getElem?_getD, hk]; rfl
theorem insL_insL {a b : Dsc} (hab : b.1 = a.1) : insL (insL ds a) b = insL ds b := by
  unfold insL
  rw [List.filter_append, List.filter_append, hab, List.filter_cons_of_neg (by simp), List.filter_cons_of_neg (by simp), List.filter_filter, List.filter_filter, List.filter_filter, List.filter_filter]
  have e1 : ds.filter (fun e => decide (e.1 < a.1) && decide (e.1 < a.1)) = ds.filter (fun e => decide (e.1 < a.1)) := List.filter_congr fun e _ => by simp
  have e2 : ds.filter (fun e => decide (a.1 < e.1) && decide (a.1 < e.1)) = ds.filter (fun e => decide (a.1 < e.1)) := List.filter_congr fun e _ => by simp
  have e3 : ds.filter (fun e => decide (e.1 < a.1) && decide (a.1 < e.1)) = [] := List.filter_eq_nil_iff.2 fun e _ => by simp; omega
  have e4 : ds.filter (fun e => decide (a.1 < e.1) && decide (e.1 < a.1)) = [] := List.filter_eq_nil_iff.2 fun e _ => by simp; omega
  rw [e1, e2, e3, e4]; simp
/-- Two of a node: the newer one is there. -/
theorem put_two {a b : Dsc} (hr : RightD ds self room) (hab : b.1 = a.1) (ha : a.1 ≠ self) (ha2 : a.2.1 ≠ 0) (hb2 : b.2.1 ≠ 0) (hn : findI ds a.1 < 0) (hl : (ds.length : Int) < room) :
    putD (putD ds a self room) b self room = (if newerD b a then insL ds b else insL ds a) := by
  have h1 := put_new hr hn ha ha2 hl
  have hp := right_put hr a
  obtain ⟨k0, hk⟩ := put_there hr h1
  have h2 := put_held (d := b) hp hk hab.symm (by rw [hab]; exact ha) hb2
  cases hnb : newerD b a with
  | true =>
    rw [hnb] at h2
    rw [put_no hp h2, put_no hr h1, insL_insL hab, if_pos rfl]
  | false =>
    rw [hnb] at h2
    rw [put_yes h2, put_no hr h1, if_neg (by decide)]
theorem newer_irrefl (a : Dsc) : newerD a a = false := by unfold newerD; rw [if_pos rfl, decide_eq_false (Int.lt_irrefl _)]
theorem newer_anti {a b : Dsc} (h : ¬ (a.2.1 = b.2.1 ∧ a.2.2.1 = b.2.2.1)) : newerD b a = !newerD a b := by
  unfold newerD
  by_cases h1 : a.2.1 = b.2.1
  · rw [if_pos h1, if_pos h1.symm]
    have : a.2.2.1 ≠ b.2.2.1 := fun h2 => h ⟨h1, h2⟩
    rcases Int.lt_or_gt_of_ne this with h3 | h3
    · rw [decide_eq_false (by omega), decide_eq_true h3]; rfl
    · rw [decide_eq_true h3, decide_eq_false (by omega)]; rfl
  · rw [if_neg h1, if_neg (fun h => h1 h.symm)]
    rcases Int.lt_or_gt_of_ne h1 with h3 | h3
    · rw [decide_eq_true h3, decide_eq_false (by omega)]; rfl
    · rw [decide_eq_false (by omega), decide_eq_true h3]; rfl
/-- Again: nothing changes. -/
theorem put_again {a c : Dsc} (hr : RightD ds self room) (hac : a.1 = c.1) (hc : c.1 ≠ self) (ha2 : a.2.1 ≠ 0) (hn : newerD a c = false) (hp : RightD (insL ds c) self room) : refuseD (insL ds c) a self room = true := by
  have hm : c ∈ insL ds c := insL_mem.2 (.inl rfl)
  obtain ⟨k, he⟩ := List.mem_iff_getElem?.1 hm
  rw [put_held hp he hac.symm (by rw [hac]; exact hc) ha2, hn]; rfl
theorem ins_there {c : Dsc} (h : ds.Pairwise fun a b => a.1 < b.1) : 0 ≤ findI (insL ds c) c.1 ∧ findI (insL ds c) c.1 < ((insL ds c).length : Int) ∧ (insL ds c)[(findI (insL ds c) c.1).toNat]? = some c := by
  have hm : c ∈ insL ds c := insL_mem.2 (.inl rfl)
  obtain ⟨k, he⟩ := List.mem_iff_getElem?.1 hm
  have hk := (List.getElem?_eq_some_iff.1 he).1
  rw [findI_rise (insL_rise h) he]
  exact ⟨by omega, by omega, by simpa using he⟩
/-- Ages. -/
theorem older_len : (olderD ds).length = ds.length := by unfold olderD; rw [List.length_map]
theorem older_at (i : Nat) : (olderD ds)[i]? = ds[i]?.map oldD := by unfold olderD; rw [List.getElem?_map]
theorem old_older (h : ∀ e ∈ ds, e.2.2.1 < 254) : oldI (olderD ds) = oldI ds := by
  by_cases h0 : ds = []
  · rw [h0]; rfl
  · obtain ⟨k, a, hk, e⟩ := oldI_is h0
    rw [e]
    obtain ⟨d, hd, hda⟩ := hk.at_
    have hda2 := h d (List.mem_of_getElem? hd)
    refine oldI_of (a := a + 1) ⟨⟨oldD d, by rw [older_at, hd]; rfl, ?_⟩, fun f hf => ?_, fun i f hi hf => ?_⟩
    · unfold oldD; simp only; rw [if_neg (by omega), hda]
    · obtain ⟨x, hx, rfl⟩ := List.mem_map.1 hf
      have h1 := h x hx
      have h2 := hk.all x hx
      unfold oldD; simp only; rw [if_neg (by omega)]; omega
    · rw [older_at] at hf
      obtain ⟨x, hx, rfl⟩ := Option.map_eq_some_iff.1 hf
      have h1 := h x (List.mem_of_getElem? hx)
      have h2 := hk.first i x hi hx
      unfold oldD; simp only; rw [if_neg (by omega)]; omega
end
end Go.Proofs.Ytdkchiodepdclaa
