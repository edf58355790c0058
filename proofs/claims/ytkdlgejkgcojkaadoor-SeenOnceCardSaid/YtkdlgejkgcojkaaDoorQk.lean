/- Layer 8, SeenOnce: a map of ids that the call itself makes: what it holds. -/
import Derived.Test.YtkdlgejkgcojkaaDoorQa
import Derived.Test.YtkdlgejkgcojkaaDoorReg10
import Derived.Maps.RangeWalk
import Derived.Maps.OwnSet
import Derived.DeepKeys5
import Derived.WideKeyEntry
namespace Go.Proofs.YtkdlgejkgcojkaaDoor
open Go.RowKit Go.Maps
open Go.ChangeMaps (setBlock heap_setBlock_same heap_setBlock_other)
open Go.WideElems (Fit rd rg)
set_option linter.unusedVariables false
abbrev MT : TypeId := 40
theorem mlaidOut : laidOutB Tryd.prog = true := by kernel_rfl
theorem klaw : WideMaps.KeyLaw Tryd.prog 28 := deep_law_laid mlaidOut (m := 3) (by omega) (of_decide_eq_true (by kernel_rfl)) (by kernel_rfl) (by rw [Tryd.underlying28])
theorem keyed : Keyed Tryd.prog 28 := Keyed.of_law klaw
theorem wf8 {a : Int} (h : 0 ≤ a ∧ a ≤ 255) : (Lit.int .u8 a).wf = true := by
  have h1 : IntKind.u8.min = 0 := rfl
  have h2 : IntKind.u8.max = 255 := rfl
  simp [Lit.wf, h1, h2]; omega
theorem wf16 {a : Int} (h : 0 ≤ a ∧ a ≤ 65535) : (Lit.int .u16 a).wf = true := by
  have h1 : IntKind.u16.min = 0 := rfl
  have h2 : IntKind.u16.max = 65535 := rfl
  simp [Lit.wf, h1, h2]; omega
theorem wf32 {a : Int} (h : 0 ≤ a ∧ a ≤ 4294967295) : (Lit.int .u32 a).wf = true := by
  have h1 : IntKind.u32.min = 0 := rfl
  have h2 : IntKind.u32.max = 4294967295 := rfl
  simp [Lit.wf, h1, h2]; omega
theorem types_pos : ∃ d, Tryd.prog.types.size = d + 1 := ⟨Tryd.prog.types.size - 1, by have : 0 < Tryd.prog.types.size := of_decide_eq_true (by kernel_rfl); omega⟩
theorem keyT : Tryd.prog.keyType 28 = true := by kernel_rfl
theorem key_id (x : Id3) (h : idR x) : ∃ l, keyOf Tryd.prog 28 (.agg #[.int .u8 x.1, .int .u16 x.2.1, .int .u32 x.2.2]) = some l := by
  obtain ⟨d, hd⟩ := types_pos
  have hf : (Value.agg #[.int .u8 x.1, .int .u16 x.2.1, .int .u32 x.2.2]).formed Tryd.prog 28 = true := by
    have hc : Tryd.prog.cellsOf 28 = 3 := by kernel_rfl
    simp [Value.formed, Tryd.underlying28, hc]
  have h1 : Tryd.prog.cellsOf 5 = 1 := by kernel_rfl
  have h2 : Tryd.prog.cellsOf 22 = 1 := by kernel_rfl
  have h3 : Tryd.prog.cellsOf 23 = 1 := by kernel_rfl
  have hc : Tryd.prog.cellsOf 28 = 3 := by kernel_rfl
  unfold keyOf
  rw [Tryd.underlying28]
  simp only [keyT, hf, Bool.and_self, if_true]
  rw [hd]
  simp [Program.keyLits, Tryd.underlying28, Tryd.underlying5, Tryd.underlying22, Tryd.underlying23, h1, h2, h3, hc, Value.cells, wf8 h.1, wf16 h.2.1, wf32 h.2.2]
noncomputable def kl (x : Id3) : Lit := (keyOf Tryd.prog 28 (.agg #[.int .u8 x.1, .int .u16 x.2.1, .int .u32 x.2.2])).getD (.bool false)
theorem kl_key {x : Id3} (h : idR x) : keyOf Tryd.prog 28 (.agg #[.int .u8 x.1, .int .u16 x.2.1, .int .u32 x.2.2]) = some (kl x) := by
  obtain ⟨l, hl⟩ := key_id x h
  unfold kl; rw [hl]; rfl
theorem kl_inj {x y : Id3} (h : idR x) (h' : idR y) (e : kl x = kl y) : x = y := by
  have h1 := kl_key h
  rw [e] at h1
  have h2 := klaw.inj h1 (kl_key h')
  simp only [Value.agg.injEq] at h2
  have h3 := congrArg Array.toList h2
  simp only [List.cons.injEq, Value.int.injEq, true_and, and_true] at h3
  exact id3_ext h3.1 h3.2.1 h3.2.2
def idM (m : Id2) : Id3 := (0, (m.1 : Int), (m.2 : Int))
abbrev oneD : DataW Unit := .lit (.int .i64 1)
abbrev nilD : DataW Unit := .lit (.int .i64 0)
noncomputable def DM : List Id2 → DataW Unit
  | [] => .map []
  | m :: N => (DM N).put (kl (idM m)) oneD
def okM (N : List Id2) : Prop := ∀ m ∈ N, m.1 ≤ 65535 ∧ m.2 ≤ 4294967295
theorem idM_R {m : Id2} (h : m.1 ≤ 65535 ∧ m.2 ≤ 4294967295) : idR (idM m) := ⟨(show (0 : Int) ≤ 0 ∧ (0 : Int) ≤ 255 by decide), ⟨(show (0 : Int) ≤ (m.1 : Int) by omega), (show (m.1 : Int) ≤ 65535 by omega)⟩, (show (0 : Int) ≤ (m.2 : Int) by omega), (show (m.2 : Int) ≤ 4294967295 by omega)⟩
theorem DM_isMap : ∀ N : List Id2, IsMap (DM N)
  | [] => isMap_empty
  | m :: N => (DM_isMap N).put _ _
abbrev nM (x : Id3) : Id2 := (x.2.1.toNat, x.2.2.toNat)
theorem idM_n {x : Id3} (h : idR x) (h0 : x.1 = 0) : idM (nM x) = x := by
  refine id3_ext h0.symm ?_ ?_
  · show ((x.2.1.toNat : Nat) : Int) = x.2.1; have := h.2.1; omega
  · show ((x.2.2.toNat : Nat) : Int) = x.2.2; have := h.2.2; omega
theorem DM_at {x : Id3} (hx : idR x) (z : DataW Unit) : ∀ N : List Id2, okM N → (DM N).atKey (kl x) z = if x.1 = 0 ∧ nM x ∈ N then oneD else z
  | [], _ => by simp [DM, DataW.atKey]
  | m :: N, hN => by
    have ih := DM_at hx z N fun m' h' => hN m' (List.mem_cons_of_mem _ h')
    have hm := idM_R (hN m List.mem_cons_self)
    unfold DM
    by_cases e : kl x = kl (idM m)
    · have e2 := kl_inj hx hm e
      rw [e, atKey_put_same (DM_isMap N) (keyed.key (kl_key hm))]
      rw [if_pos]
      rw [e2]
      exact ⟨rfl, by simp [idM, nM]⟩
    · rw [atKey_put_other e, ih]
      have : (x.1 = 0 ∧ nM x ∈ m :: N) ↔ (x.1 = 0 ∧ nM x ∈ N) := by
        constructor
        · rintro ⟨h0, h1⟩
          rcases List.mem_cons.1 h1 with h1 | h1
          · exact absurd (by rw [← h1, idM_n hx h0]) e
          · exact ⟨h0, h1⟩
        · rintro ⟨h0, h1⟩; exact ⟨h0, List.mem_cons_of_mem _ h1⟩
      simp only [this]
theorem DM_has {l : Lit} : ∀ {N : List Id2}, okM N → has (DM N) l = true → ∃ m ∈ N, l = kl (idM m)
  | [], _, h => by cases h
  | m :: N, hN, h => by
    unfold DM at h
    by_cases e : l = kl (idM m)
    · exact ⟨m, List.mem_cons_self, e⟩
    · rw [has_put_other e] at h
      obtain ⟨m', h1, h2⟩ := DM_has (fun m' h' => hN m' (List.mem_cons_of_mem _ h')) h
      exact ⟨m', List.mem_cons_of_mem _ h1, h2⟩
noncomputable abbrev IntE : Value → Option (DataW Unit × List MemPlace) := plainElem Tryd.prog 3
/-- Block b is the map of those met. -/
abbrev OwnM (w : World) (b : Nat) (N : List Id2) : Prop := w.ownsMap Tryd.prog 28 IntE b N.length (DM N)
theorem mt : Tryd.prog.underlying MT = some (.map 28 3) := Tryd.underlying40
theorem zint (w : World) : (zeroValue 3).run Tryd.prog w = .ok (.int .i64 0) w := by kernel_rfl
theorem OwnM.look {w : World} {b : Nat} {N : List Id2} (h : OwnM w b N) (hN : okM N) {x : Id3} (hx : idR x) :
    (Instr.lookup MT (.map (some b)) (.agg #[.int .u8 x.1, .int .u16 x.2.1, .int .u32 x.2.2]) false).run Tryd.prog w = .ok (.int .i64 (if x.1 = 0 ∧ nM x ∈ N then 1 else 0)) w := by
  obtain ⟨c, hrun, hat, _⟩ := World.ownsMap.lookup_int h keyed mt Tryd.underlying3 (zint w) (kl_key hx)
  rw [DM_at hx _ N hN] at hat
  rw [hrun]
  split at hat
  · rename_i h1; rw [if_pos h1]; simp at hat; rw [← hat]
  · rename_i h1; rw [if_neg h1]; simp at hat; rw [← hat]
theorem OwnM.next {w w' : World} {b : Nat} {N : List Id2} (h : OwnM w b N) (hb : Below w.heap.size w w') : OwnM w' b N := by
  have hl := World.ownsMap.lt h
  obtain ⟨es, clock, h1, r⟩ := h
  exact ⟨es, clock, (hb.block b hl).trans h1, r⟩
theorem OwnM.grown {w w' : World} {b g : Nat} {N : List Id2} (h : OwnM w b N) (hg : w.grownBy w' (some g)) (hne : b ≠ g) : OwnM w' b N := World.ownsMap.kept h hg (by simpa using hne)
theorem OwnM.made (w : World) : OwnM (w.alloc (.map #[] 0)) w.heap.size [] := World.ownsMap_made w _ _ _
/-! ### m[k]++ of an entry that is new -/
section
variable {P : Program} {w : World} {t k e : TypeId} {b : Nat} {es : Array MapEntry} {clock : Nat} {key : Value} {l : Lit} {z : Value}
theorem entry_new (K : Keyed P k) (ht : P.underlying t = some (.map k e)) (hz : ∀ u : World, (zeroValue e).run P u = .ok z u) (hb : w.heap[b]? = some (.map es clock)) (hes : ∀ x ∈ es.toList, ∃ l, keyOf P k x.key = some l)
    (hkey : keyOf P k key = some l) (hnew : ∀ x ∈ es.toList, x.key ≠ key) :
    (Instr.mapEntry t (.map (some b)) key).run P w = .ok (.tuple #[z, goInt clock]) (setBlock w b (.map (es.push ⟨key, z, clock⟩) (clock + 1))) ∧
    (Instr.lookup t (.map (some b)) key false).run P w = .ok z w ∧
    ∀ val, (Instr.mapUpdate t (.map (some b)) key val).run P w = .ok () (setBlock w b (.map (es.push ⟨key, val, clock⟩) (clock + 1))) := by
  rcases K.find w hkey es.toList hes with ⟨h1, h2⟩ | ⟨j, e0, h1, h2, h3⟩
  · refine ⟨?_, ?_, fun val => ?_⟩
    · simp [Instr.mapEntry, run_underlying ht, MapKept.run_getObj_map hb, K.check w false hkey, h1, hz, MapKept.run_setObj_map _ hb, Result.andThen, setBlock]
    · simp [Instr.lookup, run_underlying ht, MapKept.run_getObj_map hb, K.check w es.isEmpty hkey, h1, hz, Result.andThen]
    · simp [Instr.mapUpdate, run_underlying ht, MapKept.run_getObj_map hb, K.check w false hkey, h1, MapKept.run_setObj_map _ hb, Result.andThen, setBlock]
  · exact absurd h3 (hnew e0 (List.mem_of_getElem? h2))
theorem setBlock_self (h : w.heap[b]? = some (.map es clock)) : setBlock w b (.map es clock) = w := by
  have e : w.heap.setIfInBounds b (.map es clock) = w.heap := by
    apply Array.ext_getElem?
    intro i
    by_cases hi : i = b
    · subst hi
      exact (heap_setBlock_same h _).trans h.symm
    · exact heap_setBlock_other h _ hi
  unfold setBlock
  rw [e]
theorem entry_again (K : Keyed P k) (ht : P.underlying t = some (.map k e)) (hb : w.heap[b]? = some (.map (es.push ⟨key, z, clock⟩) (clock + 1))) (hes : ∀ x ∈ es.toList, ∃ l, keyOf P k x.key = some l)
    (hkey : keyOf P k key = some l) (hnew : ∀ x ∈ es.toList, x.key ≠ key) (hst : (es.toList.map (·.born)).Nodup) (hlt : ∀ x ∈ es.toList, x.born < clock) :
    (Instr.mapEntry t (.map (some b)) key).run P w = .ok (.tuple #[z, goInt clock]) w ∧
    (Instr.lookup t (.map (some b)) key false).run P w = .ok z w ∧
    ∀ val, (Instr.entryStore t (.map (some b)) (goInt clock) val).run P w = .ok () (setBlock w b (.map (es.push ⟨key, val, clock⟩) (clock + 1))) := by
  have hes' : ∀ x ∈ (es.push ⟨key, z, clock⟩).toList, ∃ l, keyOf P k x.key = some l := fun x hx => by
    simp only [Array.toList_push, List.mem_append, List.mem_singleton] at hx
    rcases hx with hx | rfl
    · exact hes x hx
    · exact ⟨l, hkey⟩
  have hidx : (es.push ⟨key, z, clock⟩).findIdx? (fun e => ((e.born : Nat) : Int) == ((clock : Nat) : Int)) = some es.size := by
    rw [WideElems.findIdx_arr]
    exact WideElems.findIdx_born (l := (es.push ⟨key, z, clock⟩).toList) (j := es.size) (e0 := ⟨key, z, clock⟩) (by
      simp only [Array.toList_push, List.map_append, List.map_cons, List.map_nil]
      refine List.nodup_append.2 ⟨hst, by simp, fun a ha c hc e1 => ?_⟩
      simp only [List.mem_singleton] at hc
      obtain ⟨x, hx, rfl⟩ := List.mem_map.1 ha
      have := hlt x hx
      omega) (by simp)
  have hmod : ∀ val, (es.push ⟨key, z, clock⟩).modify es.size (fun e => { e with val := val }) = es.push ⟨key, val, clock⟩ := fun val => by
    apply Array.ext'
    rw [Array.toList_modify, Array.toList_push, Array.toList_push, ← Array.length_toList, WideElems.modify_last]
  have hmem : ∀ e0 ∈ (es.push ⟨key, z, clock⟩).toList, e0.key = key → e0 = ⟨key, z, clock⟩ := fun e0 hm h3 => by
    simp only [Array.toList_push, List.mem_append, List.mem_singleton] at hm
    rcases hm with hm | hm
    · exact absurd h3 (hnew e0 hm)
    · exact hm
  have hin : ⟨key, z, clock⟩ ∈ (es.push ⟨key, z, clock⟩).toList := by simp
  generalize es.push ⟨key, z, clock⟩ = a at *
  rcases K.find w hkey a.toList hes' with ⟨h1, h2⟩ | ⟨j, e0, h1, h2, h3⟩
  · exact absurd rfl (h2 ⟨key, z, clock⟩ hin)
  · obtain rfl := hmem e0 (List.mem_of_getElem? h2) h3
    have hj : a[j]? = some ⟨key, z, clock⟩ := by rw [← Array.getElem?_toList]; exact h2
    have hsame : a.modify j (fun e => { e with key := key }) = a := by
      apply Array.ext'
      rw [Array.toList_modify, ChangeMaps.modify_eq_set _ _ _ _ h2]
      exact WideElems.set_self _ _ _ h2
    have hself := setBlock_self hb
    unfold setBlock at hself
    refine ⟨?_, ?_, fun val => ?_⟩
    · simp [Instr.mapEntry, run_underlying ht, MapKept.run_getObj_map hb, K.check w false hkey, h1, hj, K.stays w hkey, hsame, MapKept.run_setObj_map _ hb, Result.andThen, hself]
    · simp [Instr.lookup, run_underlying ht, MapKept.run_getObj_map hb, K.check w a.isEmpty hkey, h1, Result.andThen]
    · simp [Instr.entryStore, MapKept.run_getObj_map hb, asInt, asIntOf, goInt, hidx, hmod, MapKept.run_setObj_map _ hb, Result.andThen, setBlock]
end
/-- A map's block on its way through 'm[x]++', x new. -/
structure Bump (b : Nat) (N : List Id2) (x : Id3) (o0 o1 o2 : Obj) (st : Nat) : Prop where
  at0 : ∀ u : World, u.heap[b]? = some o0 → (Instr.lookup MT (.map (some b)) (.agg #[.int .u8 x.1, .int .u16 x.2.1, .int .u32 x.2.2]) false).run Tryd.prog u = .ok (.int .i64 0) u ∧ (Instr.mapEntry MT (.map (some b)) (.agg #[.int .u8 x.1, .int .u16 x.2.1, .int .u32 x.2.2])).run Tryd.prog u = .ok (.tuple #[.int .i64 0, .int .i64 (st : Int)]) (setBlock u b o1) ∧
    (setBlock u b o1).heap[b]? = some o1 ∧ u.grownBy (setBlock u b o1) (some b)
  at1 : ∀ u : World, u.heap[b]? = some o1 → (Instr.lookup MT (.map (some b)) (.agg #[.int .u8 x.1, .int .u16 x.2.1, .int .u32 x.2.2]) false).run Tryd.prog u = .ok (.int .i64 0) u ∧ (Instr.mapEntry MT (.map (some b)) (.agg #[.int .u8 x.1, .int .u16 x.2.1, .int .u32 x.2.2])).run Tryd.prog u = .ok (.tuple #[.int .i64 0, .int .i64 (st : Int)]) u ∧
    (Instr.entryStore MT (.map (some b)) (.int .i64 (st : Int)) (.int .i64 1)).run Tryd.prog u = .ok () (setBlock u b o2) ∧ u.grownBy (setBlock u b o2) (some b) ∧ OwnM (setBlock u b o2) b (nM x :: N)
theorem bump_to {b : Nat} {es0 es1 : Array MapEntry} {c0 c1 : Nat} {w : World} (h : w.heap[b]? = some (.map es0 c0)) : (setBlock w b (.map es1 c1)).heap[b]? = some (.map es1 c1) ∧ w.grownBy (setBlock w b (.map es1 c1)) (some b) :=
  ⟨heap_setBlock_same h _, ⟨rfl, rfl, rfl, by simp [setBlock], fun i _ hi => heap_setBlock_other h _ (fun e => hi (by rw [e]))⟩⟩
theorem bump_states {w : World} {b : Nat} {N : List Id2} {x : Id3} (h : OwnM w b N) (hN : okM N) (hx : idR x) (h0 : x.1 = 0) (hnew : nM x ∉ N) (hroom : N.length < maxLen) :
    ∃ o0 o1 o2 st, w.heap[b]? = some o0 ∧ Bump b N x o0 o1 o2 st := by
  have hup := World.ownsMap.update h keyed mt hroom (kl_key hx) (plainElem_int Tryd.underlying3 (a := 1) (by decide))
  have hlook := h.look hN hx
  obtain ⟨es, clock, hb, F, _, hDD⟩ := h
  obtain ⟨s1, s2, _⟩ := F.stamped
  have hnk : ∀ e ∈ es.toList, e.key ≠ (.agg #[.int .u8 x.1, .int .u16 x.2.1, .int .u32 x.2.2]) := fun e he hk => by
    rcases keyed.find w (kl_key hx) es.toList F.keys with ⟨_, h2⟩ | ⟨j, e0, h1, h2, h3⟩
    · exact h2 e he hk
    · obtain ⟨w', hrun, hown, _⟩ := hup
      rw [if_neg (fun hc => hnew hc.2)] at hlook
      have hsz := hown
      -- the entry reads as one that was met
      have hhas : has (DM N) (kl x) = true := by
        rw [hDD]
        refine List.any_eq_true.2 ⟨rg Tryd.prog 28 IntE e, mem_sorted.2 (List.mem_map.2 ⟨e, he, rfl⟩), ?_⟩
        obtain ⟨y, hy⟩ := F.reads e he
        rw [WideElems.rg_of hy]
        have h5 := WideElems.rd_key hy
        rw [hk, kl_key hx] at h5
        rw [← Option.some.inj h5]
        exact WideAt.sameKey_self (keyed.key (kl_key hx))
      obtain ⟨m, hm, he2⟩ := DM_has hN hhas
      have h6 := kl_inj hx (idM_R (hN m hm)) he2
      exact hnew (by rw [h6]; simpa [idM, nM] using hm)
  obtain ⟨w', hrun, hown, _⟩ := hup
  have e1 := (entry_new keyed mt zint hb F.keys (kl_key hx) hnk).2.2 (.int .i64 1)
  rw [e1] at hrun
  injection hrun with _ hw'
  have own2 : ∀ u : World, u.heap[b]? = some (.map (es.push ⟨(.agg #[.int .u8 x.1, .int .u16 x.2.1, .int .u32 x.2.2]), .int .i64 1, clock⟩) (clock + 1)) → OwnM u b (nM x :: N) := fun u hu => by
    have e2 : idM (nM x) = x := idM_n hx h0
    rw [← hw'] at hown
    obtain ⟨es', clock', hb', r⟩ := hown
    have hbb := heap_setBlock_same hb (.map (es.push ⟨(.agg #[.int .u8 x.1, .int .u16 x.2.1, .int .u32 x.2.2]), .int .i64 1, clock⟩) (clock + 1))
    rw [hbb] at hb'
    injection hb' with hb'
    injection hb' with h7 h8
    subst h7 h8
    refine ⟨_, _, hu, ?_⟩
    show _ ∧ _ ∧ (DM N).put (kl (idM (nM x))) oneD = _
    rw [e2]
    exact r
  refine ⟨_, .map (es.push ⟨(.agg #[.int .u8 x.1, .int .u16 x.2.1, .int .u32 x.2.2]), .int .i64 0, clock⟩) (clock + 1), .map (es.push ⟨(.agg #[.int .u8 x.1, .int .u16 x.2.1, .int .u32 x.2.2]), .int .i64 1, clock⟩) (clock + 1), clock, hb, ⟨fun u hu => ?_, fun u hu => ?_⟩⟩
  · have := entry_new keyed mt zint hu F.keys (kl_key hx) hnk
    exact ⟨this.2.1, this.1, bump_to hu⟩
  · have := entry_again keyed mt hu F.keys (kl_key hx) hnk s2 s1
    exact ⟨this.2.1, this.1, this.2.2 _, (bump_to hu).2, own2 _ (bump_to hu).1⟩
end Go.Proofs.YtkdlgejkgcojkaaDoor
