/- Layer 9: slices.Insert at descriptors, where there is no room. -/
import Derived.Test.YtdkchiodepdclaaRbd
namespace Go.Proofs.Ytdkchiodepdclaa
open Go.RowKit
set_option linter.unusedVariables false
section
variable {P : Program} {ops : Array Oper} {Q : Exit → Act → World → Prop} {o : Oper} {rest : List Oper} {a : Act} {w : World}
/-- 'append(s, make([]T, k)...)' where s has no room: a new row. -/
theorem wpList_growz (hgd : Region.wanted o (yielded ops a.tmps) = true) (s x : Operand) (t tn : TypeId) (ho : o.op = .call { callee := .builtin .append, args := #[s, x], argTypes := #[t, tn] })
    {E : TypeId} {z : Value} {size by_ : Nat} (ht : P.underlying t = some (.slice E)) (htn : P.underlying tn = some (.int .i64)) (hE : (P.info? E).map (fun i => (i.zero, i.size, i.bytes)) = some (some z, size, by_)) (hz : z.cells.size = size) (hsz : 0 < size)
    {B g i c : Nat} {xs : List Value} (hs : a.eval s = .slice (some ⟨g, 0, none⟩) i c) (hown : Ows w B E size (some ⟨g, 0, none⟩) i c xs)
    {q : Int} {k : Nat} (hx : a.eval x = .int .i64 q) (hq : q = (k : Int)) (h0 : 0 < k) (hroom : c < i + k) (hby : 1 ≤ by_) (hb : (i + k) * by_ ≤ 140737488355328)
    (h : ∀ (G : Nat) (zs : List Value) (w' : World), Ows w' w.heap.size E size (some ⟨w.heap.size, 0, none⟩) (i + k) G (xs ++ zs) → zs.length = k * size → w.grownBy w' none → wpList P ops Q rest (a.put o.dst (.slice (some ⟨w.heap.size, 0, none⟩) (i + k) G)) w') :
    wpList P ops Q (o :: rest) a w := by
  obtain ⟨iE, hi, hz0, hz1, hz2⟩ := info_parts hE
  subst hz1 hq
  have hmax : i + k ≤ maxLen := by
    have : (i + k) * 1 ≤ (i + k) * by_ := Nat.mul_le_mul_left _ hby
    simp only [maxLen]; omega
  have hk48 : k * by_ ≤ 281474976710656 := by
    have : k * by_ ≤ (i + k) * by_ := Nat.mul_le_mul_right _ (Nat.le_add_left _ _)
    omega
  have hm2 := hmax
  unfold maxLen at hm2
  have hold := run_firstCells_some (P := P) w.drew iE.size i ⟨g, 0, none⟩ i c xs hown.lenc (fun j v hj => by
    rw [Addr.add_lit, Nat.zero_add]; exact hown.readc j v hj)
  have hr := Lib.run_append_grow_zeros (P := P) w t tn o.type E iE z .i64 .i64 ht htn hi hz0 (some ⟨g, 0, none⟩) i c xs hold k h0 hsz hroom (by omega) (by rw [hz2]; exact hk48) (by rw [hz2]; exact growslice_fits hroom hb)
  have hge := grownCap_ge w (i + k) c E
  have hle := grownCap_le_maxLen w (i + k) c E hmax
  generalize grownCap w (i + k) c E = G at *
  refine wpList_want hgd fun K hK => ?_
  unfold Oper.wp execOp
  simp only [ho, resolve, invoke, builtin, Sem.run_bind, Sem.run_pure, Result.andThen_ok, List.map_toArray, List.map_cons, List.map_nil, hs, hx, hr]
  have hzl : ∀ m, (Builtin.zeroCells z.cells m).toList.length = m * iE.size := fun m => by rw [Array.length_toList, size_zeroCells, hz]
  refine hK _ _ (h G (Builtin.zeroCells z.cells k).toList _ ⟨?_, .inr ⟨w.heap.size, G, _, rfl, Nat.le_refl _, heap_alloc_new w.drew _, hge, hle, ?_, ?_⟩⟩ (hzl k) ⟨rfl, rfl, rfl, by simp, fun b hb _ => heap_alloc_old w.drew _ hb⟩)
  · rw [List.length_append, hown.lenc, hzl, Nat.add_mul]
  · have := hown.lenc
    have hGk : i * iE.size + k * iE.size + (G - (i + k)) * iE.size = G * iE.size := by rw [← Nat.add_mul, ← Nat.add_mul]; congr 1; omega
    simp only [Array.size_append, List.size_toArray, size_zeroCells, hz, this]
    omega
  · simp only [Array.toList_append]
    rw [List.take_left' (by rw [List.length_append, hown.lenc, hzl, Nat.add_mul])]
/-- copy(d[lo:], s): d the call's own, with the place. -/
theorem wpList_copyn (hgd : Region.wanted o (yielded ops a.tmps) = true) (d s : Operand) (t t' : TypeId) (ho : o.op = .call { callee := .builtin .copy, args := #[d, s], argTypes := #[t, t'] })
    {E : TypeId} {size : Nat} (ht : P.underlying t = some (.slice E)) (hE : (P.info? E).map (·.size) = some size)
    {B g n c lo dLen dCap : Nat} {xs : List Value} (hd : a.eval d = .slice (some ⟨g, lo, none⟩) dLen dCap) (hown : Ows w B E size (some ⟨g, 0, none⟩) n c xs)
    {k : Nat} {A' : Option Addr} {m c' : Nat} {ys : List Value} (hx : a.eval s = .slice A' m c') (hsv : Sn w k size A' m c' ys) (h1 : ∀ u ∈ ys, u.oneCell' = true) (hm : 0 < m) (hml : m ≤ dLen) (hfit : lo + m * size ≤ n * size)
    (h : ∀ w' : World, Ows w' B E size (some ⟨g, 0, none⟩) n c (xs.take lo ++ ys ++ xs.drop (lo + ys.length)) → w.grownBy w' (some g) → wpList P ops Q rest (a.put o.dst (goInt m)) w') :
    wpList P ops Q (o :: rest) a w := by
  obtain ⟨b, off, rfl, _, hc⟩ := hsv.at_ hm
  have hlen := hsv.len
  have hmin : Nat.min m dLen = m := Nat.min_eq_left hml
  have hcs := Nat.mul_le_mul_right size hown.capc.1
  have hr := run_copy_n (P := P) w t t' o.type E size g lo dLen dCap ⟨b, off, none⟩ m c' ys ht hE (by rw [hmin]; exact hlen) (fun j u hu => by rw [Addr.add_lit]; exact hc j u hu)
    (fun j hj => (hown.therec _ (by omega)).1) (fun j hj => (hown.therec _ (by omega)).2) h1
  rw [hmin] at hr
  refine wpList_want hgd fun K hK => ?_
  unfold Oper.wp execOp
  simp only [ho, resolve, invoke, builtin, Sem.run_bind, Sem.run_pure, Result.andThen_ok, List.map_toArray, List.map_cons, List.map_nil, hd, hx, hr]
  exact hK _ _ (h _ (hown.inside ys lo (by omega)) (grown_sets _ _ _ _))
/-- .. in a region that draws. -/
theorem step_copyn {K : Act → World → Prop} {Q : Exit → Act → World → Prop} {F : Prop} (hgd : o.guard = none) (d s : Operand) (t t' : TypeId) (ho : o.op = .call { callee := .builtin .copy, args := #[d, s], argTypes := #[t, t'] })
    {E : TypeId} {size : Nat} (ht : P.underlying t = some (.slice E)) (hE : (P.info? E).map (·.size) = some size)
    {B g n c lo dLen dCap : Nat} {xs : List Value} (hd : a.eval d = .slice (some ⟨g, lo, none⟩) dLen dCap) (hown : Ows w B E size (some ⟨g, 0, none⟩) n c xs)
    {k : Nat} {A' : Option Addr} {m c' : Nat} {ys : List Value} (hx : a.eval s = .slice A' m c') (hsv : Sn w k size A' m c' ys) (h1 : ∀ u ∈ ys, u.oneCell' = true) (hm : 0 < m) (hml : m ≤ dLen) (hfit : lo + m * size ≤ n * size)
    (h : ∀ w' : World, Ows w' B E size (some ⟨g, 0, none⟩) n c (xs.take lo ++ ys ++ xs.drop (lo + ys.length)) → w.grownBy w' (some g) → K (a.put o.dst (goInt m)) w') :
    if Region.wanted o (yielded ops a.tmps) = true then Oper.wp P o a w K Q else F := by
  have hw : Region.wanted o (yielded ops a.tmps) = true := by simp [Region.wanted, hgd]
  rw [if_pos hw]
  obtain ⟨b, off, rfl, _, hc⟩ := hsv.at_ hm
  have hlen := hsv.len
  have hmin : Nat.min m dLen = m := Nat.min_eq_left hml
  have hcs := Nat.mul_le_mul_right size hown.capc.1
  have hr := run_copy_n (P := P) w t t' o.type E size g lo dLen dCap ⟨b, off, none⟩ m c' ys ht hE (by rw [hmin]; exact hlen) (fun j u hu => by rw [Addr.add_lit]; exact hc j u hu)
    (fun j hj => (hown.therec _ (by omega)).1) (fun j hj => (hown.therec _ (by omega)).2) h1
  rw [hmin] at hr
  unfold Oper.wp execOp
  simp only [ho, resolve, invoke, builtin, Sem.run_bind, Sem.run_pure, Result.andThen_ok, List.map_toArray, List.map_cons, List.map_nil, hd, hx, hr]
  exact h _ (hown.inside ys lo (by omega)) (grown_sets _ _ _ _)
end
theorem grown_none {w w' : World} {g : Nat} (h : w.grownBy w' none) : w.grownBy w' (some g) := ⟨h.os, h.tape, h.output, h.size, fun k hk _ => h.block k hk (by simp)⟩
/-- A new block only, then writes into it: what was there stays. -/
theorem grown_new {w w1 w2 : World} {g : Nat} (h1 : w.grownBy w1 none) (h2 : w1.grownBy w2 (some g)) (hg : w.heap.size ≤ g) : w.grownBy w2 none := ⟨h2.os.trans h1.os, h2.tape.trans h1.tape, h2.output.trans h1.output, Nat.le_trans h1.size h2.size, fun k hk _ => (h2.block k (Nat.lt_of_lt_of_le hk h1.size) (fun e => by cases e; omega)).trans (h1.block k hk (by simp))⟩
theorem ins_cells {xs : List (Dsc × Hd)} {x : Dsc × Hd} {k n : Nat} (hn : xs.length = n) (hk : k < n) (zs : List Value) (hz : zs.length = (n + 1 - k) * 4) :
    ((dcs (xs.take k) ++ zs).take (k * 4) ++ dcl x ++ (dcs (xs.take k) ++ zs).drop (k * 4 + (dcl x).length)).take ((k + 1) * 4) ++ dcs (xs.drop k) ++ ((dcs (xs.take k) ++ zs).take (k * 4) ++ dcl x ++ (dcs (xs.take k) ++ zs).drop (k * 4 + (dcl x).length)).drop ((k + 1) * 4 + (dcs (xs.drop k)).length) = dcs (xs.take k ++ x :: xs.drop k) := by
  have l1 : (dcs (xs.take k)).length = k * 4 := by rw [dcs_length, List.length_take]; omega
  have l2 : (dcl x).length = 4 := rfl
  have l3 : (dcs (xs.drop k)).length = (n - k) * 4 := by rw [dcs_length, List.length_drop, hn]
  rw [List.take_left' l1]
  have e1 : (dcs (xs.take k) ++ dcl x ++ (dcs (xs.take k) ++ zs).drop (k * 4 + (dcl x).length)).take ((k + 1) * 4) = dcs (xs.take k) ++ dcl x := List.take_left' (by rw [List.length_append, l1, l2]; omega)
  have e2 : (dcs (xs.take k) ++ dcl x ++ (dcs (xs.take k) ++ zs).drop (k * 4 + (dcl x).length)).drop ((k + 1) * 4 + (dcs (xs.drop k)).length) = [] := List.drop_of_length_le (by
    simp only [List.length_append, List.length_drop, l1, l2, l3, hz]; omega)
  rw [e1, e2, List.append_nil, dcs_append, dcs_cons, List.append_assoc]
theorem run_from4 (b n c lo : Nat) (l : Int) (hl : l = (lo : Int)) (hn : lo ≤ n) (hc : ¬ c = lo) (w' : World) : (Instr.slice 23 (.slice (some ⟨b, 0, none⟩) n c) (some (.int .i64 l)) none none).run Try.prog w' = .ok (.slice (some ⟨b, lo * 4, none⟩) (n - lo) (c - lo)) w' := by
  subst hl
  rw [run_slice_l (P := Try.prog) w' 23 (some ⟨b, 0, none⟩) n c Try.underlying23 .i64 (lo : Int) (by omega) (by omega), show Try.prog.elem 23 = 27 from rfl, Try.sizeOf27 w']
  simp only [Result.andThen, sliced, Option.map, Addr.add_lit, Nat.zero_add, Int.toNat_natCast, hc, if_false]
set_option maxHeartbeats 4000000 in
set_option maxRecDepth 100000 in
theorem insert_any (g n k : Nat) (xs : List (Dsc × Hd)) (x : Dsc × Hd) (A : Option Addr) (w : World) (B : Nat) (h : Ows w B 27 4 (some ⟨g, 0, none⟩) n n (dcs xs)) (hk : k ≤ n) (hn : n ≤ 1000000) (hv : Sn w w.heap.size 4 A 1 1 (dcl x)) (hB : B ≤ w.heap.size) :
    Calls Try.prog 41 #[.slice (some ⟨g, 0, none⟩) n n, .int .i64 (k : Int), .slice A 1 1] w fun e w' => ∃ (A2 : Option Addr) (c2 : Nat), e = .returned (.slice A2 (n + 1) c2) ∧ Ows w' B 27 4 A2 (n + 1) c2 (dcs (xs.take k ++ x :: xs.drop k)) ∧ w.grownBy w' (some g) := by
  have hxl : xs.length = n := by have := h.lenc; rw [dcs_length] at this; omega
  obtain ⟨X1, hS1⟩ : ∃ X, ∀ w' : World, (Instr.slice 23 (.slice (some ⟨g, 0, none⟩) n n) (some (.int .i64 (k : Int))) none none).run Try.prog w' = .ok X w' := ⟨_, fun w' => by
    rw [run_slice_l (P := Try.prog) w' 23 (some ⟨g, 0, none⟩) n n Try.underlying23 .i64 (k : Int) (by omega) (by omega), show Try.prog.elem 23 = 27 from rfl, Try.sizeOf27 w']
    rfl⟩
  by_cases hkn : k = n
  · subst hkn
    have HO := Lib.hid h
    have HV := Lib.hid hv
    have HL := Lib.hid hxl
    clear h hv hxl
    go_enter Try.func41, Try.ntmps41
    go_wp2_with (at_builtin; go_must (refine wpList_appsx rfl _ _ 23 rfl Try.underlying23 infoD rfl (by decide) rfl HO.out rfl HV.out (dcl_one x) (by omega) (by decide) hB ?_); intro A1 c1 w1 o1 g1)
    have HE : Hid (dcs xs ++ dcl x = dcs (xs.take k ++ x :: xs.drop k)) := by
      unfold Hid
      rw [List.take_of_length_le (by rw [HL.out]; exact Nat.le_refl _), List.drop_of_length_le (by rw [HL.out]; exact Nat.le_refl _), dcs_append, dcs_cons, dcs_nil, List.append_nil]
    rw [HE.out] at o1
    go_ret
    exact ⟨A1, c1, rfl, o1, g1⟩
  · have hkl : k < n := by omega
    have hne : ¬ ((k : Int) = (n : Int)) := by omega
    have hneb : ((k : Int) == (n : Int)) = false := by rw [beq_eq_false_iff_ne]; exact hne
    have hgt : (n : Int) < (n : Int) + 1 := by omega
    have hup := fun w' : World => run_upto (P := Try.prog) (w := w') (A := some ⟨g, 0, none⟩) (n := n) (c := n) (hi := k) 23 27 Try.underlying23 rfl 4 (fun w' => Try.sizeOf27 w') .i64 (k : Int) rfl (by omega)
    have hnk : (n : Int) + 1 - (k : Int) = ((n + 1 - k : Nat) : Int) := by omega
    have hik : k + (n + 1 - k) = n + 1 := by omega
    have hsz : (Try.prog.info? 27).map (·.size) = some 4 := by
      obtain ⟨i0, hi, h0, h1, h2⟩ := info_parts infoD
      rw [hi]; simp [h1]
    have HSZ := Lib.hid hsz
    have HO := Lib.hid h
    have HU : Hid (Ows w B 27 4 (some ⟨g, 0, none⟩) k n (dcs (xs.take k))) := by have := h.shrink (m := k) (by omega); rwa [dcs_take] at this
    have HV := Lib.hid hv
    have HL := Lib.hid hxl
    have mixed : Try.prog.follows .mixedOrders = true := by kernel_rfl
    clear h hv hxl hsz
    go_enter Try.func41, Try.ntmps41
    go_upto_region 9 with fail
    clear hS1
    go_upto_region 10 with (at_builtin; go_must (refine wpList_growz rfl _ _ 23 3 rfl Try.underlying23 Try.underlying3 infoD rfl (by decide) rfl HU.out rfl rfl (by omega) (by omega) (by decide) (by omega) ?_); intro G zs w1 o1 hz g1; rw [hik] at o1 ⊢)
    obtain ⟨N, hN⟩ : ∃ N, w.heap.size = N := ⟨_, rfl⟩
    have B1 : Hid (Below w.heap.size w w1) := (Below.refl w.heap.size w).grown g1 (Nat.le_refl _) (by simp)
    have LN : Hid (w.heap.size ≤ N) := by unfold Hid; omega
    have LB : Hid (B ≤ N) := by unfold Hid; omega
    rw [hN] at o1 ⊢
    have O1 := Lib.hid o1
    have G1 := Lib.hid g1
    have HV1 := Lib.hid (HV.out.next B1.out)
    obtain ⟨hG, hG6⟩ := o1.capc
    unfold maxLen at hG6
    have hs2 := run_from4 N (n + 1) G k (k : Int) rfl (by omega) (by omega)
    have hs3 := run_from4 N (n + 1) G (k + 1) ((k : Int) + 1) (by omega) (by omega) (by omega)
    have hs4 := run_from4 g n n k (k : Int) rfl (by omega) (by omega)
    have hw1 : IntKind.i64.wrap ((k : Int) + 1) = (k : Int) + 1 := by rw [IntKind.wrap_i64]; omega
    have hb1 : (0 : Int) ≤ (k : Int) + 1 := by omega
    have hb3 : (k : Int) ≤ (n : Int) := by omega
    have htn : ((k : Int) + 1).toNat = k + 1 := by omega
    have hGk : ¬ (G = k + 1) := by omega
    have hnk2 : ¬ (n = k) := by omega
    clear o1 g1 HV hN hup HU
    go_upto_region 11 with (refine wpList_copyn rfl (.tmp 43) (.tmp 44) 23 23 rfl Try.underlying23 HSZ.out rfl O1.out rfl HV1.out (dcl_one x) (by decide) (by omega) (by omega) ?_; intro w2 o2 g2)
    have B2 := Lib.hid (belowG B1.out g2 B1.out.size LN.out)
    have G2 := Lib.hid (grown_new G1.out g2 LN.out)
    have O2 := Lib.hid o2
    have HS : Hid (Sn w2 w2.heap.size 4 (some ⟨g, k * 4, none⟩) (n - k) (n - k) (dcs (xs.drop k))) := by
      have := ((Sn.of_own HO.out).next B2.out).from_ (lo := k) (by omega)
      rw [if_neg (by omega), dcs_drop, Option.map, Addr.add_lit, Nat.zero_add] at this
      exact this
    clear o2 g2 O1 G1 HV1 B1 HO
    go_region_law_o (refine step_copyn rfl (.tmp 50) (.tmp 53) 23 23 rfl Try.underlying23 HSZ.out (g := N) (n := n + 1) (c := G) (lo := (k + 1) * 4) (dLen := n + 1 - (k + 1)) (dCap := G - (k + 1)) (by simp [Act.eval, Act.put]) (O2.out.same fun _ _ => rfl) (A' := some ⟨g, k * 4, none⟩) (m := n - k) (c' := n - k) (by simp [Act.eval, Act.put]) (HS.out.keep fun _ _ => rfl) (dcs_one _) (by omega) (by omega) (by omega) ?_; intro w3 o3 g3)
    have g3' : w2.grownBy w3 (some N) := ⟨g3.os, g3.tape, g3.output, g3.size, g3.block⟩
    have O3 := Lib.hid (o3.mono LB.out)
    have G3 := Lib.hid (grown_none (g := g) (grown_new G2.out g3' LN.out))
    clear o3 g3 g3' O2 HS
    have HC := Lib.hid (ins_cells (x := x) HL.out hkl zs hz)
    rw [HC.out] at O3
    go_wp2
    go_ret
    exact ⟨_, G, rfl, O3.out, G3.out⟩
end Go.Proofs.Ytdkchiodepdclaa
