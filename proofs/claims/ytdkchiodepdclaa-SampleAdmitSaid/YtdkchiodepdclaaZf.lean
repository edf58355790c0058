/- Layer 11: sample.Admit: its closure, and itself. -/
import Derived.Test.YtdkchiodepdclaaZa
import Derived.Test.YtdkchiodepdclaaRbf
import Derived.Shelf.Abstract
import Derived.Deep.Cut
namespace Go.Proofs.Ytdkchiodepdclaa
open Go.RowKit
set_option linter.unusedVariables false
/-- A number of one byte in a block of its own. -/
def SBlk (w : World) (g : Nat) (v : Int) : Prop := w.heap[g]? = some (.cells #[.int .u8 v] 5 (0, 0))
section
variable {w w' : World} {g b : Nat} {v : Int}
theorem SBlk.new (w : World) (v : Int) : SBlk (w.alloc (.cells #[.int .u8 v] 5)) w.heap.size v := heap_alloc_new w _
theorem SBlk.lt (k : SBlk w g v) : g < w.heap.size := (Array.getElem?_eq_some_iff.1 k).1
theorem SBlk.next (k : SBlk w g v) (hb : Below w.heap.size w w') : SBlk w' g v := (hb.block g k.lt).trans k
theorem SBlk.cell (k : SBlk w g v) : w.cell? ⟨g, 0, none⟩ = some (.int .u8 v) := by unfold SBlk at k; simp [World.cell?, k]
end
theorem adbox (w : World) (d : Dsc) (hd : Hd) (self : Int) : Hid (DBlk ((w.alloc (.cells #[.int .u8 d.1, .int .u16 d.2.1, .int .u8 d.2.2.1, .slice hd.1 hd.2.1 hd.2.2] 27)).alloc (.cells #[.int .u8 self] 5)) w.heap.size d hd) ∧ Hid (SBlk ((w.alloc (.cells #[.int .u8 d.1, .int .u16 d.2.1, .int .u8 d.2.2.1, .slice hd.1 hd.2.1 hd.2.2] 27)).alloc (.cells #[.int .u8 self] 5)) (w.heap.size + 1) self) ∧ Hid (Below w.heap.size w ((w.alloc (.cells #[.int .u8 d.1, .int .u16 d.2.1, .int .u8 d.2.2.1, .slice hd.1 hd.2.1 hd.2.2] 27)).alloc (.cells #[.int .u8 self] 5))) := by
  refine ⟨(DBlk.new w d hd).next (below_lit _ _), ?_, thn (below_lit _ _) (below_lit _ _)⟩
  have := SBlk.new (w.alloc (.cells #[.int .u8 d.1, .int .u16 d.2.1, .int .u8 d.2.2.1, .slice hd.1 hd.2.1 hd.2.2] 27)) self; unfold Hid; simpa using this
set_option maxHeartbeats 2000000 in
theorem adm1_any (A : Option Addr) (n c : Nat) (xs : List (Dsc × Hd)) (d : Dsc) (hd : Hd) (self room : Int) (g r : Nat) (w : World) (h : Sds w A n c xs) (hf : Fit n xs) (hF : Fl w (d, hd)) (hd1 : Fit1 d) (hr : RightD (xs.map (·.1)) self room) (kd : DBlk w g d hd) (ks : SBlk w r self) :
    Calls Try.prog 30 #[.slice A n c, .int .i64 room, .pointer (some ⟨g, 0, none⟩), .pointer (some ⟨r, 0, none⟩)] w (GavePo (putD (xs.map (·.1)) d self room) (!refuseD (xs.map (·.1)) d self room) w) := by
  have HC := Lib.hid (put_any A n c xs d hd self room w h hf hF hd1 hr)
  obtain ⟨p0, p1, p2, p3⟩ := kd.cells
  have q0 := ks.cell
  obtain ⟨b, hb⟩ : ∃ b, (!refuseD (xs.map (·.1)) d self room) = b := ⟨_, rfl⟩
  rw [hb] at HC ⊢
  clear h hf hF hd1 hr kd ks hb
  go_enter Try.func30, Try.ntmps30
  go_wp2_with fail
  refine HC.out.mono ?_
  rintro e w2 ⟨A2, n2, c2, ls, rfl, hl, d2, b2⟩
  have HLS := Lib.hid hl
  have D2 := Lib.hid d2
  have B2 := Lib.hid b2
  clear hl d2 b2 HC p0 p1 p2 p3 q0
  go_wp2
  exact bodyPost_ret (v := .tuple #[.slice A2 n2 c2, .bool b]) (by simp [results, Try.results30, go_sem]) rfl ⟨A2, n2, c2, ls, rfl, HLS.out, D2.out, B2.out⟩
set_option maxRecDepth 100000 in
set_option maxHeartbeats 8000000 in
theorem admit_any (A : Option Addr) (n c : Nat) (xs : List (Dsc × Hd)) (d : Dsc) (hd : Hd) (self room : Int) (w : World) (h : Sds w A n c xs) (hf : Fit n xs) (hF : Fl w (d, hd)) (hd1 : Fit1 d) (hr : RightD (xs.map (·.1)) self room) :
    Calls Try.prog 20 #[.slice A n c, (.agg #[.int .u8 d.1, .int .u16 d.2.1, .int .u8 d.2.2.1, .slice hd.1 hd.2.1 hd.2.2]), .int .u8 self, .int .i64 room] w (GaveDo (admitD (xs.map (·.1)) d self room) w) := by
  have HL : Hid (n = xs.length) := h.len
  obtain ⟨KD, KS, B⟩ := adbox w d hd self
  have S := Lib.hid (h.next B.out)
  have FD : Hid (Fl _ (d, hd)) := Sn.next hF B.out
  have HF := Lib.hid hf
  have HD1 := Lib.hid hd1
  have HR := Lib.hid hr
  have hcap := h.cap
  have hmx := h.max
  unfold maxLen at hmx
  obtain ⟨rf, HRF⟩ : ∃ rf, Hid (refuseD (xs.map (·.1)) d self room = rf) := ⟨_, rfl⟩
  obtain ⟨o, HO⟩ : ∃ o, Hid (oldI (xs.map (·.1)) = o) := ⟨_, rfl⟩
  obtain ⟨f, HFI⟩ : ∃ f, Hid (findI (xs.map (·.1)) d.1 = f) := ⟨_, rfl⟩
  have eg : ∀ args w, (callFunc 30 args).run Try.prog w = .ok (.enter 30 args) w := enters_of Try.func30 (by kernel_rfl) rfl
  clear h hf hF hd1 hr
  go_enter Try.func20, Try.ntmps20
  go_upto_region 1 with fail
  generalize (w.alloc _).alloc _ = w1 at *
  obtain ⟨g, hg⟩ : ∃ g, w.heap.size = g := ⟨_, rfl⟩
  obtain ⟨r, hr⟩ : ∃ r, w.heap.size + 1 = r := ⟨_, rfl⟩
  rw [hr] at KS ⊢
  rw [hg] at KD ⊢
  clear hg hr
  go_wp2_with fail
  have hc := adm1_any A n c xs d hd self room g r w1 S.out HF.out FD.out HD1.out HR.out KD.out KS.out
  rw [HRF.out] at hc
  refine hc.mono ?_
  clear hc
  rintro e w2 ⟨A2, n2, c2, ls, rfl, hl, d2, b2⟩
  have HLS := Lib.hid hl
  have D2 := Lib.hid (d2.mono B.out.size)
  replace B := Lib.hid (thn B.out b2)
  replace KD := Lib.hid (KD.out.next b2)
  replace KS := Lib.hid (KS.out.next b2)
  replace S := Lib.hid (S.out.next b2)
  replace FD : Hid (Fl _ (d, hd)) := Sn.next FD.out b2
  clear hl d2 b2
  go_wp2_with fail
  have hc := oldest_any A n c xs w2 S.out
  rw [HO.out] at hc
  refine hc.mono ?_
  clear hc
  rintro e w3 ⟨rfl, b2⟩
  replace D2 := Lib.hid (D2.out.next b2)
  replace B := Lib.hid (thn B.out b2)
  replace KD := Lib.hid (KD.out.next b2)
  replace KS := Lib.hid (KS.out.next b2)
  replace S := Lib.hid (S.out.next b2)
  replace FD : Hid (Fl _ (d, hd)) := Sn.next FD.out b2
  clear b2
  cases rf
  · skip
    go_wp2
    go_ret
    exact ⟨A2, n2, c2, ls, rfl, by rw [HLS.out, admit_put HRF.out], D2.out, B.out⟩
  · skip
    rw [put_yes HRF.out] at HLS
    by_cases hz : n = 0
    · have hnil : xs.map (·.1) = [] := by rw [List.eq_nil_of_length_eq_zero (HL.out.symm.trans hz)]; rfl
      have ho : o < 0 := by rw [← HO.out, hnil]; decide
      have HE : Hid (ls.map (·.1) = admitD (xs.map (·.1)) d self room) := by unfold Hid; rw [HLS.out, admit_not HRF.out (.inr (.inr (.inr hnil)))]
      clear hz hnil
      go_wp2
      go_ret
      exact ⟨A2, n2, c2, ls, rfl, HE.out, D2.out, B.out⟩
    · have hne : xs.map (·.1) ≠ [] := fun e => hz (by rw [HL.out, ← List.length_map (f := (·.1)), e]; rfl)
      obtain ⟨k, e0, hk, hek, hon⟩ := old_at hne
      obtain rfl : o = (k : Int) := HO.out.symm.trans hk
      have hkn : k < n := by have := (List.getElem?_eq_some_iff.1 hek).1; rw [List.length_map] at this; rw [HL.out]; exact this
      have k0 : (0 : Int) ≤ (k : Int) := by omega
      have k1 : (k : Int) < (n : Int) := by omega
      have k2 : ¬ (k : Int) < 0 := by omega
      have HEK := Lib.hid hek
      have HON := Lib.hid hon
      have HNE := Lib.hid hne
      clear hz hk hek hon hne
      obtain ⟨p0, p1, p2, p3⟩ := KD.out.cells
      go_wp2_with fail
      have hc := find_any A n c xs d.1 w3 S.out HF.out ⟨self, room, HR.out⟩
      rw [HFI.out] at hc
      refine hc.mono ?_
      clear hc p0 p1 p2 p3
      rintro e w4 ⟨rfl, b2⟩
      replace D2 := Lib.hid (D2.out.next b2)
      replace B := Lib.hid (thn B.out b2)
      replace KD := Lib.hid (KD.out.next b2)
      replace KS := Lib.hid (KS.out.next b2)
      replace S := Lib.hid (S.out.next b2)
      replace FD : Hid (Fl _ (d, hd)) := Sn.next FD.out b2
      clear b2
      by_cases hf0 : 0 ≤ f
      · have HE : Hid (ls.map (·.1) = admitD (xs.map (·.1)) d self room) := by unfold Hid; rw [HLS.out, admit_not HRF.out (.inr (.inr (.inl (by unfold hasN; rw [HFI.out]; exact decide_eq_true hf0))))]
        go_wp2
        go_ret
        exact ⟨A2, n2, c2, ls, rfl, HE.out, D2.out, B.out⟩
      · have HNN : Hid (hasN (xs.map (·.1)) d.1 = false) := by unfold Hid hasN; rw [HFI.out]; exact decide_eq_false hf0
        have hf1 : decide (0 ≤ f) = false := decide_eq_false hf0
        obtain ⟨b, off, x, hA, hb, hx, hxm, c0, c1, c2', c3'⟩ := S.out.at_ hkn
        subst hA
        have hxe : x.1 = e0 := by have h1 := HEK.out; rw [List.getElem?_map, hx] at h1; exact Option.some.inj h1
        have HXE : Hid (oldN (xs.map (·.1)) = x.1.1) := by rw [hxe]; exact HON.out
        have HXN : Hid (hasN (xs.map (·.1)) x.1.1 = true) := hasN_iff.2 ⟨x.1, List.mem_map.2 ⟨x, hxm, rfl⟩, rfl⟩
        clear hb hx hxm hxe
        go_wp2_with fail
        refine (drop_any _ n c xs x.1.1 w4 S.out HF.out ⟨self, room, HR.out⟩).mono ?_
        clear c0 c1 c2' c3'
        rintro e w5 ⟨A3, n3, c3, zs, rfl, hz, d3, b2⟩
        replace D2 := Lib.hid (D2.out.next b2)
        replace B := Lib.hid (thn B.out b2)
        replace KD := Lib.hid (KD.out.next b2)
        replace KS := Lib.hid (KS.out.next b2)
        replace FD : Hid (Fl _ (d, hd)) := Sn.next FD.out b2
        have S3 := Lib.hid d3.sds
        have HZ := Lib.hid hz
        have HN : Hid ((n : Int) = ((xs.map (·.1)).length : Int)) := by unfold Hid; rw [List.length_map, ← HL.out]
        have HR3 : Hid (RightD (zs.map (·.1)) self (n : Int)) := by unfold Hid; rw [HZ.out, HN.out]; exact right_drop (right_len HR.out) _
        have HF3 : Hid (Fit n3 zs) := fit_of HZ.out (by have h1 := d3.len; have h2 := congrArg List.length hz; rw [List.length_map] at h2; have h3 := drop_le (ds := xs.map (·.1)) x.1.1; rw [List.length_map, ← HL.out] at h3; have := HF.out.len; omega) fun e he => by
          obtain ⟨y, hy, rfl⟩ := List.mem_map.1 (dropD_mem.1 he).1; exact HF.out.all y hy
        clear hz d3 b2
        obtain ⟨r2, HR2⟩ : ∃ r2, Hid (refuseD (zs.map (·.1)) d self (n : Int) = r2) := ⟨_, rfl⟩
        go_wp2_with fail
        have hc := adm1_any A3 n3 c3 zs d hd self (n : Int) g r w5 S3.out HF3.out FD.out HD1.out HR3.out KD.out KS.out
        rw [HR2.out] at hc
        refine hc.mono ?_
        clear hc
        rintro e w6 ⟨A4, n4, c4, ts, rfl, ht, d4, b2⟩
        replace D2 := Lib.hid (D2.out.next b2)
        have D4 := Lib.hid (d4.mono B.out.size)
        replace B := Lib.hid (thn B.out b2)
        have HT := Lib.hid ht
        clear ht d4 b2 KD KS FD S3
        by_cases hbad : d.1 = self ∨ d.2.1 = 0
        · have HE : Hid (ls.map (·.1) = admitD (xs.map (·.1)) d self room) := by unfold Hid; rw [HLS.out, admit_not HRF.out (hbad.elim .inl (fun q => .inr (.inl q)))]
          obtain rfl : r2 = true := HR2.out.symm.trans (refuse_out hbad)
          clear hbad
          go_wp2
          go_ret
          exact ⟨A2, n2, c2, ls, rfl, HE.out, D2.out, B.out⟩
        · have hg1 : d.1 ≠ self := fun q => hbad (.inl q)
          have hg2 : d.2.1 ≠ 0 := fun q => hbad (.inr q)
          obtain ⟨a1, a2, a3⟩ := admit_swap HR.out HXN.out hg1 hg2 HNN.out
          have HE : Hid (ts.map (·.1) = admitD (xs.map (·.1)) d self room) := by
            unfold Hid
            rw [HT.out, HZ.out, HN.out, a3, admit_sw HRF.out (fun q => by
              rcases q with q | q | q | q
              · exact hg1 q
              · exact hg2 q
              · rw [HNN.out] at q; cases q
              · exact HNE.out q), HXE.out]
          obtain rfl : r2 = false := by rw [← HR2.out, HZ.out, HN.out]; exact a2
          clear hbad hg1 hg2 a1 a2 a3
          go_wp2
          go_ret
          exact ⟨A4, n4, c4, ts, rfl, HE.out, D4.out, B.out⟩
end Go.Proofs.Ytdkchiodepdclaa
