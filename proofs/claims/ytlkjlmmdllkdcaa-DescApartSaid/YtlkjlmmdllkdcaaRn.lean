/- Layer 9: DescNewer: its closure. -/
import Derived.Test.YtlkjlmmdllkdcaaRag
namespace Go.Proofs.Ytlkjlmmdllkdcaa
open Go.RowKit
set_option linter.unusedVariables false
theorem put_mem {ds : List Dsc} {d e : Dsc} {self room : Int} (hr : RightD ds self room) (h : e ∈ putD ds d self room) : e = d ∨ e ∈ ds := by
  cases hf : refuseD ds d self room with
  | true => rw [put_yes hf] at h; exact .inr h
  | false => rw [put_no hr hf] at h; rcases insL_mem.1 h with h | h; exact .inl h; exact .inr h.1
theorem fit_put {n m : Nat} {zs os : List (Dsc × Hd)} {d : Dsc} {self room : Int} (h : Fit n zs) (hr : RightD (zs.map (·.1)) self room) (hd : Fit1 d) (h1 : room ≤ 1000) (e : os.map (·.1) = putD (zs.map (·.1)) d self room) (hm : m = os.length) : Fit m os := by
  refine fit_of e ?_ fun x hx => ?_
  · have h2 := (right_put hr d).2.2.2
    rw [← e, List.length_map] at h2
    omega
  · rcases put_mem hr hx with rfl | hx
    · exact hd
    · obtain ⟨z, hz, rfl⟩ := List.mem_map.1 hx
      exact h.all z hz
theorem new1_any (HD : DescOK) (b9 b7 : Nat) (Av : Option Addr) (nv cv : Nat) (zs : List (Dsc × Hd)) (x y : Dsc) (hx hy : Hd) (self : Int) (w : World) (h9 : w.cell? ⟨b9, 0, none⟩ = some (.slice Av nv cv)) (h7 : w.cell? ⟨b7, 0, none⟩ = some (.int .u8 self)) (hb9 : b9 < w.heap.size) (hb7 : b7 < w.heap.size)
    (hz : Sds w Av nv cv zs) (hf : Fit nv zs) (hr : RightD (zs.map (·.1)) self 30) (hs : byt self) (fx : Fl w (x, hx)) (fy : Fl w (y, hy)) (h1x : Fit1 x) (h1y : Fit1 y) :
    Calls Try.prog 29 #[(.agg #[.int .u8 x.1, .int .u16 x.2.1, .int .u8 x.2.2.1, .slice hx.1 hx.2.1 hx.2.2]), (.agg #[.int .u8 y.1, .int .u16 y.2.1, .int .u8 y.2.2.1, .slice hy.1 hy.2.1 hy.2.2]), .pointer (some ⟨b9, 0, none⟩), .pointer (some ⟨b7, 0, none⟩)] w (GaveDo (putD (putD (zs.map (·.1)) x self 30) y self 30) w) := by
  obtain ⟨KX, KY, B⟩ := dboxes2 w (x, hx) (y, hy)
  have HDD := Lib.hid HD
  have P9 := Lib.hid ((B.out.cell (p := ⟨b9, 0, none⟩) hb9).trans h9)
  have P7 := Lib.hid ((B.out.cell (p := ⟨b7, 0, none⟩) hb7).trans h7)
  have SZ := Lib.hid (hz.next B.out)
  have FX : Hid (Fl _ (x, hx)) := Sn.next fx B.out
  have FY : Hid (Fl _ (y, hy)) := Sn.next fy B.out
  have HF := Lib.hid hf
  have HR := Lib.hid hr
  have HS := Lib.hid hs
  have H1X := Lib.hid h1x
  have H1Y := Lib.hid h1y
  clear HD h9 h7 hz hf hr hs fx fy h1x h1y
  go_enter Try.func29, Try.ntmps29
  go_upto_region 1 with fail
  dsimp only at KX KY B SZ FX FY P9 P7
  generalize (w.alloc (.cells #[.int .u8 x.1, .int .u16 x.2.1, .int .u8 x.2.2.1, .slice hx.1 hx.2.1 hx.2.2] 27)).alloc (.cells #[.int .u8 y.1, .int .u16 y.2.1, .int .u8 y.2.2.1, .slice hy.1 hy.2.1 hy.2.2] 27) = w1 at *
  have hw1 : b9 < w1.heap.size := Nat.lt_of_lt_of_le hb9 B.out.size
  have hw2 : b7 < w1.heap.size := Nat.lt_of_lt_of_le hb7 B.out.size
  obtain ⟨gx, hgx⟩ : ∃ g, w.heap.size = g := ⟨_, rfl⟩
  obtain ⟨gy, hgy⟩ : ∃ g, w.heap.size + 1 = g := ⟨_, rfl⟩
  rw [hgy] at KY ⊢
  rw [hgx] at KX ⊢
  clear hgx hgy hb9 hb7
  obtain ⟨p0, p1, p2, p3⟩ := KX.out.cells
  have q9 := P9.out
  have q7 := P7.out
  go_wp2_with fail
  refine (HDD.out.put Av nv cv zs x hx self 30 w1 SZ.out HF.out FX.out H1X.out HS.out (by decide) HR.out).mono ?_
  rintro e w2 ⟨A1, n1, c1, os, rfl, he, d1, b2⟩
  have q7b := (b2.cell (p := ⟨b7, 0, none⟩) hw2).trans q7
  clear p0 p1 p2 p3 q9 q7
  have KY2 := Lib.hid (KY.out.next b2)
  have FY2 : Hid (Fl w2 (y, hy)) := Sn.next FY.out b2
  have B2 := Lib.hid (thn B.out b2)
  have HF1 := Lib.hid (fit_put HF.out HR.out H1X.out (by decide) he d1.len)
  have HR1 : Hid (RightD (os.map (·.1)) self 30) := by unfold Hid; rw [he]; exact right_put HR.out x
  have D1 := Lib.hid d1.sds
  have HE := Lib.hid he
  clear he d1 b2 KX KY FX FY SZ B
  obtain ⟨p0, p1, p2, p3⟩ := KY2.out.cells
  go_wp2_with fail
  refine (HDD.out.put A1 n1 c1 os y hy self 30 w2 D1.out HF1.out FY2.out H1Y.out HS.out (by decide) HR1.out).mono ?_
  rintro e w3 ⟨A2, n2, c2, os2, rfl, he, d2, b3⟩
  have D2 := Lib.hid (d2.mono B2.out.size)
  have B3 := Lib.hid (thn B2.out b3)
  have HE2 : Hid (os2.map (·.1) = putD (putD (zs.map (·.1)) x self 30) y self 30) := by unfold Hid; rw [he, HE.out]
  clear he d2 b3 p0 p1 p2 p3
  go_wp2
  go_ret
  exact ⟨A2, n2, c2, os2, rfl, HE2.out, D2.out, B3.out⟩
end Go.Proofs.Ytlkjlmmdllkdcaa
