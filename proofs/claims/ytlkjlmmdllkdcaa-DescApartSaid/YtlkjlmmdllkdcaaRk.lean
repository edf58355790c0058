/- Layer 9: what the laws ask of package desc (DescOK: the contracts, to be proved of the code that has landed). -/
import Derived.Test.YtlkjlmmdllkdcaaRo
import Derived.Test.YtlkjlmmdllkdcaaRv
namespace Go.Proofs.Ytlkjlmmdllkdcaa
open Go.RowKit
set_option linter.unusedVariables false
/-- A list that the laws hand in: of bounded length and size. -/
structure Fit (n : Nat) (xs : List (Dsc × Hd)) : Prop where
  len : n ≤ 1000
  all : ∀ x ∈ xs, dscR x.1 ∧ x.1.2.2.2.length ≤ 1000
def Fit1 (d : Dsc) : Prop := dscR d ∧ d.2.2.2.length ≤ 1000
def isView (ds : List Dsc) : Prop := ∃ self room, RightD ds self room
def GavePo (ds : List Dsc) (b : Bool) (w : World) (e : Ending) (w' : World) : Prop := ∃ (A : Option Addr) (n c : Nat) (xs : List (Dsc × Hd)), e = .returned (.tuple #[.slice A n c, .bool b]) ∧ xs.map (·.1) = ds ∧ Dow w' w.heap.size A n c xs ∧ Below w.heap.size w w'
abbrev byt (v : Int) : Prop := 0 ≤ v ∧ v ≤ 255
structure DescOK : Prop where
  same : ∀ (x y : Dsc × Hd) (w : World), Fl w x → Fl w y → Fit1 x.1 → Fit1 y.1 → Calls Try.prog 17 #[(.agg #[.int .u8 x.1.1, .int .u16 x.1.2.1, .int .u8 x.1.2.2.1, .slice x.2.1 x.2.2.1 x.2.2.2]), (.agg #[.int .u8 y.1.1, .int .u16 y.1.2.1, .int .u8 y.1.2.2.1, .slice y.2.1 y.2.2.1 y.2.2.2])] w fun e w' => e = .returned (.bool (decide (x.1 = y.1))) ∧ Below w.heap.size w w'
  copy : ∀ (A : Option Addr) (n c : Nat) (xs : List (Dsc × Hd)) (w : World), Sds w A n c xs → Fit n xs → Calls Try.prog 13 #[.slice A n c] w (GaveDo (xs.map (·.1)) w)
  right : ∀ (A : Option Addr) (n c : Nat) (xs : List (Dsc × Hd)) (self room : Int) (w : World), Sds w A n c xs → Fit n xs → byt self → -1 ≤ room → room ≤ 1000 → Calls Try.prog 10 #[.slice A n c, .int .u8 self, .int .i64 room] w fun e w' => e = .returned (.bool (decide (RightD (xs.map (·.1)) self room))) ∧ Below w.heap.size w w'
  find : ∀ (A : Option Addr) (n c : Nat) (xs : List (Dsc × Hd)) (node : Int) (w : World), Sds w A n c xs → Fit n xs → isView (xs.map (·.1)) → byt node → Calls Try.prog 21 #[.slice A n c, .int .u8 node] w fun e w' => e = .returned (.int .i64 (findI (xs.map (·.1)) node)) ∧ Below w.heap.size w w'
  put : ∀ (A : Option Addr) (n c : Nat) (xs : List (Dsc × Hd)) (d : Dsc) (hd : Hd) (self room : Int) (w : World), Sds w A n c xs → Fit n xs → Fl w (d, hd) → Fit1 d → byt self → room ≤ 1000 → RightD (xs.map (·.1)) self room → Calls Try.prog 19 #[.slice A n c, (.agg #[.int .u8 d.1, .int .u16 d.2.1, .int .u8 d.2.2.1, .slice hd.1 hd.2.1 hd.2.2]), .int .u8 self, .int .i64 room] w (GavePo (putD (xs.map (·.1)) d self room) (!refuseD (xs.map (·.1)) d self room) w)
  drop : ∀ (A : Option Addr) (n c : Nat) (xs : List (Dsc × Hd)) (node : Int) (w : World), Sds w A n c xs → Fit n xs → isView (xs.map (·.1)) → byt node → Calls Try.prog 23 #[.slice A n c, .int .u8 node] w (GaveDo (dropD (xs.map (·.1)) node) w)
  older : ∀ (A : Option Addr) (n c : Nat) (xs : List (Dsc × Hd)) (w : World), Sds w A n c xs → Fit n xs → isView (xs.map (·.1)) → Calls Try.prog 25 #[.slice A n c] w (GaveDo (olderD (xs.map (·.1))) w)
  oldest : ∀ (A : Option Addr) (n c : Nat) (xs : List (Dsc × Hd)) (w : World), Sds w A n c xs → Fit n xs → isView (xs.map (·.1)) → Calls Try.prog 27 #[.slice A n c] w fun e w' => e = .returned (.int .i64 (oldI (xs.map (·.1)))) ∧ Below w.heap.size w w'
theorem Ods.next {w w' : World} {B : Nat} {A : Option Addr} {n c : Nat} {xs : List (Dsc × Hd)} (h : Ods w B A n c xs) (hb : Below w.heap.size w w') : Ods w' B A n c xs := h.below hb
theorem Dow.next {w w' : World} {B : Nat} {A : Option Addr} {n c : Nat} {xs : List (Dsc × Hd)} (h : Dow w B A n c xs) (hb : Below w.heap.size w w') : Dow w' B A n c xs := h.below hb
theorem map2 {xs : List (Dsc × Hd)} {a b : Dsc} (h : xs.map (·.1) = [a, b]) : ∃ h1 h2, xs = [(a, h1), (b, h2)] := by
  rcases xs with _ | ⟨⟨x, hx⟩, _ | ⟨⟨y, hy⟩, _ | ⟨z, t⟩⟩⟩ <;> simp at h
  obtain ⟨rfl, rfl⟩ := h
  exact ⟨hx, hy, rfl⟩
theorem map3 {xs : List (Dsc × Hd)} {a b c : Dsc} (h : xs.map (·.1) = [a, b, c]) : ∃ h1 h2 h3, xs = [(a, h1), (b, h2), (c, h3)] := by
  rcases xs with _ | ⟨⟨x, hx⟩, _ | ⟨⟨y, hy⟩, _ | ⟨⟨z, hz⟩, _ | ⟨u, t⟩⟩⟩⟩ <;> simp at h
  obtain ⟨rfl, rfl, rfl⟩ := h
  exact ⟨hx, hy, hz, rfl⟩
theorem fit_of {n : Nat} {xs : List (Dsc × Hd)} {ds : List Dsc} (h : xs.map (·.1) = ds) (hn : n ≤ 1000) (hd : ∀ d ∈ ds, dscR d ∧ d.2.2.2.length ≤ 1000) : Fit n xs := ⟨hn, fun x hx => hd x.1 (h ▸ List.mem_map.2 ⟨x, hx, rfl⟩)⟩
end Go.Proofs.Ytlkjlmmdllkdcaa
