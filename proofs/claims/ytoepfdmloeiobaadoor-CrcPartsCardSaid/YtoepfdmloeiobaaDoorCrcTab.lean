/- From the listed table to the walks' fact. -/
import Derived.Test.YtoepfdmloeiobaaDoorCrc
import Derived.Lib.LaidTab
import Derived.LaidMore
namespace Go.Proofs.YtoepfdmloeiobaaDoor
open Go.RowKit
theorem tab_of_laid {W : World} (h : laidMetH Tryd.prog [("grapevine/crc.halves", Rows.laid_grapevine_crc_halves)] W) : Tab W := by
  rw [MakeChecks.laidMetH_plain _ _ _ (by kernel_rfl)] at h
  have hT : Lib.TabIs Tryd.prog W "grapevine/crc.halves" .u32 (halvesL.map fun (x : Nat) => (x : Int)) :=
    Lib.tabIs_of_head (g := 0) (by kernel_rfl) (by kernel_rfl) Tryd.underlying48 Tryd.underlying22 (by kernel_rfl) (by kernel_rfl) h
  intro k hk
  have := hT.cell (g := 0) (by kernel_rfl) k (by simpa [halvesL] using hk)
  rw [this]
  congr 2
  have hh : k < halvesL.length := by simpa [halvesL] using hk
  simp [List.getD, List.getElem?_eq_getElem hh]
end Go.Proofs.YtoepfdmloeiobaaDoor
