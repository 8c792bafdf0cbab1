/- The library's tables are as the card ties them to the program's text. -/
import Derived.Test.YtlnflihnmdpilaaDoorFrame
import Derived.Test.YtlnflihnmdpilaaDoorHex
import Derived.Lib.LaidTab
import Derived.LaidSub
namespace Go.Proofs.YtlnflihnmdpilaaDoor
open Go.RowKit

/-- math/bits.deBruijn64tab. -/
def db64 : List Int := [0, 1, 56, 2, 57, 49, 28, 3, 61, 58, 42, 50, 38, 29, 17, 4, 62, 47, 59, 36, 45, 43, 51, 22, 53, 39, 33, 30, 24, 18, 12, 5, 63, 55, 48, 27, 60, 41, 37, 16, 46, 35, 44, 21, 52, 32, 23, 11, 54, 26, 40, 15, 34, 20, 31, 10, 25, 14, 19, 9, 13, 8, 7, 6]

theorem met_of {w : World} {l : List (String × DataW Unit)} (h : laidMetH Tryd.prog l w) (hn : (l.filter fun x => x.2.handleName?.isSome) = []) : laidMet Tryd.prog l w := by
  have := (laidMetH_iff.1 h).1
  have e : (l.filter fun x => x.2.handleName?.isNone) = l := by
    rw [List.filter_eq_self]
    intro x hx
    have := List.filter_eq_nil_iff.1 hn x hx
    simpa using this
  rw [e] at this
  exact this

theorem tabs_of_laid {W : World} (h : laidMetH Tryd.prog laid3 W) : Tabs W := by
  have h1 := h.filter (fun x => x.1 == "math/bits.deBruijn64tab")
  have h2 := h.filter (fun x => x.1 == "internal/strconv.uint64pow10")
  have e1 : (laid3.filter fun x => x.1 == "math/bits.deBruijn64tab") = [("math/bits.deBruijn64tab", Lib.tabData .u8 db64)] := by kernel_rfl
  have e2 : (laid3.filter fun x => x.1 == "internal/strconv.uint64pow10") = [("internal/strconv.uint64pow10", Lib.tabData .u64 Lib.pow10Tab)] := by kernel_rfl
  rw [e1] at h1
  rw [e2] at h2
  have m1 := met_of h1 (by kernel_rfl)
  have m2 := met_of h2 (by kernel_rfl)
  have g1 : Tryd.prog.globalNamed "math/bits.deBruijn64tab" = some 3 := by kernel_rfl
  have t1 := Lib.tabIs_of_head (n := 64) (t := 126) (e := 5) g1 (by kernel_rfl) Tryd.underlying126 Tryd.underlying5 (by kernel_rfl) (by kernel_rfl) m1
  have t2 := Lib.tabIs_of_head (n := 20) (t := 120) (e := 26) (g := 0) (by kernel_rfl) (by kernel_rfl) Tryd.underlying120 Tryd.underlying26 (by kernel_rfl) (by kernel_rfl) m2
  have c1 := t1.cell g1 15 (by decide)
  refine ⟨c1, t2, ?_⟩
  have := World.block_lt_of_cell? W _ c1
  simp at this
  omega
end Go.Proofs.YtlnflihnmdpilaaDoor
