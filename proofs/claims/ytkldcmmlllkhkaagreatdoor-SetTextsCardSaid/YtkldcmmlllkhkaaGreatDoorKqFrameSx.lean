/- The frame of the laws that read errors and tables of the library: the listed variables hold, the list that came in is a stream. -/
import Derived.Test.YtkldcmmlllkhkaaGreatDoorKqStC
import Derived.Test.YtkldcmmlllkhkaaGreatDoorTie
import Derived.Test.YtkldcmmlllkhkaaGreatDoorCards
import Derived.Test.YtkldcmmlllkhkaaGreatDoorKqTxtG
import Derived.ProofKit
import Derived.LaidMore
import Derived.OpenShut
import Derived.Stop.Joined
import Derived.Stop.LaidErr
import Derived.ShutString
import Derived.ChangeOld
import Derived.Below
import Derived.Deep.RegionHeld
import Derived.SevenTiedAt
import Derived.Lib.LaidTab
import Derived.LaidSub
import Derived.Lay
import Derived.MakeChecks
import Derived.Shelf.Vars
namespace Go.Proofs.YtkldcmmlllkhkaaGreatDoor
open Go.ChangeShapes Go.WideShapes Go.ChangeAt Go.WideElems Go.RowKit

theorem own : ownKnob Tryz.prog.godebug = none := by kernel_rfl
theorem laidOut : laidOutB Tryz.prog = true := by kernel_rfl

def laidZ : List (String × DataW Unit) := Rows.setTextsRow.laid
theorem laidZ_plain (w : World) : laidMetH Tryz.prog laidZ w = laidMet Tryz.prog laidZ w := MakeChecks.laidMetH_plain _ _ _ (by kernel_rfl)

theorem laidZ_met (os : Os) (args : Array Value) : laidMetH Tryz.prog laidZ ((World.laidAll Tryz.prog os laidZ).forCall (fun _ _ => 0) ⟨#[], args, []⟩).memory := by
  rw [laidZ_plain]
  exact laidMet_laidAll _ (by kernel_rfl) (by kernel_rfl)

def IsRow (k : IntKind) (w : World) (a : Option Addr) (len cap : Nat) (zs : List Int) : Prop :=
  (a = none ∧ len = 0 ∧ cap = 0 ∧ zs = []) ∨
  ∃ x, a = some x ∧ len ≤ cap ∧ cap ≤ maxLen ∧ zs.length = cap ∧ (∀ i, i < zs.length → w.cell? (x.add i) = some (.int k (zs.getD i 0))) ∧ ∀ n ∈ zs, (Lit.int k n).wf = true

theorem str_of_row {w : World} {a : Option Addr} {len cap : Nat} {zs : List Int} (h : IsRow .i64 w a len cap zs) (R : Nat) (hR : R ≤ 4611686018427387904) :
    Str (w.alloc (.cells #[.slice a len cap, .int .i64 0] 25)) w.heap.size R := by
  refine ⟨a, len, cap, 0, zs, by omega, heap_alloc_new w _, ?_⟩
  rcases h with ⟨rfl, rfl, rfl, rfl⟩ | ⟨x, rfl, hl, hm, hz, hcell, hwz⟩
  · exact .inl rfl
  · by_cases h0 : len = 0
    · exact .inl h0
    · obtain ⟨b, off, spot⟩ := x
      have hc := hcell 0 (by omega)
      have hspot : spot = none := by simpa [Addr.add] using World.cell?_spot hc
      subst hspot
      have hb : b < w.heap.size := by
        have := World.block_lt_of_cell? w _ hc
        simpa [Addr.add] using this
      refine .inr ⟨b, off, rfl, hb, hl, hm, fun i hi => ?_⟩
      rw [World.cell?_of_block (w := w) (Below.heap_alloc _ _ _ hb)]
      have := hcell i (by omega)
      rw [Addr.add_lit] at this
      exact this
theorem var_lt {P : Program} {W : World} {n : String} {g : Nat} {cs : Array Value} (hg : P.globalNamed n = some g) (h : W.var? P n = some cs) : g < W.heap.size := by
  unfold World.var? at h
  simp only [hg, Option.bind_some] at h
  rcases Nat.lt_or_ge g W.heap.size with h' | h'
  · exact h'
  · simp [Array.getElem?_eq_none h'] at h

theorem star_err : "*" ++ "errors.errorString" = "*errors.errorString" := by decide
theorem row_err (u : TypeId) (h : Tryz.prog.typeName? 3 u = some "*errors.errorString") : u = 180 :=
  typeName_ptr_named (nm := "errors.errorString") (by rw [star_err]; kernel_rfl) (by kernel_rfl) (by decide) u (by rw [star_err]; exact h)
def db64 : List Int := [0, 1, 56, 2, 57, 49, 28, 3, 61, 58, 42, 50, 38, 29, 17, 4, 62, 47, 59, 36, 45, 43, 51, 22, 53, 39, 33, 30, 24, 18, 12, 5, 63, 55, 48, 27, 60, 41, 37, 16, 46, 35, 44, 21, 52, 32, 23, 11, 54, 26, 40, 15, 34, 20, 31, 10, 25, 14, 19, 9, 13, 8, 7, 6]

theorem met_of {w : World} {l : List (String × DataW Unit)} (h : laidMetH Tryz.prog l w) (hn : (l.filter fun x => x.2.handleName?.isSome) = []) : laidMet Tryz.prog l w := by
  have := (laidMetH_iff.1 h).1
  have e : (l.filter fun x => x.2.handleName?.isNone) = l := by
    rw [List.filter_eq_self]
    intro x hx
    have := List.filter_eq_nil_iff.1 hn x hx
    simpa using this
  rw [e] at this
  exact this

theorem tabs_of_laid {W : World} (h : laidMetH Tryz.prog laidZ W) : Tabs W := by
  have h1 := h.filter (fun x => x.1 == "math/bits.deBruijn64tab")
  have h2 := h.filter (fun x => x.1 == "internal/strconv.uint64pow10")
  have e1 : (laidZ.filter fun x => x.1 == "math/bits.deBruijn64tab") = [("math/bits.deBruijn64tab", Lib.tabData .u8 db64)] := by kernel_rfl
  have e2 : (laidZ.filter fun x => x.1 == "internal/strconv.uint64pow10") = [("internal/strconv.uint64pow10", Lib.tabData .u64 Lib.pow10Tab)] := by kernel_rfl
  rw [e1] at h1
  rw [e2] at h2
  have m1 := met_of h1 (by kernel_rfl)
  have m2 := met_of h2 (by kernel_rfl)
  have g1 : Tryz.prog.globalNamed "math/bits.deBruijn64tab" = some 5 := by kernel_rfl
  have t1 := Lib.tabIs_of_head (n := 64) (t := 198) (e := 5) g1 (by kernel_rfl) Tryz.underlying198 Tryz.underlying5 (by kernel_rfl) (by kernel_rfl) m1
  have t2 := Lib.tabIs_of_head (n := 20) (t := 162) (e := 37) (g := 3) (by kernel_rfl) (by kernel_rfl) Tryz.underlying162 Tryz.underlying37 (by kernel_rfl) (by kernel_rfl) m2
  have c1 := t1.cell g1 15 (by decide)
  refine ⟨c1, t2, ?_⟩
  have h3 := h.filter (fun x => x.1 == "unicode/utf8.acceptRanges")
  have e3 : (laidZ.filter fun x => x.1 == "unicode/utf8.acceptRanges") = [("unicode/utf8.acceptRanges", Rows.laid_unicode_utf8_acceptRanges)] := by kernel_rfl
  rw [e3] at h3
  have m3 := met_of h3 (by kernel_rfl)
  obtain ⟨ps, ⟨g0, t0, cs0, f0, p0, q0, hg0, ht0, hv0, _⟩, _⟩ := m3
  obtain rfl := Option.some.inj (hg0.symm.trans (show Tryz.prog.globalNamed "unicode/utf8.acceptRanges" = some 7 by kernel_rfl))
  exact var_lt hg0 hv0

theorem cons_of {W : World} (h : laidMetH Tryz.prog laidZ W) (hsh : W.ShapedOpen Tryz.prog) : Cons W := by
  refine ⟨tabs_of_laid h, ?_, ?_, ?_⟩
  · exact Go.Proofs.cell_of_shapedOpen_int (g := 0) (t := 3) (zero := #[.int .i64 0]) (k := .i64) hsh (of_decide_eq_true (by kernel_rfl)) (by kernel_rfl) rfl (by kernel_rfl) (by kernel_rfl) Tryz.underlying3
  · have h1 := h.filter (fun x => x.1 == "strconv.ErrSyntax")
    have e1 : (laidZ.filter fun x => x.1 == "strconv.ErrSyntax") = [("strconv.ErrSyntax", Rows.laid_strconv_ErrSyntax)] := by kernel_rfl
    rw [e1] at h1
    have m1 := met_of h1 (by kernel_rfl)
    obtain ⟨a0, s0, hv, _⟩ := laid_sentinel m1 (g := 1) (ti := 72) (tp := 180) (te := 182) (ts := 9) (by kernel_rfl) (by kernel_rfl) Tryz.underlying72 row_err Tryz.underlying180 Tryz.underlying182 rfl rfl Tryz.underlying9 (by kernel_rfl) (by kernel_rfl)
    exact ⟨_, _, hv⟩
  · have h1 := h.filter (fun x => x.1 == "strconv.ErrRange")
    have e1 : (laidZ.filter fun x => x.1 == "strconv.ErrRange") = [("strconv.ErrRange", Rows.laid_strconv_ErrRange)] := by kernel_rfl
    rw [e1] at h1
    have m1 := met_of h1 (by kernel_rfl)
    obtain ⟨a0, s0, hv, _⟩ := laid_sentinel m1 (g := 2) (ti := 72) (tp := 180) (te := 182) (ts := 9) (by kernel_rfl) (by kernel_rfl) Tryz.underlying72 row_err Tryz.underlying180 Tryz.underlying182 rfl rfl Tryz.underlying9 (by kernel_rfl) (by kernel_rfl)
    exact ⟨_, _, hv⟩
end Go.Proofs.YtkldcmmlllkhkaaGreatDoor
