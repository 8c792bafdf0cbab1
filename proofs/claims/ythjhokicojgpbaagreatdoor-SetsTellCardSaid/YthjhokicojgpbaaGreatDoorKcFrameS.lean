/- The frame of the laws over sets: the listed tables hold, the list that came in is a stream. -/
import Derived.Test.YthjhokicojgpbaaGreatDoorKcStF
import Derived.Test.YthjhokicojgpbaaGreatDoorKcShelf
import Derived.Shelf.Spec.TrailingZeros
import Derived.Shelf.Spec.BitsCarry
import Derived.Test.YthjhokicojgpbaaGreatDoorKcStC
import Derived.Test.YthjhokicojgpbaaGreatDoorTie
import Derived.Test.YthjhokicojgpbaaGreatDoorCards
import Derived.ProofKit
import Derived.LaidMore
import Derived.OpenShut
import Derived.Stop.Joined
import Derived.ShutString
import Derived.ChangeOld
import Derived.Below
import Derived.Deep.RegionHeld
import Derived.SevenTiedAt
import Derived.Lib.LaidTab
import Derived.LaidSub
import Derived.Lay
import Derived.MakeChecks
import Derived.Shelf.Vars
namespace Go.Proofs.YthjhokicojgpbaaGreatDoor
open Go.RowKit
set_option linter.unusedVariables false
set_option linter.unusedSimpArgs false

/-- math/bits.Add64 and Sub64, as they run. -/
theorem add64_run (x y c : Int) (hx : 0 ≤ x) (hy : 0 ≤ y) (h0 : 0 ≤ c) (h1 : c ≤ 1) (w : World) :
    (callFunc 138 #[.int .u64 x, .int .u64 y, .int .u64 c]).run Tryz.prog w = .ok (.value (.tuple #[.int .u64 ((x + y + c) % 18446744073709551616), .int .u64 ((x + y + c) / 18446744073709551616)])) w := by
  rw [run_callFunc_extern Tryz.func138 (by kernel_rfl) (by kernel_rfl) (by kernel_rfl) (e := add64Entry) (by kernel_rfl), run_add64 x y c hx hy h0 h1]
  rfl
/-- The table of trailing zeros lies in its variable. -/
def Tz (w : World) : Prop := Go.Proofs.TabAt 8 Lib.deBruijn64tab w ∧ 8 < w.heap.size
theorem Tz.below {w w' : World} (h : Tz w) (hb : Below w.heap.size w w') : Tz w' :=
  ⟨fun j hj => (hb.cell (p := ⟨8, j, none⟩) h.2).trans (h.1 j hj), Nat.lt_of_lt_of_le h.2 hb.size⟩
theorem Tz.alloc {w : World} (h : Tz w) (o : Obj) : Tz (w.alloc o) := h.below ((Below.refl _ _).alloc (Nat.le_refl _) _)
theorem Tz.upto {w w' : World} {B : Nat} (h : Tz w) (hb : Below B w w') (hB : 8 < B) : Tz w' :=
  ⟨fun j hj => (hb.cell (p := ⟨8, j, none⟩) hB).trans (h.1 j hj), Nat.lt_of_lt_of_le h.2 hb.size⟩

end Go.Proofs.YthjhokicojgpbaaGreatDoor
namespace Go.Proofs.YthjhokicojgpbaaGreatDoor
open Go.ChangeShapes Go.WideShapes Go.ChangeAt Go.WideElems Go.RowKit

theorem own : ownKnob Tryz.prog.godebug = none := by kernel_rfl
theorem laidOut : laidOutB Tryz.prog = true := by kernel_rfl

/-- The listed variables. -/
def laidZ : List (String × DataW Unit) := Rows.setsMakeRow.laid
theorem laidZ_plain (w : World) : laidMetH Tryz.prog laidZ w = laidMet Tryz.prog laidZ w := MakeChecks.laidMetH_plain _ _ _ (by kernel_rfl)

/-- One start that fits. -/
theorem laidZ_met (os : Os) (args : Array Value) : laidMetH Tryz.prog laidZ ((World.laidAll Tryz.prog os laidZ).forCall (fun _ _ => 0) ⟨#[], args, []⟩).memory := by
  rw [laidZ_plain]
  exact laidMet_laidAll _ (by kernel_rfl) (by kernel_rfl)

/-- A slice of integers that came in: nil, or a row of 'cap' cells. -/
def IsRow (k : IntKind) (w : World) (a : Option Addr) (len cap : Nat) (zs : List Int) : Prop :=
  (a = none ∧ len = 0 ∧ cap = 0 ∧ zs = []) ∨
  ∃ x, a = some x ∧ len ≤ cap ∧ cap ≤ maxLen ∧ zs.length = cap ∧ (∀ i, i < zs.length → w.cell? (x.add i) = some (.int k (zs.getD i 0))) ∧ ∀ n ∈ zs, (Lit.int k n).wf = true

/-- A stream over it, from which as many numbers can be taken as one likes (below 2^62). -/
theorem str_of_row {w : World} {a : Option Addr} {len cap : Nat} {zs : List Int} (h : IsRow .i64 w a len cap zs) (R : Nat) (hR : R ≤ 4611686018427387904) :
    Str (w.alloc (.cells #[.slice a len cap, .int .i64 0] 25)) w.heap.size R := by
  refine ⟨a, len, cap, 0, zs, by omega, heap_alloc_new w _, ?_⟩
  rcases h with ⟨rfl, rfl, rfl, rfl⟩ | ⟨x, rfl, hl, hm, hz, hcell, hwz⟩
  · exact .inl rfl
  · by_cases h0 : len = 0
    · exact .inl h0
    · obtain ⟨b, off, spot⟩ := x
      have hc := hcell 0 (by omega)
      have hspot : spot = none := by simpa [Addr.add] using World.cell?_spot hc
      subst hspot
      have hb : b < w.heap.size := by
        have := World.block_lt_of_cell? w _ hc
        simpa [Addr.add] using this
      refine .inr ⟨b, off, rfl, hb, hl, hm, fun i hi => ?_⟩
      rw [World.cell?_of_block (w := w) (Below.heap_alloc _ _ _ hb)]
      have := hcell i (by omega)
      rw [Addr.add_lit] at this
      exact this
theorem var_lt {P : Program} {W : World} {n : String} {g : Nat} {cs : Array Value} (hg : P.globalNamed n = some g) (h : W.var? P n = some cs) : g < W.heap.size := by
  unfold World.var? at h
  simp only [hg, Option.bind_some] at h
  rcases Nat.lt_or_ge g W.heap.size with h' | h'
  · exact h'
  · simp [Array.getElem?_eq_none h'] at h

/-- math/bits.deBruijn64tab. -/
def db64 : List Int := [0, 1, 56, 2, 57, 49, 28, 3, 61, 58, 42, 50, 38, 29, 17, 4, 62, 47, 59, 36, 45, 43, 51, 22, 53, 39, 33, 30, 24, 18, 12, 5, 63, 55, 48, 27, 60, 41, 37, 16, 46, 35, 44, 21, 52, 32, 23, 11, 54, 26, 40, 15, 34, 20, 31, 10, 25, 14, 19, 9, 13, 8, 7, 6]

theorem met_of {w : World} {l : List (String × DataW Unit)} (h : laidMetH Tryz.prog l w) (hn : (l.filter fun x => x.2.handleName?.isSome) = []) : laidMet Tryz.prog l w := by
  have := (laidMetH_iff.1 h).1
  have e : (l.filter fun x => x.2.handleName?.isNone) = l := by
    rw [List.filter_eq_self]
    intro x hx
    have := List.filter_eq_nil_iff.1 hn x hx
    simpa using this
  rw [e] at this
  exact this


theorem tz_of_laid {W : World} (h : laidMetH Tryz.prog laidZ W) : Tz W := by
  have h1 := h.filter (fun x => x.1 == "math/bits.deBruijn64tab")
  have e1 : (laidZ.filter fun x => x.1 == "math/bits.deBruijn64tab") = [("math/bits.deBruijn64tab", Lib.tabData .u8 db64)] := by kernel_rfl
  rw [e1] at h1
  have m1 := met_of h1 (by kernel_rfl)
  have g1 : Tryz.prog.globalNamed "math/bits.deBruijn64tab" = some 8 := by kernel_rfl
  have t1 := Lib.tabIs_of_head (n := 64) (t := 270) (e := 5) g1 (by kernel_rfl) Tryz.underlying270 Tryz.underlying5 (by kernel_rfl) (by kernel_rfl) m1
  refine ⟨fun j hj => ?_, var_lt g1 t1⟩
  have hj' : j < 64 := hj
  have c := t1.cell g1 j hj'
  have e : db64.getD j 0 = ((Lib.deBruijn64tab.getD j 0 : Nat) : Int) := (show ∀ j, j < 64 → db64.getD j 0 = ((Lib.deBruijn64tab.getD j 0 : Nat) : Int) by decide +kernel) j hj'
  rw [← e]
  exact c
end Go.Proofs.YthjhokicojgpbaaGreatDoor
