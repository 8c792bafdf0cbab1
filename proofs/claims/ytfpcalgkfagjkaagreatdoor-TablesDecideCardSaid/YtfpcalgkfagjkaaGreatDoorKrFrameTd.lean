/- The frame of the laws over tables: the listed tables hold, the list that came in is a stream. -/
import Derived.Test.YtfpcalgkfagjkaaGreatDoorKrLaneB
import Derived.Test.YtfpcalgkfagjkaaGreatDoorTie
import Derived.Test.YtfpcalgkfagjkaaGreatDoorCards
import Derived.ProofKit
import Derived.LaidMore
import Derived.OpenShut
import Derived.Stop.Joined
import Derived.ShutString
import Derived.ChangeOld
import Derived.Below
import Derived.Deep.RegionHeld
import Derived.SevenTiedAt
import Derived.Lib.LaidTab
import Derived.LaidSub
import Derived.Lay
import Derived.MakeChecks
import Derived.Shelf.Vars
namespace Go.Proofs.YtfpcalgkfagjkaaGreatDoor
open Go.ChangeShapes Go.WideShapes Go.ChangeAt Go.WideElems Go.RowKit

theorem own : ownKnob Tryz.prog.godebug = none := by kernel_rfl
theorem laidOut : laidOutB Tryz.prog = true := by kernel_rfl

def laidZ : List (String × DataW Unit) := Rows.tablesDecideRow.laid
theorem laidZ_plain (w : World) : laidMetH Tryz.prog laidZ w = laidMet Tryz.prog laidZ w := MakeChecks.laidMetH_plain _ _ _ (by kernel_rfl)

theorem laidZ_met (os : Os) (args : Array Value) : laidMetH Tryz.prog laidZ ((World.laidAll Tryz.prog os laidZ).forCall (fun _ _ => 0) ⟨#[], args, []⟩).memory := by
  rw [laidZ_plain]
  exact laidMet_laidAll _ (by kernel_rfl) (by kernel_rfl)

def IsRow (k : IntKind) (w : World) (a : Option Addr) (len cap : Nat) (zs : List Int) : Prop :=
  (a = none ∧ len = 0 ∧ cap = 0 ∧ zs = []) ∨
  ∃ x, a = some x ∧ len ≤ cap ∧ cap ≤ maxLen ∧ zs.length = cap ∧ (∀ i, i < zs.length → w.cell? (x.add i) = some (.int k (zs.getD i 0))) ∧ ∀ n ∈ zs, (Lit.int k n).wf = true

theorem str_of_row {w : World} {a : Option Addr} {len cap : Nat} {zs : List Int} (h : IsRow .i64 w a len cap zs) (R : Nat) (hR : R ≤ 4611686018427387904) :
    Str (w.alloc (.cells #[.slice a len cap, .int .i64 0] 25)) w.heap.size R := by
  refine ⟨a, len, cap, 0, zs, by omega, heap_alloc_new w _, ?_⟩
  rcases h with ⟨rfl, rfl, rfl, rfl⟩ | ⟨x, rfl, hl, hm, hz, hcell, hwz⟩
  · exact .inl rfl
  · by_cases h0 : len = 0
    · exact .inl h0
    · obtain ⟨b, off, spot⟩ := x
      have hc := hcell 0 (by omega)
      have hspot : spot = none := by simpa [Addr.add] using World.cell?_spot hc
      subst hspot
      have hb : b < w.heap.size := by
        have := World.block_lt_of_cell? w _ hc
        simpa [Addr.add] using this
      refine .inr ⟨b, off, rfl, hb, hl, hm, fun i hi => ?_⟩
      rw [World.cell?_of_block (w := w) (Below.heap_alloc _ _ _ hb)]
      have := hcell i (by omega)
      rw [Addr.add_lit] at this
      exact this
end Go.Proofs.YtfpcalgkfagjkaaGreatDoor
