/-
  No cell of these rows narrows 'for every input' (looked for: loops, veiled, ifaces, maps, wideKeys, modest, calm, conditions, laid).
  DERIVED. THE GIVEN ROWS OF THIS SEAT. 3 by the template 'for every input the law returns true; each argument reads behind the call as it read before'; 0 by the template 'total and deterministic' (their statements: YtigbbpgfblnboaaTotals.lean).
  GIVEN WITH THE SEED: the statements are not yours to turn. If you find one false, say at which input.
  Laid BY PROGRAM, IN A SANDBOX (cutbox-rows.mjs): the forced cells as the released guide's own fill.sh prints them over the translation 220eb8001fe4ca90… (all of the seat's roots in one cut). By AI agents, Wed Nov 11 2026. No macro, syntax, notation, axiom, sorry.
-/
import Derived.Test.YtigbbpgfblnboaaChecked
import GoSem.Claim
import GoSem.ClaimJoined
import GoSem.ClaimMapViews
import Derived.JoinedTies
import Derived.KernelRfl
namespace Go.Proofs.Ytigbbpgfblnboaa
/- THE CELL 'sum', in the pinned program and in every row, IS THE sha256 OF THE DUMP (.gsa) THAT YtigbbpgfblnboaaProg.lean LOADS. Nothing in Lean hashes anything: it is a label: what it is worth is what the hold of that sum in a sandbox is worth. -/
noncomputable def Try.pinned : Pinned := { name := "ytigbbpgfblnboaa", sum := "220eb8001fe4ca90477831dda353120c1dc4720470affc1de95a30f25fd37add", checked := Try.checked }
namespace Rows
def none {H : Type} : Left H := { results := [], args := [] }

/-- 'lanelaw2.PortsLeast': WHATEVER THE INPUT: true; the input reads as it did. -/
def portsLeastSpec : ChangeSpec := { name := "portsLeast", fn := fun _ => fun
  | [d] => { results := [.lit (.bool true)], args := [d] }
  | _ => none }
def portsLeastRow : OpenClaim := { program := "ytigbbpgfblnboaa", sum := "220eb8001fe4ca90477831dda353120c1dc4720470affc1de95a30f25fd37add", func := "holloway/lanelaw2.PortsLeast", spec := "portsLeast", unfollowed := true, recurses := true, apart := false }
def PortsLeastSaid : Prop := portsLeastRow.holds Try.pinned (OpenSpec.ofChange portsLeastSpec)

/-- ITS FALSE NEIGHBOUR: 'it returns false'. Refute it at one input. -/
def portsLeastWrong : ChangeSpec := { name := "portsLeast", fn := fun _ => fun
  | [d] => { results := [.lit (.bool false)], args := [d] }
  | _ => none }
def PortsLeastWrongFalsely : Prop := portsLeastRow.holds Try.pinned (OpenSpec.ofChange portsLeastWrong)

/-- 'lanelaw2.PacketsWritten': WHATEVER THE INPUT: true; the input reads as it did. -/
def packetsWrittenSpec : ChangeSpec := { name := "packetsWritten", fn := fun _ => fun
  | [d] => { results := [.lit (.bool true)], args := [d] }
  | _ => none }
def packetsWrittenRow : OpenClaim := { program := "ytigbbpgfblnboaa", sum := "220eb8001fe4ca90477831dda353120c1dc4720470affc1de95a30f25fd37add", func := "holloway/lanelaw2.PacketsWritten", spec := "packetsWritten", unfollowed := true, recurses := true, apart := false }
def PacketsWrittenSaid : Prop := packetsWrittenRow.holds Try.pinned (OpenSpec.ofChange packetsWrittenSpec)

/-- ITS FALSE NEIGHBOUR: 'it returns false'. Refute it at one input. -/
def packetsWrittenWrong : ChangeSpec := { name := "packetsWritten", fn := fun _ => fun
  | [d] => { results := [.lit (.bool false)], args := [d] }
  | _ => none }
def PacketsWrittenWrongFalsely : Prop := packetsWrittenRow.holds Try.pinned (OpenSpec.ofChange packetsWrittenWrong)

/-- 'lanelaw2.PacketsRead': WHATEVER THE INPUT: true; the input reads as it did. -/
def packetsReadSpec : ChangeSpec := { name := "packetsRead", fn := fun _ => fun
  | [d] => { results := [.lit (.bool true)], args := [d] }
  | _ => none }
def packetsReadRow : OpenClaim := { program := "ytigbbpgfblnboaa", sum := "220eb8001fe4ca90477831dda353120c1dc4720470affc1de95a30f25fd37add", func := "holloway/lanelaw2.PacketsRead", spec := "packetsRead", unfollowed := true, recurses := true, apart := false }
def PacketsReadSaid : Prop := packetsReadRow.holds Try.pinned (OpenSpec.ofChange packetsReadSpec)

/-- ITS FALSE NEIGHBOUR: 'it returns false'. Refute it at one input. -/
def packetsReadWrong : ChangeSpec := { name := "packetsRead", fn := fun _ => fun
  | [d] => { results := [.lit (.bool false)], args := [d] }
  | _ => none }
def PacketsReadWrongFalsely : Prop := packetsReadRow.holds Try.pinned (OpenSpec.ofChange packetsReadWrong)

/- THE SECOND FORM. 'bulk': how many values and letters a reading holds, each counted each time it is reached (what is shared counts as often as it is met; a slice's spare places count too). A statement '..UptoSaid' is the law's where the arguments, and the package variables that the reading takes, are together of bulk at most 1048576: NARROWER than '..Said'. Prove '..Said' where nothing that the law and all that it calls make is longer than what came in: it says more and counts as full. Else prove '..UptoSaid'. A law counts once. -/
mutual
def uptoBulk {H : Type} : DataW H → Nat
  | .lit (.string bytes) => bytes.length + 1
  | .lit _ => 1
  | .nil => 1
  | .ptr d => uptoBulk d + 1
  | .slice elems spare => uptoBulkAll elems + uptoBulkAll spare + 1
  | .agg parts => uptoBulkAll parts + 1
  | .iface _ d => uptoBulk d + 1
  | .map entries => uptoBulkEntries entries + 1
  | .held _ => 1
def uptoBulkAll {H : Type} : List (DataW H) → Nat
  | [] => 0
  | d :: r => uptoBulk d + uptoBulkAll r
def uptoBulkEntries {H : Type} : List (Lit × DataW H) → Nat
  | [] => 0
  | x :: r => uptoBulkEntry x + uptoBulkEntries r
def uptoBulkEntry {H : Type} : Lit × DataW H → Nat
  | (.string bytes, d) => bytes.length + uptoBulk d + 1
  | (_, d) => uptoBulk d + 1
 end
def uptoSmall : (H : Type) → List (DataW H) → Bool := fun _ ds => decide (uptoBulkAll ds ≤ 1048576)
def OpenSpec.upto (s : _root_.Go.ChangeSpec) : _root_.Go.OpenSpec := { _root_.Go.OpenSpec.ofChange s with cond := some uptoSmall }

/-- 'lanelaw2.PortsLeast', WHERE WHAT IT READS IS OF BULK AT MOST 1048576: true; the input reads as it did. -/
def portsLeastUptoRow : OpenClaim := { program := "ytigbbpgfblnboaa", sum := "220eb8001fe4ca90477831dda353120c1dc4720470affc1de95a30f25fd37add", func := "holloway/lanelaw2.PortsLeast", spec := "portsLeast", unfollowed := true, recurses := true, apart := false, narrowed := true }
def PortsLeastUptoSaid : Prop := portsLeastUptoRow.holds Try.pinned (OpenSpec.upto portsLeastSpec)

/-- 'lanelaw2.PacketsWritten', WHERE WHAT IT READS IS OF BULK AT MOST 1048576: true; the input reads as it did. -/
def packetsWrittenUptoRow : OpenClaim := { program := "ytigbbpgfblnboaa", sum := "220eb8001fe4ca90477831dda353120c1dc4720470affc1de95a30f25fd37add", func := "holloway/lanelaw2.PacketsWritten", spec := "packetsWritten", unfollowed := true, recurses := true, apart := false, narrowed := true }
def PacketsWrittenUptoSaid : Prop := packetsWrittenUptoRow.holds Try.pinned (OpenSpec.upto packetsWrittenSpec)

/-- 'lanelaw2.PacketsRead', WHERE WHAT IT READS IS OF BULK AT MOST 1048576: true; the input reads as it did. -/
def packetsReadUptoRow : OpenClaim := { program := "ytigbbpgfblnboaa", sum := "220eb8001fe4ca90477831dda353120c1dc4720470affc1de95a30f25fd37add", func := "holloway/lanelaw2.PacketsRead", spec := "packetsRead", unfollowed := true, recurses := true, apart := false, narrowed := true }
def PacketsReadUptoSaid : Prop := packetsReadUptoRow.holds Try.pinned (OpenSpec.upto packetsReadSpec)

end Rows
end Go.Proofs.Ytigbbpgfblnboaa
