/- The texts of groups and of bytes that the program writes. -/
import Derived.Test.YthjhokicojgpbaaGreatDoorKeTxtB
namespace Go.Proofs.YthjhokicojgpbaaGreatDoor
open Go.RowKit

/-- A string of bytes. -/
abbrev sv (l : List UInt8) : Value := .string ⟨l.toArray⟩

end Go.Proofs.YthjhokicojgpbaaGreatDoor
