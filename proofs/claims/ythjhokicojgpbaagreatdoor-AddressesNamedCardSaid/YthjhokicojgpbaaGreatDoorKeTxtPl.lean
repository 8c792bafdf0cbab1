/- Texts of addresses: the numeral of a group, the longest row of zeros as the program and as the reference seek it. -/
import Derived.Lib.Join
import Derived.Lib.ItoaNum
namespace Go.Proofs.YthjhokicojgpbaaGreatDoor

/-- A digit to base 16. -/
def hexc (k : Nat) : UInt8 := UInt8.ofNat (if k < 10 then 48 + k else 87 + k)
/-- The numeral of a number below 2^16 to base 16. -/
def hexL (u : Nat) : List UInt8 :=
  if u < 16 then [hexc u] else if u < 256 then [hexc (u / 16), hexc (u % 16)] else if u < 4096 then [hexc (u / 256), hexc (u / 16 % 16), hexc (u % 16)]
  else [hexc (u / 4096), hexc (u / 256 % 16), hexc (u / 16 % 16), hexc (u % 16)]

end Go.Proofs.YthjhokicojgpbaaGreatDoor
