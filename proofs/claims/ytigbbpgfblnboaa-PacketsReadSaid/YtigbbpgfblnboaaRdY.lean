/- Packets that are read: what they are (pure). -/
import Derived.Test.YtigbbpgfblnboaaPkQ
import Derived.Test.YtigbbpgfblnboaaRdA
namespace Go.Proofs.Ytigbbpgfblnboaa
open Go.RowKit
def q4 (bs : List Nat) : Pk := ⟨false, 0, nb bs 12 4, false, 0, nb bs 16 4, bs.getD 8 0, protoN false (bs.getD 9 0), 0, 0, false, false, false, false, 0, 0, false, 0⟩
def q6 (bs : List Nat) : Pk := ⟨true, nb bs 8 8, nb bs 16 8, true, nb bs 24 8, nb bs 32 8, bs.getD 7 0, protoN true (bs.getD 6 0), 0, 0, false, false, false, false, 0, 0, false, 0⟩
/-- What is wrong with the head of a packet with addresses of 32 bits. -/
def fourE (bs : List Nat) : Int :=
  if sumR (splice (bs.take 20) 10 [0, 0]) ≠ (nb bs 10 2 : Int) then 15
  else if nb bs 2 2 ≠ bs.length ∨ bs.getD 1 0 ≠ 0 ∨ nb bs 4 4 ≠ 0 then 3 else if protoN false (bs.getD 9 0) = 0 then 4 else 0
def sixE (bs : List Nat) : Int :=
  if bs.length < 40 ∨ (nb bs 4 2 : Int) ≠ bs.length - 40 ∨ nb bs 1 3 ≠ 0 then 3 else if protoN true (bs.getD 6 0) = 0 then 4 else 0
def headE (bs : List Nat) : Int :=
  if bs.length < 20 then 3 else if bs.getD 0 0 = 69 then fourE bs else if bs.getD 0 0 = 96 then sixE bs else 4
def headN (bs : List Nat) : Nat := if bs.getD 0 0 = 69 then 20 else 40
def headQ (bs : List Nat) : Pk := if bs.getD 0 0 = 69 then q4 bs else q6 bs
/-- What a part tells. -/
def rdTcp (q : Pk) (bd : List Nat) : Pk := { q with fp := nb bd 0 2, tp := nb bd 2 2, seq := nb bd 4 4, ack := nb bd 8 4, fin := decide (bd.getD 13 0 % 2 = 1), syn := decide (bd.getD 13 0 / 2 % 2 = 1), rst := decide (bd.getD 13 0 / 4 % 2 = 1), has := decide (bd.getD 13 0 / 16 % 2 = 1) }
def rdUdp (q : Pk) (bd : List Nat) : Pk := { q with fp := nb bd 0 2, tp := nb bd 2 2 }
def rdIcmp (q : Pk) (bd : List Nat) (r : Bool) : Pk := { q with reply := r, id := nb bd 4 2, seq := nb bd 6 2 }
def rdBody (q : Pk) (bd : List Nat) : Pk := if q.proto = 6 then rdTcp q bd else if q.proto = 17 then rdUdp q bd else rdIcmp q bd (decide (bd.getD 0 0 = kindN q.fs true))
def rdBodyR (q : Pk) (bd : List Nat) : Pk := if q.proto = 6 then rdTcp q bd else if q.proto = 17 then rdUdp q bd else rdIcmp q bd (decide (bd.getD 0 0 = 0 ∨ bd.getD 0 0 = 129))
def szP (q : Pk) : Nat := if q.proto = 6 then 20 else 8
/-- What is wrong with a part. -/
def partE (q0 : Pk) (bd : List Nat) : Int :=
  if bd.length < szP q0 then 3
  else if headP (rdBody q0 bd) (bd.length - szP q0) ≠ splice (bd.take (szP q0)) (atP q0) [0, 0] ∨ fldB (rdBody q0 bd) = false then 3
  else if sumF (rdBody q0 bd) (splice bd (atP q0) [0, 0]) ≠ (nb bd (atP q0) 2 : Int) then 15 else 0
end Go.Proofs.Ytigbbpgfblnboaa
