/- Addresses as numbers; prefixes as blocks (pure). -/
import Derived.Test.YtijlahgmnpnmfaaGreatDoorKmAddressed
import Derived.Test.YtijlahgmnpnmfaaGreatDoorKmPfxM
import Derived.Test.YtijlahgmnpnmfaaGreatDoorKmWaysB
namespace Go.Proofs.YtijlahgmnpnmfaaGreatDoor

/-- An address: its two halves, and whether it is Six. -/
structure Ad where
  s : Bool
  hi : Int
  lo : Int
instance : Inhabited Ad := ⟨⟨false, 0, 0⟩⟩
def Ad.U (a : Ad) : Prop := U64 a.hi ∧ U64 a.lo
/-- Its 128 bits; its number, those of both lengths together. -/
def Ad.v (a : Ad) : Nat := num a.hi a.lo
def s2n (s : Bool) : Nat := if s then 2 ^ 128 else 0
def Ad.n (a : Ad) : Nat := s2n a.s + a.v
theorem s2n_true : s2n true = 2 ^ 128 := rfl
theorem s2n_false : s2n false = 0 := rfl
theorem Ad.U.v_lt {a : Ad} (h : a.U) : a.v < 2 ^ 128 := num_lt h.1.2 h.2.2
/-- A right address. -/
def Ad.R (a : Ad) : Prop := a.U ∧ (a.s = false → a.v < 2 ^ 32)
theorem Ad.R.six {a : Ad} (h : a.R) : (a.s = false ∧ a.n = a.v ∧ a.n < 2 ^ 32) ∨ (a.s = true ∧ a.n = 2 ^ 128 + a.v ∧ a.v < 2 ^ 128) := by
  obtain ⟨hu, hr⟩ := h
  have hv := hu.v_lt
  cases hs : a.s
  · left
    refine ⟨rfl, ?_, ?_⟩
    · unfold Ad.n; rw [hs, s2n_false, Nat.zero_add]
    · unfold Ad.n; rw [hs, s2n_false, Nat.zero_add]; exact hr hs
  · right
    refine ⟨rfl, ?_, hv⟩
    unfold Ad.n; rw [hs, s2n_true]

/-- A prefix: an address, and how many bits. -/
abbrev Pf := Ad × Int
def Pf.U (p : Pf) : Prop := p.1.U ∧ -1099511627777 ≤ p.2 ∧ p.2 ≤ 1099511627776
/-- How many of its last bits are free; its block. -/
def freeB (p : Pf) : Nat := (lenZ p.1.s - p.2).toNat
def blk (p : Pf) : Bk := (p.1.n, freeB p)
/-- A right prefix. -/
def Pf.R (p : Pf) : Prop := p.1.R ∧ 0 ≤ p.2 ∧ p.2 ≤ lenZ p.1.s ∧ clr p.1.v (freeB p) = p.1.v
end Go.Proofs.YtijlahgmnpnmfaaGreatDoor
