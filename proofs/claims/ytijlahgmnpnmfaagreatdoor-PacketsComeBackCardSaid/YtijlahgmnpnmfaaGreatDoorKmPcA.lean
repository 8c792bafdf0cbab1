/- Packets: numbers as bytes, sums of bytes (pure). -/
import Derived.Test.YtijlahgmnpnmfaaGreatDoorRows
import Derived.Lib.Hide
namespace Go.Proofs.YtijlahgmnpnmfaaGreatDoor
/-- A number as k bytes, the highest one first. -/
def be (n : Nat) : Nat → List Nat
  | 0 => []
  | k + 1 => n / 256 ^ k % 256 :: be n k
theorem be_len (n : Nat) : ∀ k, (be n k).length = k
  | 0 => rfl
  | k + 1 => by rw [be, List.length_cons, be_len n k]
theorem be_lt (n : Nat) : ∀ k, ∀ x ∈ be n k, x < 256
  | 0 => by intro x hx; cases hx
  | k + 1 => by
    intro x hx
    rw [be] at hx
    rcases List.mem_cons.1 hx with rfl | hx
    · exact Nat.mod_lt _ (by decide)
    · exact be_lt n k x hx
/-- The sum of bytes as numbers of two. -/
def sumP : Bool → List Nat → Nat
  | _, [] => 0
  | true, x :: r => x * 256 + sumP false r
  | false, x :: r => x + sumP true r
theorem sumP_le : ∀ (l : List Nat) (e : Bool), (∀ x ∈ l, x < 256) → sumP e l ≤ 65280 * l.length
  | [], e, _ => by cases e <;> simp [sumP]
  | x :: r, e, h => by
    have hx := h x (List.mem_cons_self ..)
    have := sumP_le r (!e) (fun y hy => h y (List.mem_cons_of_mem _ hy))
    cases e <;> simp only [sumP, List.length_cons, Bool.not_true, Bool.not_false] at * <;> omega
/-- Folded to two bytes. -/
def fd (s : Nat) : Nat := if s = 0 then 0 else if s % 65535 = 0 then 65535 else s % 65535
theorem fd_small {s : Nat} (h : s ≤ 65535) : fd s = s := by unfold fd; split <;> first | omega | (split <;> omega)
theorem fd_step {s : Nat} (h : 65535 < s) : fd (s / 65536 + s % 65536) = fd s := by
  have e : (s / 65536 + s % 65536) % 65535 = s % 65535 := by omega
  have p : s / 65536 + s % 65536 ≠ 0 := by omega
  unfold fd
  have q : s ≠ 0 := by omega
  rw [if_neg p, if_neg q, e]
theorem fd_le (s : Nat) : fd s ≤ 65535 := by unfold fd; split <;> first | omega | (split <;> omega)
def sumR (l : List Nat) : Int := 65535 - (fd (sumP true l) : Int)
theorem sumR_in (l : List Nat) : 0 ≤ sumR l ∧ sumR l ≤ 65535 := by unfold sumR; have := fd_le (sumP true l); omega
end Go.Proofs.YtijlahgmnpnmfaaGreatDoor
