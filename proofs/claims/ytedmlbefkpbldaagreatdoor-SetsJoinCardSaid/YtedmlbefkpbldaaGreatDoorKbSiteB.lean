/- Sites: Via, ViaOf. -/
import Derived.Test.YtedmlbefkpbldaaGreatDoorKbStC
import Derived.Test.YtedmlbefkpbldaaGreatDoorKbSiteA
namespace Go.Proofs.YtedmlbefkpbldaaGreatDoor
open Go.RowKit

/-- Is a site out of its range? -/
def siteOut (k : Int) : Bool := decide (k < 0 ∨ 65535 < k)
/-- Via's error. -/
def viaF (k : Int) (s : Bool) (hi lo n : Int) : Int := firstZ [whenZ (siteOut k) 1, pfF s hi lo n, whenZ s 10]
/-- Via's prefix. -/
abbrev viaV (k lo n : Int) : Value := .agg #[.bool true, .int .u64 18230690457315508224, .int .u64 (k * 4294967296 + lo), .int .i64 (96 + n)]

theorem pfF_zero {s : Bool} {hi lo n : Int} (h : pfF s hi lo n = 0) : adF s hi lo = 0 ∧ 0 ≤ n ∧ n ≤ lenZ s ∧ clr (num hi lo) (lenZ s - n).toNat = num hi lo := by
  unfold pfF at h
  split at h
  · omega
  · rename_i hA
    split at h
    · omega
    · rename_i hI
      split at h
      · rename_i hC
        have : inB n 0 (lenZ s) = true := by simpa using hI
        have := of_decide_eq_true this
        exact ⟨by simpa using hA, this.1, this.2, hC⟩
      · omega

theorem adF_four {hi lo : Int} (h : adF false hi lo = 0) : hi = 0 ∧ lo < 4294967296 := by
  unfold adF at h
  split at h
  · omega
  · rename_i hn
    simp at hn
    omega



theorem via_or (k lo : Int) (h1 : 0 ≤ k) (h2 : k ≤ 65535) (h3 : 0 ≤ lo) (h4 : lo < 4294967296) : bits .or .u64 (k * 4294967296) lo = k * 4294967296 + lo := by
  obtain ⟨K, rfl⟩ := Int.eq_ofNat_of_zero_le h1
  obtain ⟨L, rfl⟩ := Int.eq_ofNat_of_zero_le h3
  have := u64_or_nat (K * 4294967296) L (by omega) (by omega)
  rw [show ((K : Int) * 4294967296) = ((K * 4294967296 : Nat) : Int) by simp, this, nat_join 32 (K * 4294967296) L (by omega) (by omega)]
  omega

end Go.Proofs.YtedmlbefkpbldaaGreatDoor
