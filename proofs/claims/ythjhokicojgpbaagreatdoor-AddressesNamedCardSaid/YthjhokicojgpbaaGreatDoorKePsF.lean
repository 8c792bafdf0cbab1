/- A number of a byte: the reference's way (strconv.Atoi and back) against byteL. -/
import Derived.Test.YthjhokicojgpbaaGreatDoorKePsPl
import Derived.Lib.AtoiAll
import Derived.Lib.ItoaNum
namespace Go.Proofs.YthjhokicojgpbaaGreatDoor

def dec3 (n : Nat) : List UInt8 := if n < 10 then [UInt8.ofNat (48 + n)] else if n < 100 then [UInt8.ofNat (48 + n / 10), UInt8.ofNat (48 + n % 10)] else [UInt8.ofNat (48 + n / 10 / 10), UInt8.ofNat (48 + n / 10 % 10), UInt8.ofNat (48 + n % 10)]
theorem dec3_eq {n : Nat} (h : n < 1000) : Lib.decDigits n = dec3 n := by
  unfold dec3
  by_cases h1 : n < 10
  · rw [if_pos h1, Lib.decDigits_one h1]
  · rw [if_neg h1]
    by_cases h2 : n < 100
    · rw [if_pos h2, Lib.decDigits_two h1 h2]
    · rw [if_neg h2, Lib.decDigits, dif_neg h1, Lib.decDigits_two (by omega) (by omega)]
      rfl
set_option maxRecDepth 100000 in
theorem byte_dec3 : ∀ n, n < 256 → byteL (dec3 n) = some n := by decide
def isOk (e : Lib.NumEnd Int) (n : Nat) : Bool := match e with
  | .ok v => decide (v = (n : Int))
  | _ => false
set_option maxRecDepth 100000 in
theorem atoi_dec3' : ∀ n, n < 256 → isOk (Lib.atoiAll (dec3 n)) n = true := by decide
theorem atoi_dec3 {n : Nat} (h : n < 256) : Lib.atoiAll (dec3 n) = .ok (n : Int) := by
  have := atoi_dec3' n h
  unfold isOk at this
  split at this
  · rename_i v hv; rw [hv, of_decide_eq_true this]
  · cases this

theorem dig_is {c : UInt8} (h : isDig c = true) : 48 ≤ c.toNat ∧ c.toNat ≤ 57 := by
  unfold isDig at h; simp at h; omega
theorem u8_of {c : UInt8} {n : Nat} (h : n = c.toNat) : UInt8.ofNat n = c := by rw [h]; simp
theorem dec3_of {l : List UInt8} {n : Nat} (h : byteL l = some n) : n < 256 ∧ l = dec3 n := by
  unfold byteL at h
  split at h
  · rename_i m hm
    split at h
    · cases h
      refine ⟨by omega, ?_⟩
      unfold numL at hm
      split at hm
      · cases hm
      · rename_i h0
        split at hm
        · rename_i hd
          cases hm
          match l, h0, hd with
          | [], h0, _ => exact absurd (.inl rfl) h0
          | [a], h0, hd =>
            simp only [List.all_cons, List.all_nil, Bool.and_true] at hd
            have := dig_is hd
            have e : decVal [a] = a.toNat - 48 := by simp [decVal, decStep]
            rw [e]; unfold dec3
            rw [if_pos (by omega), u8_of (c := a) (by omega)]
          | [a, b], h0, hd =>
            simp only [List.all_cons, List.all_nil, Bool.and_true, Bool.and_eq_true] at hd
            have h1 := dig_is hd.1
            have h2 := dig_is hd.2
            have h3 : a.toNat ≠ 48 := fun k => h0 (.inr (.inr ⟨by rw [List.head?_cons]; congr 1; exact UInt8.toNat_inj.1 k, by simp⟩))
            have e : decVal [a, b] = (a.toNat - 48) * 10 + (b.toNat - 48) := by simp [decVal, decStep]
            rw [e]; unfold dec3
            rw [if_neg (by omega), if_pos (by omega), u8_of (c := a) (by omega), u8_of (c := b) (by omega)]
          | [a, b, c], h0, hd =>
            simp only [List.all_cons, List.all_nil, Bool.and_true, Bool.and_eq_true] at hd
            have h1 := dig_is hd.1
            have h2 := dig_is hd.2.1
            have h4 := dig_is hd.2.2
            have h3 : a.toNat ≠ 48 := fun k => h0 (.inr (.inr ⟨by rw [List.head?_cons]; congr 1; exact UInt8.toNat_inj.1 k, by simp⟩))
            have e : decVal [a, b, c] = ((a.toNat - 48) * 10 + (b.toNat - 48)) * 10 + (c.toNat - 48) := by simp [decVal, decStep]
            rw [e]; unfold dec3
            rw [if_neg (by omega), if_neg (by omega), u8_of (c := a) (by omega), u8_of (c := b) (by omega), u8_of (c := c) (by omega)]
          | a :: b :: c :: d :: r, h0, _ => exact absurd (.inr (.inl (by simp))) h0
        · cases hm
    · cases h
  · cases h

theorem byte_atoi {l : List UInt8} {n : Nat} (h : byteL l = some n) : n < 256 ∧ Lib.atoiAll l = .ok (n : Int) ∧ Lib.itoa (n : Int) = l := by
  obtain ⟨h1, h2⟩ := dec3_of h
  refine ⟨h1, by rw [h2, atoi_dec3 h1], ?_⟩
  have e : Lib.itoa (n : Int) = Lib.decDigits n := by unfold Lib.itoa; rw [if_neg (by omega)]; simp
  rw [e, dec3_eq (by omega), ← h2]
end Go.Proofs.YthjhokicojgpbaaGreatDoor
