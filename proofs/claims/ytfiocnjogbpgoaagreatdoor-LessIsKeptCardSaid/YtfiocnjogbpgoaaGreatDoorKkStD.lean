/- Addresses as numbers; prefixes as blocks (pure). -/
import Derived.Test.YtfiocnjogbpgoaaGreatDoorKkAddressed
import Derived.Test.YtfiocnjogbpgoaaGreatDoorKkPfxM
import Derived.Test.YtfiocnjogbpgoaaGreatDoorKkLaneC
namespace Go.Proofs.YtfiocnjogbpgoaaGreatDoor

/-- An address: its two halves, and whether it is Six. -/
structure Ad where
  s : Bool
  hi : Int
  lo : Int
instance : Inhabited Ad := ⟨⟨false, 0, 0⟩⟩
def Ad.U (a : Ad) : Prop := U64 a.hi ∧ U64 a.lo
/-- Its 128 bits; its number, those of both lengths together. -/
def Ad.v (a : Ad) : Nat := num a.hi a.lo
def s2n (s : Bool) : Nat := if s then 2 ^ 128 else 0
def Ad.n (a : Ad) : Nat := s2n a.s + a.v
theorem s2n_true : s2n true = 2 ^ 128 := rfl
theorem s2n_false : s2n false = 0 := rfl
theorem Ad.U.v_lt {a : Ad} (h : a.U) : a.v < 2 ^ 128 := num_lt h.1.2 h.2.2
theorem Ad.U.n_lt {a : Ad} (h : a.U) : a.n < 2 ^ 129 := by
  have := h.v_lt
  unfold Ad.n
  cases a.s
  · rw [s2n_false]; omega
  · rw [s2n_true]; omega
/-- A right address. -/
def Ad.R (a : Ad) : Prop := a.U ∧ (a.s = false → a.v < 2 ^ 32)
/-- An address is known by its number. -/
theorem num_inj {hi lo h l : Int} (h1 : U64 hi) (h2 : U64 lo) (h3 : U64 h) (h4 : U64 l) (e : num hi lo = num h l) : hi = h ∧ lo = l := by
  have a1 := num_div hi lo h2.2
  have a2 := num_div h l h4.2
  have b1 := num_mod hi lo h2.2
  have b2 := num_mod h l h4.2
  rw [e] at a1 b1
  unfold U64 at *
  omega
theorem Ad.ext' {a b : Ad} (ha : a.U) (hb : b.U) (e : a.n = b.n) : a = b := by
  have hva := ha.v_lt
  have hvb := hb.v_lt
  obtain ⟨s, hi, lo⟩ := a
  obtain ⟨t, h, l⟩ := b
  have hst : s = t := by
    unfold Ad.n at e
    cases s <;> cases t <;> simp only [s2n_true, s2n_false] at e
    · rfl
    · omega
    · omega
    · rfl
  subst hst
  have hv : num hi lo = num h l := by
    unfold Ad.n at e
    exact Nat.add_left_cancel e
  obtain ⟨e1, e2⟩ := num_inj ha.1 ha.2 hb.1 hb.2 hv
  subst e1; subst e2; rfl
/-- The address of a number. -/
def adOf (N : Nat) : Ad := ⟨decide (2 ^ 128 ≤ N), ((N % 2 ^ 128 / 2 ^ 64 : Nat) : Int), ((N % 2 ^ 128 % 2 ^ 64 : Nat) : Int)⟩
theorem num_of_halves (V : Nat) (_h : V < 2 ^ 128) : num ((V / 2 ^ 64 : Nat) : Int) ((V % 2 ^ 64 : Nat) : Int) = V := by
  unfold num; rw [Int.toNat_natCast, Int.toNat_natCast]; omega
theorem u64_halves (V : Nat) (h : V < 2 ^ 128) : U64 ((V / 2 ^ 64 : Nat) : Int) ∧ U64 ((V % 2 ^ 64 : Nat) : Int) := by
  have : (2 : Nat) ^ 128 = 2 ^ 64 * 2 ^ 64 := by decide
  have a : V / 2 ^ 64 < 2 ^ 64 := Nat.div_lt_of_lt_mul (by omega)
  unfold U64
  omega
theorem adOf_U (N : Nat) : (adOf N).U := u64_halves (N % 2 ^ 128) (Nat.mod_lt _ (by decide))
theorem adOf_v (N : Nat) : (adOf N).v = N % 2 ^ 128 := num_of_halves _ (Nat.mod_lt _ (by decide))
theorem adOf_n {N : Nat} (h : N < 2 ^ 129) : (adOf N).n = N := by
  unfold Ad.n
  rw [adOf_v]
  by_cases hs : 2 ^ 128 ≤ N
  · have : (adOf N).s = true := decide_eq_true hs
    rw [this, s2n_true]; omega
  · have : (adOf N).s = false := decide_eq_false hs
    rw [this, s2n_false]; omega
theorem adOf_of {a : Ad} (h : a.U) : adOf a.n = a := Ad.ext' (adOf_U _) h (adOf_n h.n_lt)
/-- The order of addresses is that of their numbers. -/
def cmpN (x y : Nat) : Int := if x < y then -1 else if x = y then 0 else 1
theorem cmpW_cmpN {a b : Ad} (ha : a.U) (hb : b.U) : cmpW a.v a.s b.v b.s = cmpN a.n b.n := by
  have hva := ha.v_lt
  have hvb := hb.v_lt
  have ea : a.n = s2n a.s + a.v := rfl
  have eb : b.n = s2n b.s + b.v := rfl
  unfold cmpW cmpN
  generalize a.v = x at *
  generalize b.v = y at *
  generalize a.n = p at *
  generalize b.n = q at *
  cases hs : a.s <;> cases ht : b.s <;> rw [hs] at ea <;> rw [ht] at eb <;> (try rw [s2n_true] at ea) <;> (try rw [s2n_true] at eb) <;> (try rw [s2n_false] at ea) <;> (try rw [s2n_false] at eb)
  · rw [if_pos rfl]
    by_cases h : x < y
    · rw [if_pos h, if_pos (by omega)]
    · rw [if_neg h]
      by_cases e : x = y
      · rw [if_pos e, if_neg (by omega), if_pos (by omega)]
      · rw [if_neg e, if_neg (by omega), if_neg (by omega)]
  · rw [if_neg (by decide), if_pos rfl, if_pos (by omega)]
  · rw [if_neg (by decide), if_neg (by decide), if_neg (by omega), if_neg (by omega)]
  · rw [if_pos rfl]
    by_cases h : x < y
    · rw [if_pos h, if_pos (by omega)]
    · rw [if_neg h]
      by_cases e : x = y
      · rw [if_pos e, if_neg (by omega), if_pos (by omega)]
      · rw [if_neg e, if_neg (by omega), if_neg (by omega)]

/-- A prefix: an address, and how many bits. -/
abbrev Pf := Ad × Int
def Pf.U (p : Pf) : Prop := p.1.U ∧ -1099511627777 ≤ p.2 ∧ p.2 ≤ 1099511627776
/-- How many of its last bits are free; its block. -/
def freeB (p : Pf) : Nat := (lenZ p.1.s - p.2).toNat
def blk (p : Pf) : Bk := (p.1.n, freeB p)
/-- A right prefix. -/
def Pf.R (p : Pf) : Prop := p.1.R ∧ 0 ≤ p.2 ∧ p.2 ≤ lenZ p.1.s ∧ clr p.1.v (freeB p) = p.1.v
/-- The prefix of a block. -/
def pfOf (b : Bk) : Pf := (adOf b.1, lenZ (adOf b.1).s - (b.2 : Int))
theorem pfOf_blk {p : Pf} (h : p.R) : pfOf (blk p) = p := by
  have e : adOf p.1.n = p.1 := adOf_of h.1.1
  apply Prod.ext
  · exact e
  · show lenZ (adOf p.1.n).s - (freeB p : Int) = p.2
    rw [e]
    unfold freeB
    have := h.2.1
    have := h.2.2.1
    omega
theorem Pf.ext' {p q : Pf} (hp : p.R) (hq : q.R) (e : blk p = blk q) : p = q := by rw [← pfOf_blk hp, ← pfOf_blk hq, e]
end Go.Proofs.YtfiocnjogbpgoaaGreatDoor
