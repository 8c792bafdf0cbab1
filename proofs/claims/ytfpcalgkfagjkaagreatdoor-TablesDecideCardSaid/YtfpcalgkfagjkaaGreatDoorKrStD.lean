/- Addresses as numbers; prefixes as blocks (pure). -/
import Derived.Test.YtfpcalgkfagjkaaGreatDoorKrStB
import Derived.Test.YtfpcalgkfagjkaaGreatDoorKrWideB
import Derived.Test.YtfpcalgkfagjkaaGreatDoorKrPfxM
import Derived.Test.YtfpcalgkfagjkaaGreatDoorKrLaneB
namespace Go.Proofs.YtfpcalgkfagjkaaGreatDoor

structure Ad where
  s : Bool
  hi : Int
  lo : Int
instance : Inhabited Ad := ⟨⟨false, 0, 0⟩⟩
def Ad.U (a : Ad) : Prop := U64 a.hi ∧ U64 a.lo
def Ad.v (a : Ad) : Nat := num a.hi a.lo
def s2n (s : Bool) : Nat := if s then 2 ^ 128 else 0
def Ad.n (a : Ad) : Nat := s2n a.s + a.v
theorem s2n_true : s2n true = 2 ^ 128 := rfl
theorem s2n_false : s2n false = 0 := rfl
theorem Ad.U.v_lt {a : Ad} (h : a.U) : a.v < 2 ^ 128 := num_lt h.1.2 h.2.2
theorem Ad.U.n_lt {a : Ad} (h : a.U) : a.n < 2 ^ 129 := by
  have := h.v_lt
  unfold Ad.n
  cases a.s
  · rw [s2n_false]; omega
  · rw [s2n_true]; omega
def Ad.R (a : Ad) : Prop := a.U ∧ (a.s = false → a.v < 2 ^ 32)
theorem adF_iff {a : Ad} (h : a.U) : adF a.s a.hi a.lo = 0 ↔ (a.s = false → a.v < 2 ^ 32) := by
  obtain ⟨⟨h1, h2⟩, ⟨h3, h4⟩⟩ := h
  unfold adF Ad.v num
  by_cases hc : a.s = false ∧ (a.hi ≠ 0 ∨ 4294967296 ≤ a.lo)
  · rw [if_pos hc]
    constructor
    · intro e; omega
    · intro e
      have := e hc.1
      rcases hc.2 with x | x <;> omega
  · rw [if_neg hc]
    refine ⟨fun _ hs => ?_, fun _ => rfl⟩
    have : ¬ (a.hi ≠ 0 ∨ 4294967296 ≤ a.lo) := fun x => hc ⟨hs, x⟩
    have h0 : a.hi = 0 := by omega
    rw [h0]
    have : a.lo < 4294967296 := by omega
    show (0 : Int).toNat * 2 ^ 64 + a.lo.toNat < 2 ^ 32
    omega
theorem Ad.R.six {a : Ad} (h : a.R) : (a.s = false ∧ a.n = a.v ∧ a.n < 2 ^ 32) ∨ (a.s = true ∧ a.n = 2 ^ 128 + a.v ∧ a.v < 2 ^ 128) := by
  obtain ⟨hu, hr⟩ := h
  have hv := hu.v_lt
  cases hs : a.s
  · left
    refine ⟨rfl, ?_, ?_⟩
    · unfold Ad.n; rw [hs, s2n_false, Nat.zero_add]
    · unfold Ad.n; rw [hs, s2n_false, Nat.zero_add]; exact hr hs
  · right
    refine ⟨rfl, ?_, hv⟩
    unfold Ad.n; rw [hs, s2n_true]

theorem num_inj {hi lo h l : Int} (h1 : U64 hi) (h2 : U64 lo) (h3 : U64 h) (h4 : U64 l) (e : num hi lo = num h l) : hi = h ∧ lo = l := by
  have a1 := num_div hi lo h2.2
  have a2 := num_div h l h4.2
  have b1 := num_mod hi lo h2.2
  have b2 := num_mod h l h4.2
  rw [e] at a1 b1
  unfold U64 at *
  omega
theorem Ad.ext' {a b : Ad} (ha : a.U) (hb : b.U) (e : a.n = b.n) : a = b := by
  have hva := ha.v_lt
  have hvb := hb.v_lt
  obtain ⟨s, hi, lo⟩ := a
  obtain ⟨t, h, l⟩ := b
  have hst : s = t := by
    unfold Ad.n at e
    cases s <;> cases t <;> simp only [s2n_true, s2n_false] at e
    · rfl
    · omega
    · omega
    · rfl
  subst hst
  have hv : num hi lo = num h l := by
    unfold Ad.n at e
    exact Nat.add_left_cancel e
  obtain ⟨e1, e2⟩ := num_inj ha.1 ha.2 hb.1 hb.2 hv
  subst e1; subst e2; rfl
def adOf (N : Nat) : Ad := ⟨decide (2 ^ 128 ≤ N), ((N % 2 ^ 128 / 2 ^ 64 : Nat) : Int), ((N % 2 ^ 128 % 2 ^ 64 : Nat) : Int)⟩
theorem num_of_halves (V : Nat) (_h : V < 2 ^ 128) : num ((V / 2 ^ 64 : Nat) : Int) ((V % 2 ^ 64 : Nat) : Int) = V := by
  unfold num; rw [Int.toNat_natCast, Int.toNat_natCast]; omega
theorem u64_halves (V : Nat) (h : V < 2 ^ 128) : U64 ((V / 2 ^ 64 : Nat) : Int) ∧ U64 ((V % 2 ^ 64 : Nat) : Int) := by
  have : (2 : Nat) ^ 128 = 2 ^ 64 * 2 ^ 64 := by decide
  have a : V / 2 ^ 64 < 2 ^ 64 := Nat.div_lt_of_lt_mul (by omega)
  unfold U64
  omega
theorem adOf_U (N : Nat) : (adOf N).U := u64_halves (N % 2 ^ 128) (Nat.mod_lt _ (by decide))
theorem adOf_v (N : Nat) : (adOf N).v = N % 2 ^ 128 := num_of_halves _ (Nat.mod_lt _ (by decide))
theorem adOf_n {N : Nat} (h : N < 2 ^ 129) : (adOf N).n = N := by
  unfold Ad.n
  rw [adOf_v]
  by_cases hs : 2 ^ 128 ≤ N
  · have : (adOf N).s = true := decide_eq_true hs
    rw [this, s2n_true]; omega
  · have : (adOf N).s = false := decide_eq_false hs
    rw [this, s2n_false]; omega
theorem adOf_of {a : Ad} (h : a.U) : adOf a.n = a := Ad.ext' (adOf_U _) h (adOf_n h.n_lt)
theorem adOf_R {N : Nat} (h : N < 2 ^ 32 ∨ (2 ^ 128 ≤ N ∧ N < 2 ^ 129)) : (adOf N).R := by
  refine ⟨adOf_U N, fun hs => ?_⟩
  have : ¬ 2 ^ 128 ≤ N := of_decide_eq_false hs
  rw [adOf_v]
  omega

def cmpN (x y : Nat) : Int := if x < y then -1 else if x = y then 0 else 1
theorem cmpW_cmpN {a b : Ad} (ha : a.U) (hb : b.U) : cmpW a.v a.s b.v b.s = cmpN a.n b.n := by
  have hva := ha.v_lt
  have hvb := hb.v_lt
  have ea : a.n = s2n a.s + a.v := rfl
  have eb : b.n = s2n b.s + b.v := rfl
  unfold cmpW cmpN
  generalize a.v = x at *
  generalize b.v = y at *
  generalize a.n = p at *
  generalize b.n = q at *
  cases hs : a.s <;> cases ht : b.s <;> rw [hs] at ea <;> rw [ht] at eb <;> (try rw [s2n_true] at ea) <;> (try rw [s2n_true] at eb) <;> (try rw [s2n_false] at ea) <;> (try rw [s2n_false] at eb)
  · rw [if_pos rfl]
    by_cases h : x < y
    · rw [if_pos h, if_pos (by omega)]
    · rw [if_neg h]
      by_cases e : x = y
      · rw [if_pos e, if_neg (by omega), if_pos (by omega)]
      · rw [if_neg e, if_neg (by omega), if_neg (by omega)]
  · rw [if_neg (by decide), if_pos rfl, if_pos (by omega)]
  · rw [if_neg (by decide), if_neg (by decide), if_neg (by omega), if_neg (by omega)]
  · rw [if_pos rfl]
    by_cases h : x < y
    · rw [if_pos h, if_pos (by omega)]
    · rw [if_neg h]
      by_cases e : x = y
      · rw [if_pos e, if_neg (by omega), if_pos (by omega)]
      · rw [if_neg e, if_neg (by omega), if_neg (by omega)]

abbrev Pf := Ad × Int
def Pf.U (p : Pf) : Prop := p.1.U ∧ -1099511627777 ≤ p.2 ∧ p.2 ≤ 1099511627776
def pfE (p : Pf) : Int := pfF p.1.s p.1.hi p.1.lo p.2
def freeB (p : Pf) : Nat := (lenZ p.1.s - p.2).toNat
def blk (p : Pf) : Bk := (p.1.n, freeB p)
def Pf.R (p : Pf) : Prop := p.1.R ∧ 0 ≤ p.2 ∧ p.2 ≤ lenZ p.1.s ∧ clr p.1.v (freeB p) = p.1.v
theorem pfE_iff {p : Pf} (h : p.1.U) : pfE p = 0 ↔ p.R := by
  unfold pfE pfF Pf.R
  have ha := adF_iff h
  constructor
  · intro e
    by_cases h1 : adF p.1.s p.1.hi p.1.lo = 0
    · rw [if_neg (by simp [h1])] at e
      cases h2 : inB p.2 0 (lenZ p.1.s)
      · rw [if_pos h2] at e; omega
      · rw [if_neg (by rw [h2]; decide)] at e
        have h2' : 0 ≤ p.2 ∧ p.2 ≤ lenZ p.1.s := of_decide_eq_true h2
        by_cases h3 : clr (num p.1.hi p.1.lo) (lenZ p.1.s - p.2).toNat = num p.1.hi p.1.lo
        · exact ⟨⟨h, ha.1 h1⟩, h2'.1, h2'.2, h3⟩
        · rw [if_neg h3] at e; omega
    · rw [if_pos h1] at e; omega
  · rintro ⟨⟨_, h1⟩, h2, h3, h4⟩
    rw [if_neg (by simp [ha.2 h1]), if_neg (by rw [show inB p.2 0 (lenZ p.1.s) = true from decide_eq_true ⟨h2, h3⟩]; decide)]
    exact if_pos h4
theorem lenZ_le (s : Bool) : lenZ s = 32 ∧ s = false ∨ lenZ s = 128 ∧ s = true := by cases s <;> simp [lenZ]
theorem clr_dvd {V k : Nat} (h : clr V k = V) : 2 ^ k ∣ V := ⟨V / 2 ^ k, by unfold clr at h; rw [Nat.mul_comm]; exact h.symm⟩
theorem dvd_clr {V k : Nat} (h : 2 ^ k ∣ V) : clr V k = V := Nat.div_mul_cancel h
theorem Pf.R.free_le {p : Pf} (h : p.R) : freeB p ≤ 128 ∧ (p.1.s = false → freeB p ≤ 32) := by
  unfold freeB
  obtain ⟨_, h1, h2, _⟩ := h
  rcases lenZ_le p.1.s with ⟨e, hs⟩ | ⟨e, hs⟩ <;> rw [e] at * <;> rw [hs]
  · exact ⟨by omega, fun _ => by omega⟩
  · exact ⟨by omega, fun h => by cases h⟩
theorem aligned_top {V k N : Nat} (h : 2 ^ k ∣ V) (hk : k ≤ N) (hV : V < 2 ^ N) : V + 2 ^ k ≤ 2 ^ N := by
  obtain ⟨c, rfl⟩ := h
  have e : 2 ^ N = 2 ^ k * 2 ^ (N - k) := by rw [← Nat.pow_add]; congr 1; omega
  rw [e] at hV ⊢
  have hc : c < 2 ^ (N - k) := Nat.lt_of_mul_lt_mul_left hV
  have := Nat.mul_le_mul_left (2 ^ k) (Nat.succ_le_of_lt hc)
  rw [Nat.mul_succ] at this
  exact this
theorem Pf.R.blk_ok {p : Pf} (h : p.R) : Al (blk p) ∧ OkB (blk p) := by
  have hf := h.free_le
  have hd := clr_dvd h.2.2.2
  rcases h.1.six with ⟨hs, hn, hlt⟩ | ⟨hs, hn, hlt⟩
  · have hk := hf.2 hs
    unfold Al OkB OkX blk
    simp only
    rw [hn] at hlt ⊢
    exact ⟨hd, .inl (aligned_top hd hk hlt)⟩
  · unfold Al OkB OkX blk
    simp only
    rw [hn]
    refine ⟨(Nat.dvd_add_iff_right (Nat.pow_dvd_pow 2 hf.1)).1 hd, .inr ⟨by omega, ?_⟩⟩
    have := aligned_top hd hf.1 hlt
    omega
def pfOf (b : Bk) : Pf := (adOf b.1, lenZ (adOf b.1).s - (b.2 : Int))
theorem pfOf_blk {p : Pf} (h : p.R) : pfOf (blk p) = p := by
  have e : adOf p.1.n = p.1 := adOf_of h.1.1
  apply Prod.ext
  · exact e
  · show lenZ (adOf p.1.n).s - (freeB p : Int) = p.2
    rw [e]
    unfold freeB
    have := h.2.1
    have := h.2.2.1
    omega
theorem Pf.ext' {p q : Pf} (hp : p.R) (hq : q.R) (e : blk p = blk q) : p = q := by rw [← pfOf_blk hp, ← pfOf_blk hq, e]
theorem fil_blk {p : Pf} (h : p.R) : fil p.1.v (freeB p) = p.1.v + (2 ^ freeB p - 1) := fil_aligned h.2.2.2
end Go.Proofs.YtfpcalgkfagjkaaGreatDoor
