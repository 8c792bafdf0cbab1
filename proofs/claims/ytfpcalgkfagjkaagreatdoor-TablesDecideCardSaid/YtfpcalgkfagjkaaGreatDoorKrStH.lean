/- Sets: prefixes that overlap, and halves. -/
import Derived.Test.YtfpcalgkfagjkaaGreatDoorKrStG
import Derived.Test.YtfpcalgkfagjkaaGreatDoorKrPfxC
import Derived.Test.YtfpcalgkfagjkaaGreatDoorKrPfxE
set_option linter.unusedVariables false
set_option linter.unusedSimpArgs false
namespace Go.Proofs.YtfpcalgkfagjkaaGreatDoor
open Go.RowKit

def insP (p q : Pf) : Bool := insB p.1.s p.1.hi p.1.lo p.2 q.1.s q.1.hi q.1.lo q.2
theorem Ad.R.s_of {a b : Ad} (ha : a.R) (hb : b.R) (h : a.n < 2 ^ 128 ↔ b.n < 2 ^ 128) : a.s = b.s := by
  rcases ha.six with ⟨h1, h2, h3⟩ | ⟨h1, h2, h3⟩ <;> rcases hb.six with ⟨k1, k2, k3⟩ | ⟨k1, k2, k3⟩
  · rw [h1, k1]
  · omega
  · omega
  · rw [h1, k1]
theorem Ad.R.n_s {a b : Ad} (ha : a.R) (hb : b.R) (h : a.s = b.s) : a.n + b.v = b.n + a.v := by
  unfold Ad.n; rw [h]; omega
theorem ctP_eq {p : Pf} {a : Ad} (hp : p.R) (ha : a.R) : ctB p.1.s p.1.hi p.1.lo p.2 a.s a.hi a.lo = decide ((blk p).1 ≤ a.n ∧ a.n < (blk p).1 + 2 ^ (blk p).2) := by
  have hpos := Nat.two_pow_pos (freeB p)
  obtain ⟨_, hok⟩ := hp.blk_ok
  unfold OkB OkX blk at hok
  simp only at hok
  show (p.1.s == a.s && decide (clr a.v (lenZ a.s - p.2).toNat = p.1.v)) = decide (p.1.n ≤ a.n ∧ a.n < p.1.n + 2 ^ freeB p)
  by_cases hs : p.1.s = a.s
  · rw [show (p.1.s == a.s) = true by simp [hs], Bool.true_and, ← hs]
    apply decide_eq_decide.2
    have e := hp.1.n_s ha hs
    have h1 := clr_iff (B := a.v) hp.2.2.2
    have h2 := fil_blk hp
    show clr a.v (freeB p) = p.1.v ↔ _
    rw [h1, h2]
    omega
  · rw [show (p.1.s == a.s) = false by simp [hs], Bool.false_and]
    symm
    apply decide_eq_false
    rintro ⟨h1, h2⟩
    apply hs
    refine hp.1.s_of ha ?_
    rcases hp.1.six with ⟨_, _, k3⟩ | ⟨_, k2, k3⟩ <;> rcases ha.six with ⟨_, _, j3⟩ | ⟨_, j2, j3⟩ <;> omega
theorem free_bits {p q : Pf} (hp : p.R) (hq : q.R) (hs : p.1.s = q.1.s) : (q.2 ≤ p.2 ↔ freeB p ≤ freeB q) ∧ (p.2 = q.2 ↔ freeB p = freeB q) := by
  unfold freeB
  have h1 := hp.2.2.1
  have h2 := hq.2.2.1
  rw [hs] at *
  omega
theorem insP_eq {p q : Pf} (hp : p.R) (hq : q.R) : insP p q = decide ((blk q).1 ≤ (blk p).1 ∧ (blk p).1 < (blk q).1 + 2 ^ (blk q).2 ∧ (blk p).2 ≤ (blk q).2) := by
  show (decide (q.2 ≤ p.2) && ctB q.1.s q.1.hi q.1.lo q.2 p.1.s p.1.hi p.1.lo) = _
  rw [ctP_eq hq hp.1, ← Bool.decide_and]
  apply decide_eq_decide.2
  show q.2 ≤ p.2 ∧ (q.1.n ≤ p.1.n ∧ p.1.n < q.1.n + 2 ^ freeB q) ↔ q.1.n ≤ p.1.n ∧ p.1.n < q.1.n + 2 ^ freeB q ∧ freeB p ≤ freeB q
  have key : q.1.n ≤ p.1.n → p.1.n < q.1.n + 2 ^ freeB q → (q.2 ≤ p.2 ↔ freeB p ≤ freeB q) := fun h1 h2 => by
    have hok := hq.blk_ok.2
    unfold OkB OkX blk at hok
    simp only at hok
    refine (free_bits hp hq (hp.1.s_of hq.1 ?_)).1
    rcases hq.1.six with ⟨_, _, k3⟩ | ⟨_, k2, k3⟩ <;> rcases hp.1.six with ⟨_, _, j3⟩ | ⟨_, j2, j3⟩ <;> omega
  constructor
  · rintro ⟨h1, h2, h3⟩; exact ⟨h2, h3, (key h2 h3).1 h1⟩
  · rintro ⟨h2, h3, h1⟩; exact ⟨(key h2 h3).2 h1, h2, h3⟩

end Go.Proofs.YtfpcalgkfagjkaaGreatDoor
