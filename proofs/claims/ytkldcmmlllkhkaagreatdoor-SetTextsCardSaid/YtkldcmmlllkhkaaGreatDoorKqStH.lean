/- Sets: prefixes that overlap, and halves. -/
import Derived.Test.YtkldcmmlllkhkaaGreatDoorKqGzA
import Derived.Test.YtkldcmmlllkhkaaGreatDoorKqStG
import Derived.Test.YtkldcmmlllkhkaaGreatDoorKqPfxC
import Derived.Test.YtkldcmmlllkhkaaGreatDoorKqPfxE
set_option linter.unusedVariables false
set_option linter.unusedSimpArgs false
namespace Go.Proofs.YtkldcmmlllkhkaaGreatDoor
open Go.RowKit

def insP (p q : Pf) : Bool := insB p.1.s p.1.hi p.1.lo p.2 q.1.s q.1.hi q.1.lo q.2
theorem Ad.R.s_of {a b : Ad} (ha : a.R) (hb : b.R) (h : a.n < 2 ^ 128 ↔ b.n < 2 ^ 128) : a.s = b.s := by
  rcases ha.six with ⟨h1, h2, h3⟩ | ⟨h1, h2, h3⟩ <;> rcases hb.six with ⟨k1, k2, k3⟩ | ⟨k1, k2, k3⟩
  · rw [h1, k1]
  · omega
  · omega
  · rw [h1, k1]
theorem Ad.R.n_s {a b : Ad} (ha : a.R) (hb : b.R) (h : a.s = b.s) : a.n + b.v = b.n + a.v := by
  unfold Ad.n; rw [h]; omega
theorem ctP_eq {p : Pf} {a : Ad} (hp : p.R) (ha : a.R) : ctB p.1.s p.1.hi p.1.lo p.2 a.s a.hi a.lo = decide ((blk p).1 ≤ a.n ∧ a.n < (blk p).1 + 2 ^ (blk p).2) := by
  have hpos := Nat.two_pow_pos (freeB p)
  obtain ⟨_, hok⟩ := hp.blk_ok
  unfold OkB OkX blk at hok
  simp only at hok
  show (p.1.s == a.s && decide (clr a.v (lenZ a.s - p.2).toNat = p.1.v)) = decide (p.1.n ≤ a.n ∧ a.n < p.1.n + 2 ^ freeB p)
  by_cases hs : p.1.s = a.s
  · rw [show (p.1.s == a.s) = true by simp [hs], Bool.true_and, ← hs]
    apply decide_eq_decide.2
    have e := hp.1.n_s ha hs
    have h1 := clr_iff (B := a.v) hp.2.2.2
    have h2 := fil_blk hp
    show clr a.v (freeB p) = p.1.v ↔ _
    rw [h1, h2]
    omega
  · rw [show (p.1.s == a.s) = false by simp [hs], Bool.false_and]
    symm
    apply decide_eq_false
    rintro ⟨h1, h2⟩
    apply hs
    refine hp.1.s_of ha ?_
    rcases hp.1.six with ⟨_, _, k3⟩ | ⟨_, k2, k3⟩ <;> rcases ha.six with ⟨_, _, j3⟩ | ⟨_, j2, j3⟩ <;> omega
theorem free_bits {p q : Pf} (hp : p.R) (hq : q.R) (hs : p.1.s = q.1.s) : (q.2 ≤ p.2 ↔ freeB p ≤ freeB q) ∧ (p.2 = q.2 ↔ freeB p = freeB q) := by
  unfold freeB
  have h1 := hp.2.2.1
  have h2 := hq.2.2.1
  rw [hs] at *
  omega
theorem insP_eq {p q : Pf} (hp : p.R) (hq : q.R) : insP p q = decide ((blk q).1 ≤ (blk p).1 ∧ (blk p).1 < (blk q).1 + 2 ^ (blk q).2 ∧ (blk p).2 ≤ (blk q).2) := by
  show (decide (q.2 ≤ p.2) && ctB q.1.s q.1.hi q.1.lo q.2 p.1.s p.1.hi p.1.lo) = _
  rw [ctP_eq hq hp.1, ← Bool.decide_and]
  apply decide_eq_decide.2
  show q.2 ≤ p.2 ∧ (q.1.n ≤ p.1.n ∧ p.1.n < q.1.n + 2 ^ freeB q) ↔ q.1.n ≤ p.1.n ∧ p.1.n < q.1.n + 2 ^ freeB q ∧ freeB p ≤ freeB q
  have key : q.1.n ≤ p.1.n → p.1.n < q.1.n + 2 ^ freeB q → (q.2 ≤ p.2 ↔ freeB p ≤ freeB q) := fun h1 h2 => by
    have hok := hq.blk_ok.2
    unfold OkB OkX blk at hok
    simp only at hok
    refine (free_bits hp hq (hp.1.s_of hq.1 ?_)).1
    rcases hq.1.six with ⟨_, _, k3⟩ | ⟨_, k2, k3⟩ <;> rcases hp.1.six with ⟨_, _, j3⟩ | ⟨_, j2, j3⟩ <;> omega
  constructor
  · rintro ⟨h1, h2, h3⟩; exact ⟨h2, h3, (key h2 h3).1 h1⟩
  · rintro ⟨h2, h3, h1⟩; exact ⟨(key h2 h3).2 h1, h2, h3⟩

def hvP (p q : Pf) : Bool := p.2 == q.2 && (decide (0 < p.2) && ctB p.1.s ((clr p.1.v (lenZ p.1.s - (p.2 - 1)).toNat / 2 ^ 64 : Nat) : Int) ((clr p.1.v (lenZ p.1.s - (p.2 - 1)).toNat % 2 ^ 64 : Nat) : Int) (p.2 - 1) q.1.s q.1.hi q.1.lo)

theorem begins_in {a k b j : Nat} (ha : 2 ^ k ∣ a) (hb : 2 ^ j ∣ b) (h1 : a < b) (h2 : b < a + 2 ^ k) : j ≤ k := by
  rcases Nat.lt_or_ge k j with h | h
  · exfalso
    have hd : 2 ^ k ∣ b := Nat.dvd_trans (Nat.pow_dvd_pow 2 (Nat.le_of_lt h)) hb
    have h3 := (Nat.dvd_sub hd ha)
    have := Nat.le_of_dvd (by omega) h3
    omega
  · exact h
theorem half_of {a b k c : Nat} (ha : 2 ^ k ∣ a) (hb : 2 ^ k ∣ b) (h1 : a + 2 ^ k ≤ b) (hc : clr b (k + 1) = clr a (k + 1)) : a + 2 ^ k = b ∧ 2 ^ (k + 1) ∣ a := by
  have hp := Nat.two_pow_pos k
  have e2 : (2 : Nat) ^ (k + 1) = 2 ^ k + 2 ^ k := by rw [Nat.pow_succ]; omega
  have a1 : clr a (k + 1) ≤ a := Nat.div_mul_le_self a (2 ^ (k + 1))
  have b2 : b < clr b (k + 1) + 2 ^ (k + 1) := by
    have x := Nat.div_add_mod b (2 ^ (k + 1))
    have y := Nat.mod_lt b (show 0 < 2 ^ (k + 1) by omega)
    have z : 2 ^ (k + 1) * (b / 2 ^ (k + 1)) = clr b (k + 1) := Nat.mul_comm _ _
    omega
  have hd : 2 ^ (k + 1) ∣ clr a (k + 1) := ⟨a / 2 ^ (k + 1), Nat.mul_comm _ _⟩
  have hdk : 2 ^ k ∣ clr a (k + 1) := Nat.dvd_trans (Nat.pow_dvd_pow 2 (Nat.le_succ k)) hd
  generalize clr a (k + 1) = C at *
  rw [hc] at b2
  have hac : a = C := by
    have h3 := Nat.dvd_sub ha hdk
    rcases Nat.eq_zero_or_pos (a - C) with h | h
    · omega
    · have := Nat.le_of_dvd h h3; omega
  subst hac
  have h4 := Nat.dvd_sub hb ha
  refine ⟨?_, hd⟩
  obtain ⟨x, hx⟩ := h4
  have hx1 : x = 1 := by
    rcases Nat.lt_or_ge x 2 with h | h
    · rcases Nat.eq_zero_or_pos x with h0 | h0
      · subst h0; omega
      · omega
    · have := Nat.mul_le_mul_left (2 ^ k) h
      omega
  subst hx1
  omega
theorem v_lt_len {a : Ad} (h : a.R) : a.v < 2 ^ (lenZ a.s).toNat := by
  rcases h.six with ⟨h1, h2, h3⟩ | ⟨h1, h2, h3⟩
  · rw [h1]; show a.v < 2 ^ 32; omega
  · rw [h1]; exact h3
theorem near_eq {p q : Pf} (hp : p.R) (hq : q.R) (hlt : p.1.n < q.1.n) : ((insP p q || insP q p) || hvP p q) = !decide (Apart (blk p) (blk q)) := by
  obtain ⟨hpa, hpo⟩ := hp.blk_ok
  obtain ⟨hqa, hqo⟩ := hq.blk_ok
  have hpos := Nat.two_pow_pos (freeB p)
  have hposq := Nat.two_pow_pos (freeB q)
  rw [insP_eq hp hq, insP_eq hq hp]
  have e1 : decide ((blk q).1 ≤ (blk p).1 ∧ (blk p).1 < (blk q).1 + 2 ^ (blk q).2 ∧ (blk p).2 ≤ (blk q).2) = false := decide_eq_false (by show ¬ (q.1.n ≤ p.1.n ∧ _); omega)
  have e2 : decide ((blk p).1 ≤ (blk q).1 ∧ (blk q).1 < (blk p).1 + 2 ^ (blk p).2 ∧ (blk q).2 ≤ (blk p).2) = decide (q.1.n < p.1.n + 2 ^ freeB p) := by
    apply decide_eq_decide.2
    show p.1.n ≤ q.1.n ∧ q.1.n < p.1.n + 2 ^ freeB p ∧ freeB q ≤ freeB p ↔ _
    constructor
    · exact fun h => h.2.1
    · exact fun h => ⟨by omega, h, begins_in hpa hqa hlt h⟩
  rw [e1, e2, Bool.false_or]
  by_cases ho : q.1.n < p.1.n + 2 ^ freeB p
  · rw [decide_eq_true ho, Bool.true_or]
    symm
    rw [Bool.not_eq_true', decide_eq_false_iff_not]
    intro h
    have : p.1.n + 2 ^ freeB p ≤ q.1.n := h.1
    omega
  · rw [decide_eq_false ho, Bool.false_or]
    have hap : Apart (blk p) (blk q) ↔ ¬ (p.1.n + 2 ^ freeB p = q.1.n ∧ freeB p = freeB q ∧ 2 ^ (freeB p + 1) ∣ p.1.n) := by
      constructor
      · exact fun h => h.2
      · exact fun h => ⟨by show p.1.n + 2 ^ freeB p ≤ q.1.n; omega, h⟩
    have hgoal : hvP p q = true ↔ (p.1.n + 2 ^ freeB p = q.1.n ∧ freeB p = freeB q ∧ 2 ^ (freeB p + 1) ∣ p.1.n) := by
      have hlen : 0 < p.2 → (lenZ p.1.s - (p.2 - 1)).toNat = freeB p + 1 := fun h => by
        unfold freeB; have := hp.2.2.1; omega
      unfold hvP
      rw [Bool.and_eq_true, Bool.and_eq_true, beq_iff_eq, decide_eq_true_eq]
      unfold ctB
      rw [Bool.and_eq_true, beq_iff_eq, decide_eq_true_eq]
      constructor
      · rintro ⟨h1, h2, h3, h4⟩
        have hl := hlen h2
        rw [← h3, hl] at h4
        have hV : clr p.1.v (freeB p + 1) < 2 ^ 128 := clr_lt hp.1.1.v_lt
        rw [num_of_halves _ hV] at h4
        have hf := ((free_bits hp hq h3).2).1 h1
        have en := hp.1.n_s hq.1 h3
        have hfp := hp.free_le
        have hda : 2 ^ freeB p ∣ p.1.v := clr_dvd hp.2.2.2
        have hdb : 2 ^ freeB p ∣ q.1.v := by rw [hf]; exact clr_dvd hq.2.2.2
        obtain ⟨g1, g2⟩ := half_of (c := 0) hda hdb (by omega) h4
        refine ⟨by omega, hf, ?_⟩
        rcases hp.1.six with ⟨_, k2, _⟩ | ⟨k1, k2, _⟩
        · rw [k2]; exact g2
        · rw [k2]
          have hk : freeB p + 1 ≤ 128 := by
            unfold freeB; have := hp.2.2.1; rw [k1, lenZ_true] at *; omega
          exact (Nat.dvd_add_iff_right (Nat.pow_dvd_pow 2 hk)).1 g2
      · rintro ⟨h1, h2, h3⟩
        have hs : p.1.s = q.1.s := by
          refine hp.1.s_of hq.1 ?_
          unfold OkB OkX blk at hpo
          simp only at hpo
          rcases hp.1.six with ⟨_, _, k3⟩ | ⟨_, k2, k3⟩ <;> rcases hq.1.six with ⟨_, _, j3⟩ | ⟨_, j2, j3⟩ <;> omega
        have en := hp.1.n_s hq.1 hs
        have hf := ((free_bits hp hq hs).2).2 h2
        have hvq := v_lt_len hq.1
        rw [← hs] at hvq
        have h0 : 0 < p.2 := by
          rcases Int.lt_or_le 0 p.2 with h | h
          · exact h
          · exfalso
            have : p.2 = 0 := by have := hp.2.1; omega
            have e : freeB p = (lenZ p.1.s).toNat := by unfold freeB; rw [this, Int.sub_zero]
            rw [e] at h1
            omega
        have hl := hlen h0
        refine ⟨hf, h0, hs, ?_⟩
        rw [← hs, hl]
        have hV : clr p.1.v (freeB p + 1) < 2 ^ 128 := clr_lt hp.1.1.v_lt
        rw [num_of_halves _ hV]
        have hda : 2 ^ (freeB p + 1) ∣ p.1.v := by
          rcases hp.1.six with ⟨_, k2, _⟩ | ⟨k1, k2, _⟩
          · rw [← k2]; exact h3
          · rw [k2] at h3
            have hk : freeB p + 1 ≤ 128 := by
              unfold freeB; have := hp.2.2.1; rw [k1, lenZ_true] at *; omega
            exact (Nat.dvd_add_iff_right (Nat.pow_dvd_pow 2 hk)).2 h3
        have hc := dvd_clr hda
        rw [hc]
        show clr q.1.v (freeB p + 1) = p.1.v
        rw [clr_iff hc, fil_aligned hc, Nat.pow_succ]
        omega
    by_cases hh : p.1.n + 2 ^ freeB p = q.1.n ∧ freeB p = freeB q ∧ 2 ^ (freeB p + 1) ∣ p.1.n
    · rw [hgoal.2 hh, decide_eq_false (fun h => hap.1 h hh)]; rfl
    · rw [decide_eq_true (hap.2 hh)]
      cases hx : hvP p q
      · rfl
      · exact absurd (hgoal.1 hx) hh

set_option maxHeartbeats 1000000 in
theorem overlap_any (p q : Pf) (w : World) (hp : p.R) (hq : q.R) :
    Calls Tryz.prog 41 #[pfA p, pfA q] w (GivesV (.bool (insP p q || insP q p)) w) := by
  obtain ⟨⟨p1, p2⟩, ⟨p3, p4⟩⟩ := hp.1.1
  obtain ⟨⟨q1, q2⟩, ⟨q3, q4⟩⟩ := hq.1.1
  have H1 := fun w' => Lib.hid (inside_any p.1.s p.1.hi p.1.lo p.2 q.1.s q.1.hi q.1.lo q.2 w' p1 p2 p3 p4 q1 q2 q3 q4 hq.2.1 hq.2.2.1)
  have H2 := fun w' => Lib.hid (inside_any q.1.s q.1.hi q.1.lo q.2 p.1.s p.1.hi p.1.lo p.2 w' q1 q2 q3 q4 p1 p2 p3 p4 hp.2.1 hp.2.2.1)
  obtain ⟨h1, h2⟩ := two_new w (pfC p) (pfC q) 41 41
  have hG := below_two w (.cells (pfC p).toArray 41) (.cells (pfC q).toArray 41)
  have l1 := h1.ld rowPf rfl
  have l2 := h2.ld rowPf rfl
  obtain ⟨x, hx⟩ : ∃ x, x = insP p q := ⟨_, rfl⟩
  obtain ⟨y, hy⟩ : ∃ y, y = insP q p := ⟨_, rfl⟩
  replace H1 : ∀ w', Hid (Calls Tryz.prog 72 #[pfA p, pfA q] w' (GivesV (.bool x) w')) := by rw [hx]; exact H1
  replace H2 : ∀ w', Hid (Calls Tryz.prog 72 #[pfA q, pfA p] w' (GivesV (.bool y) w')) := by rw [hy]; exact H2
  rw [← hx, ← hy]
  clear hx hy p1 p2 p3 p4 q1 q2 q3 q4 hp hq
  go_enter Tryz.func41, Tryz.ntmps41
  go_wp2_with fail
  refine (H1 _).out.mono ?_
  rintro e w1 ⟨rfl, hb1⟩
  have hG1 := hG.trans (hb1.mono hG.size)
  have k1 := (h1.below hb1).ld rowPf rfl
  have k2 := (h2.below hb1).ld rowPf rfl
  clear l1 l2 h1 h2
  cases x
  · go_wp2_with fail
    refine (H2 _).out.mono ?_
    rintro e w2 ⟨rfl, hb2⟩
    go_wp2_with fail
    go_ret
    exact ⟨by simp, hG1.trans (hb2.mono hG1.size)⟩
  · go_wp2_with fail
    go_ret
    exact ⟨by simp, hG1⟩

set_option maxHeartbeats 2000000 in
theorem halves_any (p q : Pf) (w : World) (hp : p.R) (hq : q.R) :
    Calls Tryz.prog 42 #[pfA p, pfA q] w (GivesV (.bool (hvP p q)) w) := by
  obtain ⟨⟨p1, p2⟩, ⟨p3, p4⟩⟩ := hp.1.1
  obtain ⟨⟨q1, q2⟩, ⟨q3, q4⟩⟩ := hq.1.1
  obtain ⟨h1, h2⟩ := two_new w (pfC p) (pfC q) 41 41
  have hG := below_two w (.cells (pfC p).toArray 41) (.cells (pfC q).toArray 41)
  have hB := gb_refl ((w.alloc (.cells (pfC p).toArray 41)).alloc (.cells (pfC q).toArray 41)) none
  by_cases a : p.2 = q.2
  · have b5 : (p.2 == q.2) = true := by simp [a]
    by_cases b : 0 < p.2
    · have b10 : decide (p.2 > 0) = true := by simp [b]
      have hn1 : 0 ≤ p.2 - 1 := by omega
      have hn2 : p.2 - 1 ≤ lenZ p.1.s := by have := hp.2.2.1; omega
      have hV : clr p.1.v (lenZ p.1.s - (p.2 - 1)).toNat < 2 ^ 128 := clr_lt hp.1.1.v_lt
      obtain ⟨⟨m1, m2⟩, ⟨m3, m4⟩⟩ := u64_halves _ hV
      have HM := fun w' => Lib.hid (spanMask_any p.1.s p.1.hi p.1.lo (p.2 - 1) w' p1 p2 p3 p4 hn1 hn2)
      have HC := fun w' => Lib.hid (contains_any p.1.s _ _ (p.2 - 1) q.1.s q.1.hi q.1.lo w' m1 m2 m3 m4 q1 q2 q3 q4 hn1 hn2)
      have HR := Lib.hid (show _ = hvP p q by unfold hvP; rw [b5, show decide (0 < p.2) = true from decide_eq_true b, Bool.true_and, Bool.true_and])
      have hS : IntKind.i64.wrap (p.2 - 1) = p.2 - 1 := IntWalk.i64_in _ (by have := lenZ_le p.1.s; omega)
      generalize hM : (clr p.1.v (lenZ p.1.s - (p.2 - 1)).toNat / 2 ^ 64 : Nat) = MH at *
      generalize hL : (clr p.1.v (lenZ p.1.s - (p.2 - 1)).toNat % 2 ^ 64 : Nat) = ML at *
      replace HM : ∀ w', Hid (Calls Tryz.prog 74 #[adA p.1, .int .i64 (p.2 - 1)] w' (GivesV (.agg #[.bool p.1.s, .int .u64 (MH : Int), .int .u64 (ML : Int), .int .i64 (p.2 - 1)]) w')) := by
        intro w'
        rw [← hM, ← hL]; exact HM w'
      generalize ctB p.1.s (MH : Int) (ML : Int) (p.2 - 1) q.1.s q.1.hi q.1.lo = r at *
      replace HC : ∀ w', Hid (Calls Tryz.prog 73 #[.agg #[.bool p.1.s, .int .u64 (MH : Int), .int .u64 (ML : Int), .int .i64 (p.2 - 1)], adA q.1] w' (GivesV (.bool r) w')) := HC
      clear hM hL hV m1 m2 m3 m4 hn1 hn2 a hp hq p1 p2 p3 p4 q1 q2 q3 q4
      go_enter Tryz.func42, Tryz.ntmps42
      go_wp2_with fail
      refine wx_begin (none) [] (by kernel_rfl) (fun u0 hb0' hz0' => ?_)
      replace hB := gb_trans hB (gbB hb0')
      clear hb0' hz0'
      refine wx_pureZ 0 (some 5) (v := ?_) ?_ ?_; rotate_left; · (intro u; go_simp; try with_reducible rfl)
      try simp only [Act.put, gzD, gzE, gzF]
      refine wx_takeZ 1 (some 6) (v := ?_) ?_ ?_; rotate_left; · (intro u hu; have k1 := h1.gn (gb_trans hB hu); have k2 := h2.gn (gb_trans hB hu); have c1 := k1.cell (i := 3) (v := .int .i64 p.2) rfl; have c2 := k2.cell (i := 3) (v := .int .i64 q.2) rfl; have l1 := k1.ldAt rowAd 0 (adC p.1) [.int .i64 p.2] rfl rfl; have l2 := k2.ldAt rowAd 0 (adC q.1) [.int .i64 q.2] rfl rfl; clear k1 k2; go_simp; try with_reducible rfl)
      try simp only [Act.put, gzD, gzE, gzF]
      refine wx_pureZ 2 (some 7) (v := ?_) ?_ ?_; rotate_left; · (intro u; go_simp; try with_reducible rfl)
      try simp only [Act.put, gzD, gzE, gzF]
      refine wx_takeZ 3 (some 8) (v := ?_) ?_ ?_; rotate_left; · (intro u hu; have k1 := h1.gn (gb_trans hB hu); have k2 := h2.gn (gb_trans hB hu); have c1 := k1.cell (i := 3) (v := .int .i64 p.2) rfl; have c2 := k2.cell (i := 3) (v := .int .i64 q.2) rfl; have l1 := k1.ldAt rowAd 0 (adC p.1) [.int .i64 p.2] rfl rfl; have l2 := k2.ldAt rowAd 0 (adC q.1) [.int .i64 q.2] rfl rfl; clear k1 k2; go_simp; try with_reducible rfl)
      try simp only [Act.put, gzD, gzE, gzF]
      refine wx_pureZ 4 (some 9) (v := ?_) ?_ ?_; rotate_left; · (intro u; go_simp; try with_reducible rfl)
      try simp only [Act.put, gzD, gzE, gzF]
      refine wx_pureZ 5 (some 10) (v := ?_) ?_ ?_; rotate_left; · (intro u; go_simp; try with_reducible rfl)
      try simp only [Act.put, gzD, gzE, gzF]
      refine wx_pureZ 6 (some 11) (v := ?_) ?_ ?_; rotate_left; · (intro u; go_simp; try with_reducible rfl)
      try simp only [Act.put, gzD, gzE, gzF]
      refine wx_takeZ 7 (some 12) (v := ?_) ?_ ?_; rotate_left; · (intro u hu; have k1 := h1.gn (gb_trans hB hu); have k2 := h2.gn (gb_trans hB hu); have c1 := k1.cell (i := 3) (v := .int .i64 p.2) rfl; have c2 := k2.cell (i := 3) (v := .int .i64 q.2) rfl; have l1 := k1.ldAt rowAd 0 (adC p.1) [.int .i64 p.2] rfl rfl; have l2 := k2.ldAt rowAd 0 (adC q.1) [.int .i64 q.2] rfl rfl; clear k1 k2; go_simp; try with_reducible rfl)
      try simp only [Act.put, gzD, gzE, gzF]
      refine wx_pureZ 8 (some 13) (v := ?_) ?_ ?_; rotate_left; · (intro u; go_simp; try with_reducible rfl)
      try simp only [Act.put, gzD, gzE, gzF]
      refine wx_pureZ 9 (some 14) (v := ?_) ?_ ?_; rotate_left; · (intro u; go_simp; try with_reducible rfl)
      try simp only [Act.put, gzD, gzE, gzF]
      refine wx_pureZ 10 (some 15) (v := ?_) ?_ ?_; rotate_left; · (intro u; go_simp; try with_reducible rfl)
      try simp only [Act.put, gzD, gzE, gzF]
      refine wx_pureZ 11 (some 16) (v := ?_) ?_ ?_; rotate_left; · (intro u; go_simp; try with_reducible rfl)
      try simp only [Act.put, gzD, gzE, gzF]
      refine wx_takeZ 12 (some 17) (v := ?_) ?_ ?_; rotate_left; · (intro u hu; have k1 := h1.gn (gb_trans hB hu); have k2 := h2.gn (gb_trans hB hu); have c1 := k1.cell (i := 3) (v := .int .i64 p.2) rfl; have c2 := k2.cell (i := 3) (v := .int .i64 q.2) rfl; have l1 := k1.ldAt rowAd 0 (adC p.1) [.int .i64 p.2] rfl rfl; have l2 := k2.ldAt rowAd 0 (adC q.1) [.int .i64 q.2] rfl rfl; clear k1 k2; go_simp; try with_reducible rfl)
      try simp only [Act.put, gzD, gzE, gzF]
      refine wx_pureZ 13 (some 18) (v := ?_) ?_ ?_; rotate_left; · (intro u; go_simp; try with_reducible rfl)
      try simp only [Act.put, gzD, gzE, gzF]
      refine wx_takeZ 14 (some 19) (v := ?_) ?_ ?_; rotate_left; · (intro u hu; have k1 := h1.gn (gb_trans hB hu); have k2 := h2.gn (gb_trans hB hu); have c1 := k1.cell (i := 3) (v := .int .i64 p.2) rfl; have c2 := k2.cell (i := 3) (v := .int .i64 q.2) rfl; have l1 := k1.ldAt rowAd 0 (adC p.1) [.int .i64 p.2] rfl rfl; have l2 := k2.ldAt rowAd 0 (adC q.1) [.int .i64 q.2] rfl rfl; clear k1 k2; go_simp; try with_reducible rfl)
      try simp only [Act.put, gzD, gzE, gzF]
      refine wx_pureZ 15 (some 20) (v := ?_) ?_ ?_; rotate_left; · (intro u; go_simp; try with_reducible rfl)
      try simp only [Act.put, gzD, gzE, gzF]
      refine wx_pureZ 17 (some 22) (v := ?_) ?_ ?_; rotate_left; · (intro u; go_simp; try with_reducible rfl)
      try simp only [Act.put, gzD, gzE, gzF]
      refine wx_takeZ 18 (some 23) (v := ?_) ?_ ?_; rotate_left; · (intro u hu; have k1 := h1.gn (gb_trans hB hu); have k2 := h2.gn (gb_trans hB hu); have c1 := k1.cell (i := 3) (v := .int .i64 p.2) rfl; have c2 := k2.cell (i := 3) (v := .int .i64 q.2) rfl; have l1 := k1.ldAt rowAd 0 (adC p.1) [.int .i64 p.2] rfl rfl; have l2 := k2.ldAt rowAd 0 (adC q.1) [.int .i64 q.2] rfl rfl; clear k1 k2; go_simp; try with_reducible rfl)
      try simp only [Act.put, gzD, gzE, gzF]
      refine wx_oneZ 16 (fun K hK => ?_)
      go_simp
      refine (HM _).out.mono ?_
      rintro e u1 ⟨rfl, hv1⟩
      refine hK _ _ (gbB hv1) ?_
      replace hB := gb_trans hB (gbB hv1)
      clear hK K hv1
      try simp only [Act.put, gzD, gzE, gzF]
      refine wx_oneZ 19 (fun K hK => ?_)
      go_simp
      refine (HC _).out.mono ?_
      rintro e u2 ⟨rfl, hv2⟩
      refine hK _ _ (gbB hv2) ?_
      replace hB := gb_trans hB (gbB hv2)
      clear hK K hv2
      try simp only [Act.put, gzD, gzE, gzF]
      refine wx_pureZ 20 (some 25) (v := ?_) ?_ ?_; rotate_left; · (intro u; go_simp; try with_reducible rfl)
      try simp only [Act.put, gzD, gzE, gzF]
      refine wx_pureZ 21 (some 4) (v := ?_) ?_ ?_; rotate_left; · (intro u; go_simp; try with_reducible rfl)
      try simp only [Act.put, gzD, gzE, gzF]
      refine wx_done (by kernel_rfl) ?_ _
      go_wp2_with fail
      go_ret
      exact ⟨ret_bool HR.out, hG.trans ((gb2B hB).mono hG.size)⟩
    · have b10 : decide (p.2 > 0) = false := by simp; omega
      have HR := Lib.hid (show false = hvP p q by unfold hvP; rw [show decide (0 < p.2) = false from decide_eq_false b, Bool.false_and, Bool.and_false])
      clear a b hp hq p1 p2 p3 p4 q1 q2 q3 q4
      go_enter Tryz.func42, Tryz.ntmps42
      go_wp2_with fail
      refine wx_begin (none) [] (by kernel_rfl) (fun u0 hb0' hz0' => ?_)
      replace hB := gb_trans hB (gbB hb0')
      clear hb0' hz0'
      refine wx_pureZ 0 (some 5) (v := ?_) ?_ ?_; rotate_left; · (intro u; go_simp; try with_reducible rfl)
      try simp only [Act.put, gzD, gzE, gzF]
      refine wx_takeZ 1 (some 6) (v := ?_) ?_ ?_; rotate_left; · (intro u hu; have k1 := h1.gn (gb_trans hB hu); have k2 := h2.gn (gb_trans hB hu); have c1 := k1.cell (i := 3) (v := .int .i64 p.2) rfl; have c2 := k2.cell (i := 3) (v := .int .i64 q.2) rfl; have l1 := k1.ldAt rowAd 0 (adC p.1) [.int .i64 p.2] rfl rfl; have l2 := k2.ldAt rowAd 0 (adC q.1) [.int .i64 q.2] rfl rfl; clear k1 k2; go_simp; try with_reducible rfl)
      try simp only [Act.put, gzD, gzE, gzF]
      refine wx_pureZ 2 (some 7) (v := ?_) ?_ ?_; rotate_left; · (intro u; go_simp; try with_reducible rfl)
      try simp only [Act.put, gzD, gzE, gzF]
      refine wx_takeZ 3 (some 8) (v := ?_) ?_ ?_; rotate_left; · (intro u hu; have k1 := h1.gn (gb_trans hB hu); have k2 := h2.gn (gb_trans hB hu); have c1 := k1.cell (i := 3) (v := .int .i64 p.2) rfl; have c2 := k2.cell (i := 3) (v := .int .i64 q.2) rfl; have l1 := k1.ldAt rowAd 0 (adC p.1) [.int .i64 p.2] rfl rfl; have l2 := k2.ldAt rowAd 0 (adC q.1) [.int .i64 q.2] rfl rfl; clear k1 k2; go_simp; try with_reducible rfl)
      try simp only [Act.put, gzD, gzE, gzF]
      refine wx_pureZ 4 (some 9) (v := ?_) ?_ ?_; rotate_left; · (intro u; go_simp; try with_reducible rfl)
      try simp only [Act.put, gzD, gzE, gzF]
      refine wx_pureZ 5 (some 10) (v := ?_) ?_ ?_; rotate_left; · (intro u; go_simp; try with_reducible rfl)
      try simp only [Act.put, gzD, gzE, gzF]
      refine wx_pureZ 6 (some 11) (v := ?_) ?_ ?_; rotate_left; · (intro u; go_simp; try with_reducible rfl)
      try simp only [Act.put, gzD, gzE, gzF]
      refine wx_takeZ 7 (some 12) (v := ?_) ?_ ?_; rotate_left; · (intro u hu; have k1 := h1.gn (gb_trans hB hu); have k2 := h2.gn (gb_trans hB hu); have c1 := k1.cell (i := 3) (v := .int .i64 p.2) rfl; have c2 := k2.cell (i := 3) (v := .int .i64 q.2) rfl; have l1 := k1.ldAt rowAd 0 (adC p.1) [.int .i64 p.2] rfl rfl; have l2 := k2.ldAt rowAd 0 (adC q.1) [.int .i64 q.2] rfl rfl; clear k1 k2; go_simp; try with_reducible rfl)
      try simp only [Act.put, gzD, gzE, gzF]
      refine wx_pureZ 8 (some 13) (v := ?_) ?_ ?_; rotate_left; · (intro u; go_simp; try with_reducible rfl)
      try simp only [Act.put, gzD, gzE, gzF]
      refine wx_pureZ 9 (some 14) (v := ?_) ?_ ?_; rotate_left; · (intro u; go_simp; try with_reducible rfl)
      try simp only [Act.put, gzD, gzE, gzF]
      refine wx_pureZ 10 (some 15) (v := ?_) ?_ ?_; rotate_left; · (intro u; go_simp; try with_reducible rfl)
      try simp only [Act.put, gzD, gzE, gzF]
      refine wx_skipZ 11 (some 16) ?_
      try simp only [Act.put, gzD, gzE, gzF]
      refine wx_skipZ 12 (some 17) ?_
      try simp only [Act.put, gzD, gzE, gzF]
      refine wx_skipZ 13 (some 18) ?_
      try simp only [Act.put, gzD, gzE, gzF]
      refine wx_skipZ 14 (some 19) ?_
      try simp only [Act.put, gzD, gzE, gzF]
      refine wx_skipZ 15 (some 20) ?_
      try simp only [Act.put, gzD, gzE, gzF]
      refine wx_skipZ 16 (some 21) ?_
      try simp only [Act.put, gzD, gzE, gzF]
      refine wx_skipZ 17 (some 22) ?_
      try simp only [Act.put, gzD, gzE, gzF]
      refine wx_skipZ 18 (some 23) ?_
      try simp only [Act.put, gzD, gzE, gzF]
      refine wx_skipZ 19 (some 24) ?_
      try simp only [Act.put, gzD, gzE, gzF]
      refine wx_pureZ 20 (some 25) (v := ?_) ?_ ?_; rotate_left; · (intro u; go_simp; try with_reducible rfl)
      try simp only [Act.put, gzD, gzE, gzF]
      refine wx_pureZ 21 (some 4) (v := ?_) ?_ ?_; rotate_left; · (intro u; go_simp; try with_reducible rfl)
      try simp only [Act.put, gzD, gzE, gzF]
      refine wx_done (by kernel_rfl) ?_ _
      go_wp2_with fail
      go_ret
      exact ⟨ret_bool HR.out, hG.trans ((gb2B hB).mono hG.size)⟩
  · have b5 : (p.2 == q.2) = false := by simp [a]
    have HR := Lib.hid (show false = hvP p q by unfold hvP; rw [b5, Bool.false_and])
    clear a hp hq p1 p2 p3 p4 q1 q2 q3 q4
    go_enter Tryz.func42, Tryz.ntmps42
    go_wp2_with fail
    refine wx_begin (none) [] (by kernel_rfl) (fun u0 hb0' hz0' => ?_)
    replace hB := gb_trans hB (gbB hb0')
    clear hb0' hz0'
    refine wx_pureZ 0 (some 5) (v := ?_) ?_ ?_; rotate_left; · (intro u; go_simp; try with_reducible rfl)
    try simp only [Act.put, gzD, gzE, gzF]
    refine wx_takeZ 1 (some 6) (v := ?_) ?_ ?_; rotate_left; · (intro u hu; have k1 := h1.gn (gb_trans hB hu); have k2 := h2.gn (gb_trans hB hu); have c1 := k1.cell (i := 3) (v := .int .i64 p.2) rfl; have c2 := k2.cell (i := 3) (v := .int .i64 q.2) rfl; have l1 := k1.ldAt rowAd 0 (adC p.1) [.int .i64 p.2] rfl rfl; have l2 := k2.ldAt rowAd 0 (adC q.1) [.int .i64 q.2] rfl rfl; clear k1 k2; go_simp; try with_reducible rfl)
    try simp only [Act.put, gzD, gzE, gzF]
    refine wx_pureZ 2 (some 7) (v := ?_) ?_ ?_; rotate_left; · (intro u; go_simp; try with_reducible rfl)
    try simp only [Act.put, gzD, gzE, gzF]
    refine wx_takeZ 3 (some 8) (v := ?_) ?_ ?_; rotate_left; · (intro u hu; have k1 := h1.gn (gb_trans hB hu); have k2 := h2.gn (gb_trans hB hu); have c1 := k1.cell (i := 3) (v := .int .i64 p.2) rfl; have c2 := k2.cell (i := 3) (v := .int .i64 q.2) rfl; have l1 := k1.ldAt rowAd 0 (adC p.1) [.int .i64 p.2] rfl rfl; have l2 := k2.ldAt rowAd 0 (adC q.1) [.int .i64 q.2] rfl rfl; clear k1 k2; go_simp; try with_reducible rfl)
    try simp only [Act.put, gzD, gzE, gzF]
    refine wx_pureZ 4 (some 9) (v := ?_) ?_ ?_; rotate_left; · (intro u; go_simp; try with_reducible rfl)
    try simp only [Act.put, gzD, gzE, gzF]
    refine wx_pureZ 5 (some 10) (v := ?_) ?_ ?_; rotate_left; · (intro u; go_simp; try with_reducible rfl)
    try simp only [Act.put, gzD, gzE, gzF]
    refine wx_skipZ 6 (some 11) ?_
    try simp only [Act.put, gzD, gzE, gzF]
    refine wx_skipZ 7 (some 12) ?_
    try simp only [Act.put, gzD, gzE, gzF]
    refine wx_skipZ 8 (some 13) ?_
    try simp only [Act.put, gzD, gzE, gzF]
    refine wx_pureZ 9 (some 14) (v := ?_) ?_ ?_; rotate_left; · (intro u; go_simp; try with_reducible rfl)
    try simp only [Act.put, gzD, gzE, gzF]
    refine wx_pureZ 10 (some 15) (v := ?_) ?_ ?_; rotate_left; · (intro u; go_simp; try with_reducible rfl)
    try simp only [Act.put, gzD, gzE, gzF]
    refine wx_skipZ 11 (some 16) ?_
    try simp only [Act.put, gzD, gzE, gzF]
    refine wx_skipZ 12 (some 17) ?_
    try simp only [Act.put, gzD, gzE, gzF]
    refine wx_skipZ 13 (some 18) ?_
    try simp only [Act.put, gzD, gzE, gzF]
    refine wx_skipZ 14 (some 19) ?_
    try simp only [Act.put, gzD, gzE, gzF]
    refine wx_skipZ 15 (some 20) ?_
    try simp only [Act.put, gzD, gzE, gzF]
    refine wx_skipZ 16 (some 21) ?_
    try simp only [Act.put, gzD, gzE, gzF]
    refine wx_skipZ 17 (some 22) ?_
    try simp only [Act.put, gzD, gzE, gzF]
    refine wx_skipZ 18 (some 23) ?_
    try simp only [Act.put, gzD, gzE, gzF]
    refine wx_skipZ 19 (some 24) ?_
    try simp only [Act.put, gzD, gzE, gzF]
    refine wx_pureZ 20 (some 25) (v := ?_) ?_ ?_; rotate_left; · (intro u; go_simp; try with_reducible rfl)
    try simp only [Act.put, gzD, gzE, gzF]
    refine wx_pureZ 21 (some 4) (v := ?_) ?_ ?_; rotate_left; · (intro u; go_simp; try with_reducible rfl)
    try simp only [Act.put, gzD, gzE, gzF]
    refine wx_done (by kernel_rfl) ?_ _
    go_wp2_with fail
    go_ret
    exact ⟨ret_bool HR.out, hG.trans ((gb2B hB).mono hG.size)⟩
end Go.Proofs.YtkldcmmlllkhkaaGreatDoor
