/- Sets: the widest prefix. -/
import Derived.Test.YthjhokicojgpbaaGreatDoorKdStJ
namespace Go.Proofs.YthjhokicojgpbaaGreatDoor
open Go.RowKit
set_option linter.unusedVariables false
set_option linter.unusedSimpArgs false

/-- A struct that lies in a block is handed back. -/
theorem results_row {fn : Func} {p : Tmp} {ty : TypeId} {k : Nat} (T : RowT ty k) (h : fn.results = #[.cell p ty]) (tmps : Array Value) (w : World) (g : Nat) (t : TypeId) (cs : List Value)
    (hp : tmps.getD p undef = .pointer (some ⟨g, 0, none⟩)) (hg : Blk w g cs t) (hl : cs.length = k) :
    (results fn tmps).run Tryz.prog w = .ok (.agg cs.toArray) w := by
  obtain ⟨d, hu, hd⟩ := T.row
  have := run_loadVar_mid (P := Tryz.prog) w g 0 ty cs d (hg.range 0 cs [] (by simp)) hu hd (by rw [T.size, hl])
  have hp' : tmps[p]?.getD undef = .pointer (some ⟨g, 0, none⟩) := by simpa using hp
  simp [results, h, hp', asAddr, this, Result.andThen]

/-- The longest block that begins at an address and lies ahead of the end of another one. -/
theorem widest_math {a b : Ad} {p : Nat} (ha : a.R) (hb : b.R) (hs : a.s = b.s) (hle : a.n ≤ b.n) (hp : IsLog (b.v - a.v + 1) p) : min (zerosA a) p = bigK a.n (b.n + 1) := by
  have hva := ha.1.v_lt
  have hvb := hb.1.v_lt
  have hvs : b.n - a.n = b.v - a.v ∧ a.v ≤ b.v := by unfold Ad.n at *; rw [hs] at *; omega
  have hsz : b.n + 1 - a.n = b.v - a.v + 1 := by omega
  obtain ⟨hp1, hp2⟩ := hp
  have hpl : p ≤ 128 := by
    rcases Nat.lt_or_ge 128 p with h | h
    · have := Nat.pow_lt_pow_right (a := 2) (by decide) h; omega
    · exact h
  have hdv : ∀ k, k ≤ 128 → (2 ^ k ∣ a.n ↔ 2 ^ k ∣ a.v) := fun k hk => by
    unfold Ad.n
    cases a.s
    · rw [s2n_false, Nat.zero_add]
    · rw [s2n_true]; exact (Nat.dvd_add_iff_right (Nat.pow_dvd_pow 2 hk)).symm
  refine isBig_unique ?_ (bigK_is (by omega) (by omega))
  have hz := zerosA_spec ha.1
  have hzd : 2 ^ min (zerosA a) p ∣ a.v := by
    rcases hz with ⟨h1, h2⟩ | ⟨h1, h2, h3⟩
    · rw [h1]; exact Nat.dvd_zero _
    · exact Nat.dvd_trans (Nat.pow_dvd_pow 2 (Nat.min_le_left _ _)) h1
  have hmp := Nat.pow_le_pow_right (show 0 < 2 by decide) (Nat.min_le_right (zerosA a) p)
  refine ⟨(hdv _ (by omega)).2 hzd, by omega, ?_⟩
  rintro ⟨h5, h6⟩
  rcases Nat.lt_or_ge (zerosA a) p with h | h
  · rw [Nat.min_eq_left (Nat.le_of_lt h)] at h5
    rcases hz with ⟨_, h2⟩ | ⟨_, h2, h3⟩
    · omega
    · exact h2 ((hdv _ (by omega)).1 h5)
  · rw [Nat.min_eq_right h] at h6
    omega

set_option maxHeartbeats 4000000 in
theorem widest_any (a b : Ad) (w : World) (ha : a.R) (hb : b.R) (hs : a.s = b.s) (hle : a.n ≤ b.n) (hT : Tz w) :
    Calls Tryz.prog 172 #[adA a, adA b] w (GivesV (pfA (pfOf (a.n, bigK a.n (b.n + 1)))) w) := by
  have HM := fun p => Lib.hid (widest_math (p := p) ha hb hs hle)
  have hl : lenZ a.s ≤ 128 := by rcases lenZ_le a.s with h | h <;> omega
  have hl0 : 0 ≤ lenZ a.s := by rcases lenZ_le a.s with h | h <;> omega
  have ea := Lib.hid (adOf_of ha.1)
  have hle' : a.v ≤ b.v := by unfold Ad.n at hle; rw [hs] at hle; omega
  obtain ⟨h1', h2'⟩ := two_new w (adC a) (adC b) 28 28
  obtain ⟨W0, hW0⟩ : ∃ W0, W0 = ((w.alloc (.cells (adC a).toArray 28)).alloc (.cells (adC b).toArray 28)).alloc (.cells #[.bool false, .int .u64 0, .int .u64 0, .int .i64 0] 52) := ⟨_, rfl⟩
  have h1 : Blk W0 w.heap.size (adC a) 28 := by rw [hW0]; exact h1'.alloc _
  have h2 : Blk W0 (w.heap.size + 1) (adC b) 28 := by rw [hW0]; exact h2'.alloc _
  have h3 : Blk W0 (w.heap.size + 1 + 1) [.bool false, .int .u64 0, .int .u64 0, .int .i64 0] 52 := by
    rw [hW0]
    have := Blk.new ((w.alloc (.cells (adC a).toArray 28)).alloc (.cells (adC b).toArray 28)) [.bool false, .int .u64 0, .int .u64 0, .int .i64 0] 52
    simpa using this
  have hG : Below w.heap.size w W0 := by rw [hW0]; exact (below_two _ _ _).alloc (by simp; omega) _
  have hT0 : Tz W0 := hT.below hG
  have hB := gb_refl W0 none
  replace hT := Lib.hid hT0
  replace ha := Lib.hid ha
  replace hb := Lib.hid hb
  replace hle := Lib.hid hle'
  clear h1' h2' hs hle' hT0
  go_enter Tryz.func172, Tryz.ntmps172
  go_wp2_with fail
  rw [← hW0]
  clear hW0
  refine wx_begin (none) [] (by kernel_rfl) (fun u0 hb0' hz0' => ?_)
  replace hB := gb_trans hB (gbB hb0')
  clear hb0' hz0'
  refine wx_take (i := 0) (d := some 6) (v := ?_) (by simp only [List.getElem?_toArray, List.getElem?_cons_succ, List.getElem?_cons_zero] <;> rfl) (by rfl) (by kernel_rfl) (by kernel_rfl) (by kernel_rfl) (fun _ _ _ h => h) (by rfl) (by kernel_rfl) ?_ ?_
  rotate_left
  · ((intro u hu); have k1 := h1.gn (gb_trans hB hu); have k2 := h2.gn (gb_trans hB hu); have l1 := k1.ld rowAd rfl; have l2 := k2.ld rowAd rfl; have q0 := k1.cell (i := 0) (v := .bool a.s) rfl; clear k1 k2; go_simp; try with_reducible rfl)
  try simp only [Act.put, List.setIfInBounds_toArray, List.set_cons_zero, List.set_cons_succ]
  refine wx_take (i := 2) (d := some 8) (v := ?_) (by simp only [List.getElem?_toArray, List.getElem?_cons_succ, List.getElem?_cons_zero] <;> rfl) (by rfl) (by kernel_rfl) (by kernel_rfl) (by kernel_rfl) (fun _ _ _ h => h) (by rfl) (by kernel_rfl) ?_ ?_
  rotate_left
  · ((intro u hu); have k1 := h1.gn (gb_trans hB hu); have k2 := h2.gn (gb_trans hB hu); have l1 := k1.ld rowAd rfl; have l2 := k2.ld rowAd rfl; have q0 := k1.cell (i := 0) (v := .bool a.s) rfl; clear k1 k2; go_simp; try with_reducible rfl)
  try simp only [Act.put, List.setIfInBounds_toArray, List.set_cons_zero, List.set_cons_succ]
  refine wx_take (i := 3) (d := some 9) (v := ?_) (by simp only [List.getElem?_toArray, List.getElem?_cons_succ, List.getElem?_cons_zero] <;> rfl) (by rfl) (by kernel_rfl) (by kernel_rfl) (by kernel_rfl) (fun _ _ _ h => h) (by rfl) (by kernel_rfl) ?_ ?_
  rotate_left
  · ((intro u hu); have k1 := h1.gn (gb_trans hB hu); have k2 := h2.gn (gb_trans hB hu); have l1 := k1.ld rowAd rfl; have l2 := k2.ld rowAd rfl; have q0 := k1.cell (i := 0) (v := .bool a.s) rfl; clear k1 k2; go_simp; try with_reducible rfl)
  try simp only [Act.put, List.setIfInBounds_toArray, List.set_cons_zero, List.set_cons_succ]
  refine wx_one (i := 1) (by simp only [List.getElem?_toArray, List.getElem?_cons_succ, List.getElem?_cons_zero] <;> rfl) (by kernel_rfl) (by rfl) (fun K hK => ?_)
  go_simp
  refine (zeros_any a _ ha.out.1 (hT.out.below (gb2B hB))).mono ?_
  rintro e u1 ⟨rfl, hv1⟩
  refine hK _ _ hv1.1 ?_
  replace hB := gb_trans hB hv1.1
  clear hK K hv1
  try simp only [Act.put, List.setIfInBounds_toArray, List.set_cons_zero, List.set_cons_succ]
  refine wx_one (i := 4) (by simp only [List.getElem?_toArray, List.getElem?_cons_succ, List.getElem?_cons_zero] <;> rfl) (by kernel_rfl) (by rfl) (fun K hK => ?_)
  go_simp
  refine (power_any a b _ ha.out.1 hb.out.1 hle.out).mono ?_
  rintro e u2 ⟨p, hp1, hp2, rfl, hv2⟩
  replace hp2 := Lib.hid hp2
  refine hK _ _ hv2.1 ?_
  replace hB := gb_trans hB hv2.1
  clear hK K hv2
  try simp only [Act.put, List.setIfInBounds_toArray, List.set_cons_zero, List.set_cons_succ]
  refine wx_pure (i := 5) (d := some 11) (v := ?_) (by simp only [List.getElem?_toArray, List.getElem?_cons_succ, List.getElem?_cons_zero] <;> rfl) (by rfl) (by kernel_rfl) (by kernel_rfl) (by kernel_rfl) (fun _ _ _ h => h) (by rfl) ?_ ?_
  rotate_left
  · ((intro u); go_simp; try with_reducible rfl)
  try simp only [Act.put, List.setIfInBounds_toArray, List.set_cons_zero, List.set_cons_succ]
  refine wx_pure (i := 6) (d := some 5) (v := ?_) (by simp only [List.getElem?_toArray, List.getElem?_cons_succ, List.getElem?_cons_zero] <;> rfl) (by rfl) (by kernel_rfl) (by kernel_rfl) (by kernel_rfl) (fun _ _ _ h => h) (by rfl) ?_ ?_
  rotate_left
  · ((intro u); go_simp; try with_reducible rfl)
  try simp only [Act.put, List.setIfInBounds_toArray, List.set_cons_zero, List.set_cons_succ]
  refine wx_done (by kernel_rfl) ?_ _
  skip
  have hHM := (HM p).out hp2.out
  have hz128 : zerosA a ≤ 128 := by
    rcases zerosA_spec ha.out.1 with h | h <;> omega
  go_wp2_with fail
  rw [show min (zerosA a : Int) (p : Int) = ((min (zerosA a) p : Nat) : Int) by omega]
  have hz1 : min (zerosA a) p ≤ 128 := by omega
  generalize min (zerosA a) p = z at *
  have HV := Lib.hid (show pfA (pfOf (a.n, bigK a.n (b.n + 1))) = pfA (a, lenZ a.s - (z : Int)) by
    rw [← hHM]
    show pfA (adOf a.n, lenZ (adOf a.n).s - (z : Int)) = _
    rw [ea.out])
  have hS : IntKind.i64.wrap (lenZ a.s - (z : Int)) = lenZ a.s - (z : Int) := IntWalk.i64_in _ (by omega)
  clear hHM hz1 hp1 hp2 hz128 HM ea hT ha hb hle
  refine wx_begin (none) [7] (by kernel_rfl) (fun u0 hb0' hz0' => ?_)
  replace hB := gb_trans hB (gbB hb0')
  clear hb0' hz0'
  refine wx_take (i := 0) (d := some 12) (v := ?_) (by simp only [List.getElem?_toArray, List.getElem?_cons_succ, List.getElem?_cons_zero] <;> rfl) (by rfl) (by kernel_rfl) (by kernel_rfl) (by kernel_rfl) (fun _ _ _ h => h) (by rfl) (by kernel_rfl) ?_ ?_
  rotate_left
  · ((intro u hu); have k1 := h1.gn (gb_trans hB hu); have k2 := h2.gn (gb_trans hB hu); have l1 := k1.ld rowAd rfl; have l2 := k2.ld rowAd rfl; have q0 := k1.cell (i := 0) (v := .bool a.s) rfl; clear k1 k2; go_simp; try with_reducible rfl)
  try simp only [Act.put, List.setIfInBounds_toArray, List.set_cons_zero, List.set_cons_succ]
  refine wx_pure (i := 1) (d := some 13) (v := ?_) (by simp only [List.getElem?_toArray, List.getElem?_cons_succ, List.getElem?_cons_zero] <;> rfl) (by rfl) (by kernel_rfl) (by kernel_rfl) (by kernel_rfl) (fun _ _ _ h => h) (by rfl) ?_ ?_
  rotate_left
  · ((intro u); go_simp; try with_reducible rfl)
  try simp only [Act.put, List.setIfInBounds_toArray, List.set_cons_zero, List.set_cons_succ]
  refine wx_take (i := 2) (d := some 14) (v := ?_) (by simp only [List.getElem?_toArray, List.getElem?_cons_succ, List.getElem?_cons_zero] <;> rfl) (by rfl) (by kernel_rfl) (by kernel_rfl) (by kernel_rfl) (fun _ _ _ h => h) (by rfl) (by kernel_rfl) ?_ ?_
  rotate_left
  · ((intro u hu); have k1 := h1.gn (gb_trans hB hu); have k2 := h2.gn (gb_trans hB hu); have l1 := k1.ld rowAd rfl; have l2 := k2.ld rowAd rfl; have q0 := k1.cell (i := 0) (v := .bool a.s) rfl; clear k1 k2; go_simp; try with_reducible rfl)
  try simp only [Act.put, List.setIfInBounds_toArray, List.set_cons_zero, List.set_cons_succ]
  refine wx_pure (i := 4) (d := some 16) (v := ?_) (by simp only [List.getElem?_toArray, List.getElem?_cons_succ, List.getElem?_cons_zero] <;> rfl) (by rfl) (by kernel_rfl) (by kernel_rfl) (by kernel_rfl) (fun _ _ _ h => h) (by rfl) ?_ ?_
  rotate_left
  · ((intro u); go_simp; try with_reducible rfl)
  try simp only [Act.put, List.setIfInBounds_toArray, List.set_cons_zero, List.set_cons_succ]
  refine wx_one (i := 3) (by simp only [List.getElem?_toArray, List.getElem?_cons_succ, List.getElem?_cons_zero] <;> rfl) (by kernel_rfl) (by rfl) (fun K hK => ?_)
  go_simp
  refine (spanLength_any _ _).mono ?_
  rintro e u3 ⟨rfl, rfl⟩
  refine hK _ _ (gb_refl _ _) ?_
  clear hK K
  try simp only [Act.put, List.setIfInBounds_toArray, List.set_cons_zero, List.set_cons_succ]
  refine wx_pure (i := 5) (d := some 17) (v := ?_) (by simp only [List.getElem?_toArray, List.getElem?_cons_succ, List.getElem?_cons_zero] <;> rfl) (by rfl) (by kernel_rfl) (by kernel_rfl) (by kernel_rfl) (fun _ _ _ h => h) (by rfl) ?_ ?_
  rotate_left
  · ((intro u); go_simp; try with_reducible rfl)
  try simp only [Act.put, List.setIfInBounds_toArray, List.set_cons_zero, List.set_cons_succ]
  refine wx_pure (i := 6) (d := some 18) (v := ?_) (by simp only [List.getElem?_toArray, List.getElem?_cons_succ, List.getElem?_cons_zero] <;> rfl) (by rfl) (by kernel_rfl) (by kernel_rfl) (by kernel_rfl) (fun _ _ _ h => h) (by rfl) ?_ ?_
  rotate_left
  · ((intro u); go_simp; try with_reducible rfl)
  try simp only [Act.put, List.setIfInBounds_toArray, List.set_cons_zero, List.set_cons_succ]
  refine wx_store (i := 7) (by simp only [List.getElem?_toArray, List.getElem?_cons_succ, List.getElem?_cons_zero] <;> rfl) (by kernel_rfl) (by rfl) (by kernel_rfl) (fun K hK => ?_)
  go_simp
  have k3 := h3.gn hB
  have S1 := stT_row rowPf k3 rfl (pfC_len (a, lenZ a.s - (z : Int))) (pfC_one _)
  go_simp
  refine hK _ _ ?_
  have k4 := k3.row (pfC (a, lenZ a.s - (z : Int)))
  have hW := below_row (hG.trans ((gb2B hB).mono hG.size)) (show w.heap.size ≤ w.heap.size + 1 + 1 by omega) (pfC (a, lenZ a.s - (z : Int))).toArray
  clear hK K S1 k3
  try simp only [Act.put, List.setIfInBounds_toArray, List.set_cons_zero, List.set_cons_succ]
  refine wx_done (by kernel_rfl) ?_ _
  go_wp2_with fail
  refine bodyPost_ret (v := pfA (a, lenZ a.s - (z : Int))) (results_row rowPf rfl _ _ _ _ _ rfl k4 rfl) rfl ⟨by rw [HV.out], hW⟩
end Go.Proofs.YthjhokicojgpbaaGreatDoor
