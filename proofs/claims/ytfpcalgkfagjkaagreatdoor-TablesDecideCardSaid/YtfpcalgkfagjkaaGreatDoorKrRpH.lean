/- Reports: how the reference compares addresses and lists of numbers. -/
import Derived.Test.YtfpcalgkfagjkaaGreatDoorKrGzA
import Derived.Test.YtfpcalgkfagjkaaGreatDoorKrTdK
import Derived.Test.YtfpcalgkfagjkaaGreatDoorKrRpO
import Derived.Test.YtfpcalgkfagjkaaGreatDoorKrPfxD
set_option linter.unusedVariables false
set_option linter.unusedSimpArgs false
namespace Go.Proofs.YtfpcalgkfagjkaaGreatDoor
open Go.RowKit

theorem digS {V : Nat} (s : Bool) (hV : V < 2 ^ 128) (j : Nat) (hj : j < 8) : dig (s2n s + V) j = dig V j := by
  cases s
  · rw [s2n_false, Nat.zero_add]
  · rw [s2n_true]
    unfold dig
    have e : (2 : Nat) ^ 128 = 2 ^ (16 * j) * (2 ^ (112 - 16 * j) * 2 ^ 16) := by rw [← Nat.pow_add, ← Nat.pow_add]; congr 1; omega
    have hp := Nat.two_pow_pos (16 * j)
    rw [e, Nat.mul_add_div hp, Nat.mul_comm (2 ^ (112 - 16 * j)), Nat.add_comm, Nat.add_mul_mod_self_left]
theorem digT {V : Nat} (s : Bool) (hV : V < 2 ^ 128) : ((dig (s2n s + V) 8 : Nat) : Int) = b2i s := by
  unfold dig
  show (((s2n s + V) / 2 ^ 128 % 2 ^ 16 : Nat) : Int) = b2i s
  cases s
  · rw [s2n_false, Nat.zero_add, Nat.div_eq_of_lt hV]; rfl
  · rw [s2n_true, show (2 ^ 128 + V) / 2 ^ 128 = 1 by omega]; rfl
theorem wV_n {V : Nat} (s : Bool) (hV : V < 2 ^ 128) : wV V s = wA (s2n s + V) := by
  unfold wV wA digN
  rw [digS s hV 0 (by decide), digS s hV 1 (by decide), digS s hV 2 (by decide), digS s hV 3 (by decide), digS s hV 4 (by decide), digS s hV 5 (by decide), digS s hV 6 (by decide), digS s hV 7 (by decide), digT s hV]
theorem of_d (a : Ad) (w : World) (h : a.U) : Calls Tryz.prog 44 #[adA a] w (GivesD (wA a.n) w) := by
  have := ofI_d a.s a.hi a.lo w h.1.1 h.1.2 h.2.1 h.2.2
  rwa [wV_n a.s (show num a.hi a.lo < 2 ^ 128 from h.v_lt)] at this

set_option maxHeartbeats 2000000 in
theorem order_d (a b : Ad) (w : World) (ha : a.U) (hb : b.U) :
    Calls Tryz.prog 56 #[adA a, adA b] w (GivesD (.int .i64 (cmpN a.n b.n)) w) := by
  have C1 := Lib.hid (fun w' => of_d a w' ha)
  have C2 := Lib.hid (fun w' => of_d b w' hb)
  have C3 := Lib.hid (fun w' => wcmp_d a.n b.n w' (Nat.lt_trans ha.n_lt (by decide)) (Nat.lt_trans hb.n_lt (by decide)))
  obtain ⟨R, hR⟩ : ∃ R, R = cmpN a.n b.n := ⟨_, rfl⟩
  rw [← hR] at C3 ⊢
  clear hR ha hb
  generalize a.n = A at C1 C3
  generalize b.n = B at C2 C3
  obtain ⟨hA, hD⟩ := two_new w (adC a) (adC b) 30 30
  have hG : Gd w ((w.alloc (.cells (adC a).toArray 30)).alloc (.cells (adC b).toArray 30)) := ((Gd.refl w).alloc _).alloc _
  have hB := Gd.refl ((w.alloc (.cells (adC a).toArray 30)).alloc (.cells (adC b).toArray 30))
  go_enter Tryz.func56, Tryz.ntmps56
  go_upto_region 1 with fail
  refine wd_begin [] (by kernel_rfl) (fun u0 hb0' hz0' => ?_)
  replace hB := hB.trans hb0'
  clear hb0' hz0'
  refine wd_takeZ 0 (some 5) (v := ?_) ?_ ?_; rotate_left; · (intro u hu; have l1 := (hA.gn (hB.trans hu).1).ld rowAd rfl; have l2 := (hD.gn (hB.trans hu).1).ld rowAd rfl; go_simp; try with_reducible rfl)
  try simp only [Act.put, gzD, gzE, gzF]
  refine wd_takeZ 2 (some 7) (v := ?_) ?_ ?_; rotate_left; · (intro u hu; have l1 := (hA.gn (hB.trans hu).1).ld rowAd rfl; have l2 := (hD.gn (hB.trans hu).1).ld rowAd rfl; go_simp; try with_reducible rfl)
  try simp only [Act.put, gzD, gzE, gzF]
  refine wd_oneZ 1 (fun K hK => ?_)
  go_simp
  refine (C1.out _).mono ?_
  rintro e u1 ⟨rfl, hv1⟩
  refine hK _ _ hv1 ?_
  replace hB := hB.trans hv1
  clear hv1 hK K
  try simp only [Act.put, gzD, gzE, gzF]
  refine wd_oneZ 3 (fun K hK => ?_)
  go_simp
  refine (C2.out _).mono ?_
  rintro e u3 ⟨rfl, hv1⟩
  refine hK _ _ hv1 ?_
  replace hB := hB.trans hv1
  clear hv1 hK K
  try simp only [Act.put, gzD, gzE, gzF]
  refine wd_oneZ 4 (fun K hK => ?_)
  go_simp
  refine (C3.out _).mono ?_
  rintro e u4 ⟨rfl, hv1⟩
  refine hK _ _ hv1 ?_
  replace hB := hB.trans hv1
  clear hv1 hK K
  try simp only [Act.put, gzD, gzE, gzF]
  refine wd_pureZ 5 (some 4) (v := ?_) ?_ ?_; rotate_left; · (intro u; go_simp; try with_reducible rfl)
  try simp only [Act.put, gzD, gzE, gzF]
  refine wd_done (by kernel_rfl) ?_ _
  go_wp2_with fail
  go_ret
  exact ⟨rfl, hG.trans hB⟩

end Go.Proofs.YtfpcalgkfagjkaaGreatDoor
