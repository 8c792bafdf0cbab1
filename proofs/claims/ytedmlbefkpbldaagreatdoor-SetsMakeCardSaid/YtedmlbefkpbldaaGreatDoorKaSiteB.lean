/- Sites: Via, ViaOf. -/
import Derived.Test.YtedmlbefkpbldaaGreatDoorKaOwnB
import Derived.Test.YtedmlbefkpbldaaGreatDoorKaWideD
import Derived.Test.YtedmlbefkpbldaaGreatDoorKaLaneA
namespace Go.Proofs.YtedmlbefkpbldaaGreatDoor
open Go.RowKit

theorem mask_same (hi lo : Int) (k : Nat) (h1 : 0 ≤ hi) (h3 : 0 ≤ lo) (h4 : lo < 18446744073709551616) (h : clr (num hi lo) k = num hi lo) :
    ((clr (num hi lo) k / 2 ^ 64 : Nat) : Int) = hi ∧ ((clr (num hi lo) k % 2 ^ 64 : Nat) : Int) = lo := by
  rw [h, num_div hi lo h4, num_mod hi lo h4]
  exact ⟨Int.toNat_of_nonneg h1, Int.toNat_of_nonneg h3⟩

theorem mask_other (hi lo : Int) (k : Nat) (h4 : lo < 18446744073709551616) (h : ¬ clr (num hi lo) k = num hi lo) (a : ((clr (num hi lo) k / 2 ^ 64 : Nat) : Int) = hi) :
    ¬ ((clr (num hi lo) k % 2 ^ 64 : Nat) : Int) = lo := by
  intro b
  have e1 := num_div hi lo h4
  have e2 := num_mod hi lo h4
  generalize clr (num hi lo) k = C at *
  generalize hV : num hi lo = V at *
  omega

set_option maxHeartbeats 1000000 in
theorem checkPrefix_fault (s : Bool) (hi lo n : Int) (w : World) (hA : adF s hi lo ≠ 0) :
    Calls Tryz.prog 67 #[.agg #[.bool s, .int .u64 hi, .int .u64 lo, .int .i64 n]] w (GivesV (.int .i64 (pfF s hi lo n)) w) := by
  have H := Lib.hid (show pfF s hi lo n = adF s hi lo by unfold pfF; rw [if_pos hA]; rcases adF_two s hi lo with h | h <;> simp_all)
  have H1 : (adF s hi lo == 0) = false := by simp [hA]
  have HM := fun w' => Lib.hid (mask_fault s hi lo n w' hA)
  clear hA
  go_enter Tryz.func67, Tryz.ntmps67
  go_wp2_with fail
  refine (HM _).out.mono ?_
  rintro e w1 ⟨rfl, hb1⟩
  have hC1 : Below w.heap.size w w1 := ((Below.refl _ _).alloc (Nat.le_refl _) _).trans (hb1.mono (by simp))
  clear hb1
  go_wp2_with fail
  go_ret
  exact ⟨by rw [H.out]; rfl, hC1.alloc hC1.size _⟩

set_option maxHeartbeats 1000000 in
theorem checkPrefix_range (s : Bool) (hi lo n : Int) (w : World) (hA : adF s hi lo = 0) (hn : n < 0 ∨ lenZ s < n) :
    Calls Tryz.prog 67 #[.agg #[.bool s, .int .u64 hi, .int .u64 lo, .int .i64 n]] w (GivesV (.int .i64 (pfF s hi lo n)) w) := by
  have H := Lib.hid (show pfF s hi lo n = 1 by unfold pfF; rw [if_neg (by simp [hA]), if_pos (show inB n 0 (lenZ s) = false from decide_eq_false (by omega))])
  have HM := fun w' => Lib.hid (mask_range s hi lo n w' hA hn)
  clear hA hn
  go_enter Tryz.func67, Tryz.ntmps67
  go_wp2_with fail
  refine (HM _).out.mono ?_
  rintro e w1 ⟨rfl, hb1⟩
  have hC1 : Below w.heap.size w w1 := ((Below.refl _ _).alloc (Nat.le_refl _) _).trans (hb1.mono (by simp))
  clear hb1
  go_wp2_with fail
  go_ret
  exact ⟨by rw [H.out]; rfl, hC1.alloc hC1.size _⟩

set_option maxHeartbeats 1000000 in
theorem checkPrefix_ok (s : Bool) (hi lo n : Int) (w : World) (h1 : 0 ≤ hi) (h2 : hi < 18446744073709551616) (h3 : 0 ≤ lo) (h4 : lo < 18446744073709551616) (hA : adF s hi lo = 0) (hn1 : 0 ≤ n) (hn2 : n ≤ lenZ s) :
    Calls Tryz.prog 67 #[.agg #[.bool s, .int .u64 hi, .int .u64 lo, .int .i64 n]] w (GivesV (.int .i64 (pfF s hi lo n)) w) := by
  obtain ⟨MH, hMH⟩ : ∃ x : Int, x = ((clr (num hi lo) (lenZ s - n).toNat / 2 ^ 64 : Nat) : Int) := ⟨_, rfl⟩
  obtain ⟨ML, hML⟩ : ∃ x : Int, x = ((clr (num hi lo) (lenZ s - n).toNat % 2 ^ 64 : Nat) : Int) := ⟨_, rfl⟩
  have HM : ∀ w', Hid (Calls Tryz.prog 122 #[.agg #[.bool s, .int .u64 hi, .int .u64 lo], .int .i64 n] w' (GivesV (pfR (.agg #[.bool s, .int .u64 MH, .int .u64 ML, .int .i64 n]) 0) w')) := fun w' => by
    rw [hMH, hML]; exact mask_ok s hi lo n w' h1 h2 h3 h4 hA hn1 hn2
  have hI : inB n 0 (lenZ s) = true := decide_eq_true ⟨hn1, hn2⟩
  have hB := Blk.new w [.bool s, .int .u64 hi, .int .u64 lo, .int .i64 n] 52
  by_cases hC : clr (num hi lo) (lenZ s - n).toNat = num hi lo
  · have H := Lib.hid (show pfF s hi lo n = 0 by unfold pfF; rw [if_neg (by simp [hA]), if_neg (by rw [hI]; decide), if_pos hC])
    obtain ⟨a, b⟩ := mask_same hi lo (lenZ s - n).toNat h1 h3 h4 hC
    obtain rfl : MH = hi := hMH.trans a
    obtain rfl : ML = lo := hML.trans b
    clear hA hC hI h1 h2 h3 h4 hMH hML a b
    go_enter Tryz.func67, Tryz.ntmps67
    go_wp2_with fail
    refine (HM _).out.mono ?_
    rintro e w1 ⟨rfl, hb1⟩
    obtain ⟨u0, u1, u2, u3, _⟩ := (hB.below hb1).four
    have hz1 := hb1.size
    simp at hz1
    have hx1 : w.heap.size < w1.heap.size := by omega
    have hC1 : Below w.heap.size w w1 := ((Below.refl _ _).alloc (Nat.le_refl _) _).trans (hb1.mono (by simp))
    clear hb1 hB
    go_wp2_with fail
    go_ret
    exact ⟨by rw [H.out]; rfl, hC1.alloc hC1.size _⟩
  · have H := Lib.hid (show pfF s hi lo n = 3 by unfold pfF; rw [if_neg (by simp [hA]), if_neg (by rw [hI]; decide), if_neg hC])
    by_cases hE : MH = hi
    · have hne : ¬ ML = lo := by rw [hML]; exact mask_other hi lo _ h4 hC (by rw [← hMH]; exact hE)
      subst hE
      clear hA hC hI h1 h2 h3 h4 hMH hML
      go_enter Tryz.func67, Tryz.ntmps67
      go_wp2_with fail
      refine (HM _).out.mono ?_
      rintro e w1 ⟨rfl, hb1⟩
      obtain ⟨u0, u1, u2, u3, _⟩ := (hB.below hb1).four
      have hz1 := hb1.size
      simp at hz1
      have hx1 : w.heap.size < w1.heap.size := by omega
      have hC1 : Below w.heap.size w w1 := ((Below.refl _ _).alloc (Nat.le_refl _) _).trans (hb1.mono (by simp))
      clear hb1 hB
      go_wp2_with fail
      go_ret
      exact ⟨by rw [H.out]; rfl, hC1.alloc hC1.size _⟩
    · clear hA hC hI h1 h2 h3 h4 hMH hML
      go_enter Tryz.func67, Tryz.ntmps67
      go_wp2_with fail
      refine (HM _).out.mono ?_
      rintro e w1 ⟨rfl, hb1⟩
      obtain ⟨u0, u1, u2, u3, _⟩ := (hB.below hb1).four
      have hz1 := hb1.size
      simp at hz1
      have hx1 : w.heap.size < w1.heap.size := by omega
      have hC1 : Below w.heap.size w w1 := ((Below.refl _ _).alloc (Nat.le_refl _) _).trans (hb1.mono (by simp))
      clear hb1 hB
      go_wp2_with fail
      go_ret
      exact ⟨by rw [H.out]; rfl, hC1.alloc hC1.size _⟩

/-- CheckPrefix gives the error of a prefix. -/
theorem checkPrefix_any (s : Bool) (hi lo n : Int) (w : World) (h1 : 0 ≤ hi) (h2 : hi < 18446744073709551616) (h3 : 0 ≤ lo) (h4 : lo < 18446744073709551616) :
    Calls Tryz.prog 67 #[.agg #[.bool s, .int .u64 hi, .int .u64 lo, .int .i64 n]] w (GivesV (.int .i64 (pfF s hi lo n)) w) := by
  by_cases hA : adF s hi lo = 0
  · by_cases hn : n < 0 ∨ lenZ s < n
    · exact checkPrefix_range s hi lo n w hA hn
    · exact checkPrefix_ok s hi lo n w h1 h2 h3 h4 hA (by omega) (by omega)
  · exact checkPrefix_fault s hi lo n w hA
end Go.Proofs.YtedmlbefkpbldaaGreatDoor
namespace Go.Proofs.YtedmlbefkpbldaaGreatDoor
open Go.RowKit

/-- when's error. -/
def whenZ (b : Bool) (e : Int) : Int := if b then e else 0
theorem whenZ_true (e : Int) : whenZ true e = e := rfl
theorem whenZ_false (e : Int) : whenZ false e = 0 := rfl

set_option maxHeartbeats 400000 in
theorem when_any (b : Bool) (e : Int) (w : World) :
    Calls Tryz.prog 28 #[.bool b, .int .i64 e] w fun e' w' => e' = .returned (.int .i64 (whenZ b e)) ∧ w = w' := by
  cases b
  all_goals
    go_enter Tryz.func28, Tryz.ntmps28
    go_wp2_with fail
    go_ret
    exact ⟨rfl, rfl⟩

/-- The first of some errors. -/
def firstZ : List Int → Int
  | [] => 0
  | e :: r => if e = 0 then firstZ r else e

set_option maxHeartbeats 1000000 in
theorem errs_any (l : List Int) (p cap : Nat) (w : World) (hz : ∀ i, i < l.length → w.cell? ⟨p, i, none⟩ = some (.int .i64 (l.getD i 0))) (hl : l.length ≤ 100) :
    Calls Tryz.prog 26 #[.slice (some ⟨p, 0, none⟩) l.length cap] w fun e w' => e = .returned (.int .i64 (firstZ l)) ∧ w = w' := by
  go_enter Tryz.func26, Tryz.ntmps26
  go_wp2_with fail
  go_loop [7] (fun c => ∃ k : Nat, k ≤ l.length ∧ c = .int .i64 k ∧ firstZ (l.drop k) = firstZ l) (fun c => l.length - (intOf c).toNat)
  case atStart => exact ⟨0, Nat.zero_le _, rfl, rfl⟩
  case round =>
    obtain ⟨k, hk, rfl, hf⟩ := hrel
    have HF := Lib.hid hf
    clear hf
    by_cases hlt : k < l.length
    · have hc := hz k hlt
      have HD := Lib.hid (show firstZ (l.drop k) = if l.getD k 0 = 0 then firstZ (l.drop (k + 1)) else l.getD k 0 by rw [List.drop_eq_getElem_cons hlt, firstZ, List.getD_eq_getElem?_getD, List.getElem?_eq_getElem hlt]; rfl)
      generalize l.getD k 0 = x at hc HD
      clear hz
      by_cases hx : x = 0
      · have HX := Lib.hid hx
        have b0 : (x != 0) = false := by simp [hx]
        clear hx
        go_wp2_with fail
        go_round
        case rel => exact ⟨k + 1, by omega, by go_num, by rw [← HF.out, HD.out, if_pos HX.out]⟩
        case measure => simp [intOf]; omega
      · have HX := Lib.hid hx
        have b0 : (x != 0) = true := by simp [hx]
        clear hx
        go_wp2_with fail
        go_ret
        exact ⟨by rw [← HF.out, HD.out, if_neg HX.out]; rfl, rfl⟩
    · have hkl : k = l.length := by omega
      have HK := Lib.hid hkl
      clear hkl hz
      go_wp2_with fail
      go_ret
      exact ⟨by rw [← HF.out, HK.out, List.drop_length]; rfl, rfl⟩
end Go.Proofs.YtedmlbefkpbldaaGreatDoor
namespace Go.Proofs.YtedmlbefkpbldaaGreatDoor
open Go.RowKit

theorem below_two (w : World) (o o' : Obj) : Below w.heap.size w ((w.alloc o).alloc o') := ((Below.refl _ _).alloc (Nat.le_refl _) _).alloc (by simp) _
theorem gbB {u u' : World} {r : Option Nat} (h : Below u.heap.size u u') : u.grownBy u' r := gb_below (gb_refl u r) h
theorem gb2B {w u : World} (h : w.grownBy u none) : Below w.heap.size w u := ⟨h.os, h.tape, h.output, h.size, fun k hk => h.block k hk (by simp)⟩
theorem Blk.gn {w u : World} {p : Nat} {cs : List Value} {t : TypeId} (h : Blk w p cs t) (hg : w.grownBy u none) : Blk u p cs t := h.below (gb2B hg)
theorem blk2 (w : World) (xs ys : List Value) (t t' : TypeId) : Blk ((w.alloc (.cells xs.toArray t)).alloc (.cells ys.toArray t')) w.heap.size xs t ∧ Blk ((w.alloc (.cells xs.toArray t)).alloc (.cells ys.toArray t')) (w.heap.size + 1) ys t' := by
  refine ⟨(Blk.new w xs t).alloc _, ?_⟩
  have := Blk.new (w.alloc (.cells xs.toArray t)) ys t'
  simpa using this
theorem below_gb2 {w u : World} {o o' : Obj} (h : ((w.alloc o).alloc o').grownBy u none) : Below w.heap.size w u := (below_two w o o').trans ((gb2B h).mono (by simp; omega))
end Go.Proofs.YtedmlbefkpbldaaGreatDoor
namespace Go.Proofs.YtedmlbefkpbldaaGreatDoor
open Go.RowKit

/-- Is a site out of its range? -/
def siteOut (k : Int) : Bool := decide (k < 0 ∨ 65535 < k)
/-- Via's error. -/
def viaF (k : Int) (s : Bool) (hi lo n : Int) : Int := firstZ [whenZ (siteOut k) 1, pfF s hi lo n, whenZ s 10]
/-- Via's prefix. -/
abbrev viaV (k lo n : Int) : Value := .agg #[.bool true, .int .u64 18230690457315508224, .int .u64 (k * 4294967296 + lo), .int .i64 (96 + n)]

theorem pfF_zero {s : Bool} {hi lo n : Int} (h : pfF s hi lo n = 0) : adF s hi lo = 0 ∧ 0 ≤ n ∧ n ≤ lenZ s ∧ clr (num hi lo) (lenZ s - n).toNat = num hi lo := by
  unfold pfF at h
  split at h
  · omega
  · rename_i hA
    split at h
    · omega
    · rename_i hI
      split at h
      · rename_i hC
        have : inB n 0 (lenZ s) = true := by simpa using hI
        have := of_decide_eq_true this
        exact ⟨by simpa using hA, this.1, this.2, hC⟩
      · omega

theorem adF_four {hi lo : Int} (h : adF false hi lo = 0) : hi = 0 ∧ lo < 4294967296 := by
  unfold adF at h
  split at h
  · omega
  · rename_i hn
    simp at hn
    omega



theorem via_or (k lo : Int) (h1 : 0 ≤ k) (h2 : k ≤ 65535) (h3 : 0 ≤ lo) (h4 : lo < 4294967296) : bits .or .u64 (k * 4294967296) lo = k * 4294967296 + lo := by
  obtain ⟨K, rfl⟩ := Int.eq_ofNat_of_zero_le h1
  obtain ⟨L, rfl⟩ := Int.eq_ofNat_of_zero_le h3
  have := u64_or_nat (K * 4294967296) L (by omega) (by omega)
  rw [show ((K : Int) * 4294967296) = ((K * 4294967296 : Nat) : Int) by simp, this, nat_join 32 (K * 4294967296) L (by omega) (by omega)]
  omega

end Go.Proofs.YtedmlbefkpbldaaGreatDoor
