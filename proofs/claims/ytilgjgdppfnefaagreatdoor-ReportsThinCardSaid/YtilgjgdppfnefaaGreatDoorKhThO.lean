/- Reports whose addresses are hidden: one address. -/
import Derived.Test.YtilgjgdppfnefaaGreatDoorKhThN
import Derived.Test.YtilgjgdppfnefaaGreatDoorKhSiteA
namespace Go.Proofs.YtilgjgdppfnefaaGreatDoor
open Go.RowKit
set_option linter.unusedVariables false
set_option linter.unusedSimpArgs false

/-- An address whose last bits are hidden. -/
def bitsH (b4 b6 : Int) (s : Bool) : Int := if s then b6 else b4
def hidV (b4 b6 : Int) (a : Ad) : Nat := clr (num a.hi a.lo) (lenZ a.s - bitsH b4 b6 a.s).toNat
def hidA (b4 b6 : Int) (a : Ad) : Ad := ⟨a.s, ((hidV b4 b6 a / 2 ^ 64 : Nat) : Int), ((hidV b4 b6 a % 2 ^ 64 : Nat) : Int)⟩
def hidR (b4 b6 : Int) (r : Rp) : Rp := { r with fl := { r.fl with f := hidA b4 b6 r.fl.f, t := hidA b4 b6 r.fl.t } }
def InB (b4 b6 : Int) : Prop := (0 ≤ b4 ∧ b4 ≤ 32) ∧ 0 ≤ b6 ∧ b6 ≤ 128
theorem InB.lo {b4 b6 : Int} (h : InB b4 b6) (s : Bool) : 0 ≤ bitsH b4 b6 s := by
  obtain ⟨h1, h2⟩ := h
  cases s
  · exact h1.1
  · exact h2.1
theorem InB.hi {b4 b6 : Int} (h : InB b4 b6) (s : Bool) : bitsH b4 b6 s ≤ lenZ s := by
  obtain ⟨h1, h2⟩ := h
  cases s
  · exact h1.2
  · exact h2.2
theorem hidA_U {b4 b6 : Int} {a : Ad} (h : a.U) : (hidA b4 b6 a).U := by
  have hl : hidV b4 b6 a < 2 ^ 128 := clr_lt (num_lt h.1.2 h.2.2)
  unfold hidA Ad.U U64
  simp only
  generalize hidV b4 b6 a = v at *
  refine ⟨⟨by omega, ?_⟩, by omega, ?_⟩ <;> omega
theorem hidR_U {b4 b6 : Int} {r : Rp} (h : r.G) : (hidR b4 b6 r).U ∧ (hidR b4 b6 r).N :=
  ⟨⟨⟨hidA_U h.1.1.1, hidA_U h.1.1.2.1, h.1.1.2.2⟩, h.1.2⟩, h.2.1⟩

set_option maxHeartbeats 2000000 in
set_option maxRecDepth 100000 in
theorem hide1_any (p q : Nat) (b4 b6 : Int) (a : Ad) (w : World) (hp : Blk w p [.int .i64 b4] 3) (hq : Blk w q [.int .i64 b6] 3) (hI : InB b4 b6) (hU : a.U) (hA : adF a.s a.hi a.lo = 0) :
    Calls Tryz.prog 46 #[adA a, .pointer (some ⟨p, 0, none⟩), .pointer (some ⟨q, 0, none⟩)] w (GivesV (adA (hidA b4 b6 a)) w) := by
  have HM := Lib.hid (fun W => (show Calls Tryz.prog 47 #[adA a, .int .i64 (bitsH b4 b6 a.s)] W (GivesV (.tuple #[pfA (hidA b4 b6 a, bitsH b4 b6 a.s), .int .i64 0]) W) from mask_ok a.s a.hi a.lo (bitsH b4 b6 a.s) W hU.1.1 hU.1.2 hU.2.1 hU.2.2 hA (hI.lo _) (hI.hi _)))
  clear hI hU hA
  obtain ⟨s, hi, lo⟩ := a

  have hX := (Blk.new w (adC ⟨s, hi, lo⟩) 33).alloc (.cells #[.bool false, .int .u64 0, .int .u64 0] 33)
  have hR := Blk.new (w.alloc (.cells (adC ⟨s, hi, lo⟩).toArray 33)) [.bool false, .int .u64 0, .int .u64 0] 33
  rw [World.size_alloc] at hR
  obtain ⟨wE, hwE⟩ : ∃ wE, wE = (w.alloc (.cells (adC ⟨s, hi, lo⟩).toArray 33)).alloc (.cells #[.bool false, .int .u64 0, .int .u64 0] 33) := ⟨_, rfl⟩
  have hbw : Below w.heap.size w wE := by rw [hwE]; exact ((Below.refl _ _).alloc (Nat.le_refl _) _).alloc (by simp) _
  replace hX : Blk wE w.heap.size (adC ⟨s, hi, lo⟩) 33 := by rw [hwE]; exact hX
  replace hR : Blk wE (w.heap.size + 1) [.bool false, .int .u64 0, .int .u64 0] 33 := by rw [hwE]; exact hR
  have hp2 := (hp.below hbw).cell (i := 0) (v := .int .i64 b4) rfl
  have hq2 := (hq.below hbw).cell (i := 0) (v := .int .i64 b6) rfl
  clear hp hq
  generalize hidA b4 b6 ⟨s, hi, lo⟩ = m at *

  cases s
  · change Hid (∀ W, Calls Tryz.prog 47 #[adA ⟨false, hi, lo⟩, .int .i64 b4] W (GivesV (.tuple #[pfA (m, b4), .int .i64 0]) W)) at HM
    obtain ⟨n, hn⟩ : ∃ n, n = b4 := ⟨_, rfl⟩
    rw [← hn] at HM hp2
    clear hn

    have l1 := hX.ld rowAd (adC_len ⟨false, hi, lo⟩)
    have l0 : wE.cell? ⟨w.heap.size, 0, none⟩ = some (.bool false) := hX.cell (i := 0) rfl
    go_enter Tryz.func46, Tryz.ntmps46
    go_upto_region 1 with fail
    rw [← hwE]
    clear hwE hX
    go_wp2_with fail
    refine (HM.out _).mono ?_
    rintro e w1 ⟨rfl, hb1⟩
    have hR1 := hR.below hb1
    have hbw1 := hbw.trans (hb1.mono hbw.size)
    have S4 : (stT 78 (.pointer (some ⟨w1.heap.size, 0, none⟩)) (pfA (m, n))).run Tryz.prog (w1.alloc (.cells #[.bool false, .int .u64 0, .int .u64 0, .int .i64 0] 78)) = .ok .skip (w1.alloc (.cells (pfC (m, n)).toArray 78)) :=
      stT_new rowPf w1 _ rfl [.bool false, .int .u64 0, .int .u64 0, .int .i64 0] (pfC (m, n)) rfl (pfC_len _) (pfC_one _)
    have hP := Blk.new w1 (pfC (m, n)) 78
    have l5 := hP.ldAt rowAd 0 (adC m) [.int .i64 n] rfl rfl
    have hR2 := hR1.alloc (.cells (pfC (m, n)).toArray 78)
    have S5 := stT_row rowAd hR2 rfl (adC_len m) (adC_one m)
    have hbw2 := hbw1.alloc hbw1.size (.cells (pfC (m, n)).toArray 78)
    clear HM hp2 hq2 hb1 hR hR1 hbw hbw1 l0 l1 hP
    go_wp2_with fail
    refine bodyPost_ret (v := adA m) (results_cell_row rfl _ _ (w.heap.size + 1) _ _ (0, 0) _ rfl (setRow_heap _ (w.heap.size + 1) _ _ _ _ hR2) Tryz.underlying33 rfl (by rw [rowAd.size]; rfl)) rfl ⟨rfl, ?_⟩
    exact below_row (p := w.heap.size + 1) hbw2 (by omega) _

  · change Hid (∀ W, Calls Tryz.prog 47 #[adA ⟨true, hi, lo⟩, .int .i64 b6] W (GivesV (.tuple #[pfA (m, b6), .int .i64 0]) W)) at HM
    obtain ⟨n, hn⟩ : ∃ n, n = b6 := ⟨_, rfl⟩
    rw [← hn] at HM hq2
    clear hn

    have l1 := hX.ld rowAd (adC_len ⟨true, hi, lo⟩)
    have l0 : wE.cell? ⟨w.heap.size, 0, none⟩ = some (.bool true) := hX.cell (i := 0) rfl
    go_enter Tryz.func46, Tryz.ntmps46
    go_upto_region 1 with fail
    rw [← hwE]
    clear hwE hX
    go_wp2_with fail
    refine (HM.out _).mono ?_
    rintro e w1 ⟨rfl, hb1⟩
    have hR1 := hR.below hb1
    have hbw1 := hbw.trans (hb1.mono hbw.size)
    have S4 : (stT 78 (.pointer (some ⟨w1.heap.size, 0, none⟩)) (pfA (m, n))).run Tryz.prog (w1.alloc (.cells #[.bool false, .int .u64 0, .int .u64 0, .int .i64 0] 78)) = .ok .skip (w1.alloc (.cells (pfC (m, n)).toArray 78)) :=
      stT_new rowPf w1 _ rfl [.bool false, .int .u64 0, .int .u64 0, .int .i64 0] (pfC (m, n)) rfl (pfC_len _) (pfC_one _)
    have hP := Blk.new w1 (pfC (m, n)) 78
    have l5 := hP.ldAt rowAd 0 (adC m) [.int .i64 n] rfl rfl
    have hR2 := hR1.alloc (.cells (pfC (m, n)).toArray 78)
    have S5 := stT_row rowAd hR2 rfl (adC_len m) (adC_one m)
    have hbw2 := hbw1.alloc hbw1.size (.cells (pfC (m, n)).toArray 78)
    clear HM hp2 hq2 hb1 hR hR1 hbw hbw1 l0 l1 hP
    go_wp2_with fail
    refine bodyPost_ret (v := adA m) (results_cell_row rfl _ _ (w.heap.size + 1) _ _ (0, 0) _ rfl (setRow_heap _ (w.heap.size + 1) _ _ _ _ hR2) Tryz.underlying33 rfl (by rw [rowAd.size]; rfl)) rfl ⟨rfl, ?_⟩
    exact below_row (p := w.heap.size + 1) hbw2 (by omega) _

@[go_sem] theorem run_fieldPf (m : Ad) (n : Int) (w : World) : (Instr.field 78 (.agg (pfC (m, n)).toArray) 0).run Tryz.prog w = .ok (.agg (adC m).toArray) w := by kernel_rfl

set_option maxHeartbeats 2000000 in
set_option maxRecDepth 100000 in
theorem hide1Ref_any (p q : Nat) (b4 b6 : Int) (a : Ad) (w : World) (hp : Blk w p [.int .i64 b4] 3) (hq : Blk w q [.int .i64 b6] 3) (hI : InB b4 b6) (hU : a.U) :
    Calls Tryz.prog 50 #[adA a, .pointer (some ⟨q, 0, none⟩), .pointer (some ⟨p, 0, none⟩)] w (GivesV (adA (hidA b4 b6 a)) w) := by
  have HM := Lib.hid (fun W => (show Calls Tryz.prog 51 #[adA a, .int .i64 (bitsH b4 b6 a.s)] W (GivesV (pfA (hidA b4 b6 a, bitsH b4 b6 a.s)) W) from maskOf_any a.s a.hi a.lo (bitsH b4 b6 a.s) W hU.1.1 hU.1.2 hU.2.1 hU.2.2 (hI.lo _) (hI.hi _)))
  clear hI hU
  obtain ⟨s, hi, lo⟩ := a

  have hX := (Blk.new w (adC ⟨s, hi, lo⟩) 33).alloc (.cells #[.bool false, .int .u64 0, .int .u64 0] 33)
  have hR := Blk.new (w.alloc (.cells (adC ⟨s, hi, lo⟩).toArray 33)) [.bool false, .int .u64 0, .int .u64 0] 33
  rw [World.size_alloc] at hR
  obtain ⟨wE, hwE⟩ : ∃ wE, wE = (w.alloc (.cells (adC ⟨s, hi, lo⟩).toArray 33)).alloc (.cells #[.bool false, .int .u64 0, .int .u64 0] 33) := ⟨_, rfl⟩
  have hbw : Below w.heap.size w wE := by rw [hwE]; exact ((Below.refl _ _).alloc (Nat.le_refl _) _).alloc (by simp) _
  replace hX : Blk wE w.heap.size (adC ⟨s, hi, lo⟩) 33 := by rw [hwE]; exact hX
  replace hR : Blk wE (w.heap.size + 1) [.bool false, .int .u64 0, .int .u64 0] 33 := by rw [hwE]; exact hR
  have hp2 := (hp.below hbw).cell (i := 0) (v := .int .i64 b4) rfl
  have hq2 := (hq.below hbw).cell (i := 0) (v := .int .i64 b6) rfl
  clear hp hq
  generalize hidA b4 b6 ⟨s, hi, lo⟩ = m at *

  cases s
  · change Hid (∀ W, Calls Tryz.prog 51 #[adA ⟨false, hi, lo⟩, .int .i64 b4] W (GivesV (pfA (m, b4)) W)) at HM
    obtain ⟨n, hn⟩ : ∃ n, n = b4 := ⟨_, rfl⟩
    rw [← hn] at HM hp2
    clear hn

    have l1 := hX.ld rowAd (adC_len ⟨false, hi, lo⟩)
    have l0 : wE.cell? ⟨w.heap.size, 0, none⟩ = some (.bool false) := hX.cell (i := 0) rfl
    go_enter Tryz.func50, Tryz.ntmps50
    go_upto_region 1 with fail
    rw [← hwE]
    clear hwE hX
    go_wp2_with fail
    refine (HM.out _).mono ?_
    rintro e w1 ⟨rfl, hb1⟩
    have hR1 := hR.below hb1
    have hbw1 := hbw.trans (hb1.mono hbw.size)
    have S5 := stT_row rowAd hR1 rfl (adC_len m) (adC_one m)
    clear HM hp2 hq2 hb1 hR hbw l0 l1
    go_wp2_with fail
    refine bodyPost_ret (v := adA m) (results_cell_row rfl _ _ (w.heap.size + 1) _ _ (0, 0) _ rfl (setRow_heap _ (w.heap.size + 1) _ _ _ _ hR1) Tryz.underlying33 rfl (by rw [rowAd.size]; rfl)) rfl ⟨rfl, ?_⟩
    exact below_row (p := w.heap.size + 1) hbw1 (by omega) _

  · change Hid (∀ W, Calls Tryz.prog 51 #[adA ⟨true, hi, lo⟩, .int .i64 b6] W (GivesV (pfA (m, b6)) W)) at HM
    obtain ⟨n, hn⟩ : ∃ n, n = b6 := ⟨_, rfl⟩
    rw [← hn] at HM hq2
    clear hn

    have l1 := hX.ld rowAd (adC_len ⟨true, hi, lo⟩)
    have l0 : wE.cell? ⟨w.heap.size, 0, none⟩ = some (.bool true) := hX.cell (i := 0) rfl
    go_enter Tryz.func50, Tryz.ntmps50
    go_upto_region 1 with fail
    rw [← hwE]
    clear hwE hX
    go_wp2_with fail
    refine (HM.out _).mono ?_
    rintro e w1 ⟨rfl, hb1⟩
    have hR1 := hR.below hb1
    have hbw1 := hbw.trans (hb1.mono hbw.size)
    have S5 := stT_row rowAd hR1 rfl (adC_len m) (adC_one m)
    clear HM hp2 hq2 hb1 hR hbw l0 l1
    go_wp2_with fail
    refine bodyPost_ret (v := adA m) (results_cell_row rfl _ _ (w.heap.size + 1) _ _ (0, 0) _ rfl (setRow_heap _ (w.heap.size + 1) _ _ _ _ hR1) Tryz.underlying33 rfl (by rw [rowAd.size]; rfl)) rfl ⟨rfl, ?_⟩
    exact below_row (p := w.heap.size + 1) hbw1 (by omega) _
end Go.Proofs.YtilgjgdppfnefaaGreatDoor
