/- The reference's spread; what the law asks of its own. -/
import Derived.Test.YtfiocnjogbpgoaaGreatDoorKiMdF
namespace Go.Proofs.YtfiocnjogbpgoaaGreatDoor
open Go.RowKit
set_option linter.unusedVariables false
set_option linter.unusedSimpArgs false

theorem Blk.twoM {w : World} {p : Nat} {a b : Value} {t : TypeId} (h : Blk w p [a, b] t) : w.cell? ⟨p, 0, none⟩ = some a ∧ w.cell? ⟨p, 1, none⟩ = some b ∧ w.frozen? ⟨p, 0, none⟩ = false ∧ w.frozen? ⟨p, 1, none⟩ = false :=
  ⟨h.cell (i := 0) (v := a) rfl, h.cell (i := 1) (v := b) rfl, h.free _, h.free _⟩
/-- What Median and Spread hand back. -/
def medV (f : Int) (n d : Nat) : Value := if f = 0 then .tuple #[fracV n d, .int .i64 0] else .tuple #[.agg #[.int .i64 0, .int .i64 0], .int .i64 f]

set_option maxHeartbeats 2000000 in
set_option maxRecDepth 100000 in
theorem fourSpreads_any (A : Option Addr) (n cap : Nat) (zs : List Int) (w : World) (hS : SlE eInt w A n cap zs) (hn : n ≤ 3000) (hx : zs ≠ []) (hz : ∀ z ∈ zs, 0 ≤ z ∧ z ≤ 2000000000000) :
    Calls Tryz.prog 50 #[.slice A n cap] w fun e w' => e = .returned (.int .i64 (fourI zs)) ∧ Below w.heap.size w w' := by
  have hb1 := twice_bound hx hz
  have HT := Lib.hid (twiceMedian_any A n cap zs w hS hn hx (fun z h => by have := hz z h; omega))
  have hdb := diff_bound hb1 hz
  have hlm : (zs.map (diffI (twiceI zs))).length = zs.length := List.length_map ..
  have hnl : zs.length ≤ 3000 := by rw [← hS.1]; exact hn
  have HT2 := Lib.hid (fun A cap W (hS' : SlE eInt W A zs.length cap (zs.map (diffI (twiceI zs)))) => twiceMedian_any A zs.length cap _ W hS' hnl (by simpa using hx) (fun z h => by have := hdb z h; omega))
  have hfour : Hid (fourI zs = twiceI (zs.map (diffI (twiceI zs)))) := Lib.hid rfl
  rw [hfour.out]
  clear hfour
  have HM := Lib.hid (fun b W (hW : Below w.heap.size w W) hB => mapI_any b (twiceI zs) A n cap zs W hB (by omega) (hS.below hW) hn (fun z h => by have := hz z h; omega))
  clear hdb hb1 hlm
  generalize twiceI zs = m at *
  generalize twiceI (zs.map (diffI m)) = R at *
  go_enter Tryz.func50, Tryz.ntmps50
  go_wp2_with fail
  refine HT.out.mono ?_
  rintro e w1 ⟨rfl, hb2⟩
  have hBS := Boxed.new w1 3 (.int .i64 m)
  have hbw : Below w.heap.size w (w1.alloc (.cells #[.int .i64 m] 3)) := hb2.alloc hb2.size _
  clear HT hb2
  go_wp2_with fail
  refine (HM.out _ _ hbw hBS).mono ?_
  rintro e w2 ⟨⟨A', cp, rfl, hown⟩, hb3⟩
  replace hbw := hbw.trans (hb3.mono hbw.size)
  obtain ⟨A2, cp2, hv, hsl⟩ := hown.sl
  rw [List.length_map] at hv hsl
  cases hv
  clear hown hb3 HM hBS
  go_wp2_with fail
  refine (HT2.out _ _ w2 hsl).mono ?_
  rintro e w3 ⟨rfl, hb4⟩
  replace hbw := hbw.trans (hb4.mono hbw.size)
  clear hb4 hsl HT2
  go_wp2_with fail
  go_ret
  exact ⟨rfl, hbw⟩

set_option maxHeartbeats 2000000 in
set_option maxRecDepth 100000 in
theorem median_any (A : Option Addr) (n cap : Nat) (zs : List Int) (w : World) (hS : SlE eInt w A n cap zs) (hn : n ≤ 1000000) :
    Calls Tryz.prog 16 #[.slice A n cap] w fun e w' => e = .returned (medV (numsF zs) (twiceI zs).toNat 2) ∧ Below w.heap.size w w' := by
  have hbw : Below w.heap.size w (w.alloc (.cells #[.int .i64 0, .int .i64 0] 46)) := (Below.refl _ _).alloc (Nat.le_refl _) _
  have hP := Blk.new w [.int .i64 0, .int .i64 0] 46
  have HC := Lib.hid (checkNumbers_any A n cap zs _ (hS.below hbw) hn)
  by_cases h0 : numsF zs = 0
  · obtain ⟨hne, hl, hz⟩ := numsF_zero h0
    rw [h0] at HC ⊢
    obtain ⟨x, y, hxy⟩ : ∃ x y, fracV (twiceI zs).toNat 2 = .agg #[.int .i64 x, .int .i64 y] := ⟨_, _, rfl⟩
    have hv := Lib.hid (show medV 0 (twiceI zs).toNat 2 = .tuple #[.agg #[.int .i64 x, .int .i64 y], .int .i64 0] by unfold medV; rw [if_pos rfl, hxy])
    have hb := twice_bound hne hz
    have HT := Lib.hid (fun W (hW : Below w.heap.size w W) => twiceMedian_any A n cap zs W (hS.below hW) (by rw [hS.1]; exact hl) hne (fun z h => by have := hz z h; omega))
    have HF := Lib.hid (fun W => fraction_any (twiceI zs).toNat 2 W (by omega) (by omega) (by omega))
    rw [hxy] at HF
    rw [Int.toNat_of_nonneg hb.1] at HF
    rw [hv.out]
    generalize (twiceI zs).toNat = Q at *
    clear h0 hne hl hz hxy hb hS hv
    generalize twiceI zs = R at *
    obtain ⟨c0, c1, f0, f1⟩ := Blk.twoM hP
    go_enter Tryz.func16, Tryz.ntmps16
    go_wp2_with fail
    refine HC.out.mono ?_
    rintro e w1 ⟨rfl, rfl⟩
    go_wp2_with fail
    refine (HT.out _ hbw).mono ?_
    rintro e w2 ⟨rfl, hb2⟩
    have hP2 := hP.below hb2
    replace hbw := hbw.trans (hb2.mono hbw.size)
    clear hb2 hP c0 c1 f0 f1
    go_wp2_with fail
    refine (HF.out _).mono ?_
    rintro e w3 ⟨rfl, hb2⟩
    have hP3 := hP2.below hb2
    replace hbw := hbw.trans (hb2.mono hbw.size)
    clear hb2 hP2
    obtain ⟨c0, c1, f0, f1⟩ := Blk.twoM hP3
    go_wp2_with fail
    refine bodyPost_ret (v := .tuple #[.agg #[.int .i64 x, .int .i64 y], .int .i64 0]) ?_ rfl ⟨rfl, (hbw.setCell (p := ⟨w.heap.size, 0, none⟩) (Nat.le_refl _) _).setCell (p := ⟨w.heap.size, 1, none⟩) (Nat.le_refl _) _⟩
    simp [results, Tryz.results16, go_sem, c0, c1]
  · obtain ⟨r, hr⟩ : ∃ r, r = numsF zs := ⟨_, rfl⟩
    rw [← hr] at h0 HC ⊢
    have hv := Lib.hid (show medV r (twiceI zs).toNat 2 = .tuple #[.agg #[.int .i64 0, .int .i64 0], .int .i64 r] by unfold medV; rw [if_neg h0])
    rw [hv.out]
    obtain ⟨c0, c1, f0, f1⟩ := Blk.twoM hP
    clear hS hr hv
    go_enter Tryz.func16, Tryz.ntmps16
    go_wp2_with fail
    refine HC.out.mono ?_
    rintro e w1 ⟨rfl, rfl⟩
    go_wp2_with fail
    refine bodyPost_ret (v := .tuple #[.agg #[.int .i64 0, .int .i64 0], .int .i64 r]) ?_ rfl ⟨rfl, hbw⟩
    simp [results, Tryz.results16, go_sem, c0, c1]

set_option maxHeartbeats 2000000 in
set_option maxRecDepth 100000 in
theorem spread_any (A : Option Addr) (n cap : Nat) (zs : List Int) (w : World) (hS : SlE eInt w A n cap zs) (hn : n ≤ 1000000) :
    Calls Tryz.prog 17 #[.slice A n cap] w fun e w' => e = .returned (medV (numsF zs) (fourI zs).toNat 4) ∧ Below w.heap.size w w' := by
  have hbw : Below w.heap.size w (w.alloc (.cells #[.int .i64 0, .int .i64 0] 46)) := (Below.refl _ _).alloc (Nat.le_refl _) _
  have hP := Blk.new w [.int .i64 0, .int .i64 0] 46
  have HC := Lib.hid (checkNumbers_any A n cap zs _ (hS.below hbw) hn)
  by_cases h0 : numsF zs = 0
  · obtain ⟨hne, hl, hz⟩ := numsF_zero h0
    rw [h0] at HC ⊢
    obtain ⟨x, y, hxy⟩ : ∃ x y, fracV (fourI zs).toNat 4 = .agg #[.int .i64 x, .int .i64 y] := ⟨_, _, rfl⟩
    have hv := Lib.hid (show medV 0 (fourI zs).toNat 4 = .tuple #[.agg #[.int .i64 x, .int .i64 y], .int .i64 0] by unfold medV; rw [if_pos rfl, hxy])
    have hb := four_bound hne hz
    have HT := Lib.hid (fun W (hW : Below w.heap.size w W) => fourSpreads_any A n cap zs W (hS.below hW) (by rw [hS.1]; exact hl) hne (fun z h => hz z h))
    have HF := Lib.hid (fun W => fraction_any (fourI zs).toNat 4 W (by omega) (by omega) (by omega))
    rw [hxy] at HF
    rw [Int.toNat_of_nonneg hb.1] at HF
    rw [hv.out]
    generalize (fourI zs).toNat = Q at *
    clear h0 hne hl hz hxy hb hS hv
    generalize fourI zs = R at *
    obtain ⟨c0, c1, f0, f1⟩ := Blk.twoM hP
    go_enter Tryz.func17, Tryz.ntmps17
    go_wp2_with fail
    refine HC.out.mono ?_
    rintro e w1 ⟨rfl, rfl⟩
    go_wp2_with fail
    refine (HT.out _ hbw).mono ?_
    rintro e w2 ⟨rfl, hb2⟩
    have hP2 := hP.below hb2
    replace hbw := hbw.trans (hb2.mono hbw.size)
    clear hb2 hP c0 c1 f0 f1
    go_wp2_with fail
    refine (HF.out _).mono ?_
    rintro e w3 ⟨rfl, hb2⟩
    have hP3 := hP2.below hb2
    replace hbw := hbw.trans (hb2.mono hbw.size)
    clear hb2 hP2
    obtain ⟨c0, c1, f0, f1⟩ := Blk.twoM hP3
    go_wp2_with fail
    refine bodyPost_ret (v := .tuple #[.agg #[.int .i64 x, .int .i64 y], .int .i64 0]) ?_ rfl ⟨rfl, (hbw.setCell (p := ⟨w.heap.size, 0, none⟩) (Nat.le_refl _) _).setCell (p := ⟨w.heap.size, 1, none⟩) (Nat.le_refl _) _⟩
    simp [results, Tryz.results17, go_sem, c0, c1]
  · obtain ⟨r, hr⟩ : ∃ r, r = numsF zs := ⟨_, rfl⟩
    rw [← hr] at h0 HC ⊢
    have hv := Lib.hid (show medV r (fourI zs).toNat 4 = .tuple #[.agg #[.int .i64 0, .int .i64 0], .int .i64 r] by unfold medV; rw [if_neg h0])
    rw [hv.out]
    obtain ⟨c0, c1, f0, f1⟩ := Blk.twoM hP
    clear hS hr hv
    go_enter Tryz.func17, Tryz.ntmps17
    go_wp2_with fail
    refine HC.out.mono ?_
    rintro e w1 ⟨rfl, rfl⟩
    go_wp2_with fail
    refine bodyPost_ret (v := .tuple #[.agg #[.int .i64 0, .int .i64 0], .int .i64 r]) ?_ rfl ⟨rfl, hbw⟩
    simp [results, Tryz.results17, go_sem, c0, c1]
end Go.Proofs.YtfiocnjogbpgoaaGreatDoor
namespace Go.Proofs.YtfiocnjogbpgoaaGreatDoor
open Go.RowKit
set_option linter.unusedVariables false
set_option linter.unusedSimpArgs false

end Go.Proofs.YtfiocnjogbpgoaaGreatDoor
namespace Go.Proofs.YtfiocnjogbpgoaaGreatDoor
open Go.RowKit
set_option linter.unusedVariables false
set_option linter.unusedSimpArgs false

theorem srt129 : srtI [1, 2, 9] = [1, 2, 9] := by
  unfold srtI
  exact List.mergeSort_of_pairwise (by decide)
theorem med129 : medV (numsF [1, 2, 9]) (twiceI [1, 2, 9]).toNat 2 = .tuple #[.agg #[.int .i64 2, .int .i64 1], .int .i64 0] := by
  unfold twiceI
  rw [srt129, show numsF [1, 2, 9] = 0 from by decide, show (midS [1, 2, 9]).toNat = 4 from by decide]
  unfold medV fracV
  rw [if_pos rfl, show Nat.gcd 4 2 = 2 from by decide]
  rfl

end Go.Proofs.YtfiocnjogbpgoaaGreatDoor
