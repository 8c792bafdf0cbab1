/- Numbers as rows; what is wrong with them. -/
import Derived.Test.YtbheigndfhhpcaaGreatDoorKgStC
import Derived.Test.YtbheigndfhhpcaaGreatDoorKgLaneC
namespace Go.Proofs.YtbheigndfhhpcaaGreatDoor
open Go.RowKit
set_option linter.unusedVariables false
set_option linter.unusedSimpArgs false

/-- A number. -/
def eInt : Enc Int := ⟨fun z => [.int .i64 z], 1, by decide, fun _ => rfl, fun x v hv => by rw [List.mem_singleton.1 hv]; rfl⟩
theorem infoInt : (Tryz.prog.info? 3).map (fun i => (i.zero, i.size, i.bytes)) = some (some (.int .i64 0), 1, 8) := by kernel_rfl
theorem tyeInt : Ty eInt 3 22 (.int .i64 0) 8 := ⟨Tryz.underlying22, infoInt, rfl, by decide⟩
/-- The cells of a slice of numbers. -/
theorem SlE.num {w : World} {A : Option Addr} {n cap : Nat} {zs : List Int} (h : SlE eInt w A n cap zs) {k : Nat} {z : Int} (hz : zs[k]? = some z) : ∃ b off, A = some ⟨b, off, none⟩ ∧ b < w.heap.size ∧ w.cell? ⟨b, off + k, none⟩ = some (.int .i64 z) := by
  have hk : k < n := by rw [h.1]; exact (List.getElem?_eq_some_iff.1 hz).1
  obtain ⟨g, off, hA, hg, hc⟩ := h.at' hk
  refine ⟨g, off, hA, hg, ?_⟩
  have := hc k z hz 0 (.int .i64 z) rfl
  rw [show eInt.k = 1 from rfl, Nat.mul_one, Nat.add_zero] at this
  exact this

theorem needI_any (q : Bool) (x : Int) (w : World) : Calls Tryz.prog 71 #[.bool q, .int .i64 x] w fun e w' => e = .returned (.int .i64 (if q then 0 else x)) ∧ w = w' := by
  cases q
  all_goals
    go_enter Tryz.func71, Tryz.ntmps71
    go_wp2_with fail
    go_ret
    exact ⟨rfl, rfl⟩
theorem numberI_any (n a b : Int) (w : World) : Calls Tryz.prog 43 #[.int .i64 n, .int .i64 a, .int .i64 b] w fun e w' => e = .returned (.int .i64 (if a ≤ n ∧ n ≤ b then 0 else 1)) ∧ w = w' := by
  have HN := fun q w' => Lib.hid (needI_any q 1 w')
  by_cases h1 : a ≤ n
  · by_cases h2 : n ≤ b
    · rw [if_pos ⟨h1, h2⟩]
      replace HN := fun w' => HN true w'
      go_enter Tryz.func43, Tryz.ntmps43
      go_wp2_with fail
      refine (HN _).out.mono ?_
      rintro e w1 ⟨rfl, rfl⟩
      go_wp2_with fail
      go_ret
      exact ⟨rfl, rfl⟩
    · rw [if_neg (fun h => h2 h.2)]
      replace HN := fun w' => HN false w'
      go_enter Tryz.func43, Tryz.ntmps43
      go_wp2_with fail
      refine (HN _).out.mono ?_
      rintro e w1 ⟨rfl, rfl⟩
      go_wp2_with fail
      go_ret
      exact ⟨rfl, rfl⟩
  · rw [if_neg (fun h => h1 h.1)]
    replace HN := fun w' => HN false w'
    go_enter Tryz.func43, Tryz.ntmps43
    go_wp2_with fail
    refine (HN _).out.mono ?_
    rintro e w1 ⟨rfl, rfl⟩
    go_wp2_with fail
    go_ret
    exact ⟨rfl, rfl⟩

theorem numOne_any (z : Int) (w : World) : Calls Tryz.prog 95 #[.int .i64 z] w fun e w' => e = .returned (.int .i64 (if okNum z then 0 else 1)) ∧ w = w' := by
  have HN := fun w' => Lib.hid (numberI_any z 0 2000000000000 w')
  have e : (if okNum z then (0 : Int) else 1) = if 0 ≤ z ∧ z ≤ 2000000000000 then 0 else 1 := by
    by_cases h : okNum z
    · rw [if_pos h, if_pos (okNum_iff.1 h)]
    · rw [if_neg h, if_neg (fun g => h (okNum_iff.2 g))]
  rw [e]
  generalize (if 0 ≤ z ∧ z ≤ 2000000000000 then (0 : Int) else 1) = r at HN
  go_enter Tryz.func95, Tryz.ntmps95
  go_wp2_with fail
  refine (HN _).out.mono ?_
  rintro e w1 ⟨rfl, rfl⟩
  go_wp2_with fail
  go_ret
  exact ⟨rfl, rfl⟩

theorem all_takeB {α : Type} {p : α → Bool} {zs : List α} {k : Nat} {z : α} (hz : zs[k]? = some z) (h : (zs.take k).all p = true) (hq : p z = true) : (zs.take (k + 1)).all p = true := by
  rw [List.take_add_one, hz, List.all_append, h]
  simpa using hq
theorem all_badB {α : Type} {p : α → Bool} {zs : List α} {k : Nat} {z : α} (hz : zs[k]? = some z) (hq : p z = false) : zs.all p = false := by
  cases e : zs.all p
  · rfl
  · have := List.all_eq_true.1 e z (List.mem_of_getElem? hz)
    rw [hq] at this; cases this

set_option maxHeartbeats 4000000 in
set_option maxRecDepth 100000 in
theorem eachI_any (r : Int) (A : Option Addr) (n cap : Nat) (zs : List Int) (w : World) (hS : SlE eInt w A n cap zs) (hn : n ≤ 1000000) (hr : r = if 3000 < zs.length then 2 else if zs.all okNum then 0 else 1) :
    Calls Tryz.prog 94 #[.slice A n cap, .int .i64 3000, .func (.func 95) #[] #[]] w fun e w' => e = .returned (.int .i64 r) ∧ w = w' := by
  have hl := hS.1
  by_cases h3 : 3000 < n
  · have hV := Lib.hid (show r = 2 by rw [hr, if_pos (by omega)])
    have h3' : (3000 : Int) < n := by omega
    clear h3 hS hl hn hr
    go_enter Tryz.func94, Tryz.ntmps94
    go_wp2_with fail
    go_ret
    exact ⟨by rw [hV.out]; rfl, rfl⟩
  · have hV := Lib.hid (show r = if zs.all okNum then 0 else 1 by rw [hr, if_neg (by omega)])
    have h3' : ¬ (3000 : Int) < n := by omega
    have HI := Lib.hid (fun z w' => numOne_any z w')
    replace hl := Lib.hid hl
    replace hS := Lib.hid hS
    clear h3 hr
    go_enter Tryz.func94, Tryz.ntmps94
    go_wp2_with fail
    go_loopw [16] (fun i wr => ∃ k : Nat, k ≤ n ∧ i = .int .i64 k ∧ w = wr ∧ Hid ((zs.take k).all okNum = true)) (fun i _ => n - (intOf i).toNat)
    case atStart => exact ⟨0, by omega, rfl, rfl, Lib.hid (by simp)⟩
    case round =>
      obtain ⟨k, hk, rfl, rfl, hG⟩ := hrel
      by_cases hlt : k < n
      · obtain ⟨z, hz⟩ : ∃ z, zs[k]? = some z := ⟨zs[k]'(by have := hl.out; omega), List.getElem?_eq_getElem _⟩
        obtain ⟨b, off, rfl, hb, hc⟩ := hS.out.num hz
        have hlt' : (k : Int) < n := by omega
        have hH := Lib.hid (all_takeB (p := okNum) hz hG.out)
        have hBad := Lib.hid (all_badB (p := okNum) hz)
        clear hb
        cases hq : okNum z
        · have HY := Lib.hid (hBad.out hq)
          have HI1 := fun w' => Lib.hid (show Calls Tryz.prog 95 #[.int .i64 z] w' fun e w2 => e = .returned (.int .i64 1) ∧ w' = w2 from by have := HI.out z w'; rw [hq] at this; exact this)
          clear hz hG hH hBad hq HI
          go_wp2_with fail
          refine (HI1 _).out.mono ?_
          rintro e w2 ⟨rfl, rfl⟩
          go_wp2_with fail
          go_ret
          exact ⟨by rw [hV.out, HY.out]; rfl, rfl⟩
        · have HI1 := fun w' => Lib.hid (show Calls Tryz.prog 95 #[.int .i64 z] w' fun e w2 => e = .returned (.int .i64 0) ∧ w' = w2 from by have := HI.out z w'; rw [hq] at this; exact this)
          replace hH := Lib.hid (hH.out hq)
          clear hz hG hBad hq HI
          go_wp2_with fail
          refine (HI1 _).out.mono ?_
          rintro e w2 ⟨rfl, rfl⟩
          go_wp2_with fail
          go_roundw
          case rel => exact ⟨k + 1, by omega, by go_num, trivial, hH⟩
          case measure => simp [intOf]; omega
      · have hall : Hid (zs.all okNum = true) := Lib.hid (by have := hG.out; rw [List.take_of_length_le (by have := hl.out; omega)] at this; exact this)
        clear hG
        go_wp2_with fail
        go_ret
        exact ⟨by rw [hV.out, hall.out]; rfl, rfl⟩

set_option maxHeartbeats 1000000 in
theorem checkNumbers_any (A : Option Addr) (n cap : Nat) (zs : List Int) (w : World) (hS : SlE eInt w A n cap zs) (hn : n ≤ 1000000) :
    Calls Tryz.prog 68 #[.slice A n cap] w fun e w' => e = .returned (.int .i64 (numsF zs)) ∧ w = w' := by
  have hl := hS.1
  obtain ⟨r, hr⟩ : ∃ r, r = numsF zs := ⟨_, rfl⟩
  rw [← hr]
  by_cases h0 : n = 0
  · have hV := Lib.hid (show r = 8 by rw [hr]; unfold numsF; rw [if_pos (List.eq_nil_of_length_eq_zero (by omega))])
    subst h0
    clear hS hl hn hr
    go_enter Tryz.func68, Tryz.ntmps68
    go_wp2_with fail
    go_ret
    exact ⟨by rw [hV.out]; rfl, rfl⟩
  · have HE := Lib.hid (eachI_any r A n cap zs w hS hn (by
      rw [hr]; unfold numsF; rw [if_neg]; rintro rfl; exact h0 hl))
    have h0' : ((n : Int) == 0) = false := by simpa using h0
    clear hS hl h0 hr
    go_enter Tryz.func68, Tryz.ntmps68
    go_wp2_with fail
    refine HE.out.mono ?_
    rintro e w1 ⟨rfl, rfl⟩
    go_wp2_with fail
    go_ret
    exact ⟨rfl, rfl⟩
end Go.Proofs.YtbheigndfhhpcaaGreatDoor
