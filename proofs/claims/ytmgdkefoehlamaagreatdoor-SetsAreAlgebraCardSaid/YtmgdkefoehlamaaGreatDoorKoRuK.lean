/- A what that is checked: the star. -/
import Derived.Test.YtmgdkefoehlamaaGreatDoorKoGzA
import Derived.Test.YtmgdkefoehlamaaGreatDoorKoRuD
import Derived.Laws.EntriesVeiled
import Derived.Test.YtmgdkefoehlamaaGreatDoorKoWaysB
set_option linter.unusedVariables false
set_option linter.unusedSimpArgs false
set_option maxRecDepth 100000
namespace Go.Proofs.YtmgdkefoehlamaaGreatDoor
open Go.RowKit

set_option maxHeartbeats 1000000 in
theorem risingNilGr_any (A : Option Addr) (c : Nat) (most : Int) (f g : Value) (R : Option Addr) (rn rc : Nat) (w : World) (hm : 0 ≤ most) :
    Calls Tryz.prog 184 #[.slice A 0 c, .int .i64 most, f, g, .slice R rn rc] w fun e w' => e = .returned (.int .i64 0) ∧ w = w' := by
  have h1 : ¬ most < 0 := by omega
  have h2 : decide (most < 0) = false := decide_eq_false h1
  go_enter Tryz.func184, Tryz.ntmps184
  go_wp2_with fail
  refine wp_loop_rounds 1 ?_
  rw [rounds_succ]
  go_wp2_with fail
  go_ret
  exact ⟨rfl, rfl⟩

set_option maxHeartbeats 1000000 in
theorem risingNilHo_any (A : Option Addr) (c : Nat) (most : Int) (f g : Value) (R : Option Addr) (rn rc : Nat) (w : World) (hm : 0 ≤ most) :
    Calls Tryz.prog 190 #[.slice A 0 c, .int .i64 most, f, g, .slice R rn rc] w fun e w' => e = .returned (.int .i64 0) ∧ w = w' := by
  have h1 : ¬ most < 0 := by omega
  have h2 : decide (most < 0) = false := decide_eq_false h1
  go_enter Tryz.func190, Tryz.ntmps190
  go_wp2_with fail
  refine wp_loop_rounds 1 ?_
  rw [rounds_succ]
  go_wp2_with fail
  go_ret
  exact ⟨rfl, rfl⟩

set_option maxHeartbeats 1000000 in
theorem risingNilSt_any (A : Option Addr) (c : Nat) (most : Int) (f g : Value) (R : Option Addr) (rn rc : Nat) (w : World) (hm : 0 ≤ most) :
    Calls Tryz.prog 116 #[.slice A 0 c, .int .i64 most, f, g, .slice R rn rc] w fun e w' => e = .returned (.int .i64 0) ∧ w = w' := by
  have h1 : ¬ most < 0 := by omega
  have h2 : decide (most < 0) = false := decide_eq_false h1
  go_enter Tryz.func116, Tryz.ntmps116
  go_wp2_with fail
  refine wp_loop_rounds 1 ?_
  rw [rounds_succ]
  go_wp2_with fail
  go_ret
  exact ⟨rfl, rfl⟩

set_option maxHeartbeats 1000000 in
theorem eachNilTe_any (A : Option Addr) (c : Nat) (most : Int) (f : Value) (w : World) (hm : 0 ≤ most) :
    Calls Tryz.prog 196 #[.slice A 0 c, .int .i64 most, f] w fun e w' => e = .returned (.int .i64 0) ∧ w = w' := by
  have h1 : ¬ most < 0 := by omega
  have h2 : decide (most < 0) = false := decide_eq_false h1
  go_enter Tryz.func196, Tryz.ntmps196
  go_wp2_with fail
  refine wp_loop_rounds 1 ?_
  rw [rounds_succ]
  go_wp2_with fail
  go_ret
  exact ⟨rfl, rfl⟩

set_option maxHeartbeats 1000000 in
theorem keysNil_any (w : World) : Calls Tryz.prog 273 #[.slice none 0 0] w (GivesV (.int .i64 0) w) := by
  go_enter Tryz.func273, Tryz.ntmps273
  go_wp2_with fail
  refine (risingNilSt_any _ _ _ _ _ _ _ _ _ (by decide)).mono ?_
  rintro e w1 ⟨rfl, rfl⟩
  go_wp2_with fail
  go_ret
  exact ⟨rfl, Below.refl _ _⟩

set_option maxHeartbeats 1000000 in
theorem checkTestsNil_any (w : World) : Calls Tryz.prog 110 #[.slice none 0 0] w (GivesV (.int .i64 0) w) := by
  go_enter Tryz.func110, Tryz.ntmps110
  go_wp2_with fail
  refine (eachNilTe_any _ _ _ _ _ (by decide)).mono ?_
  rintro e w1 ⟨rfl, rfl⟩
  go_wp2_with fail
  go_ret
  exact ⟨rfl, Below.refl _ _⟩

set_option maxHeartbeats 1000000 in
theorem checkHostsNil_any (w : World) : Calls Tryz.prog 108 #[.slice none 0 0] w (GivesV (.int .i64 0) w) := by
  have hb : Below w.heap.size w (w.alloc (.cells #[.func (.func 191) #[] #[]] 274)) := (Below.refl _ _).alloc (Nat.le_refl _) _
  go_enter Tryz.func108, Tryz.ntmps108
  go_wp2_with fail
  refine (risingNilHo_any _ _ _ _ _ _ _ _ _ (by decide)).mono ?_
  rintro e w1 ⟨rfl, rfl⟩
  go_wp2_with fail
  go_ret
  exact ⟨rfl, hb⟩

theorem run_makeMapH {t k e : TypeId} (ht : Tryz.prog.underlying t = some (.map k e)) (w : World) : (Instr.makeMap t (some (.int .i64 0))).run Tryz.prog w = .ok (.map (some w.heap.size)) (w.alloc (.map #[] 0)) := by simp [Instr.makeMap, run_underlying ht, Result.andThen, asInt, asIntOf]
@[go_sem] theorem run_makeMapGr (w : World) : (Instr.makeMap 351 (some (.int .i64 0))).run Tryz.prog w = .ok (.map (some w.heap.size)) (w.alloc (.map #[] 0)) := run_makeMapH Tryz.underlying351 w
@[go_sem] theorem run_makeMapN (t : TypeId) (w : World) : (Instr.makeMap t none).run Tryz.prog w = .ok (.map (some w.heap.size)) (w.alloc (.map #[] 0)) := by simp [Instr.makeMap]

set_option maxHeartbeats 1000000 in
theorem groupsOfNil_any (w : World) : Calls Tryz.prog 264 #[.slice none 0 0] w (fun e w' => (∃ v, e = .returned v) ∧ Below w.heap.size w w') := by
  go_enter Tryz.func264, Tryz.ntmps264
  go_wp2_with fail
  refine wp_loop_rounds 1 ?_
  rw [rounds_succ]
  go_wp2_with fail
  go_ret
  exact ⟨⟨_, rfl⟩, (Below.refl _ _).alloc (Nat.le_refl _) _⟩

set_option maxHeartbeats 1000000 in
theorem checkInnerNil_any (w : World) : Calls Tryz.prog 187 #[.slice none 0 0] w (GivesV (.int .i64 0) w) := by
  go_enter Tryz.func187, Tryz.ntmps187
  go_wp2_with fail
  refine (groupsOfNil_any w).mono ?_
  rintro e w1 ⟨⟨v, rfl⟩, hb⟩
  go_wp2_with fail
  refine wp_loop_rounds 1 ?_
  rw [rounds_succ]
  go_wp2_with fail
  refine wp_loop_rounds 1 ?_
  rw [rounds_succ]
  go_wp2_with fail
  go_ret
  exact ⟨rfl, hb⟩

set_option maxHeartbeats 1000000 in
theorem checkGroupsNil_any (w : World) : Calls Tryz.prog 107 #[.slice none 0 0] w (GivesV (.int .i64 0) w) := by
  have hb : Below w.heap.size w (w.alloc (.cells #[.func (.func 185) #[] #[]] 270)) := (Below.refl _ _).alloc (Nat.le_refl _) _
  go_enter Tryz.func107, Tryz.ntmps107
  go_wp2_with fail
  refine (risingNilGr_any _ _ _ _ _ _ _ _ _ (by decide)).mono ?_
  rintro e w1 ⟨rfl, rfl⟩
  go_wp2_with fail
  refine (checkInnerNil_any _).mono ?_
  rintro e w2 ⟨rfl, hb2⟩
  replace hb := hb.trans (hb2.mono hb.size)
  clear hb2
  go_wp2_with fail
  go_ret
  exact ⟨rfl, hb⟩

set_option maxHeartbeats 1000000 in
theorem risingNilPe_any (A : Option Addr) (c : Nat) (most : Int) (f g : Value) (R : Option Addr) (rn rc : Nat) (w : World) (hm : 0 ≤ most) :
    Calls Tryz.prog 212 #[.slice A 0 c, .int .i64 most, f, g, .slice R rn rc] w fun e w' => e = .returned (.int .i64 0) ∧ w = w' := by
  have h1 : ¬ most < 0 := by omega
  have h2 : decide (most < 0) = false := decide_eq_false h1
  go_enter Tryz.func212, Tryz.ntmps212
  go_wp2_with fail
  refine wp_loop_rounds 1 ?_
  rw [rounds_succ]
  go_wp2_with fail
  go_ret
  exact ⟨rfl, rfl⟩

set_option maxHeartbeats 1000000 in
theorem eachNilFi_any (A : Option Addr) (c : Nat) (most : Int) (f : Value) (w : World) (hm : 0 ≤ most) :
    Calls Tryz.prog 216 #[.slice A 0 c, .int .i64 most, f] w fun e w' => e = .returned (.int .i64 0) ∧ w = w' := by
  have h1 : ¬ most < 0 := by omega
  have h2 : decide (most < 0) = false := decide_eq_false h1
  go_enter Tryz.func216, Tryz.ntmps216
  go_wp2_with fail
  refine wp_loop_rounds 1 ?_
  rw [rounds_succ]
  go_wp2_with fail
  go_ret
  exact ⟨rfl, rfl⟩

set_option maxHeartbeats 400000 in
theorem equalNilAd_any (w : World) : Calls Tryz.prog 215 #[.slice none 0 0, .slice none 0 0] w fun e w' => e = .returned (.bool true) ∧ w = w' := by
  go_enter Tryz.func215, Tryz.ntmps215
  go_wp2_with fail
  refine wp_loop_rounds 1 ?_
  rw [rounds_succ]
  go_wp2_with fail
  go_ret
  exact ⟨rfl, rfl⟩

set_option maxHeartbeats 400000 in
theorem equalNilPx_any (w : World) : Calls Tryz.prog 14 #[.slice none 0 0, .slice none 0 0] w fun e w' => e = .returned (.bool true) ∧ w = w' := by
  go_enter Tryz.func14, Tryz.ntmps14
  go_wp2_with fail
  refine wp_loop_rounds 1 ?_
  rw [rounds_succ]
  go_wp2_with fail
  go_ret
  exact ⟨rfl, rfl⟩

set_option maxHeartbeats 400000 in
theorem equalNilSt_any (w : World) : Calls Tryz.prog 214 #[.slice none 0 0, .slice none 0 0] w fun e w' => e = .returned (.bool true) ∧ w = w' := by
  go_enter Tryz.func214, Tryz.ntmps214
  go_wp2_with fail
  refine wp_loop_rounds 1 ?_
  rw [rounds_succ]
  go_wp2_with fail
  go_ret
  exact ⟨rfl, rfl⟩

@[go_sem] theorem run_makeMapPe (w : World) : (Instr.makeMap 183 (some (.int .i64 0))).run Tryz.prog w = .ok (.map (some w.heap.size)) (w.alloc (.map #[] 0)) := run_makeMapH Tryz.underlying183 w

set_option maxHeartbeats 400000 in
theorem byKeysNil_any (w : World) : Calls Tryz.prog 120 #[.slice none 0 0] w (fun e w' => e = .returned (.map (some w.heap.size)) ∧ w' = w.alloc (.map #[] 0)) := by
  go_enter Tryz.func120, Tryz.ntmps120
  go_wp2_with fail
  refine wp_loop_rounds 1 ?_
  rw [rounds_succ]
  go_wp2_with fail
  go_ret
  exact ⟨rfl, rfl⟩

set_option maxHeartbeats 400000 in
theorem filterNil_any (w : World) : Calls Tryz.prog 124 #[.slice none 0 0] w (GivesV (.int .i64 0) w) := by
  go_enter Tryz.func124, Tryz.ntmps124
  go_wp2_with fail
  refine (eachNilFi_any _ _ _ _ _ (by decide)).mono ?_
  rintro e w1 ⟨rfl, rfl⟩
  go_wp2_with fail
  go_ret
  exact ⟨rfl, Below.refl _ _⟩

set_option maxHeartbeats 400000 in
theorem needU_any (b : Bool) (e : Int) (w : World) : Calls Tryz.prog 199 #[.bool b, .int .i64 e] w fun r w' => r = .returned (.int .i64 (if b then 0 else e)) ∧ w = w' := by
  cases b
  all_goals
    go_enter Tryz.func199, Tryz.ntmps199
    go_wp2_with fail
    go_ret
    exact ⟨rfl, rfl⟩

set_option maxHeartbeats 400000 in
theorem checkHadNo_any (e : Int) (w : World) : Calls Tryz.prog 121 #[.bool false, .int .i64 e, .bool true] w fun r w' => r = .returned (.int .i64 0) ∧ w = w' := by
  go_enter Tryz.func121, Tryz.ntmps121
  go_wp2_with fail
  refine (needU_any _ _ _).mono ?_
  rintro e w1 ⟨rfl, rfl⟩
  go_wp2_with fail
  go_ret
  exact ⟨rfl, rfl⟩

set_option maxHeartbeats 1000000 in
theorem checkPeersNil_any (w : World) : Calls Tryz.prog 119 #[.slice none 0 0, .string ⟨#[]⟩] w (GivesV (.int .i64 0) w) := by
  go_enter Tryz.func119, Tryz.ntmps119
  go_wp2_with fail
  refine (risingNilPe_any _ _ _ _ _ _ _ _ _ (by decide)).mono ?_
  rintro e w1 ⟨rfl, rfl⟩
  go_wp2_with fail
  go_ret
  exact ⟨rfl, ((Below.refl _ _).alloc (Nat.le_refl _) _).alloc (by simp) _⟩

abbrev ndC : List Value := [.string ⟨#[]⟩, .string ⟨#[]⟩, .string ⟨#[]⟩, .slice none 0 0, .slice none 0 0, .slice none 0 0]
set_option maxHeartbeats 1000000 in
theorem sameNodeZero_any (w : World) : Calls Tryz.prog 123 #[.agg ndC.toArray, .agg ndC.toArray] w (GivesV (.bool true) w) := by
  have hX := (Blk.new w ndC 78).alloc (.cells ndC.toArray 78)
  have hY := Blk.new (w.alloc (.cells ndC.toArray 78)) ndC 78
  rw [World.size_alloc] at hY
  obtain ⟨w1, hw1⟩ : ∃ x, x = (w.alloc (.cells #[.string ⟨#[]⟩, .string ⟨#[]⟩, .string ⟨#[]⟩, .slice none 0 0, .slice none 0 0, .slice none 0 0] 78)).alloc (.cells #[.string ⟨#[]⟩, .string ⟨#[]⟩, .string ⟨#[]⟩, .slice none 0 0, .slice none 0 0, .slice none 0 0] 78) := ⟨_, rfl⟩
  have hb1 : Below w.heap.size w w1 := by rw [hw1]; exact ((Below.refl _ _).alloc (Nat.le_refl _) _).alloc (by simp) _
  replace hX : Blk w1 w.heap.size ndC 78 := by rw [hw1]; exact hX
  replace hY : Blk w1 (w.heap.size + 1) ndC 78 := by rw [hw1]; exact hY
  have x0 := hX.cell (i := 0) rfl
  have x1 := hX.cell (i := 1) rfl
  have x2 := hX.cell (i := 2) rfl
  have x3 := hX.cell (i := 3) rfl
  have x4 := hX.cell (i := 4) rfl
  have x5 := hX.cell (i := 5) rfl
  have y0 := hY.cell (i := 0) rfl
  have y1 := hY.cell (i := 1) rfl
  have y2 := hY.cell (i := 2) rfl
  have y3 := hY.cell (i := 3) rfl
  have y4 := hY.cell (i := 4) rfl
  have y5 := hY.cell (i := 5) rfl
  go_enter Tryz.func123, Tryz.ntmps123
  go_upto_region 1 with fail
  rw [← hw1]
  clear hw1 hX hY
  go_wp2_with fail
  refine (equalNilSt_any _).mono ?_
  rintro e w2 ⟨rfl, rfl⟩
  go_wp2_with fail
  refine (equalNilAd_any _).mono ?_
  rintro e w2 ⟨rfl, rfl⟩
  go_wp2_with fail
  refine (equalNilPx_any _).mono ?_
  rintro e w2 ⟨rfl, rfl⟩
  go_wp2_with fail
  go_ret
  exact ⟨rfl, hb1⟩

set_option maxHeartbeats 400000 in
theorem isKeyEmptyU_any (w : World) : Calls Tryz.prog 203 #[.string ⟨#[]⟩] w fun e w' => e = .returned (.bool false) ∧ w' = w := by
  go_enter Tryz.func203, Tryz.ntmps203
  go_wp2_with fail
  go_ret
  exact ⟨rfl, rfl⟩
set_option maxHeartbeats 400000 in
theorem keyEmptyU_any (w : World) : Calls Tryz.prog 117 #[.string ⟨#[]⟩] w fun e w' => e = .returned (.int .i64 5) ∧ w' = w := by
  go_enter Tryz.func117, Tryz.ntmps117
  go_wp2_with fail
  refine (isKeyEmptyU_any _).mono ?_
  rintro e w1 ⟨rfl, rfl⟩
  go_wp2_with fail
  refine (needU_any _ _ _).mono ?_
  rintro e w2 ⟨rfl, rfl⟩
  go_wp2_with fail
  go_ret
  exact ⟨rfl, rfl⟩
set_option maxHeartbeats 400000 in
theorem isSmallA_any (w : World) : Calls Tryz.prog 276 #[.int .u8 97] w fun e w' => e = .returned (.bool true) ∧ w' = w := by
  go_enter Tryz.func276, Tryz.ntmps276
  go_wp2_with fail
  go_ret
  exact ⟨rfl, rfl⟩
set_option maxHeartbeats 400000 in
theorem inKeyA_any (w : World) : Calls Tryz.prog 277 #[.int .u8 97] w fun e w' => e = .returned (.bool true) ∧ w' = w := by
  go_enter Tryz.func277, Tryz.ntmps277
  go_wp2_with fail
  refine (isSmallA_any _).mono ?_
  rintro e w1 ⟨rfl, rfl⟩
  go_wp2_with fail
  go_ret
  exact ⟨rfl, rfl⟩
set_option maxHeartbeats 400000 in
theorem isKeyA_any (w : World) : Calls Tryz.prog 203 #[.string ⟨#[97]⟩] w fun e w' => e = .returned (.bool true) ∧ w' = w := by
  go_enter Tryz.func203, Tryz.ntmps203
  go_wp2_with fail
  refine (isSmallA_any _).mono ?_
  rintro e w1 ⟨rfl, rfl⟩
  go_wp2_with fail
  refine wp_loop_rounds 2 ?_
  rw [rounds_succ]
  go_wp2_with fail
  refine (inKeyA_any _).mono ?_
  rintro e w1 ⟨rfl, rfl⟩
  go_wp2_with fail
  rw [rounds_succ]
  go_wp2_with fail
  go_ret
  exact ⟨rfl, rfl⟩
set_option maxHeartbeats 400000 in
theorem keyA_any (w : World) : Calls Tryz.prog 117 #[.string ⟨#[97]⟩] w fun e w' => e = .returned (.int .i64 0) ∧ w' = w := by
  go_enter Tryz.func117, Tryz.ntmps117
  go_wp2_with fail
  refine (isKeyA_any _).mono ?_
  rintro e w1 ⟨rfl, rfl⟩
  go_wp2_with fail
  refine (needU_any _ _ _).mono ?_
  rintro e w2 ⟨rfl, rfl⟩
  go_wp2_with fail
  go_ret
  exact ⟨rfl, rfl⟩
theorem orU_blk (l : List Int) (p cap : Nat) (w : World) (t : TypeId) (h : Blk w p (l.map (Value.int .i64)) t) (hl : l.length ≤ 100) :
    Calls Tryz.prog 45 #[.slice (some ⟨p, 0, none⟩) l.length cap] w fun e w' => e = .returned (.int .i64 (firstZ l)) ∧ w = w' :=
  or_any l p cap w (fun i hi => h.cell (by rw [List.getElem?_map, List.getElem?_eq_getElem hi, List.getD_eq_getElem?_getD, List.getElem?_eq_getElem hi]; rfl)) hl
theorem or55_any (p cap : Nat) (w : World) {t : TypeId} (h : Blk w p (([5, 5] : List Int).map (Value.int .i64)) t) : Calls Tryz.prog 45 #[.slice (some ⟨p, 0, none⟩) 2 cap] w fun e w' => e = .returned (.int .i64 5) ∧ w = w' := orU_blk [5, 5] p cap w t h (by decide)

set_option maxHeartbeats 1000000 in
theorem nodes1_any (w : World) : Calls Tryz.prog 280 #[.agg ndC.toArray] w (GivesV (.int .i64 5) w) := by
  have hX := Blk.new w ndC 78
  have hbw : Below w.heap.size w (w.alloc (.cells ndC.toArray 78)) := (Below.refl _ _).alloc (Nat.le_refl _) _
  go_enter Tryz.func280, Tryz.ntmps280
  go_upto_region 1 with fail
  refine wb_begin ([w.heap.size]) [] (by kernel_rfl) (fun u0 hb0' hz0' => ?_)
  replace hX := hX.below hb0'
  replace hbw := hbw.trans (hb0'.mono hbw.size)
  clear hb0' hz0'
  refine wb_pureZ 0 (some 3) (v := ?_) ?_ ?_; rotate_left; · (intro u; go_simp; try with_reducible rfl)
  try simp only [Act.put, gzD, gzE, gzF]
  refine wb_takeZ 1 (some 4) (v := ?_) ?_ ?_; rotate_left; · (intro u hu; have ka := hX.kb hu (List.mem_singleton.2 rfl); have a0 := ka.cell (i := 0) (v := .string ⟨#[]⟩) rfl; have a2 := ka.cell (i := 2) (v := .string ⟨#[]⟩) rfl; clear ka; go_simp; try with_reducible rfl)
  try simp only [Act.put, gzD, gzE, gzF]
  refine wb_pureZ 3 (some 6) (v := ?_) ?_ ?_; rotate_left; · (intro u; go_simp; try with_reducible rfl)
  try simp only [Act.put, gzD, gzE, gzF]
  refine wb_takeZ 4 (some 7) (v := ?_) ?_ ?_; rotate_left; · (intro u hu; have ka := hX.kb hu (List.mem_singleton.2 rfl); have a0 := ka.cell (i := 0) (v := .string ⟨#[]⟩) rfl; have a2 := ka.cell (i := 2) (v := .string ⟨#[]⟩) rfl; clear ka; go_simp; try with_reducible rfl)
  try simp only [Act.put, gzD, gzE, gzF]
  refine wb_oneZ 2 (fun K hK => ?_)
  go_simp
  refine (keyEmptyU_any _).mono ?_
  rintro e wq2 ⟨rfl, rfl⟩
  refine hK _ _ (Kb.refl _ _) ?_
  clear hK K
  try simp only [Act.put, gzD, gzE, gzF]
  refine wb_oneZ 5 (fun K hK => ?_)
  go_simp
  refine (keyEmptyU_any _).mono ?_
  rintro e wq5 ⟨rfl, rfl⟩
  refine hK _ _ (Kb.refl _ _) ?_
  clear hK K
  try simp only [Act.put, gzD, gzE, gzF]
  refine wb_oneZ 6 (fun K hK => ?_)
  go_simp
  refine hK _ _ (Kb.gb (World.grownBy_alloc _ _ none) (by intro q hq; rw [List.mem_singleton.1 hq]; exact ⟨hX.lt, by simp⟩)) ?_
  refine wb_new (cs := ([5, 5] : List Int).map (Value.int .i64)) (t := 28) (fun u91 hv3 hL3 hz3 => ?_)
  replace hX := hX.below hv3
  replace hbw := hbw.trans (hv3.mono hbw.size)
  clear hK K hv3 hz3
  try simp only [Act.put, gzD, gzE, gzF]
  refine wb_oneZ 7 (fun K hK => ?_)
  go_simp
  refine (or55_any _ _ _ hL3).mono ?_
  rintro e w' ⟨rfl, rfl⟩
  refine hK _ _ (Kb.refl _ _) ?_
  clear hK K hL3
  try simp only [Act.put, gzD, gzE, gzF]
  refine wb_pureZ 8 (some 2) (v := ?_) ?_ ?_; rotate_left; · (intro u; go_simp; try with_reducible rfl)
  try simp only [Act.put, gzD, gzE, gzF]
  refine wb_done (by kernel_rfl) ?_ _
  skip
  go_wp2_with fail
  go_ret
  exact ⟨rfl, hbw⟩

set_option maxHeartbeats 1000000 in
theorem risingNode1_any (g : Nat) (byk : Value) (R : Option Addr) (rn rc : Nat) (w : World) (hL : Blk w g ndC 78) :
    Calls Tryz.prog 282 #[.slice (some ⟨g, 0, none⟩) 1 1, .int .i64 500, .func (.func 280) #[] #[], byk, .slice R rn rc] w (GivesV (.int .i64 5) w) := by
  have x0 := hL.cell (i := 0) rfl
  have x1 := hL.cell (i := 1) rfl
  have x2 := hL.cell (i := 2) rfl
  have x3 := hL.cell (i := 3) rfl
  have x4 := hL.cell (i := 4) rfl
  have x5 := hL.cell (i := 5) rfl
  have hX := Blk.new w ndC 78
  have y0 := hX.cell (i := 0) rfl
  have y1 := hX.cell (i := 1) rfl
  have y2 := hX.cell (i := 2) rfl
  have y3 := hX.cell (i := 3) rfl
  have y4 := hX.cell (i := 4) rfl
  have y5 := hX.cell (i := 5) rfl
  have hbw : Below w.heap.size w (w.alloc (.cells ndC.toArray 78)) := (Below.refl _ _).alloc (Nat.le_refl _) _
  have HN := Lib.hid (nodes1_any (w.alloc (.cells ndC.toArray 78)))
  clear hL hX
  go_enter Tryz.func282, Tryz.ntmps282
  go_wp2_with fail
  refine wp_loop_rounds 2 ?_
  rw [rounds_succ]
  go_wp2_with fail
  refine HN.out.mono ?_
  rintro e w2 ⟨rfl, hb2⟩
  replace hbw := hbw.trans (hb2.mono hbw.size)
  clear HN hb2 x0 x1 x2 x3 x4 x5 y0 y1 y2 y3 y4 y5
  go_wp2_with fail
  go_ret
  exact ⟨rfl, hbw⟩

set_option maxHeartbeats 1000000 in
theorem checkNodesZero_any (g : Nat) (w : World) (hL : Blk w g ndC 78) : Calls Tryz.prog 213 #[.slice (some ⟨g, 0, none⟩) 1 1] w (GivesV (.int .i64 5) w) := by
  have hb := fun (v : Value) (t1 t2 : TypeId) => (((Below.refl w.heap.size w).alloc (Nat.le_refl _) (.map #[] 0)).alloc (by simp) (.cells #[.map (some w.heap.size)] t1)).alloc (by simp; omega) (.cells #[v] t2)
  go_enter Tryz.func213, Tryz.ntmps213
  go_wp2_with fail
  have hL2 := hL.below (hb (.func (.func 283) #[] #[.pointer (some ⟨w.heap.size + 1, 0, none⟩)]) 290 189)
  have hb2 := hb (.func (.func 283) #[] #[.pointer (some ⟨w.heap.size + 1, 0, none⟩)]) 290 189
  clear hb hL
  refine (risingNode1_any g _ _ _ _ _ hL2).mono ?_
  rintro e w3 ⟨rfl, hb3⟩
  replace hb2 := hb2.trans (hb3.mono hb2.size)
  clear hb3 hL2
  go_wp2_with fail
  go_ret
  exact ⟨rfl, hb2⟩

set_option maxHeartbeats 1000000 in
theorem checkSelfZero_any (w : World) : Calls Tryz.prog 122 #[.agg ndC.toArray] w (GivesV (.int .i64 5) w) := by
  have hX := Blk.new w ndC 78
  have y0 := hX.cell (i := 0) rfl
  have y1 := hX.cell (i := 1) rfl
  have y2 := hX.cell (i := 2) rfl
  have y3 := hX.cell (i := 3) rfl
  have y4 := hX.cell (i := 4) rfl
  have y5 := hX.cell (i := 5) rfl
  have hY := Blk.new (w.alloc (.cells ndC.toArray 78)) ndC 78
  have hb : Below w.heap.size w ((w.alloc (.cells ndC.toArray 78)).alloc (.cells ndC.toArray 78)) := ((Below.refl _ _).alloc (Nat.le_refl _) _).alloc (by simp) _
  rw [World.size_alloc] at hY
  have HN := Lib.hid (checkNodesZero_any (w.heap.size + 1) _ hY)
  clear hX hY
  go_enter Tryz.func122, Tryz.ntmps122
  go_wp2_with fail
  refine HN.out.mono ?_
  rintro e w2 ⟨rfl, hb2⟩
  replace hb := hb.trans (hb2.mono hb.size)
  clear HN hb2 y0 y1 y2 y3 y4 y5
  go_wp2_with fail
  go_ret
  exact ⟨rfl, hb⟩

abbrev pfZ : Pf := (⟨false, 0, 0⟩, 0)
theorem neqPfZ (x y : Operand) (w : World) : (nePf x y (.agg (pfC pfZ).toArray) (.agg #[.bool false, .int .u64 0, .int .u64 0, .int .i64 0])).run Tryz.prog w = .ok (.value (.bool false)) w := by kernel_rfl

set_option maxHeartbeats 2000000 in
theorem checkWhatStar_any (m : Value) (w : World) (hF : Rd2 w) : Calls Tryz.prog 350 #[whA wStar, m] w (GivesV (.int .i64 0) w) := by
  have hX := Blk.new w (whC wStar) 244
  obtain ⟨w1, hw1⟩ : ∃ x, x = w.alloc (.cells (whC wStar).toArray 244) := ⟨_, rfl⟩
  have hb1 : Below w.heap.size w w1 := by rw [hw1]; exact (Below.refl _ _).alloc (Nat.le_refl _) _
  replace hX : Blk w1 w.heap.size (whC wStar) 244 := by rw [hw1]; exact hX
  have hF1 := hF.below hb1
  have d0 : w1.cell? ⟨2, 0, none⟩ = some (.string ⟨#[42]⟩) := hF1.forms 0 _ rfl
  have d1 : w1.cell? ⟨2, 1, none⟩ = some (.bool false) := hF1.forms 1 _ rfl
  have d2 : w1.cell? ⟨2, 2, none⟩ = some (.bool false) := hF1.forms 2 _ rfl
  have c0 : w1.cell? ⟨w.heap.size, 0, none⟩ = some (.int .i64 1) := hX.cell (i := 0) rfl
  have hX2 := hX.alloc (.cells #[.string ⟨#[42]⟩, .bool false, .bool false] 341)
  have e0 : (w1.alloc (.cells #[.string ⟨#[42]⟩, .bool false, .bool false] 341)).cell? ⟨w.heap.size, 0, none⟩ = some (.int .i64 1) := hX2.cell (i := 0) rfl
  have e1 : (w1.alloc (.cells #[.string ⟨#[42]⟩, .bool false, .bool false] 341)).cell? ⟨w.heap.size, 1, none⟩ = some (.string ⟨#[]⟩) := hX2.cell (i := 1) rfl
  have eP : (ldT 40 (.pointer (some ⟨w.heap.size, 2, none⟩))).run Tryz.prog (w1.alloc (.cells #[.string ⟨#[42]⟩, .bool false, .bool false] 341)) = .ok (.value (.agg (pfC pfZ).toArray)) (w1.alloc (.cells #[.string ⟨#[42]⟩, .bool false, .bool false] 341)) := hX2.ldAt rowPf 2 (pfC pfZ) [] rfl rfl
  have hb2 := hb1.alloc hb1.size (.cells #[.string ⟨#[42]⟩, .bool false, .bool false] 341)
  have nq := neqPfZ
  clear hX hX2 hF hF1
  go_enter Tryz.func350, Tryz.ntmps350
  go_upto_region 1 with fail
  rw [← hw1]
  clear hw1
  go_wp2_with fail
  go_ret
  exact ⟨rfl, hb2⟩
end Go.Proofs.YtmgdkefoehlamaaGreatDoor
