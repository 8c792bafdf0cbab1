/- Reports that are put together: what the reference makes of old ones. -/
import Derived.Test.YtilgjgdppfnefaaGreatDoorKhThH
namespace Go.Proofs.YtilgjgdppfnefaaGreatDoor
open Go.RowKit
set_option linter.unusedVariables false
set_option linter.unusedSimpArgs false

/-- A right report, as far as it matters here. -/
def Rp.G (x : Rp) : Prop := x.U ∧ x.N ∧ 0 ≤ x.hour ∧ x.hour ≤ 96023
theorem dayR_U {r : Rp} (h : r.G) : (dayR r).U ∧ (dayR r).N := by
  obtain ⟨⟨⟨h1, h2, h3, h4, h5⟩, h6, h7⟩, hN, h8, h9⟩ := h
  have m0 := Int.emod_nonneg r.hour (show (24 : Int) ≠ 0 by decide)
  have m1 := Int.emod_lt_of_pos r.hour (show (0 : Int) < 24 by decide)
  refine ⟨⟨⟨h1, h2, h3, ?_, ?_⟩, ?_, h7⟩, hN⟩
  · show i60 0; exact ⟨by decide, by decide⟩
  · show i60 0; exact ⟨by decide, by decide⟩
  · show i60 (r.hour - r.hour % 24)
    exact ⟨by omega, by omega⟩
theorem thinR_U {d : Int} {r : Rp} (h : r.G) : (thinR d r).U ∧ (thinR d r).N := by
  unfold thinR
  split
  · exact dayR_U h
  · exact ⟨h.1, h.2.1⟩

/-- What putting together gives: a list. -/
def TogP (w : World) (ms : List Rp) (e : Ending) (w' : World) : Prop := ∃ A' m' cap' zs, e = .returned (.slice A' m' cap') ∧ SlE eRp w' A' m' cap' zs ∧ Tog ms zs ∧ Below w.heap.size w w'

set_option maxHeartbeats 4000000 in
set_option maxRecDepth 100000 in
theorem togetherThin_any (bs : Nat) (d : Int) (A : Option Addr) (n cap : Nat) (ms : List Rp) (w : World) (hB : Blk w bs [.int .i64 d] 3) (hd : 0 ≤ d ∧ d ≤ 4001) (hS : SlE eRp w A n cap ms) (hn : n ≤ 20) (hG : ∀ x ∈ ms, x.G) :
    Calls Tryz.prog 44 #[.slice A n cap, .func (.func 45) #[] #[.pointer (some ⟨bs, 0, none⟩)]] w (TogP w (ms.map (thinR d))) := by
  have HM := Lib.hid (mapThin_any bs (thinR d) A n cap ms w (fun x hx W hW => thin1_any bs d x W (hB.below hW) hd (hG x hx).2.2) hS (by omega))
  have hU := Lib.hid (show ∀ x ∈ ms.map (thinR d), x.U from fun x hx => by
    obtain ⟨y, hy, rfl⟩ := List.mem_map.1 hx
    exact (thinR_U (hG y hy)).1)
  have hN := Lib.hid (show ∀ x ∈ ms.map (thinR d), x.N from fun x hx => by
    obtain ⟨y, hy, rfl⟩ := List.mem_map.1 hx
    exact (thinR_U (hG y hy)).2)
  have hl := Lib.hid (show (ms.map (thinR d)).length = n by rw [List.length_map]; exact hS.1.symm)
  generalize ms.map (thinR d) = ts at *
  clear hB hd hS hG
  go_enter Tryz.func44, Tryz.ntmps44
  go_wp2_with fail
  refine HM.out.mono ?_
  rintro e w1 ⟨⟨A', c', rfl, hown⟩, hb⟩
  obtain ⟨A2, c2, hv, hS1⟩ := hown.sl
  rw [hl.out] at hv hS1
  injection hv with e1 e2 e3
  subst e1 e3
  have HGa := Lib.hid (gather_any A' n c' ts w1 hS1 hn hU.out hN.out)
  clear HM hown hS1
  go_wp2_with fail
  refine HGa.out.mono ?_
  intro e w2 hq
  obtain ⟨A3, m3, c3, zs, rfl, hS3, hT, hb2⟩ := hq
  have hbF := hb.trans (hb2.mono hb.size)
  replace hS3 := Lib.hid hS3
  replace hT := Lib.hid hT
  clear HGa hb hb2
  go_wp2_with fail
  go_ret
  exact ⟨A3, m3, c3, zs, rfl, hS3.out, hT.out, hbF⟩
end Go.Proofs.YtilgjgdppfnefaaGreatDoor
namespace Go.Proofs.YtilgjgdppfnefaaGreatDoor
open Go.RowKit
set_option linter.unusedVariables false
set_option linter.unusedSimpArgs false

theorem firstZ_zero_all : ∀ {l : List Int}, firstZ l = 0 → ∀ z ∈ l, z = 0
  | [], _, z, hz => by cases hz
  | a :: l, h, z, hz => by
    rw [firstZ_thn] at h
    by_cases e : a = 0
    · rw [if_pos e] at h
      rcases List.mem_cons.1 hz with k | k
      · rw [k]; exact e
      · exact firstZ_zero_all h z k
    · rw [if_neg e] at h; exact absurd h e
theorem numE_zero {z a b : Int} (h : numE z a b = 0) : a ≤ z ∧ z ≤ b := by
  unfold numE at h
  by_cases k : a ≤ z ∧ z ≤ b
  · exact k
  · rw [if_neg k] at h; cases h
theorem repF_G {x : Rp} (hU : x.U) (h : repF x = 0) : x.G := by
  unfold repF at h
  have h1 := firstZ_zero_all h
  have h2 := firstZ_zero_all (h1 _ (List.mem_cons_self ..))
  have e1 := numE_zero (h2 (numE x.hour 0 96023) (by simp))
  have e2 := numE_zero (h1 (numE x.pk 1 1000000000000) (by simp))
  have e3 := numE_zero (h1 (numE x.by_ 0 1000000000000) (by simp))
  exact ⟨hU, ⟨by omega, e2.2, e3.1, e3.2⟩, e1.1, e1.2⟩
theorem risL_zero : ∀ {l : List Rp} {p : Option Rp}, risL p l = 0 → (∀ x ∈ l, repF x = 0) ∧ l.Pairwise LtR ∧ ∀ q, p = some q → ∀ x ∈ l, LtR q x
  | [], p, _ => ⟨by simp, List.Pairwise.nil, by simp⟩
  | r :: l, p, h => by
    unfold risL at h
    by_cases e : repF r = 0
    · rw [if_pos e] at h
      by_cases b : badO p r = true
      · rw [if_pos b] at h; cases h
      · rw [if_neg b] at h
        obtain ⟨h1, h2, h3⟩ := risL_zero h
        have h4 := h3 r rfl
        have h5 : ∀ q, p = some q → LtR q r := fun q hq => by
          subst hq
          unfold badO at b
          unfold LtR
          simp at b
          have := cm_rp.anti q r
          omega
        refine ⟨fun x hx => ?_, List.pairwise_cons.2 ⟨h4, h2⟩, fun q hq x hx => ?_⟩
        · rcases List.mem_cons.1 hx with k | k
          · rw [k]; exact e
          · exact h1 x k
        · rcases List.mem_cons.1 hx with k | k
          · rw [k]; exact h5 q hq
          · exact LtR.trans (h5 q hq) (h4 x k)
    · rw [if_neg e] at h; exact absurd h e
theorem repsF_zero {rs : List Rp} (hU : ∀ x ∈ rs, x.U) (h : repsF rs = 0) : (∀ x ∈ rs, x.G) ∧ rs.Pairwise LtR := by
  unfold repsF at h
  by_cases k : 3000 < rs.length
  · rw [if_pos k] at h; cases h
  · rw [if_neg k] at h
    obtain ⟨h1, h2, _⟩ := risL_zero h
    exact ⟨fun x hx => repF_G (hU x hx) (h1 x hx), h2⟩
end Go.Proofs.YtilgjgdppfnefaaGreatDoor
namespace Go.Proofs.YtilgjgdppfnefaaGreatDoor
open Go.RowKit
set_option linter.unusedVariables false
set_option linter.unusedSimpArgs false

/-- What Thin gives. -/
def ThP (w : World) (E : Int) (ts : List Rp) (e : Ending) (w' : World) : Prop := Below w.heap.size w w' ∧ ((E ≠ 0 ∧ e = .returned (.tuple #[.slice none 0 0, .int .i64 E])) ∨ (E = 0 ∧ ∃ A m cap zs, e = .returned (.tuple #[.slice A m cap, .int .i64 0]) ∧ SlE eRp w' A m cap zs ∧ Tog ts zs))

set_option maxHeartbeats 4000000 in
set_option maxRecDepth 100000 in
theorem flowThin_any (d : Int) (A : Option Addr) (n cap : Nat) (ms : List Rp) (w : World) (hS : SlE eRp w A n cap ms) (hn : n ≤ 20) (hU : ∀ x ∈ ms, x.U) :
    Calls Tryz.prog 19 #[.slice A n cap, .int .i64 d] w (ThP w (firstZ [repsF ms, numE d 0 4001]) (ms.map (thinR d))) := by
  have C1 := Lib.hid (fun W (hW : Below w.heap.size w W) => check_any A n cap ms W (hS.below hW) (by omega) hU)
  have C2 := Lib.hid (fun w' => (show Calls Tryz.prog 43 #[.int .i64 d, .int .i64 0, .int .i64 4001] w' fun e w2 => e = .returned (.int .i64 (numE d 0 4001)) ∧ w' = w2 from numberI_any d 0 4001 w'))
  have HT := Lib.hid (fun (bs : Nat) W (hW : Below w.heap.size w W) (hB : Blk W bs [.int .i64 d] 3) (h1 : repsF ms = 0) (h2 : numE d 0 4001 = 0) => togetherThin_any bs d A n cap ms W hB (numE_zero h2) (hS.below hW) hn (repsF_zero hU h1).1)
  clear hS hn hU
  generalize ms.map (thinR d) = ts at *
  generalize repsF ms = z1 at *
  generalize numE d 0 4001 = z2 at *
  obtain ⟨Z, hZ⟩ : ∃ Z, Z = firstZ [z1, z2] := ⟨_, rfl⟩
  rw [← hZ]
  replace hZ := Lib.hid hZ
  have hA := Blk.new w [.int .i64 d] 3
  have hbw : Below w.heap.size w (w.alloc (.cells [.int .i64 d].toArray 3)) := (Below.refl _ _).alloc (Nat.le_refl _) _
  go_enter Tryz.func19, Tryz.ntmps19
  go_upto_region 1 with fail
  refine wb_begin ([w.heap.size]) [] (by kernel_rfl) (fun u0 hb0' hz0' => ?_)
  replace hA := hA.below hb0'
  replace hbw := hbw.trans (hb0'.mono hbw.size)
  clear hb0' hz0'
  refine wb_pure (i := 0) (d := some 7) (v := ?_) (by simp only [List.getElem?_toArray, List.getElem?_cons_succ, List.getElem?_cons_zero] <;> rfl) (by rfl) (by kernel_rfl) (by kernel_rfl) (by kernel_rfl) (fun _ _ _ h => h) (by rfl) ?_ ?_
  rotate_left
  · ((intro u); go_simp; try with_reducible rfl)
  try simp only [Act.put, List.setIfInBounds_toArray, List.set_cons_zero, List.set_cons_succ]
  refine wb_take (i := 2) (d := some 9) (v := ?_) (by simp only [List.getElem?_toArray, List.getElem?_cons_succ, List.getElem?_cons_zero] <;> rfl) (by rfl) (by kernel_rfl) (by kernel_rfl) (by kernel_rfl) (fun _ _ _ h => h) (by rfl) (by kernel_rfl) ?_ ?_
  rotate_left
  · ((intro u hu); have ka := hA.kb hu (List.mem_singleton.2 rfl); have a0 := ka.cell (i := 0) (v := .int .i64 d) rfl; clear ka; go_simp; try with_reducible rfl)
  try simp only [Act.put, List.setIfInBounds_toArray, List.set_cons_zero, List.set_cons_succ]
  refine wb_one (i := 1) (by simp only [List.getElem?_toArray, List.getElem?_cons_succ, List.getElem?_cons_zero] <;> rfl) (by kernel_rfl) (by rfl) (fun K hK => ?_)
  go_simp
  refine (C1.out _ hbw).mono ?_
  rintro e wq1 ⟨rfl, hv1⟩
  refine hK _ _ (Kb.below hv1 (by intro q hq; rw [List.mem_singleton.1 hq]; exact hA.lt)) ?_
  replace hA := hA.below hv1
  replace hbw := hbw.trans (hv1.mono hbw.size)
  clear hK K hv1
  try simp only [Act.put, List.setIfInBounds_toArray, List.set_cons_zero, List.set_cons_succ]
  refine wb_one (i := 3) (by simp only [List.getElem?_toArray, List.getElem?_cons_succ, List.getElem?_cons_zero] <;> rfl) (by kernel_rfl) (by rfl) (fun K hK => ?_)
  go_simp
  refine (C2.out _).mono ?_
  rintro e wq3 ⟨rfl, rfl⟩
  refine hK _ _ (Kb.refl _ _) ?_
  clear hK K
  try simp only [Act.put, List.setIfInBounds_toArray, List.set_cons_zero, List.set_cons_succ]
  refine wb_one (i := 4) (by simp only [List.getElem?_toArray, List.getElem?_cons_succ, List.getElem?_cons_zero] <;> rfl) (by kernel_rfl) (by rfl) (fun K hK => ?_)
  go_simp
  refine hK _ _ (Kb.gb (World.grownBy_alloc _ _ none) (by intro q hq; rw [List.mem_singleton.1 hq]; exact ⟨hA.lt, by simp⟩)) ?_
  refine wb_new (cs := [z1, z2].map (Value.int .i64)) (t := 39) (fun u91 hv3 hL3 hz3 => ?_)
  replace hA := hA.below hv3
  replace hbw := hbw.trans (hv3.mono hbw.size)
  clear hK K hv3 hz3
  try simp only [Act.put, List.setIfInBounds_toArray, List.set_cons_zero, List.set_cons_succ]
  refine wb_one (i := 5) (by simp only [List.getElem?_toArray, List.getElem?_cons_succ, List.getElem?_cons_zero] <;> rfl) (by kernel_rfl) (by rfl) (fun K hK => ?_)
  go_simp
  refine (orF_blk [z1, z2] _ _ _ _ hL3 (by simp)).mono ?_
  rintro e w' ⟨rfl, rfl⟩
  refine hK _ _ (Kb.refl _ _) ?_
  clear hK K hL3
  try simp only [Act.put, List.setIfInBounds_toArray, List.set_cons_zero, List.set_cons_succ]
  refine wb_pure (i := 6) (d := some 6) (v := ?_) (by simp only [List.getElem?_toArray, List.getElem?_cons_succ, List.getElem?_cons_zero] <;> rfl) (by rfl) (by kernel_rfl) (by kernel_rfl) (by kernel_rfl) (fun _ _ _ h => h) (by rfl) ?_ ?_
  rotate_left
  · ((intro u); go_simp; try with_reducible rfl)
  try simp only [Act.put, List.setIfInBounds_toArray, List.set_cons_zero, List.set_cons_succ]
  refine wb_done (by kernel_rfl) ?_ _
  skip
  rw [← hZ.out]
  by_cases h0 : Z = 0
  · subst h0
    have hz := firstZ_zero_all hZ.out.symm
    have HT2 := Lib.hid (HT.out w.heap.size _ hbw hA (hz z1 (by simp)) (hz z2 (by simp)))
    clear HT C1 C2 hz
    go_wp2_with fail
    refine HT2.out.mono ?_
    intro e w5 hq
    obtain ⟨A3, m3, c3, zs, rfl, hS3, hT, hb2⟩ := hq
    have hbF := hbw.trans (hb2.mono hbw.size)
    replace hS3 := Lib.hid hS3
    replace hT := Lib.hid hT
    clear HT2 hb2 hA hbw
    go_wp2_with fail
    go_ret2
    exact ⟨hbF, .inr ⟨rfl, A3, m3, c3, zs, rfl, hS3.out, hT.out⟩⟩
  · have hb : (Z != 0) = true := by simpa using h0
    clear HT C1 C2 hA
    go_wp2_with fail
    go_ret2
    exact ⟨hbw, .inl ⟨h0, rfl⟩⟩
end Go.Proofs.YtilgjgdppfnefaaGreatDoor
namespace Go.Proofs.YtilgjgdppfnefaaGreatDoor
open Go.RowKit
set_option linter.unusedVariables false
set_option linter.unusedSimpArgs false

/-- The old ones, by days; the others. -/
def oldL (d : Int) (ms : List Rp) : List Rp := (ms.filter (fun r => decide (r.hour < d * 24))).map dayR
def restL (d : Int) (ms : List Rp) : List Rp := ms.filter (fun r => !decide (r.hour < d * 24))
theorem oldL_app (d : Int) (a b : List Rp) : oldL d (a ++ b) = oldL d a ++ oldL d b := by simp [oldL]
theorem restL_app (d : Int) (a b : List Rp) : restL d (a ++ b) = restL d a ++ restL d b := by simp [restL]
theorem oldL_one {d : Int} {r : Rp} (h : r.hour < d * 24) : oldL d [r] = [dayR r] := by simp [oldL, h]
theorem oldL_no {d : Int} {r : Rp} (h : ¬ r.hour < d * 24) : oldL d [r] = [] := by simp [oldL]; omega
theorem restL_one {d : Int} {r : Rp} (h : ¬ r.hour < d * 24) : restL d [r] = [r] := by simp [restL]; omega
theorem restL_no {d : Int} {r : Rp} (h : r.hour < d * 24) : restL d [r] = [] := by simp [restL, h]
theorem thin_perm (d : Int) : ∀ ms : List Rp, (ms.map (thinR d)).Perm (oldL d ms ++ restL d ms)
  | [] => List.Perm.refl _
  | x :: r => by
    have ih := thin_perm d r
    have e1 : oldL d (x :: r) = oldL d [x] ++ oldL d r := oldL_app d [x] r
    have e2 : restL d (x :: r) = restL d [x] ++ restL d r := restL_app d [x] r
    rw [List.map_cons, e1, e2]
    by_cases h : x.hour < d * 24
    · rw [oldL_one h, restL_no h, show thinR d x = dayR x from if_pos h]
      simpa using ih
    · rw [oldL_no h, restL_one h, show thinR d x = x from if_neg h]
      simp only [List.nil_append]
      exact (ih.cons x).trans (by simpa using (List.perm_middle (a := x) (l₁ := oldL d r) (l₂ := restL d r)).symm)
theorem oldL_G {d : Int} {ms : List Rp} (h : ∀ x ∈ ms, x.G) : ∀ x ∈ oldL d ms, x.U ∧ x.N := by
  intro x hx
  obtain ⟨y, hy, rfl⟩ := List.mem_map.1 hx
  exact dayR_U (h y (List.mem_filter.1 hy).1)
theorem oldL_hour {d : Int} {ms : List Rp} (h : ∀ x ∈ ms, x.G) : ∀ x ∈ oldL d ms, x.hour < d * 24 := by
  intro x hx
  obtain ⟨y, hy, rfl⟩ := List.mem_map.1 hx
  have h1 : y.hour < d * 24 := by simpa using (List.mem_filter.1 hy).2
  have m0 := Int.emod_nonneg y.hour (show (24 : Int) ≠ 0 by decide)
  show y.hour - y.hour % 24 < _
  omega
theorem restL_hour {d : Int} {ms : List Rp} : ∀ x ∈ restL d ms, x ∈ ms ∧ ¬ x.hour < d * 24 := by
  intro x hx
  have := List.mem_filter.1 hx
  exact ⟨this.1, by simpa using this.2⟩
theorem hour_lt {x y : Rp} (h : x.hour < y.hour) : LtR x y := by
  unfold LtR cmpRp
  have e : Lib.compareInt x.hour y.hour = -1 := by unfold Lib.compareInt; rw [if_pos h]
  rw [firstZ_thn, if_neg (by rw [e]; decide), e]
  decide
/-- What the reference makes of right reports: the old ones put together, the others behind. -/
theorem thin_tog {d : Int} {ms zs : List Rp} (hG : ∀ x ∈ ms, x.G) (hs : ms.Pairwise LtR) (h : Tog (oldL d ms) zs) : Tog (ms.map (thinR d)) (zs ++ restL d ms) := by
  refine Tog.perm (thin_perm d ms).symm ?_
  refine h.app (hs.filter _) (fun x hx => (hG x (restL_hour x hx).1).2.1) (fun z hz x hx => ?_)
  obtain ⟨y, hy, hk⟩ := h.key z hz
  have h1 := oldL_hour hG y hy
  have h2 := (restL_hour x hx).2
  refine hour_lt ?_
  have h3 := hk.2.1
  omega
end Go.Proofs.YtilgjgdppfnefaaGreatDoor
