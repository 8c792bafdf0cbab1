/- LessIsKept: sums, and whether one tells of much. -/
import Derived.Test.YtfiocnjogbpgoaaGreatDoorKkThP
import Derived.Test.YtfiocnjogbpgoaaGreatDoorKkThC
namespace Go.Proofs.YtfiocnjogbpgoaaGreatDoor
open Go.RowKit
set_option linter.unusedVariables false
set_option linter.unusedSimpArgs false

theorem two_mem {a b : Nat} {P : Nat → Prop} (h1 : P a) (h2 : P b) : ∀ q ∈ [a, b], P q := by
  intro q hq
  rcases List.mem_cons.1 hq with h | h
  · rw [h]; exact h1
  · rw [List.mem_singleton.1 h]; exact h2
abbrev HFV (p q : Nat) : Value := .func (.func 65) #[] #[.pointer (some ⟨p, 0, none⟩), .pointer (some ⟨q, 0, none⟩)]
theorem repF_A {x : Rp} (h : repF x = 0) : x.A := by
  unfold repF at h
  have h1 := firstZ_zero_all h
  have h2 := firstZ_zero_all (h1 _ (List.mem_cons_self ..))
  have e := h2 (flE x.fl) (by simp)
  unfold flE flF at e
  by_cases c : x.fl.p < 1 ∨ 255 < x.fl.p
  · rw [if_pos c] at e; cases e
  · rw [if_neg c] at e
    by_cases c2 : firstZ [adF x.fl.f.s x.fl.f.hi x.fl.f.lo, adF x.fl.t.s x.fl.t.hi x.fl.t.lo] ≠ 0
    · rw [if_pos c2] at e; exact absurd e c2
    · have c3 := firstZ_zero_all (show firstZ [adF x.fl.f.s x.fl.f.hi x.fl.f.lo, adF x.fl.t.s x.fl.t.hi x.fl.t.lo] = 0 by omega)
      exact ⟨c3 _ (by simp), c3 _ (by simp)⟩
theorem repsF_A {rs : List Rp} (h : repsF rs = 0) : ∀ x ∈ rs, x.A := by
  unfold repsF at h
  by_cases k : 3000 < rs.length
  · rw [if_pos k] at h; cases h
  · rw [if_neg k] at h
    exact fun x hx => repF_A ((risL_zero h).1 x hx)

set_option maxHeartbeats 4000000 in
set_option maxRecDepth 100000 in
theorem togetherHide_any (fb p q : Nat) (b4 b6 : Int) (A : Option Addr) (n cap : Nat) (ms : List Rp) (w : World) (hF : Blk w fb [HFV p q] 126) (hp : Blk w p [.int .i64 b4] 3) (hq : Blk w q [.int .i64 b6] 3) (hI : InB b4 b6) (hS : SlE eRp w A n cap ms) (hn : n ≤ 20) (hG : ∀ x ∈ ms, x.G) (hA : ∀ x ∈ ms, x.A) :
    Calls Tryz.prog 63 #[.slice A n cap, .func (.func 67) #[] #[.pointer (some ⟨fb, 0, none⟩)]] w (TogP w (ms.map (hidR b4 b6))) := by
  have HM := Lib.hid (mapHide_any fb (hidR b4 b6) A n cap ms w (fun x hx W hW => hide2_any fb p q b4 b6 x W (hF.below hW) (hp.below hW) (hq.below hW) hI (hG x hx).1 (hA x hx)) hS (by omega))
  have hU := Lib.hid (show ∀ x ∈ ms.map (hidR b4 b6), x.U from fun x hx => by
    obtain ⟨y, hy, rfl⟩ := List.mem_map.1 hx
    exact (hidR_U (hG y hy)).1)
  have hN := Lib.hid (show ∀ x ∈ ms.map (hidR b4 b6), x.N from fun x hx => by
    obtain ⟨y, hy, rfl⟩ := List.mem_map.1 hx
    exact (hidR_U (hG y hy)).2)
  have hl := Lib.hid (show (ms.map (hidR b4 b6)).length = n by rw [List.length_map]; exact hS.1.symm)
  generalize ms.map (hidR b4 b6) = ts at *
  clear hF hp hq hI hS hG hA
  go_enter Tryz.func63, Tryz.ntmps63
  go_wp2_with fail
  refine HM.out.mono ?_
  rintro e w1 ⟨⟨A', c', rfl, hown⟩, hb⟩
  obtain ⟨A2, c2, hv, hS1⟩ := hown.sl
  rw [hl.out] at hv hS1
  injection hv with e1 e2 e3
  subst e1 e3
  have HGa := Lib.hid (gather_any A' n c' ts w1 hS1 hn hU.out hN.out)
  clear HM hown hS1
  go_wp2_with fail
  refine HGa.out.mono ?_
  intro e w2 hq
  obtain ⟨A3, m3, c3, zs, rfl, hS3, hT, hb2⟩ := hq
  have hbF := hb.trans (hb2.mono hb.size)
  replace hS3 := Lib.hid hS3
  replace hT := Lib.hid hT
  clear HGa hb hb2
  go_wp2_with fail
  go_ret
  exact ⟨A3, m3, c3, zs, rfl, hS3.out, hT.out, hbF⟩

set_option maxHeartbeats 4000000 in
set_option maxRecDepth 100000 in
theorem flowHide_any (b4 b6 : Int) (A : Option Addr) (n cap : Nat) (ms : List Rp) (w : World) (hS : SlE eRp w A n cap ms) (hn : n ≤ 20) (hU : ∀ x ∈ ms, x.U) :
    Calls Tryz.prog 22 #[.slice A n cap, .int .i64 b4, .int .i64 b6] w (ThP w (firstZ [repsF ms, numE b4 0 32, numE b6 0 128]) (ms.map (hidR b4 b6))) := by
  have C1 := Lib.hid (fun W (hW : Below w.heap.size w W) => check_any A n cap ms W (hS.below hW) (by omega) hU)
  have C2 := Lib.hid (fun w' => (show Calls Tryz.prog 62 #[.int .i64 b4, .int .i64 0, .int .i64 32] w' fun e w2 => e = .returned (.int .i64 (numE b4 0 32)) ∧ w' = w2 from numberI_any b4 0 32 w'))
  have C3 := Lib.hid (fun w' => (show Calls Tryz.prog 62 #[.int .i64 b6, .int .i64 0, .int .i64 128] w' fun e w2 => e = .returned (.int .i64 (numE b6 0 128)) ∧ w' = w2 from numberI_any b6 0 128 w'))
  have HT := Lib.hid (fun (fb p q : Nat) W (hW : Below w.heap.size w W) (hF : Blk W fb [HFV p q] 126) (hp : Blk W p [.int .i64 b4] 3) (hq : Blk W q [.int .i64 b6] 3) (h1 : repsF ms = 0) (h2 : numE b4 0 32 = 0) (h3 : numE b6 0 128 = 0) => togetherHide_any fb p q b4 b6 A n cap ms W hF hp hq ⟨numE_zero h2, numE_zero h3⟩ (hS.below hW) hn (repsF_zero hU h1).1 (repsF_A h1))
  clear hS hn hU
  generalize ms.map (hidR b4 b6) = ts at *
  generalize repsF ms = z1 at *
  generalize numE b4 0 32 = z2 at *
  generalize numE b6 0 128 = z3 at *
  obtain ⟨Z, hZ⟩ : ∃ Z, Z = firstZ [z1, z2, z3] := ⟨_, rfl⟩
  rw [← hZ]
  replace hZ := Lib.hid hZ
  have hA := (Blk.new w [.int .i64 b4] 3).alloc (.cells [.int .i64 b6].toArray 3)
  have hD := Blk.new (w.alloc (.cells [.int .i64 b4].toArray 3)) [.int .i64 b6] 3
  rw [World.size_alloc] at hD
  have hbw : Below w.heap.size w ((w.alloc (.cells [.int .i64 b4].toArray 3)).alloc (.cells [.int .i64 b6].toArray 3)) := ((Below.refl _ _).alloc (Nat.le_refl _) _).alloc (by simp) _
  go_enter Tryz.func22, Tryz.ntmps22
  go_upto_region 1 with fail
  refine wb_begin ([w.heap.size, w.heap.size + 1]) [] (by kernel_rfl) (fun u0 hb0' hz0' => ?_)
  replace hA := hA.below hb0'
  replace hD := hD.below hb0'
  replace hbw := hbw.trans (hb0'.mono hbw.size)
  clear hb0' hz0'
  refine wb_pure (i := 0) (d := some 10) (v := ?_) (by simp only [List.getElem?_toArray, List.getElem?_cons_succ, List.getElem?_cons_zero] <;> rfl) (by rfl) (by kernel_rfl) (by kernel_rfl) (by kernel_rfl) (fun _ _ _ h => h) (by rfl) ?_ ?_
  rotate_left
  · ((intro u); go_simp; try with_reducible rfl)
  try simp only [Act.put, List.setIfInBounds_toArray, List.set_cons_zero, List.set_cons_succ]
  refine wb_take (i := 2) (d := some 12) (v := ?_) (by simp only [List.getElem?_toArray, List.getElem?_cons_succ, List.getElem?_cons_zero] <;> rfl) (by rfl) (by kernel_rfl) (by kernel_rfl) (by kernel_rfl) (fun _ _ _ h => h) (by rfl) (by kernel_rfl) ?_ ?_
  rotate_left
  · ((intro u hu); have a0 := (hA.kb hu (List.mem_cons_self ..)).cell (i := 0) (v := .int .i64 b4) rfl; have a1 := (hD.kb hu (List.mem_cons_of_mem _ (List.mem_singleton.2 rfl))).cell (i := 0) (v := .int .i64 b6) rfl; go_simp; try with_reducible rfl)
  try simp only [Act.put, List.setIfInBounds_toArray, List.set_cons_zero, List.set_cons_succ]
  refine wb_take (i := 4) (d := some 14) (v := ?_) (by simp only [List.getElem?_toArray, List.getElem?_cons_succ, List.getElem?_cons_zero] <;> rfl) (by rfl) (by kernel_rfl) (by kernel_rfl) (by kernel_rfl) (fun _ _ _ h => h) (by rfl) (by kernel_rfl) ?_ ?_
  rotate_left
  · ((intro u hu); have a0 := (hA.kb hu (List.mem_cons_self ..)).cell (i := 0) (v := .int .i64 b4) rfl; have a1 := (hD.kb hu (List.mem_cons_of_mem _ (List.mem_singleton.2 rfl))).cell (i := 0) (v := .int .i64 b6) rfl; go_simp; try with_reducible rfl)
  try simp only [Act.put, List.setIfInBounds_toArray, List.set_cons_zero, List.set_cons_succ]
  refine wb_one (i := 1) (by simp only [List.getElem?_toArray, List.getElem?_cons_succ, List.getElem?_cons_zero] <;> rfl) (by kernel_rfl) (by rfl) (fun K hK => ?_)
  go_simp
  refine (C1.out _ hbw).mono ?_
  rintro e wq1 ⟨rfl, hv1⟩
  refine hK _ _ (Kb.below hv1 (two_mem hA.lt hD.lt)) ?_
  replace hA := hA.below hv1
  replace hD := hD.below hv1
  replace hbw := hbw.trans (hv1.mono hbw.size)
  clear hK K hv1
  try simp only [Act.put, List.setIfInBounds_toArray, List.set_cons_zero, List.set_cons_succ]
  refine wb_one (i := 3) (by simp only [List.getElem?_toArray, List.getElem?_cons_succ, List.getElem?_cons_zero] <;> rfl) (by kernel_rfl) (by rfl) (fun K hK => ?_)
  go_simp
  refine (C2.out _).mono ?_
  rintro e wq3 ⟨rfl, rfl⟩
  refine hK _ _ (Kb.refl _ _) ?_
  clear hK K
  try simp only [Act.put, List.setIfInBounds_toArray, List.set_cons_zero, List.set_cons_succ]
  refine wb_one (i := 5) (by simp only [List.getElem?_toArray, List.getElem?_cons_succ, List.getElem?_cons_zero] <;> rfl) (by kernel_rfl) (by rfl) (fun K hK => ?_)
  go_simp
  refine (C3.out _).mono ?_
  rintro e wq5 ⟨rfl, rfl⟩
  refine hK _ _ (Kb.refl _ _) ?_
  clear hK K
  try simp only [Act.put, List.setIfInBounds_toArray, List.set_cons_zero, List.set_cons_succ]
  refine wb_one (i := 6) (by simp only [List.getElem?_toArray, List.getElem?_cons_succ, List.getElem?_cons_zero] <;> rfl) (by kernel_rfl) (by rfl) (fun K hK => ?_)
  go_simp
  refine hK _ _ (Kb.gb (World.grownBy_alloc _ _ none) (two_mem ⟨hA.lt, by simp⟩ ⟨hD.lt, by simp⟩)) ?_
  refine wb_new (cs := [z1, z2, z3].map (Value.int .i64)) (t := 33) (fun u91 hv3 hL3 hz3 => ?_)
  replace hA := hA.below hv3
  replace hD := hD.below hv3
  replace hbw := hbw.trans (hv3.mono hbw.size)
  clear hK K hv3 hz3
  try simp only [Act.put, List.setIfInBounds_toArray, List.set_cons_zero, List.set_cons_succ]
  refine wb_one (i := 7) (by simp only [List.getElem?_toArray, List.getElem?_cons_succ, List.getElem?_cons_zero] <;> rfl) (by kernel_rfl) (by rfl) (fun K hK => ?_)
  go_simp
  refine (orF_blk [z1, z2, z3] _ _ _ _ hL3 (by simp)).mono ?_
  rintro e w' ⟨rfl, rfl⟩
  refine hK _ _ (Kb.refl _ _) ?_
  clear hK K hL3
  try simp only [Act.put, List.setIfInBounds_toArray, List.set_cons_zero, List.set_cons_succ]
  refine wb_pure (i := 8) (d := some 8) (v := ?_) (by simp only [List.getElem?_toArray, List.getElem?_cons_succ, List.getElem?_cons_zero] <;> rfl) (by rfl) (by kernel_rfl) (by kernel_rfl) (by kernel_rfl) (fun _ _ _ h => h) (by rfl) ?_ ?_
  rotate_left
  · ((intro u); go_simp; try with_reducible rfl)
  try simp only [Act.put, List.setIfInBounds_toArray, List.set_cons_zero, List.set_cons_succ]
  refine wb_done (by kernel_rfl) ?_ _
  skip
  rw [← hZ.out]
  by_cases h0 : Z = 0
  · subst h0
    have hz := firstZ_zero_all hZ.out.symm
    have hF := Blk.new u91 [HFV w.heap.size (w.heap.size + 1)] 126
    have hbA : Below u91.heap.size u91 (u91.alloc (.cells [HFV w.heap.size (w.heap.size + 1)].toArray 126)) := (Below.refl _ _).alloc (Nat.le_refl _) _
    replace hbw := hbw.trans (hbA.mono hbw.size)
    have HT2 := Lib.hid (HT.out _ _ _ _ hbw hF (hA.below hbA) (hD.below hbA) (hz z1 (by simp)) (hz z2 (by simp)) (hz z3 (by simp)))
    clear HT C1 C2 C3 hz hF hA hD hbA
    go_wp2_with fail
    refine HT2.out.mono ?_
    intro e w5 hq
    obtain ⟨A3, m3, c3, zs, rfl, hS3, hT, hb2⟩ := hq
    have hbF := hbw.trans (hb2.mono hbw.size)
    replace hS3 := Lib.hid hS3
    replace hT := Lib.hid hT
    clear HT2 hb2 hbw
    go_wp2_with fail
    go_ret2
    exact ⟨hbF, .inr ⟨rfl, A3, m3, c3, zs, rfl, hS3.out, hT.out⟩⟩
  · have hb : (Z != 0) = true := by simpa using h0
    clear HT C1 C2 C3 hA hD
    go_wp2_with fail
    go_ret2
    exact ⟨hbw, .inl ⟨h0, rfl⟩⟩
end Go.Proofs.YtfiocnjogbpgoaaGreatDoor
namespace Go.Proofs.YtfiocnjogbpgoaaGreatDoor
open Go.RowKit
set_option linter.unusedVariables false
set_option linter.unusedSimpArgs false

/-- Rows that lie apart. -/
def Dj (a b : Value) : Prop := ∀ q, a.ownBlock = some q → b.ownBlock ≠ some q
theorem Dj.symm {a b : Value} (h : Dj a b) : Dj b a := fun q hb ha => h q ha hb
theorem Dj.gb {a b : Value} (h : Dj a b) : b.ownBlock = none ∨ b.ownBlock ≠ a.ownBlock := by
  cases hb : b.ownBlock with
  | none => exact .inl rfl
  | some k => exact .inr (fun e => h k e.symm hb)
end Go.Proofs.YtfiocnjogbpgoaaGreatDoor
namespace Go.Proofs.YtfiocnjogbpgoaaGreatDoor
open Go.RowKit
set_option linter.unusedVariables false
set_option linter.unusedSimpArgs false

end Go.Proofs.YtfiocnjogbpgoaaGreatDoor
namespace Go.Proofs.YtfiocnjogbpgoaaGreatDoor
open Go.RowKit
set_option linter.unusedVariables false
set_option linter.unusedSimpArgs false

/-- A sum over reports. -/
def tot (f : Rp → Int) : List Rp → Int
  | [] => 0
  | x :: r => f x + tot f r
theorem tot_app (f : Rp → Int) : ∀ xs ys : List Rp, tot f (xs ++ ys) = tot f xs + tot f ys
  | [], ys => by simp [tot]
  | x :: r, ys => by simp only [List.cons_append, tot]; rw [tot_app f r ys]; omega
theorem tot_take {f : Rp → Int} {l : List Rp} {k : Nat} {x : Rp} (h : l[k]? = some x) : tot f (l.take (k + 1)) = tot f (l.take k) + f x := by
  rw [List.take_add_one, h, tot_app]; simp [tot]
theorem tot_le {f : Rp → Int} {B : Int} : ∀ {l : List Rp}, (∀ x ∈ l, 0 ≤ f x ∧ f x ≤ B) → 0 ≤ tot f l ∧ tot f l ≤ B * l.length
  | [], _ => by simp [tot]
  | x :: r, h => by
    have h1 := h x List.mem_cons_self
    have h2 := tot_le (f := f) (B := B) (l := r) (fun y hy => h y (List.mem_cons_of_mem _ hy))
    simp only [tot, List.length_cons]
    have : B * ((r.length + 1 : Nat) : Int) = B * r.length + B := by rw [Int.natCast_add, Int.mul_add]; simp
    omega
theorem tot_congr {f g : Rp → Int} : ∀ {l : List Rp}, (∀ x ∈ l, f x = g x) → tot f l = tot g l
  | [], _ => rfl
  | x :: r, h => by
    simp only [tot]
    rw [h x List.mem_cons_self, tot_congr (fun y hy => h y (List.mem_cons_of_mem _ hy))]
theorem tot_map {f : Rp → Int} {g : Rp → Rp} (h : ∀ x, f (g x) = f x) : ∀ l : List Rp, tot f (l.map g) = tot f l
  | [] => rfl
  | x :: r => by simp only [List.map_cons, tot]; rw [h, tot_map h r]
theorem tot_zero : ∀ zs : List Rp, tot (fun _ => 0) zs = 0
  | [] => rfl
  | _ :: r => by simp only [tot]; rw [tot_zero r]; rfl
theorem one_place {c : Int} {x : Rp} : ∀ {zs : List Rp}, zs.Pairwise LtR → (∃ z ∈ zs, cmpRp x z = 0) → tot (fun z => if cmpRp x z = 0 then c else 0) zs = c
  | [], _, h => by obtain ⟨z, hz, _⟩ := h; cases hz
  | z0 :: r, hs, h => by
    rw [List.pairwise_cons] at hs
    simp only [tot]
    by_cases h0 : cmpRp x z0 = 0
    · have hr : tot (fun z => if cmpRp x z = 0 then c else 0) r = tot (fun _ => 0) r := tot_congr (fun z hz => by
        have h1 : cmpRp z0 z < 0 := hs.1 z hz
        have h2 := cm_rp.lt (x := x) (y := z0) (z := z) (by omega) (by omega) (.inr h1)
        rw [if_neg (by omega)])
      rw [hr, tot_zero, if_pos h0]; omega
    · rw [if_neg h0, one_place hs.2 (by
        obtain ⟨z, hz, e⟩ := h
        rcases List.mem_cons.1 hz with rfl | hz
        · exact absurd e h0
        · exact ⟨z, hz, e⟩)]
      omega
theorem tot_add (f g : Rp → Int) : ∀ l : List Rp, tot (fun z => f z + g z) l = tot f l + tot g l
  | [] => rfl
  | x :: r => by simp only [tot]; rw [tot_add f g r]; omega
/-- All that is told is in one of the places. -/
theorem tot_places {f : Rp → Int} {zs : List Rp} (hs : zs.Pairwise LtR) : ∀ {ms : List Rp}, (∀ x ∈ ms, ∃ z ∈ zs, cmpRp x z = 0) → tot (fun z => sumAt f z ms) zs = tot f ms
  | [], _ => tot_zero zs
  | x :: r, h => by
    have ih := tot_places (f := f) hs (ms := r) (fun y hy => h y (List.mem_cons_of_mem _ hy))
    have e : tot (fun z => sumAt f z (x :: r)) zs = tot (fun z => (if cmpRp x z = 0 then f x else 0) + sumAt f z r) zs := tot_congr (fun z _ => by
      simp only [sumAt]; split <;> omega)
    rw [e, tot_add, ih, one_place hs (h x List.mem_cons_self)]
    rfl
theorem sumAt_le {f : Rp → Int} {z : Rp} : ∀ {xs : List Rp}, (∀ x ∈ xs, 0 ≤ f x) → sumAt f z xs ≤ tot f xs
  | [], _ => by simp [sumAt, tot]
  | x :: r, h => by
    have h1 := sumAt_le (f := f) (z := z) (xs := r) (fun y hy => h y (List.mem_cons_of_mem _ hy))
    have h2 := h x List.mem_cons_self
    simp only [sumAt, tot]
    split <;> omega
theorem sumAt_ge {f : Rp → Int} {z x : Rp} (h0 : cmpRp x z = 0) : ∀ {xs : List Rp}, (∀ x ∈ xs, 0 ≤ f x) → x ∈ xs → f x ≤ sumAt f z xs
  | [], _, hx => by cases hx
  | y :: r, h, hx => by
    have h1 := sumAt_nonneg (f := f) (z := z) (xs := r) (fun y hy => h y (List.mem_cons_of_mem _ hy))
    have h2 := h y List.mem_cons_self
    simp only [sumAt]
    rcases List.mem_cons.1 hx with rfl | hx
    · rw [if_pos h0]; omega
    · have h3 := sumAt_ge h0 (fun y hy => h y (List.mem_cons_of_mem _ hy)) hx
      split <;> omega

/-- What is done to each report: it tells as much, elsewhere; done again it changes nothing. -/
structure Quiet (f : Rp → Rp) : Prop where
  pk : ∀ x, (f x).pk = x.pk
  by_ : ∀ x, (f x).by_ = x.by_
  key : ∀ x y, SameK x y → SameK (f x) (f y)
  idem : ∀ x, SameK (f (f x)) (f x)
theorem SameK.symm {x y : Rp} (h : SameK x y) : SameK y x := ⟨h.1.symm, h.2.1.symm, h.2.2.1.symm, h.2.2.2.symm⟩
theorem SameK.trans {x y z : Rp} (h : SameK x y) (k : SameK y z) : SameK x z := ⟨h.1.trans k.1, h.2.1.trans k.2.1, h.2.2.1.trans k.2.2.1, h.2.2.2.trans k.2.2.2⟩
theorem SameK.eq {x y : Rp} (h : SameK x y) (h1 : x.pk = y.pk) (h2 : x.by_ = y.by_) : x = y := by
  obtain ⟨k1, k2, k3, k4⟩ := h
  cases x; cases y
  simp_all
theorem SameK.u {x y : Rp} (h : SameK x y) (hx : x.U) : y.U := by
  unfold Rp.U at hx ⊢
  rw [← h.1, ← h.2.1, ← h.2.2.2]; exact hx
theorem Tog.fix {f : Rp → Rp} {xs zs : List Rp} (hq : Quiet f) (h : Tog (xs.map f) zs) : zs.map f = zs := by
  conv => rhs; rw [← List.map_id zs]
  apply List.map_congr_left
  intro z hz
  obtain ⟨m, hm, hk⟩ := h.key z hz
  obtain ⟨x, _, rfl⟩ := List.mem_map.1 hm
  exact (((hq.key _ _ hk).symm.trans (hq.idem x)).trans hk).eq (hq.pk z) (hq.by_ z)
theorem Tog.self {zs : List Rp} (hs : zs.Pairwise LtR) (hN : ∀ z ∈ zs, z.N) : Tog zs zs := by
  have := Tog.nil.app hs hN (by simp)
  simpa using this
/-- What is made of right reports: right ones. -/
theorem Tog.good {ms zs : List Rp} (hr : ∀ m ∈ ms, repF m = 0) (hG : ∀ m ∈ ms, m.G) (h : Tog ms zs) : ∀ z ∈ zs, repF z = 0 ∧ z.G := by
  intro z hz
  obtain ⟨m, hm, hk⟩ := h.key z hz
  have h0 : cmpRp m z = 0 := by rw [← hk.cmp m]; exact cm_rp.self m
  have hn1 : ∀ x ∈ ms, 0 ≤ Rp.pk x := fun x hx => (hG x hx).2.1.1
  have hn2 : ∀ x ∈ ms, 0 ≤ Rp.by_ x := fun x hx => (hG x hx).2.1.2.2.1
  have hmr := hr m hm
  unfold repF at hmr
  have e := firstZ_zero_all hmr
  have e1 := e _ List.mem_cons_self
  have e2 := numE_zero (e (numE m.pk 1 1000000000000) (by simp))
  have p1 := sumAt_ge (f := Rp.pk) h0 hn1 hm
  have p2 := sumAt_nonneg (f := Rp.by_) (z := z) hn2
  have q1 := h.pk z hz
  have q2 := h.by_ z hz
  have r1 : 1 ≤ z.pk ∧ z.pk ≤ 1000000000000 := by rw [q1]; unfold sat; omega
  have r2 : 0 ≤ z.by_ ∧ z.by_ ≤ 1000000000000 := by rw [q2]; unfold sat; omega
  refine ⟨?_, hk.u (hG m hm).1, ⟨by omega, r1.2, r2.1, r2.2⟩, ?_, ?_⟩
  · have f1 : flE z.fl = flE m.fl := by rw [hk.2.2.2]
    unfold repF
    rw [← hk.1, ← hk.2.1, f1, e1]
    have : numE z.pk 1 1000000000000 = 0 := if_pos r1
    rw [this]
    have : numE z.by_ 0 1000000000000 = 0 := if_pos r2
    rw [this]
    rfl
  · rw [← hk.2.1]; exact (hG m hm).2.2.1
  · rw [← hk.2.1]; exact (hG m hm).2.2.2
theorem risL_good : ∀ {l : List Rp} {p : Option Rp}, (∀ x ∈ l, repF x = 0) → l.Pairwise LtR → (∀ q, p = some q → ∀ x ∈ l, LtR q x) → risL p l = 0
  | [], _, _, _, _ => rfl
  | r :: l, p, h1, h2, h3 => by
    rw [List.pairwise_cons] at h2
    unfold risL
    rw [if_pos (h1 r List.mem_cons_self)]
    have hb : badO p r = false := by
      cases p with
      | none => rfl
      | some q =>
        have h4 : cmpRp q r < 0 := h3 q rfl r List.mem_cons_self
        have h5 := cm_rp.anti q r
        unfold badO
        exact decide_eq_false (by omega)
    rw [hb, if_neg (by decide)]
    exact risL_good (fun x hx => h1 x (List.mem_cons_of_mem _ hx)) h2.2 (fun q hq x hx => by cases hq; exact h2.1 x hx)
theorem repsF_good {l : List Rp} (hl : l.length ≤ 3000) (h1 : ∀ x ∈ l, repF x = 0) (h2 : l.Pairwise LtR) : repsF l = 0 := by
  unfold repsF
  rw [if_neg (by omega)]
  exact risL_good h1 h2 (by simp)
/-- Is there much? -/
def hugeB (x : Rp) : Bool := decide (1000000000 < x.by_) || decide (1000000000 < x.pk)
theorem Tog.sums {f : Rp → Rp} {xs zs : List Rp} (hq : Quiet f) (h : Tog (xs.map f) zs) (hl : xs.length ≤ 20) (hN : ∀ x ∈ xs, x.N) (hh : xs.any hugeB = false) : tot Rp.pk zs = tot Rp.pk xs ∧ tot Rp.by_ zs = tot Rp.by_ xs := by
  have hb : ∀ x ∈ xs, (0 ≤ x.pk ∧ x.pk ≤ 1000000000) ∧ 0 ≤ x.by_ ∧ x.by_ ≤ 1000000000 := fun x hx => by
    have h1 := hN x hx
    have h2 := List.any_eq_false.1 hh x hx
    unfold hugeB at h2
    simp only [Bool.or_eq_true, decide_eq_true_iff, not_or] at h2
    obtain ⟨a, b, c, d⟩ := h1
    omega
  have hm1 : ∀ m ∈ xs.map f, 0 ≤ Rp.pk m ∧ Rp.pk m ≤ 1000000000 := fun m hm => by
    obtain ⟨x, hx, rfl⟩ := List.mem_map.1 hm
    rw [hq.pk]; exact (hb x hx).1
  have hm2 : ∀ m ∈ xs.map f, 0 ≤ Rp.by_ m ∧ Rp.by_ m ≤ 1000000000 := fun m hm => by
    obtain ⟨x, hx, rfl⟩ := List.mem_map.1 hm
    rw [hq.by_]; exact (hb x hx).2
  have t1 := tot_le hm1
  have t2 := tot_le hm2
  rw [List.length_map] at t1 t2
  have s1 : tot Rp.pk zs = tot (fun z => sumAt Rp.pk z (xs.map f)) zs := tot_congr (fun z hz => by
    have a := sumAt_le (f := Rp.pk) (z := z) (fun m hm => (hm1 m hm).1)
    rw [h.pk z hz]; unfold sat; omega)
  have s2 : tot Rp.by_ zs = tot (fun z => sumAt Rp.by_ z (xs.map f)) zs := tot_congr (fun z hz => by
    have a := sumAt_le (f := Rp.by_) (z := z) (fun m hm => (hm2 m hm).1)
    rw [h.by_ z hz]; unfold sat; omega)
  rw [s1, s2, tot_places h.srt h.all, tot_places h.srt h.all, tot_map hq.pk, tot_map hq.by_]
  exact ⟨rfl, rfl⟩
/-- Done twice: what it was. -/
theorem Tog.twice {f : Rp → Rp} {xs zs ws : List Rp} (hq : Quiet f) (h : Tog (xs.map f) zs) (hU : ∀ z ∈ zs, z.U ∧ z.N) (h2 : Tog (zs.map f) ws) : ws = zs := by
  rw [h.fix hq] at h2
  exact Tog.unique (fun z hz => (hU z hz).1) h2 (Tog.self h.srt (fun z hz => (hU z hz).2))

theorem thin_quiet (d : Int) : Quiet (thinR d) where
  pk := fun x => by unfold thinR dayR; split <;> rfl
  by_ := fun x => by unfold thinR dayR; split <;> rfl
  key := fun x y h => by
    unfold thinR
    rw [← h.2.1]
    split
    · exact ⟨h.1, by show x.hour - x.hour % 24 = y.hour - y.hour % 24; rw [h.2.1], h.2.2.1, by show ({ x.fl with fp := 0, tp := 0 } : Fl) = { y.fl with fp := 0, tp := 0 }; rw [h.2.2.2]⟩
    · exact h
  idem := fun x => by
    unfold thinR
    by_cases h : x.hour < d * 24
    · rw [if_pos h]
      have h' : (dayR x).hour < d * 24 := by show x.hour - x.hour % 24 < d * 24; omega
      rw [if_pos h']
      exact ⟨rfl, by show (x.hour - x.hour % 24) - (x.hour - x.hour % 24) % 24 = x.hour - x.hour % 24; omega, rfl, rfl⟩
    · rw [if_neg h, if_neg h]
      exact ⟨rfl, rfl, rfl, rfl⟩
theorem num_split (v : Nat) : num ((v / 2 ^ 64 : Nat) : Int) ((v % 2 ^ 64 : Nat) : Int) = v := by
  unfold num
  rw [Int.toNat_natCast, Int.toNat_natCast, Nat.mul_comm]
  exact Nat.div_add_mod _ _
theorem hidA_eq {b4 b6 : Int} {a a' : Ad} (hs : a.s = a'.s) (hv : hidV b4 b6 a = hidV b4 b6 a') : hidA b4 b6 a = hidA b4 b6 a' := by
  unfold hidA
  rw [hs, hv]
theorem hidA_num (b4 b6 : Int) (a : Ad) : num (hidA b4 b6 a).hi (hidA b4 b6 a).lo = hidV b4 b6 a := num_split _
theorem hidA_idem (b4 b6 : Int) (a : Ad) : hidA b4 b6 (hidA b4 b6 a) = hidA b4 b6 a := by
  have hs : (hidA b4 b6 a).s = a.s := rfl
  refine hidA_eq hs ?_
  have h := hidA_num b4 b6 a
  have e : hidV b4 b6 (hidA b4 b6 a) = clr (hidV b4 b6 a) (lenZ a.s - bitsH b4 b6 a.s).toNat := by
    rw [← h]; unfold hidV; rw [hs]
  rw [e]
  unfold hidV
  exact clr_idem _ _
theorem hid_quiet (b4 b6 : Int) : Quiet (hidR b4 b6) where
  pk := fun x => rfl
  by_ := fun x => rfl
  key := fun x y h => ⟨h.1, h.2.1, h.2.2.1, by
    show ({ x.fl with f := hidA b4 b6 x.fl.f, t := hidA b4 b6 x.fl.t } : Fl) = { y.fl with f := hidA b4 b6 y.fl.f, t := hidA b4 b6 y.fl.t }
    rw [h.2.2.2]⟩
  idem := fun x => ⟨rfl, rfl, rfl, by
    show ({ x.fl with f := hidA b4 b6 (hidA b4 b6 x.fl.f), t := hidA b4 b6 (hidA b4 b6 x.fl.t) } : Fl) = { x.fl with f := hidA b4 b6 x.fl.f, t := hidA b4 b6 x.fl.t }
    rw [hidA_idem, hidA_idem]⟩
theorem ptBad_zero (p : Int) : ptBad p 0 = false := by unfold ptBad; simp
theorem flF_ports {p : Int} {fs : Bool} {fh fl : Int} {ts : Bool} {th tl a b : Int} (h : flF p fs fh fl ts th tl a b = 0) : flF p fs fh fl ts th tl 0 0 = 0 := by
  unfold flF at h ⊢
  rw [ptBad_zero]
  by_cases h1 : p < 1 ∨ 255 < p
  · rw [if_pos h1] at h; cases h
  · rw [if_neg h1] at h ⊢
    by_cases h2 : firstZ [adF fs fh fl, adF ts th tl] ≠ 0
    · rw [if_pos h2] at h; exact absurd h h2
    · rw [if_neg h2] at h ⊢
      by_cases h3 : fs ≠ ts
      · rw [if_pos h3] at h; cases h
      · rw [if_neg h3, if_neg (by simp)]
theorem flF_addrs {p : Int} {fs : Bool} {fh fl : Int} {ts : Bool} {th tl a b fh' fl' th' tl' : Int} (h : flF p fs fh fl ts th tl a b = 0) (h1 : adF fs fh' fl' = 0) (h2 : adF ts th' tl' = 0) : flF p fs fh' fl' ts th' tl' a b = 0 := by
  unfold flF at h ⊢
  have e : firstZ [adF fs fh' fl', adF ts th' tl'] = 0 := by rw [h1, h2]; rfl
  by_cases k1 : p < 1 ∨ 255 < p
  · rw [if_pos k1] at h; cases h
  · rw [if_neg k1] at h ⊢
    by_cases k2 : firstZ [adF fs fh fl, adF ts th tl] ≠ 0
    · rw [if_pos k2] at h; exact absurd h k2
    · rw [if_neg k2] at h
      rw [if_neg (by rw [e]; exact fun k => k rfl)]
      exact h
theorem repF_parts {x : Rp} (h : repF x = 0) : keyE x.node = 0 ∧ (0 ≤ x.hour ∧ x.hour ≤ 96023) ∧ flE x.fl = 0 ∧ numE x.pk 1 1000000000000 = 0 ∧ numE x.by_ 0 1000000000000 = 0 := by
  unfold repF at h
  have e := firstZ_zero_all h
  have e1 := firstZ_zero_all (e _ List.mem_cons_self)
  exact ⟨e1 _ (by simp), numE_zero (e1 (numE x.hour 0 96023) (by simp)), e1 _ (by simp), e _ (by simp), e _ (by simp)⟩
theorem repF_of {x : Rp} (h1 : keyE x.node = 0) (h2 : 0 ≤ x.hour ∧ x.hour ≤ 96023) (h3 : flE x.fl = 0) (h4 : numE x.pk 1 1000000000000 = 0) (h5 : numE x.by_ 0 1000000000000 = 0) : repF x = 0 := by
  have : numE x.hour 0 96023 = 0 := if_pos h2
  unfold repF
  rw [h1, this, h3, h4, h5]; rfl
theorem thin_rep {d : Int} {x : Rp} (h : repF x = 0) : repF (thinR d x) = 0 := by
  unfold thinR
  split
  · obtain ⟨h1, h2, h3, h4, h5⟩ := repF_parts h
    exact repF_of h1 (by show 0 ≤ x.hour - x.hour % 24 ∧ x.hour - x.hour % 24 ≤ 96023; omega) (flF_ports h3) h4 h5
  · exact h
theorem hid_adF {b4 b6 : Int} {a : Ad} (hI : InB b4 b6) (hU : a.U) (h : adF a.s a.hi a.lo = 0) : adF (hidA b4 b6 a).s (hidA b4 b6 a).hi (hidA b4 b6 a).lo = 0 := by
  obtain ⟨s, hi, lo⟩ := a
  cases s with
  | true => exact if_neg (by simp [hidA])
  | false =>
    have h3 : hi = 0 ∧ lo < 4294967296 := by
      unfold adF at h
      split at h
      · cases h
      · rename_i hc
        have : ¬ (hi ≠ 0 ∨ 4294967296 ≤ lo) := fun h => hc ⟨rfl, h⟩
        omega
    have hlt : hidV b4 b6 ⟨false, hi, lo⟩ < 2 ^ 32 := by
      unfold hidV
      refine clr_lt ?_
      have h0 : 0 ≤ lo := hU.2.1
      show num hi lo < 2 ^ 32
      rw [h3.1]
      unfold num
      have : lo.toNat < 4294967296 := by omega
      simpa using this
    refine if_neg ?_
    unfold hidA
    simp only
    generalize hidV b4 b6 ⟨false, hi, lo⟩ = v at hlt
    omega
theorem adF_flE {x : Fl} (h : flE x = 0) : adF x.f.s x.f.hi x.f.lo = 0 ∧ adF x.t.s x.t.hi x.t.lo = 0 := by
  unfold flE flF at h
  by_cases k1 : x.p < 1 ∨ 255 < x.p
  · rw [if_pos k1] at h; cases h
  · rw [if_neg k1] at h
    by_cases k2 : firstZ [adF x.f.s x.f.hi x.f.lo, adF x.t.s x.t.hi x.t.lo] ≠ 0
    · rw [if_pos k2] at h; exact absurd h k2
    · have e := firstZ_zero_all (Decidable.not_not.1 k2)
      exact ⟨e _ (by simp), e _ (by simp)⟩
theorem hid_rep {b4 b6 : Int} {x : Rp} (hI : InB b4 b6) (hU : x.U) (h : repF x = 0) : repF (hidR b4 b6 x) = 0 := by
  obtain ⟨h1, h2, h3, h4, h5⟩ := repF_parts h
  have ⟨a1, a2⟩ := adF_flE h3
  exact repF_of h1 h2 (flF_addrs h3 (hid_adF hI hU.1.1 a1) (hid_adF hI hU.1.2.1 a2)) h4 h5
end Go.Proofs.YtfiocnjogbpgoaaGreatDoor
namespace Go.Proofs.YtfiocnjogbpgoaaGreatDoor
open Go.RowKit
set_option linter.unusedVariables false
set_option linter.unusedSimpArgs false

set_option maxHeartbeats 2000000 in
set_option maxRecDepth 100000 in
theorem huge1_any (x : Rp) (w : World) : Calls Tryz.prog 24 #[rpA x] w (GivesV (.bool (hugeB x)) w) := by
  have hX := Blk.new w (rpC x) 56
  have hb : Below w.heap.size w (w.alloc (.cells (rpC x).toArray 56)) := (Below.refl _ _).alloc (Nat.le_refl _) _
  have c12 := hX.cell (i := 12) (v := .int .i64 x.pk) rfl
  have c13 := hX.cell (i := 13) (v := .int .i64 x.by_) rfl
  obtain ⟨wa, hwa⟩ : ∃ wa, wa = w.alloc (.cells (rpC x).toArray 56) := ⟨_, rfl⟩
  rw [← hwa] at c12 c13 hb
  have hh := Lib.hid (show hugeB x = (decide (1000000000 < x.by_) || decide (1000000000 < x.pk)) from rfl)
  generalize hugeB x = r at hh ⊢
  clear hX
  by_cases h1 : 1000000000 < x.by_
  · have d1 : decide (1000000000 < x.by_) = true := decide_eq_true h1
    have hr := Lib.hid (show r = true by rw [hh.out, d1]; rfl)
    clear hh
    go_enter Tryz.func24, Tryz.ntmps24
    go_upto_region 1 with fail
    rw [← hwa]
    clear hwa
    go_wp2_with fail
    go_ret
    exact ⟨by show Ending.returned (.bool true) = _; rw [hr.out], hb⟩
  · have d1 : decide (1000000000 < x.by_) = false := decide_eq_false h1
    have hr := Lib.hid (show r = decide (1000000000 < x.pk) by rw [hh.out, d1]; rfl)
    clear hh
    go_enter Tryz.func24, Tryz.ntmps24
    go_upto_region 1 with fail
    rw [← hwa]
    clear hwa
    go_wp2_with fail
    go_ret
    exact ⟨by show Ending.returned (.bool (decide (1000000000 < x.pk))) = _; rw [hr.out], hb⟩
/-- Some report tells of much. -/
def IdxB (b : Bool) (w : World) (e : Ending) (w' : World) : Prop := ∃ r : Int, decide (0 ≤ r) = b ∧ e = .returned (.int .i64 r) ∧ Below w.heap.size w w'
theorem any_hitR {p : Rp → Bool} {ls : List Rp} {k : Nat} {l : Rp} (h : ls[k]? = some l) (hn : p l = true) : ls.any p = true := List.any_eq_true.2 ⟨l, List.mem_of_getElem? h, hn⟩
theorem any_missR {p : Rp → Bool} {ls : List Rp} {k : Nat} {l : Rp} (h : ls[k]? = some l) (hn : p l = false) (ha : (ls.take k).any p = false) : (ls.take (k + 1)).any p = false := by
  rw [List.take_add_one, h]
  simp [ha, hn]
set_option maxHeartbeats 2000000 in
set_option maxRecDepth 100000 in
theorem indexHuge_any (A : Option Addr) (n cap : Nat) (ls : List Rp) (w : World) (hn : n ≤ 1000) (hS : SlE eRp w A n cap ls) :
    Calls Tryz.prog 68 #[.slice A n cap, .func (.func 24) #[] #[]] w (IdxB (ls.any hugeB) w) := by
  have hlen := Lib.hid hS.1
  have hbw := Below.refl w.heap.size w
  replace hS := Lib.hid hS
  go_enter Tryz.func68, Tryz.ntmps68
  go_wp2_with fail
  go_loopw [8, 5] (fun i _ wr => ∃ k : Nat, k ≤ n ∧ i = .int .i64 k ∧ Hid ((ls.take k).any hugeB = false) ∧ Below w.heap.size w wr) (fun i _ _ => n - (intOf i).toNat)
  case atStart => exact ⟨0, Nat.zero_le _, rfl, Lib.hid (by simp), hbw⟩
  case round =>
    clear hbw
    obtain ⟨k, hk, rfl, hno, hbw⟩ := hrel
    by_cases hlt : k < n
    · obtain ⟨x, hx⟩ : ∃ l, ls[k]? = some l := ⟨ls[k]'(by rw [← hlen.out]; omega), List.getElem?_eq_getElem _⟩
      obtain ⟨g0, off, hA, hQ2⟩ : ∃ g off, A = some ⟨g, off, none⟩ ∧ SlE eRp wr (some ⟨g, off, none⟩) n cap ls := by
        have h := hS.out.below hbw
        rcases h.2.2.2 with h0 | ⟨g, off, hA, _⟩
        · omega
        · exact ⟨g, off, hA, hA ▸ h⟩
      subst hA
      have l1 : (ldT 56 (.pointer (some ⟨g0, off + k * 14, none⟩))).run Tryz.prog wr = .ok (.value (rpA x)) wr := hQ2.ld rowRp hx
      have hcap := hQ2.2.1
      have hlt' : (k : Int) < n := by omega
      have HL := Lib.hid hx
      have HC := fun w' => Lib.hid (huge1_any x w')
      clear hQ2 hx
      cases hq : hugeB x
      · rw [hq] at HC
        have HN := Lib.hid (any_missR HL.out hq hno.out)
        clear hq
        go_wp2_with fail
        refine (HC _).out.mono ?_
        rintro e w1 ⟨rfl, hb1⟩
        replace hbw := hbw.trans (hb1.mono hbw.size)
        clear l1 hb1
        go_wp2_with fail
        go_roundw
        case rel => exact ⟨k + 1, by omega, by go_num, HN, hbw⟩
        case measure => simp [intOf]; omega
      · rw [hq] at HC
        have HN := Lib.hid (any_hitR HL.out hq)
        clear hq
        go_wp2_with fail
        refine (HC _).out.mono ?_
        rintro e w1 ⟨rfl, hb1⟩
        replace hbw := hbw.trans (hb1.mono hbw.size)
        clear l1 hb1
        go_wp2_with fail
        go_ret
        exact ⟨_, by rw [HN.out]; simp, rfl, hbw⟩
    · obtain rfl : k = n := by omega
      go_wp2_with fail
      go_ret
      refine ⟨_, ?_, rfl, hbw⟩
      have := hno.out
      rw [List.take_of_length_le (by rw [← hlen.out]; omega)] at this
      rw [this]; rfl
set_option maxHeartbeats 1000000 in
theorem containsHuge_any (A : Option Addr) (n cap : Nat) (ls : List Rp) (w : World) (hn : n ≤ 1000) (hS : SlE eRp w A n cap ls) :
    Calls Tryz.prog 23 #[.slice A n cap, .func (.func 24) #[] #[]] w (GivesV (.bool (ls.any hugeB)) w) := by
  have HI := Lib.hid (indexHuge_any A n cap ls w hn hS)
  clear hS
  go_enter Tryz.func23, Tryz.ntmps23
  go_wp2_with fail
  refine HI.out.mono ?_
  rintro e w1 ⟨r, hr, rfl, hb⟩
  have HR := Lib.hid hr
  clear hr
  go_wp2_with fail
  go_ret
  exact ⟨by show Ending.returned (.bool (decide (0 ≤ r))) = _; rw [HR.out], hb⟩

set_option maxHeartbeats 4000000 in
set_option maxRecDepth 100000 in
theorem sums_any (A : Option Addr) (n cap : Nat) (ls : List Rp) (w : World) (hn : n ≤ 20) (hS : SlE eRp w A n cap ls) (hN : ∀ x ∈ ls, x.N) :
    Calls Tryz.prog 20 #[.slice A n cap] w (GivesV (.agg #[.int .i64 (tot Rp.pk ls), .int .i64 (tot Rp.by_ ls)]) w) := by
  have hlen := Lib.hid hS.1
  have hb1 : Below w.heap.size w (w.alloc (.cells #[.int .i64 0, .int .i64 0] 52)) := (Below.refl _ _).alloc (Nat.le_refl _) _
  have hb2 := hb1.alloc hb1.size (.cells #[.int .i64 0, .int .i64 0] 52)
  have hR := (Blk.new w [.int .i64 0, .int .i64 0] 52).alloc (.cells #[.int .i64 0, .int .i64 0] 52)
  have hM := Blk.new (w.alloc (.cells #[.int .i64 0, .int .i64 0] 52)) [.int .i64 0, .int .i64 0] 52
  rw [World.size_alloc] at hM
  have hBd := Lib.hid (fun k => (show (0 ≤ tot Rp.pk (ls.take k) ∧ tot Rp.pk (ls.take k) ≤ 20000000000000) ∧ 0 ≤ tot Rp.by_ (ls.take k) ∧ tot Rp.by_ (ls.take k) ≤ 20000000000000 from by
    have hl : (ls.take k).length ≤ 20 := by rw [List.length_take]; have := hS.1; omega
    have h1 := tot_le (f := Rp.pk) (B := 1000000000000) (l := ls.take k) (fun x hx => ⟨(hN x (List.mem_of_mem_take hx)).1, (hN x (List.mem_of_mem_take hx)).2.1⟩)
    have h2 := tot_le (f := Rp.by_) (B := 1000000000000) (l := ls.take k) (fun x hx => ⟨(hN x (List.mem_of_mem_take hx)).2.2.1, (hN x (List.mem_of_mem_take hx)).2.2.2⟩)
    omega))
  replace hS := Lib.hid hS
  replace hN := Lib.hid hN
  go_enter Tryz.func20, Tryz.ntmps20
  go_upto_region 2 with fail
  obtain ⟨w2, hw2⟩ : ∃ x, x = (w.alloc (.cells #[.int .i64 0, .int .i64 0] 52)).alloc (.cells #[.int .i64 0, .int .i64 0] 52) := ⟨_, rfl⟩
  rw [← hw2] at hb2 hR hM ⊢
  clear hw2 hb1
  go_wp2_with fail
  go_loopw [8] (fun i wr => ∃ k : Nat, k ≤ n ∧ i = .int .i64 k ∧ Below w.heap.size w wr ∧ Blk wr w.heap.size [.int .i64 0, .int .i64 0] 52 ∧ Blk wr (w.heap.size + 1) [.int .i64 (tot Rp.pk (ls.take k)), .int .i64 (tot Rp.by_ (ls.take k))] 52) (fun i _ => n - (intOf i).toNat)
  case atStart => exact ⟨0, Nat.zero_le _, rfl, hb2, hR, by simpa [tot] using hM⟩
  case round =>
    clear hb2 hR hM
    obtain ⟨k, hk, rfl, hbw, hR, hM⟩ := hrel
    by_cases hlt : k < n
    · obtain ⟨x, hx⟩ : ∃ l, ls[k]? = some l := ⟨ls[k]'(by rw [← hlen.out]; omega), List.getElem?_eq_getElem _⟩
      obtain ⟨g0, off, hA, hQ2⟩ : ∃ g off, A = some ⟨g, off, none⟩ ∧ SlE eRp wr (some ⟨g, off, none⟩) n cap ls := by
        have h := hS.out.below hbw
        rcases h.2.2.2 with h0 | ⟨g, off, hA, _⟩
        · omega
        · exact ⟨g, off, hA, hA ▸ h⟩
      subst hA
      have l1 : (ldT 56 (.pointer (some ⟨g0, off + k * 14, none⟩))).run Tryz.prog wr = .ok (.value (rpA x)) wr := hQ2.ld rowRp hx
      have hcap := hQ2.2.1
      have hlt' : (k : Int) < n := by omega
      have S4 : (stT 56 (.pointer (some ⟨wr.heap.size, 0, none⟩)) (rpA x)).run Tryz.prog (wr.alloc (.cells #[.string ⟨#[]⟩, .int .i64 0, .bool false, .int .i64 0, .bool false, .int .u64 0, .int .u64 0, .bool false, .int .u64 0, .int .u64 0, .int .i64 0, .int .i64 0, .int .i64 0, .int .i64 0] 56)) = .ok .skip (wr.alloc (.cells (rpC x).toArray 56)) :=
        stT_new rowRp wr wr.heap.size rfl zRpC (rpC x) rfl (rpC_len x) (rpC_one x)
      have hX := Blk.new wr (rpC x) 56
      have hxN := hN.out x (List.mem_of_getElem? hx)
      have ht1 := tot_take (f := Rp.pk) hx
      have ht2 := tot_take (f := Rp.by_) hx
      have hB1 := hBd.out k
      have hB2 := hBd.out (k + 1)
      rw [ht1, ht2] at hB2
      obtain ⟨T1, hT1⟩ : ∃ x, x = tot Rp.pk (ls.take k) := ⟨_, rfl⟩
      obtain ⟨T2, hT2⟩ : ∃ x, x = tot Rp.by_ (ls.take k) := ⟨_, rfl⟩
      rw [← hT1] at hM hB1 hB2 ht1
      rw [← hT2] at hM hB1 hB2 ht2
      have e1 : IntKind.i64.wrap (T1 + x.pk) = T1 + x.pk := IntWalk.i64_in _ (by omega)
      have e2 : IntKind.i64.wrap (T2 + x.by_) = T2 + x.by_ := IntWalk.i64_in _ (by omega)
      replace ht1 := Lib.hid ht1
      replace ht2 := Lib.hid ht2
      have hp1 := hM.lt
      have hp2 := hbw.size
      replace hR := hR.alloc (.cells (rpC x).toArray 56)
      replace hM := hM.alloc (.cells (rpC x).toArray 56)
      replace hbw := hbw.alloc hbw.size (.cells (rpC x).toArray 56)
      go_upto_region 5 with fail
      obtain ⟨wa, hwa⟩ : ∃ wa, wa = wr.alloc (.cells (rpC x).toArray 56) := ⟨_, rfl⟩
      rw [← hwa] at hX hbw hR hM ⊢
      obtain ⟨p9, hp9⟩ : ∃ p, p = wr.heap.size := ⟨_, rfl⟩
      rw [← hp9] at hX hp1 hp2 ⊢
      clear hwa l1 S4 hQ2 hx hT1 hT2 hB1 hB2 hp9 hxN
      have hne := Lib.hid (show p9 ≠ w.heap.size + 1 by omega)
      have hne2 := Lib.hid (show w.heap.size ≠ w.heap.size + 1 by omega)
      have m0 := hM.cell (i := 0) rfl
      have m1 := hM.cell (i := 1) rfl
      have f0 := hM.free 0
      have f1 := hM.free 1
      have c12 := hX.cell (i := 12) (v := .int .i64 x.pk) rfl
      have hM2 : Blk _ _ [.int .i64 (T1 + x.pk), .int .i64 T2] 52 := hM.set 0 (.int .i64 (T1 + x.pk))
      have hM3 : Blk _ _ [.int .i64 (T1 + x.pk), .int .i64 (T2 + x.by_)] 52 := hM2.set 1 (.int .i64 (T2 + x.by_))
      have hR3 := (hR.other (a := ⟨w.heap.size + 1, 0, none⟩) hne2.out (.int .i64 (T1 + x.pk))).other (a := ⟨w.heap.size + 1, 1, none⟩) hne2.out (.int .i64 (T2 + x.by_))
      have hX2 := hX.other (a := ⟨w.heap.size + 1, 0, none⟩) hne.out (.int .i64 (T1 + x.pk))
      have c13 := hX2.cell (i := 13) (v := .int .i64 x.by_) rfl
      have m1' := hM2.cell (i := 1) rfl
      have f1' := hM2.free 1
      have hb3 := (hbw.setCell (p := ⟨w.heap.size + 1, 0, none⟩) (by simp) (.int .i64 (T1 + x.pk))).setCell (p := ⟨w.heap.size + 1, 1, none⟩) (by simp) (.int .i64 (T2 + x.by_))
      replace hb3 := Lib.hid hb3
      replace hR3 := Lib.hid hR3
      replace hM3 := Lib.hid hM3
      clear hX hX2 hM hM2 hR hbw
      go_wp2_with fail
      go_roundw
      case rel => exact ⟨k + 1, by omega, by go_num, hb3.out, hR3.out, by rw [ht1.out, ht2.out]; exact hM3.out⟩
      case measure => simp [intOf]; omega
    · obtain rfl : k = n := by omega
      have htk : ls.take k = ls := List.take_of_length_le (by rw [← hlen.out]; omega)
      rw [htk] at hM
      have m0 := hM.cell (i := 0) rfl
      have m1 := hM.cell (i := 1) rfl
      have r0 := hR.cell (i := 0) rfl
      have r1 := hR.cell (i := 1) rfl
      have g0 := hR.free 0
      have g1 := hR.free 1
      clear htk hBd
      generalize tot Rp.pk ls = T1 at *
      generalize tot Rp.by_ ls = T2 at *
      go_wp2_with fail
      have z0 : Blk _ w.heap.size [.int .i64 T1, .int .i64 0] 52 := hR.set 0 (.int .i64 T1)
      have z1 : Blk _ w.heap.size [.int .i64 T1, .int .i64 T2] 52 := z0.set 1 (.int .i64 T2)
      have hbz := (hbw.setCell (p := ⟨w.heap.size, 0, none⟩) (Nat.le_refl _) (.int .i64 T1)).setCell (p := ⟨w.heap.size, 1, none⟩) (Nat.le_refl _) (.int .i64 T2)
      exact bodyPost_ret (v := .agg #[.int .i64 T1, .int .i64 T2]) (results_cell_row rfl _ _ w.heap.size 52 #[.int .i64 T1, .int .i64 T2] (0, 0) _ rfl z1 Tryz.underlying52 rfl (by kernel_rfl)) rfl ⟨rfl, hbz⟩
end Go.Proofs.YtfiocnjogbpgoaaGreatDoor
