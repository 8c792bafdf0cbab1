/- Sets: what SetsMake compares. -/
import Derived.Test.YtedmlbefkpbldaaGreatDoorKaSuC
import Derived.Test.YtedmlbefkpbldaaGreatDoorKaAddressed
import Derived.Deep.CutBlock
import Derived.Deep.DeepCutAuto
namespace Go.Proofs.YtedmlbefkpbldaaGreatDoor
open Go.RowKit
set_option linter.unusedVariables false
set_option linter.unusedSimpArgs false

/-- The first thing that is wrong with one of some prefixes. -/
def firstE (ps : List Pf) : Int := firstZ (ps.map pfE)
theorem firstE_step {ps : List Pf} {k : Nat} {p : Pf} (hp : ps[k]? = some p) : firstE (ps.drop k) = if pfE p = 0 then firstE (ps.drop (k + 1)) else pfE p := by
  obtain ⟨hk, hpe⟩ := List.getElem?_eq_some_iff.1 hp
  rw [List.drop_eq_getElem_cons hk, hpe]
  rfl
theorem firstE_zero : ∀ (ps : List Pf), firstE ps = 0 → ∀ p ∈ ps, pfE p = 0
  | [], _, p, hp => by cases hp
  | q :: r, h, p, hp => by
    have h' : (if pfE q = 0 then firstE r else pfE q) = 0 := h
    by_cases e : pfE q = 0
    · rw [if_pos e] at h'
      rcases List.mem_cons.1 hp with rfl | hp
      · exact e
      · exact firstE_zero r h' p hp
    · rw [if_neg e] at h'; exact absurd h' e

set_option maxRecDepth 100000 in
set_option maxHeartbeats 2000000 in
theorem least_any (A : Option Addr) (n cap : Nat) (ps : List Pf) (w : World) (hS : SlE ePf w A n cap ps) (hn : n ≤ 1000) (hU : ∀ p ∈ ps, p.U) (hT : Tz w) :
    Calls Tryz.prog 23 #[.slice A n cap] w (GivesS (firstE ps) (fun qs => (∀ p ∈ ps, p.R) ∧ ∃ ys, Joined ys (ps.map rgP) ∧ qs = pfsOf (ys.map rowA)) w) := by
  have hpl := Lib.hid hS.1
  replace hS := Lib.hid hS
  replace hU := Lib.hid hU
  have hT1 : Hid (∀ W, Below w.heap.size w W → Tz W) := Lib.hid fun W h => hT.below h
  have hn' : ¬ (1000 : Int) < n := by omega
  have nilO : ∀ W : World, OwnE ePf 52 w.heap.size W (.slice none 0 0) [] := fun W => OwnE.nil _ _
  clear hT
  go_enter Tryz.func23, Tryz.ntmps23
  go_wp2_with fail
  go_loopw [12] (fun i wr => ∃ k : Nat, k ≤ n ∧ i = .int .i64 k ∧ Hid ((∀ p ∈ ps.take k, p.R) ∧ firstE ps = firstE (ps.drop k)) ∧ Below w.heap.size w wr) (fun i _ => n - (intOf i).toNat)
  case atStart => exact ⟨0, by omega, rfl, Lib.hid ⟨by simp, rfl⟩, Below.refl _ _⟩
  case round =>
    obtain ⟨k, hk, rfl, hI, hbw⟩ := hrel
    by_cases hlt : k < n
    · skip
      obtain ⟨p, hp⟩ : ∃ p, ps[k]? = some p := ⟨ps[k]'(by have := hpl.out; omega), List.getElem?_eq_getElem _⟩
      obtain ⟨g0, off, rfl, _, _⟩ := hS.out.at' hlt
      have hld := SlE.ld rowPf (hS.out.below hbw) hp
      replace hld : (ldT 52 (.pointer (some ⟨g0, off + k * 4, none⟩))).run Tryz.prog wr = .ok (.value (pfA p)) wr := hld
      have hpU := hU.out p (List.mem_of_getElem? hp)
      have hlt' : (k : Int) < n := by omega
      have hsw := hbw.size
      have S1 := stT_new rowPf (te := 52) wr wr.heap.size rfl [.bool false, .int .u64 0, .int .u64 0, .int .i64 0] (pfC p) rfl rfl (pfC_one p)
      have hC := Blk.new wr (pfC p) 52
      replace hbw := hbw.alloc hsw (.cells (pfC p).toArray 52)
      have HF0 := fun w' => Lib.hid (checkPrefix_any p.1.s p.1.hi p.1.lo p.2 w' hpU.1.1.1 hpU.1.1.2 hpU.1.2.1 hpU.1.2.2)
      have k1 := hC.ld rowPf rfl
      obtain ⟨E, hE⟩ : ∃ E, E = pfE p := ⟨_, rfl⟩
      have HF : ∀ w', Hid (Calls Tryz.prog 67 #[pfA p] w' (GivesV (.int .i64 E) w')) := fun w' => by rw [hE]; exact HF0 w'
      have hst := firstE_step hp
      rw [← hE] at hst

      replace hp := Lib.hid hp
      replace hE := Lib.hid hE
      replace hst := Lib.hid hst
      clear HF0
      go_wp2_with fail
      refine (HF _).out.mono ?_
      rintro e w2 ⟨rfl, hb2⟩
      replace hC := hC.below hb2
      replace hbw := hbw.trans (hb2.mono hbw.size)
      clear hb2 k1 S1 HF hld
      by_cases hE0 : E = 0
      · have hpR : p.R := (pfE_iff hpU.1).1 (by rw [← hE.out]; exact hE0)
        have hI2 : Hid ((∀ p ∈ ps.take (k + 1), p.R) ∧ firstE ps = firstE (ps.drop (k + 1))) := Lib.hid ⟨take_R hI.out.1 hp.out hpR, by have h := hst.out; rw [if_pos hE0] at h; rw [hI.out.2, h]⟩
        subst hE0
        clear hst hpR hE
        go_wp2_with fail
        go_roundw
        case rel => exact ⟨k + 1, by omega, by go_num, hI2, hbw⟩
        case measure => simp [intOf]; omega
      · have b0 : (E == 0) = false := by simp [hE0]
        have hfin := Lib.hid (show firstE ps = E by have h := hst.out; rw [if_neg hE0] at h; rw [hI.out.2, h])
        have hE1' := Lib.hid hE0
        clear hE0 hst
        go_wp2_with fail
        go_ret2
        exact ⟨_, [], by rw [hfin.out]; rfl, nilO _, fun h => absurd (hfin.out.symm.trans h) hE1'.out, fun _ => rfl, hbw⟩
    · have hR := Lib.hid (show ∀ p ∈ ps, p.R by
        have h := hI.out.1
        rwa [List.take_of_length_le (by have := hpl.out; omega)] at h)
      have hfin := Lib.hid (show firstE ps = 0 by
        have h := hI.out.2
        rw [List.drop_of_length_le (by have := hpl.out; omega)] at h
        exact h)
      have HO := Lib.hid (ofP_any A n cap ps wr (hS.out.below hbw) (by omega) hR.out)
      clear hI
      go_wp2_with fail
      refine HO.out.mono ?_
      rintro e w2 ⟨ys, hy1, hy2, ⟨A2, c2, rfl, hSl, hA⟩, hv1⟩
      replace hbw := hbw.trans (hv1.mono hbw.size)
      have hle := (leastP_same hR.out hy1).2
      have HS := Lib.hid (setOf_any A2 _ c2 ys w2 hSl (by omega) hy1.2.2 (hT1.out _ hbw) (by have := hpl.out; omega))
      replace hy1 := Lib.hid hy1
      clear HO hv1 hSl hA hle
      generalize ys.length = L2 at *
      go_wp2_with fail
      refine HS.out.mono ?_
      rintro e w3 ⟨⟨v, rfl, ho⟩, hv1⟩
      have hz := hbw.size
      replace hbw := hbw.trans (hv1.mono hz)
      clear HS hv1
      go_wp2_with fail
      go_ret2
      exact ⟨v, _, by rw [hfin.out]; rfl, OwnE.mono ho hz, fun _ => ⟨hR.out, ys, hy1.out, rfl⟩, fun h => absurd hfin.out h, hbw⟩

theorem setF_ok {ps : List Pf} (hU : ∀ p ∈ ps, p.U) (h : setF ps = 0) : ∀ p ∈ ps, p.R := by
  have key : ∀ (l : List Pf) (o : Option Pf), scanF o l = 0 → ∀ p ∈ l, pfE p = 0 := by
    intro l
    induction l with
    | nil => intro o _ p hp; cases hp
    | cons q r ih =>
      intro o h p hp
      unfold scanF at h
      by_cases e : pfE q = 0
      · rw [if_neg (fun f => f e)] at h
        rcases List.mem_cons.1 hp with rfl | hp
        · exact e
        · cases o with
          | none => simp only [Bool.false_eq_true, if_false] at h; exact ih _ h p hp
          | some z =>
            by_cases c : q.1.n ≤ z.1.n
            · simp [c] at h
            · simp only [c, decide_false, Bool.false_eq_true, if_false] at h; exact ih _ h p hp
      · rw [if_pos e] at h; exact absurd h e
  unfold setF at h
  by_cases e : scanF none ps = 0
  · exact fun p hp => (pfE_iff (hU p hp).1).1 (key ps none e p hp)
  · rw [if_pos e] at h; exact absurd h e

set_option maxRecDepth 100000 in
set_option maxHeartbeats 2000000 in
theorem ranges_any (A : Option Addr) (n cap : Nat) (ps : List Pf) (w : World) (hS : SlE ePf w A n cap ps) (hn : n ≤ 1000) (hU : ∀ p ∈ ps, p.U) :
    Calls Tryz.prog 25 #[.slice A n cap] w fun e w' => ∃ A' cap' ys, e = .returned (.tuple #[.slice A' ys.length cap', .int .i64 (setF ps)]) ∧ SlE eRg w' A' ys.length cap' ys ∧ (setF ps = 0 → (∀ p ∈ ps, p.R) ∧ Joined ys (ps.map rgP)) ∧ (setF ps ≠ 0 → ys = []) ∧ ys.length ≤ n ∧ Below w.heap.size w w' := by
  have HC := Lib.hid (checkSet_any A n cap ps w hS hn hU)
  have HR := Lib.hid (fun h => setF_ok hU h)
  replace hS := Lib.hid hS
  clear hU
  generalize setF ps = E at *
  go_enter Tryz.func25, Tryz.ntmps25
  go_wp2_with fail
  refine HC.out.mono ?_
  rintro e w1 ⟨rfl, hb1⟩
  clear HC
  by_cases hE0 : E = 0
  · have b0 : (E == 0) = true := by simp [hE0]
    have hE1 := Lib.hid hE0
    have hR := Lib.hid (HR.out hE0)
    clear hE0
    have HO := Lib.hid (ofP_any A n cap ps w1 (hS.out.below hb1) (by omega) hR.out)
    clear HR
    go_wp2_with fail
    refine HO.out.mono ?_
    rintro e w2 ⟨ys, hy1, hy2, ⟨A2, c2, rfl, hSl, hA⟩, hv1⟩
    replace hb1 := hb1.trans (hv1.mono hb1.size)
    replace hSl := Lib.hid hSl
    replace hy1 := Lib.hid hy1
    clear HO hv1 hA
    obtain ⟨L, hL⟩ : ∃ k, k = ys.length := ⟨_, rfl⟩
    rw [← hL] at hy2 hSl ⊢
    replace hL := Lib.hid hL
    go_wp2_with fail
    go_ret2
    exact ⟨A2, c2, ys, by rw [← hL.out, hE1.out]; rfl, by rw [← hL.out]; exact hSl.out, fun _ => ⟨hR.out, hy1.out⟩, fun h => absurd hE1.out h, by rw [← hL.out]; exact hy2, hb1⟩
  · have b0 : (E == 0) = false := by simp [hE0]
    have hE1 := Lib.hid hE0
    clear hE0
    go_wp2_with fail
    go_ret2
    exact ⟨none, 0, [], rfl, SlE.nil _, fun h => absurd h hE1.out, fun _ => rfl, Nat.zero_le _, hb1⟩
end Go.Proofs.YtedmlbefkpbldaaGreatDoor
namespace Go.Proofs.YtedmlbefkpbldaaGreatDoor
open Go.RowKit
set_option linter.unusedVariables false
set_option linter.unusedSimpArgs false

theorem gb_cell1 (w : World) (g o : Nat) (v : Value) : w.grownBy (w.setCell ⟨g, o, none⟩ v) (some g) :=
  ⟨rfl, rfl, rfl, by simp [World.setCell], fun i hi hne => Below.heap_setCell _ _ _ _ (by intro e; simp at e; exact hne (by rw [e]))⟩
theorem gb_cells {g : Nat} : ∀ (vs : List Value) (o : Nat) (w : World), w.grownBy (w.setCells g o vs) (some g)
  | [], _, w => gb_refl w (some g)
  | v :: r, o, w => by
    unfold World.setCells
    exact gb_trans (gb_cell1 w g o v) (gb_cells r (o + 1) _)
theorem blk_cells {p : Nat} {t : TypeId} : ∀ (vs : List Value) (o : Nat) (w : World) (xs : List Value), Blk w p xs t → Blk (w.setCells p o vs) p (setL xs o vs) t
  | [], _, _, _, h => h
  | v :: r, o, w, xs, h => by
    unfold World.setCells setL
    exact blk_cells r (o + 1) _ _ (h.set o v)
theorem rg_swap (p q : Ad) : setL (setL (rgC (p, q)) 0 (adC q)) 3 (adC p) = rgC (q, p) := rfl
theorem rowsA_row {zs : List (Ad × Ad)} (h : ∀ z ∈ zs, RgR z) : ∀ x ∈ zs.map rowA, Row x := by
  intro x hx
  obtain ⟨z, hz, rfl⟩ := List.mem_map.1 hx
  exact rowA_row (h z hz)

/-- LeastOf and what Least gave are equal. -/
theorem stepA (Aa Ay : Option Addr) (La ca n cap : Nat) (qs ys : List Pf) (W0 W : World) (hy : SlE ePf W0 Ay n cap ys) (ha : SlE ePf W0 Aa La ca qs) (hb : Below W0.heap.size W0 W) (hn : n ≤ 1000) (hP : (∀ p ∈ ys, p.R) ∧ ∃ zs, Joined zs (ys.map rgP) ∧ qs = pfsOf (zs.map rowA)) :
    Calls Tryz.prog 32 #[.slice Ay n cap] W fun e w' => ∃ A m c, e = .returned (.slice A m c) ∧ Below W.heap.size W w' ∧ Calls Tryz.prog 31 #[.slice Aa La ca, .slice A m c] w' (GivesV (.bool true) w') := by
  obtain ⟨hR, zs, hz, rfl⟩ := hP
  refine (leastOf_any Ay n cap ys W (hy.below hb) hn hR).mono ?_
  rintro e w' ⟨xs, h1, h2, ⟨v, rfl, ho⟩, hb1⟩
  obtain ⟨A, c, rfl, hS⟩ := ho.sl
  have he : zs = xs := Joined.unique hz h1 (fun _ => Iff.rfl)
  subst he
  refine ⟨A, _, c, rfl, hb1, ?_⟩
  have hl : (pfsOf (zs.map rowA)).length ≤ 1000000 := by
    have := pfsOf_len (l := zs.map rowA) (n := n) (rowsA_row h1.2.2) (by rw [List.length_map]; exact h2)
    omega
  refine (equalPf_any Aa A La _ ca c _ _ w' (ha.below (hb.trans (hb1.mono hb.size))) hS (by rw [ha.len]; exact hl) hl).mono ?_
  rintro e w2 ⟨b, rfl, hbe, hb2⟩
  exact ⟨by rw [hbe.2 rfl], hb2⟩
theorem stepB (Aa : Option Addr) (La ca : Nat) (qs : List Pf) (x : Ad × Ad) (W0 W : World) (ha : SlE ePf W0 Aa La ca qs) (hb : Below W0.heap.size W0 W) (hP : RgR x ∧ qs = pfsOf [rowA x]) :
    Calls Tryz.prog 33 #[rgA x] W fun e w' => ∃ A m c, e = .returned (.slice A m c) ∧ Below W.heap.size W w' ∧ Calls Tryz.prog 31 #[.slice Aa La ca, .slice A m c] w' (GivesV (.bool true) w') := by
  obtain ⟨hR, rfl⟩ := hP
  refine (spanOf_any x W hR).mono ?_
  rintro e w' ⟨⟨v, rfl, ho⟩, hb1⟩
  obtain ⟨A, c, rfl, hS⟩ := ho.sl
  refine ⟨A, _, c, rfl, hb1, ?_⟩
  have hl : (pfsOf [rowA x]).length ≤ 1000000 := by
    have := pfsOf_len (l := [rowA x]) (n := 1) (by intro y hy; rw [List.mem_singleton.1 hy]; exact rowA_row hR) (by simp)
    omega
  refine (equalPf_any Aa A La _ ca c _ _ w' (ha.below (hb.trans (hb1.mono hb.size))) hS (by rw [ha.len]; exact hl) hl).mono ?_
  rintro e w2 ⟨b, rfl, hbe, hb2⟩
  exact ⟨by rw [hbe.2 rfl], hb2⟩
theorem stepC (Aa Ay : Option Addr) (La ca n cap : Nat) (qs : List (Ad × Ad)) (ys : List Pf) (W0 W : World) (hy : SlE ePf W0 Ay n cap ys) (ha : SlE eRg W0 Aa La ca qs) (hb : Below W0.heap.size W0 W) (hn : n ≤ 1000) (hP : (∀ p ∈ ys, p.R) ∧ Joined qs (ys.map rgP)) :
    Calls Tryz.prog 35 #[.slice Ay n cap] W fun e w' => ∃ A m c, e = .returned (.slice A m c) ∧ Below W.heap.size W w' ∧ Calls Tryz.prog 34 #[.slice Aa La ca, .slice A m c] w' (GivesV (.bool true) w') := by
  obtain ⟨hR, hz⟩ := hP
  refine (rangesOf_any Ay n cap ys W (hy.below hb) (by omega) hR).mono ?_
  rintro e w' ⟨xs, h1, h2, ⟨A, c, rfl, hS, _⟩, hb1⟩
  have he : qs = xs := Joined.unique hz h1 (fun _ => Iff.rfl)
  subst he
  refine ⟨A, _, c, rfl, hb1, ?_⟩
  refine (equalRg_any Aa A La _ ca c _ _ w' (ha.below (hb.trans (hb1.mono hb.size))) hS (by rw [ha.len]; omega) (by omega)).mono ?_
  rintro e w2 ⟨b, rfl, hbe, hb2⟩
  exact ⟨by rw [hbe.2 rfl], hb2⟩

/-- Of no errors but the first four. -/
theorem firstZ_cons (a : Int) (l : List Int) : firstZ (a :: l) = if a = 0 then firstZ l else a := rfl
theorem spanE_four (x : Ad × Ad) (b c : Bool) (hb : b = true ↔ x.1.s ≠ x.2.s) (hc : c = true ↔ x.2.n < x.1.n) : firstZ [adEr x.1, adEr x.2, whenZ b 10, whenZ c 7] = spanE x := by
  unfold spanE
  simp only [firstZ_cons]
  by_cases h1 : adEr x.1 = 0
  · by_cases h2 : adEr x.2 = 0
    · simp only [if_pos h1, if_pos h2]
      by_cases h3 : x.1.s ≠ x.2.s
      · rw [hb.2 h3]; simp [whenZ, firstZ, h3]
      · have : b = false := by cases b with | false => rfl | true => exact absurd (hb.1 rfl) h3
        subst this
        by_cases h4 : x.2.n < x.1.n
        · rw [hc.2 h4]; simp [whenZ, firstZ, h3, h4]
        · have : c = false := by cases c with | false => rfl | true => exact absurd (hc.1 rfl) h4
          subst this
          simp [whenZ, firstZ, h3, h4]
    · simp only [if_pos h1, if_neg h2]
      rw [if_pos h2]
  · simp only [if_neg h1]
    rw [if_pos h1]
/-- A further error is joined to the first. -/
theorem firstE_snoc (ps : List Pf) (p : Pf) : firstZ (ps.map pfE ++ [pfE p]) = firstZ [firstZ (ps.map pfE), pfE p] := by
  induction ps with
  | nil => simp [firstZ]
  | cons q r ih =>
    rw [List.map_cons, List.cons_append, firstZ_cons, ih, firstZ_cons (pfE q) (r.map pfE)]
    by_cases h : pfE q = 0
    · rw [if_pos h, if_pos h]
    · rw [if_neg h, if_neg h, firstZ_cons, if_neg h]
theorem firstE_take {ps : List Pf} {k : Nat} {p : Pf} (hp : ps[k]? = some p) : firstE (ps.take (k + 1)) = firstZ [firstE (ps.take k), pfE p] := by
  have e : ps.take (k + 1) = ps.take k ++ [p] := by
    obtain ⟨hk, hpe⟩ := List.getElem?_eq_some_iff.1 hp
    rw [← hpe, List.take_append_getElem]
  unfold firstE
  rw [e, List.map_append]
  exact firstE_snoc _ p
end Go.Proofs.YtedmlbefkpbldaaGreatDoor
