/- Sets: Covers of the reference. -/
import Derived.Test.YthjhokicojgpbaaGreatDoorKcSwL
import Derived.Test.YthjhokicojgpbaaGreatDoorKcSwI
import Derived.Test.YthjhokicojgpbaaGreatDoorKcStO
import Derived.Test.YthjhokicojgpbaaGreatDoorKcStS
import Derived.Test.YthjhokicojgpbaaGreatDoorKcWaysB
import Derived.Test.YthjhokicojgpbaaGreatDoorKcSvQ
import Derived.Test.YthjhokicojgpbaaGreatDoorKcSwN
namespace Go.Proofs.YthjhokicojgpbaaGreatDoor
open Go.RowKit
set_option linter.unusedVariables false
set_option linter.unusedSimpArgs false

theorem decR_len : ∀ (k C : Nat), C < 10 ^ k → 0 < k → (decR C).length ≤ k
  | 0, _, _, h => absurd h (by decide)
  | k + 1, C, h, _ => by
    by_cases h10 : C < 10
    · rw [decR_small h10]; simp
    · rw [decR_big h10, List.length_cons]
      rw [Nat.pow_succ] at h
      rcases Nat.eq_zero_or_pos k with e | e
      · subst e; simp at h; omega
      · have := decR_len k (C / 10) (by omega) e
        omega
theorem decR_len192 {C : Nat} (h : C < 2 ^ 192) : (decR C).length ≤ 100 := decR_len 100 C (Nat.lt_trans h (by decide)) (by decide)
theorem decS_zero : decS 0 = ⟨#[48]⟩ := by rw [decS_dig, decR_small (by decide)]; rfl
theorem decS_one : decS 1 = ⟨#[49]⟩ := by rw [decS_dig, decR_small (by decide)]; rfl
set_option maxRecDepth 100000 in
set_option maxHeartbeats 4000000 in
theorem sizeOf_any (A : Option Addr) (n cap : Nat) (ps : List Pf) (w : World) (hS : SlE ePf w A n cap ps) (hn : n ≤ 1000) (hR : ∀ p ∈ ps, p.R) :
    Calls Tryz.prog 50 #[.slice A n cap] w (GivesV (.string (decS (sizeN ps))) w) := by
  have hpl := Lib.hid hS.1
  replace hS := Lib.hid hS
  replace hR := Lib.hid hR
  go_enter Tryz.func50, Tryz.ntmps50
  go_wp2_with fail
  go_loopw [3, 9] (fun o i wr => ∃ (k X : Nat), k ≤ n ∧ o = .string (decS X) ∧ i = .int .i64 k ∧ Hid (X = sizeN (ps.take k)) ∧ Below w.heap.size w wr) (fun _ i _ => n - (intOf i).toNat)
  case atStart => exact ⟨0, 0, by omega, by rw [decS_zero], rfl, Lib.hid rfl, Below.refl _ _⟩
  case round =>
    obtain ⟨k, X, hk, rfl, rfl, hX, hbw⟩ := hrel
    by_cases hlt : k < n
    · obtain ⟨p, hp⟩ : ∃ p, ps[k]? = some p := ⟨ps[k]'(by have := hpl.out; omega), List.getElem?_eq_getElem _⟩
      obtain ⟨g0, off, rfl, hg0, hc0⟩ := hS.out.at' hlt
      have hld := SlE.ld rowPf (hS.out.below hbw) hp
      replace hld : (ldT 52 (.pointer (some ⟨g0, off + k * 4, none⟩))).run Tryz.prog wr = .ok (.value (pfA p)) wr := hld
      have hpR := hR.out p (List.mem_of_getElem? hp)
      have hlt' : (k : Int) < n := by omega
      have hsw := hbw.size
      have S1 := stT_new rowPf (te := 52) wr wr.heap.size rfl [.bool false, .int .u64 0, .int .u64 0, .int .i64 0] (pfC p) rfl rfl (pfC_one p)
      obtain ⟨f1, f2⟩ := freeN_le hpR
      have hXb : X + 2 ^ freeN p < 2 ^ 192 := by
        have h1 : sizeN (ps.take (k + 1)) = X + 2 ^ freeN p := by rw [sizeN_step hp, hX.out]
        have h2 := sizeN_le (ps := ps.take (k + 1)) (fun q hq => hR.out q (List.mem_of_mem_take hq))
        have h3 : (ps.take (k + 1)).length ≤ 1000 := by rw [List.length_take]; have := hpl.out; omega
        have h4 := Nat.mul_le_mul_right (2 ^ 128) h3
        omega
      have hX2 := Lib.hid (show X + 2 ^ freeN p = sizeN (ps.take (k + 1)) by rw [sizeN_step hp, hX.out])
      have HD := fun (j : Nat) (hj : j ≤ freeN p) w' => Lib.hid (decimal_any (2 ^ j) (2 ^ j) w' (decR_len192 (Nat.lt_of_le_of_lt (Nat.le_trans (Nat.pow_le_pow_right (by decide) hj) (Nat.le_add_left _ X)) hXb)) (decR_len192 (Nat.lt_of_le_of_lt (Nat.le_trans (Nat.pow_le_pow_right (by decide) hj) (Nat.le_add_left _ X)) hXb)))
      have HE := fun w' => Lib.hid (decimal_any X (2 ^ freeN p) w' (decR_len192 (Nat.lt_of_le_of_lt (Nat.le_add_right _ _) hXb)) (decR_len192 (Nat.lt_of_le_of_lt (Nat.le_add_left _ _) hXb)))
      have HL := fun w' => Lib.hid (length_w p.1 w')
      have e64 : IntKind.i64.wrap (lenZ p.1.s - p.2) = (freeN p : Int) := by rw [f2]; exact IntWalk.i64_in _ (by omega)
      replace hXb := Lib.hid hXb
      clear hc0 hp hX hpR f2
      replace f1 := Lib.hid f1
      generalize freeN p = e at *
      have hC := Blk.new wr (pfC p) 52
      replace hbw := hbw.alloc hsw (.cells (pfC p).toArray 52)
      go_wp2_with fail
      clear S1 hld
      refine wb_begin ([wr.heap.size]) [] (by kernel_rfl) (fun u0 hb0' hz0' => ?_)
      replace hC := hC.below hb0'
      replace hbw := hbw.trans (hb0'.mono hbw.size)
      clear hb0' hz0'
      refine wb_pure (i := 0) (d := some 13) (v := ?_) (by simp only [List.getElem?_toArray, List.getElem?_cons_succ, List.getElem?_cons_zero] <;> rfl) (by rfl) (by kernel_rfl) (by kernel_rfl) (by kernel_rfl) (fun _ _ _ h => h) (by rfl) ?_ ?_
      rotate_left
      · ((intro u); go_simp; try with_reducible rfl)
      try simp only [Act.put, List.setIfInBounds_toArray, List.set_cons_zero, List.set_cons_succ]
      refine wb_take (i := 1) (d := some 14) (v := ?_) (by simp only [List.getElem?_toArray, List.getElem?_cons_succ, List.getElem?_cons_zero] <;> rfl) (by rfl) (by kernel_rfl) (by kernel_rfl) (by kernel_rfl) (fun _ _ _ h => h) (by rfl) (by kernel_rfl) ?_ ?_
      rotate_left
      · ((intro u hu); have kc := hC.kb hu (by simp); have q1 := kc.ldAt rowAd 0 (adC p.1) [.int .i64 p.2] rfl rfl; have q3 := kc.cell (i := 3) (v := .int .i64 p.2) rfl; clear kc; go_simp; try with_reducible rfl)
      try simp only [Act.put, List.setIfInBounds_toArray, List.set_cons_zero, List.set_cons_succ]
      refine wb_pure (i := 3) (d := some 16) (v := ?_) (by simp only [List.getElem?_toArray, List.getElem?_cons_succ, List.getElem?_cons_zero] <;> rfl) (by rfl) (by kernel_rfl) (by kernel_rfl) (by kernel_rfl) (fun _ _ _ h => h) (by rfl) ?_ ?_
      rotate_left
      · ((intro u); go_simp; try with_reducible rfl)
      try simp only [Act.put, List.setIfInBounds_toArray, List.set_cons_zero, List.set_cons_succ]
      refine wb_take (i := 4) (d := some 17) (v := ?_) (by simp only [List.getElem?_toArray, List.getElem?_cons_succ, List.getElem?_cons_zero] <;> rfl) (by rfl) (by kernel_rfl) (by kernel_rfl) (by kernel_rfl) (fun _ _ _ h => h) (by rfl) (by kernel_rfl) ?_ ?_
      rotate_left
      · ((intro u hu); have kc := hC.kb hu (by simp); have q1 := kc.ldAt rowAd 0 (adC p.1) [.int .i64 p.2] rfl rfl; have q3 := kc.cell (i := 3) (v := .int .i64 p.2) rfl; clear kc; go_simp; try with_reducible rfl)
      try simp only [Act.put, List.setIfInBounds_toArray, List.set_cons_zero, List.set_cons_succ]
      refine wb_pure (i := 6) (d := some 19) (v := ?_) (by simp only [List.getElem?_toArray, List.getElem?_cons_succ, List.getElem?_cons_zero] <;> rfl) (by rfl) (by kernel_rfl) (by kernel_rfl) (by kernel_rfl) (fun _ _ _ h => h) (by rfl) ?_ ?_
      rotate_left
      · ((intro u); go_simp; try with_reducible rfl)
      try simp only [Act.put, List.setIfInBounds_toArray, List.set_cons_zero, List.set_cons_succ]
      refine wb_one (i := 2) (by simp only [List.getElem?_toArray, List.getElem?_cons_succ, List.getElem?_cons_zero] <;> rfl) (by kernel_rfl) (by rfl) (fun K hK => ?_)
      go_simp
      refine (HL _).out.mono ?_
      rintro e u3 ⟨rfl, hv1⟩
      refine hK _ _ (Kb.below hv1 (by intro q hq; rw [List.mem_singleton.1 hq]; exact hC.lt)) ?_
      replace hC := hC.below hv1
      replace hbw := hbw.trans (hv1.mono hbw.size)
      clear hK K hv1
      try simp only [Act.put, List.setIfInBounds_toArray, List.set_cons_zero, List.set_cons_succ]
      refine wb_pure (i := 5) (d := some 18) (v := ?_) (by simp only [List.getElem?_toArray, List.getElem?_cons_succ, List.getElem?_cons_zero] <;> rfl) (by rfl) (by kernel_rfl) (by kernel_rfl) (by kernel_rfl) (fun _ _ _ h => h) (by rfl) ?_ ?_
      rotate_left
      · ((intro u); go_simp; try with_reducible rfl)
      try simp only [Act.put, List.setIfInBounds_toArray, List.set_cons_zero, List.set_cons_succ]
      refine wb_done (by kernel_rfl) ?_ _
      skip
      go_wp2_with fail
      go_loopw [6, 19] (fun o i wr => ∃ j : Nat, j ≤ e ∧ o = .string (decS (2 ^ j)) ∧ i = .int .i64 j ∧ Below w.heap.size w wr) (fun _ i _ => e - (intOf i).toNat)
      case atStart => exact ⟨0, by omega, by rw [Nat.pow_zero, decS_one], rfl, hbw⟩
      case round =>
        clear hbw
        obtain ⟨j, hj, rfl, rfl, hbw⟩ := hrel
        by_cases hje : j < e
        · have hje' : (j : Int) < e := by omega
          have HD2 := HD j hj
          clear HD HE
          have h200 := f1.out
          go_wp2_with fail
          refine (HD2 _).out.mono ?_
          rintro z w2 ⟨rfl, hb2⟩
          replace hbw := hbw.trans (hb2.mono hbw.size)
          clear hb2 HD2
          go_wp2_with fail
          go_roundw
          case rel => exact ⟨j + 1, by omega, by rw [Nat.pow_succ, Nat.mul_two], by go_num, hbw⟩
          case measure => simp [intOf]; omega
        · have hjE : j = e := by omega
          subst hjE
          have h200 := f1.out
          clear HD
          go_wp2_with fail
          refine (HE _).out.mono ?_
          rintro z w2 ⟨rfl, hb2⟩
          replace hbw := hbw.trans (hb2.mono hbw.size)
          clear hb2 HE
          go_wp2_with fail
          go_roundw
          case rel => exact ⟨k + 1, _, by omega, rfl, by go_num, hX2, hbw⟩
          case measure => simp [intOf]; omega
    · have hkn : k = n := by omega
      have hXn : X = sizeN ps := by rw [hX.out, List.take_of_length_le (by have := hpl.out; omega)]
      have hnk : ¬ (k : Int) < n := by omega
      go_wp2_with fail
      go_ret
      exact ⟨rfl, hbw⟩
end Go.Proofs.YthjhokicojgpbaaGreatDoor
namespace Go.Proofs.YthjhokicojgpbaaGreatDoor
open Go.RowKit
set_option linter.unusedVariables false
set_option linter.unusedSimpArgs false

theorem tells_nil_iff {ms : List (Ad × Ad)} {P : Nat → Prop} (h : Tells ms P) : ms = [] ↔ ∀ m, ¬ P m := by
  constructor
  · rintro rfl m hm
    exact inA_nil m ((h.2.1 m).2 hm)
  · intro hn
    cases ms with
    | nil => rfl
    | cons y t =>
      exfalso
      have hr := (h.2.2 y List.mem_cons_self).2.2.2
      exact hn y.1.n ((h.2.1 _).1 ⟨y, List.mem_cons_self, Nat.le_refl _, hr⟩)
theorem setF_least {ps : List Pf} (h : setF ps = 0) : LeastL (ps.map blk) := by
  unfold setF at h
  by_cases h1 : scanF none ps ≠ 0
  · rw [if_pos h1] at h; exact absurd h h1
  · rw [if_neg h1] at h
    by_cases h2 : LeastL (ps.map blk)
    · exact h2
    · rw [if_neg h2] at h; exact absurd h (by decide)
/-- The union of two sets is the first one just if nothing of the second one is missing in it. -/
theorem covers_same {xs ys : List Pf} {zs ms : List (Ad × Ad)} (hR : ∀ p ∈ xs, p.R) (hR' : ∀ p ∈ ys, p.R) (h0 : LeastL (xs.map blk))
    (hz : Tells zs (fun m => InA (xs.map rgP) m ∨ InA (ys.map rgP) m)) (hm : Tells ms (CmbP (fun p q => q && !p) xs ys)) : pfsOf (zs.map rowA) = xs ↔ ms = [] := by
  rw [tells_nil_iff hm]
  have hc : ∀ m, CmbP (fun p q => q && !p) xs ys m ↔ InA (ys.map rgP) m ∧ ¬ InA (xs.map rgP) m := fun m => by
    unfold CmbP
    rw [Bool.and_eq_true, hasB_iff, hasB_not]
    exact ⟨fun h => h.2, fun h => ⟨inA_rgP_val hR' h.1, h⟩⟩
  constructor
  · intro e m h
    obtain ⟨h1, h2⟩ := (hc m).1 h
    have := (pfs_inA hz m).2 (.inr h1)
    rw [e] at this
    exact h2 this
  · intro h
    have hz' : Tells zs (InA (xs.map rgP)) := hz.iff fun m => ⟨fun k => k.elim id fun k => Classical.byContradiction fun hn => h m ((hc m).2 ⟨k, hn⟩), .inl⟩
    exact (leastP_same hR hz'.joined).1.2 h0

set_option maxRecDepth 100000 in
set_option maxHeartbeats 2000000 in
theorem coversOf_any (A1 A2 : Option Addr) (n1 c1 n2 c2 : Nat) (ps qs : List Pf) (w : World) (s1 : SlE ePf w A1 n1 c1 ps) (s2 : SlE ePf w A2 n2 c2 qs) (h1 : n1 ≤ 500) (h2 : n2 ≤ 500) (hR : ∀ p ∈ ps, p.R) (hR' : ∀ p ∈ qs, p.R) (hL : LeastL (ps.map blk)) :
    Calls Tryz.prog 49 #[.slice A1 n1 c1, .slice A2 n2 c2] w fun e w' => ∃ b, e = .returned (.bool b) ∧ (∀ ms, Tells ms (CmbP (fun p q => q && !p) ps qs) → (b = true ↔ ms = [])) ∧ Below w.heap.size w w' := by
  have HU := Lib.hid (unionOf_any 1000 A1 A2 n1 c1 n2 c2 ps qs w s1 s2 (by omega) (by omega) hR hR' (fun zs hj => by have := rowsLe_len _ zs hj; rw [List.length_append] at this; have := s1.1; have := s2.1; omega) (by omega))
  have HE := Lib.hid (fun W (hW : Below w.heap.size w W) B m c rs (t : SlE ePf W B m c rs) (hm : m ≤ 1000000) => equalPf_any B A1 m n1 c c1 rs ps W t (s1.below hW) hm (by omega))
  have hS := Lib.hid (fun zs hz ms hm => covers_same hR hR' hL (zs := zs) (ms := ms) hz hm)
  clear s1 s2 hR hR' hL
  go_enter Tryz.func49, Tryz.ntmps49
  go_wp2_with fail
  refine HU.out.mono ?_
  rintro e w1 ⟨zs, hz, hl, ⟨v, rfl, ho⟩, hb1⟩
  obtain ⟨A3, c3, rfl, hS3⟩ := ho.sl
  have hlen : (pfsOf (zs.map rowA)).length ≤ 1000000 := by
    have := pfsOf_len (n := 1000) (rows_R hz.2.2) (by rw [List.length_map]; exact hl)
    omega
  have HE1 := Lib.hid (HE.out _ hb1 _ _ _ _ hS3 hlen)
  have hfin := Lib.hid (fun ms hm => hS.out zs hz ms hm)
  clear HE HU hz hS3 ho hlen hS hl
  generalize pfsOf (zs.map rowA) = rs at *
  generalize rs.length = L at *
  go_wp2_with fail
  refine HE1.out.mono ?_
  rintro e w2 ⟨b, rfl, hb, hb2⟩
  replace hb := Lib.hid hb
  have hb3 := hb1.trans (hb2.mono hb1.size)
  clear HE1 hb1 hb2
  go_wp2_with fail
  go_ret
  exact ⟨b, rfl, fun ms hm => hb.out.trans (hfin.out ms hm), hb3⟩
end Go.Proofs.YthjhokicojgpbaaGreatDoor
