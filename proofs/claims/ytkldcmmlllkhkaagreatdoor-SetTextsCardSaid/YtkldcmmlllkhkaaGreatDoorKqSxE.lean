/- Texts of sets: how they are written (program and reference). -/
import Derived.Test.YtkldcmmlllkhkaaGreatDoorKqSxD
import Derived.Test.YtkldcmmlllkhkaaGreatDoorKqStY
import Derived.Test.YtkldcmmlllkhkaaGreatDoorKqPtD
set_option linter.unusedVariables false
set_option linter.unusedSimpArgs false
set_option maxRecDepth 100000
namespace Go.Proofs.YtkldcmmlllkhkaaGreatDoor
open Go.RowKit

theorem pfx_len {p : Pf} (h : p.R) : (pfxP p).length ≤ 204 := pfxText_len _ _ _ _ h.2.1 (by have := h.2.2.1; rcases lenZ_le p.1.s with g | g <;> omega)
theorem pfx_pfF {p : Pf} (h : p.R) : pfF p.1.s p.1.hi p.1.lo p.2 = 0 := (pfE_iff h.1.1).2 h
theorem pfx_adF {p : Pf} (h : p.R) : adF p.1.s p.1.hi p.1.lo = 0 := (pfF_zeroP (pfx_pfF h)).1
theorem line_ref (p : Pf) (w : World) (hT : Tabs w) (h : p.R) : Calls Tryz.prog 23 #[pfA p] w (GivesV (.string ⟨(pfxP p).toArray⟩) w) :=
  prefixLine_any p.1.s p.1.hi p.1.lo p.2 w hT h.1.1.1.1 h.1.1.1.2 h.1.1.2.1 h.1.1.2.2 (pfx_adF h) h.2.1 (by have := h.2.2.1; rcases lenZ_le p.1.s with g | g <;> omega)
theorem line_prog (p : Pf) (w : World) (hT : Tabs w) (h : p.R) : Calls Tryz.prog 19 #[pfA p] w (GivesV (.tuple #[.string ⟨(pfxP p).toArray⟩, .int .i64 0]) w) :=
  prefixText_ok p.1.s p.1.hi p.1.lo p.2 w hT h.1.1.1.1 h.1.1.1.2 h.1.1.2.1 h.1.1.2.2 (pfx_pfF h)

set_option maxHeartbeats 2000000 in
theorem setLines_any (A : Option Addr) (n cap : Nat) (ps : List Pf) (w : World) (hT : Tabs w) (hS : SlE ePf w A n cap ps) (hn : n ≤ 100) (hR : ∀ p ∈ ps, p.R) :
    Calls Tryz.prog 7 #[.slice A n cap] w (GivesV (.string ⟨(setTxt ps).toArray⟩) w) := by
  have hl := Lib.hid hS.1
  have hlen := Lib.hid (fun k => setTxt_len (m := 204) (ps.take k) (fun p hp => pfx_len (hR p (List.mem_of_mem_take hp))))
  replace hS := Lib.hid hS
  replace hR := Lib.hid hR
  replace hT := Lib.hid hT
  go_enter Tryz.func7, Tryz.ntmps7
  go_wp2_with fail
  go_loopw [3, 8] (fun v3 v8 wr => ∃ k : Nat, k ≤ n ∧ v8 = .int .i64 k ∧ (∃ T : List UInt8, v3 = .string ⟨T.toArray⟩ ∧ Hid (T = setTxt (ps.take k))) ∧ Below w.heap.size w wr) (fun _ v8 _ => n - (intOf v8).toNat)
  case atStart => exact ⟨0, by omega, rfl, ⟨[], rfl, Lib.hid rfl⟩, Below.refl _ _⟩
  case round =>
    obtain ⟨k, hk, rfl, ⟨T, rfl, hT0⟩, hbw⟩ := hrel
    by_cases hlt : k < n
    · obtain ⟨p, hp⟩ : ∃ p, ps[k]? = some p := ⟨ps[k]'(by have := hl.out; omega), List.getElem?_eq_getElem _⟩
      obtain ⟨g0, off, rfl, _, _⟩ := hS.out.at' hlt
      have hld := SlE.ld rowPf (hS.out.below hbw) hp
      replace hld : (ldT 41 (.pointer (some ⟨g0, off + k * 4, none⟩))).run Tryz.prog wr = .ok (.value (pfA p)) wr := hld
      have hpR := hR.out p (List.mem_of_getElem? hp)
      have hlt' : (k : Int) < n := by omega
      have hTl : T.length ≤ 21000 := by
        rw [hT0.out]
        have h1 := hlen.out k
        have h2 : (ps.take k).length ≤ k := by rw [List.length_take]; exact Nat.min_le_left _ _
        have h3 : (ps.take k).length * (204 + 1) ≤ 100 * 205 := Nat.mul_le_mul (by omega) (Nat.le_refl _)
        omega
      have hnext := Lib.hid (show T ++ (pfxP p ++ [10]) = setTxt (ps.take (k + 1)) by rw [setTxt_next hp, hT0.out])
      have hXl := pfx_len hpR
      have S1 := stT_new rowPf (te := 41) wr wr.heap.size rfl [.bool false, .int .u64 0, .int .u64 0, .int .i64 0] (pfC p) rfl rfl (pfC_one p)
      have hC := Blk.new wr (pfC p) 41
      have hbn := hbw.alloc hbw.size (.cells (pfC p).toArray 41)
      go_upto_region 5 with fail
      clear S1 hld hbw hT0
      generalize wr.alloc (.cells (pfC p).toArray 41) = wa at *
      generalize wr.heap.size = gC at *
      have l1 := hC.ldAt rowPf 0 (pfC p) [] rfl rfl
      have HL := Lib.hid (line_ref p wa (hT.out.below hbn) hpR)
      generalize pfxP p = X at *
      replace hXl := Lib.hid hXl
      replace hTl := Lib.hid hTl
      clear hpR
      go_wp2_with fail
      refine HL.out.mono ?_
      rintro e wb ⟨rfl, hv1⟩
      replace hbn := hbn.trans (hv1.mono hbn.size)
      clear hv1 HL hC l1
      have q1 := hXl.out
      have q2 := hTl.out
      go_wp2_with fail
      go_roundw
      case rel => exact ⟨k + 1, by omega, by go_num, ⟨_, rfl, hnext⟩, hbn⟩
      case measure => simp [intOf]; omega
    · have hkn : k = n := by omega
      have hfin := Lib.hid (show T = setTxt ps by rw [hT0.out, hkn, hl.out, List.take_length])
      have hnlt : ¬ (k : Int) < n := by omega
      clear hT0
      go_wp2_with fail
      go_ret
      exact ⟨by rw [hfin.out]; rfl, hbw⟩
theorem setF_okX {ps : List Pf} (hU : ∀ p ∈ ps, p.U) (h : setF ps = 0) : ∀ p ∈ ps, p.R := by
  have key : ∀ (l : List Pf) (o : Option Pf), scanF o l = 0 → ∀ p ∈ l, pfE p = 0 := by
    intro l
    induction l with
    | nil => intro o _ p hp; cases hp
    | cons q r ih =>
      intro o h p hp
      unfold scanF at h
      by_cases e : pfE q = 0
      · rw [if_neg (fun f => f e)] at h
        rcases List.mem_cons.1 hp with rfl | hp
        · exact e
        · cases o with
          | none => simp only [Bool.false_eq_true, if_false] at h; exact ih _ h p hp
          | some z =>
            by_cases c : q.1.n ≤ z.1.n
            · simp [c] at h
            · simp only [c, decide_false, Bool.false_eq_true, if_false] at h; exact ih _ h p hp
      · rw [if_pos e] at h; exact absurd h e
  unfold setF at h
  by_cases e : scanF none ps = 0
  · exact fun p hp => (pfE_iff (hU p hp).1).1 (key ps none e p hp)
  · rw [if_pos e] at h; exact absurd h e

theorem bld_below {B b : Nat} {bs : List Value} {w w' : World} (h : Lib.IsBuilder 70 5 B b bs w) (hb : Below w.heap.size w w') : Lib.IsBuilder 70 5 B b bs w' := by
  have key : ∀ p, Lib.BuilderAt 70 5 B b p bs w → Lib.BuilderAt 70 5 B b p bs w' := by
    rintro p ⟨hB, v, hbk, hown, hne⟩
    have hlt : b < w.heap.size := (Array.getElem?_eq_some_iff.1 hbk).1
    refine ⟨hB, v, (hb.block b hlt).trans hbk, World.ownsRow.kept (row := none) hown ⟨hb.os, hb.tape, hb.output, hb.size, fun k hk _ => hb.block k hk⟩ ?_, hne⟩
    cases h : v.ownBlock with
    | none => exact .inl rfl
    | some x => exact .inr (by simp)
  rcases h with h | h
  · exact .inl (key _ h)
  · exact .inr (key _ h)
theorem bld_new (w : World) : Lib.IsBuilder 70 5 w.heap.size w.heap.size (Lib.byteCells []) (w.alloc (.cells #[.pointer none, .slice none 0 0] 70)) := by
  refine .inl ⟨Nat.le_refl _, .slice none 0 0, heap_alloc_new w _, ⟨rfl, .inl ⟨rfl, rfl⟩⟩, ?_⟩
  intro h
  cases h
theorem bld_lt {B b : Nat} {bs : List Value} {w : World} (h : Lib.IsBuilder 70 5 B b bs w) : b < w.heap.size := by
  rcases h with h | h
  · exact h.lt
  · exact h.lt

set_option maxHeartbeats 2000000 in
theorem setText1_any (p : Pf) (w : World) (hT : Tabs w) (h : p.R) : Calls Tryz.prog 18 #[pfA p] w (GivesV (.string ⟨(pfxP p).toArray⟩) w) := by
  have hB := Blk.new w (pfC p) 41
  have hb : Below w.heap.size w (w.alloc (.cells (pfC p).toArray 41)) := (Below.refl _ _).alloc (Nat.le_refl _) _
  have HL := Lib.hid (line_prog p _ (hT.below hb) h)
  have k1 := hB.ldAt rowPf 0 (pfC p) [] rfl rfl
  generalize pfxP p = X at *
  clear h hT
  go_enter Tryz.func18, Tryz.ntmps18
  go_wp2_with fail
  refine HL.out.mono ?_
  rintro e w1 ⟨rfl, hv1⟩
  replace hb := hb.trans (hv1.mono hb.size)
  clear hv1 HL k1 hB
  go_wp2_with fail
  go_ret
  exact ⟨rfl, hb⟩

set_option maxHeartbeats 4000000 in
theorem linesPf_any (A : Option Addr) (n cap : Nat) (ps : List Pf) (w : World) (hT : Tabs w) (hS : SlE ePf w A n cap ps) (hn : n ≤ 100) (hR : ∀ p ∈ ps, p.R) :
    Calls Tryz.prog 17 #[.slice A n cap, .func (.func 18) #[] #[]] w (GivesV (.tuple #[.string ⟨(setTxt ps).toArray⟩, .int .i64 0]) w) := by
  have hl := Lib.hid hS.1
  have hlen := Lib.hid (fun k => setTxt_len (m := 204) (ps.take k) (fun p hp => pfx_len (hR p (List.mem_of_mem_take hp))))
  replace hS := Lib.hid hS
  replace hR := Lib.hid hR
  replace hT := Lib.hid hT
  have hN := bld_new w
  have hbw : Below w.heap.size w (w.alloc (.cells #[.pointer none, .slice none 0 0] 70)) := (Below.refl _ _).alloc (Nat.le_refl _) _
  go_enter Tryz.func17, Tryz.ntmps17
  go_upto_region 2 with fail
  generalize w.alloc (.cells #[.pointer none, .slice none 0 0] 70) = w1 at *
  obtain ⟨b, hb⟩ : ∃ b, b = w.heap.size := ⟨_, rfl⟩
  rw [← hb] at hN ⊢
  replace hN := Lib.hid hN
  replace hb := Lib.hid hb
  go_wp2_with fail
  go_loopw [11] (fun v11 wr => ∃ k : Nat, k ≤ n ∧ v11 = .int .i64 k ∧ Hid (Lib.IsBuilder 70 5 b b (Lib.byteCells (setTxt (ps.take k))) wr) ∧ Below w.heap.size w wr) (fun v11 _ => n - (intOf v11).toNat)
  case atStart => exact ⟨0, by omega, rfl, hN, hbw⟩
  case round =>
    clear hN hbw
    obtain ⟨k, hk, rfl, hI, hbw⟩ := hrel
    have hTl : (setTxt (ps.take k)).length ≤ 20500 := by
      have h1 := hlen.out k
      have h2 : (ps.take k).length ≤ k := by rw [List.length_take]; exact Nat.min_le_left _ _
      have h3 : (ps.take k).length * (204 + 1) ≤ 100 * 205 := Nat.mul_le_mul (by omega) (Nat.le_refl _)
      omega
    by_cases hlt : k < n
    · obtain ⟨p, hp⟩ : ∃ p, ps[k]? = some p := ⟨ps[k]'(by have := hl.out; omega), List.getElem?_eq_getElem _⟩
      obtain ⟨g0, off, rfl, _, _⟩ := hS.out.at' hlt
      have hld := SlE.ld rowPf (hS.out.below hbw) hp
      replace hld : (ldT 41 (.pointer (some ⟨g0, off + k * 4, none⟩))).run Tryz.prog wr = .ok (.value (pfA p)) wr := hld
      have hpR := hR.out p (List.mem_of_getElem? hp)
      have hlt' : (k : Int) < n := by omega
      have hnext := Lib.hid (show Lib.byteCells (setTxt (ps.take k)) ++ Lib.strCells ⟨(pfxP p ++ [10]).toArray⟩ = Lib.byteCells (setTxt (ps.take (k + 1))) by rw [setTxt_next hp, Lib.byteCells_append]; rfl)
      have hXl := pfx_len hpR
      have S1 := stT_new rowPf (te := 41) wr wr.heap.size rfl [.bool false, .int .u64 0, .int .u64 0, .int .i64 0] (pfC p) rfl rfl (pfC_one p)
      have hC := Blk.new wr (pfC p) 41
      have hbn := hbw.alloc hbw.size (.cells (pfC p).toArray 41)
      replace hI := Lib.hid (bld_below hI.out ((Below.refl _ _).alloc (Nat.le_refl _) (.cells (pfC p).toArray 41)))
      go_upto_region 5 with fail
      clear S1 hld hbw
      generalize wr.alloc (.cells (pfC p).toArray 41) = wa at *
      generalize wr.heap.size = gC at *
      have l1 := hC.ldAt rowPf 0 (pfC p) [] rfl rfl
      have HL := Lib.hid (setText1_any p wa (hT.out.below hbn) hpR)
      obtain ⟨Z, hZ⟩ : ∃ Z, Z = setTxt (ps.take k) := ⟨_, rfl⟩
      rw [← hZ] at hI hnext hTl
      generalize pfxP p = X at *
      replace hZ := Lib.hid hZ
      replace hXl := Lib.hid hXl
      replace hTl := Lib.hid hTl
      clear hpR
      go_wp2_with fail
      refine HL.out.mono ?_
      rintro e wb ⟨rfl, hv1⟩
      replace hI := Lib.hid (bld_below hI.out hv1)
      replace hbn := hbn.trans (hv1.mono hbn.size)
      clear hv1 HL hC l1
      have q1 := hXl.out
      have HW := Lib.hid (writeString_any b b (Lib.byteCells Z) ⟨(X ++ [10]).toArray⟩ wb hI.out (by rw [Lib.byteCells_length, Lib.size_eq]; have := hTl.out; simp; omega) (by have := bld_lt hI.out; omega))
      clear hI
      go_wp2_with fail
      refine HW.out.mono ?_
      rintro e wd ⟨⟨v, rfl⟩, hI, hv1⟩
      rw [hnext.out] at hI
      replace hI := Lib.hid hI
      replace hbn := hbn.trans (by rw [← hb.out]; exact hv1)
      clear hv1 HW
      go_wp2_with fail
      go_roundw
      case rel => exact ⟨k + 1, by omega, by go_num, hI, hbn⟩
      case measure => simp [intOf]; omega
    · have hkn : k = n := by omega
      have hfin := Lib.hid (show Lib.IsBuilder 70 5 b b (Lib.byteCells (setTxt ps)) wr by have h := hI.out; rw [hkn, hl.out, List.take_length] at h; exact h)
      have hnlt : ¬ (k : Int) < n := by omega
      have hTn : (setTxt ps).length ≤ 20500 := by rw [hkn, hl.out, List.take_length] at hTl; exact hTl
      have HN := Lib.hid (Tryz.Builder_Len b b _ wr hfin.out)
      have HG := Lib.hid (Tryz.Builder_String_any b b _ wr hfin.out (by have := bld_lt hfin.out; omega))
      have hle : (Lib.byteCells (setTxt ps)).length = (setTxt ps).length := Lib.byteCells_length _
      rw [hle] at HN
      obtain ⟨L, hL⟩ : ∃ L, L = (setTxt ps).length := ⟨_, rfl⟩
      rw [← hL] at HN hTn
      have hL2 : ¬ (200000 : Int) < (L : Int) := by omega
      clear hI hTl hle hL
      go_wp2_with fail
      refine HN.out.mono ?_
      rintro e wb ⟨rfl, hwb⟩
      subst hwb
      clear HN
      go_wp2_with fail
      refine HG.out.mono ?_
      rintro e wd ⟨rfl, hv1⟩
      replace hbw := hbw.trans (by rw [← hb.out]; exact hv1)
      clear hv1 HG
      go_wp2_with fail
      go_ret2
      exact ⟨rfl, hbw⟩

set_option maxHeartbeats 2000000 in
theorem setText_any (E : Int) (T : List UInt8) (A : Option Addr) (n cap : Nat) (ps : List Pf) (w : World) (hT : Tabs w) (hS : SlE ePf w A n cap ps) (hn : n ≤ 100) (hU : ∀ p ∈ ps, p.U) (hE : setF ps = E) (h1 : E = 0 → T = setTxt ps) (h2 : E ≠ 0 → T = []) :
    Calls Tryz.prog 5 #[.slice A n cap] w (GivesV (.tuple #[.string ⟨T.toArray⟩, .int .i64 E]) w) := by
  have HC := Lib.hid (checkSet_any A n cap ps w hS (by omega) hU)
  rw [hE] at HC
  by_cases h0 : E = 0
  · have HL := Lib.hid (fun W (hW : Below w.heap.size w W) => linesPf_any A n cap ps W (hT.below hW) (hS.below hW) hn (setF_okX hU (hE.trans h0)))
    rw [← h1 h0] at HL
    have b0 : (E == 0) = true := by simp [h0]
    replace h0 := Lib.hid h0
    clear hS hT hU hE h1 h2
    go_enter Tryz.func5, Tryz.ntmps5
    go_wp2_with fail
    refine HC.out.mono ?_
    rintro e w1 ⟨rfl, hv1⟩
    clear HC
    go_wp2_with fail
    refine (HL.out _ hv1).mono ?_
    rintro e w2 ⟨rfl, hv2⟩
    replace hv1 := hv1.trans (hv2.mono hv1.size)
    clear HL hv2
    go_wp2_with fail
    go_ret2
    exact ⟨by rw [h0.out]; rfl, hv1⟩
  · have hT0 := h2 h0
    subst hT0
    have b0 : (E == 0) = false := by simp [h0]
    clear hS hT hU hE h1 h2 h0
    go_enter Tryz.func5, Tryz.ntmps5
    go_wp2_with fail
    refine HC.out.mono ?_
    rintro e w1 ⟨rfl, hv1⟩
    clear HC
    go_wp2_with fail
    go_ret2
    exact ⟨rfl, hv1⟩
end Go.Proofs.YtkldcmmlllkhkaaGreatDoor
