/- SetTexts: the law. -/
import Derived.Test.YtkldcmmlllkhkaaGreatDoorKqSxE
import Derived.Test.YtkldcmmlllkhkaaGreatDoorKqStX
import Derived.Test.YtkldcmmlllkhkaaGreatDoorKqStZ
import Derived.Test.YtkldcmmlllkhkaaGreatDoorKqPtD
import Derived.Test.YtkldcmmlllkhkaaGreatDoorKqAddressed
set_option linter.unusedVariables false
set_option linter.unusedSimpArgs false
set_option maxRecDepth 100000
namespace Go.Proofs.YtkldcmmlllkhkaaGreatDoor
open Go.RowKit

noncomputable def rsF (l : List UInt8) : List Pf × Nat × Int :=
  match rdL (l.length + 1) l 0 [] with
  | (some ps, _) => if setF ps = 0 then (ps, 0, 0) else ([], 0, setF ps)
  | (none, j) => ([], j, 9)
theorem rsF_good {l : List UInt8} {ps : List Pf} {j : Nat} (h : rdL (l.length + 1) l 0 [] = (some ps, j)) (h0 : setF ps = 0) : rsF l = (ps, 0, 0) := by unfold rsF; rw [h]; exact if_pos h0
theorem rsF_set {l : List UInt8} {ps : List Pf} {j : Nat} (h : rdL (l.length + 1) l 0 [] = (some ps, j)) (h0 : setF ps ≠ 0) : rsF l = ([], 0, setF ps) := by unfold rsF; rw [h]; exact if_neg h0
theorem rsF_line {l : List UInt8} {j : Nat} (h : rdL (l.length + 1) l 0 [] = (none, j)) : rsF l = ([], j, 9) := by unfold rsF; rw [h]
theorem rsF_len (l : List UInt8) (hl : l.length ≤ 2000) : (rsF l).1.length ≤ 1000 := by
  unfold rsF
  split
  · rename_i ps j h
    have h1 := (rdL_R _ _ _ _ _ _ (fun p hp => by cases hp) h).2.1
    simp only [List.length_nil] at h1
    split
    · show ps.length ≤ 1000; omega
    · exact Nat.zero_le _
  · exact Nat.zero_le _
def RsQ (r : List Pf × Nat × Int) (w : World) (e : Ending) (w' : World) : Prop := ∃ A n cap, e = .returned (.tuple #[.slice A n cap, .int .i64 r.2.1, .int .i64 r.2.2]) ∧ SlE ePf w' A n cap r.1 ∧ Below w.heap.size w w'

set_option maxHeartbeats 4000000 in
theorem readParts_any (l : List UInt8) (w : World) (hC : Cons w) (hl : l.length ≤ 2000) :
    Calls Tryz.prog 28 #[.string ⟨l.toArray⟩, .func (.func 26) #[] #[], .func (.func 16) #[] #[]] w (RsQ (rsF l) w) := by
  obtain ⟨h1, h2⟩ := two_new w [.func (.func 26) #[] #[]] [.slice none 0 0] 56 26
  have hbw := below_two w (.cells [Value.func (.func 26) #[] #[]].toArray 56) (.cells [Value.slice none 0 0].toArray 26)
  have hsz : ((w.alloc (.cells [Value.func (.func 26) #[] #[]].toArray 56)).alloc (.cells [Value.slice none 0 0].toArray 26)).heap.size = w.heap.size + 1 + 1 := by simp
  go_enter Tryz.func28, Tryz.ntmps28
  go_upto_region 2 with fail
  generalize (w.alloc (.cells [Value.func (.func 26) #[] #[]].toArray 56)).alloc (.cells [Value.slice none 0 0].toArray 26) = W at *
  obtain ⟨c, hc⟩ : ∃ c, c = w.heap.size := ⟨_, rfl⟩
  obtain ⟨q, hq⟩ : ∃ q, q = w.heap.size + 1 := ⟨_, rfl⟩
  rw [← hq] at h2 hsz ⊢
  rw [← hc] at h1 hbw ⊢
  have hS0 : RdS (q + 1) q [] W := ⟨⟨_, h2, OwnE.nil _ _⟩, Nat.lt_succ_self q⟩
  have HC := fun W' (h : Below c W W') => hC.below (w' := W') (by rw [← hc]; exact hbw.trans h)
  obtain ⟨R, hR⟩ : ∃ R, R = rdL (l.length + 1) l 0 [] := ⟨_, rfl⟩
  have HL := Lib.hid (readLines_any (q + 1) q c l W HC hl hS0 (by omega) (by omega) c h1 (by omega) (by omega))
  have hlen := Lib.hid (fun ps j (h : rdL (l.length + 1) l 0 [] = (some ps, j)) => (⟨(rdL_R _ _ _ _ _ _ (fun p hp => by cases hp) h).1, by have h2 := (rdL_R _ _ _ _ _ _ (fun p hp => by cases hp) h).2.1; simp at h2; omega⟩ : (∀ p ∈ ps, p.R) ∧ ps.length ≤ 1000))
  have e1 := Lib.hid (fun ps j => rsF_good (l := l) (ps := ps) (j := j))
  have e2 := Lib.hid (fun ps j => rsF_set (l := l) (ps := ps) (j := j))
  have e3 := Lib.hid (fun j => rsF_line (l := l) (j := j))
  rw [← hR] at HL hlen e1 e2 e3
  generalize rsF l = r at *
  replace hq := Lib.hid hq
  replace hc := Lib.hid hc
  clear hR h1 h2 hS0 HC hC hl hsz
  go_wp2_with fail
  refine HL.out.mono ?_
  rintro e w1 ⟨j, E, rfl, hcase, hv1⟩
  have hb1 := Lib.hid (show Below w.heap.size w w1 by rw [← hc.out]; exact hbw.trans hv1)
  clear HL hv1 hbw
  rcases hcase with ⟨ps, hr, rfl, rfl, ⟨⟨v, hq1, hown⟩, hlt⟩⟩ | ⟨hr, rfl⟩
  · obtain ⟨hpR, hpl⟩ := hlen.out _ _ hr
    obtain ⟨A, cap, rfl, hS⟩ := hown.sl
    obtain ⟨n, hn⟩ : ∃ n, n = ps.length := ⟨_, rfl⟩
    rw [← hn] at hq1 hS
    have c1 := hq1.cell (i := 0) (v := .slice A n cap) rfl
    have HK := Lib.hid (checkSet_any A n cap ps w1 hS (by omega) (fun p hp => (hpR p hp).u))
    obtain ⟨F, hF⟩ : ∃ F, F = setF ps := ⟨_, rfl⟩
    rw [← hF] at HK
    have f1 := Lib.hid (fun h : F = 0 => e1.out ps _ hr (hF.symm.trans h))
    have f2 := Lib.hid (fun h : F ≠ 0 => e2.out ps _ hr (fun g => h (hF.trans g)))
    rw [← hF] at f2
    replace hS := Lib.hid hS
    clear hF hown hpR hlen e1 e2 e3 hr hn
    go_wp2_with fail
    refine HK.out.mono ?_
    rintro e w2 ⟨rfl, hv1⟩
    replace hb1 := Lib.hid (hb1.out.trans (hv1.mono hb1.out.size))
    replace hq1 := hq1.below hv1
    replace hS := Lib.hid (hS.out.below hv1)
    have c1 := hq1.cell (i := 0) (v := .slice A n cap) rfl
    clear hv1 HK
    by_cases h0 : F = 0
    · have b0 : (F == 0) = true := by simp [h0]
      have hr := f1.out h0
      subst hr
      clear f1 f2 h0
      go_wp2_with fail
      go_ret3
      exact ⟨A, n, cap, rfl, hS.out, hb1.out⟩
    · have b0 : (F == 0) = false := by simp [h0]
      have hr := f2.out h0
      subst hr
      clear f1 f2 h0
      go_wp2_with fail
      go_ret3
      exact ⟨none, 0, 0, rfl, SlE.nil _, hb1.out⟩
  · have hr' := e3.out j hr
    subst hr'
    clear e1 e2 e3 hlen hr
    go_wp2_with fail
    go_ret3
    exact ⟨none, 0, 0, rfl, SlE.nil _, hb1.out⟩

set_option maxHeartbeats 2000000 in
theorem readSet_any (l : List UInt8) (w : World) (hC : Cons w) (hl : l.length ≤ 2000) :
    Calls Tryz.prog 9 #[.string ⟨l.toArray⟩] w (RsQ (rsF l) w) := by
  have HP := Lib.hid (readParts_any l w hC hl)
  generalize rsF l = r at *
  clear hC hl
  go_enter Tryz.func9, Tryz.ntmps9
  go_wp2_with fail
  refine HP.out.mono ?_
  rintro e w1 ⟨A, n, cap, rfl, hS, hb⟩
  clear HP
  replace hS := Lib.hid hS
  go_wp2_with fail
  go_ret3
  exact ⟨A, n, cap, rfl, hS.out, hb⟩

set_option maxHeartbeats 4000000 in
theorem setRead_any (l : List UInt8) (w : World) (hC : Cons w) (hl : l.length ≤ 2000) :
    Calls Tryz.prog 10 #[.string ⟨l.toArray⟩] w (RsQ (rsF l) w) := by
  have h2 := Blk.new w [.slice none 0 0] 26
  have hbw : Below w.heap.size w (w.alloc (.cells [Value.slice none 0 0].toArray 26)) := (Below.refl _ _).alloc (Nat.le_refl _) _
  have hsz : (w.alloc (.cells [Value.slice none 0 0].toArray 26)).heap.size = w.heap.size + 1 := by simp
  have hl2 : ¬ (200000 : Int) < (l.length : Int) := by omega
  go_enter Tryz.func10, Tryz.ntmps10
  go_upto_region 4 with fail
  generalize w.alloc (.cells [Value.slice none 0 0].toArray 26) = W at *
  obtain ⟨q, hq⟩ : ∃ q, q = w.heap.size := ⟨_, rfl⟩
  rw [← hq] at h2 hsz hbw ⊢
  have hS0 : RdS (q + 1) q [] W := ⟨⟨_, h2, OwnE.nil _ _⟩, Nat.lt_succ_self q⟩
  have HC := fun W' (h : Below q W W') => hC.below (w' := W') (by rw [← hq]; exact hbw.trans h)
  obtain ⟨R, hR⟩ : ∃ R, R = rdL (l.length + 1) l 0 [] := ⟨_, rfl⟩
  have HL := Lib.hid (refLines_any (q + 1) q q l W HC hl hS0 (Nat.le_refl _) (by omega))
  have hlen := Lib.hid (fun ps j (h : rdL (l.length + 1) l 0 [] = (some ps, j)) => (⟨(rdL_R _ _ _ _ _ _ (fun p hp => by cases hp) h).1, by have h2 := (rdL_R _ _ _ _ _ _ (fun p hp => by cases hp) h).2.1; simp at h2; omega⟩ : (∀ p ∈ ps, p.R) ∧ ps.length ≤ 1000))
  have e1 := Lib.hid (fun ps j => rsF_good (l := l) (ps := ps) (j := j))
  have e2 := Lib.hid (fun ps j => rsF_set (l := l) (ps := ps) (j := j))
  have e3 := Lib.hid (fun j => rsF_line (l := l) (j := j))
  rw [← hR] at HL hlen e1 e2 e3
  generalize rsF l = r at *
  replace hq := Lib.hid hq
  clear hR h2 hS0 HC hC hl hsz hl2
  go_wp2_with fail
  refine HL.out.mono ?_
  rintro e w1 ⟨j, ok, rfl, hcase, hv1⟩
  have hb1 := Lib.hid (show Below w.heap.size w w1 by rw [← hq.out]; exact hbw.trans hv1)
  clear HL hv1 hbw
  rcases hcase with ⟨ps, hr, rfl, rfl, ⟨⟨v, hq1, hown⟩, hlt⟩⟩ | ⟨hr, rfl⟩
  · obtain ⟨hpR, hpl⟩ := hlen.out _ _ hr
    obtain ⟨A, cap, rfl, hS⟩ := hown.sl
    obtain ⟨n, hn⟩ : ∃ n, n = ps.length := ⟨_, rfl⟩
    rw [← hn] at hq1 hS
    have c1 := hq1.cell (i := 0) (v := .slice A n cap) rfl
    have HK := Lib.hid (setFault_any A n cap ps w1 hS (by omega) (fun p hp => (hpR p hp).u))
    obtain ⟨F, hF⟩ : ∃ F, F = setF ps := ⟨_, rfl⟩
    rw [← hF] at HK
    have f1 := Lib.hid (fun h : F = 0 => e1.out ps _ hr (hF.symm.trans h))
    have f2 := Lib.hid (fun h : F ≠ 0 => e2.out ps _ hr (fun g => h (hF.trans g)))
    rw [← hF] at f2
    replace hS := Lib.hid hS
    clear hF hown hpR hlen e1 e2 e3 hr hn
    go_wp2_with fail
    refine HK.out.mono ?_
    rintro e w2 ⟨rfl, hv1⟩
    replace hb1 := Lib.hid (hb1.out.trans (hv1.mono hb1.out.size))
    replace hq1 := hq1.below hv1
    replace hS := Lib.hid (hS.out.below hv1)
    have c1 := hq1.cell (i := 0) (v := .slice A n cap) rfl
    clear hv1 HK
    by_cases h0 : F = 0
    · have b0 : (F == 0) = true := by simp [h0]
      have hr := f1.out h0
      subst hr
      clear f1 f2 h0
      go_wp2_with fail
      go_ret3
      exact ⟨A, n, cap, rfl, hS.out, hb1.out⟩
    · have b0 : (F == 0) = false := by simp [h0]
      have hr := f2.out h0
      subst hr
      clear f1 f2 h0
      go_wp2_with fail
      go_ret3
      exact ⟨none, 0, 0, rfl, SlE.nil _, hb1.out⟩
  · have hr' := e3.out j hr
    subst hr'
    clear e1 e2 e3 hlen hr
    go_wp2_with fail
    go_ret3
    exact ⟨none, 0, 0, rfl, SlE.nil _, hb1.out⟩

set_option maxHeartbeats 2000000 in
theorem changed5_any (l : List UInt8) (w : World) (b R : Nat) (hs : Str w b (R + 3)) (hl : l.length ≤ 100000) :
    Calls Tryz.prog 25 #[.pointer (some ⟨b, 0, none⟩), .string ⟨l.toArray⟩, .string ⟨#[48, 49, 50, 51, 52, 53, 54, 55, 56, 57, 58, 46, 47, 10]⟩] w (StPost (l.length + 16) b R w) := by
  by_cases h0 : l = []
  · subst h0
    go_enter Tryz.func25, Tryz.ntmps25
    go_wp2_with fail
    go_ret
    exact ⟨[48, 49, 50, 51, 52, 53, 54, 55, 56, 57, 58, 46, 47, 10], by decide, rfl, hs.le (by omega), gb_refl _ _⟩
  · have hne : l.isEmpty = false := by simpa using h0
    have hpos : 0 < l.length := List.length_pos_iff.2 h0
    obtain ⟨S, hS⟩ : ∃ S : ByteArray, S = ⟨l.toArray⟩ := ⟨_, rfl⟩
    have hsz : S.size = l.length := by rw [hS]; rfl
    go_enter Tryz.func25, Tryz.ntmps25
    go_wp2_with fail
    refine (next_any _ _ _ (R + 2) (by omega) (by omega) hs).mono ?_
    rintro e w1 ⟨r, ⟨hr1, hr2⟩, rfl, hs1, hg1⟩
    go_wp2_with fail
    refine (next_any _ _ _ (R + 1) (by omega) (by omega) hs1).mono ?_
    rintro e w2 ⟨q, ⟨hq1, hq2⟩, rfl, hs2, hg2⟩
    replace hg2 := gb_trans hg1 hg2
    obtain ⟨c, hc1, hc2, hcx⟩ : ∃ c : Int, 0 ≤ c ∧ c < 256 ∧ ∀ W, (Instr.index 9 (.string ⟨#[48, 49, 50, 51, 52, 53, 54, 55, 56, 57, 58, 46, 47, 10]⟩) (.int .i64 q)).run Tryz.prog W = .ok (.int .u8 c) W :=
      ⟨(((⟨#[48, 49, 50, 51, 52, 53, 54, 55, 56, 57, 58, 46, 47, 10]⟩ : ByteArray)[q.toNat]'(by show q.toNat < 14; omega)).toNat : Int), by omega, by have := UInt8.toNat_lt ((⟨#[48, 49, 50, 51, 52, 53, 54, 55, 56, 57, 58, 46, 47, 10]⟩ : ByteArray)[q.toNat]'(by show q.toNat < 14; omega)); omega, fun W => by
        rw [run_index_string W _ _ _ _ Tryz.underlying9, dif_pos ⟨hq1, hq2⟩]⟩
    have hcv : ∀ W, (convert 5 21 (.int .u8 c)).run Tryz.prog W = .ok (.int .i32 c) W := fun W => by
      have : IntKind.i32.wrap c = c := by rw [IntKind.wrap_i32]; omega
      go_simp
    have hcs : ∀ W, (convert 21 9 (.int .i32 c)).run Tryz.prog W = .ok (.string (Utf8.encode c)) W := fun W => run_convert_int_string W _ _ _ _ (by kernel_rfl) Tryz.underlying9
    have hen := enc_size c
    generalize Utf8.encode c = E at hcs hen
    go_wp2_with fail
    refine (next_any _ _ _ R (by omega) (by omega) hs2).mono ?_
    rintro e w3 ⟨k, ⟨hk1, hk2⟩, rfl, hs3, hg3⟩
    replace hg3 := gb_trans hg2 hg3
    clear hs hs1 hs2 hg1 hg2 hcx
    rcases (show k = 0 ∨ k = 1 ∨ k = 2 by omega) with rfl | rfl | rfl
    all_goals
      go_wp2_with fail
      go_quiet (fail)
      go_wp2_with fail
      go_ret
      refine ⟨_, ?_, congrArg Ending.returned (congrArg Value.string (ba_back _).symm), hs3.drewN, gb_drewN hg3⟩
      simp
      omega

set_option maxHeartbeats 2000000 in
theorem setString_any (w : World) (b R : Nat) (hs : Str w b (R + 40)) (hT : Tabs w) (hb : 8 ≤ b) :
    Calls Tryz.prog 8 #[.pointer (some ⟨b, 0, none⟩)] w (StPost 1100 b R w) := by
  have hbw := hs.lt
  go_enter Tryz.func8, Tryz.ntmps8
  go_wp2_with fail
  refine (rightSet_any w b (R + 14) (hs.le (by omega))).mono ?_
  rintro e w1 ⟨ps, v1, ⟨hp1, hp2⟩, rfl, ho1, hs1, hg1⟩
  obtain ⟨A, cap, rfl, hS⟩ := ho1.sl
  have hT1 := hT.grown hg1 hb
  have HX := Lib.hid (setLines_any A _ cap ps w1 hT1 hS (by omega) hp2)
  have hlen : (setTxt ps).length ≤ 1030 := by
    have h1 := setTxt_len (m := 204) ps (fun p hp => pfx_len (hp2 p hp))
    have h2 : ps.length * (204 + 1) ≤ 5 * 205 := Nat.mul_le_mul hp1 (Nat.le_refl _)
    omega
  obtain ⟨n0, hn0⟩ : ∃ n0, n0 = ps.length := ⟨_, rfl⟩
  rw [← hn0] at HX ⊢
  clear hs hT ho1 hS hT1 hp1 hp2 hn0
  generalize setTxt ps = l at HX hlen
  go_wp2_with fail
  refine HX.out.mono ?_
  rintro e w3 ⟨rfl, hb3⟩
  replace hs1 := hs1.below hb3
  replace hg1 := gb_below hg1 hb3
  clear HX hb3
  go_wp2_with fail
  refine (pick_lit w3 b (R + 6) [0, 0, 1, 2] _ _ (hs1.le (by omega)) (by simp) (by simp) (fun r => 0 ≤ r ∧ r ≤ 2) (by simp)).mono ?_
  rintro e w4 ⟨n, ⟨n1, n2⟩, rfl, hs4, hg4⟩
  replace hg4 := gb_trans (gb_alloc hg1 _) hg4
  clear hs1 hg1
  rcases (show n = 0 ∨ n = 1 ∨ n = 2 by omega) with rfl | rfl | rfl
  · go_wp2_with fail
    refine wp_loop_rounds 1 ?_
    rw [rounds_succ]
    go_wp2_with fail
    go_ret
    exact ⟨l, by omega, rfl, hs4.le (by omega), hg4⟩
  · go_wp2_with fail
    refine wp_loop_rounds 2 ?_
    rw [rounds_succ]
    go_wp2_with fail
    refine (changed5_any l _ b R (hs4.le (by omega)) (by omega)).mono ?_
    rintro e w5 ⟨l', hl', rfl, hs5, hg5⟩
    replace hg5 := gb_trans hg4 hg5
    clear hs4 hg4
    go_wp2_with fail
    rw [rounds_succ]
    go_wp2_with fail
    go_ret
    exact ⟨l', by omega, rfl, hs5, hg5⟩
  · go_wp2_with fail
    refine wp_loop_rounds 3 ?_
    rw [rounds_succ]
    go_wp2_with fail
    refine (changed5_any l _ b (R + 3) hs4 (by omega)).mono ?_
    rintro e w5 ⟨l', hl', rfl, hs5, hg5⟩
    replace hg5 := gb_trans hg4 hg5
    clear hs4 hg4
    go_wp2_with fail
    rw [rounds_succ]
    go_wp2_with fail
    refine (changed5_any l' _ b R hs5 (by omega)).mono ?_
    rintro e w6 ⟨l'', hl'', rfl, hs6, hg6⟩
    replace hg6 := gb_trans hg5 hg6
    clear hs5 hg5
    go_wp2_with fail
    rw [rounds_succ]
    go_wp2_with fail
    go_ret
    exact ⟨l'', by omega, rfl, hs6, hg6⟩

set_option maxHeartbeats 4000000 in
theorem setTexts_walk (a : Option Addr) (len cap : Nat) (w : World) (hC : Cons w) (hs : Str (w.alloc (.cells #[.slice a len cap, .int .i64 0] 25)) w.heap.size 1000) :
    Calls Tryz.prog 3 #[.slice a len cap] w fun e w' => e = .returned (.bool true) ∧ Below w.heap.size w w' := by
  have hB0 : Below w.heap.size w (w.alloc (.cells #[.slice a len cap, .int .i64 0] 25)) := (Below.refl _ _).alloc (Nat.le_refl _) _
  have hT0 := hC.tabs.below hB0
  have hng := hC.tabs.2.2
  go_enter Tryz.func3, Tryz.ntmps3
  go_wp2_with fail
  refine (set_any _ _ 900 (hs.le (by omega))).mono ?_
  rintro e w1 ⟨ps, v1, ⟨hp1, hp2⟩, rfl, ho1, hs1, hg1⟩
  have hT1 := hT0.grown hg1 hng
  have hb : Below w.heap.size w w1 := hB0.trans (gb_toBelow hg1 (Nat.le_refl _) (by simp))
  obtain ⟨A, cp, rfl, hS⟩ := ho1.sl
  obtain ⟨n, hn⟩ : ∃ n, n = ps.length := ⟨_, rfl⟩
  rw [← hn] at hS ⊢
  have hn6 : n ≤ 6 := by omega
  obtain ⟨E, hE⟩ : ∃ E, E = setF ps := ⟨_, rfl⟩
  obtain ⟨T, hT⟩ : ∃ T : List UInt8, T = if E = 0 then setTxt ps else [] := ⟨_, rfl⟩
  have ht1 : E = 0 → T = setTxt ps := fun h => by rw [hT, if_pos h]
  have ht2 : E ≠ 0 → T = [] := fun h => by rw [hT, if_neg h]
  have HX := Lib.hid (setText_any E T A n cp ps w1 hT1 hS (by omega) hp2 hE.symm ht1 ht2)
  have HF := Lib.hid (fun W (hW : Below w1.heap.size w1 W) => (show Calls Tryz.prog 6 #[.slice A n cp] W (GivesV (.int .i64 E) W) by rw [hE]; exact setFault_any A n cp ps W (hS.below hW) (by omega) hp2))
  have HL := Lib.hid (fun (h0 : E = 0) W (hW : Below w1.heap.size w1 W) => (show Calls Tryz.prog 7 #[.slice A n cp] W (GivesV (.string ⟨T.toArray⟩) W) by rw [ht1 h0]; exact setLines_any A n cp ps W (hT1.below hW) (hS.below hW) (by omega) (setF_okX hp2 (hE.symm.trans h0))))
  have ht3 := Lib.hid ht2
  replace hs1 := hs1
  have hs1b := hs1.lt
  clear hs hB0 hT0 hg1 ho1 hS hn hE hT ht1 ht2 hp1 hp2
  have hbw := Below.refl w1.heap.size w1
  go_wp2_with fail
  refine HX.out.mono ?_
  rintro e w2 ⟨rfl, hv1⟩
  replace hbw := hbw.trans hv1
  clear hv1 HX
  go_wp2_with fail
  refine (HF.out _ hbw).mono ?_
  rintro e w3 ⟨rfl, hv1⟩
  replace hbw := hbw.trans (hv1.mono hbw.size)
  clear hv1 HF
  obtain ⟨b, hbb⟩ : ∃ b, b = w.heap.size := ⟨_, rfl⟩
  rw [← hbb] at hs1 hng hs1b ⊢
  replace hbb := Lib.hid hbb
  go_upto_region 5 with fail
  go_cut [46] (fun v46 wx => v46 = .bool false ∧ Below w1.heap.size w1 wx)
  case first =>
    by_cases h0 : E = 0
    · have HL1 := Lib.hid (HL.out h0)
      clear HL ht3
      subst h0
      go_wp2_with fail
      refine (HL1.out _ hbw).mono ?_
      rintro e w4 ⟨rfl, hv1⟩
      replace hbw := hbw.trans (hv1.mono hbw.size)
      have q1 : (T == T) = true := by simp
      clear hv1 HL1
      go_wp2_with fail
      go_meet
      exact ⟨rfl, hbw⟩
    · have b0 : (E == 0) = false := by simp [h0]
      have hT := ht3.out h0
      subst hT
      replace h0 := Lib.hid h0
      clear HL
      go_wp2_with fail
      go_meet
      exact ⟨rfl, hbw⟩
  case rest =>
  clear hbw
  obtain ⟨rfl, hbw⟩ := hcut
  obtain ⟨w5, hw5⟩ : ∃ x, x = wc := ⟨_, rfl⟩
  subst hw5
  replace hs1 := hs1.below hbw
  replace hT1 := hT1.below hbw
  replace hb := hb.trans (hbw.mono hb.size)
  clear HL ht3 hbw
  go_wp2_with fail
  refine (setString_any w5 b 800 (hs1.le (by omega)) hT1 hng).mono ?_
  rintro e w6 ⟨l, hl, rfl, hs6, hg6⟩
  replace hb := Lib.hid (hb.trans (gb_toBelow hg6 (Nat.le_of_eq hbb.out.symm) (by have := hs1.lt; omega)))
  clear hs1 hs6 hg6 hT1 hs1b
  have HA := Lib.hid (readSet_any l w6 (hC.below hb.out) (by omega))
  have HB := Lib.hid (fun W (hW : Below w6.heap.size w6 W) => setRead_any l W (hC.below (hb.out.trans (hW.mono hb.out.size))) (by omega))
  have hlr := Lib.hid (rsF_len l (by omega))
  clear hC hl hng hbb
  generalize rsF l = r at *
  obtain ⟨rp, rj, rE⟩ := r
  go_wp2_with fail
  refine HA.out.mono ?_
  rintro e w7 ⟨A1, n1, c1, rfl, hS1, hv1⟩
  have HB1 := Lib.hid (HB.out w7 hv1)
  replace hS1 := Lib.hid hS1
  replace hb := Lib.hid (hb.out.trans (hv1.mono hb.out.size))
  clear hv1 HA HB
  go_wp2_with fail
  refine HB1.out.mono ?_
  rintro e w8 ⟨A2, n2, c2, rfl, hS2, hv1⟩
  replace hS1 := hS1.out.below hv1
  replace hb := Lib.hid (hb.out.trans (hv1.mono hb.out.size))
  have hm0 : rp.length ≤ 1000 := hlr.out
  have hm1 : n1 ≤ 1000000 := by have h1 : n1 = rp.length := hS1.1; omega
  have hm2 : n2 ≤ 1000000 := by have h1 : n2 = rp.length := hS2.1; omega
  have HE := Lib.hid (equalPf_any A1 A2 n1 n2 c1 c2 _ _ _ hS1 hS2 hm1 hm2)
  have q1 : (rE == rE) = true := by simp
  have q2 : (rj == rj) = true := by simp
  clear hv1 HB1 hS1 hS2 hm0 hm1 hm2 hlr
  go_wp2_with fail
  refine HE.out.mono ?_
  rintro e w9 ⟨t, rfl, ht, hv1⟩
  obtain rfl : t = true := ht.2 (by trivial)
  replace hb := Lib.hid (hb.out.trans (hv1.mono hb.out.size))
  clear hv1 ht HE
  go_wp2_with fail
  refine (addressed_any _).mono ?_
  rintro e wa ⟨rfl, hv1⟩
  replace hb := Lib.hid (hb.out.trans (hv1.mono hb.out.size))
  clear hv1
  go_wp2_with fail
  go_ret
  exact ⟨rfl, hb.out⟩
end Go.Proofs.YtkldcmmlllkhkaaGreatDoor
