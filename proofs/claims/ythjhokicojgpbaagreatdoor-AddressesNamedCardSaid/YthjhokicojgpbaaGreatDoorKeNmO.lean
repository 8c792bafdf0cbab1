/- The address that a name seems to be of. -/
import Derived.Test.YthjhokicojgpbaaGreatDoorKeNmN
import Derived.Test.YthjhokicojgpbaaGreatDoorKeNmJ
namespace Go.Proofs.YthjhokicojgpbaaGreatDoor
open Go.RowKit
set_option linter.unusedVariables false
set_option linter.unusedSimpArgs false

theorem SlE.dropS {w : World} {g off n cap h : Nat} {ls : List (List UInt8)} (hS : SlE eStr w (some ⟨g, off, none⟩) n cap ls) (hh : h ≤ n) : SlE eStr w (some ⟨g, off + h, none⟩) (n - h) (cap - h) (ls.drop h) := by
  obtain ⟨h1, h2, h3, h4⟩ := hS
  refine ⟨by rw [List.length_drop, h1], by omega, (fun e => by cases e), ?_⟩
  rcases h4 with h4 | ⟨g', off', e, hg, hc⟩
  · exact .inl (by omega)
  · cases e
    refine .inr ⟨g, off + h, rfl, hg, fun j x hx i v hv => ?_⟩
    rw [List.getElem?_drop] at hx
    have := hc (h + j) x hx i v hv
    rw [show eStr.k = 1 from rfl] at this ⊢
    rw [show off + h + j * 1 + i = off + (h + j) * 1 + i by omega]
    exact this
theorem SlE.takeS {w : World} {g off n cap h : Nat} {ls : List (List UInt8)} (hS : SlE eStr w (some ⟨g, off, none⟩) n cap ls) (hh : h ≤ n) : SlE eStr w (some ⟨g, off, none⟩) h cap (ls.take h) := by
  obtain ⟨h1, h2, h3, h4⟩ := hS
  refine ⟨by rw [List.length_take]; omega, by omega, (fun e => by cases e), ?_⟩
  rcases h4 with h4 | ⟨g', off', e, hg, hc⟩
  · exact .inl (by omega)
  · cases e
    refine .inr ⟨g, off, rfl, hg, fun j x hx i v hv => ?_⟩
    rw [List.getElem?_take] at hx
    split at hx
    · exact hc j x hx i v hv
    · cases hx
theorem SlE.dropA {w : World} {g off n cap h : Nat} {ls : List (List UInt8)} (hS : SlE eStr w (some ⟨g, off, none⟩) n cap ls) (hh : h ≤ n) : SlE eStr w (if cap = h then some ⟨g, off, none⟩ else some ⟨g, off + h, none⟩) (n - h) (cap - h) (ls.drop h) := by
  split
  · refine ⟨by rw [List.length_drop, hS.1], by have := hS.2.1; omega, (fun e => by cases e), .inl (by have := hS.2.1; omega)⟩
  · exact hS.dropS hh
theorem cut_end (X p : List UInt8) : Lib.trimSuffix (X ++ p) p = X := by
  unfold Lib.trimSuffix Lib.hasSuffix
  rw [if_pos (List.isSuffixOf_iff_suffix.2 (List.suffix_append X p)), List.length_append, Nat.add_sub_cancel]
  exact List.take_left' rfl
theorem has_end (X p : List UInt8) : Lib.hasSuffix (X ++ p) p = true := List.isSuffixOf_iff_suffix.2 (List.suffix_append X p)
theorem trim_len (X p : List UInt8) : (Lib.trimSuffix X p).length ≤ X.length := by
  unfold Lib.trimSuffix
  split
  · rw [List.length_take]; omega
  · exact Nat.le_refl _
/-- strings.Split: a slice that holds a string at least. -/
theorem splitE_any (l : List UInt8) (w : World) (hC : Cons w) (hl : l.length ≤ 100000) :
    Calls Tryz.prog 57 #[.string ⟨l.toArray⟩, .string ⟨#[46]⟩] w fun e w' => ∃ g off n cap, e = .returned (.slice (some ⟨g, off, none⟩) n cap) ∧ SlE eStr w' (some ⟨g, off, none⟩) n cap (pieces l 46) ∧ 1 ≤ n ∧ n ≤ l.length + 1 ∧ Below w.heap.size w w' := by
  refine (split_any l 46 w hC hl).mono ?_
  rintro e w' ⟨A, cap, rfl, hS, hb⟩
  rw [parts_pieces] at hS ⊢
  have hn : 1 ≤ (pieces l 46).length := by
    unfold pieces
    cases l.count 46 with
    | zero => exact Nat.le_refl _
    | succ k =>
      unfold Lib.splitK
      split
      · exact Nat.le_refl _
      · rw [List.length_cons]; omega
  obtain ⟨h1, h2, h3⟩ := hS
  rcases h3 with h3 | ⟨g, off, rfl, hg, hc⟩
  · omega
  · refine ⟨g, off, _, cap, rfl, ⟨rfl, h2, (fun e => by cases e), .inr ⟨g, off, rfl, hg, fun j x hx i v hv => ?_⟩⟩, hn, pieces_len l 46, hb⟩
    have hi : i = 0 := by
      have := (List.getElem?_eq_some_iff.1 hv).1
      have e : (eStr.enc x).length = 1 := rfl
      omega
    subst hi
    have hv' : sv x = v := Option.some.inj hv
    rw [show eStr.k = 1 from rfl, Nat.mul_one, Nat.add_zero, ← hv']
    exact hc j _ (by rw [List.getElem?_map, hx]; rfl)
/-- What is guessed: some address, that of the name if it is the name of one. -/
def GuessP (l : List UInt8) (s : Bool) (hi lo : Nat) : Prop := hi < 2 ^ 64 ∧ lo < 2 ^ 64 ∧ ∀ t h0 l0, RightN t h0 l0 → l = backL t h0 l0 → s = t ∧ hi = h0 ∧ lo = l0
theorem guess4 {l : List UInt8} {lo : Nat} (h6 : Lib.hasSuffix l end6 = false) (h : NumP false (pieces (Lib.trimSuffix l end4) 46) lo) : GuessP l false 0 lo := by
  refine ⟨by decide, h.1, fun t h0 l0 hR hl => ?_⟩
  cases t with
  | true => rw [hl] at h6; unfold backL at h6; rw [show endD true = end6 from rfl, has_end] at h6; cases h6
  | false =>
    refine ⟨rfl, (hR.2.2 rfl).1.symm, ?_⟩
    have e : pieces (Lib.trimSuffix l end4) 46 = (digs 256 l0 4).map (labD false) := by
      rw [hl]; unfold backL
      rw [show endD false = end4 from rfl, cut_end, pieces_front]; rfl
    have := h.2 (digs 256 l0 4) (fun d hd => digs_lt (by decide) hd) (by rw [digs_len]; decide) e
    rw [this]
    exact digs_num4 (hR.2.2 rfl).2
theorem guess6 {l : List UInt8} {hi lo k : Nat} (hk : k = min (pieces (Lib.trimSuffix l end6) 46).length 16) (h6 : Lib.hasSuffix l end6 = true) (hh : NumP true ((pieces (Lib.trimSuffix l end6) 46).drop k) hi) (hlo : NumP true ((pieces (Lib.trimSuffix l end6) 46).take k) lo) : GuessP l true hi lo := by
  refine ⟨hh.1, hlo.1, fun t h0 l0 hR hl => ?_⟩
  cases t with
  | false =>
    obtain ⟨X, hX⟩ := List.isSuffixOf_iff_suffix.1 h6
    exact absurd (hl.symm.trans hX.symm) (by unfold backL; exact end_ne _ _)
  | true =>
    have e : pieces (Lib.trimSuffix l end6) 46 = (digs 16 l0 16).map (labD true) ++ (digs 16 h0 16).map (labD true) := by
      rw [hl]; unfold backL
      rw [show endD true = end6 from rfl, cut_end, pieces_front, ← List.map_append]; rfl
    have hk' : k = ((digs 16 l0 16).map (labD true)).length := by
      rw [hk, e, List.length_append, List.length_map, List.length_map, digs_len, digs_len]; decide
    rw [e, hk'] at hh hlo
    rw [List.drop_left' rfl] at hh
    rw [List.take_left' rfl] at hlo
    have a1 := hh.2 (digs 16 h0 16) (fun d hd => digs_lt (by decide) hd) (by rw [digs_len]; decide) rfl
    have a2 := hlo.2 (digs 16 l0 16) (fun d hd => digs_lt (by decide) hd) (by rw [digs_len]; decide) rfl
    exact ⟨rfl, by rw [a1]; exact digs_num hR.1, by rw [a2]; exact digs_num hR.2.1⟩

set_option maxHeartbeats 4000000 in
set_option maxRecDepth 100000 in
theorem guess4_any (l : List UInt8) (w : World) (hC : Cons w) (hl : l.length ≤ 1000) (h6 : Lib.hasSuffix l end6 = false) :
    Calls Tryz.prog 56 #[.string ⟨l.toArray⟩] w fun e w' => ∃ (s : Bool) (hi lo : Nat), e = .returned (adV s hi lo) ∧ GuessP l s hi lo ∧ Below w.heap.size w w' := by
  have hsz : (⟨l.toArray⟩ : ByteArray).size ≤ 9223372036854775807 := by rw [Lib.size_eq]; exact Nat.le_trans hl (by decide)
  have HCut := fun W => (show Hid (Calls Tryz.prog 108 #[.string ⟨l.toArray⟩, .string ⟨#[46, 105, 112, 54, 46, 97, 114, 112, 97]⟩] W fun e w' => e = .returned (.tuple #[.string ⟨(Lib.trimSuffix l end6).toArray⟩, .bool false]) ∧ w' = W) from by
    have := Tryz.strings_CutSuffix ⟨l.toArray⟩ ⟨#[46, 105, 112, 54, 46, 97, 114, 112, 97]⟩ W hsz
    rw [show Lib.hasSuffix (⟨l.toArray⟩ : ByteArray).data.toList (⟨#[46, 105, 112, 54, 46, 97, 114, 112, 97]⟩ : ByteArray).data.toList = false from h6] at this
    exact Lib.hid this)
  have HTrim := fun W => Lib.hid (show Calls Tryz.prog 110 #[.string ⟨l.toArray⟩, .string ⟨#[46, 105, 110, 45, 97, 100, 100, 114, 46, 97, 114, 112, 97]⟩] W fun e w' => e = .returned (.string ⟨(Lib.trimSuffix l end4).toArray⟩) ∧ w' = W from Tryz.strings_TrimSuffix ⟨l.toArray⟩ ⟨#[46, 105, 110, 45, 97, 100, 100, 114, 46, 97, 114, 112, 97]⟩ W hsz)
  obtain ⟨L, hL⟩ : ∃ L, L = Lib.trimSuffix l end4 := ⟨_, rfl⟩
  obtain ⟨L6, hL6⟩ : ∃ L, L = Lib.trimSuffix l end6 := ⟨_, rfl⟩
  have hLl : L.length ≤ 1000 := by rw [hL]; exact Nat.le_trans (trim_len _ _) hl
  rw [← hL6] at HCut
  rw [← hL] at HTrim
  replace hL := Lib.hid hL
  have hC' := Lib.hid hC
  have h6' := Lib.hid h6
  have hbw : Below w.heap.size w (w.alloc (.cells #[.bool false, .int .u64 0, .int .u64 0] 28)) := (Below.refl _ _).alloc (Nat.le_refl _) _
  have hR := Blk.new w [.bool false, .int .u64 0, .int .u64 0] 28
  clear hL6 hC h6 hsz hl
  go_enter Tryz.func56, Tryz.ntmps56
  go_wp2_with fail
  refine (HCut _).out.mono ?_
  rintro e w1 ⟨rfl, rfl⟩
  go_wp2_with fail
  refine (inBytes_any _).mono ?_
  rintro e w2 ⟨rfl, hb2⟩
  replace hR := hR.below hb2
  replace hbw := hbw.trans (hb2.mono hbw.size)
  clear hb2
  go_wp2_with fail
  refine (HTrim _).out.mono ?_
  rintro e w3 ⟨rfl, rfl⟩
  go_wp2_with fail
  have HS := splitE_any L w3 (hC'.out.below hbw) (Nat.le_trans hLl (by decide))
  refine HS.mono ?_
  rintro e w4 ⟨g, off, n, cap, rfl, hS, hn1, hn2, hb3⟩
  replace hR := hR.below hb3
  replace hbw := hbw.trans (hb3.mono hbw.size)
  have hn3 : n ≤ 1001 := by omega
  clear hb3 HS
  go_wp2_with fail
  have hps := fun p (hp : p ∈ pieces L 46) => Nat.le_trans (pieces_short L 46 p hp) (Nat.le_trans hLl (by decide : 1000 ≤ 100000))
  refine (number_any' false _ n cap (pieces L 46) w4 (hC'.out.below hbw) hS (by omega) hps 8 10 rfl rfl).mono ?_
  rintro e w5 ⟨z, rfl, hP, hb5⟩
  replace hR := hR.below hb5
  replace hbw := hbw.trans (hb5.mono hbw.size)
  have hG := Lib.hid (guess4 h6'.out (by rw [← hL.out]; exact hP))
  clear hb5 hS hps hP
  obtain ⟨c0, c1, c2, f0, f1, f2⟩ := hR.three
  go_wp2_with fail
  refine bodyPost_ret (v := adV false 0 (z : Int)) (results_cell_row rfl _ _ w.heap.size _ _ (0, 0) _ rfl (((hR.set 0 (.bool false)).set 1 (.int .u64 0)).set 2 (.int .u64 (z : Int))) Tryz.underlying28 rfl (by kernel_rfl)) rfl ⟨false, 0, z, rfl, hG.out, ?_⟩
  exact ((hbw.setCell (p := ⟨w.heap.size, 0, none⟩) (Nat.le_refl _) _).setCell (p := ⟨w.heap.size, 1, none⟩) (Nat.le_refl _) _).setCell (p := ⟨w.heap.size, 2, none⟩) (Nat.le_refl _) _

set_option maxHeartbeats 4000000 in
set_option maxRecDepth 100000 in
theorem guess6_any (l : List UInt8) (w : World) (hC : Cons w) (hl : l.length ≤ 1000) (h6 : Lib.hasSuffix l end6 = true) :
    Calls Tryz.prog 56 #[.string ⟨l.toArray⟩] w fun e w' => ∃ (s : Bool) (hi lo : Nat), e = .returned (adV s hi lo) ∧ GuessP l s hi lo ∧ Below w.heap.size w w' := by
  have hsz : (⟨l.toArray⟩ : ByteArray).size ≤ 9223372036854775807 := by rw [Lib.size_eq]; exact Nat.le_trans hl (by decide)
  have HCut := fun W => (show Hid (Calls Tryz.prog 108 #[.string ⟨l.toArray⟩, .string ⟨#[46, 105, 112, 54, 46, 97, 114, 112, 97]⟩] W fun e w' => e = .returned (.tuple #[.string ⟨(Lib.trimSuffix l end6).toArray⟩, .bool true]) ∧ w' = W) from by
    have := Tryz.strings_CutSuffix ⟨l.toArray⟩ ⟨#[46, 105, 112, 54, 46, 97, 114, 112, 97]⟩ W hsz
    rw [show Lib.hasSuffix (⟨l.toArray⟩ : ByteArray).data.toList (⟨#[46, 105, 112, 54, 46, 97, 114, 112, 97]⟩ : ByteArray).data.toList = true from h6] at this
    exact Lib.hid this)
  obtain ⟨L, hL⟩ : ∃ L, L = Lib.trimSuffix l end6 := ⟨_, rfl⟩
  have hLl : L.length ≤ 1000 := by rw [hL]; exact Nat.le_trans (trim_len _ _) hl
  rw [← hL] at HCut
  replace hL := Lib.hid hL
  have hC' := Lib.hid hC
  have h6' := Lib.hid h6
  have hbw : Below w.heap.size w (w.alloc (.cells #[.bool false, .int .u64 0, .int .u64 0] 28)) := (Below.refl _ _).alloc (Nat.le_refl _) _
  have hR := Blk.new w [.bool false, .int .u64 0, .int .u64 0] 28
  clear hC h6 hsz hl
  go_enter Tryz.func56, Tryz.ntmps56
  go_wp2_with fail
  refine (HCut _).out.mono ?_
  rintro e w1 ⟨rfl, rfl⟩
  go_wp2_with fail
  have HS := splitE_any L _ (hC'.out.below hbw) (Nat.le_trans hLl (by decide))
  refine HS.mono ?_
  rintro e w2 ⟨g, off, n, cap, rfl, hS, hn1, hn2, hb3⟩
  replace hR := hR.below hb3
  replace hbw := hbw.trans (hb3.mono hbw.size)
  have hn3 : n ≤ 1001 := by omega
  have hnl := Lib.hid hS.1
  have hcap := hS.2.1
  clear hb3 HS
  have hps := Lib.hid (fun p (hp : p ∈ pieces L 46) => Nat.le_trans (pieces_short L 46 p hp) (Nat.le_trans hLl (by decide : 1000 ≤ 100000)))
  go_upto_region 5 with fail
  obtain ⟨h, hh⟩ : ∃ h, h = min n 16 := ⟨_, rfl⟩
  have hmi : min (n : Int) 16 = (h : Int) := by omega
  rw [hmi]
  clear hmi
  have hhn : h ≤ n := by omega
  have hhc : h ≤ cap := by omega
  replace hh := Lib.hid hh
  refine wb_begin ([w.heap.size]) [11] (by kernel_rfl) (fun u0 hb0' hz0' => ?_)
  replace hR := hR.below hb0'
  replace hS := hS.below hb0'
  replace hbw := hbw.trans (hb0'.mono hbw.size)
  clear hb0' hz0'
  refine wb_pure (i := 1) (d := some 19) (v := ?_) (by simp only [List.getElem?_toArray, List.getElem?_cons_succ, List.getElem?_cons_zero] <;> rfl) (by rfl) (by kernel_rfl) (by kernel_rfl) (by kernel_rfl) (fun _ _ _ h => h) (by rfl) ?_ ?_
  rotate_left
  · ((intro u); go_simp; try with_reducible rfl)
  try simp only [Act.put, List.setIfInBounds_toArray, List.set_cons_zero, List.set_cons_succ]
  refine wb_pure (i := 2) (d := some 20) (v := ?_) (by simp only [List.getElem?_toArray, List.getElem?_cons_succ, List.getElem?_cons_zero] <;> rfl) (by rfl) (by kernel_rfl) (by kernel_rfl) (by kernel_rfl) (fun _ _ _ h => h) (by rfl) ?_ ?_
  rotate_left
  · ((intro u); go_simp; try with_reducible rfl)
  try simp only [Act.put, List.setIfInBounds_toArray, List.set_cons_zero, List.set_cons_succ]
  refine wb_pure (i := 3) (d := some 21) (v := ?_) (by simp only [List.getElem?_toArray, List.getElem?_cons_succ, List.getElem?_cons_zero] <;> rfl) (by rfl) (by kernel_rfl) (by kernel_rfl) (by kernel_rfl) (fun _ _ _ h => h) (by rfl) ?_ ?_
  rotate_left
  · ((intro u); go_simp; try with_reducible rfl)
  try simp only [Act.put, List.setIfInBounds_toArray, List.set_cons_zero, List.set_cons_succ]
  refine wb_pure (i := 6) (d := some 24) (v := ?_) (by simp only [List.getElem?_toArray, List.getElem?_cons_succ, List.getElem?_cons_zero] <;> rfl) (by rfl) (by kernel_rfl) (by kernel_rfl) (by kernel_rfl) (fun _ _ _ h => h) (by rfl) ?_ ?_
  rotate_left
  · ((intro u); go_simp; try with_reducible rfl)
  try simp only [Act.put, List.setIfInBounds_toArray, List.set_cons_zero, List.set_cons_succ]
  refine wb_pure (i := 7) (d := some 25) (v := ?_) (by simp only [List.getElem?_toArray, List.getElem?_cons_succ, List.getElem?_cons_zero] <;> rfl) (by rfl) (by kernel_rfl) (by kernel_rfl) (by kernel_rfl) (fun _ _ _ h => h) (by rfl) ?_ ?_
  rotate_left
  · ((intro u); go_simp; try with_reducible rfl)
  try simp only [Act.put, List.setIfInBounds_toArray, List.set_cons_zero, List.set_cons_succ]
  refine wb_pure (i := 8) (d := some 26) (v := ?_) (by simp only [List.getElem?_toArray, List.getElem?_cons_succ, List.getElem?_cons_zero] <;> rfl) (by rfl) (by kernel_rfl) (by kernel_rfl) (by kernel_rfl) (fun _ _ _ h => h) (by rfl) ?_ ?_
  rotate_left
  · ((intro u); go_simp; try with_reducible rfl)
  try simp only [Act.put, List.setIfInBounds_toArray, List.set_cons_zero, List.set_cons_succ]
  refine wb_one (i := 0) (by simp only [List.getElem?_toArray, List.getElem?_cons_succ, List.getElem?_cons_zero] <;> rfl) (by kernel_rfl) (by rfl) (fun K hK => ?_)
  go_simp
  refine (inDigits_any _).mono ?_
  rintro e u1 ⟨rfl, hv1⟩
  refine hK _ _ (Kb.below hv1 (by intro q hq; rw [List.mem_singleton.1 hq]; exact hR.lt)) ?_
  replace hR := hR.below hv1
  replace hS := hS.below hv1
  replace hbw := hbw.trans (hv1.mono hbw.size)
  clear hK K hv1
  try simp only [Act.put, List.setIfInBounds_toArray, List.set_cons_zero, List.set_cons_succ]
  refine wb_one (i := 4) (by simp only [List.getElem?_toArray, List.getElem?_cons_succ, List.getElem?_cons_zero] <;> rfl) (by kernel_rfl) (by rfl) (fun K hK => ?_)
  go_simp
  refine (number_any' true _ _ _ _ _ (hC'.out.below hbw) (hS.dropA hhn) (by omega) (fun p hp => hps.out p (List.drop_subset _ _ hp)) 4 16 rfl rfl).mono ?_
  rintro e u4 ⟨z1, rfl, hP1, hv1⟩
  refine hK _ _ (Kb.below hv1 (by intro q hq; rw [List.mem_singleton.1 hq]; exact hR.lt)) ?_
  replace hR := hR.below hv1
  replace hS := hS.below hv1
  replace hbw := hbw.trans (hv1.mono hbw.size)
  clear hK K hv1
  try simp only [Act.put, List.setIfInBounds_toArray, List.set_cons_zero, List.set_cons_succ]
  refine wb_one (i := 5) (by simp only [List.getElem?_toArray, List.getElem?_cons_succ, List.getElem?_cons_zero] <;> rfl) (by kernel_rfl) (by rfl) (fun K hK => ?_)
  go_simp
  refine (inDigits_any _).mono ?_
  rintro e u5 ⟨rfl, hv1⟩
  refine hK _ _ (Kb.below hv1 (by intro q hq; rw [List.mem_singleton.1 hq]; exact hR.lt)) ?_
  replace hR := hR.below hv1
  replace hS := hS.below hv1
  replace hbw := hbw.trans (hv1.mono hbw.size)
  clear hK K hv1
  try simp only [Act.put, List.setIfInBounds_toArray, List.set_cons_zero, List.set_cons_succ]
  refine wb_one (i := 9) (by simp only [List.getElem?_toArray, List.getElem?_cons_succ, List.getElem?_cons_zero] <;> rfl) (by kernel_rfl) (by rfl) (fun K hK => ?_)
  go_simp
  refine (number_any' true _ _ _ _ _ (hC'.out.below hbw) (hS.takeS hhn) (by omega) (fun p hp => hps.out p (List.take_subset _ _ hp)) 4 16 rfl rfl).mono ?_
  rintro e u9 ⟨z2, rfl, hP2, hv1⟩
  refine hK _ _ (Kb.below hv1 (by intro q hq; rw [List.mem_singleton.1 hq]; exact hR.lt)) ?_
  replace hR := hR.below hv1
  replace hS := hS.below hv1
  replace hbw := hbw.trans (hv1.mono hbw.size)
  clear hK K hv1
  try simp only [Act.put, List.setIfInBounds_toArray, List.set_cons_zero, List.set_cons_succ]
  refine wb_pure (i := 10) (d := some 28) (v := ?_) (by simp only [List.getElem?_toArray, List.getElem?_cons_succ, List.getElem?_cons_zero] <;> rfl) (by rfl) (by kernel_rfl) (by kernel_rfl) (by kernel_rfl) (fun _ _ _ h => h) (by rfl) ?_ ?_
  rotate_left
  · ((intro u); go_simp; try with_reducible rfl)
  try simp only [Act.put, List.setIfInBounds_toArray, List.set_cons_zero, List.set_cons_succ]
  refine wb_store (i := 11) (by simp only [List.getElem?_toArray, List.getElem?_cons_succ, List.getElem?_cons_zero] <;> rfl) (by kernel_rfl) (by rfl) (by kernel_rfl) (fun K hK => ?_)
  obtain ⟨c0, c1, c2, f0, f1, f2⟩ := hR.three
  go_simp
  refine hK.out _ _ ?_
  clear hK K
  try simp only [Act.put, List.setIfInBounds_toArray, List.set_cons_zero, List.set_cons_succ]
  refine wb_done (by kernel_rfl) ?_ _
  skip
  have hG := Lib.hid (guess6 (k := h) (by rw [← hL.out, ← hnl.out]; exact hh) h6'.out (by rw [← hL.out]; exact hP1) (by rw [← hL.out]; exact hP2))
  go_wp2_with fail
  all_goals (
    refine bodyPost_ret (v := adV true (z1 : Int) (z2 : Int)) (results_cell_row rfl _ _ w.heap.size _ _ (0, 0) _ rfl (((hR.set 0 (.bool true)).set 1 (.int .u64 (z1 : Int))).set 2 (.int .u64 (z2 : Int))) Tryz.underlying28 rfl (by kernel_rfl)) rfl (.inr ⟨z1, z2, rfl, hG.out, ?_⟩)
    exact ((hbw.setCell (p := ⟨w.heap.size, 0, none⟩) (Nat.le_refl _) _).setCell (p := ⟨w.heap.size, 1, none⟩) (Nat.le_refl _) _).setCell (p := ⟨w.heap.size, 2, none⟩) (Nat.le_refl _) _)
theorem guess_any (l : List UInt8) (w : World) (hC : Cons w) (hl : l.length ≤ 1000) :
    Calls Tryz.prog 56 #[.string ⟨l.toArray⟩] w fun e w' => ∃ (s : Bool) (hi lo : Nat), e = .returned (adV s hi lo) ∧ GuessP l s hi lo ∧ Below w.heap.size w w' := by
  cases h : Lib.hasSuffix l end6 with
  | false => exact guess4_any l w hC hl h
  | true => exact guess6_any l w hC hl h
end Go.Proofs.YthjhokicojgpbaaGreatDoor
