/- The name of an address, as the program writes it. -/
import Derived.Test.YthjhokicojgpbaaGreatDoorKeNmH
import Derived.Test.YthjhokicojgpbaaGreatDoorKeLaneB
import Derived.Laws.ResultCell
namespace Go.Proofs.YthjhokicojgpbaaGreatDoor
open Go.RowKit
set_option linter.unusedVariables false
set_option linter.unusedSimpArgs false

/-- A slice of strings that is not empty, and Join. -/
theorem joinS_any (g off n cap : Nat) (x : List UInt8) (r : List (List UInt8)) (w : World) (hS : SlE eStr w (some ⟨g, off, none⟩) n cap (x :: r)) (hn : n ≤ 1000) (hl : (Lib.join (x :: r) [46]).length ≤ 100000) :
    Calls Tryz.prog 100 #[.slice (some ⟨g, off, none⟩) n cap, .string ⟨#[46]⟩] w (GivesV (.string ⟨(Lib.join (x :: r) [46]).toArray⟩) w) := by
  have hSl := hS.sl_str
  have hne : n ≠ 0 := by have := hS.1; rw [List.length_cons] at this; omega
  have hnl := hS.1
  obtain ⟨b', off', e, hb, hc⟩ : ∃ b' off', (some ⟨g, off, none⟩ : Option Addr) = some ⟨b', off', none⟩ ∧ b' < w.heap.size ∧ ∀ j u, ((x :: r).map sv)[j]? = some u → w.cell? ⟨b', off' + j, none⟩ = some u := by
    rcases hSl.2.2 with h | h
    · exact absurd h hne
    · exact h
  cases e
  have hmap : (((x :: r).map (fun l => (⟨l.toArray⟩ : ByteArray))).map (·.data.toList)) = x :: r := by rw [List.map_map]; exact List.map_id _
  have hlen : ((x :: r).map (fun l => (⟨l.toArray⟩ : ByteArray))).length = n := by rw [List.length_map]; exact hnl.symm
  have HJ := Tryz.strings_Join g off cap ((x :: r).map (fun l => (⟨l.toArray⟩ : ByteArray))) ⟨#[46]⟩ w (fun j y hy => by
    rw [List.getElem?_map] at hy
    obtain ⟨z, hz, rfl⟩ := Option.map_eq_some_iff.1 hy
    exact hc j _ (by rw [List.getElem?_map, hz]; rfl)) hb (by rw [hlen]; omega) (by rw [hlen]; exact hS.2.1) (by rw [hmap]; exact Nat.le_trans hl (by decide))
  rw [hmap, hlen] at HJ
  exact HJ

theorem inBytes_any (w : World) : Calls Tryz.prog 101 #[] w (GivesV (.agg #[.int .i64 8, .int .i64 10]) w) := by
  go_enter Tryz.func101, Tryz.ntmps101
  go_wp2_with fail
  have hR := Blk.new w [.int .i64 8, .int .i64 10] 119
  refine bodyPost_ret (v := .agg #[.int .i64 8, .int .i64 10]) (results_cell_row rfl _ _ w.heap.size _ _ (0, 0) _ rfl hR Tryz.underlying119 rfl (by kernel_rfl)) rfl ⟨rfl, ?_⟩
  exact (Below.refl _ _).alloc (Nat.le_refl _) _

theorem inDigits_any (w : World) : Calls Tryz.prog 104 #[] w (GivesV (.agg #[.int .i64 4, .int .i64 16]) w) := by
  go_enter Tryz.func104, Tryz.ntmps104
  go_wp2_with fail
  have hR := Blk.new w [.int .i64 4, .int .i64 16] 119
  refine bodyPost_ret (v := .agg #[.int .i64 4, .int .i64 16]) (results_cell_row rfl _ _ w.heap.size _ _ (0, 0) _ rfl hR Tryz.underlying119 rfl (by kernel_rfl)) rfl ⟨rfl, ?_⟩
  exact (Below.refl _ _).alloc (Nat.le_refl _) _

theorem own_str {B : Nat} {t : TypeId} {w : World} {v : Value} {ls : List (List UInt8)} {x : List UInt8} {r : List (List UInt8)} (hL : ls = x :: r) (h : OwnE eStr t B w v ls) : ∃ g cp n, v = .slice (some ⟨g, 0, none⟩) n cp ∧ Hid (n = (x :: r).length) ∧ Hid (SlE eStr w (some ⟨g, 0, none⟩) n cp (x :: r)) := by
  subst hL
  obtain ⟨g, cp, hv, _⟩ := h.form (by simp)
  obtain ⟨A, c, e, hS⟩ := h.sl
  rw [hv] at e
  cases e
  exact ⟨g, cp, _, hv, Lib.hid rfl, Lib.hid hS⟩
theorem baN_append (a b : List UInt8) : (⟨a.toArray⟩ : ByteArray) ++ ⟨b.toArray⟩ = ⟨(a ++ b).toArray⟩ := by
  apply ByteArray.ext
  simp
theorem labD_len {s : Bool} {d : Nat} (h : d < baseD s) : (labD s d).length ≤ 3 := by
  cases s
  · show (dec3 d).length ≤ 3
    unfold dec3
    split
    · simp
    · split <;> simp
  · show [hexc d].length ≤ 3
    simp
theorem lens_le (m : Nat) : ∀ r : List (List UInt8), (∀ y ∈ r, y.length ≤ m) → (Lib.joinTail [46] r).length ≤ (m + 1) * r.length
  | [], _ => by unfold Lib.joinTail; simp
  | y :: r, h => by
    have ih := lens_le m r (fun z hz => h z (List.mem_cons_of_mem _ hz))
    have hy := h y List.mem_cons_self
    have e : Lib.joinTail [46] (y :: r) = ([46] ++ y) ++ Lib.joinTail [46] r := rfl
    rw [e, List.length_append, List.length_append, List.length_cons, List.length_cons, Nat.mul_add, List.length_nil]
    omega
theorem joinN_len (s : Bool) (hi lo : Nat) : (Lib.join ((adDigs s hi lo).map (labD s)) [46]).length ≤ 200 := by
  obtain ⟨d, r, h⟩ := adDigs_cons s hi lo
  have hl := adDigs_len s hi lo
  have hb := fun x (hx : x ∈ adDigs s hi lo) => labD_len (adDigs_lt hx)
  rw [h] at hl hb ⊢
  rw [List.map_cons, Lib.join_cons, List.length_append]
  have h1 := hb d List.mem_cons_self
  have h2 := lens_le 3 (r.map (labD s)) (fun y hy => by
    obtain ⟨e, he, rfl⟩ := List.mem_map.1 hy
    exact hb e (List.mem_cons_of_mem _ he))
  rw [List.length_map] at h2
  rw [List.length_cons] at hl
  cases s
  · simp at hl; omega
  · simp at hl; omega
theorem backL_len (s : Bool) (hi lo : Nat) : (backL s hi lo).length ≤ 220 := by
  have := joinN_len s hi lo
  unfold backL
  rw [List.length_append]
  have : (endD s).length ≤ 20 := by cases s <;> decide
  omega

set_option maxHeartbeats 4000000 in
set_option maxRecDepth 100000 in
theorem backOf4_any (hi : Int) (lo : Nat) (w : World) (hT : Tabs w) (hl : lo < 2 ^ 32) :
    Calls Tryz.prog 53 #[adV false hi (lo : Int)] w (GivesV (.string ⟨(backL false 0 lo).toArray⟩) w) := by
  have hC := Blk.new w [.bool false, .int .u64 hi, .int .u64 (lo : Int)] 28
  have hbw : Below w.heap.size w (w.alloc (.cells [Value.bool false, .int .u64 hi, .int .u64 (lo : Int)].toArray 28)) := (Below.refl _ _).alloc (Nat.le_refl _) _
  have hTW : Hid (∀ W, Below w.heap.size w W → Tabs W) := Lib.hid fun W hW => hT.below hW
  obtain ⟨d, r0, hdr⟩ := adDigs_cons false 0 lo
  obtain ⟨x, hx⟩ : ∃ x, x = labD false d := ⟨_, rfl⟩
  obtain ⟨r, hr⟩ : ∃ r, r = r0.map (labD false) := ⟨_, rfl⟩
  have hL := Lib.hid (show (digs 256 lo 4).map (labD false) = x :: r by
    rw [hx, hr, ← List.map_cons, ← hdr]; rfl)
  have hjl : (Lib.join (x :: r) [46]).length ≤ 200 := by
    have := joinN_len false 0 lo
    rw [show (adDigs false 0 lo).map (labD false) = x :: r from hL.out] at this
    exact this
  have hrl : (x :: r).length ≤ 40 := by
    rw [← hL.out, List.length_map, digs_len]; omega
  have hfin := Lib.hid (show backL false 0 lo = Lib.join (x :: r) [46] ++ end4 by
    unfold backL
    rw [show (adDigs false 0 lo).map (labD false) = x :: r from hL.out]; rfl)
  rw [hfin.out]
  obtain ⟨J, hJ⟩ : ∃ J, J = Lib.join (x :: r) [46] := ⟨_, rfl⟩
  have hJl : J.length ≤ 200 := by rw [hJ]; exact hjl
  have hcat : ¬ 9223372036854775807 < J.length + 13 := by omega
  rw [← hJ]
  replace hJ := Lib.hid hJ
  replace hfin := Lib.hid (baN_append J end4)
  clear hT hx hr hdr
  have c0 := hC.cell (i := 0) (v := .bool false) rfl
  go_enter Tryz.func53, Tryz.ntmps53
  go_upto_region 2 with fail
  clear c0
  generalize World.alloc w _ = w0 at *
  refine wb_begin ([w.heap.size]) [] (by kernel_rfl) (fun u0 hb0' hz0' => ?_)
  replace hC := hC.below hb0'
  replace hbw := hbw.trans (hb0'.mono hbw.size)
  clear hb0' hz0'
  refine wb_pure (i := 1) (d := some 8) (v := ?_) (by simp only [List.getElem?_toArray, List.getElem?_cons_succ, List.getElem?_cons_zero] <;> rfl) (by rfl) (by kernel_rfl) (by kernel_rfl) (by kernel_rfl) (fun _ _ _ h => h) (by rfl) ?_ ?_
  rotate_left
  · ((intro u); go_simp; try with_reducible rfl)
  try simp only [Act.put, List.setIfInBounds_toArray, List.set_cons_zero, List.set_cons_succ]
  refine wb_take (i := 2) (d := some 9) (v := ?_) (by simp only [List.getElem?_toArray, List.getElem?_cons_succ, List.getElem?_cons_zero] <;> rfl) (by rfl) (by kernel_rfl) (by kernel_rfl) (by kernel_rfl) (fun _ _ _ h => h) (by rfl) (by kernel_rfl) ?_ ?_
  rotate_left
  · ((intro u hu); have kc := hC.kb hu (List.mem_singleton.2 rfl); have q1 := kc.cell (i := 1) (v := .int .u64 hi) rfl; have q2 := kc.cell (i := 2) (v := .int .u64 lo) rfl; clear kc; go_simp; try with_reducible rfl)
  try simp only [Act.put, List.setIfInBounds_toArray, List.set_cons_zero, List.set_cons_succ]
  refine wb_one (i := 0) (by simp only [List.getElem?_toArray, List.getElem?_cons_succ, List.getElem?_cons_zero] <;> rfl) (by kernel_rfl) (by rfl) (fun K hK => ?_)
  go_simp
  refine (inBytes_any _).mono ?_
  rintro e u1 ⟨rfl, hv1⟩
  refine hK _ _ (Kb.below hv1 (by intro q hq; rw [List.mem_singleton.1 hq]; exact hC.lt)) ?_
  replace hC := hC.below hv1
  replace hbw := hbw.trans (hv1.mono hbw.size)
  clear hK K hv1
  try simp only [Act.put, List.setIfInBounds_toArray, List.set_cons_zero, List.set_cons_succ]
  refine wb_one (i := 3) (by simp only [List.getElem?_toArray, List.getElem?_cons_succ, List.getElem?_cons_zero] <;> rfl) (by kernel_rfl) (by rfl) (fun K hK => ?_)
  go_simp
  have hTu := hTW.out _ hbw
  refine (labels4_any 8 rfl lo 4 _ hTu (by omega) (by omega)).mono ?_
  rintro e u3 ⟨⟨v, rfl, ho⟩, hv1⟩
  refine hK _ _ (Kb.below hv1 (by intro q hq; rw [List.mem_singleton.1 hq]; exact hC.lt)) ?_
  replace hC := hC.below hv1
  replace hbw := hbw.trans (hv1.mono hbw.size)
  obtain ⟨g, cp, n, hvv, hnn, hsl⟩ := own_str hL.out ho
  have hn40 : n ≤ 40 := by rw [hnn.out]; exact hrl
  subst hvv
  clear hK K hv1 hTu ho
  try simp only [Act.put, List.setIfInBounds_toArray, List.set_cons_zero, List.set_cons_succ]
  refine wb_one (i := 4) (by simp only [List.getElem?_toArray, List.getElem?_cons_succ, List.getElem?_cons_zero] <;> rfl) (by kernel_rfl) (by rfl) (fun K hK => ?_)
  go_simp
  have HJ := joinS_any g 0 n cp x r _ hsl.out (by omega) (by rw [← hJ.out]; omega)
  rw [← hJ.out] at HJ
  refine HJ.mono ?_
  rintro e u4 ⟨rfl, hv1⟩
  refine hK _ _ (Kb.below hv1 (by intro q hq; rw [List.mem_singleton.1 hq]; exact hC.lt)) ?_
  replace hC := hC.below hv1
  replace hbw := hbw.trans (hv1.mono hbw.size)
  clear hK K hv1 HJ
  try simp only [Act.put, List.setIfInBounds_toArray, List.set_cons_zero, List.set_cons_succ]
  refine wb_pure (i := 5) (d := some 12) (v := ?_) (by simp only [List.getElem?_toArray, List.getElem?_cons_succ, List.getElem?_cons_zero] <;> rfl) (by rfl) (by kernel_rfl) (by kernel_rfl) (by kernel_rfl) (fun _ _ _ h => h) (by rfl) ?_ ?_
  rotate_left
  · ((intro u); go_simp; try with_reducible rfl)
  try simp only [Act.put, List.setIfInBounds_toArray, List.set_cons_zero, List.set_cons_succ]
  refine wb_pure (i := 6) (d := some 2) (v := ?_) (by simp only [List.getElem?_toArray, List.getElem?_cons_succ, List.getElem?_cons_zero] <;> rfl) (by rfl) (by kernel_rfl) (by kernel_rfl) (by kernel_rfl) (fun _ _ _ h => h) (by rfl) ?_ ?_
  rotate_left
  · ((intro u); go_simp; try with_reducible rfl)
  try simp only [Act.put, List.setIfInBounds_toArray, List.set_cons_zero, List.set_cons_succ]
  refine wb_done (by kernel_rfl) ?_ _
  skip
  go_wp2_with fail
  go_ret
  exact ⟨by rw [← hfin.out]; rfl, hbw⟩

set_option maxHeartbeats 4000000 in
set_option maxRecDepth 100000 in
theorem backOf6_any (hi lo : Nat) (w : World) (hT : Tabs w) (hh : hi < 2 ^ 64) (hl : lo < 2 ^ 64) :
    Calls Tryz.prog 53 #[adV true (hi : Int) (lo : Int)] w (GivesV (.string ⟨(backL true hi lo).toArray⟩) w) := by
  have hC := Blk.new w [.bool true, .int .u64 (hi : Int), .int .u64 (lo : Int)] 28
  have hbw : Below w.heap.size w (w.alloc (.cells [Value.bool true, .int .u64 (hi : Int), .int .u64 (lo : Int)].toArray 28)) := (Below.refl _ _).alloc (Nat.le_refl _) _
  have hTW : Hid (∀ W, Below w.heap.size w W → Tabs W) := Lib.hid fun W hW => hT.below hW
  have hcons : ∀ n, ∃ x r, (digs 16 n 16).map (labD true) = x :: r ∧ (x :: r).length = 16 := fun n => by
    have hl : ((digs 16 n 16).map (labD true)).length = 16 := by rw [List.length_map, digs_len]
    cases h : (digs 16 n 16).map (labD true) with
    | nil => rw [h] at hl; cases hl
    | cons x r => exact ⟨x, r, rfl, by rw [h] at hl; exact hl⟩
  obtain ⟨x1, r1, hL1, hn1⟩ := hcons lo
  obtain ⟨x2, r2, hL2, hn2⟩ := hcons hi
  have hall := Lib.hid (show (adDigs true hi lo).map (labD true) = x1 :: (r1 ++ (x2 :: r2)) by
    show (digs 16 lo 16 ++ digs 16 hi 16).map (labD true) = _
    rw [List.map_append, hL1, hL2]; rfl)
  have hjl : (Lib.join (x1 :: (r1 ++ (x2 :: r2))) [46]).length ≤ 200 := by
    have := joinN_len true hi lo
    rw [hall.out] at this
    exact this
  have hn3 : (x1 :: (r1 ++ (x2 :: r2))).length ≤ 40 := by
    rw [List.length_cons] at hn1 hn2 ⊢
    rw [List.length_append, List.length_cons]; omega
  replace hL1 := Lib.hid hL1
  replace hL2 := Lib.hid hL2
  have hfin := Lib.hid (show backL true hi lo = Lib.join (x1 :: (r1 ++ (x2 :: r2))) [46] ++ end6 by
    unfold backL
    rw [hall.out]; rfl)
  rw [hfin.out]
  obtain ⟨J, hJ⟩ : ∃ J, J = Lib.join (x1 :: (r1 ++ (x2 :: r2))) [46] := ⟨_, rfl⟩
  have hJl : J.length ≤ 200 := by rw [hJ]; exact hjl
  have hcat : ¬ 9223372036854775807 < J.length + 9 := by omega
  rw [← hJ]
  replace hJ := Lib.hid hJ
  replace hfin := Lib.hid (baN_append J end6)
  clear hT hcons hall
  have c0 := hC.cell (i := 0) (v := .bool true) rfl
  go_enter Tryz.func53, Tryz.ntmps53
  go_upto_region 3 with fail
  clear c0
  generalize World.alloc w _ = w0 at *
  refine wb_begin ([w.heap.size]) [] (by kernel_rfl) (fun u0 hb0' hz0' => ?_)
  replace hC := hC.below hb0'
  replace hbw := hbw.trans (hb0'.mono hbw.size)
  clear hb0' hz0'
  refine wb_pure (i := 1) (d := some 14) (v := ?_) (by simp only [List.getElem?_toArray, List.getElem?_cons_succ, List.getElem?_cons_zero] <;> rfl) (by rfl) (by kernel_rfl) (by kernel_rfl) (by kernel_rfl) (fun _ _ _ h => h) (by rfl) ?_ ?_
  rotate_left
  · ((intro u); go_simp; try with_reducible rfl)
  try simp only [Act.put, List.setIfInBounds_toArray, List.set_cons_zero, List.set_cons_succ]
  refine wb_take (i := 2) (d := some 15) (v := ?_) (by simp only [List.getElem?_toArray, List.getElem?_cons_succ, List.getElem?_cons_zero] <;> rfl) (by rfl) (by kernel_rfl) (by kernel_rfl) (by kernel_rfl) (fun _ _ _ h => h) (by rfl) (by kernel_rfl) ?_ ?_
  rotate_left
  · ((intro u hu); have kc := hC.kb hu (List.mem_singleton.2 rfl); have q1 := kc.cell (i := 1) (v := .int .u64 hi) rfl; have q2 := kc.cell (i := 2) (v := .int .u64 lo) rfl; clear kc; go_simp; try with_reducible rfl)
  try simp only [Act.put, List.setIfInBounds_toArray, List.set_cons_zero, List.set_cons_succ]
  refine wb_pure (i := 5) (d := some 18) (v := ?_) (by simp only [List.getElem?_toArray, List.getElem?_cons_succ, List.getElem?_cons_zero] <;> rfl) (by rfl) (by kernel_rfl) (by kernel_rfl) (by kernel_rfl) (fun _ _ _ h => h) (by rfl) ?_ ?_
  rotate_left
  · ((intro u); go_simp; try with_reducible rfl)
  try simp only [Act.put, List.setIfInBounds_toArray, List.set_cons_zero, List.set_cons_succ]
  refine wb_take (i := 6) (d := some 19) (v := ?_) (by simp only [List.getElem?_toArray, List.getElem?_cons_succ, List.getElem?_cons_zero] <;> rfl) (by rfl) (by kernel_rfl) (by kernel_rfl) (by kernel_rfl) (fun _ _ _ h => h) (by rfl) (by kernel_rfl) ?_ ?_
  rotate_left
  · ((intro u hu); have kc := hC.kb hu (List.mem_singleton.2 rfl); have q1 := kc.cell (i := 1) (v := .int .u64 hi) rfl; have q2 := kc.cell (i := 2) (v := .int .u64 lo) rfl; clear kc; go_simp; try with_reducible rfl)
  try simp only [Act.put, List.setIfInBounds_toArray, List.set_cons_zero, List.set_cons_succ]
  refine wb_one (i := 0) (by simp only [List.getElem?_toArray, List.getElem?_cons_succ, List.getElem?_cons_zero] <;> rfl) (by kernel_rfl) (by rfl) (fun K hK => ?_)
  go_simp
  refine (inDigits_any _).mono ?_
  rintro e u1 ⟨rfl, hv1⟩
  refine hK _ _ (Kb.below hv1 (by intro q hq; rw [List.mem_singleton.1 hq]; exact hC.lt)) ?_
  replace hC := hC.below hv1
  replace hbw := hbw.trans (hv1.mono hbw.size)
  clear hK K hv1
  try simp only [Act.put, List.setIfInBounds_toArray, List.set_cons_zero, List.set_cons_succ]
  refine wb_one (i := 3) (by simp only [List.getElem?_toArray, List.getElem?_cons_succ, List.getElem?_cons_zero] <;> rfl) (by kernel_rfl) (by rfl) (fun K hK => ?_)
  go_simp
  have hTu := hTW.out _ hbw
  refine (labels6_any 4 rfl lo 16 _ hTu (by omega) (by omega)).mono ?_
  rintro e u3 ⟨⟨v, rfl, ho⟩, hv1⟩
  refine hK _ _ (Kb.below hv1 (by intro q hq; rw [List.mem_singleton.1 hq]; exact hC.lt)) ?_
  replace hC := hC.below hv1
  replace hbw := hbw.trans (hv1.mono hbw.size)
  obtain ⟨g1, cp1, n1, hvv, hnn1, sl1⟩ := own_str hL1.out ho
  subst hvv
  clear hK K hv1 hTu ho
  try simp only [Act.put, List.setIfInBounds_toArray, List.set_cons_zero, List.set_cons_succ]
  refine wb_one (i := 4) (by simp only [List.getElem?_toArray, List.getElem?_cons_succ, List.getElem?_cons_zero] <;> rfl) (by kernel_rfl) (by rfl) (fun K hK => ?_)
  go_simp
  refine (inDigits_any _).mono ?_
  rintro e u4 ⟨rfl, hv1⟩
  refine hK _ _ (Kb.below hv1 (by intro q hq; rw [List.mem_singleton.1 hq]; exact hC.lt)) ?_
  replace hC := hC.below hv1
  replace hbw := hbw.trans (hv1.mono hbw.size)
  replace sl1 := Lib.hid (sl1.out.below hv1)
  clear hK K hv1
  try simp only [Act.put, List.setIfInBounds_toArray, List.set_cons_zero, List.set_cons_succ]
  refine wb_one (i := 7) (by simp only [List.getElem?_toArray, List.getElem?_cons_succ, List.getElem?_cons_zero] <;> rfl) (by kernel_rfl) (by rfl) (fun K hK => ?_)
  go_simp
  have hTu := hTW.out _ hbw
  refine (labels6_any 4 rfl hi 16 _ hTu (by omega) (by omega)).mono ?_
  rintro e u7 ⟨⟨v, rfl, ho⟩, hv1⟩
  refine hK _ _ (Kb.below hv1 (by intro q hq; rw [List.mem_singleton.1 hq]; exact hC.lt)) ?_
  replace hC := hC.below hv1
  replace hbw := hbw.trans (hv1.mono hbw.size)
  replace sl1 := Lib.hid (sl1.out.below hv1)
  obtain ⟨g2, cp2, n2, hvv, hnn2, sl2⟩ := own_str hL2.out ho
  subst hvv
  clear hK K hv1 hTu ho
  try simp only [Act.put, List.setIfInBounds_toArray, List.set_cons_zero, List.set_cons_succ]
  refine wb_one (i := 8) (by simp only [List.getElem?_toArray, List.getElem?_cons_succ, List.getElem?_cons_zero] <;> rfl) (by kernel_rfl) (by rfl) (fun K hK => ?_)
  go_simp
  refine hK _ _ (Kb.gb (World.grownBy_alloc _ _ none) (by intro q hq; rw [List.mem_singleton.1 hq]; exact ⟨hC.lt, by simp⟩)) ?_
  refine wb_new (cs := [.slice (some ⟨g1, 0, none⟩) n1 cp1, .slice (some ⟨g2, 0, none⟩) n2 cp2]) (t := 82) (fun u8 hv3 hL3 hz3 => ?_)
  replace hC := hC.below hv3
  replace hbw := hbw.trans (hv3.mono hbw.size)
  replace sl1 := Lib.hid (sl1.out.below hv3)
  replace sl2 := Lib.hid (sl2.out.below hv3)
  clear hK K hv3 hz3
  try simp only [Act.put, List.setIfInBounds_toArray, List.set_cons_zero, List.set_cons_succ]
  refine wb_one (i := 9) (by simp only [List.getElem?_toArray, List.getElem?_cons_succ, List.getElem?_cons_zero] <;> rfl) (by kernel_rfl) (by rfl) (fun K hK => ?_)
  go_simp
  have HX := concatStr_any _ _ cp1 _ cp2 (some ⟨g1, 0, none⟩) (some ⟨g2, 0, none⟩) (x1 :: r1) (x2 :: r2) _ hL3 sl1.out sl2.out (by rw [hnn1.out, hn1]; omega) (by rw [hnn2.out, hn2]; omega)
  refine HX.mono ?_
  rintro e u9 ⟨⟨v, rfl, ho⟩, hv1⟩
  refine hK _ _ (Kb.below hv1 (by intro q hq; rw [List.mem_singleton.1 hq]; exact hC.lt)) ?_
  replace hC := hC.below hv1
  replace hbw := hbw.trans (hv1.mono hbw.size)
  obtain ⟨g3, cp3, n3, hvv, hnn3, sl3⟩ := own_str (show (x1 :: r1) ++ (x2 :: r2) = x1 :: (r1 ++ (x2 :: r2)) from rfl) ho
  subst hvv
  clear hK K hv1 ho HX hL3 sl1 sl2
  try simp only [Act.put, List.setIfInBounds_toArray, List.set_cons_zero, List.set_cons_succ]
  refine wb_pure (i := 10) (d := some 3) (v := ?_) (by simp only [List.getElem?_toArray, List.getElem?_cons_succ, List.getElem?_cons_zero] <;> rfl) (by rfl) (by kernel_rfl) (by kernel_rfl) (by kernel_rfl) (fun _ _ _ h => h) (by rfl) ?_ ?_
  rotate_left
  · ((intro u); go_simp; try with_reducible rfl)
  try simp only [Act.put, List.setIfInBounds_toArray, List.set_cons_zero, List.set_cons_succ]
  refine wb_done (by kernel_rfl) ?_ _
  skip
  have hn40 : n3 ≤ 40 := by rw [hnn3.out]; exact hn3
  have HJ := joinS_any g3 0 n3 cp3 x1 (r1 ++ (x2 :: r2)) _ sl3.out (by omega) (by rw [← hJ.out]; omega)
  rw [← hJ.out] at HJ
  replace HJ := Lib.hid HJ
  go_wp2_with fail
  refine HJ.out.mono ?_
  rintro e u10 ⟨rfl, hv1⟩
  replace hbw := hbw.trans (hv1.mono hbw.size)
  clear hv1 HJ
  go_wp2_with fail
  go_ret
  exact ⟨by rw [← hfin.out]; rfl, hbw⟩
end Go.Proofs.YthjhokicojgpbaaGreatDoor
