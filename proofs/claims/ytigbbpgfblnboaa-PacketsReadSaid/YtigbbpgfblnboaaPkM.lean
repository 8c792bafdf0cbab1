/- Packets: a sum is put to its place; what is summed. -/
import Derived.Test.YtigbbpgfblnboaaPkK
import Derived.Laws.CopyOwn
namespace Go.Proofs.Ytigbbpgfblnboaa
open Go.RowKit
set_option linter.unusedVariables false
set_option linter.unusedSimpArgs false

theorem splice_len {bs gs : List Nat} {k : Nat} (h : k + gs.length ≤ bs.length) : (splice bs k gs).length = bs.length := length_splice bs k gs h
theorem splice_bV (bs gs : List Nat) (k : Nat) : splice (bV bs) k (bV gs) = bV (splice bs k gs) := by
  unfold splice; simp [bV]
theorem splice_take {α : Type} (L G : List α) (k n : Nat) (h : k + G.length ≤ n) (hn : n ≤ L.length) : (L.take k ++ (G ++ L.drop (k + G.length))).take n = (L.take n).take k ++ (G ++ (L.take n).drop (k + G.length)) := by
  have e1 : (L.take k).length = k := by rw [List.length_take]; omega
  rw [List.take_take, Nat.min_eq_left (by omega), List.take_append, e1, List.take_of_length_le (by omega : (L.take k).length ≤ n), List.take_append, List.take_of_length_le (by omega : G.length ≤ n - k), List.drop_take]
  rw [show n - k - G.length = n - (k + G.length) by omega]
/-- copy into one's own row, as one operation. -/
theorem wp_copy_own {w : World} {o : Oper} {a : Act} {K : Act → World → Prop} {Q : Exit → Act → World → Prop} (d s : Operand)
    (ho : o.op = .call { callee := .builtin .copy, args := #[d, s], argTypes := #[43, 43] })
    (B g n cap k : Nat) (bs : List Nat) (hown : Own B w (.slice (some ⟨g, 0, none⟩) n cap) bs) (dLen dCap : Nat) (hd : a.eval d = .slice (some ⟨g, k, none⟩) dLen dCap)
    (A : Option Addr) (m c : Nat) (gs : List Nat) (hs : a.eval s = .slice A m c) (hS : SlB w A m c gs) (hm : 1 ≤ m) (hfit : k + m ≤ n) (hmin : m ≤ dLen)
    (h : ∀ w', Own B w' (.slice (some ⟨g, 0, none⟩) n cap) (splice bs k gs) → w.grownBy w' (some g) → K (a.put o.dst (goInt m)) w') : Oper.wp Try.prog o a w K Q := by
  have hl := hS.len
  rcases hS.2.2 with h0 | ⟨g2, off, rfl, hg2, hc⟩
  · omega
  rcases hown.2 with ⟨hv, _⟩ | ⟨g', cap', cur, hv, hBg, hg, hle, hmx, hsz, htk⟩
  · cases hv
  · obtain ⟨rfl, hnb, rfl⟩ : g' = g ∧ n = bs.length ∧ cap' = cap := by cases hv; exact ⟨rfl, rfl, rfl⟩
    have hrun := run_copy_row (P := Try.prog) w 43 43 o.type 5 g' k dLen dCap ⟨g2, off, none⟩ m c cur 5 (bV gs) Try.underlying43 (by kernel_rfl) hg (by rw [bV_len, ← hl]; exact (Nat.min_eq_left hmin).symm)
      (fun j u hj => by
        have e : Addr.add ⟨g2, off, none⟩ j = ⟨g2, off + j, none⟩ := by
          unfold Addr.add
          split
          · rename_i h; subst h; rfl
          · rfl
        rw [e]; exact hc j u hj) (by rw [bV_len, ← hl, hsz]; omega) (fun u hu => by obtain ⟨g, _, rfl⟩ := List.mem_map.1 hu; rfl)
    unfold Oper.wp
    simp [execOp, ho, resolve, invoke, builtin, hd, hs, hrun, Result.andThen]
    rw [bV_len, ← hl]
    refine h _ ?_ ⟨rfl, rfl, rfl, by simp [World.setRow], fun p hp hne => setRow_other w g' p _ (fun e => hne (by rw [e]))⟩
    have hL : (bV bs) = cur.toList.take n := by rw [← htk, hnb, Nat.mul_one]
    refine ⟨by rw [bV_len, Nat.mul_one], .inr ⟨g', cap', _, by rw [splice_len (by omega), ← hnb], hBg, setRow_heap w g' _ _ 5 _ hg, by rw [splice_len (by omega)]; omega, hmx, ?_, ?_⟩⟩
    · simp [bV_len]; omega
    · rw [splice_len (by omega), ← splice_bV, hL, ← hnb, Nat.mul_one]
      have hgl : (bV gs).length = m := by rw [bV_len]; exact hl.symm
      have hcl : cur.toList.length = cap' := by simpa using hsz
      have hh := splice_take cur.toList (bV gs) k n (by rw [hgl]; omega) (by rw [hcl]; omega)
      rw [hgl] at hh
      unfold splice
      rw [hgl, ← hh]
      try simp only [List.append_assoc]

set_option maxHeartbeats 2000000 in
set_option maxRecDepth 100000 in
theorem putSum_any (B g cap n k : Nat) (bs : List Nat) (s : Int) (w : World) (ho : Own B w (.slice (some ⟨g, 0, none⟩) n cap) bs) (hk : k + 2 ≤ n) (hs0 : 0 ≤ s) (hs1 : s ≤ 65535) (hB : B ≤ w.heap.size) :
    Calls Try.prog 69 #[.slice (some ⟨g, 0, none⟩) n cap, .int .i64 k, .int .i64 s] w fun e w' => e = .returned (.tuple #[]) ∧ Own B w' (.slice (some ⟨g, 0, none⟩) n cap) (splice bs k (be s.toNat 2)) ∧ Below B w w' := by
  have hw := Lib.hid (Below.refl B w)
  have wsum := wrapU s hs0 (by omega)
  have hnc : n ≤ cap ∧ cap ≤ maxLen ∧ B ≤ g := by
    rcases ho.2 with ⟨hv, _⟩ | ⟨g', cap', cur, hv, h1, h2, h3, h4, _⟩
    · cases hv
    · obtain ⟨rfl, rfl, rfl⟩ : g' = g ∧ n = bs.length ∧ cap' = cap := by cases hv; exact ⟨rfl, rfl, rfl⟩
      exact ⟨h3, h4, h1⟩
  obtain ⟨hnc, hmx, hgB⟩ := hnc
  unfold maxLen at hmx
  have hkn : k ≤ n := by omega
  have hck : ¬ cap = k := by omega
  replace ho := Lib.hid ho
  go_enter Try.func69, Try.ntmps69
  go_wp2_with fail
  refine wb_begin ([]) [] (by kernel_rfl) (fun u0 hb0' hz0' => ?_)
  replace ho := Lib.hid (ho.out.below hb0')
  replace hw := Lib.hid (hw.out.trans (hb0'.mono (Nat.le_trans hB hw.out.size)))
  clear hb0' hz0'
  refine wb_pure (i := 0) (d := some 6) (v := ?_) (by simp only [List.getElem?_toArray, List.getElem?_cons_succ, List.getElem?_cons_zero] <;> rfl) (by rfl) (by kernel_rfl) (by kernel_rfl) (by kernel_rfl) (fun _ _ _ h => h) (by rfl) ?_ ?_
  rotate_left
  · ((intro u); go_simp; try with_reducible rfl)
  try simp only [Act.put, List.setIfInBounds_toArray, List.set_cons_zero, List.set_cons_succ]
  refine wb_pure (i := 1) (d := some 7) (v := ?_) (by simp only [List.getElem?_toArray, List.getElem?_cons_succ, List.getElem?_cons_zero] <;> rfl) (by rfl) (by kernel_rfl) (by kernel_rfl) (by kernel_rfl) (fun _ _ _ h => h) (by rfl) ?_ ?_
  rotate_left
  · ((intro u); go_simp; try with_reducible rfl)
  try simp only [Act.put, List.setIfInBounds_toArray, List.set_cons_zero, List.set_cons_succ]
  refine wb_take (i := 2) (d := some 8) (v := ?_) (by simp only [List.getElem?_toArray, List.getElem?_cons_succ, List.getElem?_cons_zero] <;> rfl) (by rfl) (by kernel_rfl) (by kernel_rfl) (by kernel_rfl) (fun _ _ _ h => h) (by rfl) (by kernel_rfl) ?_ ?_
  rotate_left
  · ((intro u hu); skip; go_simp; try with_reducible rfl)
  try simp only [Act.put, List.setIfInBounds_toArray, List.set_cons_zero, List.set_cons_succ]
  refine wb_pure (i := 3) (d := some 9) (v := ?_) (by simp only [List.getElem?_toArray, List.getElem?_cons_succ, List.getElem?_cons_zero] <;> rfl) (by rfl) (by kernel_rfl) (by kernel_rfl) (by kernel_rfl) (fun _ _ _ h => h) (by rfl) ?_ ?_
  rotate_left
  · ((intro u); go_simp; try with_reducible rfl)
  try simp only [Act.put, List.setIfInBounds_toArray, List.set_cons_zero, List.set_cons_succ]
  refine wb_pure (i := 4) (d := some 10) (v := ?_) (by simp only [List.getElem?_toArray, List.getElem?_cons_succ, List.getElem?_cons_zero] <;> rfl) (by rfl) (by kernel_rfl) (by kernel_rfl) (by kernel_rfl) (fun _ _ _ h => h) (by rfl) ?_ ?_
  rotate_left
  · ((intro u); go_simp; try with_reducible rfl)
  try simp only [Act.put, List.setIfInBounds_toArray, List.set_cons_zero, List.set_cons_succ]
  refine wb_one (i := 5) (by simp only [List.getElem?_toArray, List.getElem?_cons_succ, List.getElem?_cons_zero] <;> rfl) (by kernel_rfl) (by rfl) (fun K hK => ?_)
  go_simp
  refine (number_own u0.heap.size 2 _ [] s _ (Own.nil _ _) (Nat.le_refl _) (by simp) (by omega) hs0 (by omega)).mono ?_
  rintro e u5 ⟨v5, rfl, o5, hv5, hf5⟩
  refine hK.out _ _ (fun p hp => by cases hp) ?_
  replace ho := Lib.hid (ho.out.below hv5)
  replace hw := Lib.hid (hw.out.trans (hv5.mono (Nat.le_trans hB hw.out.size)))
  obtain ⟨A5, c5, rfl, hS5, hA5⟩ := o5.sl
  clear hK K hv5 hf5 o5
  try simp only [Act.put, List.setIfInBounds_toArray, List.set_cons_zero, List.set_cons_succ]
  refine wb_one (i := 6) (by simp only [List.getElem?_toArray, List.getElem?_cons_succ, List.getElem?_cons_zero] <;> rfl) (by kernel_rfl) (by rfl) (fun K hK => ?_)
  refine wp_copy_own _ _ rfl B g n cap k bs ho.out _ _ rfl A5 2 c5 (be s.toNat 2) rfl hS5 (by omega) (by omega) (by omega) ?_
  intro w6 ho6 hg6
  refine hK.out _ _ (fun p hp => by cases hp) ?_
  have hw6 : Below B w w6 := hw.out.trans ((Below.refl B u5).grown hg6 (Nat.le_trans hB hw.out.size) (fun k h => by cases h; exact hgB))
  clear hK K hg6
  try simp only [Act.put, List.setIfInBounds_toArray, List.set_cons_zero, List.set_cons_succ]
  refine wb_done (by kernel_rfl) ?_ _
  go_wp2_with fail
  go_end0
  exact ⟨rfl, ho6, hw6⟩
end Go.Proofs.Ytigbbpgfblnboaa
