/- Packets: the sum of a part. -/
import Derived.Test.YtigbbpgfblnboaaPkN
namespace Go.Proofs.Ytigbbpgfblnboaa
open Go.RowKit
set_option linter.unusedVariables false
set_option linter.unusedSimpArgs false

theorem aheadL_byt (q : Pk) (n : Int) : Byt (aheadL q n) := by
  unfold aheadL
  split
  · exact Byt.app (Byt.app (Byt.app (adB_byt _ _ _) (adB_byt _ _ _)) (be_lt _ _)) (be_lt _ _)
  · split
    · intro b hb; cases hb
    · exact Byt.app (Byt.app (Byt.app (adB_byt _ _ _) (adB_byt _ _ _)) (be_lt _ _)) (be_lt _ _)
theorem aheadL_len (q : Pk) (n : Int) : (aheadL q n).length ≤ 100 := by
  unfold aheadL
  have h1 := adB_len q.fs q.fh q.fl
  have h2 := adB_len q.ts q.th q.tl
  split
  · simp [be_len]; omega
  · split
    · simp
    · simp [be_len]; omega
/-- The slice that one of some is. -/
def SS.val (s : SS) : Value := .slice s.A s.n s.cap
theorem tot_flat {w : World} : ∀ {ss : List SS}, (∀ s ∈ ss, s.ok w) → tot ss = (flatS ss).length
  | [], _ => rfl
  | s :: r, h => by
    have h1 := (h s (List.mem_cons_self ..)).1.len
    have h2 := tot_flat (ss := r) (fun x hx => h x (List.mem_cons_of_mem _ hx))
    unfold tot flatS at *
    simp only [List.map_cons, List.sum_cons, List.flatten_cons, List.length_append]
    omega
theorem concat_blk (B m : Nat) (ss : List SS) (t : TypeId) (w : World) (hL : Blk w B (ss.map SS.val) t) (hm : m = ss.length) (hok : ∀ s ∈ ss, s.ok w) (h1 : 1 ≤ (flatS ss).length) (h2 : (flatS ss).length ≤ 100000) (hmm : m ≤ 10) :
    Calls Try.prog 51 #[.slice (some ⟨B, 0, none⟩) m m] w (GivesB (flatS ss) w) := by
  have ht := tot_flat hok
  refine (concat_any B m ss w hm (fun i s hs => hL.cell (by rw [List.getElem?_map, hs]; rfl)) hok (by omega) (by omega) hmm).mono ?_
  rintro e w' ⟨v, rfl, h, hb⟩
  exact ⟨v, rfl, by unfold Own; rw [← ht]; exact h, hb⟩

/-- The sum of a part. -/
def sumF (q : Pk) (part : List Nat) : Int := if sumR (aheadL q part.length ++ part) = 0 ∧ q.proto = 17 then 65535 else sumR (aheadL q part.length ++ part)
theorem sumF_in (q : Pk) (part : List Nat) : 0 ≤ sumF q part ∧ sumF q part ≤ 65535 := by
  unfold sumF; have := sumR_in (aheadL q part.length ++ part); split <;> omega

set_option maxHeartbeats 4000000 in
set_option maxRecDepth 100000 in
theorem sumOf_any (q : Pk) (v : Value) (pb : Nat) (A : Option Addr) (n cap : Nat) (part : List Nat) (w : World) (hP : Blk w pb (pkL q v) 45) (hq : PkOk q) (hS : SlB w A n cap part) (hA : A = none → cap = 0) (hn1 : 1 ≤ n) (hn2 : n ≤ 2000) (hb : Byt part) :
    Calls Try.prog 70 #[.pointer (some ⟨pb, 0, none⟩), .slice A n cap] w (GivesV (.int .i64 (sumF q part)) w) := by
  have hl := hS.len
  have hw := Below.refl w.heap.size w
  have HA := Lib.hid (ahead_any q v pb (n : Int) w hP hq (by omega) (by omega))
  have HS := Lib.hid (show sumF q part = if sumR (aheadL q n ++ part) = 0 ∧ q.proto = 17 then 65535 else sumR (aheadL q n ++ part) by rw [hl]; rfl)
  have hal := aheadL_len q n
  have hab := Byt.app (aheadL_byt q n) hb
  generalize aheadL q n = al at HA HS hal hab
  generalize sumF q part = N at HS ⊢
  clear hb hq
  replace hS := Lib.hid hS
  replace hA := Lib.hid hA
  replace hab := Lib.hid hab
  replace hl := Lib.hid hl
  replace hal := Lib.hid hal
  obtain ⟨fs, fh, fl, ts, th, tl, hops, proto, fp, tp, syn, fin, rst, has, seq, ack, reply, id⟩ := q
  dsimp only at *
  go_enter Try.func70, Try.ntmps70
  go_wp2_with fail
  refine HA.out.mono ?_
  rintro e u9 ⟨v9, rfl, o9, hv9⟩
  replace hP := hP.below hv9
  replace hS := Lib.hid (hS.out.below hv9)
  replace hw := hw.trans hv9
  obtain ⟨A9, c9, rfl, hS9, hA9⟩ := o9.sl
  have hok : Hid (∀ s ∈ [SS.mk A9 al.length c9 al, SS.mk A n cap part], s.ok (u9.alloc (.cells #[.slice A9 al.length c9, .slice A n cap] 43))) := Lib.hid (fun s hs => by
    have hb := (Below.refl u9.heap.size u9).alloc (Nat.le_refl _) (.cells #[.slice A9 al.length c9, .slice A n cap] 43)
    rcases List.mem_cons.1 hs with rfl | hs
    · exact ⟨hS9.below hb, hA9⟩
    · rw [List.mem_singleton.1 hs]
      exact ⟨hS.out.below hb, hA.out⟩)
  have hfl : flatS [SS.mk A9 al.length c9 al, SS.mk A n cap part] = al ++ part := by simp [flatS]
  have HC := Lib.hid (concat_blk u9.heap.size 2 [SS.mk A9 al.length c9 al, SS.mk A n cap part] 43 _ (Blk.new u9 [.slice A9 al.length c9, .slice A n cap] 43) rfl hok.out (by rw [hfl, List.length_append]; have := hl.out; omega) (by rw [hfl, List.length_append]; have := hl.out; have := hal.out; omega) (by omega))
  rw [hfl] at HC
  clear HA hv9 o9 hS9 hA9 hok hfl
  go_wp2_with fail
  refine HC.out.mono ?_
  rintro e u12 ⟨v12, rfl, o12, hv12⟩
  replace hP := hP.below ((Below.refl _ _).alloc (Nat.le_refl _) (.cells #[.slice A9 al.length c9, .slice A n cap] 43))
  replace hP := hP.below hv12
  replace hw := (hw.alloc hw.size (.cells #[.slice A9 al.length c9, .slice A n cap] 43)).trans (hv12.mono (by have := hw.size; simp; omega))
  obtain ⟨A12, c12, rfl, hS12, _⟩ := o12.sl
  have hsl : (al ++ part).length ≤ 100000 := by rw [List.length_append]; have := hl.out; have := hal.out; omega
  generalize al ++ part = sm at hS12 hsl hab HS ⊢
  obtain ⟨m12, hm12⟩ : ∃ m, m = sm.length := ⟨_, rfl⟩
  rw [← hm12] at hS12 hsl ⊢
  have HSU := Lib.hid (sum_any A12 _ c12 _ u12 hS12 hsl hab.out)
  clear hsl hm12 hab
  clear HC hv12 o12 hS12
  go_wp2_with fail
  refine HSU.out.mono ?_
  rintro e u13 ⟨rfl, hv13⟩
  replace hP := hP.below hv13
  replace hw := hw.trans (hv13.mono hw.size)
  have c7 := hP.cell (i := 7) (v := .int .i64 proto) rfl
  replace hP := Lib.hid hP
  clear hv13 HSU
  generalize sumR sm = sr at HS ⊢
  by_cases h0 : sr = 0
  · by_cases h1 : proto = 17
    · replace HS := Lib.hid (HS.out.trans (if_pos ⟨h0, h1⟩))
      have e0 : (sr == 0) = true := by simp [h0]
      have e1 : (proto == 17) = true := by simp [h1]
      replace h0 := Lib.hid h0
      replace h1 := Lib.hid h1
      go_wp2_with fail
      go_ret
      exact ⟨by rw [HS.out]; rfl, hw⟩
    · replace HS := Lib.hid (HS.out.trans (if_neg (fun h => h1 h.2)))
      have e0 : (sr == 0) = true := by simp [h0]
      have e1 : (proto == 17) = false := by simp [h1]
      replace h0 := Lib.hid h0
      replace h1 := Lib.hid h1
      go_wp2_with fail
      go_ret
      exact ⟨by rw [HS.out]; rfl, hw⟩
  · replace HS := Lib.hid (HS.out.trans (if_neg (fun h => h0 h.1)))
    have e0 : (sr == 0) = false := by simp [h0]
    replace h0 := Lib.hid h0
    go_wp2_with fail
    go_ret
    exact ⟨by rw [HS.out]; rfl, hw⟩
end Go.Proofs.Ytigbbpgfblnboaa
