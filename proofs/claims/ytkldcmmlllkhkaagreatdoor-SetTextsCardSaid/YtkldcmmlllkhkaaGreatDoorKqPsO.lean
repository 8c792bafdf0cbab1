/- addr.Parse. -/
import Derived.Test.YtkldcmmlllkhkaaGreatDoorKqPsN
import Derived.Test.YtkldcmmlllkhkaaGreatDoorKqTxtH
set_option maxRecDepth 100000
namespace Go.Proofs.YtkldcmmlllkhkaaGreatDoor
open Go.RowKit

theorem looseL_lt {l : List UInt8} {s : Bool} {h lo : Nat} (e : looseL l = some (s, h, lo)) : h < 18446744073709551616 ∧ lo < 18446744073709551616 := by
  unfold looseL at e
  split at e
  · cases hg : groupsL l with
    | none => rw [hg] at e; cases e
    | some gs =>
      rw [hg] at e
      cases e
      obtain ⟨h8, hs⟩ := groupsL_eight hg
      exact ⟨acc16_lt 4 _ (by rw [List.length_take, h8]; rfl) (fun g h => hs g (List.mem_of_mem_take h)), acc16_lt 4 _ (by rw [List.length_drop, h8]) (fun g h => hs g (List.mem_of_mem_drop h))⟩
  · cases hf : fourL l with
    | none => rw [hf] at e; cases e
    | some n =>
      rw [hf] at e
      cases e
      have := fourL_lt hf
      omega

def parseL (l : List UInt8) : Option (Bool × Nat × Nat) := match looseL l with
  | some (s, h, lo) => if adrText s (h : Int) (lo : Int) = l then some (s, h, lo) else none
  | none => none

set_option maxHeartbeats 2000000 in
theorem parse_any (l : List UInt8) (w : World) (hC : Cons w) (hl : l.length ≤ 100000) :
    Calls Tryz.prog 57 #[.string ⟨l.toArray⟩] w (GivesV (addrE (parseL l)) w) := by
  have hB := Blk.new w [.bool false, .int .u64 0, .int .u64 0] 39
  have hC1 : Below w.heap.size w (w.alloc (.cells #[.bool false, .int .u64 0, .int .u64 0] 39)) := (Below.refl _ _).alloc (Nat.le_refl _) _
  have HR := Lib.hid (loose_any l (w.alloc (.cells #[.bool false, .int .u64 0, .int .u64 0] 39)) (hC.alloc _) hl)
  have HT : ∀ w1, Below w.heap.size w w1 → Hid (Tabs w1) := fun w1 h => Lib.hid (hC.below h).tabs
  clear hC
  cases ho : looseL l with
  | none =>
    rw [ho] at HR
    have HN := Lib.hid (show parseL l = none by unfold parseL; rw [ho])
    replace HR : Hid (Calls Tryz.prog 88 #[.string ⟨l.toArray⟩] (w.alloc (.cells #[.bool false, .int .u64 0, .int .u64 0] 39)) (GivesV (.tuple #[.agg #[.bool false, .int .u64 0, .int .u64 0], .int .i64 9]) (w.alloc (.cells #[.bool false, .int .u64 0, .int .u64 0] 39)))) := HR
    clear ho HT
    go_enter Tryz.func57, Tryz.ntmps57
    go_wp2_with fail
    refine HR.out.mono ?_
    rintro e w1 ⟨rfl, hb1⟩
    have hB1 := hB.below hb1
    have hb2 := hC1.trans (hb1.mono (by simp))
    have hs2 := hb2.size
    obtain ⟨u0, u1, u2, f0, f1, f2⟩ := (hB1.alloc (.cells [.bool false, .int .u64 0, .int .u64 0].toArray 39)).three
    clear hb1 hB HR hB1
    go_wp2_with fail
    refine bodyPost_ret (v := .tuple #[.agg #[.bool false, .int .u64 0, .int .u64 0], .int .i64 9]) ?_ rfl ⟨addrE_none HN.out, below_3 (hb2.alloc hs2 _) (Nat.le_refl _) _ _ _⟩
    simp [results, Tryz.results57, go_sem, u0, u1, u2]
  | some r =>
    obtain ⟨s, h, lo⟩ := r
    obtain ⟨hh, hlo⟩ := looseL_lt ho
    have HP : Hid (parseL l = if adrText s (h : Int) (lo : Int) = l then some (s, h, lo) else none) := Lib.hid (by unfold parseL; rw [ho])
    rw [ho] at HR
    obtain ⟨X, hX⟩ : ∃ X : Int, X = (h : Int) := ⟨_, rfl⟩
    obtain ⟨Y, hY⟩ : ∃ X : Int, X = (lo : Int) := ⟨_, rfl⟩
    replace HR : Hid (Calls Tryz.prog 88 #[.string ⟨l.toArray⟩] (w.alloc (.cells #[.bool false, .int .u64 0, .int .u64 0] 39)) (GivesV (.tuple #[.agg #[.bool s, .int .u64 X, .int .u64 Y], .int .i64 0]) (w.alloc (.cells #[.bool false, .int .u64 0, .int .u64 0] 39)))) := Lib.hid (by rw [hX, hY]; exact HR.out)
    have HX : ∀ w1, Below w.heap.size w w1 → Hid (Calls Tryz.prog 32 #[.agg #[.bool s, .int .u64 X, .int .u64 Y]] w1 (GivesV (.tuple #[sv (adrText s X Y), .int .i64 (adF s X Y)]) w1)) := fun w1 hb => Lib.hid (text_any s X Y w1 (HT w1 hb).out (by omega) (by omega) (by omega) (by omega))
    rw [← hX, ← hY] at HP
    have HE : Hid (X = (h : Int) ∧ Y = (lo : Int)) := Lib.hid ⟨hX, hY⟩
    clear ho HT hh hlo hX hY
    by_cases ht : adrText s X Y = l
    · have HN : Hid (parseL l = some (s, h, lo)) := Lib.hid (by rw [HP.out, if_pos ht])
      rw [ht] at HX
      clear HP ht
      go_enter Tryz.func57, Tryz.ntmps57
      go_wp2_with fail
      refine HR.out.mono ?_
      rintro e w1 ⟨rfl, hb1⟩
      have hB1 := hB.below hb1
      have hb2 := hC1.trans (hb1.mono (by simp))
      have hs2 := hb2.size
      have hB2 := hB1.alloc (.cells [.bool s, .int .u64 X, .int .u64 Y].toArray 39)
      have hP := Blk.new w1 [.bool s, .int .u64 X, .int .u64 Y] 39
      have hb3 : Below w.heap.size w (w1.alloc (.cells #[.bool s, .int .u64 X, .int .u64 Y] 39)) := hb2.alloc hs2 _
      have hs3 := hb3.size
      have HX' := HX _ hb3
      obtain ⟨c0, c1, c2, g0, g1, g2⟩ := hP.three
      replace hB2 := Lib.hid hB2
      replace hP := Lib.hid hP
      clear hb1 hB HR hB1 HX hC1
      go_wp2_with fail
      refine HX'.out.mono ?_
      rintro e w4 ⟨rfl, hb4⟩
      have hb5 := hb3.trans (hb4.mono hs3)
      obtain ⟨u0, u1, u2, f0, f1, f2⟩ := (Blk.below hB2.out hb4).three
      obtain ⟨d0, d1, d2, _⟩ := (Blk.below hP.out hb4).three
      clear c0 c1 c2 g0 g1 g2 HX' hb4
      go_wp2_with fail
      refine bodyPost_ret (v := .tuple #[.agg #[.bool s, .int .u64 X, .int .u64 Y], .int .i64 0]) ?_ rfl ⟨by rw [HE.out.1, HE.out.2]; exact addrE_some HN.out, below_3 hb5 (Nat.le_refl _) _ _ _⟩
      simp [results, Tryz.results57, go_sem, u0, u1, u2]
    · have HN : Hid (parseL l = none) := Lib.hid (by rw [HP.out, if_neg ht])
      obtain ⟨tx, htx⟩ : ∃ tx, tx = adrText s X Y := ⟨_, rfl⟩
      rw [← htx] at ht HX
      have hbf : (tx == l) = false := beq_eq_false_iff_ne.2 ht
      clear HP ht htx
      go_enter Tryz.func57, Tryz.ntmps57
      go_wp2_with fail
      refine HR.out.mono ?_
      rintro e w1 ⟨rfl, hb1⟩
      have hB1 := hB.below hb1
      have hb2 := hC1.trans (hb1.mono (by simp))
      have hs2 := hb2.size
      have hB2 := hB1.alloc (.cells [.bool s, .int .u64 X, .int .u64 Y].toArray 39)
      have hP := Blk.new w1 [.bool s, .int .u64 X, .int .u64 Y] 39
      have hb3 : Below w.heap.size w (w1.alloc (.cells #[.bool s, .int .u64 X, .int .u64 Y] 39)) := hb2.alloc hs2 _
      have hs3 := hb3.size
      have HX' := HX _ hb3
      obtain ⟨c0, c1, c2, g0, g1, g2⟩ := hP.three
      replace hB2 := Lib.hid hB2
      clear hb1 hB HR hB1 HX hC1 hP
      go_wp2_with fail
      refine HX'.out.mono ?_
      rintro e w4 ⟨rfl, hb4⟩
      have hb5 := hb3.trans (hb4.mono hs3)
      obtain ⟨u0, u1, u2, f0, f1, f2⟩ := (Blk.below hB2.out hb4).three
      clear c0 c1 c2 g0 g1 g2 HX' hb4
      go_wp2_with fail
      refine bodyPost_ret (v := .tuple #[.agg #[.bool false, .int .u64 0, .int .u64 0], .int .i64 9]) ?_ rfl ⟨addrE_none HN.out, below_3 hb5 (Nat.le_refl _) _ _ _⟩
      simp [results, Tryz.results57, go_sem, u0, u1, u2]
end Go.Proofs.YtkldcmmlllkhkaaGreatDoor
