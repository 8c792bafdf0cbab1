/- addr.Loose. -/
import Derived.Test.YtkldcmmlllkhkaaGreatDoorKqGzA
import Derived.Test.YtkldcmmlllkhkaaGreatDoorKqPsM
import Derived.Test.YtkldcmmlllkhkaaGreatDoorKqWaysB
import Derived.Test.YtkldcmmlllkhkaaGreatDoorKqStC
import Derived.Test.YtkldcmmlllkhkaaGreatDoorKqSiteB
set_option maxRecDepth 100000
namespace Go.Proofs.YtkldcmmlllkhkaaGreatDoor
open Go.RowKit

def addrE : Option (Bool × Nat × Nat) → Value
  | some (s, h, lo) => .tuple #[.agg #[.bool s, .int .u64 (h : Int), .int .u64 (lo : Int)], .int .i64 0]
  | none => .tuple #[.agg #[.bool false, .int .u64 0, .int .u64 0], .int .i64 9]
theorem addrE_none {o : Option (Bool × Nat × Nat)} (h : o = none) : Ending.returned (.tuple #[.agg #[.bool false, .int .u64 0, .int .u64 0], .int .i64 9]) = .returned (addrE o) := by rw [h]; rfl
theorem addrE_some {o : Option (Bool × Nat × Nat)} {s : Bool} {h lo : Nat} (e : o = some (s, h, lo)) : Ending.returned (.tuple #[.agg #[.bool s, .int .u64 (h : Int), .int .u64 (lo : Int)], .int .i64 0]) = .returned (addrE o) := by rw [e]; rfl

theorem has_colon (l : List UInt8) (w : World) : Calls Tryz.prog 108 #[.string ⟨l.toArray⟩, .string ⟨#[58]⟩] w fun e w' => e = .returned (.bool (decide ((58 : UInt8) ∈ l))) ∧ w' = w := by
  refine (Tryz.strings_Contains_one ⟨l.toArray⟩ 58 w).mono ?_
  rintro e w' ⟨rfl, rfl⟩
  refine ⟨?_, rfl⟩
  congr 2
  exact decide_eq_decide.2 (by simpa using index_mem l 58)

theorem below_3 {B p : Nat} {w W : World} (h : Below B w W) (hp : B ≤ p) (x0 x1 x2 : Value) : Below B w (((W.setCell ⟨p, 0, none⟩ x0).setCell ⟨p, 1, none⟩ x1).setCell ⟨p, 2, none⟩ x2) :=
  ((h.setCell hp _).setCell hp _).setCell hp _

set_option maxHeartbeats 2000000 in
theorem loose_four (l : List UInt8) (w : World) (hC : Cons w) (hl : l.length ≤ 100000) (hc : (58 : UInt8) ∉ l) :
    Calls Tryz.prog 88 #[.string ⟨l.toArray⟩] w (GivesV (addrE (looseL l)) w) := by
  have hB := Blk.new w [.bool false, .int .u64 0, .int .u64 0] 39
  have hC1 : Below w.heap.size w (w.alloc (.cells #[.bool false, .int .u64 0, .int .u64 0] 39)) := (Below.refl _ _).alloc (Nat.le_refl _) _
  have HL : Hid (looseL l = (fourL l).map fun n => (false, 0, n)) := Lib.hid (if_neg hc)
  have HK : ∀ w, Hid (Calls Tryz.prog 108 #[.string ⟨l.toArray⟩, .string ⟨#[58]⟩] w fun e w' => e = .returned (.bool false) ∧ w' = w) := fun w => Lib.hid (by have := has_colon l w; rw [decide_eq_false hc] at this; exact this)
  have HR := Lib.hid (readBytes_any l (w.alloc (.cells #[.bool false, .int .u64 0, .int .u64 0] 39)) (hC.alloc _) hl)
  clear hC hc
  generalize fourL l = o at HR HL
  go_enter Tryz.func88, Tryz.ntmps88
  go_wp2_with fail
  refine (HK _).out.mono ?_
  rintro e w0 ⟨rfl, rfl⟩
  cases o with
  | none =>
    have HN : Hid (looseL l = none) := Lib.hid HL.out
    replace HR : Hid (Calls Tryz.prog 109 #[.string ⟨l.toArray⟩] (w.alloc (.cells #[.bool false, .int .u64 0, .int .u64 0] 39)) (GivesV (.tuple #[.int .u64 0, .bool false]) (w.alloc (.cells #[.bool false, .int .u64 0, .int .u64 0] 39)))) := HR
    clear HL HK
    go_wp2_with fail
    refine HR.out.mono ?_
    rintro e w1 ⟨rfl, hb1⟩
    obtain ⟨u0, u1, u2, f0, f1, f2⟩ := (hB.below hb1).three
    have hb2 := hC1.trans (hb1.mono (by simp))
    clear hb1 hB HR
    go_wp2_with fail
    refine bodyPost_ret (v := .tuple #[.agg #[.bool false, .int .u64 0, .int .u64 0], .int .i64 9]) ?_ rfl ⟨addrE_none HN.out, below_3 hb2 (Nat.le_refl _) _ _ _⟩
    simp [results, Tryz.results88, go_sem, u0, u1, u2]
  | some n =>
    have HN : Hid (looseL l = some (false, 0, n)) := Lib.hid HL.out
    obtain ⟨z, hz⟩ : ∃ z : Int, z = (n : Int) := ⟨_, rfl⟩
    replace HR : Hid (Calls Tryz.prog 109 #[.string ⟨l.toArray⟩] (w.alloc (.cells #[.bool false, .int .u64 0, .int .u64 0] 39)) (GivesV (.tuple #[.int .u64 z, .bool true]) (w.alloc (.cells #[.bool false, .int .u64 0, .int .u64 0] 39)))) := Lib.hid (by rw [hz]; exact HR.out)
    replace hz := Lib.hid hz
    clear HL HK
    go_wp2_with fail
    refine HR.out.mono ?_
    rintro e w1 ⟨rfl, hb1⟩
    obtain ⟨u0, u1, u2, f0, f1, f2⟩ := (hB.below hb1).three
    have hb2 := hC1.trans (hb1.mono (by simp))
    clear hb1 hB HR
    go_wp2_with fail
    refine bodyPost_ret (v := .tuple #[.agg #[.bool false, .int .u64 0, .int .u64 z], .int .i64 0]) ?_ rfl ⟨by rw [hz.out]; exact addrE_some HN.out, below_3 hb2 (Nat.le_refl _) _ _ _⟩
    simp [results, Tryz.results88, go_sem, u0, u1, u2]

theorem or_shift16 (H g : Int) (h0 : 0 ≤ H) (h1 : H < 281474976710656) (g0 : 0 ≤ g) (g1 : g < 65536) : bits .or .u64 (H * 65536) g = H * 65536 + g := by
  obtain ⟨n, rfl⟩ : ∃ n : Nat, H = n := ⟨H.toNat, by omega⟩
  obtain ⟨b, rfl⟩ : ∃ n : Nat, g = n := ⟨g.toNat, by omega⟩
  have e : ((n : Int) * 65536) = ((n * 65536 : Nat) : Int) := by omega
  rw [e, u64_or_nat (n * 65536) b (by omega) (by omega), show ((n * 65536 : Nat) : Int) + (b : Int) = ((n * 65536 + b : Nat) : Int) by omega]
  congr 1
  exact nat_join 16 _ _ (by omega) (by omega)

set_option linter.unusedVariables false in
set_option linter.unusedSimpArgs false in
set_option maxHeartbeats 4000000 in
theorem loose_six (l : List UInt8) (w : World) (hC : Cons w) (hl : l.length ≤ 100000) (hc : (58 : UInt8) ∈ l) :
    Calls Tryz.prog 88 #[.string ⟨l.toArray⟩] w (GivesV (addrE (looseL l)) w) := by
  have hB := Blk.new w [.bool false, .int .u64 0, .int .u64 0] 39
  have hC1 : Below w.heap.size w (w.alloc (.cells #[.bool false, .int .u64 0, .int .u64 0] 39)) := (Below.refl _ _).alloc (Nat.le_refl _) _
  have HL : Hid (looseL l = (groupsL l).map fun gs => (true, acc16 (gs.take 4), acc16 (gs.drop 4))) := Lib.hid (if_pos hc)
  have HK : ∀ w, Hid (Calls Tryz.prog 108 #[.string ⟨l.toArray⟩, .string ⟨#[58]⟩] w fun e w' => e = .returned (.bool true) ∧ w' = w) := fun w => Lib.hid (by have := has_colon l w; rw [decide_eq_true hc] at this; exact this)
  have HR := Lib.hid (readGroups_any l (w.alloc (.cells #[.bool false, .int .u64 0, .int .u64 0] 39)) (hC.alloc _) hl)
  have HE : Hid (∀ gs, groupsL l = some gs → gs.length = 8 ∧ ∀ g ∈ gs, g < 65536) := Lib.hid fun gs h => groupsL_eight h
  clear hC hc
  generalize groupsL l = o at HR HL HE
  go_enter Tryz.func88, Tryz.ntmps88
  go_wp2_with fail
  refine (HK _).out.mono ?_
  rintro e w0 ⟨rfl, rfl⟩
  go_wp2_with fail
  refine HR.out.mono ?_
  rintro e w1 ⟨hr, hb1⟩
  replace hB := hB.below hb1
  have hb2 := hC1.trans (hb1.mono (by simp))
  clear hb1 HR HK hC1
  have hs2 := hb2.size
  cases o with
  | none =>
    obtain ⟨v, rfl⟩ := hr
    have HN : Hid (looseL l = none) := Lib.hid HL.out
    obtain ⟨u0, u1, u2, f0, f1, f2⟩ := hB.three
    clear HL HE
    go_wp2_with fail
    refine bodyPost_ret (v := .tuple #[.agg #[.bool false, .int .u64 0, .int .u64 0], .int .i64 9]) ?_ rfl ⟨addrE_none HN.out, below_3 hb2 (Nat.le_refl _) _ _ _⟩
    simp [results, Tryz.results88, go_sem, u0, u1, u2]
  | some gs =>
    obtain ⟨A, cap, rfl, hS⟩ := hr
    obtain ⟨h8, hsm⟩ := HE.out gs rfl
    have HN : Hid (looseL l = some (true, acc16 (gs.take 4), acc16 (gs.drop 4))) := Lib.hid HL.out
    obtain ⟨b, off, rfl, hb, hcl⟩ : ∃ b off, A = some ⟨b, off, none⟩ ∧ b < w1.heap.size ∧ ∀ j u, (gs.map fun (g : Nat) => Value.int .u64 (g : Int))[j]? = some u → w1.cell? ⟨b, off + j, none⟩ = some u := by
      rcases hS.2.2 with h | h
      · cases h
      · exact h
    have hP := Blk.new w1 [.bool true, .int .u64 0, .int .u64 0] 39
    have hQ := hB.alloc (.cells [.bool true, .int .u64 0, .int .u64 0].toArray 39)
    have hW := (Below.refl w1.heap.size w1).alloc (Nat.le_refl _) (.cells [.bool true, .int .u64 0, .int .u64 0].toArray 39)
    have hlt := hB.lt
    replace h8 := Lib.hid h8
    replace hsm := Lib.hid hsm
    replace hcl := Lib.hid hcl
    replace hP := Lib.hid hP
    replace hQ := Lib.hid hQ
    replace hW := Lib.hid hW
    clear HL HE hS hB
    go_wp2_with fail
    go_loopw [32] (fun i wr => ∃ (k : Nat) (X Y : Int), k ≤ 4 ∧ i = .int .i64 k ∧ Blk wr w1.heap.size [.bool true, .int .u64 X, .int .u64 Y] 39 ∧ Blk wr w.heap.size [.bool false, .int .u64 0, .int .u64 0] 39 ∧ Below w1.heap.size w1 wr ∧ Hid (X = (acc16 (gs.take k) : Nat) ∧ Y = (acc16 ((gs.drop 4).take k) : Nat))) (fun i _ => 4 - (intOf i).toNat)
    case atStart => exact ⟨0, 0, 0, Nat.zero_le _, rfl, hP.out, hQ.out, hW.out, Lib.hid ⟨rfl, rfl⟩⟩
    case round =>
      obtain ⟨k, X, Y, hk, rfl, hP', hQ', hbw, hXY⟩ := hrel
      clear hP hQ hW
      have hsw := hbw.size
      by_cases hk4 : k < 4
      · obtain ⟨g, hg⟩ : ∃ g, gs[k]? = some g := ⟨gs[k]'(by rw [h8.out]; omega), List.getElem?_eq_getElem _⟩
        obtain ⟨q, hq⟩ : ∃ q, gs[k + 4]? = some q := ⟨gs[k + 4]'(by rw [h8.out]; omega), List.getElem?_eq_getElem _⟩
        have g16 := hsm.out g (List.mem_of_getElem? hg)
        have q16 := hsm.out q (List.mem_of_getElem? hq)
        obtain ⟨G, hG⟩ : ∃ G : Int, G = (g : Int) := ⟨_, rfl⟩
        obtain ⟨Q, hQq⟩ : ∃ Q : Int, Q = (q : Int) := ⟨_, rfl⟩
        have hcg0 : Hid (w1.cell? ⟨b, off + k, none⟩ = some (.int .u64 G)) := Lib.hid (by
          rw [hG]; exact hcl.out k _ (by rw [List.getElem?_map, hg]; rfl))
        have hcq0 : Hid (w1.cell? ⟨b, off + (k + 4), none⟩ = some (.int .u64 Q)) := Lib.hid (by
          rw [hQq]; exact hcl.out (k + 4) _ (by rw [List.getElem?_map, hq]; rfl))
        have bX : 0 ≤ X ∧ X < 281474976710656 := by
          have h1 := acc16_lt k (gs.take k) (by rw [List.length_take, h8.out]; omega) (fun g h => hsm.out g (List.mem_of_mem_take h))
          have h2 : (65536 : Nat) ^ k ≤ 65536 ^ 3 := Nat.pow_le_pow_right (by decide) (by omega)
          have := hXY.out.1
          omega
        have bY : 0 ≤ Y ∧ Y < 281474976710656 := by
          have h1 := acc16_lt k ((gs.drop 4).take k) (by rw [List.length_take, List.length_drop, h8.out]; omega) (fun g h => hsm.out g (List.mem_of_mem_drop (List.mem_of_mem_take h)))
          have h2 : (65536 : Nat) ^ k ≤ 65536 ^ 3 := Nat.pow_le_pow_right (by decide) (by omega)
          have := hXY.out.2
          omega
        have HXY : Hid (X * 65536 + G = (acc16 (gs.take (k + 1)) : Nat) ∧ Y * 65536 + Q = (acc16 ((gs.drop 4).take (k + 1)) : Nat)) := Lib.hid ⟨by rw [take_at hg, acc16_snoc, hXY.out.1, hG]; omega, by rw [take_at (l := gs.drop 4) (k := k) (g := q) (by rw [List.getElem?_drop, Nat.add_comm]; exact hq), acc16_snoc, hXY.out.2, hQq]; omega⟩
        have oX := or_shift16 X G bX.1 bX.2 (by omega) (by omega)
        have oY := or_shift16 Y Q bY.1 bY.2 (by omega) (by omega)
        obtain ⟨X', hX'⟩ : ∃ z, z = X * 65536 + G := ⟨_, rfl⟩
        obtain ⟨Y', hY'⟩ : ∃ z, z = Y * 65536 + Q := ⟨_, rfl⟩
        rw [← hX'] at oX HXY
        rw [← hY'] at oY HXY
        obtain ⟨x0, x1⟩ := bX
        obtain ⟨y0, y1⟩ := bY
        have hk4' : (k : Int) < 4 := by omega
        have hk8 : (k : Int) < 8 := by omega
        obtain ⟨m, hm⟩ : ∃ m, m = k + 4 := ⟨_, rfl⟩
        have hm8 : (m : Int) < 8 := by omega
        have hw4 : IntKind.i64.wrap ((k : Int) + 4) = (m : Int) := by rw [IntKind.wrap_i64]; omega
        rw [← hm] at hcq0
        have wX : IntKind.u64.wrap (X * 65536) = X * 65536 := by rw [IntKind.wrap_u64]; omega
        have wY : IntKind.u64.wrap (Y * 65536) = Y * 65536 := by rw [IntKind.wrap_u64]; omega
        replace hP' := Lib.hid hP'
        replace hQ' := Lib.hid hQ'
        replace hbw := Lib.hid hbw
        clear hG hQq hg hq g16 q16 hXY hX' hY' hm
        go_wp2_with fail
        refine wx_begin (none) [9] (by kernel_rfl) (fun u0 hb0' hz0' => ?_)
        replace hP' := Lib.hid (Blk.below hP'.out hb0')
        replace hQ' := Lib.hid (Blk.below hQ'.out hb0')
        replace hbw := Lib.hid (hbw.out.trans (hb0'.mono hbw.out.size))
        have hcg := Lib.hid ((hbw.out.cell (p := ⟨b, off + k, none⟩) hb).trans hcg0.out)
        have hcq := Lib.hid ((hbw.out.cell (p := ⟨b, off + m, none⟩) hb).trans hcq0.out)
        clear hb0' hz0'
        obtain ⟨c0, c1, c2, f0, f1, f2⟩ := Blk.three hP'.out
        refine wx_pureZ 0 (some 35) (v := ?_) ?_ ?_; rotate_left; · (intro u; go_simp; try with_reducible rfl)
        try simp only [Act.put, gzD, gzE, gzF]
        refine wx_takeZ 1 (some 36) (v := ?_) ?_ ?_; rotate_left; · (intro u hu; obtain ⟨c0, c1, c2, _⟩ := (Blk.gn hP'.out hu).three; have cg := hu.cell hcg.out (by intro h; cases h); go_simp; try with_reducible rfl)
        try simp only [Act.put, gzD, gzE, gzF]
        refine wx_pureZ 2 (some 37) (v := ?_) ?_ ?_; rotate_left; · (intro u; go_simp; try with_reducible rfl)
        try simp only [Act.put, gzD, gzE, gzF]
        refine wx_pureZ 3 (some 38) (v := ?_) ?_ ?_; rotate_left; · (intro u; go_simp; try with_reducible rfl)
        try simp only [Act.put, gzD, gzE, gzF]
        refine wx_pureZ 4 (some 39) (v := ?_) ?_ ?_; rotate_left; · (intro u; go_simp; try with_reducible rfl)
        try simp only [Act.put, gzD, gzE, gzF]
        refine wx_takeZ 5 (some 40) (v := ?_) ?_ ?_; rotate_left; · (intro u hu; obtain ⟨c0, c1, c2, _⟩ := (Blk.gn hP'.out hu).three; have cg := hu.cell hcg.out (by intro h; cases h); go_simp; try with_reducible rfl)
        try simp only [Act.put, gzD, gzE, gzF]
        refine wx_takeZ 6 (some 41) (v := ?_) ?_ ?_; rotate_left; · (intro u hu; obtain ⟨c0, c1, c2, _⟩ := (Blk.gn hP'.out hu).three; have cg := hu.cell hcg.out (by intro h; cases h); go_simp; try with_reducible rfl)
        try simp only [Act.put, gzD, gzE, gzF]
        refine wx_pureZ 7 (some 42) (v := ?_) ?_ ?_; rotate_left; · (intro u; go_simp; try with_reducible rfl)
        try simp only [Act.put, gzD, gzE, gzF]
        refine wx_pureZ 8 (some 43) (v := ?_) ?_ ?_; rotate_left; · (intro u; go_simp; try with_reducible rfl)
        try simp only [Act.put, gzD, gzE, gzF]
        refine wx_store (i := 9) (by simp only [gzA, gzB, gzC] <;> rfl) (by kernel_rfl) (by rfl) (by kernel_rfl) (fun K hK => ?_)
        go_simp
        refine hK.out _ _ ?_
        clear hK K
        try simp only [Act.put, gzD, gzE, gzF]
        refine wx_done (by kernel_rfl) ?_ _
        clear hcg hcq c0 c1 c2 f0 f1 f2
        replace hP' := Lib.hid (show Blk _ w1.heap.size [.bool true, .int .u64 X', .int .u64 Y] 39 from Blk.set hP'.out 1 (.int .u64 X'))
        replace hQ' := Lib.hid (Blk.other hQ'.out (a := ⟨w1.heap.size, 1, none⟩) (Nat.ne_of_lt hlt) (.int .u64 X'))
        replace hbw := Lib.hid (hbw.out.setCell (p := ⟨w1.heap.size, 1, none⟩) (Nat.le_refl _) (.int .u64 X'))
        go_wp2_with fail
        refine wx_begin (none) [10] (by kernel_rfl) (fun u0 hb0' hz0' => ?_)
        replace hP' := Lib.hid (Blk.below hP'.out hb0')
        replace hQ' := Lib.hid (Blk.below hQ'.out hb0')
        replace hbw := Lib.hid (hbw.out.trans (hb0'.mono hbw.out.size))
        have hcg := Lib.hid ((hbw.out.cell (p := ⟨b, off + k, none⟩) hb).trans hcg0.out)
        have hcq := Lib.hid ((hbw.out.cell (p := ⟨b, off + m, none⟩) hb).trans hcq0.out)
        clear hb0' hz0'
        obtain ⟨c0, c1, c2, f0, f1, f2⟩ := Blk.three hP'.out
        refine wx_pureZ 0 (some 44) (v := ?_) ?_ ?_; rotate_left; · (intro u; go_simp; try with_reducible rfl)
        try simp only [Act.put, gzD, gzE, gzF]
        refine wx_takeZ 1 (some 45) (v := ?_) ?_ ?_; rotate_left; · (intro u hu; obtain ⟨c0, c1, c2, _⟩ := (Blk.gn hP'.out hu).three; have cg := hu.cell hcq.out (by intro h; cases h); go_simp; try with_reducible rfl)
        try simp only [Act.put, gzD, gzE, gzF]
        refine wx_pureZ 2 (some 46) (v := ?_) ?_ ?_; rotate_left; · (intro u; go_simp; try with_reducible rfl)
        try simp only [Act.put, gzD, gzE, gzF]
        refine wx_pureZ 3 (some 47) (v := ?_) ?_ ?_; rotate_left; · (intro u; go_simp; try with_reducible rfl)
        try simp only [Act.put, gzD, gzE, gzF]
        refine wx_pureZ 4 (some 48) (v := ?_) ?_ ?_; rotate_left; · (intro u; go_simp; try with_reducible rfl)
        try simp only [Act.put, gzD, gzE, gzF]
        refine wx_pureZ 5 (some 49) (v := ?_) ?_ ?_; rotate_left; · (intro u; go_simp; try with_reducible rfl)
        try simp only [Act.put, gzD, gzE, gzF]
        refine wx_takeZ 6 (some 50) (v := ?_) ?_ ?_; rotate_left; · (intro u hu; obtain ⟨c0, c1, c2, _⟩ := (Blk.gn hP'.out hu).three; have cg := hu.cell hcq.out (by intro h; cases h); go_simp; try with_reducible rfl)
        try simp only [Act.put, gzD, gzE, gzF]
        refine wx_takeZ 7 (some 51) (v := ?_) ?_ ?_; rotate_left; · (intro u hu; obtain ⟨c0, c1, c2, _⟩ := (Blk.gn hP'.out hu).three; have cg := hu.cell hcq.out (by intro h; cases h); go_simp; try with_reducible rfl)
        try simp only [Act.put, gzD, gzE, gzF]
        refine wx_pureZ 8 (some 52) (v := ?_) ?_ ?_; rotate_left; · (intro u; go_simp; try with_reducible rfl)
        try simp only [Act.put, gzD, gzE, gzF]
        refine wx_pureZ 9 (some 53) (v := ?_) ?_ ?_; rotate_left; · (intro u; go_simp; try with_reducible rfl)
        try simp only [Act.put, gzD, gzE, gzF]
        refine wx_store (i := 10) (by simp only [gzA, gzB, gzC] <;> rfl) (by kernel_rfl) (by rfl) (by kernel_rfl) (fun K hK => ?_)
        go_simp
        refine hK.out _ _ ?_
        clear hK K
        try simp only [Act.put, gzD, gzE, gzF]
        refine wx_done (by kernel_rfl) ?_ _
        clear hcg hcq c0 c1 c2 f0 f1 f2
        replace hP' := Lib.hid (show Blk _ w1.heap.size [.bool true, .int .u64 X', .int .u64 Y'] 39 from Blk.set hP'.out 2 (.int .u64 Y'))
        replace hQ' := Lib.hid (Blk.other hQ'.out (a := ⟨w1.heap.size, 2, none⟩) (Nat.ne_of_lt hlt) (.int .u64 Y'))
        replace hbw := Lib.hid (hbw.out.setCell (p := ⟨w1.heap.size, 2, none⟩) (Nat.le_refl _) (.int .u64 Y'))
        go_wp2_with fail
        go_roundw
        case rel => exact ⟨k + 1, X', Y', by omega, by go_num, hP'.out, hQ'.out, hbw.out, HXY⟩
        case measure => simp [intOf]; omega
      · obtain rfl : k = 4 := by omega
        obtain ⟨c0, c1, c2, f0, f1, f2⟩ := Blk.three hP'
        obtain ⟨u0, u1, u2, _⟩ := Blk.three hQ'
        replace hbw := Lib.hid hbw
        replace hQ' := Lib.hid hQ'
        replace hP' := Lib.hid hP'
        have HX : Hid (X = (acc16 (gs.take 4) : Nat) ∧ Y = (acc16 (gs.drop 4) : Nat)) := Lib.hid ⟨hXY.out.1, by rw [hXY.out.2, List.take_of_length_le (by rw [List.length_drop, h8.out]; decide)]⟩
        clear hXY
        go_wp2_with fail
        refine bodyPost_ret (v := .tuple #[.agg #[.bool true, .int .u64 X, .int .u64 Y], .int .i64 0]) ?_ rfl ⟨by rw [HX.out.1, HX.out.2]; exact addrE_some HN.out, below_3 (hb2.trans (hbw.out.mono hs2)) (Nat.le_refl _) _ _ _⟩
        simp [results, Tryz.results88, go_sem, u0, u1, u2]

theorem loose_any (l : List UInt8) (w : World) (hC : Cons w) (hl : l.length ≤ 100000) :
    Calls Tryz.prog 88 #[.string ⟨l.toArray⟩] w (GivesV (addrE (looseL l)) w) := by
  by_cases hc : (58 : UInt8) ∈ l
  · exact loose_six l w hC hl hc
  · exact loose_four l w hC hl hc

end Go.Proofs.YtkldcmmlllkhkaaGreatDoor
