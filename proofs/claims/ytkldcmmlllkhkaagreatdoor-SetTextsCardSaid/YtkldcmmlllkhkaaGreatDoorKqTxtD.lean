/- The texts of addresses that the program writes. -/
import Derived.Test.YtkldcmmlllkhkaaGreatDoorKqGzA
import Derived.Test.YtkldcmmlllkhkaaGreatDoorKqTxtG
import Derived.Test.YtkldcmmlllkhkaaGreatDoorKqWays
import Derived.Test.YtkldcmmlllkhkaaGreatDoorKqStC
set_option maxRecDepth 100000
namespace Go.Proofs.YtkldcmmlllkhkaaGreatDoor
open Go.RowKit

theorem slice_head (t : TypeId) (ht : Tryz.prog.underlying t = some (.slice (Tryz.prog.elem t))) (hs : ∀ W, (sizeOf (Tryz.prog.elem t)).run Tryz.prog W = .ok 1 W) (A : Option Addr) (n cap h : Nat) (hh : h ≤ cap) (W : World) :
    (Instr.slice t (.slice A n cap) none (some (.int .i64 (h : Int))) none).run Tryz.prog W = .ok (.slice A h cap) W := by
  rw [run_slice_h W t A n cap ht .i64 (h : Int) (by omega) (by omega), hs]
  have e : (A.map fun x => x.add 0) = A := by cases A <;> simp [Addr.add]
  simp [sliced, e]
theorem slice_tail (t : TypeId) (ht : Tryz.prog.underlying t = some (.slice (Tryz.prog.elem t))) (hs : ∀ W, (sizeOf (Tryz.prog.elem t)).run Tryz.prog W = .ok 1 W) (A : Option Addr) (n cap k : Nat) (hk : k ≤ n) (W : World) :
    (Instr.slice t (.slice A n cap) (some (.int .i64 (k : Int))) none none).run Tryz.prog W = .ok (.slice (tailA A k cap) (n - k) (cap - k)) W := by
  rw [run_slice_l W t A n cap ht .i64 (k : Int) (by omega) (by omega), hs]
  simp [sliced, tailA]
theorem slice_mid (t : TypeId) (ht : Tryz.prog.underlying t = some (.slice (Tryz.prog.elem t))) (hs : ∀ W, (sizeOf (Tryz.prog.elem t)).run Tryz.prog W = .ok 1 W) (A : Option Addr) (n cap k h : Nat) (hk : k ≤ h) (hh : h ≤ cap) (W : World) :
    (Instr.slice t (.slice A n cap) (some (.int .i64 (k : Int))) (some (.int .i64 (h : Int))) none).run Tryz.prog W = .ok (.slice (tailA A k cap) (h - k) (cap - k)) W := by
  rw [run_slice_lh W t A n cap ht .i64 .i64 (k : Int) (h : Int) (by omega) (by omega) (by omega), hs]
  simp [sliced, tailA]

theorem joinHex_len (gs : List Nat) (h : gs.length ≤ 8) : (Lib.join (gs.map hexL) [58]).length ≤ 100000 := by
  have hJ := join_len [58] 4 (gs.map hexL) (fun l hl => by
    obtain ⟨g, _, rfl⟩ := List.mem_map.1 hl
    exact hexL_length g)
  rw [List.length_map] at hJ
  simp at hJ; omega
theorem ba_append (a b : List UInt8) : (⟨a.toArray⟩ : ByteArray) ++ ⟨b.toArray⟩ = ⟨(a ++ b).toArray⟩ := by
  ext1; simp
theorem ret_cat (a b : List UInt8) : Ending.returned (.string ((⟨a.toArray⟩ : ByteArray) ++ ⟨#[58, 58]⟩ ++ ⟨b.toArray⟩)) = Ending.returned (sv (a ++ [58, 58] ++ b)) := by
  rw [show (⟨#[58, 58]⟩ : ByteArray) = ⟨([58, 58] : List UInt8).toArray⟩ from rfl, ba_append, ba_append]

set_option linter.unusedSimpArgs false in
set_option maxHeartbeats 2000000 in
theorem textOfGroups_any (A : Option Addr) (cap : Nat) (gs : List Nat) (w : World) (htab : Tabs w) (h8 : gs.length = 8) (hg : ∀ g ∈ gs, g < 65536) (hS : SlN .u64 w A 8 cap gs) :
    Calls Tryz.prog 64 #[.slice A 8 cap] w (GivesV (sv (sixText (zTwo (lzTo (flagsZ gs) 8)) gs)) w) := by
  have HL := Lib.hid (longest_any A cap gs w h8 hS)
  have hin := lz_in (flagsZ gs) (by rw [flagsZ_length, h8])
  have HT : Hid (zTwo (lzTo (flagsZ gs) 8) = if (lzTo (flagsZ gs) 8).2 < 2 then none else some (lzTo (flagsZ gs) 8)) := Lib.hid rfl
  obtain ⟨a, ha⟩ : ∃ a, a = (lzTo (flagsZ gs) 8).1 := ⟨_, rfl⟩
  obtain ⟨n, hn⟩ : ∃ n, n = (lzTo (flagsZ gs) 8).2 := ⟨_, rfl⟩
  have hp : lzTo (flagsZ gs) 8 = (a, n) := by rw [ha, hn]
  rw [hp] at HL hin HT ⊢
  clear ha hn hp
  simp only at HL hin HT
  by_cases h2 : n < 2
  · rw [if_pos h2] at HT
    have HJ := fun w1 (hb : w = w1) => Lib.hid (joinGroups_any A 8 cap gs w1 (hb ▸ htab) (by omega) hg (hb ▸ hS))
    have h2' : (n : Int) < 2 := by omega
    clear h2 hS htab hg h8
    go_enter Tryz.func64, Tryz.ntmps64
    go_wp2_with fail
    refine HL.out.mono ?_
    rintro e w1 ⟨rfl, rfl⟩
    go_wp2_with fail
    refine (HJ _ rfl).out.mono ?_
    rintro e w1 ⟨rfl, hb1⟩
    go_wp2_with fail
    go_ret
    exact ⟨by rw [HT.out]; rfl, hb1⟩
  · rw [if_neg h2] at HT
    have hcap := hS.2.1
    have HA := Lib.hid (fun u (hu : w.grownBy u none) => joinGroups_any A a cap (gs.take a) u (htab.below (gb2B hu)) (by omega) (fun g h => hg g (List.mem_of_mem_take h)) (by have := (hS.below (gb2B hu)).head (k := a) (by omega); rw [← List.map_take] at this; exact this))
    have HB := Lib.hid (fun u (hu : w.grownBy u none) => joinGroups_any (tailA A (a + n) cap) (8 - (a + n)) (cap - (a + n)) (gs.drop (a + n)) u (htab.below (gb2B hu)) (by omega) (fun g h => hg g (List.mem_of_mem_drop h)) (by have := (hS.below (gb2B hu)).tail (k := a + n) (by omega); rw [← List.map_drop] at this; exact this))
    have hs1 := fun W => slice_head 98 (by kernel_rfl) (fun W => by kernel_rfl) A 8 cap a (by omega) W
    have hs2 := fun W => slice_tail 98 (by kernel_rfl) (fun W => by kernel_rfl) A 8 cap (a + n) (by omega) W
    obtain ⟨m, hm⟩ : ∃ m, m = a + n := ⟨_, rfl⟩
    obtain ⟨L1, hL1⟩ : ∃ L, L = Lib.join ((gs.take a).map hexL) [58] := ⟨_, rfl⟩
    obtain ⟨L2, hL2⟩ : ∃ L, L = Lib.join ((gs.drop (a + n)).map hexL) [58] := ⟨_, rfl⟩
    have l1 : L1.length ≤ 100000 := by rw [hL1]; exact joinHex_len _ (by simp; omega)
    have l2 : L2.length ≤ 100000 := by rw [hL2]; exact joinHex_len _ (by simp; omega)
    have HE : Hid (sv (sixText (zTwo (a, n)) gs) = sv (L1 ++ [58, 58] ++ L2)) := Lib.hid (by rw [HT.out, hL1, hL2]; rfl)
    rw [← hL1] at HA
    rw [← hL2, ← hm] at HB
    rw [← hm] at hs2
    have hw : IntKind.i64.wrap ((a : Int) + (n : Int)) = (m : Int) := by rw [IntWalk.i64_in _ (by omega)]; omega
    have k1 : ¬ 9223372036854775807 < L1.length + 2 := by omega
    have k2 : ¬ 9223372036854775807 < L1.length + 2 + L2.length := by omega
    have h2' : ¬ (n : Int) < 2 := by omega
    have hB := gb_refl w none
    rw [HE.out]
    replace hL1 := Lib.hid hL1
    replace hL2 := Lib.hid hL2
    replace hm := Lib.hid hm
    clear h2 hS htab hg h8 HT HE
    go_enter Tryz.func64, Tryz.ntmps64
    go_wp2_with fail
    refine HL.out.mono ?_
    rintro e w1 ⟨rfl, rfl⟩
    go_wp2_with fail
    refine ways_begin (none) (by kernel_rfl) ?_
    replace hB := gb_drew hB
    refine ways_take (i := 0) (d := some 14) (v := ?_) (by simp only [gzA, gzB, gzC] <;> rfl) (by rfl) (by kernel_rfl) (by kernel_rfl) (by kernel_rfl) (fun _ _ _ h => h) (by rfl) ?_ ?_; rotate_left; · (intro u hu; go_simp; try with_reducible rfl)
    try simp only [Act.put, gzD, gzE, gzF]
    refine ways_take (i := 1) (d := some 15) (v := ?_) (by simp only [gzA, gzB, gzC] <;> rfl) (by rfl) (by kernel_rfl) (by kernel_rfl) (by kernel_rfl) (fun _ _ _ h => h) (by rfl) ?_ ?_; rotate_left; · (intro u hu; go_simp; try with_reducible rfl)
    try simp only [Act.put, gzD, gzE, gzF]
    refine ways_take (i := 2) (d := some 16) (v := ?_) (by simp only [gzA, gzB, gzC] <;> rfl) (by rfl) (by kernel_rfl) (by kernel_rfl) (by kernel_rfl) (fun _ _ _ h => h) (by rfl) ?_ ?_; rotate_left; · (intro u hu; go_simp; try with_reducible rfl)
    try simp only [Act.put, gzD, gzE, gzF]
    refine ways_take (i := 5) (d := some 19) (v := ?_) (by simp only [gzA, gzB, gzC] <;> rfl) (by rfl) (by kernel_rfl) (by kernel_rfl) (by kernel_rfl) (fun _ _ _ h => h) (by rfl) ?_ ?_; rotate_left; · (intro u hu; go_simp; try with_reducible rfl)
    try simp only [Act.put, gzD, gzE, gzF]
    refine ways_take (i := 6) (d := some 20) (v := ?_) (by simp only [gzA, gzB, gzC] <;> rfl) (by rfl) (by kernel_rfl) (by kernel_rfl) (by kernel_rfl) (fun _ _ _ h => h) (by rfl) ?_ ?_; rotate_left; · (intro u hu; go_simp; try with_reducible rfl)
    try simp only [Act.put, gzD, gzE, gzF]
    refine ways_take (i := 7) (d := some 21) (v := ?_) (by simp only [gzA, gzB, gzC] <;> rfl) (by rfl) (by kernel_rfl) (by kernel_rfl) (by kernel_rfl) (fun _ _ _ h => h) (by rfl) ?_ ?_; rotate_left; · (intro u hu; go_simp; try with_reducible rfl)
    try simp only [Act.put, gzD, gzE, gzF]
    refine ways_take (i := 8) (d := some 22) (v := ?_) (by simp only [gzA, gzB, gzC] <;> rfl) (by rfl) (by kernel_rfl) (by kernel_rfl) (by kernel_rfl) (fun _ _ _ h => h) (by rfl) ?_ ?_; rotate_left; · (intro u hu; go_simp; try with_reducible rfl)
    try simp only [Act.put, gzD, gzE, gzF]
    refine ways_take (i := 9) (d := some 23) (v := ?_) (by simp only [gzA, gzB, gzC] <;> rfl) (by rfl) (by kernel_rfl) (by kernel_rfl) (by kernel_rfl) (fun _ _ _ h => h) (by rfl) ?_ ?_; rotate_left; · (intro u hu; go_simp; try with_reducible rfl)
    try simp only [Act.put, gzD, gzE, gzF]
    refine ways_one (i := 3) (by simp only [gzA, gzB, gzC] <;> rfl) (by kernel_rfl) (by rfl) (fun u hu K hK => ?_)
    replace hB := gb_trans hB hu
    go_simp
    refine (HA.out u (by assumption)).mono ?_
    rintro e w103 ⟨rfl, hb3⟩
    have hg3 := gbB (r := none) hb3
    refine hK.out _ _ hg3 ?_
    replace hB := gb_trans hB hg3
    clear hK K hu
    try simp only [Act.put, gzD, gzE, gzF]
    refine ways_take (i := 4) (d := some 18) (v := ?_) (by simp only [gzA, gzB, gzC] <;> rfl) (by rfl) (by kernel_rfl) (by kernel_rfl) (by kernel_rfl) (fun _ _ _ h => h) (by rfl) ?_ ?_; rotate_left; · (intro u hu; go_simp; try with_reducible rfl)
    try simp only [Act.put, gzD, gzE, gzF]
    refine ways_one (i := 10) (by simp only [gzA, gzB, gzC] <;> rfl) (by kernel_rfl) (by rfl) (fun u hu K hK => ?_)
    replace hB := gb_trans hB hu
    go_simp
    refine (HB.out u (by assumption)).mono ?_
    rintro e w110 ⟨rfl, hb10⟩
    have hg10 := gbB (r := none) hb10
    refine hK.out _ _ hg10 ?_
    replace hB := gb_trans hB hg10
    clear hK K hu
    try simp only [Act.put, gzD, gzE, gzF]
    refine ways_take (i := 11) (d := some 25) (v := ?_) (by simp only [gzA, gzB, gzC] <;> rfl) (by rfl) (by kernel_rfl) (by kernel_rfl) (by kernel_rfl) (fun _ _ _ h => h) (by rfl) ?_ ?_; rotate_left; · (intro u hu; go_simp; try with_reducible rfl)
    try simp only [Act.put, gzD, gzE, gzF]
    refine ways_take (i := 12) (d := some 2) (v := ?_) (by simp only [gzA, gzB, gzC] <;> rfl) (by rfl) (by kernel_rfl) (by kernel_rfl) (by kernel_rfl) (fun _ _ _ h => h) (by rfl) ?_ ?_; rotate_left; · (intro u hu; go_simp; try with_reducible rfl)
    try simp only [Act.put, gzD, gzE, gzF]
    refine ways_done (by kernel_rfl) (fun u hu => ?_) _
    replace hB := gb_trans hB hu
    clear hu
    go_wp2_with fail
    go_ret
    exact ⟨ret_cat L1 L2, gb2B hB⟩

theorem byte_at (lo : Int) (h3 : 0 ≤ lo) (h4 : lo < 18446744073709551616) (d : Nat) (hd : 0 < d) : bits .and .u64 (lo / (d : Int)) 255 = ((lo.toNat / d % 256 : Nat) : Int) := by
  have hp : (0 : Int) < d := by omega
  have a := and8' (lo / (d : Int)) (Int.ediv_nonneg h3 (Int.le_of_lt hp)) (by have := Int.ediv_le_self (d : Int) h3; omega)
  rw [a]
  have e : (lo / (d : Int)).toNat = lo.toNat / d := by
    obtain ⟨n, rfl⟩ := Int.eq_ofNat_of_zero_le h3
    simp only [← Int.natCast_ediv, Int.toNat_natCast]
  rw [e]
theorem dec_len (b : Nat) (h : b < 256) : (Lib.decDigits b).length ≤ 3 := by
  rw [Lib.decDigits_length]
  by_cases h1 : b < 10
  · rw [Lib.nDigits_small h1]; omega
  · rw [Lib.nDigits_big h1]
    by_cases h2 : b / 10 < 10
    · rw [Lib.nDigits_small h2]; omega
    · rw [Lib.nDigits_big h2, Lib.nDigits_small (by omega)]; omega

set_option maxHeartbeats 2000000 in
theorem textOfBytes_any (lo : Int) (w : World) (htab : Tabs w) (h3 : 0 ≤ lo) (h4 : lo < 18446744073709551616) :
    Calls Tryz.prog 66 #[.int .u64 lo] w (GivesV (sv (fourText lo.toNat)) w) := by
  have e0 : bits .and .u64 (lo / 1) 255 = ((lo.toNat / 1 % 256 : Nat) : Int) := byte_at lo h3 h4 1 (by decide)
  have e1 : bits .and .u64 (lo / 256) 255 = ((lo.toNat / 256 % 256 : Nat) : Int) := byte_at lo h3 h4 256 (by decide)
  have e2 : bits .and .u64 (lo / 65536) 255 = ((lo.toNat / 65536 % 256 : Nat) : Int) := byte_at lo h3 h4 65536 (by decide)
  have e3 : bits .and .u64 (lo / 16777216) 255 = ((lo.toNat / 16777216 % 256 : Nat) : Int) := byte_at lo h3 h4 16777216 (by decide)
  rw [Int.ediv_one] at e0
  have HT : Hid (fourText lo.toNat = Lib.join [Lib.decDigits (lo.toNat / 16777216 % 256), Lib.decDigits (lo.toNat / 65536 % 256), Lib.decDigits (lo.toNat / 256 % 256), Lib.decDigits (lo.toNat / 1 % 256)] [46]) := Lib.hid (by rw [Nat.div_one]; rfl)
  obtain ⟨b0, hb0⟩ : ∃ b, b = lo.toNat / 1 % 256 := ⟨_, rfl⟩
  have m0 : b0 < 256 := by omega
  rw [← hb0] at e0 HT
  replace hb0 := Lib.hid hb0
  have HF0 := Lib.hid (fun u (hu : Tabs u) => fmtU10 b0 (by omega) u hu)
  obtain ⟨b1, hb1⟩ : ∃ b, b = lo.toNat / 256 % 256 := ⟨_, rfl⟩
  have m1 : b1 < 256 := by omega
  rw [← hb1] at e1 HT
  replace hb1 := Lib.hid hb1
  have HF1 := Lib.hid (fun u (hu : Tabs u) => fmtU10 b1 (by omega) u hu)
  obtain ⟨b2, hb2⟩ : ∃ b, b = lo.toNat / 65536 % 256 := ⟨_, rfl⟩
  have m2 : b2 < 256 := by omega
  rw [← hb2] at e2 HT
  replace hb2 := Lib.hid hb2
  have HF2 := Lib.hid (fun u (hu : Tabs u) => fmtU10 b2 (by omega) u hu)
  obtain ⟨b3, hb3⟩ : ∃ b, b = lo.toNat / 16777216 % 256 := ⟨_, rfl⟩
  have m3 : b3 < 256 := by omega
  rw [← hb3] at e3 HT
  replace hb3 := Lib.hid hb3
  have HF3 := Lib.hid (fun u (hu : Tabs u) => fmtU10 b3 (by omega) u hu)
  have hJ := join_len [46] 3 [Lib.decDigits b3, Lib.decDigits b2, Lib.decDigits b1, Lib.decDigits b0] (by
    intro l hl
    simp at hl
    rcases hl with rfl | rfl | rfl | rfl <;> exact dec_len _ (by assumption))
  have hJ' : (Lib.join [Lib.decDigits b3, Lib.decDigits b2, Lib.decDigits b1, Lib.decDigits b0] [46]).length ≤ 100000 := Nat.le_trans hJ (by simp)
  replace hJ' := Lib.hid hJ'
  clear hJ
  have hb0 : Below w.heap.size w w := Below.refl _ _
  have hs0 := hb0.size
  have htab := Lib.hid htab
  obtain ⟨i0, hi0, hz0, hz1, hz2⟩ := info_parts info_str'
  go_enter Tryz.func66, Tryz.ntmps66
  go_wp2_with fail
  refine wp_loop_rounds 5 ?_
  rw [rounds_succ]
  go_wp2_with fail
  refine (HF3.out _ htab.out).mono ?_
  rintro e x1 ⟨rfl, hx1⟩
  have hy1 : Below w.heap.size w x1 := hx1
  have hz1' := hy1.size
  go_wp2_with (at_builtin; refine wpList_append_own _ rfl _ _ 110 rfl w.heap.size 9 i0 (.string ⟨#[]⟩) 1 16 Tryz.underlying110 hi0 hz0 hz1 hz2 rfl (by decide) _ _ _ rfl (World.ownsRow_nil _ _ _ _) ⟨x1.heap.size, 0, none⟩ 1 1 [sv (Lib.decDigits b3)] rfl rfl ?c1 ?c2 ?c3 ?c4 ?c5 ?_)
  case c1 => exact cell_one_at _ _ _ _ (by simp)
  case c2 => simp; rfl
  case c3 => unfold maxLen; omega
  case c4 => omega
  case c5 => simp; omega
  intro v1 w1 hown1 hg1 _
  have hb1' : Below w.heap.size w w1 := (hy1.alloc hz1' _).grown hg1 (by simp; omega) (by intro k h; cases h)
  have hs1' := hb1'.size
  clear hg1
  go_wp2_with fail
  rw [rounds_succ]
  go_wp2_with fail
  refine (HF2.out _ (htab.out.below hb1')).mono ?_
  rintro e x2 ⟨rfl, hx2⟩
  have hy2 : Below w.heap.size w x2 := hb1'.trans (hx2.mono hs1')
  have hz2' := hy2.size
  go_wp2_with (at_builtin; refine wpList_append_own _ rfl _ _ 110 rfl w.heap.size 9 i0 (.string ⟨#[]⟩) 1 16 Tryz.underlying110 hi0 hz0 hz1 hz2 rfl (by decide) _ _ _ rfl ((own_below hown1 hx2).alloc _) ⟨x2.heap.size, 0, none⟩ 1 1 [sv (Lib.decDigits b2)] rfl rfl ?c1 ?c2 ?c3 ?c4 ?c5 ?_)
  case c1 => exact cell_one_at _ _ _ _ (by simp)
  case c2 => simp; rfl
  case c3 => unfold maxLen; omega
  case c4 => omega
  case c5 => simp; omega
  intro v2 w2 hown2 hg2 _
  have hb2' : Below w.heap.size w w2 := (hy2.alloc hz2' _).grown hg2 (by simp; omega) (fun k h => ((own_below hown1 hx2).lt k h).1)
  have hs2' := hb2'.size
  clear hg2
  go_wp2_with fail
  rw [rounds_succ]
  go_wp2_with fail
  refine (HF1.out _ (htab.out.below hb2')).mono ?_
  rintro e x3 ⟨rfl, hx3⟩
  have hy3 : Below w.heap.size w x3 := hb2'.trans (hx3.mono hs2')
  have hz3' := hy3.size
  go_wp2_with (at_builtin; refine wpList_append_own _ rfl _ _ 110 rfl w.heap.size 9 i0 (.string ⟨#[]⟩) 1 16 Tryz.underlying110 hi0 hz0 hz1 hz2 rfl (by decide) _ _ _ rfl ((own_below hown2 hx3).alloc _) ⟨x3.heap.size, 0, none⟩ 1 1 [sv (Lib.decDigits b1)] rfl rfl ?c1 ?c2 ?c3 ?c4 ?c5 ?_)
  case c1 => exact cell_one_at _ _ _ _ (by simp)
  case c2 => simp; rfl
  case c3 => unfold maxLen; omega
  case c4 => omega
  case c5 => simp; omega
  intro v3 w3 hown3 hg3 _
  have hb3' : Below w.heap.size w w3 := (hy3.alloc hz3' _).grown hg3 (by simp; omega) (fun k h => ((own_below hown2 hx3).lt k h).1)
  have hs3' := hb3'.size
  clear hg3
  go_wp2_with fail
  rw [rounds_succ]
  go_wp2_with fail
  refine (HF0.out _ (htab.out.below hb3')).mono ?_
  rintro e x4 ⟨rfl, hx4⟩
  have hy4 : Below w.heap.size w x4 := hb3'.trans (hx4.mono hs3')
  have hz4' := hy4.size
  go_wp2_with (at_builtin; refine wpList_append_own _ rfl _ _ 110 rfl w.heap.size 9 i0 (.string ⟨#[]⟩) 1 16 Tryz.underlying110 hi0 hz0 hz1 hz2 rfl (by decide) _ _ _ rfl ((own_below hown3 hx4).alloc _) ⟨x4.heap.size, 0, none⟩ 1 1 [sv (Lib.decDigits b0)] rfl rfl ?c1 ?c2 ?c3 ?c4 ?c5 ?_)
  case c1 => exact cell_one_at _ _ _ _ (by simp)
  case c2 => simp; rfl
  case c3 => unfold maxLen; omega
  case c4 => omega
  case c5 => simp; omega
  intro v4 w4 hown4 hg4 _
  have hb4' : Below w.heap.size w w4 := (hy4.alloc hz4' _).grown hg4 (by simp; omega) (fun k h => ((own_below hown3 hx4).lt k h).1)
  have hs4' := hb4'.size
  clear hg4
  go_wp2_with fail
  rw [rounds_succ]
  go_wp2_with fail
  obtain ⟨A', cap', rfl, hS'⟩ := Sl.of_own hown4
  have HJ := Lib.hid (join_any A' 4 cap' [Lib.decDigits b3, Lib.decDigits b2, Lib.decDigits b1, Lib.decDigits b0] [46] w4 hS' (by omega) hJ'.out)
  clear hS' hown1 hown2 hown3 hown4
  refine HJ.out.mono ?_
  rintro e w5 ⟨rfl, hb5⟩
  go_wp2_with fail
  go_ret
  exact ⟨congrArg (fun l => Ending.returned (sv l)) HT.out.symm, hb4'.trans (hb5.mono hs4')⟩
end Go.Proofs.YtkldcmmlllkhkaaGreatDoor
