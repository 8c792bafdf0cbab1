/- Packets: numbers that are appended as bytes. -/
import Derived.Test.YtigbbpgfblnboaaPkB
import Derived.Lib.AppendZerosOnto
import Derived.Lib.SliceRun
import Derived.Laws.AppendOwnNone
import Derived.Maps.AppendAt
namespace Go.Proofs.Ytigbbpgfblnboaa
open Go.RowKit

theorem info_u8 : (Try.prog.info? 5).map (fun i => (i.zero, i.size, i.bytes)) = some (some (.int .u8 0), 1, 1) := by kernel_rfl
theorem info_parts8 {o : Option TypeInfo} {z : Option Value} {s b : Nat} (h : o.map (fun i => (i.zero, i.size, i.bytes)) = some (z, s, b)) : ∃ i, o = some i ∧ i.zero = z ∧ i.size = s ∧ i.bytes = b := by
  cases o with
  | none => cases h
  | some i => exact ⟨i, rfl, by cases h; rfl, by cases h; rfl, by cases h; rfl⟩

theorem be_byte (z : Int) (h0 : 0 ≤ z) (k : Nat) : z / 2 ^ (8 * k) % 256 = ((z.toNat / 256 ^ k % 256 : Nat) : Int) := by
  obtain ⟨n, rfl⟩ := Int.eq_ofNat_of_zero_le h0
  have e : (256 : Nat) ^ k = 2 ^ (8 * k) := by rw [Nat.pow_mul]
  rw [Int.toNat_natCast, e, Int.natCast_emod, Int.natCast_ediv, Int.natCast_pow]
  rfl
/-- What an append to v that gives v' leaves: all blocks but v's. -/
structure Fr (w w' : World) (v v' : Value) : Prop where
  gb : w.grownBy w' v.ownBlock
  at' : ∀ p, p < w.heap.size → v.ownBlock ≠ some p → v'.ownBlock ≠ some p
theorem Fr.refl (w : World) (v : Value) : Fr w w v v := ⟨World.grownBy.refl _ _, fun _ _ h => h⟩
theorem Fr.trans {a b c : World} {u v x : Value} (h : Fr a b u v) (k : Fr b c v x) : Fr a c u x :=
  ⟨⟨k.gb.os.trans h.gb.os, k.gb.tape.trans h.gb.tape, k.gb.output.trans h.gb.output, Nat.le_trans h.gb.size k.gb.size, fun p hp hne => (k.gb.block p (Nat.lt_of_lt_of_le hp h.gb.size) (fun e => h.at' p hp (fun e' => hne e'.symm) e.symm)).trans (h.gb.block p hp hne)⟩,
   fun p hp hne => k.at' p (Nat.lt_of_lt_of_le hp h.gb.size) (h.at' p hp hne)⟩
theorem Fr.alloc {w w' : World} {v v' : Value} (o : Obj) (h : Fr (w.alloc o) w' v v') : Fr w w' v v' :=
  ⟨gb_trans (World.grownBy_alloc w o v.ownBlock) h.gb, fun p hp hne => h.at' p (by simp; omega) hne⟩
theorem Fr.step {w w' : World} {v v' : Value} (h : w.grownBy w' v.ownBlock) (k : v'.ownBlock = v.ownBlock ∨ v'.ownBlock = some w.heap.size) : Fr w w' v v' :=
  ⟨h, fun p hp hne e => by
    rcases k with k | k
    · exact hne (k.symm.trans e)
    · rw [k] at e; cases e; omega⟩
theorem oneU8 (x : Int) : ∀ u ∈ [Value.int .u8 x], u.oneCell' = true := by intro u hu; rw [List.mem_singleton.1 hu]; rfl

set_option maxHeartbeats 2000000 in
set_option maxRecDepth 100000 in
theorem number_any (base m size : Nat) (v : Value) (xs : List Nat) (z : Int) (w : World) (hown : w.ownsRow base 5 1 v m (bV xs)) (hbase : base ≤ w.heap.size) (hm : m ≤ 100000) (hs : size ≤ 8) (h0 : 0 ≤ z) (h1 : z < 18446744073709551616) :
    Calls Try.prog 72 #[v, .int .i64 size, .int .u64 z] w fun e w' => ∃ v', e = .returned v' ∧ w'.ownsRow base 5 1 v' (m + size) (bV (xs ++ be z.toNat size)) ∧ Below base w w' ∧ Fr w w' v v' := by
  obtain ⟨i0, hi0, hz0, hz1, hz2⟩ := info_parts8 info_u8
  replace hown := Lib.hid hown
  replace h1 := Lib.hid h1
  go_enter Try.func72, Try.ntmps72
  go_wp2_with fail
  go_loopw [0, 7] (fun o i wr => ∃ (k d : Nat) (ys : List Nat), k + d = size ∧ i = .int .i64 ((k : Int) - 1) ∧ wr.ownsRow base 5 1 o (m + d) (bV ys) ∧ Below base w wr ∧ Fr w wr v o ∧ base ≤ wr.heap.size ∧ Hid (ys ++ be z.toNat k = xs ++ be z.toNat size)) (fun _ i _ => (intOf i + 1).toNat)
  case atStart => exact ⟨size, 0, xs, by omega, rfl, hown.out, Below.refl _ _, Fr.refl _ _, hbase, Lib.hid rfl⟩
  case round =>
    obtain ⟨k, d, ys, hkd, rfl, ho, hB, hF, hbz, hG⟩ := hrel
    clear hown
    cases k with
    | zero =>
      have hd : d = size := by omega
      replace hd := Lib.hid hd
      go_wp2_with fail
      go_ret
      refine ⟨u0, rfl, ?_, hB, hF⟩
      have h := hG.out
      simp only [be, List.append_nil] at h
      rw [← h, ← hd.out]; exact ho
    | succ k =>
      have hk8 : k < 8 := by omega
      go_wp2_with (at_builtin; refine wpList_append_own_at _ rfl _ _ 43 rfl base 5 i0 (.int .u8 0) 1 1 Try.underlying43 hi0 hz0 hz1 hz2 rfl (by decide) _ _ _ rfl (ho.alloc _) ⟨wr.heap.size, 0, none⟩ 1 1 [.int .u8 (z / 2 ^ (8 * k) % 256)] rfl ?c1 ?c2 ?c3 ?c4 ?c5 ?c6 ?_)
      try case c1 => rfl
      try case c2 => exact cell_one_new _ _ _
      case c3 => exact oneU8 _
      case c4 => unfold maxLen; omega
      case c5 => omega
      case c6 => first | omega | (simp; done) | (simp; omega)
      intro v3 x3 hown3 hg3 _ hat3
      have hF3 := hF.trans (Fr.alloc _ (Fr.step hg3 (hat3.imp id (fun h => h.trans (by simp)))))
      have hb3 : Below base w x3 := (hB.alloc hbz _).grown hg3 (by first | omega | (simp; done) | (simp; omega)) (fun k h => (ho.lt k h).1)
      have hz3 : base ≤ x3.heap.size := Nat.le_trans hbz (by have := hg3.size; simp at this; omega)
      clear hg3 ho hat3 hF
      go_wp2_with fail
      go_roundw
      case rel => exact ⟨k, d + 1, ys ++ [z.toNat / 256 ^ k % 256], by omega, by go_num, by rw [bV_app]; have := hown3; rw [be_byte z h0 k] at this; exact this, hb3, hF3, hz3, Lib.hid (by rw [List.append_assoc]; exact hG.out)⟩
      case measure => simp [intOf]
set_option maxHeartbeats 2000000 in
set_option maxRecDepth 100000 in
theorem big_any (size : Nat) (z : Int) (w : World) (hs : size ≤ 8) (h0 : 0 ≤ z) (h1 : z < 18446744073709551616) :
    Calls Try.prog 53 #[.int .u64 z, .int .i64 size] w fun e w' => ∃ v', e = .returned v' ∧ w'.ownsRow w.heap.size 5 1 v' size (bV (be z.toNat size)) ∧ Below w.heap.size w w' := by
  obtain ⟨i0, hi0, hz0, hz1, hz2⟩ := info_parts8 info_u8
  replace h1 := Lib.hid h1
  go_enter Try.func53, Try.ntmps53
  go_wp2_with fail
  go_loopw [5, 6] (fun o i wr => ∃ (k d : Nat) (ys : List Nat), k + d = size ∧ i = .int .i64 ((k : Int) - 1) ∧ wr.ownsRow w.heap.size 5 1 o d (bV ys) ∧ Below w.heap.size w wr ∧ w.heap.size ≤ wr.heap.size ∧ Hid (ys ++ be z.toNat k = be z.toNat size)) (fun _ i _ => (intOf i + 1).toNat)
  case atStart => exact ⟨size, 0, [], by omega, rfl, World.ownsRow_nil _ _ _ _, Below.refl _ _, Nat.le_refl _, Lib.hid (by simp)⟩
  case round =>
    obtain ⟨k, d, ys, hkd, rfl, ho, hB, hbz, hG⟩ := hrel
    cases k with
    | zero =>
      have hd : d = size := by omega
      replace hd := Lib.hid hd
      go_wp2_with fail
      go_ret
      refine ⟨u5, rfl, ?_, hB⟩
      have h := hG.out
      simp only [be, List.append_nil] at h
      rw [← h, ← hd.out]; exact ho
    | succ k =>
      have hk8 : k < 8 := by omega
      go_wp2_with (at_builtin; refine wpList_append_own _ rfl _ _ 43 rfl w.heap.size 5 i0 (.int .u8 0) 1 1 Try.underlying43 hi0 hz0 hz1 hz2 rfl (by decide) _ _ _ rfl (ho.alloc _) ⟨wr.heap.size, 0, none⟩ 1 1 [.int .u8 (z / 2 ^ (8 * k) % 256)] rfl ?c1 ?c2 ?c3 ?c4 ?c5 ?c6 ?_)
      try case c1 => rfl
      try case c2 => exact cell_one_new _ _ _
      case c3 => exact oneU8 _
      case c4 => unfold maxLen; omega
      case c5 => omega
      case c6 => first | omega | (simp; done) | (simp; omega)
      intro v3 x3 hown3 hg3 _
      have hb3 : Below w.heap.size w x3 := (hB.alloc hbz _).grown hg3 (by first | omega | (simp; done) | (simp; omega)) (fun k h => (ho.lt k h).1)
      have hz3 : w.heap.size ≤ x3.heap.size := Nat.le_trans hbz (by have := hg3.size; simp at this; omega)
      clear hg3 ho
      go_wp2_with fail
      go_roundw
      case rel => exact ⟨k, d + 1, ys ++ [z.toNat / 256 ^ k % 256], by omega, by go_num, by rw [bV_app]; have := hown3; rw [be_byte z h0 k] at this; exact this, hb3, hz3, Lib.hid (by rw [List.append_assoc]; exact hG.out)⟩
      case measure => simp [intOf]
end Go.Proofs.Ytigbbpgfblnboaa
