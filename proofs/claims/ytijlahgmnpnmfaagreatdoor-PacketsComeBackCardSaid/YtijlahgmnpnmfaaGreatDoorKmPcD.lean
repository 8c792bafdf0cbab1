/- Packets: Grow of nothing, append of slices, Concat. -/
import Derived.Test.YtijlahgmnpnmfaaGreatDoorKmCons
import Derived.Test.YtijlahgmnpnmfaaGreatDoorKmPsB
import Derived.Test.YtijlahgmnpnmfaaGreatDoorKmPcA
import Derived.Test.YtijlahgmnpnmfaaGreatDoorKmWaysB
import Derived.Test.YtijlahgmnpnmfaaGreatDoorKmMdD
import Derived.Lib.AppendZerosOnto
import Derived.Lib.SliceRun
import Derived.Laws.AppendOwnNone
import Derived.Maps.AppendAt
import Derived.Laws.CopyOwn
namespace Go.Proofs.YtijlahgmnpnmfaaGreatDoor
open Go.RowKit

/-- Bytes as values. -/
def bV (bs : List Nat) : List Value := bs.map fun (b : Nat) => Value.int .u8 (b : Int)
theorem bV_len (bs : List Nat) : (bV bs).length = bs.length := by simp [bV]
theorem bV_app (xs ys : List Nat) : bV (xs ++ ys) = bV xs ++ bV ys := by simp [bV]
theorem bV_at {bs : List Nat} {j : Nat} {u : Value} (h : (bV bs)[j]? = some u) : ∃ b, bs[j]? = some b ∧ u = .int .u8 (b : Int) := by
  unfold bV at h
  rw [List.getElem?_map] at h
  cases hb : bs[j]? with
  | none => rw [hb] at h; cases h
  | some b => rw [hb] at h; exact ⟨b, rfl, by cases h; rfl⟩
theorem bV_get {bs : List Nat} {j b : Nat} (h : bs[j]? = some b) : (bV bs)[j]? = some (.int .u8 (b : Int)) := by
  unfold bV; rw [List.getElem?_map, h]; rfl
/-- A slice of bytes. -/
def SlB (w : World) (A : Option Addr) (n cap : Nat) (bs : List Nat) : Prop := Sl w A n cap (bV bs)
theorem SlB.below {w w' : World} {A : Option Addr} {n cap : Nat} {bs : List Nat} (h : SlB w A n cap bs) (hb : Below w.heap.size w w') : SlB w' A n cap bs := Sl.below h hb
theorem SlB.len {w : World} {A : Option Addr} {n cap : Nat} {bs : List Nat} (h : SlB w A n cap bs) : n = bs.length := by have := h.1; rwa [bV_len] at this
/-- All are bytes. -/
def Byt (bs : List Nat) : Prop := ∀ b ∈ bs, b < 256
theorem Byt.app {xs ys : List Nat} (h : Byt xs) (k : Byt ys) : Byt (xs ++ ys) := fun b hb => (List.mem_append.1 hb).elim (h b) (k b)

theorem sumP_even {bs : List Nat} {k x : Nat} {z T : Int} (hd : bs.drop k = x :: bs.drop (k + 1)) (he : (k : Int) % 2 = 0) (h : z + (sumP (decide (k % 2 = 0)) (bs.drop k) : Int) = T) :
    z + (x : Int) * 256 + (sumP (decide ((k + 1) % 2 = 0)) (bs.drop (k + 1)) : Int) = T := by
  rw [hd, decide_eq_true (show k % 2 = 0 by omega)] at h
  rw [decide_eq_false (show ¬ (k + 1) % 2 = 0 by omega)]
  simp only [sumP] at h
  omega
theorem sumP_odd {bs : List Nat} {k x : Nat} {z T : Int} (hd : bs.drop k = x :: bs.drop (k + 1)) (he : ¬ (k : Int) % 2 = 0) (h : z + (sumP (decide (k % 2 = 0)) (bs.drop k) : Int) = T) :
    z + (x : Int) + (sumP (decide ((k + 1) % 2 = 0)) (bs.drop (k + 1)) : Int) = T := by
  rw [hd, decide_eq_false (show ¬ k % 2 = 0 by omega)] at h
  rw [decide_eq_true (show (k + 1) % 2 = 0 by omega)]
  simp only [sumP] at h
  omega
theorem fd_toNat {z : Int} (h0 : 65535 < z) : fd (z / 65536 + z % 65536).toNat = fd z.toNat := by
  have e : (z / 65536 + z % 65536).toNat = z.toNat / 65536 + z.toNat % 65536 := by omega
  rw [e]; exact fd_step (by omega)
theorem and16i (x : Int) (h1 : 0 ≤ x) (h2 : x < 9223372036854775808) : bits .and .i64 x 65535 = x % 65536 := by
  have hm : (BitVec.ofInt 64 65535).toNat = 2 ^ 16 - 1 := by decide
  have key : (BitVec.ofInt 64 x &&& BitVec.ofInt 64 65535).toNat = (x % ((2 ^ 64 : Nat) : Int)).toNat % 2 ^ 16 := by
    rw [BitVec.toNat_and, BitVec.toNat_ofInt, hm, Nat.and_two_pow_sub_one_eq_mod]
  show IntKind.i64.wrap ((BitVec.ofInt 64 x &&& BitVec.ofInt 64 65535).toNat : Nat) = x % 65536
  rw [key, IntKind.wrap_i64]
  omega

set_option maxHeartbeats 2000000 in
theorem sum_any (A : Option Addr) (n cap : Nat) (bs : List Nat) (w : World) (hS : SlB w A n cap bs) (hn : n ≤ 100000) (hb : Byt bs) :
    Calls Tryz.prog 27 #[.slice A n cap] w fun e w' => e = .returned (.int .i64 (sumR bs)) ∧ Below w.heap.size w w' := by
  have hl := Lib.hid hS.len
  have h3 := Lib.hid hS.2.2
  clear hS
  replace hb := Lib.hid hb
  have hT := Lib.hid (show (sumP true bs : Int) ≤ 65280 * n from by have := sumP_le bs true hb.out; have := hl.out; omega)
  go_enter Tryz.func27, Tryz.ntmps27
  go_wp2_with fail
  go_loop [3, 8] (fun s c => ∃ (k : Nat) (z : Int), k ≤ n ∧ c = .int .i64 k ∧ s = .int .i64 z ∧ 0 ≤ z ∧ z ≤ 65280 * 100000 ∧ Hid (z + (sumP (decide (k % 2 = 0)) (bs.drop k) : Int) = (sumP true bs : Int))) (fun _ c => n - (intOf c).toNat)
  case atStart => exact ⟨0, 0, Nat.zero_le _, rfl, rfl, by omega, by omega, Lib.hid (by simp)⟩
  case round =>
    obtain ⟨k, z, hk, rfl, rfl, hz0, hz1, hG⟩ := hrel
    by_cases hlt : k < n
    · obtain ⟨x, hx⟩ : ∃ x, bs[k]? = some x := ⟨bs[k]'(by have := hl.out; omega), List.getElem?_eq_getElem _⟩
      have hx256 := hb.out x (List.mem_of_getElem? hx)
      obtain ⟨g, off, rfl, hg, hc⟩ : ∃ g off, A = some ⟨g, off, none⟩ ∧ g < w.heap.size ∧ ∀ j u, (bV bs)[j]? = some u → w.cell? ⟨g, off + j, none⟩ = some u := by
        rcases h3.out with h | h
        · omega
        · exact h
      have c0 := hc k _ (bV_get hx)
      clear hc
      have hdr := Lib.hid (drop_at hx)
      clear hx
      obtain ⟨y, hy⟩ : ∃ y : Int, y = (x : Int) := ⟨_, rfl⟩
      rw [← hy] at c0
      have hy0 : 0 ≤ y := by omega
      have hy1 : y < 256 := by omega
      replace hy := Lib.hid hy
      clear hx256
      by_cases he : (k : Int) % 2 = 0
      · go_wp2_with fail
        go_round
        case rel => exact ⟨k + 1, z + y * 256, by omega, by go_num, rfl, by omega, by have := sumP_even hdr.out he hG.out; have := hy.out; have := hT.out; omega, Lib.hid (by rw [hy.out]; exact sumP_even hdr.out he hG.out)⟩
        case measure => simp [intOf]; omega
      · go_wp2_with fail
        go_round
        case rel => exact ⟨k + 1, z + y, by omega, by go_num, rfl, by omega, by have := sumP_odd hdr.out he hG.out; have := hy.out; have := hT.out; omega, Lib.hid (by rw [hy.out]; exact sumP_odd hdr.out he hG.out)⟩
        case measure => simp [intOf]; omega
    · go_wp2_with fail
      have hkl : k = n := by omega
      have hz := Lib.hid (show z = (sumP true bs : Int) from by
        have h := hG.out
        rw [hkl, hl.out, List.drop_length] at h
        cases hd : decide (bs.length % 2 = 0) <;> rw [hd] at h <;> simp [sumP] at h <;> omega)
      clear hG hkl hT
      go_loop [3] (fun s => ∃ z : Int, s = .int .i64 z ∧ 0 ≤ z ∧ z ≤ 65280 * 100000 ∧ Hid (fd z.toNat = fd (sumP true bs))) (fun s => (intOf s).toNat)
      case atStart => exact ⟨z, rfl, hz0, hz1, Lib.hid (by rw [hz.out]; rfl)⟩
      case round =>
        clear hz hz0 hz1
        obtain ⟨z, rfl, hz0, hz1, hF⟩ := hrel
        by_cases hgt : 65535 < z
        · have hand := and16i z hz0 (by omega)
          go_wp2_with fail
          go_round
          case rel => exact ⟨z / 65536 + z % 65536, rfl, by omega, by omega, Lib.hid (by rw [fd_toNat hgt]; exact hF.out)⟩
          case measure => simp only [intOf]; omega
        · go_wp2_with fail
          go_ret
          exact ⟨by
            have h : (z : Int) = (fd (sumP true bs) : Int) := by rw [← hF.out, fd_small (by omega)]; omega
            show Ending.returned (.int .i64 (65535 - z)) = _
            rw [h]; rfl, Below.refl _ _⟩

end Go.Proofs.YtijlahgmnpnmfaaGreatDoor
namespace Go.Proofs.YtijlahgmnpnmfaaGreatDoor
open Go.RowKit

theorem info_u8 : (Tryz.prog.info? 5).map (fun i => (i.zero, i.size, i.bytes)) = some (some (.int .u8 0), 1, 1) := by kernel_rfl
theorem info_parts8 {o : Option TypeInfo} {z : Option Value} {s b : Nat} (h : o.map (fun i => (i.zero, i.size, i.bytes)) = some (z, s, b)) : ∃ i, o = some i ∧ i.zero = z ∧ i.size = s ∧ i.bytes = b := by
  cases o with
  | none => cases h
  | some i => exact ⟨i, rfl, by cases h; rfl, by cases h; rfl, by cases h; rfl⟩

theorem be_byte (z : Int) (h0 : 0 ≤ z) (k : Nat) : z / 2 ^ (8 * k) % 256 = ((z.toNat / 256 ^ k % 256 : Nat) : Int) := by
  obtain ⟨n, rfl⟩ := Int.eq_ofNat_of_zero_le h0
  have e : (256 : Nat) ^ k = 2 ^ (8 * k) := by rw [Nat.pow_mul]
  rw [Int.toNat_natCast, e, Int.natCast_emod, Int.natCast_ediv, Int.natCast_pow]
  rfl
/-- What an append to v that gives v' leaves: all blocks but v's. -/
structure Fr (w w' : World) (v v' : Value) : Prop where
  gb : w.grownBy w' v.ownBlock
  at' : ∀ p, p < w.heap.size → v.ownBlock ≠ some p → v'.ownBlock ≠ some p
theorem Fr.refl (w : World) (v : Value) : Fr w w v v := ⟨World.grownBy.refl _ _, fun _ _ h => h⟩
theorem Fr.trans {a b c : World} {u v x : Value} (h : Fr a b u v) (k : Fr b c v x) : Fr a c u x :=
  ⟨⟨k.gb.os.trans h.gb.os, k.gb.tape.trans h.gb.tape, k.gb.output.trans h.gb.output, Nat.le_trans h.gb.size k.gb.size, fun p hp hne => (k.gb.block p (Nat.lt_of_lt_of_le hp h.gb.size) (fun e => h.at' p hp (fun e' => hne e'.symm) e.symm)).trans (h.gb.block p hp hne)⟩,
   fun p hp hne => k.at' p (Nat.lt_of_lt_of_le hp h.gb.size) (h.at' p hp hne)⟩
theorem Fr.alloc {w w' : World} {v v' : Value} (o : Obj) (h : Fr (w.alloc o) w' v v') : Fr w w' v v' :=
  ⟨gb_trans (World.grownBy_alloc w o v.ownBlock) h.gb, fun p hp hne => h.at' p (by simp; omega) hne⟩
theorem Fr.step {w w' : World} {v v' : Value} (h : w.grownBy w' v.ownBlock) (k : v'.ownBlock = v.ownBlock ∨ v'.ownBlock = some w.heap.size) : Fr w w' v v' :=
  ⟨h, fun p hp hne e => by
    rcases k with k | k
    · exact hne (k.symm.trans e)
    · rw [k] at e; cases e; omega⟩
theorem oneU8 (x : Int) : ∀ u ∈ [Value.int .u8 x], u.oneCell' = true := by intro u hu; rw [List.mem_singleton.1 hu]; rfl

set_option maxHeartbeats 2000000 in
set_option maxRecDepth 100000 in
theorem numb_any (base m size : Nat) (v : Value) (xs : List Nat) (z : Int) (w : World) (hown : w.ownsRow base 5 1 v m (bV xs)) (hbase : base ≤ w.heap.size) (hm : m ≤ 100000) (hs : size ≤ 8) (h0 : 0 ≤ z) (h1 : z < 18446744073709551616) :
    Calls Tryz.prog 38 #[v, .int .i64 size, .int .u64 z] w fun e w' => ∃ v', e = .returned v' ∧ w'.ownsRow base 5 1 v' (m + size) (bV (xs ++ be z.toNat size)) ∧ Below base w w' ∧ Fr w w' v v' := by
  obtain ⟨i0, hi0, hz0, hz1, hz2⟩ := info_parts8 info_u8
  replace hown := Lib.hid hown
  replace h1 := Lib.hid h1
  go_enter Tryz.func38, Tryz.ntmps38
  go_wp2_with fail
  go_loopw [0, 7] (fun o i wr => ∃ (k d : Nat) (ys : List Nat), k + d = size ∧ i = .int .i64 ((k : Int) - 1) ∧ wr.ownsRow base 5 1 o (m + d) (bV ys) ∧ Below base w wr ∧ Fr w wr v o ∧ base ≤ wr.heap.size ∧ Hid (ys ++ be z.toNat k = xs ++ be z.toNat size)) (fun _ i _ => (intOf i + 1).toNat)
  case atStart => exact ⟨size, 0, xs, by omega, rfl, hown.out, Below.refl _ _, Fr.refl _ _, hbase, Lib.hid rfl⟩
  case round =>
    obtain ⟨k, d, ys, hkd, rfl, ho, hB, hF, hbz, hG⟩ := hrel
    clear hown
    cases k with
    | zero =>
      have hd : d = size := by omega
      replace hd := Lib.hid hd
      go_wp2_with fail
      go_ret
      refine ⟨u0, rfl, ?_, hB, hF⟩
      have h := hG.out
      simp only [be, List.append_nil] at h
      rw [← h, ← hd.out]; exact ho
    | succ k =>
      have hk8 : k < 8 := by omega
      go_wp2_with (at_builtin; refine wpList_append_own_at _ rfl _ _ 29 rfl base 5 i0 (.int .u8 0) 1 1 Tryz.underlying29 hi0 hz0 hz1 hz2 rfl (by decide) _ _ _ rfl (ho.alloc _) ⟨wr.heap.size, 0, none⟩ 1 1 [.int .u8 (z / 2 ^ (8 * k) % 256)] rfl ?c1 ?c2 ?c3 ?c4 ?c5 ?c6 ?_)
      try case c1 => rfl
      try case c2 => exact cell_one_new _ _ _
      case c3 => exact oneU8 _
      case c4 => unfold maxLen; omega
      case c5 => omega
      case c6 => first | omega | (simp; done) | (simp; omega)
      intro v3 x3 hown3 hg3 _ hat3
      have hF3 := hF.trans (Fr.alloc _ (Fr.step hg3 (hat3.imp id (fun h => h.trans (by simp)))))
      have hb3 : Below base w x3 := (hB.alloc hbz _).grown hg3 (by first | omega | (simp; done) | (simp; omega)) (fun k h => (ho.lt k h).1)
      have hz3 : base ≤ x3.heap.size := Nat.le_trans hbz (by have := hg3.size; simp at this; omega)
      clear hg3 ho hat3 hF
      go_wp2_with fail
      go_roundw
      case rel => exact ⟨k, d + 1, ys ++ [z.toNat / 256 ^ k % 256], by omega, by go_num, by rw [bV_app]; have := hown3; rw [be_byte z h0 k] at this; exact this, hb3, hF3, hz3, Lib.hid (by rw [List.append_assoc]; exact hG.out)⟩
      case measure => simp [intOf]
end Go.Proofs.YtijlahgmnpnmfaaGreatDoor
namespace Go.Proofs.YtijlahgmnpnmfaaGreatDoor
/-- Bytes as a number, the highest one first. -/
def numF : List Nat → Nat
  | [] => 0
  | x :: r => x * 256 ^ r.length + numF r
theorem Byt.tail {x : Nat} {r : List Nat} (h : Byt (x :: r)) : x < 256 ∧ Byt r := ⟨h x (List.mem_cons_self ..), fun b hb => h b (List.mem_cons_of_mem _ hb)⟩
theorem numF_lt : ∀ l, Byt l → numF l < 256 ^ l.length
  | [], _ => by simp [numF]
  | x :: r, h => by
    have h1 := numF_lt r h.tail.2
    have h2 := h.tail.1
    rw [numF, List.length_cons, Nat.pow_succ]
    have : x * 256 ^ r.length ≤ 255 * 256 ^ r.length := Nat.mul_le_mul_right _ (by omega)
    omega
theorem numF_snoc : ∀ (l : List Nat) (x : Nat), numF (l ++ [x]) = numF l * 256 + x
  | [], x => by simp [numF]
  | y :: r, x => by
    rw [List.cons_append, numF, numF_snoc r x, numF, List.length_append, List.length_singleton, Nat.pow_succ, Nat.add_mul, Nat.mul_assoc]
    omega
theorem be_add (a m j : Nat) : ∀ k, k ≤ j → be (a * 256 ^ j + m) k = be m k
  | 0, _ => rfl
  | k + 1, h => by
    rw [be, be, be_add a m j k (by omega)]
    congr 1
    obtain ⟨d, rfl⟩ : ∃ d, j = d + 1 + k := ⟨j - k - 1, by omega⟩
    have e : a * 256 ^ (d + 1 + k) = (a * 256 ^ d * 256) * 256 ^ k := by rw [Nat.pow_add, Nat.pow_succ]; simp only [Nat.mul_assoc]
    rw [e, Nat.mul_comm _ (256 ^ k), Nat.mul_add_div (Nat.pow_pos (by decide))]
    omega
theorem be_numF : ∀ l, Byt l → be (numF l) l.length = l
  | [], _ => rfl
  | x :: r, h => by
    have h1 := numF_lt r h.tail.2
    have h2 := h.tail.1
    rw [List.length_cons, be, numF, be_add _ _ _ _ (Nat.le_refl _), be_numF r h.tail.2]
    congr 1
    rw [Nat.mul_comm, Nat.mul_add_div (Nat.pow_pos (by decide)), Nat.div_eq_of_lt h1]
    omega
theorem numF_be (n : Nat) : ∀ k, numF (be n k) = n % 256 ^ k
  | 0 => by simp [be, numF, Nat.mod_one]
  | k + 1 => by
    have hl : ∀ k, (be n k).length = k := by intro k; induction k with | zero => rfl | succ k ih => rw [be, List.length_cons, ih]
    rw [be, numF, numF_be n k, hl, Nat.pow_succ, Nat.mod_mul, Nat.mul_comm, Nat.add_comm]
theorem numF_pos : ∀ (l : List Nat), Byt l → numF l = 0 → ∀ x ∈ l, x = 0
  | [], _, _ => by simp
  | y :: r, hb, h => by
    rw [numF] at h
    have hp : 0 < 256 ^ r.length := Nat.pow_pos (by decide)
    have h1 : y * 256 ^ r.length = 0 := by omega
    have h2 : numF r = 0 := by omega
    intro x hx
    rcases List.mem_cons.1 hx with rfl | hx
    · rcases Nat.mul_eq_zero.1 h1 with h | h
      · exact h
      · omega
    · exact numF_pos r hb.tail.2 h2 x hx
/-- So many bytes as a number. -/
def nb (bs : List Nat) (i k : Nat) : Nat := numF ((bs.drop i).take k)
theorem Byt.sub {bs : List Nat} (h : Byt bs) (i k : Nat) : Byt ((bs.drop i).take k) := fun b hb => h b (List.mem_of_mem_drop (List.mem_of_mem_take hb))
theorem Byt.getD {bs : List Nat} (h : Byt bs) (i : Nat) : bs.getD i 0 < 256 := by
  rw [List.getD_eq_getElem?_getD]
  cases hc : bs[i]? with
  | none => simp
  | some x => exact h x (List.mem_of_getElem? hc)
theorem nb_lt {bs : List Nat} (h : Byt bs) (i k : Nat) : nb bs i k < 256 ^ k := by
  unfold nb
  refine Nat.lt_of_lt_of_le (numF_lt _ (h.sub i k)) (Nat.pow_le_pow_right (by decide) ?_)
  rw [List.length_take]; omega
theorem be_nb {bs : List Nat} (h : Byt bs) (i k : Nat) (hl : i + k ≤ bs.length) : be (nb bs i k) k = (bs.drop i).take k := by
  have e : ((bs.drop i).take k).length = k := by rw [List.length_take, List.length_drop]; omega
  have := be_numF _ (h.sub i k)
  rw [e] at this
  exact this
theorem splice_app {α : Type} (x y g : List α) (k : Nat) (h : k + g.length ≤ x.length) : splice (x ++ y) k g = splice x k g ++ y := by
  unfold splice
  rw [List.take_append_of_le_length (by omega), List.drop_append_of_le_length (by omega)]
  simp only [List.append_assoc]
theorem splice_twice {α : Type} (x g g' : List α) (k : Nat) (h : k + g.length ≤ x.length) (he : g'.length = g.length) : splice (splice x k g) k g' = splice x k g' := by
  have e : (x.take k).length = k := by rw [List.length_take]; omega
  unfold splice
  rw [he, List.take_append_of_le_length (by omega), List.take_of_length_le (by omega : (x.take k).length ≤ k), List.drop_append, e, List.drop_of_length_le (by omega : (x.take k).length ≤ k + g.length)]
  rw [show k + g.length - k = g.length by omega, List.drop_append_of_le_length (Nat.le_refl _), List.drop_of_length_le (Nat.le_refl _)]
  rfl
theorem splice_self {α : Type} (x : List α) (k n : Nat) (h : k + n ≤ x.length) : splice x k ((x.drop k).take n) = x := by
  have e : ((x.drop k).take n).length = n := by rw [List.length_take, List.length_drop]; omega
  unfold splice
  rw [e, ← List.drop_drop, List.take_append_drop, List.take_append_drop]
theorem splice_inj {α : Type} {x g g' : List α} {k : Nat} (h : splice x k g = splice x k g') (he : g'.length = g.length) : g = g' := by
  unfold splice at h
  have h1 := List.append_cancel_left h
  exact List.append_inj_left h1 he.symm
theorem splice_len' {α : Type} (x g : List α) (k : Nat) (h : k + g.length ≤ x.length) : (splice x k g).length = x.length := by
  unfold splice; simp; omega
/-- The protocol that a number tells; 0 if none. -/
def protoN (six : Bool) (c : Nat) : Int :=
  if six then (if c = 58 then 1 else if c = 6 then 6 else if c = 17 then 17 else 0) else (if c = 1 then 1 else if c = 6 then 6 else if c = 17 then 17 else 0)
end Go.Proofs.YtijlahgmnpnmfaaGreatDoor
namespace Go.Proofs.YtijlahgmnpnmfaaGreatDoor
open Go.RowKit

set_option maxHeartbeats 2000000 in
set_option maxRecDepth 100000 in
theorem grow_any (t : Nat) (w : World) (h1t : 1 ≤ t) (ht : t ≤ 100000) :
    Calls Tryz.prog 120 #[.slice none 0 0, .int .i64 t] w fun e w' => ∃ v, e = .returned v ∧ w'.ownsRow w.heap.size 5 1 v 0 [] ∧ Below w.heap.size w w' := by
  obtain ⟨i0, hi0, hz0, hz1, hz2⟩ := info_parts8 info_u8
  have hrz : ∀ ty, (Builtin.append_ #[29, 3] ty #[.slice none 0 0, .int .i64 t]).run Tryz.prog w =
      .ok (.slice (some ⟨w.heap.size, 0, none⟩) (0 + t) (grownCap w (0 + t) 0 5)) (w.drew.alloc (.cells (#[] ++ Builtin.zeroCells (Value.int .u8 0).cells t ++ Builtin.zeroCells (Value.int .u8 0).cells (grownCap w (0 + t) 0 5 - (0 + t))) 5)) := fun ty => by
    have h := Lib.run_append_grow_zeros w 29 3 ty 5 i0 (.int .u8 0) .i64 .i64 Tryz.underlying29 Tryz.underlying3 hi0 hz0 none 0 0 [] (run_firstCells_none w.drew i0.size 0 0 0) t (by first | omega | (rw [hz2]; omega)) (by first | omega | (rw [hz2]; omega)) (by first | omega | (rw [hz2]; omega)) (by first | omega | (rw [hz2]; omega)) (by first | omega | (rw [hz2]; omega)) (growslice_fits (by first | omega | (rw [hz2]; omega)) (by first | omega | (rw [hz2]; omega)))
    exact h
  obtain ⟨G, hG⟩ : ∃ G, G = grownCap w (0 + t) 0 5 := ⟨_, rfl⟩
  have hG8 : t ≤ G := by rw [hG]; have := grownCap_ge w (0 + t) 0 5; omega
  have hG63 : G ≤ maxLen := by rw [hG]; exact grownCap_le_maxLen w (0 + t) 0 5 (by unfold maxLen; omega)
  rw [← hG] at hrz
  have hZ : (#[] ++ Builtin.zeroCells (Value.int .u8 0).cells t ++ Builtin.zeroCells (Value.int .u8 0).cells (G - (0 + t))).size = G := by
    simp [Builtin.zeroCells, Value.cells]; omega
  obtain ⟨Z, hZ0⟩ : ∃ Z, Z = (#[] ++ Builtin.zeroCells (Value.int .u8 0).cells t ++ Builtin.zeroCells (Value.int .u8 0).cells (G - (0 + t))) := ⟨_, rfl⟩
  rw [← hZ0] at hrz hZ
  have hW : (w.drew.alloc (.cells Z 5)).ownsRow w.heap.size 5 1 (.slice (some ⟨w.heap.size, 0, none⟩) 0 G) 0 [] := by
    refine ⟨rfl, .inr ⟨w.heap.size, G, Z, rfl, Nat.le_refl _, ?_, Nat.zero_le _, hG63, by omega, by simp⟩⟩
    simp [World.alloc, World.drew, -World.alloc_eq, -World.drew_eq]
  have hb : Below w.heap.size w (w.drew.alloc (.cells Z 5)) := (Below.drew (Below.refl _ w)).alloc (Nat.le_refl _) _
  have hG63' : G ≤ 9223372036854775807 := by unfold maxLen at hG63; omega
  clear hZ0 hZ hG hG63
  replace hW := Lib.hid hW
  replace hb := Lib.hid hb
  go_enter Tryz.func120, Tryz.ntmps120
  go_wp2_with (at_builtin; refine Lib.wpList_append_run _ rfl _ _ _ _ rfl _ _ rfl rfl _ _ (hrz _) ?_)
  go_ret
  exact ⟨_, rfl, hW.out, hb.out⟩

/-- append of a slice that reads as a list, to one's own row. -/
theorem append_slB {w : World} {ops : Array Oper} {rest : List Oper} {o : Oper} {a : Act} {Q : Exit → Act → World → Prop} (hgd : o.guard = none) (s x : Operand)
    (ho : o.op = .call { callee := .builtin .append, args := #[s, x], argTypes := #[29, 29] })
    (base : Nat) (v : Value) (n : Nat) (xs : List Value) (hs : a.eval s = v) (hown : w.ownsRow base 5 1 v n xs)
    (A : Option Addr) (m c : Nat) (gs : List Nat) (hx : a.eval x = .slice A m c) (hS : SlB w A m c gs) (hA : A = none → c = 0) (hb : n + m ≤ 1000000) (hbase : base ≤ w.heap.size)
    (h : ∀ v' w', w'.ownsRow base 5 1 v' (n + m) (xs ++ bV gs) → w.grownBy w' v.ownBlock → wpList Tryz.prog ops Q rest (a.put o.dst v') w') : wpList Tryz.prog ops Q (o :: rest) a w := by
  obtain ⟨i0, hi0, hz0, hz1, hz2⟩ := info_parts8 info_u8
  cases A with
  | none =>
    obtain rfl := hA rfl
    have hm : m = 0 := by
      rcases hS.2.2 with h0 | ⟨_, _, h0, _⟩
      · exact h0
      · cases h0
    subst hm
    have hg : gs = [] := by
      exact List.eq_nil_of_length_eq_zero hS.len.symm
    subst hg
    refine wpList_append_own_none hgd s x 29 ho base 5 i0 1 Tryz.underlying29 hi0 v n xs hs hown hx ?_
    refine h v w (by simpa [bV] using hown) ?_
    exact World.grownBy.refl _ _
  | some ad =>
    refine wpList_append_own w hgd s x 29 ho base 5 i0 (.int .u8 0) 1 1 Tryz.underlying29 hi0 hz0 hz1 hz2 rfl (by decide) v n xs hs hown ad m c (bV gs) hx (by rw [Nat.mul_one]; exact hS.1.symm) (fun j u hj => ?_) (fun u hu => ?_) (by unfold maxLen; omega) (by omega) hbase (fun v' w' h1 h2 _ => h v' w' h1 h2)
    · rcases hS.2.2 with h0 | ⟨g, off, h0, _, h2⟩
      · have h1 : (bV gs).length = 0 := by rw [← hS.1]; exact h0
        rw [List.eq_nil_of_length_eq_zero h1] at hj
        cases hj
      · cases h0
        have e : Addr.add ⟨g, off, none⟩ j = ⟨g, off + j, none⟩ := by
          unfold Addr.add
          split
          · rename_i h; subst h; rfl
          · rfl
        rw [e]
        exact h2 j u hj
    · obtain ⟨g, _, rfl⟩ := List.mem_map.1 hu
      rfl


/-- A slice that is one of some. -/
structure SS where
  A : Option Addr
  n : Nat
  cap : Nat
  bs : List Nat
def SS.ok (w : World) (s : SS) : Prop := SlB w s.A s.n s.cap s.bs ∧ (s.A = none → s.cap = 0)
theorem SS.ok.below {w w' : World} {s : SS} (h : s.ok w) (hb : Below w.heap.size w w') : s.ok w' := ⟨h.1.below hb, h.2⟩
def totS (ss : List SS) : Nat := (ss.map SS.n).sum
def flatS (ss : List SS) : List Nat := (ss.map SS.bs).flatten
theorem tot_step {ss : List SS} {k : Nat} {s : SS} (h : ss[k]? = some s) : totS (ss.take (k + 1)) = totS (ss.take k) + s.n := by
  unfold totS; rw [List.take_add_one, h]; simp
theorem totS_le (ss : List SS) (k : Nat) : totS (ss.take k) ≤ totS ss := by
  have : totS ss = totS (ss.take k) + totS (ss.drop k) := by
    unfold totS; rw [← List.sum_append, ← List.map_append, List.take_append_drop]
  omega
theorem flat_step {ss : List SS} {k : Nat} {s : SS} (h : ss[k]? = some s) : flatS (ss.take (k + 1)) = flatS (ss.take k) ++ s.bs := by
  unfold flatS; rw [List.take_add_one, h]; simp

set_option maxHeartbeats 4000000 in
set_option maxRecDepth 100000 in
theorem concat_any (B m : Nat) (ss : List SS) (w : World) (hm : m = ss.length) (hcell : ∀ i s, ss[i]? = some s → w.cell? ⟨B, i, none⟩ = some (.slice s.A s.n s.cap)) (hok : ∀ s ∈ ss, s.ok w) (h1 : 1 ≤ totS ss) (h2 : totS ss ≤ 100000) (hmm : m ≤ 10) :
    Calls Tryz.prog 64 #[.slice (some ⟨B, 0, none⟩) m m] w fun e w' => ∃ v, e = .returned v ∧ w'.ownsRow w.heap.size 5 1 v (totS ss) (bV (flatS ss)) ∧ Below w.heap.size w w' := by
  have HG := Lib.hid (grow_any (totS ss) w h1 h2)
  replace hok := Lib.hid hok
  replace hm := Lib.hid hm
  obtain ⟨T, hT⟩ : ∃ T : Nat, T = totS ss := ⟨_, rfl⟩
  rw [← hT] at HG h1 h2 ⊢
  replace hT := Lib.hid hT
  go_enter Tryz.func64, Tryz.ntmps64
  go_wp2_with fail
  go_loop [3, 11] (fun s c => ∃ (k t : Nat), k ≤ m ∧ c = .int .i64 k ∧ s = .int .i64 t ∧ t ≤ T ∧ Hid (t = totS (ss.take k))) (fun _ c => m - (intOf c).toNat)
  case atStart => exact ⟨0, 0, Nat.zero_le _, rfl, rfl, Nat.zero_le _, Lib.hid (by simp [totS])⟩
  case round =>
    obtain ⟨k, t, hk, rfl, rfl, ht, hG⟩ := hrel
    by_cases hlt : k < m
    · obtain ⟨s, hs⟩ : ∃ s, ss[k]? = some s := ⟨ss[k]'(by have := hm.out; omega), List.getElem?_eq_getElem _⟩
      have c0 := hcell k s hs
      have hst := tot_step hs
      have hle := totS_le ss (k + 1)
      have hts : t + s.n ≤ T := by have := hG.out; have := hT.out; omega
      have hst' := Lib.hid (show t + s.n = totS (ss.take (k + 1)) by have := hG.out; omega)
      clear hst hle hcell HG
      generalize s.n = sn at c0 hts hst'
      go_wp2_with fail
      go_round
      case rel => exact ⟨k + 1, t + sn, by omega, by go_num, rfl, hts, hst'⟩
      case measure => simp [intOf]; omega
    · have hkm : k = m := by omega
      have htT : t = T := by have := hG.out; rw [hkm, hm.out, List.take_length] at this; have := hT.out; omega
      subst htT
      replace hcell := Lib.hid hcell
      clear hG
      go_wp2_with fail
      refine HG.out.mono ?_
      rintro e w1 ⟨v0, rfl, hown0, hb0⟩
      replace hown0 := Lib.hid hown0
      clear HG
      go_wp2_with fail
      go_loopw [6, 27] (fun o c wr => ∃ k : Nat, k ≤ m ∧ c = .int .i64 k ∧ wr.ownsRow w.heap.size 5 1 o (totS (ss.take k)) (bV (flatS (ss.take k))) ∧ Below w.heap.size w wr ∧ w.heap.size ≤ wr.heap.size) (fun _ c _ => m - (intOf c).toNat)
      case atStart => exact ⟨0, Nat.zero_le _, rfl, by simpa [totS, flatS, bV] using hown0.out, hb0, hb0.size⟩
      case round =>
        obtain ⟨k, hk, rfl, hown, hb, hz⟩ := hrel
        clear hown0 hb0
        by_cases hlt2 : k < m
        · obtain ⟨s, hs⟩ : ∃ s, ss[k]? = some s := ⟨ss[k]'(by have := hm.out; omega), List.getElem?_eq_getElem _⟩
          have c1 := hcell.out k s hs
          have hBw : B < w.heap.size := World.block_lt_of_cell? w _ c1
          have c0 : wr.cell? ⟨B, k, none⟩ = some (.slice s.A s.n s.cap) := (hb.cell (p := ⟨B, k, none⟩) hBw).trans c1
          have hok1 := hok.out s (List.mem_of_getElem? hs)
          have hle := totS_le ss (k + 1)
          have hst := tot_step hs
          have hS := Lib.hid (hok1.1.keep hz fun j hj => hb.block j hj)
          have hA := Lib.hid hok1.2
          have hbd : totS (ss.take k) + s.n ≤ 1000000 := by have := hT.out; omega
          have hst := Lib.hid hst
          have hfs := Lib.hid (flat_step hs)
          obtain ⟨tk, htk⟩ : ∃ tk, tk = totS (ss.take k) := ⟨_, rfl⟩
          obtain ⟨xk, hxk⟩ : ∃ xk, xk = bV (flatS (ss.take k)) := ⟨_, rfl⟩
          rw [← htk, ← hxk] at hown
          rw [← htk] at hbd
          replace htk := Lib.hid htk
          replace hxk := Lib.hid hxk
          clear c1 hok1 hle
          go_wp2_with (at_builtin; refine append_slB rfl _ _ rfl w.heap.size _ _ _ rfl hown s.A s.n s.cap s.bs rfl hS.out hA.out hbd hz ?_)
          intro v1 x1 hown1 hg1
          have hb1 : Below w.heap.size w x1 := hb.grown hg1 hz (fun k h => (hown.lt k h).1)
          have hz1 := hb1.size
          clear hg1 hown
          go_wp2_with fail
          go_roundw
          case rel => exact ⟨k + 1, by omega, by go_num, by rw [hst.out, hfs.out, bV_app, ← htk.out, ← hxk.out]; exact hown1, hb1, hz1⟩
          case measure => simp [intOf]; omega
        · have hkm2 : k = m := by omega
          have hfin := hown
          rw [hkm2, hm.out, List.take_length] at hfin
          replace hfin := Lib.hid hfin
          clear hown
          go_wp2_with fail
          go_ret
          exact ⟨_, rfl, by rw [hT.out]; exact hfin.out, hb⟩
end Go.Proofs.YtijlahgmnpnmfaaGreatDoor
