/- What is read of slices; the eight groups of an address as the program lists them. -/
import Derived.Test.YtfiocnjogbpgoaaGreatDoorKjHex
import Derived.Lib.ItoaMem
import Derived.Lib.AppendIntMem
import Derived.Test.YtfiocnjogbpgoaaGreatDoorKjAddressed
namespace Go.Proofs.YtfiocnjogbpgoaaGreatDoor
open Go.RowKit Go.Sort Go.Lib

theorem itoa_gives (u : Nat) (hu : u < 9223372036854775808) (w : World) (htab : Tabs w) :
    Calls Tryz.prog 37 #[.int .i64 (u : Int)] w (GivesV (.string ⟨(Lib.decDigits u).toArray⟩) w) := by
  refine (Tryz.strconv_Itoa (u : Int) (by omega) (by omega) w htab.2.1).mono ?_
  rintro e w' ⟨rfl, k, os, rfl⟩
  refine ⟨by rw [Lib.itoa_nonneg], Lib.below_grow _ _ (Nat.le_refl _) k os⟩

theorem holds_zero0 (w : World) (T : TypeId) (nd : Nat) (hs : nd ≤ 24) : Holds (fun (b : UInt8) => Value.int .u8 (b.toNat : Int)) (w.alloc (.cells Lib.zeros24 T)) w.heap.size 0 (Array.replicate nd (0 : UInt8)) := fun j hj => by
  have hj' : j < nd := by simpa using hj
  refine ⟨?_, World.frozen?_alloc_new _ _ _ _⟩
  rw [World.cell?_alloc_new, Lib.zeros24_at _ (by omega), getElem!_pos _ j hj]
  simp

set_option maxHeartbeats 1000000 in
set_option maxRecDepth 100000 in
theorem fmtU10_in (u : Nat) (hu64 : u < 18446744073709551616) (w : World) (htab : Tabs w) :
    Calls Tryz.prog 118 #[.int .u64 (u : Int), .int .i64 10] w (GivesV (.string ⟨(Lib.decDigits u).toArray⟩) w) := by
  by_cases hs : u < 100
  · have hs' : (u : Int) < 100 := by omega
    have HS := fun w' => Lib.hid (Tryz.internal_strconv_small u hs w')
    go_enter Tryz.func118, Tryz.ntmps118
    go_wp2_with fail
    refine (HS _).out.mono ?_
    rintro e w' ⟨rfl, rfl⟩
    go_wp2_with fail
    go_ret
    exact ⟨rfl, Below.refl _ _⟩
  · have hu1 : 1 ≤ u := by omega
    have hs' : ¬ (u : Int) < 100 := by omega
    have hnd20 : Lib.nDigits u ≤ 20 := by have := Lib.numDigits_eq u hu1 hu64; split at this <;> omega
    have hb3 : Lib.nDigits u ≤ 24 := by omega
    have hal : Tryz.prog.arrayLen 225 = 24 := by simp [Program.arrayLen, Tryz.underlying225]
    have hsl1 : ∀ W, (Instr.sliceAt 225 (.pointer (some ⟨w.heap.size, 0, none⟩)) none (some (.int .i64 (Lib.nDigits u : Int))) none).run Tryz.prog W = .ok (.slice (some ⟨w.heap.size, 0, none⟩) (Lib.nDigits u) 24) W := fun W => by
      rw [run_sliceAt_array_h W 225 ⟨w.heap.size, 0, none⟩ (by simp [Program.arrayLen, Program.elem, Tryz.underlying225]) .i64 (Lib.nDigits u : Int) (by omega) (by rw [hal]; omega)]
      go_simp
    have hH0 := holds_zero0 w 225 (Lib.nDigits u) hb3
    have hfmt := Tryz.internal_strconv_formatBase10 w.heap.size 0 24 u (Array.replicate (Lib.nDigits u) 0) (w.alloc (.cells Lib.zeros24 225)) hH0 (by rw [Array.size_replicate]; exact Lib.lt_pow_nDigits u) hu64 (by rw [Array.size_replicate]; omega)
    rw [Array.size_replicate] at hfmt
    have HH0 := Lib.hid hH0
    have hnd := fun W h => Lib.hid (Tryz.internal_strconv_numDigits u hu1 hu64 W h)
    have ht := (htab.alloc (.cells Lib.zeros24 225)).2.1
    replace hfmt := Lib.hid hfmt
    clear hH0 hal htab
    go_enter Tryz.func118, Tryz.ntmps118
    go_wp2_with fail
    refine (hnd _ ht).out.mono ?_
    rintro e w' ⟨rfl, rfl⟩
    go_wp2_with fail
    refine hfmt.out.mono ?_
    rintro e w' ⟨rfl, k, v', dk, rfl, hF⟩
    have hcv : (convert 108 9 (.slice (some ⟨w.heap.size, 0, none⟩) (Lib.nDigits u) 24)).run Tryz.prog ((putRow (fun (b : UInt8) => Value.int .u8 (b.toNat : Int)) (w.alloc (.cells Lib.zeros24 225)) w.heap.size 0 dk).drewN k) = .ok (.string ⟨(Lib.decDigits u).toArray⟩) ((putRow (fun (b : UInt8) => Value.int .u8 (b.toNat : Int)) (w.alloc (.cells Lib.zeros24 225)) w.heap.size 0 dk).drewN k) := by
      have h := run_convert_bytes_back (P := Tryz.prog) ((putRow (fun (b : UInt8) => Value.int .u8 (b.toNat : Int)) (w.alloc (.cells Lib.zeros24 225)) w.heap.size 0 dk).drewN k) 108 9 5 ⟨w.heap.size, 0, none⟩ 24 (Lib.decDigits u) Tryz.underlying108 Tryz.underlying5 Tryz.underlying9 (fun j hj => by
        rw [Lib.row_is_numeral hF j hj, Lib.add_plain, World.cell?_drewN]
        exact cell?_putRow (fun (b : UInt8) => Value.int .u8 (b.toNat : Int)) _ w.heap.size 0 _ dk HH0.out (by rw [hF.size, Array.size_replicate]) j (by rw [hF.size]; rw [Lib.decDigits_length] at hj; exact hj))
      rw [Lib.decDigits_length] at h
      exact h
    go_wp2_with fail
    go_ret
    obtain ⟨os, eo⟩ := Lib.fin_at w (.cells Lib.zeros24 225) dk k 0
    refine ⟨rfl, ?_⟩
    rw [eo]
    exact Lib.below_grow _ _ (Nat.le_refl _) k os

set_option maxHeartbeats 400000 in
theorem fmtU10 (u : Nat) (hu64 : u < 18446744073709551616) (w : World) (htab : Tabs w) :
    Calls Tryz.prog 74 #[.int .u64 (u : Int), .int .i64 10] w (GivesV (.string ⟨(Lib.decDigits u).toArray⟩) w) := by
  have HS := Lib.hid (fmtU10_in u hu64 w htab)
  clear htab
  go_enter Tryz.func74, Tryz.ntmps74
  go_wp2_with fail
  refine HS.out.mono ?_
  rintro e w' ⟨rfl, hb⟩
  go_wp2_with fail
  go_ret
  exact ⟨rfl, hb⟩
end Go.Proofs.YtfiocnjogbpgoaaGreatDoor
namespace Go.Proofs.YtfiocnjogbpgoaaGreatDoor
open Go.RowKit

theorem cell_one_at (w : World) (v : Value) (t : TypeId) (b : Nat) (hb : b = w.heap.size) : ∀ (j : Nat) (u : Value), [v][j]? = some u → (w.alloc (.cells #[v] t)).cell? ((⟨b, 0, none⟩ : Addr).add j) = some u := by
  subst hb; exact cell_one_new _ _ _

/-- A slice (its address, length, capacity) that reads as a list of values of one cell. -/
def Sl (w : World) (A : Option Addr) (n cap : Nat) (vs : List Value) : Prop :=
  n = vs.length ∧ n ≤ cap ∧ (n = 0 ∨ ∃ g off, A = some ⟨g, off, none⟩ ∧ g < w.heap.size ∧ ∀ j u, vs[j]? = some u → w.cell? ⟨g, off + j, none⟩ = some u)
theorem Sl.keep {w w' : World} {A : Option Addr} {n cap : Nat} {vs : List Value} (h : Sl w A n cap vs) (hs : w.heap.size ≤ w'.heap.size) (hk : ∀ j, j < w.heap.size → w'.heap[j]? = w.heap[j]?) : Sl w' A n cap vs := by
  obtain ⟨h1, h2, h3⟩ := h
  refine ⟨h1, h2, ?_⟩
  rcases h3 with h3 | ⟨g, off, hA, hg, hc⟩
  · exact .inl h3
  · exact .inr ⟨g, off, hA, by omega, fun j u hu => by rw [World.cell?_of_block (w := w) (hk g hg)]; exact hc j u hu⟩
theorem Sl.below {w w' : World} {A : Option Addr} {n cap : Nat} {vs : List Value} (h : Sl w A n cap vs) (hb : Below w.heap.size w w') : Sl w' A n cap vs := h.keep hb.size hb.block
theorem Sl.alloc {w : World} {A : Option Addr} {n cap : Nat} {vs : List Value} (h : Sl w A n cap vs) (o : Obj) : Sl (w.alloc o) A n cap vs := h.below (.alloc (.refl _ _) (Nat.le_refl _) _)
theorem Sl.drew {w : World} {A : Option Addr} {n cap : Nat} {vs : List Value} (h : Sl w A n cap vs) : Sl w.drew A n cap vs := h
theorem Sl.none_ {w : World} {A : Option Addr} {cap : Nat} : Sl w A 0 cap [] := ⟨rfl, Nat.zero_le _, .inl rfl⟩
theorem Sl.of_own {w : World} {base : Nat} {e : TypeId} {v : Value} {n : Nat} {xs : List Value} (h : w.ownsRow base e 1 v n xs) : ∃ A cap, v = .slice A n cap ∧ Sl w A n cap xs := by
  rcases h.2 with ⟨hv, h0⟩ | ⟨g, cap, cur, hv, _, hg, hle, hm, _, _⟩
  · subst h0
    have : xs = [] := List.eq_nil_of_length_eq_zero (by simpa using h.1)
    subst this
    exact ⟨none, 0, hv, Sl.none_⟩
  · refine ⟨some ⟨g, 0, none⟩, cap, hv, by have := h.1; omega, hle, .inr ⟨g, 0, rfl, (Array.getElem?_eq_some_iff.1 hg).1, fun j u hu => ?_⟩⟩
    have := h.cells (g := g) (by rw [hv]; rfl) j u hu
    simp only [Nat.zero_add]
    by_cases hj : j = 0
    · subst hj; simpa [Addr.add] using this
    · simpa [Addr.add, hj] using this
theorem Sl.head {w : World} {A : Option Addr} {n cap k : Nat} {vs : List Value} (h : Sl w A n cap vs) (hk : k ≤ n) : Sl w A k cap (vs.take k) := by
  obtain ⟨h1, h2, h3⟩ := h
  refine ⟨by simp; omega, by omega, ?_⟩
  rcases h3 with h3 | ⟨g, off, hA, hg, hc⟩
  · exact .inl (by omega)
  · refine .inr ⟨g, off, hA, hg, fun j u hu => hc j u ?_⟩
    rw [List.getElem?_take] at hu
    split at hu
    · exact hu
    · cases hu
/-- The address of what is left behind k elements, as the model has it. -/
def tailA (A : Option Addr) (k cap : Nat) : Option Addr := if cap = k then A else A.map (·.add k)
theorem Sl.tail {w : World} {A : Option Addr} {n cap k : Nat} {vs : List Value} (h : Sl w A n cap vs) (hk : k ≤ n) : Sl w (tailA A k cap) (n - k) (cap - k) (vs.drop k) := by
  obtain ⟨h1, h2, h3⟩ := h
  refine ⟨by simp; omega, by omega, ?_⟩
  by_cases hn : n = k
  · exact .inl (by omega)
  · rcases h3 with h3 | ⟨g, off, rfl, hg, hc⟩
    · exact .inl (by omega)
    · refine .inr ⟨g, off + k, ?_, hg, fun j u hu => ?_⟩
      · unfold tailA
        rw [if_neg (by omega), Option.map_some, Lib.add_plain]
      · rw [List.getElem?_drop] at hu
        rw [Nat.add_assoc]
        exact hc (k + j) u hu

theorem info_u64 : (Tryz.prog.info? 26).map (fun i => (i.zero, i.size, i.bytes)) = some (some (.int .u64 0), 1, 8) := by kernel_rfl
theorem info_int : (Tryz.prog.info? 3).map (fun i => (i.zero, i.size, i.bytes)) = some (some (.int .i64 0), 1, 8) := by kernel_rfl

theorem and16' (x : Int) (h1 : 0 ≤ x) (h2 : x < 18446744073709551616) : bits .and .u64 x 65535 = ((x.toNat % 2 ^ 16 : Nat) : Int) := by
  rw [u64_and x 65535 h1 h2 (by decide) (by decide)]
  have : x.toNat &&& (65535 : Int).toNat = x.toNat % 2 ^ 16 := Nat.and_two_pow_sub_one_eq_mod x.toNat 16
  rw [this]
theorem and8' (x : Int) (h1 : 0 ≤ x) (h2 : x < 18446744073709551616) : bits .and .u64 x 255 = ((x.toNat % 2 ^ 8 : Nat) : Int) := by
  rw [u64_and x 255 h1 h2 (by decide) (by decide)]
  have : x.toNat &&& (255 : Int).toNat = x.toNat % 2 ^ 8 := Nat.and_two_pow_sub_one_eq_mod x.toNat 8
  rw [this]
theorem dgl (hi lo : Int) (h3 : 0 ≤ lo) (h4 : lo < 18446744073709551616) (j : Nat) (hj : j < 4) (d : Int) (hd : d = 2 ^ (16 * j)) : bits .and .u64 (lo / d) 65535 = (dig (num hi lo) j : Int) := by
  have h := dig_of_lo hi lo h3 h4 j hj d hd
  have hp : (0 : Int) < d := by rw [hd]; exact Int.pow_pos (by decide)
  have a := and16' (lo / d) (Int.ediv_nonneg h3 (Int.le_of_lt hp)) (by have := Int.ediv_le_self d h3; omega)
  rw [a] at h ⊢
  rw [IntWalk.wrap64_in] at h
  · exact h
  · omega
theorem dgh (hi lo : Int) (h1 : 0 ≤ hi) (h2 : hi < 18446744073709551616) (h4 : lo < 18446744073709551616) (j : Nat) (d : Int) (hd : d = 2 ^ (16 * j)) : bits .and .u64 (hi / d) 65535 = (dig (num hi lo) (4 + j) : Int) := by
  have h := dig_of_hi hi lo h1 h2 h4 j d hd
  have hp : (0 : Int) < d := by rw [hd]; exact Int.pow_pos (by decide)
  have a := and16' (hi / d) (Int.ediv_nonneg h1 (Int.le_of_lt hp)) (by have := Int.ediv_le_self d h1; omega)
  rw [a] at h ⊢
  rw [IntWalk.wrap64_in] at h
  · exact h
  · omega

/-- The eight groups, the highest one first. -/
def grps (V : Nat) : List Nat := [dig V 7, dig V 6, dig V 5, dig V 4, dig V 3, dig V 2, dig V 1, dig V 0]

/-- A slice that reads as a list of numbers. -/
def SlN (k : IntKind) (w : World) (A : Option Addr) (n cap : Nat) (gs : List Nat) : Prop := Sl w A n cap (gs.map fun (g : Nat) => Value.int k (g : Int))
/-- A slice is returned that reads as a list of numbers, in new memory. -/
def GivesN (k : IntKind) (gs : List Nat) (w : World) (e : Ending) (w' : World) : Prop := ∃ A cap, e = .returned (.slice A gs.length cap) ∧ SlN k w' A gs.length cap gs ∧ Below w.heap.size w w'

set_option maxHeartbeats 2000000 in
set_option maxRecDepth 100000 in
theorem groupsP_any (s : Bool) (hi lo : Int) (w : World) (h1 : 0 ≤ hi) (h2 : hi < 18446744073709551616) (h3 : 0 ≤ lo) (h4 : lo < 18446744073709551616) :
    Calls Tryz.prog 31 #[.agg #[.bool s, .int .u64 hi, .int .u64 lo]] w (GivesN .u64 (grps (num hi lo)) w) := by
  have a0 := dgl hi lo h3 h4 0 (by decide) 1 (by decide)
  have a1 := dgl hi lo h3 h4 1 (by decide) 65536 (by decide)
  have a2 := dgl hi lo h3 h4 2 (by decide) 4294967296 (by decide)
  have a3 := dgl hi lo h3 h4 3 (by decide) 281474976710656 (by decide)
  have b0 : bits .and .u64 (hi / 1) 65535 = (dig (num hi lo) 4 : Int) := dgh hi lo h1 h2 h4 0 1 (by decide)
  have b1 : bits .and .u64 (hi / 65536) 65535 = (dig (num hi lo) 5 : Int) := dgh hi lo h1 h2 h4 1 65536 (by decide)
  have b2 : bits .and .u64 (hi / 4294967296) 65535 = (dig (num hi lo) 6 : Int) := dgh hi lo h1 h2 h4 2 4294967296 (by decide)
  have b3 : bits .and .u64 (hi / 281474976710656) 65535 = (dig (num hi lo) 7 : Int) := dgh hi lo h1 h2 h4 3 281474976710656 (by decide)
  rw [Int.ediv_one] at a0 b0
  generalize num hi lo = V at *
  have hb0 : Below w.heap.size w (w.alloc (.cells #[.bool s, .int .u64 hi, .int .u64 lo] 28)) := (Below.refl _ _).alloc (Nat.le_refl _) _
  have hs0 := hb0.size
  have x0 : ∀ W, (Instr.index 133 (.agg #[.int .u64 hi, .int .u64 lo]) (.int .i64 0)).run Tryz.prog W = .ok (.int .u64 hi) W := fun _ => by kernel_rfl
  have x1 : ∀ W, (Instr.index 133 (.agg #[.int .u64 hi, .int .u64 lo]) (.int .i64 1)).run Tryz.prog W = .ok (.int .u64 lo) W := fun _ => by kernel_rfl
  obtain ⟨i0, hi0, hz0, hz1, hz2⟩ := info_parts info_u64
  go_enter Tryz.func31, Tryz.ntmps31
  go_wp2_with fail
  refine wp_loop_rounds 3 ?_
  rw [rounds_succ]
  go_wp2_with fail
  refine wp_loop_rounds 5 ?_
  rw [rounds_succ]
  go_wp2_with (at_builtin; refine wpList_append_own _ rfl _ _ 65 rfl w.heap.size 26 i0 (.int .u64 0) 1 8 Tryz.underlying65 hi0 hz0 hz1 hz2 rfl (by decide) _ _ _ rfl (World.ownsRow_nil _ _ _ _) ⟨(w.heap.size + 1), 0, none⟩ 1 1 [.int .u64 (dig V 7 : Int)] rfl rfl ?c1 ?c2 ?c3 ?c4 ?c5 ?_)
  case c1 => exact cell_one_at _ _ _ _ (by simp)
  case c2 => simp; rfl
  case c3 => unfold maxLen; omega
  case c4 => omega
  case c5 => (try simp); omega
  intro v1 w1 hown1 hg1 _
  have hb1 : Below w.heap.size w w1 := (hb0.alloc hs0 _).grown hg1 (by simp; omega) (by intro k h; cases h)
  have hs1 := hb1.size
  clear hg1
  go_wp2_with fail
  rw [rounds_succ]
  go_wp2_with (at_builtin; refine wpList_append_own _ rfl _ _ 65 rfl w.heap.size 26 i0 (.int .u64 0) 1 8 Tryz.underlying65 hi0 hz0 hz1 hz2 rfl (by decide) _ _ _ rfl (hown1.alloc _) ⟨w1.heap.size, 0, none⟩ 1 1 [.int .u64 (dig V 6 : Int)] rfl rfl ?c1 ?c2 ?c3 ?c4 ?c5 ?_)
  case c1 => exact cell_one_at _ _ _ _ (by simp)
  case c2 => simp; rfl
  case c3 => unfold maxLen; omega
  case c4 => omega
  case c5 => (try simp); omega
  intro v2 w2 hown2 hg2 _
  have hb2 : Below w.heap.size w w2 := (hb1.alloc hs1 _).grown hg2 (by simp; omega) (fun k h => (hown1.lt k h).1)
  have hs2 := hb2.size
  clear hg2
  go_wp2_with fail
  rw [rounds_succ]
  go_wp2_with (at_builtin; refine wpList_append_own _ rfl _ _ 65 rfl w.heap.size 26 i0 (.int .u64 0) 1 8 Tryz.underlying65 hi0 hz0 hz1 hz2 rfl (by decide) _ _ _ rfl (hown2.alloc _) ⟨w2.heap.size, 0, none⟩ 1 1 [.int .u64 (dig V 5 : Int)] rfl rfl ?c1 ?c2 ?c3 ?c4 ?c5 ?_)
  case c1 => exact cell_one_at _ _ _ _ (by simp)
  case c2 => simp; rfl
  case c3 => unfold maxLen; omega
  case c4 => omega
  case c5 => (try simp); omega
  intro v3 w3 hown3 hg3 _
  have hb3 : Below w.heap.size w w3 := (hb2.alloc hs2 _).grown hg3 (by simp; omega) (fun k h => (hown2.lt k h).1)
  have hs3 := hb3.size
  clear hg3
  go_wp2_with fail
  rw [rounds_succ]
  go_wp2_with (at_builtin; refine wpList_append_own _ rfl _ _ 65 rfl w.heap.size 26 i0 (.int .u64 0) 1 8 Tryz.underlying65 hi0 hz0 hz1 hz2 rfl (by decide) _ _ _ rfl (hown3.alloc _) ⟨w3.heap.size, 0, none⟩ 1 1 [.int .u64 (dig V 4 : Int)] rfl rfl ?c1 ?c2 ?c3 ?c4 ?c5 ?_)
  case c1 => exact cell_one_at _ _ _ _ (by simp)
  case c2 => simp; rfl
  case c3 => unfold maxLen; omega
  case c4 => omega
  case c5 => (try simp); omega
  intro v4 w4 hown4 hg4 _
  have hb4 : Below w.heap.size w w4 := (hb3.alloc hs3 _).grown hg4 (by simp; omega) (fun k h => (hown3.lt k h).1)
  have hs4 := hb4.size
  clear hg4
  go_wp2_with fail
  rw [rounds_succ]
  go_wp2_with fail
  rw [rounds_succ]
  go_wp2_with fail
  refine wp_loop_rounds 5 ?_
  rw [rounds_succ]
  go_wp2_with (at_builtin; refine wpList_append_own _ rfl _ _ 65 rfl w.heap.size 26 i0 (.int .u64 0) 1 8 Tryz.underlying65 hi0 hz0 hz1 hz2 rfl (by decide) _ _ _ rfl (hown4.alloc _) ⟨w4.heap.size, 0, none⟩ 1 1 [.int .u64 (dig V 3 : Int)] rfl rfl ?c1 ?c2 ?c3 ?c4 ?c5 ?_)
  case c1 => exact cell_one_at _ _ _ _ (by simp)
  case c2 => simp; rfl
  case c3 => unfold maxLen; omega
  case c4 => omega
  case c5 => (try simp); omega
  intro v5 w5 hown5 hg5 _
  have hb5 : Below w.heap.size w w5 := (hb4.alloc hs4 _).grown hg5 (by simp; omega) (fun k h => (hown4.lt k h).1)
  have hs5 := hb5.size
  clear hg5
  go_wp2_with fail
  rw [rounds_succ]
  go_wp2_with (at_builtin; refine wpList_append_own _ rfl _ _ 65 rfl w.heap.size 26 i0 (.int .u64 0) 1 8 Tryz.underlying65 hi0 hz0 hz1 hz2 rfl (by decide) _ _ _ rfl (hown5.alloc _) ⟨w5.heap.size, 0, none⟩ 1 1 [.int .u64 (dig V 2 : Int)] rfl rfl ?c1 ?c2 ?c3 ?c4 ?c5 ?_)
  case c1 => exact cell_one_at _ _ _ _ (by simp)
  case c2 => simp; rfl
  case c3 => unfold maxLen; omega
  case c4 => omega
  case c5 => (try simp); omega
  intro v6 w6 hown6 hg6 _
  have hb6 : Below w.heap.size w w6 := (hb5.alloc hs5 _).grown hg6 (by simp; omega) (fun k h => (hown5.lt k h).1)
  have hs6 := hb6.size
  clear hg6
  go_wp2_with fail
  rw [rounds_succ]
  go_wp2_with (at_builtin; refine wpList_append_own _ rfl _ _ 65 rfl w.heap.size 26 i0 (.int .u64 0) 1 8 Tryz.underlying65 hi0 hz0 hz1 hz2 rfl (by decide) _ _ _ rfl (hown6.alloc _) ⟨w6.heap.size, 0, none⟩ 1 1 [.int .u64 (dig V 1 : Int)] rfl rfl ?c1 ?c2 ?c3 ?c4 ?c5 ?_)
  case c1 => exact cell_one_at _ _ _ _ (by simp)
  case c2 => simp; rfl
  case c3 => unfold maxLen; omega
  case c4 => omega
  case c5 => (try simp); omega
  intro v7 w7 hown7 hg7 _
  have hb7 : Below w.heap.size w w7 := (hb6.alloc hs6 _).grown hg7 (by simp; omega) (fun k h => (hown6.lt k h).1)
  have hs7 := hb7.size
  clear hg7
  go_wp2_with fail
  rw [rounds_succ]
  go_wp2_with (at_builtin; refine wpList_append_own _ rfl _ _ 65 rfl w.heap.size 26 i0 (.int .u64 0) 1 8 Tryz.underlying65 hi0 hz0 hz1 hz2 rfl (by decide) _ _ _ rfl (hown7.alloc _) ⟨w7.heap.size, 0, none⟩ 1 1 [.int .u64 (dig V 0 : Int)] rfl rfl ?c1 ?c2 ?c3 ?c4 ?c5 ?_)
  case c1 => exact cell_one_at _ _ _ _ (by simp)
  case c2 => simp; rfl
  case c3 => unfold maxLen; omega
  case c4 => omega
  case c5 => (try simp); omega
  intro v8 w8 hown8 hg8 _
  have hb8 : Below w.heap.size w w8 := (hb7.alloc hs7 _).grown hg8 (by simp; omega) (fun k h => (hown7.lt k h).1)
  have hs8 := hb8.size
  clear hg8
  go_wp2_with fail
  rw [rounds_succ]
  go_wp2_with fail
  rw [rounds_succ]
  go_wp2_with fail
  go_ret
  obtain ⟨A, cap, rfl, hS⟩ := Sl.of_own hown8
  exact ⟨A, cap, rfl, hS, hb8⟩
end Go.Proofs.YtfiocnjogbpgoaaGreatDoor
