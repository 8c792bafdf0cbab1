/- Whether a slice of numerals has one that is not zero: slices.ContainsFunc with the reference's closure. -/
import Derived.Test.YtkldcmmlllkhkaaGreatDoorKqDec
import Derived.Test.YtkldcmmlllkhkaaGreatDoorKqAddressed
set_option maxRecDepth 100000
namespace Go.Proofs.YtkldcmmlllkhkaaGreatDoor
open Go.RowKit

theorem cell_one_at (w : World) (v : Value) (t : TypeId) (b : Nat) (hb : b = w.heap.size) : ∀ (j : Nat) (u : Value), [v][j]? = some u → (w.alloc (.cells #[v] t)).cell? ((⟨b, 0, none⟩ : Addr).add j) = some u := by
  subst hb; exact cell_one_new _ _ _

def Sl (w : World) (A : Option Addr) (n cap : Nat) (vs : List Value) : Prop :=
  n = vs.length ∧ n ≤ cap ∧ (n = 0 ∨ ∃ g off, A = some ⟨g, off, none⟩ ∧ g < w.heap.size ∧ ∀ j u, vs[j]? = some u → w.cell? ⟨g, off + j, none⟩ = some u)
theorem Sl.keep {w w' : World} {A : Option Addr} {n cap : Nat} {vs : List Value} (h : Sl w A n cap vs) (hs : w.heap.size ≤ w'.heap.size) (hk : ∀ j, j < w.heap.size → w'.heap[j]? = w.heap[j]?) : Sl w' A n cap vs := by
  obtain ⟨h1, h2, h3⟩ := h
  refine ⟨h1, h2, ?_⟩
  rcases h3 with h3 | ⟨g, off, hA, hg, hc⟩
  · exact .inl h3
  · exact .inr ⟨g, off, hA, by omega, fun j u hu => by rw [World.cell?_of_block (w := w) (hk g hg)]; exact hc j u hu⟩
theorem Sl.below {w w' : World} {A : Option Addr} {n cap : Nat} {vs : List Value} (h : Sl w A n cap vs) (hb : Below w.heap.size w w') : Sl w' A n cap vs := h.keep hb.size hb.block
theorem Sl.alloc {w : World} {A : Option Addr} {n cap : Nat} {vs : List Value} (h : Sl w A n cap vs) (o : Obj) : Sl (w.alloc o) A n cap vs := h.below (.alloc (.refl _ _) (Nat.le_refl _) _)
theorem Sl.drew {w : World} {A : Option Addr} {n cap : Nat} {vs : List Value} (h : Sl w A n cap vs) : Sl w.drew A n cap vs := h
theorem Sl.none_ {w : World} {A : Option Addr} {cap : Nat} : Sl w A 0 cap [] := ⟨rfl, Nat.zero_le _, .inl rfl⟩
theorem Sl.of_own {w : World} {base : Nat} {e : TypeId} {v : Value} {n : Nat} {xs : List Value} (h : w.ownsRow base e 1 v n xs) : ∃ A cap, v = .slice A n cap ∧ Sl w A n cap xs := by
  rcases h.2 with ⟨hv, h0⟩ | ⟨g, cap, cur, hv, _, hg, hle, hm, _, _⟩
  · subst h0
    have : xs = [] := List.eq_nil_of_length_eq_zero (by simpa using h.1)
    subst this
    exact ⟨none, 0, hv, Sl.none_⟩
  · refine ⟨some ⟨g, 0, none⟩, cap, hv, by have := h.1; omega, hle, .inr ⟨g, 0, rfl, (Array.getElem?_eq_some_iff.1 hg).1, fun j u hu => ?_⟩⟩
    have := h.cells (g := g) (by rw [hv]; rfl) j u hu
    simp only [Nat.zero_add]
    by_cases hj : j = 0
    · subst hj; simpa [Addr.add] using this
    · simpa [Addr.add, hj] using this
theorem Sl.head {w : World} {A : Option Addr} {n cap k : Nat} {vs : List Value} (h : Sl w A n cap vs) (hk : k ≤ n) : Sl w A k cap (vs.take k) := by
  obtain ⟨h1, h2, h3⟩ := h
  refine ⟨by simp; omega, by omega, ?_⟩
  rcases h3 with h3 | ⟨g, off, hA, hg, hc⟩
  · exact .inl (by omega)
  · refine .inr ⟨g, off, hA, hg, fun j u hu => hc j u ?_⟩
    rw [List.getElem?_take] at hu
    split at hu
    · exact hu
    · cases hu
def tailA (A : Option Addr) (k cap : Nat) : Option Addr := if cap = k then A else A.map (·.add k)
theorem Sl.tail {w : World} {A : Option Addr} {n cap k : Nat} {vs : List Value} (h : Sl w A n cap vs) (hk : k ≤ n) : Sl w (tailA A k cap) (n - k) (cap - k) (vs.drop k) := by
  obtain ⟨h1, h2, h3⟩ := h
  refine ⟨by simp; omega, by omega, ?_⟩
  by_cases hn : n = k
  · exact .inl (by omega)
  · rcases h3 with h3 | ⟨g, off, rfl, hg, hc⟩
    · exact .inl (by omega)
    · refine .inr ⟨g, off + k, ?_, hg, fun j u hu => ?_⟩
      · unfold tailA
        rw [if_neg (by omega), Option.map_some, Lib.add_plain]
      · rw [List.getElem?_drop] at hu
        rw [Nat.add_assoc]
        exact hc (k + j) u hu

theorem info_u64 : (Tryz.prog.info? 37).map (fun i => (i.zero, i.size, i.bytes)) = some (some (.int .u64 0), 1, 8) := by kernel_rfl
theorem info_int : (Tryz.prog.info? 3).map (fun i => (i.zero, i.size, i.bytes)) = some (some (.int .i64 0), 1, 8) := by kernel_rfl

theorem and16' (x : Int) (h1 : 0 ≤ x) (h2 : x < 18446744073709551616) : bits .and .u64 x 65535 = ((x.toNat % 2 ^ 16 : Nat) : Int) := by
  rw [u64_and x 65535 h1 h2 (by decide) (by decide)]
  have : x.toNat &&& (65535 : Int).toNat = x.toNat % 2 ^ 16 := Nat.and_two_pow_sub_one_eq_mod x.toNat 16
  rw [this]
theorem and8' (x : Int) (h1 : 0 ≤ x) (h2 : x < 18446744073709551616) : bits .and .u64 x 255 = ((x.toNat % 2 ^ 8 : Nat) : Int) := by
  rw [u64_and x 255 h1 h2 (by decide) (by decide)]
  have : x.toNat &&& (255 : Int).toNat = x.toNat % 2 ^ 8 := Nat.and_two_pow_sub_one_eq_mod x.toNat 8
  rw [this]
theorem dgl (hi lo : Int) (h3 : 0 ≤ lo) (h4 : lo < 18446744073709551616) (j : Nat) (hj : j < 4) (d : Int) (hd : d = 2 ^ (16 * j)) : bits .and .u64 (lo / d) 65535 = (dig (num hi lo) j : Int) := by
  have h := dig_of_lo hi lo h3 h4 j hj d hd
  have hp : (0 : Int) < d := by rw [hd]; exact Int.pow_pos (by decide)
  have a := and16' (lo / d) (Int.ediv_nonneg h3 (Int.le_of_lt hp)) (by have := Int.ediv_le_self d h3; omega)
  rw [a] at h ⊢
  rw [IntWalk.wrap64_in] at h
  · exact h
  · omega
theorem dgh (hi lo : Int) (h1 : 0 ≤ hi) (h2 : hi < 18446744073709551616) (h4 : lo < 18446744073709551616) (j : Nat) (d : Int) (hd : d = 2 ^ (16 * j)) : bits .and .u64 (hi / d) 65535 = (dig (num hi lo) (4 + j) : Int) := by
  have h := dig_of_hi hi lo h1 h2 h4 j d hd
  have hp : (0 : Int) < d := by rw [hd]; exact Int.pow_pos (by decide)
  have a := and16' (hi / d) (Int.ediv_nonneg h1 (Int.le_of_lt hp)) (by have := Int.ediv_le_self d h1; omega)
  rw [a] at h ⊢
  rw [IntWalk.wrap64_in] at h
  · exact h
  · omega

def grps (V : Nat) : List Nat := [dig V 7, dig V 6, dig V 5, dig V 4, dig V 3, dig V 2, dig V 1, dig V 0]

def SlN (k : IntKind) (w : World) (A : Option Addr) (n cap : Nat) (gs : List Nat) : Prop := Sl w A n cap (gs.map fun (g : Nat) => Value.int k (g : Int))
def GivesN (k : IntKind) (gs : List Nat) (w : World) (e : Ending) (w' : World) : Prop := ∃ A cap, e = .returned (.slice A gs.length cap) ∧ SlN k w' A gs.length cap gs ∧ Below w.heap.size w w'

set_option maxHeartbeats 2000000 in
theorem groupsP_any (s : Bool) (hi lo : Int) (w : World) (h1 : 0 ≤ hi) (h2 : hi < 18446744073709551616) (h3 : 0 ≤ lo) (h4 : lo < 18446744073709551616) :
    Calls Tryz.prog 65 #[.agg #[.bool s, .int .u64 hi, .int .u64 lo]] w (GivesN .u64 (grps (num hi lo)) w) := by
  have a0 := dgl hi lo h3 h4 0 (by decide) 1 (by decide)
  have a1 := dgl hi lo h3 h4 1 (by decide) 65536 (by decide)
  have a2 := dgl hi lo h3 h4 2 (by decide) 4294967296 (by decide)
  have a3 := dgl hi lo h3 h4 3 (by decide) 281474976710656 (by decide)
  have b0 : bits .and .u64 (hi / 1) 65535 = (dig (num hi lo) 4 : Int) := dgh hi lo h1 h2 h4 0 1 (by decide)
  have b1 : bits .and .u64 (hi / 65536) 65535 = (dig (num hi lo) 5 : Int) := dgh hi lo h1 h2 h4 1 65536 (by decide)
  have b2 : bits .and .u64 (hi / 4294967296) 65535 = (dig (num hi lo) 6 : Int) := dgh hi lo h1 h2 h4 2 4294967296 (by decide)
  have b3 : bits .and .u64 (hi / 281474976710656) 65535 = (dig (num hi lo) 7 : Int) := dgh hi lo h1 h2 h4 3 281474976710656 (by decide)
  rw [Int.ediv_one] at a0 b0
  generalize num hi lo = V at *
  have hb0 : Below w.heap.size w (w.alloc (.cells #[.bool s, .int .u64 hi, .int .u64 lo] 39)) := (Below.refl _ _).alloc (Nat.le_refl _) _
  have hs0 := hb0.size
  have x0 : ∀ W, (Instr.index 120 (.agg #[.int .u64 hi, .int .u64 lo]) (.int .i64 0)).run Tryz.prog W = .ok (.int .u64 hi) W := fun _ => by kernel_rfl
  have x1 : ∀ W, (Instr.index 120 (.agg #[.int .u64 hi, .int .u64 lo]) (.int .i64 1)).run Tryz.prog W = .ok (.int .u64 lo) W := fun _ => by kernel_rfl
  obtain ⟨i0, hi0, hz0, hz1, hz2⟩ := info_parts info_u64
  go_enter Tryz.func65, Tryz.ntmps65
  go_wp2_with fail
  refine wp_loop_rounds 3 ?_
  rw [rounds_succ]
  go_wp2_with fail
  refine wp_loop_rounds 5 ?_
  rw [rounds_succ]
  go_wp2_with (at_builtin; refine wpList_append_own _ rfl _ _ 98 rfl w.heap.size 37 i0 (.int .u64 0) 1 8 Tryz.underlying98 hi0 hz0 hz1 hz2 rfl (by decide) _ _ _ rfl (World.ownsRow_nil _ _ _ _) ⟨(w.heap.size + 1), 0, none⟩ 1 1 [.int .u64 (dig V 7 : Int)] rfl rfl ?c1 ?c2 ?c3 ?c4 ?c5 ?_)
  case c1 => exact cell_one_at _ _ _ _ (by simp)
  case c2 => simp; rfl
  case c3 => unfold maxLen; omega
  case c4 => omega
  case c5 => (try simp); omega
  intro v1 w1 hown1 hg1 _
  have hb1 : Below w.heap.size w w1 := (hb0.alloc hs0 _).grown hg1 (by simp; omega) (by intro k h; cases h)
  have hs1 := hb1.size
  clear hg1
  go_wp2_with fail
  rw [rounds_succ]
  go_wp2_with (at_builtin; refine wpList_append_own _ rfl _ _ 98 rfl w.heap.size 37 i0 (.int .u64 0) 1 8 Tryz.underlying98 hi0 hz0 hz1 hz2 rfl (by decide) _ _ _ rfl (hown1.alloc _) ⟨w1.heap.size, 0, none⟩ 1 1 [.int .u64 (dig V 6 : Int)] rfl rfl ?c1 ?c2 ?c3 ?c4 ?c5 ?_)
  case c1 => exact cell_one_at _ _ _ _ (by simp)
  case c2 => simp; rfl
  case c3 => unfold maxLen; omega
  case c4 => omega
  case c5 => (try simp); omega
  intro v2 w2 hown2 hg2 _
  have hb2 : Below w.heap.size w w2 := (hb1.alloc hs1 _).grown hg2 (by simp; omega) (fun k h => (hown1.lt k h).1)
  have hs2 := hb2.size
  clear hg2
  go_wp2_with fail
  rw [rounds_succ]
  go_wp2_with (at_builtin; refine wpList_append_own _ rfl _ _ 98 rfl w.heap.size 37 i0 (.int .u64 0) 1 8 Tryz.underlying98 hi0 hz0 hz1 hz2 rfl (by decide) _ _ _ rfl (hown2.alloc _) ⟨w2.heap.size, 0, none⟩ 1 1 [.int .u64 (dig V 5 : Int)] rfl rfl ?c1 ?c2 ?c3 ?c4 ?c5 ?_)
  case c1 => exact cell_one_at _ _ _ _ (by simp)
  case c2 => simp; rfl
  case c3 => unfold maxLen; omega
  case c4 => omega
  case c5 => (try simp); omega
  intro v3 w3 hown3 hg3 _
  have hb3 : Below w.heap.size w w3 := (hb2.alloc hs2 _).grown hg3 (by simp; omega) (fun k h => (hown2.lt k h).1)
  have hs3 := hb3.size
  clear hg3
  go_wp2_with fail
  rw [rounds_succ]
  go_wp2_with (at_builtin; refine wpList_append_own _ rfl _ _ 98 rfl w.heap.size 37 i0 (.int .u64 0) 1 8 Tryz.underlying98 hi0 hz0 hz1 hz2 rfl (by decide) _ _ _ rfl (hown3.alloc _) ⟨w3.heap.size, 0, none⟩ 1 1 [.int .u64 (dig V 4 : Int)] rfl rfl ?c1 ?c2 ?c3 ?c4 ?c5 ?_)
  case c1 => exact cell_one_at _ _ _ _ (by simp)
  case c2 => simp; rfl
  case c3 => unfold maxLen; omega
  case c4 => omega
  case c5 => (try simp); omega
  intro v4 w4 hown4 hg4 _
  have hb4 : Below w.heap.size w w4 := (hb3.alloc hs3 _).grown hg4 (by simp; omega) (fun k h => (hown3.lt k h).1)
  have hs4 := hb4.size
  clear hg4
  go_wp2_with fail
  rw [rounds_succ]
  go_wp2_with fail
  rw [rounds_succ]
  go_wp2_with fail
  refine wp_loop_rounds 5 ?_
  rw [rounds_succ]
  go_wp2_with (at_builtin; refine wpList_append_own _ rfl _ _ 98 rfl w.heap.size 37 i0 (.int .u64 0) 1 8 Tryz.underlying98 hi0 hz0 hz1 hz2 rfl (by decide) _ _ _ rfl (hown4.alloc _) ⟨w4.heap.size, 0, none⟩ 1 1 [.int .u64 (dig V 3 : Int)] rfl rfl ?c1 ?c2 ?c3 ?c4 ?c5 ?_)
  case c1 => exact cell_one_at _ _ _ _ (by simp)
  case c2 => simp; rfl
  case c3 => unfold maxLen; omega
  case c4 => omega
  case c5 => (try simp); omega
  intro v5 w5 hown5 hg5 _
  have hb5 : Below w.heap.size w w5 := (hb4.alloc hs4 _).grown hg5 (by simp; omega) (fun k h => (hown4.lt k h).1)
  have hs5 := hb5.size
  clear hg5
  go_wp2_with fail
  rw [rounds_succ]
  go_wp2_with (at_builtin; refine wpList_append_own _ rfl _ _ 98 rfl w.heap.size 37 i0 (.int .u64 0) 1 8 Tryz.underlying98 hi0 hz0 hz1 hz2 rfl (by decide) _ _ _ rfl (hown5.alloc _) ⟨w5.heap.size, 0, none⟩ 1 1 [.int .u64 (dig V 2 : Int)] rfl rfl ?c1 ?c2 ?c3 ?c4 ?c5 ?_)
  case c1 => exact cell_one_at _ _ _ _ (by simp)
  case c2 => simp; rfl
  case c3 => unfold maxLen; omega
  case c4 => omega
  case c5 => (try simp); omega
  intro v6 w6 hown6 hg6 _
  have hb6 : Below w.heap.size w w6 := (hb5.alloc hs5 _).grown hg6 (by simp; omega) (fun k h => (hown5.lt k h).1)
  have hs6 := hb6.size
  clear hg6
  go_wp2_with fail
  rw [rounds_succ]
  go_wp2_with (at_builtin; refine wpList_append_own _ rfl _ _ 98 rfl w.heap.size 37 i0 (.int .u64 0) 1 8 Tryz.underlying98 hi0 hz0 hz1 hz2 rfl (by decide) _ _ _ rfl (hown6.alloc _) ⟨w6.heap.size, 0, none⟩ 1 1 [.int .u64 (dig V 1 : Int)] rfl rfl ?c1 ?c2 ?c3 ?c4 ?c5 ?_)
  case c1 => exact cell_one_at _ _ _ _ (by simp)
  case c2 => simp; rfl
  case c3 => unfold maxLen; omega
  case c4 => omega
  case c5 => (try simp); omega
  intro v7 w7 hown7 hg7 _
  have hb7 : Below w.heap.size w w7 := (hb6.alloc hs6 _).grown hg7 (by simp; omega) (fun k h => (hown6.lt k h).1)
  have hs7 := hb7.size
  clear hg7
  go_wp2_with fail
  rw [rounds_succ]
  go_wp2_with (at_builtin; refine wpList_append_own _ rfl _ _ 98 rfl w.heap.size 37 i0 (.int .u64 0) 1 8 Tryz.underlying98 hi0 hz0 hz1 hz2 rfl (by decide) _ _ _ rfl (hown7.alloc _) ⟨w7.heap.size, 0, none⟩ 1 1 [.int .u64 (dig V 0 : Int)] rfl rfl ?c1 ?c2 ?c3 ?c4 ?c5 ?_)
  case c1 => exact cell_one_at _ _ _ _ (by simp)
  case c2 => simp; rfl
  case c3 => unfold maxLen; omega
  case c4 => omega
  case c5 => (try simp); omega
  intro v8 w8 hown8 hg8 _
  have hb8 : Below w.heap.size w w8 := (hb7.alloc hs7 _).grown hg8 (by simp; omega) (fun k h => (hown7.lt k h).1)
  have hs8 := hb8.size
  clear hg8
  go_wp2_with fail
  rw [rounds_succ]
  go_wp2_with fail
  rw [rounds_succ]
  go_wp2_with fail
  go_ret
  obtain ⟨A, cap, rfl, hS⟩ := Sl.of_own hown8
  exact ⟨A, cap, rfl, hS, hb8⟩

theorem tw_next : ∀ (l : List Bool) (k : Nat), k ≤ (l.takeWhile id).length → (l[k]? = some true → k + 1 ≤ (l.takeWhile id).length) ∧ (l[k]? ≠ some true → (l.takeWhile id).length = k)
  | [], k, h => by simp at h; subst h; simp
  | true :: r, 0, _ => by simp
  | false :: r, 0, _ => by simp
  | false :: r, k + 1, h => by simp at h
  | true :: r, k + 1, h => by
    have := tw_next r k (by simpa using h)
    simpa using this
theorem run_next (z : List Bool) (i k : Nat) (h : k ≤ runZ z i) : (z[i + k]? = some true → k + 1 ≤ runZ z i) ∧ (z[i + k]? ≠ some true → runZ z i = k) := by
  have := tw_next (z.drop i) k h
  simpa [runZ, List.getElem?_drop] using this
theorem run_le (z : List Bool) (i : Nat) (h : i ≤ z.length) : i + runZ z i ≤ z.length := by
  unfold runZ
  have := (List.takeWhile_prefix id (l := z.drop i)).length_le
  simp at this
  omega
theorem flag_at {gs : List Nat} {j g : Nat} (h : gs[j]? = some g) : (flagsZ gs)[j]? = some (g == 0) := by simp [flagsZ, h]

theorem lz_up {z : List Bool} {i k : Nat} (h : runZ z i = k) (hlt : (lzTo z i).2 < k) : i = (lzTo z (i + 1)).1 ∧ k = (lzTo z (i + 1)).2 := by
  rw [lzTo_succ, lzStep, h, if_pos hlt]; exact ⟨rfl, rfl⟩
theorem lz_stay {z : List Bool} {i k : Nat} (h : runZ z i = k) (hlt : ¬ (lzTo z i).2 < k) : lzTo z i = lzTo z (i + 1) := by
  rw [lzTo_succ, lzStep, h, if_neg hlt]

set_option maxHeartbeats 1000000 in
theorem longest_any (A : Option Addr) (cap : Nat) (gs : List Nat) (w : World) (h8 : gs.length = 8) (hS : SlN .u64 w A 8 cap gs) :
    Calls Tryz.prog 93 #[.slice A 8 cap] w fun e w' => e = .returned (.tuple #[.int .i64 ((lzTo (flagsZ gs) 8).1 : Int), .int .i64 ((lzTo (flagsZ gs) 8).2 : Int)]) ∧ w = w' := by
  obtain ⟨h9, _, h0 | ⟨b, off, rfl, hb, hc⟩⟩ := hS
  · omega
  clear h9
  have hz8 := flagsZ_length gs
  rw [h8] at hz8
  replace h8 := Lib.hid h8
  obtain ⟨z, hz⟩ : ∃ z, z = flagsZ gs := ⟨_, rfl⟩
  rw [← hz] at hz8
  rw [← hz]
  replace hz := Lib.hid hz
  have H8 := Lib.hid hz8
  clear hz8
  go_enter Tryz.func93, Tryz.ntmps93
  go_wp2_with fail
  go_loop [2, 3, 8] (fun a n i => ∃ k : Nat, k ≤ 8 ∧ i = .int .i64 k ∧ a = .int .i64 ((lzTo z k).1 : Int) ∧ n = .int .i64 ((lzTo z k).2 : Int)) (fun _ _ i => 8 - (intOf i).toNat)
  case atStart => exact ⟨0, by omega, rfl, rfl, rfl⟩
  case round =>
    obtain ⟨i, hi, rfl, rfl, rfl⟩ := hrel
    by_cases hlt : i < 8
    · go_wp2_with fail
      go_loop [5] (fun c => ∃ k : Nat, k ≤ runZ z i ∧ c = .int .i64 k) (fun c => 8 - (intOf c).toNat)
      case atStart => exact ⟨0, Nat.zero_le _, rfl⟩
      case round =>
        obtain ⟨k, hk, rfl⟩ := hrel
        have hr8 := run_le z i (by rw [H8.out]; omega)
        rw [H8.out] at hr8
        have HN := Lib.hid (run_next z i k hk)
        by_cases hin : i + k < 8
        · obtain ⟨g, hg⟩ : ∃ g, gs[i + k]? = some g := ⟨gs[i + k]'(by rw [h8.out]; omega), List.getElem?_eq_getElem _⟩
          have hcell := hc (i + k) (.int .u64 (g : Int)) (by rw [List.getElem?_map, hg]; rfl)
          have hfl : z[i + k]? = some (g == 0) := by rw [hz.out]; exact flag_at hg
          have hsum : (i : Int) + (k : Int) < 8 := by omega
          by_cases hg0 : g = 0
          · subst hg0
            have hnext := HN.out.1 (by simpa using hfl)
            clear hfl hg
            go_wp2_with fail
            go_round
            case rel => exact ⟨k + 1, hnext, by go_num⟩
            case measure => simp [intOf]; omega
          · have hb0 : ((g : Int) == 0) = false := by simp; omega
            have hnext := Lib.hid (HN.out.2 (by rw [hfl]; simpa using hg0))
            clear hfl hg hg0
            go_wp2_with fail
            · have hup : (lzTo z i).2 < k := by assumption
              go_round
              case rel => exact ⟨i + 1, by omega, by go_num, by rw [← (lz_up hnext.out hup).1], by rw [← (lz_up hnext.out hup).2]⟩
              case measure => simp [intOf]; omega
            · have hup : ¬ (lzTo z i).2 < k := by assumption
              go_round
              case rel => exact ⟨i + 1, by omega, by go_num, by rw [← lz_stay hnext.out hup], by rw [← lz_stay hnext.out hup]⟩
              case measure => simp [intOf]; omega
        · have hnext := Lib.hid (HN.out.2 (by rw [List.getElem?_eq_none (by rw [H8.out]; omega)]; simp))
          have hsum : ¬ (i : Int) + (k : Int) < 8 := by omega
          go_wp2_with fail
          · have hup : (lzTo z i).2 < k := by assumption
            go_round
            case rel => exact ⟨i + 1, by omega, by go_num, by rw [← (lz_up hnext.out hup).1], by rw [← (lz_up hnext.out hup).2]⟩
            case measure => simp [intOf]; omega
          · have hup : ¬ (lzTo z i).2 < k := by assumption
            go_round
            case rel => exact ⟨i + 1, by omega, by go_num, by rw [← lz_stay hnext.out hup], by rw [← lz_stay hnext.out hup]⟩
            case measure => simp [intOf]; omega
    · obtain rfl : i = 8 := by omega
      go_wp2_with fail
      go_ret2
      exact ⟨rfl, rfl⟩

theorem own_below {w w' : World} {base : Nat} {e : TypeId} {size n : Nat} {v : Value} {xs : List Value} (h : w.ownsRow base e size v n xs) (hb : Below w.heap.size w w') : w'.ownsRow base e size v n xs := by
  refine ⟨h.1, ?_⟩
  rcases h.2 with h2 | ⟨g, cap, cur, hv, hg, hh, h3⟩
  · exact .inl h2
  · exact .inr ⟨g, cap, cur, hv, hg, (hb.block g (Array.getElem?_eq_some_iff.1 hh).1).trans hh, h3⟩

abbrev sv (l : List UInt8) : Value := .string ⟨l.toArray⟩

theorem joinTail_len (sep : List UInt8) (m : Nat) : ∀ r : List (List UInt8), (∀ l ∈ r, l.length ≤ m) → (Lib.joinTail sep r).length ≤ r.length * (m + sep.length)
  | [], _ => by simp [Lib.joinTail]
  | x :: r, h => by
    have h1 := joinTail_len sep m r (fun l hl => h l (List.mem_cons_of_mem _ hl))
    have h2 := h x (List.mem_cons_self ..)
    have e : Lib.joinTail sep (x :: r) = (sep ++ x) ++ Lib.joinTail sep r := by simp [Lib.joinTail]
    rw [e, List.length_append, List.length_append, List.length_cons, Nat.succ_mul]
    omega
theorem join_len (sep : List UInt8) (m : Nat) (ls : List (List UInt8)) (h : ∀ l ∈ ls, l.length ≤ m) : (Lib.join ls sep).length ≤ ls.length * (m + sep.length) := by
  cases ls with
  | nil => simp [Lib.join_nil]
  | cons x r =>
    have h1 := joinTail_len sep m r (fun l hl => h l (List.mem_cons_of_mem _ hl))
    have h2 := h x (List.mem_cons_self ..)
    rw [Lib.join_cons, List.length_append, List.length_cons, Nat.succ_mul]
    omega

theorem join_any (A : Option Addr) (n cap : Nat) (ls : List (List UInt8)) (sep : List UInt8) (w : World) (hS : Sl w A n cap (ls.map sv)) (hn : n ≤ 1000) (hlen : (Lib.join ls sep).length ≤ 100000) :
    Calls Tryz.prog 82 #[.slice A n cap, sv sep] w (GivesV (sv (Lib.join ls sep)) w) := by
  obtain ⟨h1, h2, h3⟩ := hS
  have hl : n = ls.length := by simpa using h1
  rcases h3 with h3 | ⟨g, off, rfl, hg, hc⟩
  · subst h3
    have : ls = [] := List.eq_nil_of_length_eq_zero hl.symm
    subst this
    refine (Tryz.strings_Join_none A cap ⟨sep.toArray⟩ w).mono ?_
    rintro e w' ⟨rfl, rfl⟩
    exact ⟨rfl, Below.refl _ _⟩
  · have e : (ls.map fun l : List UInt8 => (⟨l.toArray⟩ : ByteArray)).map (·.data.toList) = ls := by simp [Function.comp_def]
    have HJ := Tryz.strings_Join g off cap (ls.map fun l => ⟨l.toArray⟩) ⟨sep.toArray⟩ w (fun j x hx => by
      rw [List.getElem?_map] at hx
      obtain ⟨l, hl', rfl⟩ := Option.map_eq_some_iff.1 hx
      exact hc j _ (by rw [List.getElem?_map, hl']; rfl)) hg (by simp; omega) (by simp; omega) (by rw [e]; exact Nat.le_trans hlen (by decide))
    rw [e, List.length_map, ← hl] at HJ
    exact HJ

theorem info_str' : (Tryz.prog.info? 9).map (fun i => (i.zero, i.size, i.bytes)) = some (some (.string ⟨#[]⟩), 1, 16) := by kernel_rfl

theorem take_next {α : Type} {l : List α} {k : Nat} {g : α} (h : l[k]? = some g) : l.take (k + 1) = l.take k ++ [g] := by
  rw [List.take_add_one, h]; rfl

set_option maxHeartbeats 2000000 in
theorem joinGroups_any (A : Option Addr) (n cap : Nat) (gs : List Nat) (w : World) (htab : Tabs w) (hn : n ≤ 8) (hg : ∀ g ∈ gs, g < 65536) (hS : SlN .u64 w A n cap gs) :
    Calls Tryz.prog 94 #[.slice A n cap] w (GivesV (sv (Lib.join (gs.map hexL) [58])) w) := by
  have hlen : n = gs.length := by simpa using hS.1
  have hJ := join_len [58] 4 (gs.map hexL) (fun l hl => by
    obtain ⟨g, _, rfl⟩ := List.mem_map.1 hl
    exact hexL_length g)
  rw [List.length_map] at hJ
  have hJ' : (Lib.join (gs.map hexL) [58]).length ≤ 100000 := by simp at hJ; omega
  clear hJ
  replace hlen := Lib.hid hlen
  obtain ⟨i0, hi0, hz0, hz1, hz2⟩ := info_parts info_str'
  go_enter Tryz.func94, Tryz.ntmps94
  go_wp2_with fail
  go_loopw [3, 8] (fun v i wr => ∃ k : Nat, k ≤ n ∧ i = .int .i64 k ∧ wr.ownsRow w.heap.size 9 1 v k ((gs.take k).map fun g => sv (hexL g)) ∧ Below w.heap.size w wr) (fun _ i _ => n - (intOf i).toNat)
  case atStart => exact ⟨0, Nat.zero_le _, rfl, World.ownsRow_nil _ _ _ _, Below.refl _ _⟩
  case round =>
    obtain ⟨k, hk, rfl, hown, hbw⟩ := hrel
    by_cases hlt : k < n
    · obtain ⟨g, hgk⟩ : ∃ g, gs[k]? = some g := ⟨gs[k]'(by rw [← hlen.out]; omega), List.getElem?_eq_getElem _⟩
      have hg16 := hg g (List.mem_of_getElem? hgk)
      obtain ⟨b, off, rfl, hb, hc⟩ : ∃ b off, A = some ⟨b, off, none⟩ ∧ b < w.heap.size ∧ ∀ j u, (gs.map fun (g : Nat) => Value.int .u64 (g : Int))[j]? = some u → w.cell? ⟨b, off + j, none⟩ = some u := by
        rcases hS.2.2 with h | h
        · omega
        · exact h
      have hcell : wr.cell? ⟨b, off + k, none⟩ = some (.int .u64 (g : Int)) := by
        rw [hbw.cell (by exact hb)]; exact hc k _ (by rw [List.getElem?_map, hgk]; rfl)
      have HF := Lib.hid (fmtU16 g hg16 wr (htab.below hbw))
      have HT := Lib.hid (take_next hgk)
      have hsz := hbw.size
      have hlt' : (k : Int) < (n : Int) := by omega
      clear hc hgk hg htab
      go_wp2_with fail
      refine HF.out.mono ?_
      rintro e w1 ⟨rfl, hb1⟩
      have hown1 := own_below hown hb1
      have hs1 := hb1.size
      have hbw1 := hbw.trans (hb1.mono hsz)
      clear hb1 hcell
      go_wp2_with (at_builtin; refine wpList_append_own _ rfl _ _ 110 rfl w.heap.size 9 i0 (.string ⟨#[]⟩) 1 16 Tryz.underlying110 hi0 hz0 hz1 hz2 rfl (by decide) _ _ _ rfl (hown1.alloc _) ⟨w1.heap.size, 0, none⟩ 1 1 [sv (hexL g)] rfl rfl ?c1 ?c2 ?c3 ?c4 ?c5 ?_)
      case c1 => exact cell_one_new _ _ _
      case c2 => simp; rfl
      case c3 => unfold maxLen; omega
      case c4 => omega
      case c5 => simp; omega
      intro v2 w2 hown2 hg2 _
      have hbw2 : Below w.heap.size w w2 := (hbw1.alloc hbw1.size _).grown hg2 (by simp; omega) (fun k h => (hown1.lt k h).1)
      clear hg2 hown hown1 hbw hbw1 HF
      go_wp2_with fail
      go_roundw
      case rel => exact ⟨k + 1, by omega, by go_num, by rw [← List.map_take] at hown2; rw [HT.out, List.map_append]; exact hown2, hbw2⟩
      case measure => simp [intOf]; omega
    · obtain rfl : k = n := by omega
      obtain ⟨A', cap', rfl, hS'⟩ := Sl.of_own hown
      rw [List.take_of_length_le (by rw [← hlen.out]; omega)] at hS'
      have HJ := Lib.hid (join_any A' k cap' (gs.map hexL) [58] wr (by rw [List.map_map]; exact hS') (by omega) hJ')
      clear hown hS' hS htab
      go_wp2_with fail
      refine HJ.out.mono ?_
      rintro e w1 ⟨rfl, hb1⟩
      go_wp2_with fail
      go_ret
      exact ⟨rfl, hbw.trans (hb1.mono hbw.size)⟩

structure Cons (w : World) : Prop where
  tabs : Tabs w
  maxl : ∃ m, w.cell? ⟨0, 0, none⟩ = some (.int .i64 m)
  esyn : ∃ tp p, w.var? Tryz.prog "strconv.ErrSyntax" = some #[.iface tp p]
  eran : ∃ tp p, w.var? Tryz.prog "strconv.ErrRange" = some #[.iface tp p]

theorem Cons.upto {w w' : World} (h : Cons w) (hb : ∀ j, j < 8 → w'.heap[j]? = w.heap[j]?) (hs : w.heap.size ≤ w'.heap.size) : Cons w' := by
  have g1 : Tryz.prog.globalNamed "strconv.ErrSyntax" = some 1 := by kernel_rfl
  have g2 : Tryz.prog.globalNamed "strconv.ErrRange" = some 2 := by kernel_rfl
  obtain ⟨m, hm⟩ := h.maxl
  obtain ⟨t1, p1, h1⟩ := h.esyn
  obtain ⟨t2, p2, h2⟩ := h.eran
  exact ⟨h.tabs.upto hb hs, ⟨m, by rw [World.cell?_of_block (w := w) (hb _ (by simp))]; exact hm⟩, ⟨t1, p1, by rw [var_block g1 (hb _ (by omega))]; exact h1⟩, ⟨t2, p2, by rw [var_block g2 (hb _ (by omega))]; exact h2⟩⟩
theorem Cons.below {w w' : World} (h : Cons w) (k : Below w.heap.size w w') : Cons w' :=
  have := h.tabs.2.2
  h.upto (fun j hj => k.block j (by omega)) k.size
theorem Cons.grown {w w' : World} {b : Nat} (h : Cons w) (k : w.grownBy w' (some b)) (hb : 8 ≤ b) : Cons w' :=
  have := h.tabs.2.2
  h.upto (fun j hj => k.block j (by omega) (by intro e; cases e; omega)) k.size
theorem Cons.alloc {w : World} (h : Cons w) (o : Obj) : Cons (w.alloc o) := h.below (.alloc (.refl _ _) (Nat.le_refl _) _)
theorem Cons.setCell {w : World} (h : Cons w) {p : Addr} (hp : 8 ≤ p.block) (v : Value) : Cons (w.setCell p v) :=
  h.upto (fun j hj => Below.heap_setCell _ _ _ _ (by omega)) (by simp [World.setCell])

theorem ba_eq (l : List UInt8) : ((⟨l.toArray⟩ : ByteArray) = ⟨#[48]⟩) ↔ l = [48] := by
  constructor
  · intro h
    have := congrArg (fun b : ByteArray => b.data.toList) h
    simpa using this
  · rintro rfl; rfl

theorem ret_b {a b : Bool} (h : a = b) : Ending.returned (.bool a) = Ending.returned (.bool b) := by rw [h]

set_option maxHeartbeats 400000 in
theorem clo_any (l : List UInt8) (w : World) : Calls Tryz.prog 86 #[sv l] w fun e w' => e = .returned (.bool (decide (l ≠ [48]))) ∧ w = w' := by
  by_cases h : l = [48]
  · subst h
    go_enter Tryz.func86, Tryz.ntmps86
    go_wp2_with fail
    go_ret
    exact ⟨rfl, rfl⟩
  · have h' : ¬ ((⟨l.toArray⟩ : ByteArray) = ⟨#[48]⟩) := fun e => h ((ba_eq l).1 e)
    have HR : Hid ((!l == [48]) = decide (l ≠ [48])) := Lib.hid (by simp [h])
    clear h
    go_enter Tryz.func86, Tryz.ntmps86
    go_wp2_with fail
    go_ret
    exact ⟨ret_b HR.out, rfl⟩

def nz (l : List UInt8) : Bool := decide (l ≠ [48])
def IdxPost (b : Bool) (w : World) (e : Ending) (w' : World) : Prop := ∃ r : Int, decide (0 ≤ r) = b ∧ e = .returned (.int .i64 r) ∧ w = w'

theorem any_hit {ls : List (List UInt8)} {k : Nat} {l : List UInt8} (h : ls[k]? = some l) (hn : nz l = true) : ls.any nz = true := List.any_eq_true.2 ⟨l, List.mem_of_getElem? h, hn⟩
theorem any_miss {ls : List (List UInt8)} {k : Nat} {l : List UInt8} (h : ls[k]? = some l) (hn : nz l = false) (ha : (ls.take k).any nz = false) : (ls.take (k + 1)).any nz = false := by
  rw [take_next h, List.any_append, ha]; simp [hn]

set_option maxHeartbeats 1000000 in
theorem indexF_any (A : Option Addr) (n cap : Nat) (ls : List (List UInt8)) (w : World) (hn : n ≤ 1000) (hS : Sl w A n cap (ls.map sv)) :
    Calls Tryz.prog 106 #[.slice A n cap, .func (.func 86) #[] #[]] w (IdxPost (ls.any nz) w) := by
  have hlen : Hid (n = ls.length) := Lib.hid (by simpa using hS.1)
  have hS2 := Lib.hid hS.2.2
  clear hS
  go_enter Tryz.func106, Tryz.ntmps106
  go_wp2_with fail
  go_loop [8, 5] (fun i _ => ∃ k : Nat, k ≤ n ∧ i = .int .i64 k ∧ Hid ((ls.take k).any nz = false)) (fun i _ => n - (intOf i).toNat)
  case atStart => exact ⟨0, Nat.zero_le _, rfl, Lib.hid (by simp)⟩
  case round =>
    obtain ⟨k, hk, rfl, hno⟩ := hrel
    by_cases hlt : k < n
    · obtain ⟨l, hl⟩ : ∃ l, ls[k]? = some l := ⟨ls[k]'(by rw [← hlen.out]; omega), List.getElem?_eq_getElem _⟩
      obtain ⟨b, off, rfl, hb, hc⟩ : ∃ b off, A = some ⟨b, off, none⟩ ∧ b < w.heap.size ∧ ∀ j u, (ls.map sv)[j]? = some u → w.cell? ⟨b, off + j, none⟩ = some u := by
        rcases hS2.out with h | h
        · omega
        · exact h
      have hcell : w.cell? ⟨b, off + k, none⟩ = some (sv l) := hc k _ (by rw [List.getElem?_map, hl]; rfl)
      have hlt' : (k : Int) < (n : Int) := by omega
      have HL := Lib.hid hl
      have HC := fun w' => Lib.hid (clo_any l w')
      clear hc hl
      cases hq : decide (l ≠ [48])
      · rw [hq] at HC
        have HN := Lib.hid (any_miss HL.out hq hno.out)
        clear hq
        go_wp2_with fail
        refine (HC _).out.mono ?_
        rintro e w1 ⟨rfl, rfl⟩
        go_wp2_with fail
        go_round
        case rel => exact ⟨k + 1, by omega, by go_num, HN⟩
        case measure => simp [intOf]; omega
      · rw [hq] at HC
        have HN := Lib.hid (any_hit HL.out hq)
        clear hq
        go_wp2_with fail
        refine (HC _).out.mono ?_
        rintro e w1 ⟨rfl, rfl⟩
        go_wp2_with fail
        go_ret
        exact ⟨_, by rw [HN.out]; simp, rfl, rfl⟩
    · obtain rfl : k = n := by omega
      go_wp2_with fail
      go_ret
      refine ⟨_, ?_, rfl, rfl⟩
      have := hno.out
      rw [List.take_of_length_le (by rw [← hlen.out]; omega)] at this
      rw [this]; rfl

set_option maxHeartbeats 1000000 in
theorem containsF_any (A : Option Addr) (n cap : Nat) (ls : List (List UInt8)) (w : World) (hn : n ≤ 1000) (hS : Sl w A n cap (ls.map sv)) :
    Calls Tryz.prog 85 #[.slice A n cap, .func (.func 86) #[] #[]] w fun e w' => e = .returned (.bool (ls.any nz)) ∧ w = w' := by
  have HI := Lib.hid (indexF_any A n cap ls w hn hS)
  clear hS
  go_enter Tryz.func85, Tryz.ntmps85
  go_wp2_with fail
  refine HI.out.mono ?_
  rintro e w1 ⟨r, hr, rfl, rfl⟩
  have HR := Lib.hid hr
  clear hr
  go_wp2_with fail
  go_ret
  exact ⟨ret_b HR.out, rfl⟩
end Go.Proofs.YtkldcmmlllkhkaaGreatDoor
