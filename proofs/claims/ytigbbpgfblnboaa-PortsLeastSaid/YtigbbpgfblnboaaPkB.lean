/- Packets: slices that read as lists; sums of bytes. -/
import Derived.Test.YtigbbpgfblnboaaPkA
import Derived.Test.YtigbbpgfblnboaaLaneB
import Derived.Test.YtigbbpgfblnboaaGen
namespace Go.Proofs.Ytigbbpgfblnboaa
open Go.RowKit

/-- A slice (its address, length, capacity) that reads as a list of values of one cell. -/
def Sl (w : World) (A : Option Addr) (n cap : Nat) (vs : List Value) : Prop :=
  n = vs.length ∧ n ≤ cap ∧ (n = 0 ∨ ∃ g off, A = some ⟨g, off, none⟩ ∧ g < w.heap.size ∧ ∀ j u, vs[j]? = some u → w.cell? ⟨g, off + j, none⟩ = some u)
theorem Sl.keep {w w' : World} {A : Option Addr} {n cap : Nat} {vs : List Value} (h : Sl w A n cap vs) (hs : w.heap.size ≤ w'.heap.size) (hk : ∀ j, j < w.heap.size → w'.heap[j]? = w.heap[j]?) : Sl w' A n cap vs := by
  obtain ⟨h1, h2, h3⟩ := h
  refine ⟨h1, h2, ?_⟩
  rcases h3 with h3 | ⟨g, off, hA, hg, hc⟩
  · exact .inl h3
  · exact .inr ⟨g, off, hA, by omega, fun j u hu => by rw [World.cell?_of_block (w := w) (hk g hg)]; exact hc j u hu⟩
theorem Sl.below {w w' : World} {A : Option Addr} {n cap : Nat} {vs : List Value} (h : Sl w A n cap vs) (hb : Below w.heap.size w w') : Sl w' A n cap vs := h.keep hb.size hb.block
theorem Sl.alloc {w : World} {A : Option Addr} {n cap : Nat} {vs : List Value} (h : Sl w A n cap vs) (o : Obj) : Sl (w.alloc o) A n cap vs := h.below (.alloc (.refl _ _) (Nat.le_refl _) _)
theorem Sl.of_own {w : World} {base : Nat} {e : TypeId} {v : Value} {n : Nat} {xs : List Value} (h : w.ownsRow base e 1 v n xs) : ∃ A cap, v = .slice A n cap ∧ Sl w A n cap xs := by
  rcases h.2 with ⟨hv, h0⟩ | ⟨g, cap, cur, hv, _, hg, hle, hm, _, _⟩
  · subst h0
    have : xs = [] := List.eq_nil_of_length_eq_zero (by simpa using h.1)
    subst this
    exact ⟨none, 0, hv, rfl, Nat.zero_le _, .inl rfl⟩
  · refine ⟨some ⟨g, 0, none⟩, cap, hv, by have := h.1; omega, hle, .inr ⟨g, 0, rfl, (Array.getElem?_eq_some_iff.1 hg).1, fun j u hu => ?_⟩⟩
    have := h.cells (g := g) (by rw [hv]; rfl) j u hu
    simp only [Nat.zero_add]
    by_cases hj : j = 0
    · subst hj; simpa [Addr.add] using this
    · simpa [Addr.add, hj] using this
/-- Bytes as values. -/
def bV (bs : List Nat) : List Value := bs.map fun (b : Nat) => Value.int .u8 (b : Int)
theorem bV_len (bs : List Nat) : (bV bs).length = bs.length := by simp [bV]
theorem bV_app (xs ys : List Nat) : bV (xs ++ ys) = bV xs ++ bV ys := by simp [bV]
theorem bV_at {bs : List Nat} {j : Nat} {u : Value} (h : (bV bs)[j]? = some u) : ∃ b, bs[j]? = some b ∧ u = .int .u8 (b : Int) := by
  unfold bV at h
  rw [List.getElem?_map] at h
  cases hb : bs[j]? with
  | none => rw [hb] at h; cases h
  | some b => rw [hb] at h; exact ⟨b, rfl, by cases h; rfl⟩
theorem bV_get {bs : List Nat} {j b : Nat} (h : bs[j]? = some b) : (bV bs)[j]? = some (.int .u8 (b : Int)) := by
  unfold bV; rw [List.getElem?_map, h]; rfl
/-- A slice of bytes. -/
def SlB (w : World) (A : Option Addr) (n cap : Nat) (bs : List Nat) : Prop := Sl w A n cap (bV bs)
theorem SlB.below {w w' : World} {A : Option Addr} {n cap : Nat} {bs : List Nat} (h : SlB w A n cap bs) (hb : Below w.heap.size w w') : SlB w' A n cap bs := Sl.below h hb
theorem SlB.len {w : World} {A : Option Addr} {n cap : Nat} {bs : List Nat} (h : SlB w A n cap bs) : n = bs.length := by have := h.1; rwa [bV_len] at this
/-- All are bytes. -/
def Byt (bs : List Nat) : Prop := ∀ b ∈ bs, b < 256
theorem Byt.app {xs ys : List Nat} (h : Byt xs) (k : Byt ys) : Byt (xs ++ ys) := fun b hb => (List.mem_append.1 hb).elim (h b) (k b)

theorem drop_at {α : Type} {l : List α} {k : Nat} {g : α} (h : l[k]? = some g) : l.drop k = g :: l.drop (k + 1) := by
  obtain ⟨hk, rfl⟩ := List.getElem?_eq_some_iff.1 h
  exact List.drop_eq_getElem_cons hk
theorem sumP_even {bs : List Nat} {k x : Nat} {z T : Int} (hd : bs.drop k = x :: bs.drop (k + 1)) (he : (k : Int) % 2 = 0) (h : z + (sumP (decide (k % 2 = 0)) (bs.drop k) : Int) = T) :
    z + (x : Int) * 256 + (sumP (decide ((k + 1) % 2 = 0)) (bs.drop (k + 1)) : Int) = T := by
  rw [hd, decide_eq_true (show k % 2 = 0 by omega)] at h
  rw [decide_eq_false (show ¬ (k + 1) % 2 = 0 by omega)]
  simp only [sumP] at h
  omega
theorem sumP_odd {bs : List Nat} {k x : Nat} {z T : Int} (hd : bs.drop k = x :: bs.drop (k + 1)) (he : ¬ (k : Int) % 2 = 0) (h : z + (sumP (decide (k % 2 = 0)) (bs.drop k) : Int) = T) :
    z + (x : Int) + (sumP (decide ((k + 1) % 2 = 0)) (bs.drop (k + 1)) : Int) = T := by
  rw [hd, decide_eq_false (show ¬ k % 2 = 0 by omega)] at h
  rw [decide_eq_true (show (k + 1) % 2 = 0 by omega)]
  simp only [sumP] at h
  omega
/-- What the reference holds on its way. -/
def RefS (bs : List Nat) (k : Nat) (z : Int) (any : Bool) : Prop := ∃ S : Int, z = S % 65535 ∧ 0 ≤ S ∧ any = decide (0 < S) ∧ S + (sumP (decide (k % 2 = 0)) (bs.drop k) : Int) = (sumP true bs : Int)
theorem refE {bs : List Nat} {k x : Nat} {z y z' : Int} {any any' : Bool} (hd : bs.drop k = x :: bs.drop (k + 1)) (he : (k : Int) % 2 = 0) (h : RefS bs k z any) (hy : y = (x : Int)) (hz : z' = (z + y * 256) % 65535) (ha : any' = (any || decide (0 < y))) : RefS bs (k + 1) z' any' := by
  obtain ⟨S, rfl, h0, rfl, hS⟩ := h
  have hs := sumP_even hd he hS
  subst hy hz ha
  refine ⟨S + (x : Int) * 256, by omega, by omega, ?_, hs⟩
  rw [← Bool.decide_or]; exact decide_eq_decide.2 (by omega)
theorem refO {bs : List Nat} {k x : Nat} {z y z' : Int} {any any' : Bool} (hd : bs.drop k = x :: bs.drop (k + 1)) (he : (k : Int) % 2 = 1) (h : RefS bs k z any) (hy : y = (x : Int)) (hz : z' = (z + y) % 65535) (ha : any' = (any || decide (0 < y))) : RefS bs (k + 1) z' any' := by
  obtain ⟨S, rfl, h0, rfl, hS⟩ := h
  have hs := sumP_odd hd (by omega) hS
  subst hy hz ha
  refine ⟨S + (x : Int), by omega, by omega, ?_, hs⟩
  rw [← Bool.decide_or]; exact decide_eq_decide.2 (by omega)
theorem refEnd {bs : List Nat} {n : Nat} {z : Int} {any : Bool} (hn : n = bs.length) (h : RefS bs n z any) : sumR bs = 65535 - (if z = 0 ∧ any = true then 65535 else z) := by
  obtain ⟨S, rfl, h0, rfl, hS⟩ := h
  have e : (sumP (decide (n % 2 = 0)) (bs.drop n) : Int) = 0 := by
    rw [hn, List.drop_length]; cases decide (bs.length % 2 = 0) <;> rfl
  have eS : S.toNat = sumP true bs := by omega
  unfold sumR
  rw [← fd_mod, ← eS]
  split <;> split <;> simp_all <;> omega
theorem fd_toNat {z : Int} (h0 : 65535 < z) : fd (z / 65536 + z % 65536).toNat = fd z.toNat := by
  have e : (z / 65536 + z % 65536).toNat = z.toNat / 65536 + z.toNat % 65536 := by omega
  rw [e]; exact fd_step (by omega)
theorem and16i (x : Int) (h1 : 0 ≤ x) (h2 : x < 9223372036854775808) : bits .and .i64 x 65535 = x % 65536 := by
  have hm : (BitVec.ofInt 64 65535).toNat = 2 ^ 16 - 1 := by decide
  have key : (BitVec.ofInt 64 x &&& BitVec.ofInt 64 65535).toNat = (x % ((2 ^ 64 : Nat) : Int)).toNat % 2 ^ 16 := by
    rw [BitVec.toNat_and, BitVec.toNat_ofInt, hm, Nat.and_two_pow_sub_one_eq_mod]
  show IntKind.i64.wrap ((BitVec.ofInt 64 x &&& BitVec.ofInt 64 65535).toNat : Nat) = x % 65536
  rw [key, IntKind.wrap_i64]
  omega

set_option maxHeartbeats 2000000 in
theorem sum_any (A : Option Addr) (n cap : Nat) (bs : List Nat) (w : World) (hS : SlB w A n cap bs) (hn : n ≤ 100000) (hb : Byt bs) :
    Calls Try.prog 26 #[.slice A n cap] w fun e w' => e = .returned (.int .i64 (sumR bs)) ∧ Below w.heap.size w w' := by
  have hl := Lib.hid hS.len
  have h3 := Lib.hid hS.2.2
  clear hS
  replace hb := Lib.hid hb
  have hT := Lib.hid (show (sumP true bs : Int) ≤ 65280 * n from by have := sumP_le bs true hb.out; have := hl.out; omega)
  go_enter Try.func26, Try.ntmps26
  go_wp2_with fail
  go_loop [3, 8] (fun s c => ∃ (k : Nat) (z : Int), k ≤ n ∧ c = .int .i64 k ∧ s = .int .i64 z ∧ 0 ≤ z ∧ z ≤ 65280 * 100000 ∧ Hid (z + (sumP (decide (k % 2 = 0)) (bs.drop k) : Int) = (sumP true bs : Int))) (fun _ c => n - (intOf c).toNat)
  case atStart => exact ⟨0, 0, Nat.zero_le _, rfl, rfl, by omega, by omega, Lib.hid (by simp)⟩
  case round =>
    obtain ⟨k, z, hk, rfl, rfl, hz0, hz1, hG⟩ := hrel
    by_cases hlt : k < n
    · obtain ⟨x, hx⟩ : ∃ x, bs[k]? = some x := ⟨bs[k]'(by have := hl.out; omega), List.getElem?_eq_getElem _⟩
      have hx256 := hb.out x (List.mem_of_getElem? hx)
      obtain ⟨g, off, rfl, hg, hc⟩ : ∃ g off, A = some ⟨g, off, none⟩ ∧ g < w.heap.size ∧ ∀ j u, (bV bs)[j]? = some u → w.cell? ⟨g, off + j, none⟩ = some u := by
        rcases h3.out with h | h
        · omega
        · exact h
      have c0 := hc k _ (bV_get hx)
      clear hc
      have hdr := Lib.hid (drop_at hx)
      clear hx
      obtain ⟨y, hy⟩ : ∃ y : Int, y = (x : Int) := ⟨_, rfl⟩
      rw [← hy] at c0
      have hy0 : 0 ≤ y := by omega
      have hy1 : y < 256 := by omega
      replace hy := Lib.hid hy
      clear hx256
      by_cases he : (k : Int) % 2 = 0
      · go_wp2_with fail
        go_round
        case rel => exact ⟨k + 1, z + y * 256, by omega, by go_num, rfl, by omega, by have := sumP_even hdr.out he hG.out; have := hy.out; have := hT.out; omega, Lib.hid (by rw [hy.out]; exact sumP_even hdr.out he hG.out)⟩
        case measure => simp [intOf]; omega
      · go_wp2_with fail
        go_round
        case rel => exact ⟨k + 1, z + y, by omega, by go_num, rfl, by omega, by have := sumP_odd hdr.out he hG.out; have := hy.out; have := hT.out; omega, Lib.hid (by rw [hy.out]; exact sumP_odd hdr.out he hG.out)⟩
        case measure => simp [intOf]; omega
    · go_wp2_with fail
      have hkl : k = n := by omega
      have hz := Lib.hid (show z = (sumP true bs : Int) from by
        have h := hG.out
        rw [hkl, hl.out, List.drop_length] at h
        cases hd : decide (bs.length % 2 = 0) <;> rw [hd] at h <;> simp [sumP] at h <;> omega)
      clear hG hkl hT
      go_loop [3] (fun s => ∃ z : Int, s = .int .i64 z ∧ 0 ≤ z ∧ z ≤ 65280 * 100000 ∧ Hid (fd z.toNat = fd (sumP true bs))) (fun s => (intOf s).toNat)
      case atStart => exact ⟨z, rfl, hz0, hz1, Lib.hid (by rw [hz.out]; rfl)⟩
      case round =>
        clear hz hz0 hz1
        obtain ⟨z, rfl, hz0, hz1, hF⟩ := hrel
        by_cases hgt : 65535 < z
        · have hand := and16i z hz0 (by omega)
          go_wp2_with fail
          go_round
          case rel => exact ⟨z / 65536 + z % 65536, rfl, by omega, by omega, Lib.hid (by rw [fd_toNat hgt]; exact hF.out)⟩
          case measure => simp only [intOf]; omega
        · go_wp2_with fail
          go_ret
          exact ⟨by
            have h : (z : Int) = (fd (sumP true bs) : Int) := by rw [← hF.out, fd_small (by omega)]; omega
            show Ending.returned (.int .i64 (65535 - z)) = _
            rw [h]; rfl, Below.refl _ _⟩

set_option maxHeartbeats 2000000 in
theorem checkSumOf_any (A : Option Addr) (n cap : Nat) (bs : List Nat) (w : World) (hS : SlB w A n cap bs) (hn : n ≤ 100000) (hb : Byt bs) :
    Calls Try.prog 27 #[.slice A n cap] w fun e w' => e = .returned (.int .i64 (sumR bs)) ∧ Below w.heap.size w w' := by
  have hl := Lib.hid hS.len
  have h3 := Lib.hid hS.2.2
  clear hS
  replace hb := Lib.hid hb
  go_enter Try.func27, Try.ntmps27
  go_wp2_with fail
  go_loop [3, 4, 9] (fun s an c => ∃ (k : Nat) (z : Int) (any : Bool), k ≤ n ∧ c = .int .i64 k ∧ s = .int .i64 z ∧ an = .bool any ∧ 0 ≤ z ∧ z < 65535 ∧ Hid (RefS bs k z any)) (fun _ _ c => n - (intOf c).toNat)
  case atStart => exact ⟨0, 0, false, Nat.zero_le _, rfl, rfl, rfl, by omega, by omega, Lib.hid ⟨0, by simp, by simp, by simp, by simp⟩⟩
  case round =>
    obtain ⟨k, z, any, hk, rfl, rfl, rfl, hz0, hz1, hG⟩ := hrel
    by_cases hlt : k < n
    · obtain ⟨x, hx⟩ : ∃ x, bs[k]? = some x := ⟨bs[k]'(by have := hl.out; omega), List.getElem?_eq_getElem _⟩
      have hx256 := hb.out x (List.mem_of_getElem? hx)
      obtain ⟨g, off, rfl, hg, hc⟩ : ∃ g off, A = some ⟨g, off, none⟩ ∧ g < w.heap.size ∧ ∀ j u, (bV bs)[j]? = some u → w.cell? ⟨g, off + j, none⟩ = some u := by
        rcases h3.out with h | h
        · omega
        · exact h
      have c0 := hc k _ (bV_get hx)
      clear hc
      have hdr := Lib.hid (drop_at hx)
      clear hx
      obtain ⟨y, hy⟩ : ∃ y : Int, y = (x : Int) := ⟨_, rfl⟩
      rw [← hy] at c0
      have hy0 : 0 ≤ y := by omega
      have hy1 : y < 256 := by omega
      replace hy := Lib.hid hy
      clear hx256
      rcases (by omega : (k : Int) % 2 = 0 ∨ (k : Int) % 2 = 1) with he | he
      · by_cases hp : 0 < y
        · cases any <;> (
            go_wp2_with fail
            go_round
            case rel => exact ⟨k + 1, _, _, by omega, by go_num, rfl, rfl, by omega, by omega, Lib.hid (refE hdr.out he hG.out hy.out (by first | rfl | (congr 1; omega) | omega) (by rw [decide_eq_true hp]; rfl))⟩
            case measure => simp [intOf]; omega)
        · have hp0 : y = 0 := by omega
          cases any <;> (
            go_wp2_with fail
            go_round
            case rel => exact ⟨k + 1, _, _, by omega, by go_num, rfl, rfl, by omega, by omega, Lib.hid (refE hdr.out he hG.out hy.out (by first | rfl | (congr 1; omega) | omega) (by rw [decide_eq_false (by omega)]; rfl))⟩
            case measure => simp [intOf]; omega)
      · by_cases hp : 0 < y
        · cases any <;> (
            go_wp2_with fail
            go_round
            case rel => exact ⟨k + 1, _, _, by omega, by go_num, rfl, rfl, by omega, by omega, Lib.hid (refO hdr.out he hG.out hy.out (by first | rfl | (congr 1; omega) | omega) (by rw [decide_eq_true hp]; rfl))⟩
            case measure => simp [intOf]; omega)
        · cases any <;> (
            go_wp2_with fail
            go_round
            case rel => exact ⟨k + 1, _, _, by omega, by go_num, rfl, rfl, by omega, by omega, Lib.hid (refO hdr.out he hG.out hy.out (by first | rfl | (congr 1; omega) | omega) (by rw [decide_eq_false (by omega)]; rfl))⟩
            case measure => simp [intOf]; omega)
    · have hkl : k = n := by omega
      have hE := Lib.hid (refEnd hl.out (show RefS bs n z any from hkl ▸ hG.out))
      clear hG hl hb h3 hkl
      by_cases hz : z = 0
      · cases any
        · go_wp2_with fail
          go_ret
          exact ⟨by rw [hE.out, if_neg (by simp), hz]; rfl, Below.refl _ _⟩
        · go_wp2_with fail
          go_ret
          exact ⟨by rw [hE.out, if_pos (by simp [hz])]; rfl, Below.refl _ _⟩
      · go_wp2_with fail
        go_ret
        exact ⟨by rw [hE.out, if_neg (fun h => hz h.1)]; rfl, Below.refl _ _⟩
end Go.Proofs.Ytigbbpgfblnboaa
