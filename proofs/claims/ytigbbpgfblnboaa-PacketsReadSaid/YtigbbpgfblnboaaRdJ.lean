/- Packets that are read: bytes of one's own that are changed; the reference's lists. -/
import Derived.Test.YtigbbpgfblnboaaRdI
import Derived.Test.YtigbbpgfblnboaaPkU
namespace Go.Proofs.Ytigbbpgfblnboaa
open Go.RowKit
set_option linter.unusedVariables false
set_option linter.unusedSimpArgs false

theorem rd_set {w : World} {base : Nat} {e : TypeId} {size n cap g : Nat} {xs : List Value} (h : w.ownsRow base e size (.slice (some ⟨g, 0, none⟩) n cap) n xs) (i : Nat) (u : Value) (hi : i < n * size) :
    (w.setCell ⟨g, i, none⟩ u).ownsRow base e size (.slice (some ⟨g, 0, none⟩) n cap) n (xs.set i u) := by
  obtain ⟨h1, h2⟩ := h
  refine ⟨by rw [List.length_set]; exact h1, ?_⟩
  rcases h2 with ⟨hv, _⟩ | ⟨g', cap', cur, hv, hg, hh, hle, hmx, hsz, ht⟩
  · cases hv
  · cases hv
    refine .inr ⟨g, cap, cur.set! i u, rfl, hg, ?_, hle, hmx, by simpa using hsz, ?_⟩
    · simp only [World.setCell, Array.getElem?_modify, if_pos, hh, Option.map_some]
      simp
    · rw [← ht]
      simp only [Array.set!_eq_setIfInBounds, Array.toList_setIfInBounds]
      rw [List.take_set]
theorem rd_frozen {w : World} {base : Nat} {e : TypeId} {size n cap g : Nat} {xs : List Value} (h : w.ownsRow base e size (.slice (some ⟨g, 0, none⟩) n cap) n xs) (i : Nat) : w.frozen? ⟨g, i, none⟩ = false := by
  rcases h.2 with ⟨hv, _⟩ | ⟨g', cap', cur, hv, hg, hh, _⟩
  · cases hv
  · cases hv; exact frozen_of_row w g i _ _ hh
theorem rd_base {w : World} {base : Nat} {e : TypeId} {size n cap g : Nat} {xs : List Value} (h : w.ownsRow base e size (.slice (some ⟨g, 0, none⟩) n cap) n xs) : base ≤ g ∧ g < w.heap.size := by
  rcases h.2 with ⟨hv, _⟩ | ⟨g', cap', cur, hv, hg, hh, _⟩
  · cases hv
  · cases hv; exact ⟨hg, (Array.getElem?_eq_some_iff.1 hh).1⟩

theorem Own.setB {B g n c : Nat} {w : World} {bs : List Nat} (h : Own B w (.slice (some ⟨g, 0, none⟩) n c) bs) (i x : Nat) (hi : i < n) : Own B (w.setCell ⟨g, i, none⟩ (.int .u8 x)) (.slice (some ⟨g, 0, none⟩) n c) (bs.set i x) := by
  have hn := h.cap.1
  unfold Own at *
  rw [List.length_set]
  rw [← hn] at h ⊢
  have e : bV (bs.set i x) = (bV bs).set i (.int .u8 x) := by unfold bV; rw [List.map_set]
  rw [e]
  exact rd_set h i _ (by omega)
theorem Own.freeB {B g n c : Nat} {w : World} {bs : List Nat} (h : Own B w (.slice (some ⟨g, 0, none⟩) n c) bs) (i : Nat) : w.frozen? ⟨g, i, none⟩ = false := by
  have hn := h.cap.1
  unfold Own at h
  rw [← hn] at h
  exact rd_frozen h i
theorem Own.cellB {B g n c : Nat} {w : World} {bs : List Nat} (h : Own B w (.slice (some ⟨g, 0, none⟩) n c) bs) (i : Nat) (hi : i < n) : w.cell? ⟨g, i, none⟩ = some (.int .u8 (bs.getD i 0 : Nat)) := by
  have := (h.cap.2.2.byte i hi).1
  rwa [Nat.zero_add] at this
theorem Own.atB {B g n c : Nat} {w : World} {bs : List Nat} (h : Own B w (.slice (some ⟨g, 0, none⟩) n c) bs) : B ≤ g ∧ g < w.heap.size := by
  have hn := h.cap.1
  unfold Own at h
  rw [← hn] at h
  exact rd_base h
theorem set_two {bs : List Nat} {k : Nat} (h : k + 2 ≤ bs.length) : (bs.set k 0).set (k + 1) 0 = splice bs k [0, 0] := by
  unfold splice
  apply List.ext_getElem?
  intro j
  simp only [List.getElem?_set, List.getElem?_append, List.length_take, List.getElem?_take, List.getElem?_drop, List.length_set, List.length_cons, List.length_nil]
  rw [Nat.min_eq_left (by omega)]
  by_cases h1 : j < k
  · rw [if_neg (by omega), if_neg (by omega), if_pos h1, if_pos h1]
  · rw [if_neg h1]
    by_cases h2 : j = k
    · subst h2
      rw [if_neg (by omega), if_pos rfl, if_pos (by omega), if_pos (by omega)]
      simp
    · by_cases h3 : j = k + 1
      · subst h3
        rw [if_pos rfl, if_pos (by omega), if_pos (by omega), show k + 1 - k = 1 by omega]
        simp
      · rw [if_neg (by omega), if_neg (by omega), if_neg (by omega)]
        congr 1
        omega
theorem num_part (g off n cap c : Nat) (bs : List Nat) (w : World) (hS : SlB w (some ⟨g, off, none⟩) n cap bs) (i k : Nat) (hk : i + k ≤ n) (hk4 : k ≤ 8) (hc : k ≤ c) (hb : Byt bs) :
    Calls Try.prog 59 #[.slice (some ⟨g, off + i, none⟩) k c] w fun e w' => e = .returned (.int .u64 (nb bs i k)) ∧ Below w.heap.size w w' :=
  numberR_any _ k c _ w (hS.part i k c hk hc) hk4 (hb.sub i k)

/-- Where a number is in three. -/
def idx3 (a b c x : Int) : Int := if x = a then 0 else if x = b then 1 else if x = c then 2 else -1
set_option maxHeartbeats 2000000 in
theorem index3_any (a b c x : Int) (B : Nat) (t : TypeId) (w : World) (hL : Blk w B [.int .i64 a, .int .i64 b, .int .i64 c] t) :
    Calls Try.prog 84 #[.slice (some ⟨B, 0, none⟩) 3 3, .int .i64 x] w fun e w' => e = .returned (.int .i64 (idx3 a b c x)) ∧ w = w' := by
  obtain ⟨c0, c1, c2, _⟩ := hL.three
  have hN := Lib.hid (show idx3 a b c x = if x = a then 0 else if x = b then 1 else if x = c then 2 else -1 from rfl)
  generalize idx3 a b c x = N at hN ⊢
  by_cases h1 : x = a
  · have hE := Lib.hid (show N = 0 by rw [hN.out, if_pos h1])
    clear hN
    subst h1
    go_enter Try.func84, Try.ntmps84
    go_wp2_with fail
    refine wp_loop_rounds 4 ?_
    rw [rounds_succ]
    go_wp2_with fail
    go_ret
    exact ⟨by rw [hE.out]; rfl, rfl⟩
  · have e1 : (x == a) = false := by simp [h1]
    by_cases h2 : x = b
    · have hE := Lib.hid (show N = 1 by rw [hN.out, if_neg h1, if_pos h2])
      clear hN
      replace h1 := Lib.hid h1
      subst h2
      go_enter Try.func84, Try.ntmps84
      go_wp2_with fail
      refine wp_loop_rounds 4 ?_
      rw [rounds_succ]
      go_wp2_with fail
      rw [rounds_succ]
      go_wp2_with fail
      go_ret
      exact ⟨by rw [hE.out]; rfl, rfl⟩
    · have e2 : (x == b) = false := by simp [h2]
      by_cases h3 : x = c
      · have hE := Lib.hid (show N = 2 by rw [hN.out, if_neg h1, if_neg h2, if_pos h3])
        clear hN
        replace h1 := Lib.hid h1
        replace h2 := Lib.hid h2
        subst h3
        go_enter Try.func84, Try.ntmps84
        go_wp2_with fail
        refine wp_loop_rounds 4 ?_
        rw [rounds_succ]
        go_wp2_with fail
        rw [rounds_succ]
        go_wp2_with fail
        rw [rounds_succ]
        go_wp2_with fail
        go_ret
        exact ⟨by rw [hE.out]; rfl, rfl⟩
      · have e3 : (x == c) = false := by simp [h3]
        have hE := Lib.hid (show N = -1 by rw [hN.out, if_neg h1, if_neg h2, if_neg h3])
        clear hN
        replace h1 := Lib.hid h1
        replace h2 := Lib.hid h2
        replace h3 := Lib.hid h3
        go_enter Try.func84, Try.ntmps84
        go_wp2_with fail
        refine wp_loop_rounds 4 ?_
        rw [rounds_succ]
        go_wp2_with fail
        rw [rounds_succ]
        go_wp2_with fail
        rw [rounds_succ]
        go_wp2_with fail
        rw [rounds_succ]
        go_wp2_with fail
        go_ret
        exact ⟨by rw [hE.out]; rfl, rfl⟩
set_option maxHeartbeats 1000000 in
theorem contains3_any (a b c x : Int) (B : Nat) (t : TypeId) (w : World) (hL : Blk w B [.int .i64 a, .int .i64 b, .int .i64 c] t) (r : Bool) (hr : r = decide (x = a ∨ x = b ∨ x = c)) :
    Calls Try.prog 83 #[.slice (some ⟨B, 0, none⟩) 3 3, .int .i64 x] w fun e w' => e = .returned (.bool r) ∧ w = w' := by
  have HI := Lib.hid (index3_any a b c x B t w hL)
  have hN : decide (0 ≤ idx3 a b c x) = r := by
    rw [hr]; unfold idx3
    apply decide_eq_decide.2
    split
    · rename_i h; simp [h]
    · split
      · rename_i h; simp [h]
      · split
        · rename_i h; simp [h]
        · rename_i h1 h2 h3; constructor
          · intro h; omega
          · rintro (h | h | h) <;> contradiction
  have hN2 : -1 ≤ idx3 a b c x := by unfold idx3; split <;> (try split) <;> (try split) <;> omega
  clear hr hL
  generalize idx3 a b c x = N at HI hN hN2
  cases r
  · have h0 : ¬ 0 ≤ N := by simpa using hN
    replace hN := Lib.hid hN
    go_enter Try.func83, Try.ntmps83
    go_wp2_with fail
    refine HI.out.mono ?_
    rintro e w1 ⟨rfl, rfl⟩
    go_wp2_with fail
    go_ret
    exact ⟨congrArg (fun b => Ending.returned (Value.bool b)) hN.out, rfl⟩
  · have h0 : 0 ≤ N := by simpa using hN
    replace hN := Lib.hid hN
    go_enter Try.func83, Try.ntmps83
    go_wp2_with fail
    refine HI.out.mono ?_
    rintro e w1 ⟨rfl, rfl⟩
    go_wp2_with fail
    go_ret
    exact ⟨rfl, rfl⟩
end Go.Proofs.Ytigbbpgfblnboaa
