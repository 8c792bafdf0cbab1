/- The reference's Median and Spread; numbers out of a stream. -/
import Derived.Test.YtmfflcemceonhaaMdI
namespace Go.Proofs.Ytmfflcemceonhaa
open Go.RowKit
set_option linter.unusedVariables false
set_option linter.unusedSimpArgs false

set_option maxHeartbeats 2000000 in
set_option maxRecDepth 100000 in
theorem medianOf_any (A : Option Addr) (n cap : Nat) (zs : List Int) (x y : Int) (w : World) (hS : SlE eInt w A n cap zs) (h0 : numsF zs = 0) (hxy : fracV (twiceI zs).toNat 2 = .agg #[.int .i64 x, .int .i64 y]) :
    Calls Try.prog 9 #[.slice A n cap] w fun e w' => e = .returned (.agg #[.int .i64 x, .int .i64 y]) ∧ Below w.heap.size w w' := by
  have hbw : Below w.heap.size w (w.alloc (.cells #[.int .i64 0, .int .i64 0] 28)) := (Below.refl _ _).alloc (Nat.le_refl _) _
  have hP := Blk.new w [.int .i64 0, .int .i64 0] 28
  obtain ⟨hne, hl, hz⟩ := numsF_zero h0
  have hb := twice_bound hne hz
  have HT := Lib.hid (fun W (hW : Below w.heap.size w W) => twice_any A n cap zs W (hS.below hW) (by rw [hS.1]; exact hl) hne (fun z h => by have := hz z h; omega))
  have HF := Lib.hid (fun W => lowest_any (twiceI zs).toNat 2 W (by omega) (by omega) (by omega))
  rw [hxy] at HF
  rw [Int.toNat_of_nonneg hb.1] at HF
  clear h0 hne hl hz hxy hb hS
  generalize twiceI zs = R at *
  go_enter Try.func9, Try.ntmps9
  go_wp2_with fail
  refine (HT.out _ hbw).mono ?_
  rintro e w2 ⟨rfl, hb2⟩
  have hP2 := hP.below hb2
  replace hbw := hbw.trans (hb2.mono hbw.size)
  clear hb2 hP
  go_wp2_with fail
  refine (HF.out _).mono ?_
  rintro e w3 ⟨rfl, hb2⟩
  have hP3 := hP2.below hb2
  replace hbw := hbw.trans (hb2.mono hbw.size)
  clear hb2 hP2
  obtain ⟨c0, c1, f0, f1⟩ := Blk.twoM hP3
  go_wp2_with fail
  refine bodyPost_ret (v := .agg #[.int .i64 x, .int .i64 y]) ?_ rfl ⟨rfl, (hbw.setCell (p := ⟨w.heap.size, 0, none⟩) (Nat.le_refl _) _).setCell (p := ⟨w.heap.size, 1, none⟩) (Nat.le_refl _) _⟩
  simp [results, Try.results9, go_sem, c0, c1]

set_option maxHeartbeats 2000000 in
set_option maxRecDepth 100000 in
theorem spreadOf_any (A : Option Addr) (n cap : Nat) (zs : List Int) (x y : Int) (w : World) (hS : SlE eInt w A n cap zs) (h0 : numsF zs = 0) (hxy : fracV (fourI zs).toNat 4 = .agg #[.int .i64 x, .int .i64 y]) :
    Calls Try.prog 10 #[.slice A n cap] w fun e w' => e = .returned (.agg #[.int .i64 x, .int .i64 y]) ∧ Below w.heap.size w w' := by
  have hbw : Below w.heap.size w (w.alloc (.cells #[.int .i64 0, .int .i64 0] 28)) := (Below.refl _ _).alloc (Nat.le_refl _) _
  have hP := Blk.new w [.int .i64 0, .int .i64 0] 28
  obtain ⟨hne, hl, hz⟩ := numsF_zero h0
  have hb := four_bound hne hz
  have HT := Lib.hid (fun W (hW : Below w.heap.size w W) => fourfold_any A n cap zs W (hS.below hW) (by rw [hS.1]; exact hl) hne (fun z h => hz z h))
  have HF := Lib.hid (fun W => lowest_any (fourI zs).toNat 4 W (by omega) (by omega) (by omega))
  rw [hxy] at HF
  rw [Int.toNat_of_nonneg hb.1] at HF
  clear h0 hne hl hz hxy hb hS
  generalize fourI zs = R at *
  go_enter Try.func10, Try.ntmps10
  go_wp2_with fail
  refine (HT.out _ hbw).mono ?_
  rintro e w2 ⟨rfl, hb2⟩
  have hP2 := hP.below hb2
  replace hbw := hbw.trans (hb2.mono hbw.size)
  clear hb2 hP
  go_wp2_with fail
  refine (HF.out _).mono ?_
  rintro e w3 ⟨rfl, hb2⟩
  have hP3 := hP2.below hb2
  replace hbw := hbw.trans (hb2.mono hbw.size)
  clear hb2 hP2
  obtain ⟨c0, c1, f0, f1⟩ := Blk.twoM hP3
  go_wp2_with fail
  refine bodyPost_ret (v := .agg #[.int .i64 x, .int .i64 y]) ?_ rfl ⟨rfl, (hbw.setCell (p := ⟨w.heap.size, 0, none⟩) (Nat.le_refl _) _).setCell (p := ⟨w.heap.size, 1, none⟩) (Nat.le_refl _) _⟩
  simp [results, Try.results10, go_sem, c0, c1]

set_option maxHeartbeats 400000 in
theorem oddB_any (lo hi : Int) (w : World) (b R : Nat) (h1 : lo ≤ hi) (h2 : -1152921504606846 ≤ lo) (h3 : hi ≤ 1152921504606846) (hs : Str w b (R + 2)) :
    Calls Try.prog 14 #[.pointer (some ⟨b, 0, none⟩), .int .i64 lo, .int .i64 hi] w (NumPost (fun _ => True) b R w) := by
  go_enter Try.func14, Try.ntmps14
  go_wp2_with fail
  refine (flip_any _ _ _ _ (by omega) (by omega) hs).mono ?_
  rintro e w1 ⟨r, rfl, hs1, hg1⟩
  cases r
  · go_wp2_with fail
    refine (range_any _ _ _ _ _ h1 (by omega) (by omega) hs1).mono ?_
    rintro e w2 ⟨r, ⟨hr1, hr2⟩, rfl, hs2, hg2⟩
    go_wp2_with fail
    go_ret
    exact ⟨_, trivial, rfl, hs2, gb_trans hg1 hg2⟩
  · go_wp2_with fail
    refine (pick_lit w1 b _ [lo - 1, hi + 1, lo, hi, -1099511627776, 1099511627776] _ _ hs1 (by simp) (by simp) (fun _ => True) (by simp)).mono ?_
    rintro e w2 ⟨r, _, rfl, hs2, hg2⟩
    go_wp2_with fail
    go_ret
    exact ⟨_, trivial, rfl, hs2, gb_trans (gb_alloc hg1 _) hg2⟩

/-- Numbers out of the stream b: a row of one's own. -/
def NumsPost (b R : Nat) (w : World) (e : Ending) (w' : World) : Prop :=
  ∃ A cap zs, e = .returned (.slice A zs.length cap) ∧ OwnE eInt 3 w.heap.size w' (.slice A zs.length cap) zs ∧ zs.length ≤ 7 ∧ Str w' b R ∧ w.grownBy w' (some b)

theorem own_stream {w w' : World} {B b : Nat} {v : Value} {zs : List Int} (h : OwnE eInt 3 B w v zs) (hg : w.grownBy w' (some b)) (hb : b < B) : OwnE eInt 3 B w' v zs :=
  h.gb hg (by
    cases hv : v.ownBlock with
    | none => exact .inl rfl
    | some k => exact .inr (by intro e; cases e; have := h.lt _ hv; omega))

/-- What writes one's own new row. -/
theorem gb_own {w a y : World} {o : Obj} {b : Nat} {v : Value} {zs : List Int} (hw : w.grownBy a (some b)) (hown : OwnE eInt 3 w.heap.size a v zs) (hg : (a.alloc o).grownBy y v.ownBlock) : w.grownBy y (some b) := by
  have hs := hg.size
  rw [World.size_alloc] at hs
  have h1 := hw.size
  refine ⟨hg.os.trans hw.os, hg.tape.trans hw.tape, hg.output.trans hw.output, by omega, fun i hi hne => ?_⟩
  rw [hg.block i (by rw [World.size_alloc]; omega) (fun e => by have := hown.lt i e.symm; omega), Below.heap_alloc _ _ _ (by omega)]
  exact hw.block i hi hne

theorem cells_set0 (zs : List Int) (z : Int) : (eInt.cells zs).set 0 (.int .i64 z) = eInt.cells (zs.set 0 z) := by
  cases zs with
  | nil => rfl
  | cons a r => rfl

set_option maxHeartbeats 4000000 in
set_option maxRecDepth 100000 in
theorem numbers_any (w : World) (b R : Nat) (hs : Str w b (R + 20)) :
    Calls Try.prog 4 #[.pointer (some ⟨b, 0, none⟩)] w (NumsPost b R w) := by
  have hbl := hs.lt
  go_enter Try.func4, Try.ntmps4
  go_wp2_with fail
  refine (range_any 0 7 _ b (R + 19) (by omega) (by omega) (by omega) hs).mono ?_
  rintro e w1 ⟨r, ⟨hr1, hr2⟩, rfl, hs1, hg1⟩
  obtain ⟨m, rfl⟩ := Int.eq_ofNat_of_zero_le hr1
  have hm : m ≤ 7 := by omega
  clear hr1 hr2 hs
  go_wp2_with fail
  go_loopw [3, 6] (fun vo vi wr => ∃ (k : Nat) (zs : List Int), k ≤ m ∧ vi = .int .i64 k ∧ OwnE eInt 3 w.heap.size wr vo zs ∧ Hid (zs.length = k) ∧ Str wr b (R + 12 + (7 - k)) ∧ w.grownBy wr (some b)) (fun _ vi _ => m - (intOf vi).toNat)
  case atStart => exact ⟨0, [], Nat.zero_le _, rfl, OwnE.nil _ _, Lib.hid rfl, hs1, hg1⟩
  case round =>
    clear hs1 hg1
    obtain ⟨k, zs, hk, rfl, hown, hzl, hs1, hg1⟩ := hrel
    by_cases hlt : k < m
    · have hlt' : (k : Int) < m := by omega
      have hsz := hg1.size
      go_wp2_with fail
      refine (pick_lit wr b (R + 12 + (7 - (k + 1))) [0, 1, 2, 5, 9, 100, 2000000000000] _ _ (hs1.le (by omega)) (by simp) (by simp) (fun _ => True) (by simp)).mono ?_
      rintro e w2 ⟨z, _, rfl, hs2, hg2⟩
      have hown2 : OwnE eInt 3 w.heap.size w2 _ zs := own_stream (hown.below ((Below.refl _ _).alloc (Nat.le_refl _) _)) hg2 hbl
      have hg3 : w.grownBy w2 (some b) := gb_trans (gb_alloc hg1 _) hg2
      have hsz2 := hg3.size
      clear hown hs1 hg1 hg2
      obtain ⟨A', c', rfl, _⟩ := hown2.sl
      go_wp2_with (at_builtin; refine wpList_app tyeInt rfl _ _ rfl w.heap.size _ zs [z] rfl (hown2.below ((Below.refl _ _).alloc (Nat.le_refl _) _)) ⟨_, 0, none⟩ 1 1 rfl rfl ?d1 ?d2 ?d3 ?_)
      case d1 => intro j u hj; first | exact hj | (rw [Enc.cells_single] at hj; rw [Addr.add_lit, Nat.zero_add]; exact (Blk.new w2 [.int .i64 z] 3).cell hj)
      case d2 => have := hzl.out; simp only [List.length_singleton]; omega
      case d3 => simp; omega
      intro v' w4 hown4 hg4 _
      have hg5 : w.grownBy w4 (some b) := gb_own hg3 hown2 hg4
      have hs4 : Str w4 b (R + 12 + (7 - (k + 1))) := hs2.upto fun j hj => (hg4.block j (by simp; omega) (fun e => by have := hown2.lt j e.symm; omega)).trans (Below.heap_alloc _ _ _ (by omega))
      clear hg3 hg4 hown2 hs2
      replace hown4 := Lib.hid hown4
      replace hg5 := Lib.hid hg5
      go_wp2_with fail
      go_roundw
      case rel => exact ⟨k + 1, zs ++ [z], by omega, by go_num, hown4.out, Lib.hid (by rw [List.length_append, hzl.out]; rfl), hs4, hg5.out⟩
      case measure => simp [intOf]; omega
    · have hkn : k = m := by omega
      subst hkn
      obtain ⟨A', c', rfl, _⟩ := hown.sl
      have hsz1 := hg1.size
      by_cases h0 : zs = []
      · subst h0
        go_wp2_with fail
        go_ret
        exact ⟨A', c', [], rfl, hown, by simp, hs1.le (by omega), hg1⟩
      · have hpos : 0 < zs.length := List.length_pos_iff.2 h0
        have hlp : (0 : Int) < zs.length := by omega
        have hl7 : zs.length ≤ 7 := by rw [hzl.out]; omega
        go_wp2_with fail
        refine (flip_any 20 _ b (R + 11) (by omega) (by omega) (hs1.le (by omega))).mono ?_
        rintro e w5 ⟨rf, rfl, hs5, hg5⟩
        have hown5 := own_stream hown hg5 hbl
        have hg6 := gb_trans hg1 hg5
        clear hs1 hg1 hg5 hown
        cases rf
        · go_wp2_with fail
          go_ret
          exact ⟨A', c', zs, rfl, hown5, hl7, hs5.le (by omega), hg6⟩
        · go_wp2_with fail
          refine (oddB_any 0 2000000000000 _ b (R + 9) (by omega) (by omega) (by omega) (hs5.le (by omega))).mono ?_
          rintro e w7 ⟨z, _, rfl, hs7, hg7⟩
          have hown7 := own_stream hown5 hg7 hbl
          have hg8 := gb_trans hg6 hg7
          clear hs5 hg7 hg6 hown5
          obtain ⟨g, c2, hv, hBg, hgl, hcap, hc, hf⟩ := hown7.form h0
          cases hv
          have k1 := hc 0 zs[0] (List.getElem?_eq_getElem hpos) 0 (.int .i64 zs[0]) rfl
          have f1 := hf 0
          rw [Nat.zero_mul, Nat.zero_add] at k1
          generalize zs[0] = z0 at k1
          have hset : OwnE eInt 3 w.heap.size (w7.setCell ⟨g, 0, none⟩ (.int .i64 z)) (.slice (some ⟨g, 0, none⟩) zs.length c') (zs.set 0 z) := by
            have := own_setV hown7 0 (.int .i64 z)
            unfold OwnE
            rw [List.length_set, ← cells_set0]
            exact this
          have hlz : (zs.set 0 z).length = zs.length := List.length_set ..
          have hlz7 : (zs.set 0 z).length ≤ 7 := by rw [hlz]; exact hl7
          have hgF := gb_setNew hg8 (p := ⟨g, 0, none⟩) hBg (.int .i64 z)
          have hsF : Str (w7.setCell ⟨g, 0, none⟩ (.int .i64 z)) b R := (hs7.le (by omega)).setCell (p := ⟨g, 0, none⟩) (by show b < g; omega) _
          replace hset := Lib.hid hset
          replace hgF := Lib.hid hgF
          replace hsF := Lib.hid hsF
          clear hown7 hs7 hg8 hc hf hzl
          generalize zs.set 0 z = ys at *
          replace hlz := Lib.hid hlz
          go_wp2_with fail
          go_ret
          exact ⟨some ⟨g, 0, none⟩, c', ys, by rw [hlz.out]; rfl, by rw [hlz.out]; exact hset.out, hlz7, hsF.out, hgF.out⟩
end Go.Proofs.Ytmfflcemceonhaa
