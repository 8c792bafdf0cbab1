/- Sets: an iterator of prefixes that is stopped. -/
import Derived.Test.YtmgdkefoehlamaaGreatDoorKoStY
import Derived.Test.YtmgdkefoehlamaaGreatDoorKoLaneD
import Derived.Deep.CutBlock
import Derived.Deep.DeepCutAuto
import Derived.RangeFuncNested
import Derived.RangeFuncBound
import Derived.RangeFuncCalls
import Derived.RangeFuncLeaves
import Derived.Shelf.Abstract
import Derived.Shelf.RegionOpen
import Derived.WalkKit
import Derived.OwnWalkIn
import Derived.TacticsInMore
import Derived.LoopNIn
import Derived.LoopIn
set_option linter.unusedVariables false
set_option linter.unusedSimpArgs false
set_option maxRecDepth 100000
namespace Go.Proofs.YtmgdkefoehlamaaGreatDoor
open Go.RowKit

theorem right_pf {s : Bool} {hi lo n : Int} (h : RightP s hi lo n) : Pf.R (⟨s, hi, lo⟩, n) := by
  obtain ⟨a, l, ⟨⟨h1, h2⟩, ⟨h3, h4⟩, h5⟩, h6, h7, rfl, rfl⟩ := h
  have hv : num a l < 2 ^ 128 := num_lt h2 h4
  obtain ⟨k, hk⟩ : ∃ k, k = (lenZ s - n).toNat := ⟨_, rfl⟩
  rw [← hk]
  have hc : clr (num a l) k < 2 ^ 128 := Nat.lt_of_le_of_lt (clr_le _ _) hv
  have hn : num ((clr (num a l) k / 2 ^ 64 : Nat) : Int) ((clr (num a l) k % 2 ^ 64 : Nat) : Int) = clr (num a l) k := num_of_halves _ hc
  refine ⟨⟨u64_halves _ hc, fun hs => ?_⟩, h6, h7, ?_⟩
  · show num _ _ < 2 ^ 32
    rw [hn]
    have h8 := h5 hs
    have h9 := clr_le (num a l) k
    have h10 : num a l < 2 ^ 32 := by unfold num; omega
    omega
  · show clr (num _ _) (lenZ s - n).toNat = num _ _
    rw [hn, ← hk]
    unfold clr
    rw [Nat.mul_div_cancel _ (Nat.two_pow_pos k)]
theorem Pf.R.u {p : Pf} (h : p.R) : p.U := ⟨h.1.1, by have := h.2.1; omega, by have := h.2.2.1; rcases lenZ_le p.1.s with g | g <;> omega⟩
theorem gb_own {a u x : World} {b : Nat} {v : Value} (h : a.grownBy u (some b)) (hg : u.grownBy x v.ownBlock) (hv : ∀ k, v.ownBlock = some k → a.heap.size ≤ k) : a.grownBy x (some b) :=
  ⟨hg.os.trans h.os, hg.tape.trans h.tape, hg.output.trans h.output, Nat.le_trans h.size hg.size, fun i hi hne => (hg.block i (by have := h.size; omega) (fun e => by have := hv i e.symm; omega)).trans (h.block i hi hne)⟩
theorem str_own {u x : World} {b R : Nat} {v : Value} (h : Str u b R) (hg : u.grownBy x v.ownBlock) (hv : ∀ k, v.ownBlock = some k → b < k) : Str x b R :=
  h.upto fun j hj => hg.block j (by have := h.lt; omega) (fun e => by have := hv j e.symm; omega)
def PfsPost (P : List Pf → Prop) (b R : Nat) (w : World) (e : Ending) (w' : World) : Prop :=
  ∃ ps v, P ps ∧ e = .returned v ∧ OwnE ePf 40 w.heap.size w' v ps ∧ Str w' b R ∧ w.grownBy w' (some b)

set_option maxHeartbeats 2000000 in
theorem prefixes_any (m : Nat) (w : World) (b R : Nat) (hm : m ≤ 6) (hs : Str w b (R + 5 * m)) :
    Calls Tryz.prog 25 #[.pointer (some ⟨b, 0, none⟩), .int .i64 m] w (PfsPost (fun ps => ps.length = m ∧ ∀ p ∈ ps, p.R) b R w) := by
  have hbw := hs.lt
  go_enter Tryz.func25, Tryz.ntmps25
  go_wp2_with fail
  go_loopw [5, 7] (fun o i wr => ∃ (k : Nat) (ps : List Pf), k ≤ m ∧ i = .int .i64 k ∧ Hid (ps.length = k ∧ ∀ p ∈ ps, p.R) ∧ OwnE ePf 40 w.heap.size wr o ps ∧ Str wr b (R + 5 * (m - k)) ∧ w.grownBy wr (some b)) (fun _ i _ => m - (intOf i).toNat)
  case atStart => exact ⟨0, [], by omega, rfl, Lib.hid ⟨rfl, fun p hp => by cases hp⟩, OwnE.nil _ _, hs, gb_refl _ _⟩
  case round =>
    obtain ⟨k, ps, hk, rfl, hps, hown, hst, hg⟩ := hrel
    by_cases hlt : k < m
    · have hlt' : (k : Int) < m := by omega
      have hst' : Str wr b ((R + 5 * (m - (k + 1))) + 5) := hst.le (by omega)
      clear hst hs
      go_wp2_with fail
      refine (rightPrefix_any wr b _ hst').mono ?_
      rintro e w1 ⟨s, hi, lo, n, hA, rfl, hs1, hg1⟩
      have hpR := Lib.hid (right_pf hA)
      obtain ⟨p, hp⟩ : ∃ p : Pf, p = (⟨s, hi, lo⟩, n) := ⟨_, rfl⟩
      rw [← hp] at hpR
      have hpv : (Value.agg #[.bool s, .int .u64 hi, .int .u64 lo, .int .i64 n]) = pfA p := by rw [hp]; rfl
      rw [hpv]
      have hne : u5.ownBlock ≠ some b := fun e => by have := hown.lt b e; omega
      replace hown := hown.gb hg1 (.inr hne)
      replace hg := gb_trans hg hg1
      clear hg1 hst' hp hpv hA
      go_wp2_with (at_builtin; refine wpList_app tyePf rfl _ _ rfl w.heap.size _ _ [p] rfl (hown.alloc' _) ⟨_, 0, none⟩ 1 1 rfl rfl ?c1 ?c2 ?c3 ?_)
      case c1 => exact cell_row_at _ _ _ _ rfl
      case c2 => have := hps.out.1; simp only [List.length_singleton]; omega
      case c3 => have := hg.size; simp; omega
      intro v3 x3 hown3 hg3 _
      have hlt3 := fun k h => (hown.lt k h).1
      replace hs1 := str_own (hs1.alloc _) hg3 (fun k h => by have := hlt3 k h; omega)
      replace hg := gb_own (gb_alloc hg _) hg3 hlt3
      have hps2 := Lib.hid (show (ps ++ [p]).length = k + 1 ∧ ∀ x ∈ ps ++ [p], x.R from ⟨by rw [List.length_append, hps.out.1]; rfl, fun x hx => by
        rcases List.mem_append.1 hx with hx | hx
        · exact hps.out.2 x hx
        · rw [List.mem_singleton.1 hx]; exact hpR.out⟩)
      clear hg3 hlt3 hown hne
      go_wp2_with fail
      go_roundw
      case rel => exact ⟨k + 1, ps ++ [p], by omega, by go_num, hps2, hown3, hs1, hg⟩
      case measure => simp [intOf]; omega
    · have hkm : k = m := by omega
      have hst' : Str wr b R := hst.le (by omega)
      clear hst hs
      go_wp2_with fail
      go_ret
      exact ⟨ps, u5, ⟨by have := hps.out.1; omega, hps.out.2⟩, rfl, hown, hst', hg⟩


attribute [local go_sem] Oper.semAt_some

def Away (c l D : Nat) (b : Option Nat) (k : Nat) : Prop := k ≠ c ∧ k ≠ l ∧ k ≠ D ∧ b ≠ some k
structure Host (J : List Pf → Option Nat → World → Prop) (n0 c l D : Nat) : Prop where
  abides : ∀ pre b W W' row, J pre b W → W.grownBy W' row → (∀ r, row = some r → Away c l D b r) → J pre b W'
  lt : ∀ pre b W, J pre b W → c < W.heap.size ∧ l < W.heap.size ∧ D < W.heap.size ∧ ∀ k, b = some k → n0 ≤ k ∧ k < W.heap.size
  base : n0 ≤ c ∧ n0 ≤ l ∧ n0 ≤ D
structure Keep (n0 c l D : Nat) (b b' : Option Nat) (W W' : World) : Prop where
  below : Below n0 W W'
  size : W.heap.size ≤ W'.heap.size
  row : b' = b ∨ ∃ k, W.heap.size ≤ k ∧ b' = some k
  same : ∀ k, k < W.heap.size → Away c l D b k → W'.heap[k]? = W.heap[k]?
theorem Keep.away {n0 c l D : Nat} {b b' : Option Nat} {W W' : World} (h : Keep n0 c l D b b' W W') {k : Nat} (hk : k < W.heap.size) (ha : Away c l D b k) : Away c l D b' k := by
  refine ⟨ha.1, ha.2.1, ha.2.2.1, fun e => ?_⟩
  rcases h.row with r | ⟨q, hq, r⟩
  · exact ha.2.2.2 (by rw [← r]; exact e)
  · rw [r] at e; have := Option.some.inj e; omega
theorem Keep.blk {n0 c l D : Nat} {b b' : Option Nat} {W W' : World} (h : Keep n0 c l D b b' W W') {k : Nat} {cs : List Value} {t : TypeId} (hB : Blk W k cs t) (ha : Away c l D b k) : Blk W' k cs t := (h.same k hB.lt ha).trans hB
theorem below_rowB {w w' : World} {B p : Nat} {ds : List Value} {t : TypeId} (h : Below B w w') (k : Blk w' p ds t) (hp : B ≤ p) (cs : Array Value) : Below B w (w'.setRow p cs) := below_row h hp cs
theorem keep_two {n0 c l D : Nat} {b b' : Option Nat} {W W' : World} {p q : Nat} {cs ds : List Value} {t t' : TypeId} (h : Keep n0 c l D b b' W W') (hp : Blk W p cs t) (hq : Blk W q ds t') (ha : Hid (Away c l D b p ∧ Away c l D b q)) : Hid (Away c l D b' p ∧ Away c l D b' q) :=
  Lib.hid ⟨h.away hp.lt ha.out.1, h.away hq.lt ha.out.2⟩
theorem Host.fresh {J : List Pf → Option Nat → World → Prop} {n0 c l D : Nat} (H : Host J n0 c l D) {pre : List Pf} {b : Option Nat} {W : World} (h : J pre b W) (k : Nat) (hk : W.heap.size ≤ k) : Away c l D b k := by
  obtain ⟨h1, h2, h3, h4⟩ := H.lt _ _ _ h
  exact ⟨by omega, by omega, by omega, fun e => by have := (h4 k e).2; omega⟩
theorem Host.below {J : List Pf → Option Nat → World → Prop} {n0 c l D : Nat} (H : Host J n0 c l D) {pre : List Pf} {b : Option Nat} {W W' : World} (h : J pre b W) (hb : Below W.heap.size W W') : J pre b W' :=
  H.abides _ _ _ _ none h (gbB hb) (fun r e => by cases e)
theorem Host.row {J : List Pf → Option Nat → World → Prop} {n0 c l D : Nat} (H : Host J n0 c l D) {pre : List Pf} {b : Option Nat} {W : World} (h : J pre b W) {k : Nat} (ha : Away c l D b k) (cs : Array Value) : J pre b (W.setRow k cs) :=
  H.abides _ _ _ _ (some k) h (gb_setRow cs) (fun r e => by cases e; exact ha)
def adAt (W : World) (p : Nat) : Ad :=
  match W.cell? ⟨p, 0, none⟩, W.cell? ⟨p, 1, none⟩, W.cell? ⟨p, 2, none⟩ with
  | some (.bool s), some (.int _ hi), some (.int _ lo) => ⟨s, hi, lo⟩
  | _, _, _ => ⟨false, 0, 0⟩
theorem adAt_blk {W : World} {p : Nat} {a : Ad} {t : TypeId} (h : Blk W p (adC a) t) : adAt W p = a := by
  unfold adAt
  rw [h.cell (i := 0) (v := .bool a.s) rfl, h.cell (i := 1) (v := .int .u64 a.hi) rfl, h.cell (i := 2) (v := .int .u64 a.lo) rfl]

theorem nextV_full {a : Ad} (h : a.R) : ∃ z ok, nextV a = .tuple #[adA z, .bool ok] ∧ (ok = true → z.R ∧ z.s = a.s ∧ z.n = a.n + 1) ∧ (ok = false → a.n = topN a.s) := by
  unfold nextV
  by_cases ht : a.n = topN a.s
  · rw [if_pos ht]
    exact ⟨⟨false, 0, 0⟩, false, rfl, (fun e => by cases e), fun _ => ht⟩
  · rw [if_neg ht]
    have hle := h.le_top
    have htl := topN_lt a.s
    refine ⟨adOf (a.n + 1), true, rfl, fun _ => ?_, fun e => by cases e⟩
    have hs : (adOf (a.n + 1)).s = a.s := by
      obtain ⟨s1, s2⟩ := next_step h ht
      by_cases hl : a.lo < 18446744073709551615
      · rw [s1 hl]
      · rw [(s2 hl).2.2]
    have hn : (adOf (a.n + 1)).n = a.n + 1 := adOf_n (by omega)
    refine ⟨⟨adOf_U _, fun e => ?_⟩, hs, hn⟩
    have e' : a.s = false := by rw [← hs]; exact e
    rw [e', topN_false] at hle ht
    rw [adOf_v]; omega

def restA : Bool → Ad → Nat → List Pf
  | true, a, e => (cutN a.n e).map pfOf
  | false, _, _ => []
theorem lt_len {L R TT : List Pf} {p : Pf} (h : L ++ (p :: R) = TT) : L.length < TT.length := by rw [← h]; simp
theorem lt_cons (R : List Bk) (b : Bk) : R.length < (b :: R).length := by simp
theorem step_rest {a : Ad} {x : Ad × Ad} {L TT : List Pf} (haR : a.R) (has : a.s = x.2.s) (hxR : RgR x) (hle : a.n ≤ x.2.n) (hHI : L ++ restA true a (x.2.n + 1) = TT) :
    ∃ p z ok, p = pfOf (a.n, bigK a.n (x.2.n + 1)) ∧ p.R ∧ (rgP p).2.R ∧ nextV (rgP p).2 = .tuple #[adA z, .bool ok] ∧ (ok = true → z.R ∧ z.s = x.2.s) ∧ (L ++ [p]) ++ restA ok z (x.2.n + 1) = TT ∧
      (ok = true → (cutN z.n (x.2.n + 1)).length < (cutN a.n (x.2.n + 1)).length) ∧ L.length < TT.length := by
  have hokX : OkX a.n (x.2.n + 1) := by
    have h1 := haR.six
    have h2 := hxR.2.1.six
    rw [← has] at h2
    unfold OkX
    rcases h1 with ⟨g1, g2, g3⟩ | ⟨g1, g2, g3⟩ <;> rcases h2 with ⟨j1, j2, j3⟩ | ⟨j1, j2, j3⟩
    · left; omega
    · rw [g1] at j1; cases j1
    · rw [g1] at j1; cases j1
    · right; constructor <;> omega
  have hbig := bigK_is (a := a.n) (e := x.2.n + 1) (by omega) hokX.small
  have hcut := cutN_cons (a := a.n) (e := x.2.n + 1) (by omega)
  obtain ⟨K, hK⟩ : ∃ K, K = bigK a.n (x.2.n + 1) := ⟨_, rfl⟩
  rw [← hK] at hbig hcut ⊢
  have hokB : OkB (a.n, K) := by
    have := hbig.2.1
    unfold OkB
    unfold OkX at *
    simp only
    omega
  have hpR := pfOf_R (b := (a.n, K)) hbig.1 hokB
  have hpb := blk_pfOf hokB
  obtain ⟨p, hp⟩ : ∃ p, p = pfOf (a.n, K) := ⟨_, rfl⟩
  rw [← hp] at hpR hpb
  have hfree : freeB p = K := congrArg Prod.snd hpb
  have hpn : p.1.n = a.n := congrArg Prod.fst hpb
  have hlast := rgP_n hpR
  rw [hfree, hpn] at hlast
  have hrR := rgP_R hpR
  obtain ⟨z, ok, hz, hz1, hz2⟩ := nextV_full hrR.2.1
  have hpos := Nat.two_pow_pos K
  have hps : p.1.s = a.s := by rw [hp]; show (adOf a.n).s = a.s; rw [adOf_of haR.1]
  have h1 : L ++ (p :: (cutN (a.n + 2 ^ K) (x.2.n + 1)).map pfOf) = TT := by
    rw [← hHI]
    show _ = L ++ (cutN a.n (x.2.n + 1)).map pfOf
    rw [hcut, List.map_cons, ← hp]
  refine ⟨p, z, ok, hp, hpR, hrR.2.1, hz, fun e => ?_, ?_, fun e => ?_, ?_⟩
  · obtain ⟨h2, h3, h4⟩ := hz1 e
    exact ⟨h2, by rw [h3, ← hrR.2.2.1]; show p.1.s = _; rw [hps, has]⟩
  · cases ok
    · have h2 := hz2 rfl
      have h3 := hxR.2.1.le_top
      rw [← hrR.2.2.1] at h2
      rw [show (rgP p).1.s = p.1.s from rfl, hps, has] at h2
      rw [cutN_nil (by omega)] at h1
      rw [List.append_assoc]; exact h1
    · obtain ⟨h2, h3, h4⟩ := hz1 rfl
      show (L ++ [p]) ++ (cutN z.n (x.2.n + 1)).map pfOf = TT
      rw [h4, hlast, show a.n + 2 ^ K - 1 + 1 = a.n + 2 ^ K by omega, List.append_assoc]
      exact h1
  · obtain ⟨h2, h3, h4⟩ := hz1 e
    rw [hcut, h4, hlast, show a.n + 2 ^ K - 1 + 1 = a.n + 2 ^ K by omega]
    exact lt_cons _ _
  · exact lt_len h1

set_option maxHeartbeats 4000000 in
theorem prefixes1_in (n : Nat) (hn : 1 ≤ n) (n0 c l D Bn : Nat) (A : Option Addr) (m cap : Nat) (xs : List (Ad × Ad)) (hm : m ≤ 100000) (hR : ∀ x ∈ xs, RgR x) (w0 : World) (h0 : w0.heap.size = n0) (hS : SlE eRg w0 A m cap xs) (hT : Tz w0)
    (J : List Pf → Option Nat → World → Prop) (H : Host J n0 c l D)
    (hY : ∀ pre p b W, J pre b W → pre.length < (pfsOf (xs.map rowA)).length → YieldAt Fence.wide (n - 1) Tryz.prog l #[pfA p] W fun e W' => e = .returned (.bool true) ∧ ∃ b', J (pre ++ [p]) b' W' ∧ Keep n0 c l D b b' W W')
    (W : World) (b : Option Nat) (hW : Below n0 w0 W) (hBn : W.cell? ⟨Bn, 0, none⟩ = some (.slice A m cap)) (hJ : J [] b W) :
    CallsIn Fence.wide n Tryz.prog 152 #[.func (.yield l) #[] #[], .pointer (some ⟨Bn, 0, none⟩)] W fun e W' => (∃ v, e = .returned v) ∧ ∃ b', J (pfsOf (xs.map rowA)) b' W' ∧ Below n0 w0 W' := by
  have hpl := Lib.hid hS.1
  have hS1 : Hid (∀ W', Below n0 w0 W' → SlE eRg W' A m cap xs) := Lib.hid (fun W' hb => hS.below (by rw [h0]; exact hb))
  have hT1 : Hid (∀ W', Below n0 w0 W' → Tz W') := Lib.hid (fun W' hb => hT.below (by rw [h0]; exact hb))
  replace hR := Lib.hid hR
  replace hY := Lib.hid hY
  have hat' := Lib.hid (fun k (hk : k < m) => hS.at' (k := k) hk)
  clear hS hT
  refine callsIn_of_wp Tryz.func152 rfl trivial ?_ rfl
  simp only [Tryz.ntmps152, List.size_toArray, List.length_cons, List.length_nil, Nat.reduceAdd, Nat.reduceSub, Array.replicate_succ, Array.replicate_zero, List.push_toArray, List.append_toArray, List.nil_append, List.cons_append]
  gi_wp2
  gi_loopw [10] (fun i wr => ∃ (k : Nat) (b : Option Nat), k ≤ m ∧ i = .int .i64 k ∧ J (pfsOf ((xs.map rowA).take k)) b wr ∧ Below n0 w0 wr) (fun i _ => m - (intOf i).toNat)
  case atStart => exact ⟨0, b, by omega, rfl, hJ, hW⟩
  case round =>
    clear hBn hJ hW
    obtain ⟨k, b, hk, rfl, hJ, hW⟩ := hrel
    by_cases hlt : k < m
    · obtain ⟨x, hx⟩ : ∃ x, xs[k]? = some x := ⟨xs[k]'(by have := hpl.out; omega), List.getElem?_eq_getElem _⟩
      obtain ⟨g0, off, rfl, _, _⟩ := hat'.out k hlt
      have hld := SlE.ld rowRg (hS1.out wr hW) hx
      replace hld : (ldT 53 (.pointer (some ⟨g0, off + k * 6, none⟩))).run Tryz.prog wr = .ok (.value (rgA x)) wr := hld
      have hxR := Lib.hid (hR.out x (List.mem_of_getElem? hx))
      have hlt' : (k : Int) < m := by omega
      have hz0 := hW.size
      have S1 := stT_new rowRg (te := 53) wr wr.heap.size rfl [.bool false, .int .u64 0, .int .u64 0, .bool false, .int .u64 0, .int .u64 0] (rgC x) rfl rfl (rgC_one x)
      have S5 := stT_new rowAd (te := 38) (wr.alloc (.cells (rgC x).toArray 53)) (wr.heap.size + 1) (by simp) [.bool false, .int .u64 0, .int .u64 0] (adC x.1) rfl rfl (adC_one _)
      have k5 := (Blk.new wr (rgC x) 53).ldAt rowAd 0 (adC x.1) (adC x.2) rfl rfl
      have hA4 : Hid (Away c l D b wr.heap.size ∧ Away c l D b (wr.heap.size + 1)) := Lib.hid ⟨H.fresh hJ _ (Nat.le_refl _), H.fresh hJ _ (Nat.le_succ _)⟩
      obtain ⟨h4, h5⟩ := two_new wr (rgC x) (adC x.1) 53 38
      replace hJ := H.below hJ (((Below.refl _ wr).alloc (Nat.le_refl _) (.cells (rgC x).toArray 53)).alloc (by simp) (.cells (adC x.1).toArray 38))
      replace hW := (hW.alloc (by omega) (.cells (rgC x).toArray 53)).alloc (by simp; omega) (.cells (adC x.1).toArray 38)
      have hb4 : Hid (n0 ≤ wr.heap.size) := Lib.hid (by omega)
      obtain ⟨T, hTT⟩ : ∃ T, T = pfsOf ((xs.map rowA).take k) := ⟨_, rfl⟩
      rw [← hTT] at hJ
      have htk := Lib.hid (show pfsOf ((xs.map rowA).take (k + 1)) = T ++ (cutN x.1.n (x.2.n + 1)).map pfOf by
        rw [hTT, List.take_add_one, List.getElem?_map, hx]
        show (cuts (_ ++ [rowA x])).map pfOf = _
        rw [cuts_app, cuts_one, List.map_append]; rfl)
      have hlen := Lib.hid (show T.length + (cutN x.1.n (x.2.n + 1)).length ≤ (pfsOf (xs.map rowA)).length by
        have h1 := htk.out
        have h2 : pfsOf (xs.map rowA) = pfsOf ((xs.map rowA).take (k + 1)) ++ pfsOf ((xs.map rowA).drop (k + 1)) := by
          unfold pfsOf
          rw [← List.map_append, ← cuts_app, List.take_append_drop]
        rw [h2, h1]
        simp only [List.length_append, List.length_map]
        omega)
      have hN0 := Lib.hid (rowA_row hxR.out)
      clear hx hTT
      gi_wp2
      clear hld S1 S5 k5
      gi_loopw [6] (fun mv wi => ∃ (L : List Pf) (b : Option Nat) (a : Ad) (more : Bool), mv = .bool more ∧ J L b wi ∧ Blk wi wr.heap.size (rgC x) 53 ∧ Blk wi (wr.heap.size + 1) (adC a) 38 ∧ Hid (Away c l D b wr.heap.size ∧ Away c l D b (wr.heap.size + 1)) ∧ Below n0 w0 wi ∧
        Hid ((more = true → a.R ∧ a.s = x.2.s) ∧ L ++ restA more a (x.2.n + 1) = T ++ (cutN x.1.n (x.2.n + 1)).map pfOf)) (fun mv wi => match mv with | .bool true => 1 + (cutN (adAt wi (wr.heap.size + 1)).n (x.2.n + 1)).length | _ => 0)
      case atStart => exact ⟨T, b, x.1, true, rfl, hJ, h4, h5, hA4, hW, Lib.hid ⟨fun _ => ⟨hxR.out.1, hxR.out.2.2.1⟩, rfl⟩⟩
      case round =>
        clear hJ h4 h5 hA4 hW
        obtain ⟨L, b, a, more, rfl, hJ, h4, h5, hA, hW, hI⟩ := hrel
        have hat0 := Lib.hid (adAt_blk h5)
        cases more
        · have hfin := Lib.hid (show L = pfsOf ((xs.map rowA).take (k + 1)) by
            have h1 := hI.out.2
            rw [htk.out, ← h1]; exact (List.append_nil L).symm)
          gi_wp2
          refine ⟨trivial, ?_⟩
          gi_wp2
          go_roundw
          case rel => exact ⟨k + 1, b, by omega, by go_num, by rw [← hfin.out]; exact hJ, hW⟩
          case measure => simp [intOf]; omega
        · have haR := Lib.hid (hI.out.1 rfl)
          have hHI := Lib.hid hI.out.2
          have HC := fun w' => Lib.hid (spanCmp_d a x.2 w' haR.out.1.1 hxR.out.2.1.1)
          have k5 := h5.ld rowAd rfl
          have k4 := h4.ldAt rowAd 3 (adC x.2) [] rfl rfl
          have hcl := Lib.hid (cmpN_le a.n x.2.n)
          generalize cmpN a.n x.2.n = cc at *
          gi_wp2
          refine ⟨trivial, ?_⟩
          refine (callsIn_wide.2 (HC _).out).mono ?_
          rintro e w1 ⟨rfl, hg1⟩
          have hv1 := hg1.below
          replace h4 := h4.below hv1
          replace h5 := h5.below hv1
          replace hJ := H.below hJ hv1
          replace hW := hW.trans (hv1.mono (by have := hW.size; omega))
          clear hv1 hg1 k4 k5 HC
          by_cases hle : a.n ≤ x.2.n
          · have HV : cc ≤ 0 := by have h := hcl.out; rw [decide_eq_true hle] at h; exact of_decide_eq_true h
            have HWd := Lib.hid (widest_any a x.2 w1 haR.out.1 hxR.out.2.1 haR.out.2 hle (hT1.out w1 hW))
            obtain ⟨p, z, ok, hp, hpR, hlR, hz, hst1, hst2, hmeas, hLl⟩ := step_rest haR.out.1 haR.out.2 hxR.out hle hHI.out
            rw [← hp] at HWd
            have HRg := fun w' => Lib.hid (rangeOf_R p w' hpR)
            have HNx := fun w' => Lib.hid (nextA_any (rgP p).2 w' hlR)
            rw [hz] at HNx
            replace hst1 := Lib.hid hst1
            replace hst2 := Lib.hid hst2
            replace hmeas := Lib.hid hmeas
            replace hLl := Lib.hid (show L.length < (pfsOf (xs.map rowA)).length by
              have h2 := hlen.out
              simp only [List.length_append, List.length_map] at hLl
              omega)
            replace hpR := Lib.hid hpR
            clear hz hp hlR hle hcl hHI
            have k5 := h5.ld rowAd rfl
            have k4 := h4.ldAt rowAd 3 (adC x.2) [] rfl rfl
            gi_wp2
            refine ⟨trivial, ?_⟩
            refine (callsIn_wide.2 HWd.out).mono ?_
            rintro e w2 ⟨rfl, hv1⟩
            replace h4 := h4.below hv1
            replace h5 := h5.below hv1
            replace hJ := H.below hJ hv1
            replace hW := hW.trans (hv1.mono (by have := hW.size; omega))
            clear hv1 k4 k5 HWd
            have S7 := stT_new rowPf (te := 40) w2 w2.heap.size rfl [.bool false, .int .u64 0, .int .u64 0, .int .i64 0] (pfC p) rfl rfl (pfC_one p)
            have h7 := Blk.new w2 (pfC p) 40
            have hA7 := Lib.hid (H.fresh hJ _ (Nat.le_refl _))
            have hsz := hW.size
            have hal : Below w2.heap.size w2 (w2.alloc (.cells (pfC p).toArray 40)) := (Below.refl _ _).alloc (Nat.le_refl _) _
            replace h4 := h4.below hal
            replace h5 := h5.below hal
            replace hJ := H.below hJ hal
            replace hW := hW.alloc (by omega) (.cells (pfC p).toArray 40)
            clear hal
            obtain ⟨fn, tmps, assign, body, hy, hRd⟩ := hY.out L p b _ hJ hLl.out
            have k7 := h7.ld rowPf rfl
            gi_wp2
            refine hRd.mono ?_
            rintro e w3 ⟨rfl, b3, hJ3, hKp⟩
            have hA3 := keep_two hKp h4 h5 hA
            replace h4 := hKp.blk h4 hA.out.1
            replace h5 := hKp.blk h5 hA.out.2
            replace h7 := hKp.blk h7 hA7.out
            replace hW := hW.trans hKp.below
            have k7 := h7.ld rowPf rfl
            clear hJ hA7 hA hKp hRd hy S7
            gi_wp2
            refine ⟨trivial, ?_⟩
            refine (callsIn_wide.2 (HRg _).out).mono ?_
            rintro e w4 ⟨rfl, hv1⟩
            replace h4 := h4.below hv1
            replace h5 := h5.below hv1
            replace hJ3 := H.below hJ3 hv1
            replace hW := hW.trans (hv1.mono (by have := hW.size; omega))
            clear hv1 k7
            gi_wp2
            refine ⟨trivial, ?_⟩
            refine (callsIn_wide.2 (HNx _).out).mono ?_
            rintro e w5 ⟨rfl, hv1⟩
            replace h4 := h4.below hv1
            replace h5 := h5.below hv1
            replace hJ3 := H.below hJ3 hv1
            replace hW := hW.trans (hv1.mono (by have := hW.size; omega))
            clear hv1
            have S8 := stT_row rowAd h5 rfl (adC_len z) (adC_one z)
            replace h4 := gbo_setRow h4 h5 (by omega) (adC z).toArray
            replace hJ3 := H.row hJ3 hA3.out.2 (adC z).toArray
            replace hW := below_rowB hW h5 (by have := hb4.out; omega) (adC z).toArray
            have h5' := h5.row (adC z)
            have hat := adAt_blk h5'
            clear h5
            gi_wp2
            go_roundw
            case rel => exact ⟨L ++ [p], b3, z, ok, rfl, hJ3, h4, h5', hA3, hW, Lib.hid ⟨hst1.out, hst2.out⟩⟩
            case measure =>
              cases ok
              · exact Nat.lt_of_lt_of_le Nat.zero_lt_one (Nat.le_add_right _ _)
              · show 1 + (cutN (adAt _ _).n (x.2.n + 1)).length < 1 + (cutN (adAt _ _).n (x.2.n + 1)).length
                rw [hat, hat0.out]
                exact Nat.add_lt_add_left (hmeas.out rfl) 1
          · have HV : ¬ cc ≤ 0 := by have h := hcl.out; rw [decide_eq_false hle] at h; exact of_decide_eq_false h
            have hfin := Lib.hid (show L = pfsOf ((xs.map rowA).take (k + 1)) by
              have h1 : L ++ (cutN a.n (x.2.n + 1)).map pfOf = T ++ (cutN x.1.n (x.2.n + 1)).map pfOf := hHI.out
              rw [cutN_nil (by omega)] at h1
              rw [htk.out, ← h1]; exact (List.append_nil L).symm)
            clear hcl hle
            gi_wp2
            go_roundw
            case rel => exact ⟨k + 1, b, by omega, by go_num, by rw [← hfin.out]; exact hJ, hW⟩
            case measure => simp [intOf]; omega
    · have hkm : k = m := by omega
      have hfin := Lib.hid (show (xs.map rowA).take k = xs.map rowA from List.take_of_length_le (by rw [List.length_map]; have := hpl.out; omega))
      clear hkm
      gi_wp2
      go_end0
      exact ⟨⟨_, rfl⟩, b, by rw [← hfin.out]; exact hJ, hW⟩
end Go.Proofs.YtmgdkefoehlamaaGreatDoor
namespace Go.Proofs.YtmgdkefoehlamaaGreatDoor
open Go.RowKit

attribute [local go_sem] Oper.semAt_some

set_option maxHeartbeats 4000000 in
theorem prefixes1S_in (n : Nat) (hn : 1 ≤ n) (n0 c l D Bn : Nat) (A : Option Addr) (m cap : Nat) (xs : List (Ad × Ad)) (hm : m ≤ 100000) (hR : ∀ x ∈ xs, RgR x) (w0 : World) (h0 : w0.heap.size = n0) (hS : SlE eRg w0 A m cap xs) (hT : Tz w0)
    (J : List Pf → Option Nat → World → Prop) (H : Host J n0 c l D) (Lim : Nat) (hlong : Lim < (pfsOf (xs.map rowA)).length) (JS : World → Prop) (n1 : Nat) (hn1 : n1 ≤ n0)
    (hZ : ∀ pre p b W, J pre b W → Below n0 w0 W → pre.length = Lim → YieldAt Fence.wide (n - 1) Tryz.prog l #[pfA p] W fun e W' => e = .returned (.bool false) ∧ JS W' ∧ Below n1 W W')
    (hY : ∀ pre p b W, J pre b W → pre.length < Lim → YieldAt Fence.wide (n - 1) Tryz.prog l #[pfA p] W fun e W' => e = .returned (.bool true) ∧ ∃ b', J (pre ++ [p]) b' W' ∧ Keep n0 c l D b b' W W')
    (W : World) (b : Option Nat) (hW : Below n0 w0 W) (hBn : W.cell? ⟨Bn, 0, none⟩ = some (.slice A m cap)) (hJ : J [] b W) :
    CallsIn Fence.wide n Tryz.prog 152 #[.func (.yield l) #[] #[], .pointer (some ⟨Bn, 0, none⟩)] W fun e W' => (∃ v, e = .returned v) ∧ JS W' ∧ Below n1 w0 W' := by
  have hpl := Lib.hid hS.1
  have hS1 : Hid (∀ W', Below n0 w0 W' → SlE eRg W' A m cap xs) := Lib.hid (fun W' hb => hS.below (by rw [h0]; exact hb))
  have hT1 : Hid (∀ W', Below n0 w0 W' → Tz W') := Lib.hid (fun W' hb => hT.below (by rw [h0]; exact hb))
  replace hR := Lib.hid hR
  replace hY := Lib.hid hY
  replace hZ := Lib.hid hZ
  replace hlong := Lib.hid hlong
  have hat' := Lib.hid (fun k (hk : k < m) => hS.at' (k := k) hk)
  clear hS hT
  refine callsIn_of_wp Tryz.func152 rfl trivial ?_ rfl
  simp only [Tryz.ntmps152, List.size_toArray, List.length_cons, List.length_nil, Nat.reduceAdd, Nat.reduceSub, Array.replicate_succ, Array.replicate_zero, List.push_toArray, List.append_toArray, List.nil_append, List.cons_append]
  gi_wp2
  gi_loopw [10] (fun i wr => ∃ (k : Nat) (b : Option Nat), k ≤ m ∧ i = .int .i64 k ∧ J (pfsOf ((xs.map rowA).take k)) b wr ∧ Below n0 w0 wr ∧ Hid ((pfsOf ((xs.map rowA).take k)).length ≤ Lim)) (fun i _ => m - (intOf i).toNat)
  case atStart => exact ⟨0, b, by omega, rfl, hJ, hW, Lib.hid (Nat.zero_le _)⟩
  case round =>
    clear hBn hJ hW
    obtain ⟨k, b, hk, rfl, hJ, hW, hLm⟩ := hrel
    by_cases hlt : k < m
    · obtain ⟨x, hx⟩ : ∃ x, xs[k]? = some x := ⟨xs[k]'(by have := hpl.out; omega), List.getElem?_eq_getElem _⟩
      obtain ⟨g0, off, rfl, _, _⟩ := hat'.out k hlt
      have hld := SlE.ld rowRg (hS1.out wr hW) hx
      replace hld : (ldT 53 (.pointer (some ⟨g0, off + k * 6, none⟩))).run Tryz.prog wr = .ok (.value (rgA x)) wr := hld
      have hxR := Lib.hid (hR.out x (List.mem_of_getElem? hx))
      have hlt' : (k : Int) < m := by omega
      have hz0 := hW.size
      have S1 := stT_new rowRg (te := 53) wr wr.heap.size rfl [.bool false, .int .u64 0, .int .u64 0, .bool false, .int .u64 0, .int .u64 0] (rgC x) rfl rfl (rgC_one x)
      have S5 := stT_new rowAd (te := 38) (wr.alloc (.cells (rgC x).toArray 53)) (wr.heap.size + 1) (by simp) [.bool false, .int .u64 0, .int .u64 0] (adC x.1) rfl rfl (adC_one _)
      have k5 := (Blk.new wr (rgC x) 53).ldAt rowAd 0 (adC x.1) (adC x.2) rfl rfl
      have hA4 : Hid (Away c l D b wr.heap.size ∧ Away c l D b (wr.heap.size + 1)) := Lib.hid ⟨H.fresh hJ _ (Nat.le_refl _), H.fresh hJ _ (Nat.le_succ _)⟩
      obtain ⟨h4, h5⟩ := two_new wr (rgC x) (adC x.1) 53 38
      replace hJ := H.below hJ (((Below.refl _ wr).alloc (Nat.le_refl _) (.cells (rgC x).toArray 53)).alloc (by simp) (.cells (adC x.1).toArray 38))
      replace hW := (hW.alloc (by omega) (.cells (rgC x).toArray 53)).alloc (by simp; omega) (.cells (adC x.1).toArray 38)
      have hb4 : Hid (n0 ≤ wr.heap.size) := Lib.hid (by omega)
      obtain ⟨T, hTT⟩ : ∃ T, T = pfsOf ((xs.map rowA).take k) := ⟨_, rfl⟩
      rw [← hTT] at hJ hLm
      have htk := Lib.hid (show pfsOf ((xs.map rowA).take (k + 1)) = T ++ (cutN x.1.n (x.2.n + 1)).map pfOf by
        rw [hTT, List.take_add_one, List.getElem?_map, hx]
        show (cuts (_ ++ [rowA x])).map pfOf = _
        rw [cuts_app, cuts_one, List.map_append]; rfl)
      have hlen := Lib.hid (show T.length + (cutN x.1.n (x.2.n + 1)).length ≤ (pfsOf (xs.map rowA)).length by
        have h1 := htk.out
        have h2 : pfsOf (xs.map rowA) = pfsOf ((xs.map rowA).take (k + 1)) ++ pfsOf ((xs.map rowA).drop (k + 1)) := by
          unfold pfsOf
          rw [← List.map_append, ← cuts_app, List.take_append_drop]
        rw [h2, h1]
        simp only [List.length_append, List.length_map]
        omega)
      have hN0 := Lib.hid (rowA_row hxR.out)
      clear hx hTT
      gi_wp2
      clear hld S1 S5 k5
      gi_loopw [6] (fun mv wi => ∃ (L : List Pf) (b : Option Nat) (a : Ad) (more : Bool), mv = .bool more ∧ J L b wi ∧ Blk wi wr.heap.size (rgC x) 53 ∧ Blk wi (wr.heap.size + 1) (adC a) 38 ∧ Hid (Away c l D b wr.heap.size ∧ Away c l D b (wr.heap.size + 1)) ∧ Below n0 w0 wi ∧
        Hid ((more = true → a.R ∧ a.s = x.2.s) ∧ L ++ restA more a (x.2.n + 1) = T ++ (cutN x.1.n (x.2.n + 1)).map pfOf) ∧ Hid (L.length ≤ Lim)) (fun mv wi => match mv with | .bool true => 1 + (cutN (adAt wi (wr.heap.size + 1)).n (x.2.n + 1)).length | _ => 0)
      case atStart => exact ⟨T, b, x.1, true, rfl, hJ, h4, h5, hA4, hW, Lib.hid ⟨fun _ => ⟨hxR.out.1, hxR.out.2.2.1⟩, rfl⟩, hLm⟩
      case round =>
        clear hJ h4 h5 hA4 hW hLm
        obtain ⟨L, b, a, more, rfl, hJ, h4, h5, hA, hW, hI, hLm⟩ := hrel
        have hat0 := Lib.hid (adAt_blk h5)
        cases more
        · have hfin := Lib.hid (show L = pfsOf ((xs.map rowA).take (k + 1)) by
            have h1 := hI.out.2
            rw [htk.out, ← h1]; exact (List.append_nil L).symm)
          gi_wp2
          refine ⟨trivial, ?_⟩
          gi_wp2
          go_roundw
          case rel => exact ⟨k + 1, b, by omega, by go_num, by rw [← hfin.out]; exact hJ, hW, by rw [← hfin.out]; exact hLm⟩
          case measure => simp [intOf]; omega
        · have haR := Lib.hid (hI.out.1 rfl)
          have hHI := Lib.hid hI.out.2
          have HC := fun w' => Lib.hid (spanCmp_d a x.2 w' haR.out.1.1 hxR.out.2.1.1)
          have k5 := h5.ld rowAd rfl
          have k4 := h4.ldAt rowAd 3 (adC x.2) [] rfl rfl
          have hcl := Lib.hid (cmpN_le a.n x.2.n)
          generalize cmpN a.n x.2.n = cc at *
          gi_wp2
          refine ⟨trivial, ?_⟩
          refine (callsIn_wide.2 (HC _).out).mono ?_
          rintro e w1 ⟨rfl, hg1⟩
          have hv1 := hg1.below
          replace h4 := h4.below hv1
          replace h5 := h5.below hv1
          replace hJ := H.below hJ hv1
          replace hW := hW.trans (hv1.mono (by have := hW.size; omega))
          clear hv1 hg1 k4 k5 HC
          by_cases hle : a.n ≤ x.2.n
          · have HV : cc ≤ 0 := by have h := hcl.out; rw [decide_eq_true hle] at h; exact of_decide_eq_true h
            have HWd := Lib.hid (widest_any a x.2 w1 haR.out.1 hxR.out.2.1 haR.out.2 hle (hT1.out w1 hW))
            obtain ⟨p, z, ok, hp, hpR, hlR, hz, hst1, hst2, hmeas, hLl⟩ := step_rest haR.out.1 haR.out.2 hxR.out hle hHI.out
            rw [← hp] at HWd
            have HRg := fun w' => Lib.hid (rangeOf_R p w' hpR)
            have HNx := fun w' => Lib.hid (nextA_any (rgP p).2 w' hlR)
            rw [hz] at HNx
            replace hst1 := Lib.hid hst1
            replace hst2 := Lib.hid hst2
            replace hmeas := Lib.hid hmeas
            replace hLl := Lib.hid (show L.length < (pfsOf (xs.map rowA)).length by
              have h2 := hlen.out
              simp only [List.length_append, List.length_map] at hLl
              omega)
            replace hpR := Lib.hid hpR
            clear hz hp hlR hle hcl hHI
            have k5 := h5.ld rowAd rfl
            have k4 := h4.ldAt rowAd 3 (adC x.2) [] rfl rfl
            gi_wp2
            refine ⟨trivial, ?_⟩
            refine (callsIn_wide.2 HWd.out).mono ?_
            rintro e w2 ⟨rfl, hv1⟩
            replace h4 := h4.below hv1
            replace h5 := h5.below hv1
            replace hJ := H.below hJ hv1
            replace hW := hW.trans (hv1.mono (by have := hW.size; omega))
            clear hv1 k4 k5 HWd
            have S7 := stT_new rowPf (te := 40) w2 w2.heap.size rfl [.bool false, .int .u64 0, .int .u64 0, .int .i64 0] (pfC p) rfl rfl (pfC_one p)
            have h7 := Blk.new w2 (pfC p) 40
            have hA7 := Lib.hid (H.fresh hJ _ (Nat.le_refl _))
            have hsz := hW.size
            have hal : Below w2.heap.size w2 (w2.alloc (.cells (pfC p).toArray 40)) := (Below.refl _ _).alloc (Nat.le_refl _) _
            replace h4 := h4.below hal
            replace h5 := h5.below hal
            replace hJ := H.below hJ hal
            replace hW := hW.alloc (by omega) (.cells (pfC p).toArray 40)
            clear hal
            rcases Nat.lt_or_eq_of_le hLm.out with hll | hll
            · skip
              obtain ⟨fn, tmps, assign, body, hy, hRd⟩ := hY.out L p b _ hJ hll
              have k7 := h7.ld rowPf rfl
              gi_wp2
              refine hRd.mono ?_
              rintro e w3 ⟨rfl, b3, hJ3, hKp⟩
              have hA3 := keep_two hKp h4 h5 hA
              replace h4 := hKp.blk h4 hA.out.1
              replace h5 := hKp.blk h5 hA.out.2
              replace h7 := hKp.blk h7 hA7.out
              replace hW := hW.trans hKp.below
              have k7 := h7.ld rowPf rfl
              clear hJ hA7 hA hKp hRd hy S7
              gi_wp2
              refine ⟨trivial, ?_⟩
              refine (callsIn_wide.2 (HRg _).out).mono ?_
              rintro e w4 ⟨rfl, hv1⟩
              replace h4 := h4.below hv1
              replace h5 := h5.below hv1
              replace hJ3 := H.below hJ3 hv1
              replace hW := hW.trans (hv1.mono (by have := hW.size; omega))
              clear hv1 k7
              gi_wp2
              refine ⟨trivial, ?_⟩
              refine (callsIn_wide.2 (HNx _).out).mono ?_
              rintro e w5 ⟨rfl, hv1⟩
              replace h4 := h4.below hv1
              replace h5 := h5.below hv1
              replace hJ3 := H.below hJ3 hv1
              replace hW := hW.trans (hv1.mono (by have := hW.size; omega))
              clear hv1
              have S8 := stT_row rowAd h5 rfl (adC_len z) (adC_one z)
              replace h4 := gbo_setRow h4 h5 (by omega) (adC z).toArray
              replace hJ3 := H.row hJ3 hA3.out.2 (adC z).toArray
              replace hW := below_rowB hW h5 (by have := hb4.out; omega) (adC z).toArray
              have h5' := h5.row (adC z)
              have hat := adAt_blk h5'
              clear h5
              gi_wp2
              go_roundw
              case rel => exact ⟨L ++ [p], b3, z, ok, rfl, hJ3, h4, h5', hA3, hW, Lib.hid ⟨hst1.out, hst2.out⟩, Lib.hid (by rw [List.length_append]; exact hll)⟩
              case measure =>
                cases ok
                · exact Nat.lt_of_lt_of_le Nat.zero_lt_one (Nat.le_add_right _ _)
                · show 1 + (cutN (adAt _ _).n (x.2.n + 1)).length < 1 + (cutN (adAt _ _).n (x.2.n + 1)).length
                  rw [hat, hat0.out]
                  exact Nat.add_lt_add_left (hmeas.out rfl) 1
            · skip
              obtain ⟨fn, tmps, assign, body, hy, hRd⟩ := hZ.out L p b _ hJ hW hll
              have k7 := h7.ld rowPf rfl
              gi_wp2
              refine hRd.mono ?_
              rintro e w3 ⟨rfl, hJ3, hb3⟩
              have hfin := Lib.hid hJ3
              have hB := (hW.mono hn1).trans hb3
              clear hJ hA7 hA hJ3 hb3 hRd hy S7 h4 h5 h7 k7 hW
              gi_wp2
              refine bodyPost_ret (results_none rfl _ _ _) rfl ?_
              exact ⟨⟨_, rfl⟩, hfin.out, hB⟩
          · have HV : ¬ cc ≤ 0 := by have h := hcl.out; rw [decide_eq_false hle] at h; exact of_decide_eq_false h
            have hfin := Lib.hid (show L = pfsOf ((xs.map rowA).take (k + 1)) by
              have h1 : L ++ (cutN a.n (x.2.n + 1)).map pfOf = T ++ (cutN x.1.n (x.2.n + 1)).map pfOf := hHI.out
              rw [cutN_nil (by omega)] at h1
              rw [htk.out, ← h1]; exact (List.append_nil L).symm)
            clear hcl hle
            gi_wp2
            go_roundw
            case rel => exact ⟨k + 1, b, by omega, by go_num, by rw [← hfin.out]; exact hJ, hW, by rw [← hfin.out]; exact hLm⟩
            case measure => simp [intOf]; omega
    · exfalso
      have h1 := hLm.out
      rw [List.take_of_length_le (by rw [List.length_map]; have := hpl.out; omega)] at h1
      have h2 := hlong.out
      omega
end Go.Proofs.YtmgdkefoehlamaaGreatDoor
