/- Tables: a right table of the stream. -/
import Derived.Test.YtfpcalgkfagjkaaGreatDoorKrTbJ
import Derived.Test.YtfpcalgkfagjkaaGreatDoorKrSuD
set_option linter.unusedVariables false
set_option linter.unusedSimpArgs false
set_option maxRecDepth 100000
namespace Go.Proofs.YtfpcalgkfagjkaaGreatDoor
open Go.RowKit

theorem cmpEn_p {x y z : En} (h : y.p = z.p) : cmpEn x y = cmpEn x z := by
  unfold cmpEn; rw [h]
theorem cmpEn_zero {x y : En} (hx : x.p.R) (hy : y.p.R) (h : cmpEn x y = 0) : x.p = y.p := by
  unfold cmpEn at h
  split at h
  · next h0 =>
    have h1 : x.p.1.n = y.p.1.n := by
      unfold cmpN at h0
      split at h0
      · omega
      · split at h0
        · assumption
        · omega
    exact Prod.ext (by rw [← adOf_of hx.1.1, ← adOf_of hy.1.1, h1]) (by omega)
  · next h0 => exact absurd h h0
theorem sqzE_spec {qs : List En} (hR : ∀ x ∈ qs, x.p.R) (hs : qs.Pairwise (fun x y => cmpEn x y ≤ 0)) : ∀ j, j + 1 ≤ qs.length →
    (∀ x ∈ sqzE qs (j + 1), x ∈ qs) ∧ (sqzE qs (j + 1)).Pairwise (fun x y => cmpEn x y < 0) ∧ ∀ x ∈ sqzE qs (j + 1), ∀ y, qs[j]? = some y → cmpEn x y < 0 ∨ x.p = y.p
  | 0, hj => by
    obtain ⟨a, ha⟩ : ∃ a, qs[0]? = some a := ⟨qs[0]'(by omega), List.getElem?_eq_getElem _⟩
    have e : sqzE qs (0 + 1) = [a] := by
      show qs.take 1 = _
      rw [List.take_add_one, ha]; rfl
    rw [e]
    refine ⟨fun x hx => by rw [List.mem_singleton.1 hx]; exact List.mem_of_getElem? ha, List.pairwise_singleton _ _, fun x hx y hy => ?_⟩
    rw [ha] at hy
    rw [List.mem_singleton.1 hx]
    exact .inr (by rw [Option.some.inj hy])
  | j + 1, hj => by
    obtain ⟨h1, h2, h3⟩ := sqzE_spec hR hs j (by omega)
    obtain ⟨z, hz⟩ : ∃ a, qs[j]? = some a := ⟨qs[j]'(by omega), List.getElem?_eq_getElem _⟩
    obtain ⟨y, hy⟩ : ∃ a, qs[j + 1]? = some a := ⟨qs[j + 1]'(by omega), List.getElem?_eq_getElem _⟩
    have hzy : cmpEn z y ≤ 0 := by
      have := List.pairwise_iff_getElem.1 hs j (j + 1) (by omega) (by omega) (by omega)
      rwa [(List.getElem?_eq_some_iff.1 hz).2, (List.getElem?_eq_some_iff.1 hy).2] at this
    by_cases he : y.p = z.p
    · have e : sqzE qs (j + 1 + 1) = sqzE qs (j + 1) := by
        show (if (qs[j + 1]?).map En.p = (qs[j]?).map En.p then sqzE qs (j + 1) else sqzE qs (j + 1) ++ (qs[j + 1]?).toList) = _
        rw [if_pos (by rw [hy, hz]; exact congrArg some he)]
      rw [e]
      refine ⟨h1, h2, fun x hx y' hy' => ?_⟩
      rw [hy] at hy'
      obtain rfl := Option.some.inj hy'
      rcases h3 x hx z hz with h | h
      · exact .inl (by rw [cmpEn_p he]; exact h)
      · exact .inr (h.trans he.symm)
    · have e : sqzE qs (j + 1 + 1) = sqzE qs (j + 1) ++ [y] := by
        show (if (qs[j + 1]?).map En.p = (qs[j]?).map En.p then sqzE qs (j + 1) else sqzE qs (j + 1) ++ (qs[j + 1]?).toList) = _
        rw [if_neg (by rw [hy, hz]; intro k; injection k with k; exact he k), hy]; rfl
      have hlt : cmpEn z y < 0 := by
        rcases Int.lt_or_eq_of_le hzy with h | h
        · exact h
        · exact absurd (cmpEn_zero (hR z (List.mem_of_getElem? hz)) (hR y (List.mem_of_getElem? hy)) h).symm he
      have hxy : ∀ x ∈ sqzE qs (j + 1), cmpEn x y < 0 := fun x hx => by
        rcases h3 x hx z hz with h | h
        · exact cm_En.lt (Int.le_of_lt h) (Int.le_of_lt hlt) (.inl h)
        · have e2 : cmpEn x y = cmpEn z y := by
            have a1 := cm_En.anti y x
            have a2 := cm_En.anti y z
            have a3 := cmpEn_p (x := y) h
            omega
          omega
      rw [e]
      refine ⟨fun x hx => ?_, ?_, fun x hx y' hy' => ?_⟩
      · rcases List.mem_append.1 hx with hx | hx
        · exact h1 x hx
        · rw [List.mem_singleton.1 hx]; exact List.mem_of_getElem? hy
      · refine List.pairwise_append.2 ⟨h2, List.pairwise_singleton _ _, fun a ha c hc => ?_⟩
        rw [List.mem_singleton.1 hc]; exact hxy a ha
      · rw [hy] at hy'
        obtain rfl := Option.some.inj hy'
        rcases List.mem_append.1 hx with hx | hx
        · exact .inl (hxy x hx)
        · rw [List.mem_singleton.1 hx]; exact .inr rfl
def TbG (t : List En) : Prop := (∀ x ∈ t, x.p.R ∧ keyB x.nm = true) ∧ t.length ≤ 500 ∧ t.Pairwise (fun x y => cmpEn x y < 0)
theorem TbG.d {zs : List En} (h : TbG zs) : TbD zs := by
  refine ⟨fun x hx => (h.1 x hx).1, fun x hx y hy hxy => ?_⟩
  have h2 := h.2.2
  obtain ⟨i, hi, rfl⟩ := List.getElem_of_mem hx
  obtain ⟨k, hk, rfl⟩ := List.getElem_of_mem hy
  rcases Nat.lt_trichotomy i k with g | rfl | g
  · have h3 := List.pairwise_iff_getElem.1 h2 i k hi hk g
    have h4 := cmpEn_p (x := zs[i]) hxy
    have h5 := cm_En.self zs[i]
    omega
  · rfl
  · have h3 := List.pairwise_iff_getElem.1 h2 k i hk hi g
    have h4 := cmpEn_p (x := zs[k]) hxy
    have h5 := cm_En.self zs[k]
    omega
theorem TbG.u {t : List En} (h : TbG t) : ∀ x ∈ t, x.p.1.U := fun x hx => (h.1 x hx).1.1.1
theorem tbG_of {qs : List En} (hR : ∀ x ∈ qs, x.p.R ∧ keyB x.nm = true) (hl : qs.length ≤ 500) (hs : qs.Pairwise (fun x y => cmpEn x y ≤ 0)) {zs : List En} (hz : CpE qs qs.length zs) (hzl : zs.length ≤ qs.length) : TbG zs := by
  cases hq : qs.length with
  | zero =>
    have e : zs = [] := List.eq_nil_of_length_eq_zero (by omega)
    subst e
    exact ⟨fun x hx => (by cases hx), Nat.zero_le _, List.Pairwise.nil⟩
  | succ j =>
    rw [hq] at hz
    obtain ⟨h1, h2, _⟩ := sqzE_spec (fun x hx => (hR x hx).1) hs j (by omega)
    have e : zs = sqzE qs (j + 1) := hz
    rw [← e] at h1 h2
    exact ⟨fun x hx => hR x (h1 x hx), by omega, h2⟩

def isKeyV : Value → Bool
  | .string b => keyB b.data.toList
  | _ => false
theorem isKeyV_get {v : Value} (h : isKeyV v = true) : ∃ l : List UInt8, keyB l = true ∧ v = .string ⟨l.toArray⟩ := by
  cases v with
  | string b => exact ⟨b.data.toList, h, by cases b; rfl⟩
  | _ => cases h
def KyPost (b R : Nat) (w : World) (e : Ending) (w' : World) : Prop :=
  ∃ l : List UInt8, keyB l = true ∧ e = .returned (.string ⟨l.toArray⟩) ∧ Str w' b R ∧ w.grownBy w' (some b)

set_option maxHeartbeats 400000 in
theorem someKey_any (w : World) (b R p cap n : Nat) (vs : List Value) (t : TypeId) (hs : Str w b (R + 1)) (hb : b < p) (hB : Blk w p vs t) (hn : n = vs.length) (h1 : 1 ≤ vs.length) (h2 : vs.length ≤ 1000) (hP : vs.all isKeyV = true) :
    Calls Tryz.prog 8 #[.pointer (some ⟨b, 0, none⟩), .slice (some ⟨p, 0, none⟩) n cap] w (KyPost b R w) := by
  subst hn
  go_enter Tryz.func8, Tryz.ntmps8
  go_wp2_with fail
  refine (next_any _ _ _ _ (by omega) (by omega) hs).mono ?_
  rintro e w' ⟨r, ⟨hr1, hr2⟩, rfl, hs', hg⟩
  obtain ⟨i, rfl⟩ := Int.eq_ofNat_of_zero_le hr1
  have hi : i < vs.length := by omega
  have hc := (hB.gb hg hb).cell (i := i) (v := vs[i]) (List.getElem?_eq_getElem hi)
  obtain ⟨l, hl, hv⟩ := isKeyV_get (List.all_eq_true.1 hP _ (List.getElem_mem hi))
  rw [hv] at hc
  clear hP hB hv
  go_wp2_with fail
  go_ret
  exact ⟨l, hl, rfl, hs', hg⟩

def bdEn (x y : Value) : Sem Next := do
  let v ← Instr.build 37 #[(0, x), (1, y)]
  pure (.value v)
section
variable (ρ : Operand → Value) (dst : Option Tmp) (x y : Operand) (ty : TypeId) (pos : String) (after : Array Edge) (guard : Option (Nat × Bool))
@[go_sem ↓ high] theorem execOp_bdEn : execOp ρ ⟨dst, .build 37 #[(0, x), (1, y)], ty, pos, after, guard⟩ = bdEn (ρ x) (ρ y) := by
  simp only [execOp, bdEn, List.map_toArray, List.map_cons, List.map_nil]
@[go_sem high] theorem execOp_bdEn' : execOp ρ ⟨dst, .build 37 #[(0, x), (1, y)], ty, pos, after, guard⟩ = bdEn (ρ x) (ρ y) := by
  simp only [execOp, bdEn, List.map_toArray, List.map_cons, List.map_nil]
end
theorem run_bdEn (x : En) (w : World) : (bdEn (pfA x.p) (.string ⟨x.nm.toArray⟩)).run Tryz.prog w = .ok (.value (enA x)) w := by
  have h := run_build (P := Tryz.prog) w 37 #[(0, pfA x.p), (1, .string ⟨x.nm.toArray⟩)] (enC x).toArray (by kernel_rfl)
  unfold bdEn
  simp only [Sem.run_bind, h, Result.andThen_ok, Sem.run_pure]

theorem gb_belT {a x y : World} {r : Option Nat} {B : Nat} (h : a.grownBy x r) (hb : Below B x y) (hB : a.heap.size ≤ B) : a.grownBy y r :=
  ⟨hb.os.trans h.os, hb.tape.trans h.tape, hb.output.trans h.output, Nat.le_trans h.size hb.size, fun k hk hne => (hb.block k (Nat.lt_of_lt_of_le hk hB)).trans (h.block k hk hne)⟩
def TblPost (b R : Nat) (w : World) (e : Ending) (w' : World) : Prop :=
  ∃ (A : Option Addr) (n cap : Nat) (t : List En), e = .returned (.slice A n cap) ∧ SlE eEn w' A n cap t ∧ TbG t ∧ n ≤ 7 ∧ (t = [] ∨ ∃ g N, A = some ⟨g, 0, none⟩ ∧ OwnN w.heap.size w' g N cap t) ∧ Str w' b R ∧ w.grownBy w' (some b)

set_option maxHeartbeats 4000000 in
theorem compactAllE_any (B : Nat) (A : Option Addr) (n cap : Nat) (qs : List En) (w : World) (hown : OwnE eEn 37 B w (.slice A n cap) qs) (hnq : n = qs.length) (hn : n ≤ 1000000) (hB : B ≤ w.heap.size) :
    Calls Tryz.prog 57 #[.slice A n cap, .func (.func 58) #[] #[]] w fun e w' => ∃ (m cap' : Nat) (zs : List En), e = .returned (.slice A m cap') ∧ SlE eEn w' A m cap' zs ∧ CpE qs qs.length zs ∧ m ≤ n ∧ (zs = [] ∨ ∃ g, A = some ⟨g, 0, none⟩ ∧ OwnN B w' g n cap' zs) ∧ Below B w w' := by
  by_cases h2 : n < 2
  · obtain ⟨A', cap', hv, hS⟩ := hown.sl
    injection hv with e1 e2 e3
    subst e1 e3
    rw [← hnq] at hS
    have hq : CpE qs qs.length qs := by
      unfold CpE
      cases qs with
      | nil => rfl
      | cons a r =>
        cases r with
        | nil => rfl
        | cons b r => simp at hnq; omega
    have hO : qs = [] ∨ ∃ g, A = some ⟨g, 0, none⟩ ∧ OwnN B w g n cap qs := by
      by_cases h0 : qs = []
      · exact .inl h0
      · obtain ⟨g, cap', hvv, hg1, hg2, hcap, _⟩ := hown.form h0
        injection hvv with e1 e2 e3
        subst e1 e3
        exact .inr ⟨g, rfl, ownN_all hown hnq⟩
    have h2' : (n : Int) < 2 := by omega
    replace hS := Lib.hid hS
    replace hq := Lib.hid hq
    replace hO := Lib.hid hO
    clear h2 hown hn hnq
    go_enter Tryz.func57, Tryz.ntmps57
    go_wp2_with fail
    go_ret
    exact ⟨n, cap, qs, rfl, hS.out, hq.out, Nat.le_refl _, hO.out, Below.refl _ _⟩
  · obtain ⟨g, cap', hvv, hg1, hg2, hcap, _⟩ := hown.form (by intro e; rw [e] at hnq; simp at hnq; omega)
    injection hvv with e1 e2 e3
    subst e1 e3
    refine (compactE_any B g n cap qs w hown hnq (by omega) hn hB).mono ?_
    rintro e w' ⟨m, zs, rfl, hm, hmc, hO, hC, hb⟩
    rw [hnq] at hC
    exact ⟨m, cap, zs, rfl, hO.sl m hm hmc, hC, by obtain ⟨C, _, _, h3⟩ := hO; omega, .inr ⟨g, rfl, hO⟩, hb⟩

set_option maxHeartbeats 4000000 in
theorem rightTable_any (w : World) (b R : Nat) (hs : Str w b (R + 43)) :
    Calls Tryz.prog 22 #[.pointer (some ⟨b, 0, none⟩)] w (TblPost b R w) := by
  have hbw := hs.lt
  have hbwB := hbw
  go_enter Tryz.func22, Tryz.ntmps22
  go_wp2_with fail
  refine (range_any 0 7 w b (R + 42) (by decide) (by decide) (by decide) hs).mono ?_
  rintro e w1 ⟨r, ⟨hr1, hr2⟩, rfl, hs1, hg1⟩
  obtain ⟨m, rfl⟩ := Int.eq_ofNat_of_zero_le hr1
  have hm : m ≤ 7 := by omega
  clear hr1 hr2 hs
  go_wp2_with fail
  go_loopw [3, 6] (fun o i wr => ∃ (k : Nat) (xs : List En), k ≤ m ∧ i = .int .i64 k ∧ Hid (xs.length = k ∧ ∀ x ∈ xs, x.p.R ∧ keyB x.nm = true) ∧ OwnE eEn 37 w.heap.size wr o xs ∧ Str wr b (R + 6 * (m - k)) ∧ w.grownBy wr (some b)) (fun _ i _ => m - (intOf i).toNat)
  case atStart => exact ⟨0, [], by omega, rfl, Lib.hid ⟨rfl, fun p hp => (by cases hp)⟩, OwnE.nil _ _, hs1.le (by omega), hg1⟩
  case round =>
    clear hs1 hg1
    obtain ⟨k, xs, hk, rfl, hxs, hown, hst, hg⟩ := hrel
    by_cases hlt : k < m
    · have hlt' : (k : Int) < m := by omega
      have hst' : Str wr b (((R + 6 * (m - (k + 1))) + 1) + 5) := hst.le (by omega)
      clear hst
      go_wp2_with fail
      refine (rightPrefix_any wr b _ hst').mono ?_
      rintro e w2 ⟨s, hi, lo, n, hA, rfl, hs2, hg2⟩
      have hpR := Lib.hid (right_pf hA)
      obtain ⟨p, hp⟩ : ∃ p : Pf, p = (⟨s, hi, lo⟩, n) := ⟨_, rfl⟩
      rw [← hp] at hpR
      have hpv : (Value.agg #[.bool s, .int .u64 hi, .int .u64 lo, .int .i64 n]) = pfA p := by rw [hp]; rfl
      rw [hpv]
      have hne : u3.ownBlock ≠ some b := fun e => by have := hown.lt b e; omega
      replace hown := hown.gb hg2 (.inr hne)
      replace hg := gb_trans hg hg2
      clear hg2 hst' hp hpv hA
      have hz2 := hg.size
      have hL := Blk.new w2 [.string ⟨#[97]⟩, .string ⟨#[97]⟩, .string ⟨#[98]⟩, .string ⟨#[99]⟩] 9
      replace hs2 := hs2.alloc (.cells #[.string ⟨#[97]⟩, .string ⟨#[97]⟩, .string ⟨#[98]⟩, .string ⟨#[99]⟩] 9)
      replace hown := hown.alloc' (.cells #[.string ⟨#[97]⟩, .string ⟨#[97]⟩, .string ⟨#[98]⟩, .string ⟨#[99]⟩] 9)
      replace hg := gb_alloc hg (.cells #[.string ⟨#[97]⟩, .string ⟨#[97]⟩, .string ⟨#[98]⟩, .string ⟨#[99]⟩] 9)
      have HK := Lib.hid (someKey_any _ b _ w2.heap.size 4 4 _ _ hs2 (by omega) hL rfl (by decide) (by decide) (by decide))
      clear hL hs2
      go_wp2_with fail
      refine HK.out.mono ?_
      rintro e w3 ⟨nm, hnm, rfl, hs3, hg3⟩
      replace hown := hown.gb hg3 (.inr hne)
      replace hg := gb_trans hg hg3
      replace hnm := Lib.hid hnm
      obtain ⟨x, hx⟩ : ∃ x : En, x = ⟨p, nm⟩ := ⟨_, rfl⟩
      have B1 : ∀ w', (bdEn (pfA p) (.string ⟨nm.toArray⟩)).run Tryz.prog w' = .ok (.value (enA x)) w' := fun w' => by
        rw [hx]
        exact run_bdEn ⟨p, nm⟩ w'
      have hxG := Lib.hid (show x.p.R ∧ keyB x.nm = true by rw [hx]; exact ⟨hpR.out, hnm.out⟩)
      clear HK hg3 hx hpR hnm
      go_wp2_with (at_builtin; refine wpList_app tyeEn rfl _ _ rfl w.heap.size _ _ [x] rfl (hown.alloc' _) ⟨_, 0, none⟩ 1 1 rfl rfl ?c1 ?c2 ?c3 ?_)
      case c1 => exact cell_row_at _ _ _ _ rfl
      case c2 => have := hxs.out.1; simp only [List.length_singleton]; omega
      case c3 => have := hg.size; simp; omega
      intro v3 x3 hown3 hg4 _
      have hlt3 := fun k h => (hown.lt k h).1
      replace hs3 := str_own (hs3.alloc _) hg4 (fun k h => by have := hlt3 k h; omega)
      replace hg := gb_own (gb_alloc hg _) hg4 hlt3
      have hxs2 := Lib.hid (show (xs ++ [x]).length = k + 1 ∧ ∀ y ∈ xs ++ [x], y.p.R ∧ keyB y.nm = true from ⟨by rw [List.length_append, hxs.out.1]; rfl, fun y hy => by
        rcases List.mem_append.1 hy with hy | hy
        · exact hxs.out.2 y hy
        · rw [List.mem_singleton.1 hy]; exact hxG.out⟩)
      clear hg4 hlt3 hown hne B1
      go_wp2_with fail
      go_roundw
      case rel => exact ⟨k + 1, xs ++ [x], by omega, by go_num, hxs2, hown3, hs3, hg⟩
      case measure => simp [intOf]; omega
    · have hkm : k = m := by omega
      have hst' : Str wr b R := hst.le (by omega)
      obtain ⟨A, cap, hv, _⟩ := hown.sl
      subst hv
      have hz := hg.size
      have HS := Lib.hid (stableEn_any w.heap.size A xs.length cap _ rfl xs wr hown (fun x hx => (hxs.out.2 x hx).1) hz (by have := hxs.out.1; omega))
      obtain ⟨n, hn⟩ : ∃ n, n = xs.length := ⟨_, rfl⟩
      rw [← hn] at HS ⊢
      have hnm : n ≤ 7 := by have := hxs.out.1; omega
      replace hn := Lib.hid hn
      clear hst hown hlt
      go_wp2_with fail
      refine HS.out.mono ?_
      rintro e w4 ⟨rfl, qs, hp, hsrt, hown, hb4⟩
      have hs4 : Str w4 b R := hst'.upto fun j hj => hb4.block j (by omega)
      replace hg := gb_belT hg hb4 (Nat.le_refl _)
      have hql : n = qs.length := hn.out.trans hp.length_eq.symm
      have HC := Lib.hid (compactAllE_any w.heap.size A n cap qs w4 hown hql (by omega) hg.size)
      have hG := Lib.hid (fun zs (hz : CpE qs qs.length zs) (hl : zs.length ≤ qs.length) => tbG_of (fun x hx => hxs.out.2 x (hp.mem_iff.1 hx)) (by omega) hsrt hz hl)
      replace hql := Lib.hid hql
      clear HS hp hsrt hown hb4 hst'
      go_wp2_with fail
      refine HC.out.mono ?_
      rintro e w5 ⟨l, cap', zs, rfl, hS, hz5, hl5, hO, hb5⟩
      have hs5 : Str w5 b R := hs4.upto fun j hj => hb5.block j (by omega)
      replace hg := gb_belT hg hb5 (Nat.le_refl _)
      have hfin := Lib.hid (hG.out zs hz5 (by rw [← hS.1, ← hql.out]; exact hl5))
      replace hO := Lib.hid (show zs = [] ∨ ∃ g N, A = some ⟨g, 0, none⟩ ∧ OwnN w.heap.size w5 g N cap' zs by
        rcases hO with h | ⟨g, h1, h2⟩
        · exact .inl h
        · exact .inr ⟨g, n, h1, h2⟩)
      replace hS := Lib.hid hS
      clear HC hG hz5 hb5 hs4
      go_wp2_with fail
      go_ret
      exact ⟨A, l, cap', zs, rfl, hS.out, hfin.out, by omega, hO.out, hs5, hg⟩
end Go.Proofs.YtfpcalgkfagjkaaGreatDoor
