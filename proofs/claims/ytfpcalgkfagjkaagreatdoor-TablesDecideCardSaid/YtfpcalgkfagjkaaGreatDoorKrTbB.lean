/- Tables: entries as cells; the loop that looks for the most bits; what an address is told. -/
import Derived.Test.YtfpcalgkfagjkaaGreatDoorKrSvI
import Derived.Laws.EntriesVeiled
import Derived.Test.YtfpcalgkfagjkaaGreatDoorKrSvB
import Derived.Test.YtfpcalgkfagjkaaGreatDoorKrSuD
import Derived.Test.YtfpcalgkfagjkaaGreatDoorKrWaysB
import Derived.Lib.AppendZerosOnto
import Derived.Laws.AppendOwnNone
import Derived.Test.YtfpcalgkfagjkaaGreatDoorKrPfxE
import Derived.Test.YtfpcalgkfagjkaaGreatDoorKrStH
import Derived.Test.YtfpcalgkfagjkaaGreatDoorKrStE
set_option linter.unusedVariables false
set_option linter.unusedSimpArgs false
set_option maxRecDepth 100000
namespace Go.Proofs.YtfpcalgkfagjkaaGreatDoor
open Go.RowKit


structure Kp (kf : Nat) (k : Bool → Bool → Bool) : Prop where
  run : ∀ p q W, Calls Tryz.prog kf #[.bool p, .bool q] W (GivesV (.bool (k p q)) W)
  enter : ∀ args w, (callFunc kf args).run Tryz.prog w = .ok (.enter kf args) w




def Stg (zs : List (Ad × Ad)) (k : Nat) (out : List (Ad × Ad)) : Prop :=
  if k = 0 then out = [] else out.Pairwise (fun x y => x.2.n + 1 < y.1.n) ∧ (∀ y ∈ out, RgR y ∧ y.2.n ≤ topN (decide (k = 2))) ∧ (∀ m, InA out m ↔ Val m ∧ m ≤ topN (decide (k = 2)) ∧ ¬ InA zs m) ∧ out.length ≤ k * (zs.length + 1)
theorem Stg.next {zs : List (Ad × Ad)} (hR : ∀ z ∈ zs, RgR z) (hp : zs.Pairwise (fun x y => x.2.n + 1 < y.1.n)) {k : Nat} (hk : k < 2) {a : Nat} {dn : Bool} {out : List (Ad × Ad)} (h : GapI zs (decide (k = 1)) zs.length a dn out (k * (zs.length + 1))) :
    Stg zs (k + 1) (if dn then out else out ++ [(adOf a, adOf (topN (decide (k = 1))))]) := by
  obtain ⟨out', rfl, h1, h2, h3, h4⟩ := h.ends hR hp
  have e : decide (k + 1 = 2) = decide (k = 1) := by rw [decide_eq_decide]; omega
  unfold Stg
  rw [if_neg (by omega), e]
  exact ⟨h1, h2, h3, by rw [Nat.succ_mul]; omega⟩
theorem Stg.done {zs out : List (Ad × Ad)} (h : Stg zs 2 out) : Tells out (fun m => Val m ∧ ¬ InA zs m) ∧ out.length ≤ 2 * (zs.length + 1) :=
  ⟨gaps_told h.1 h.2.1 h.2.2.1, h.2.2.2⟩




theorem inA_rgP {ps : List Pf} (hR : ∀ p ∈ ps, p.R) (m : Nat) : InA (ps.map rgP) m ↔ ∃ p ∈ ps, InB (blk p) m := by
  unfold InA InB
  constructor
  · rintro ⟨x, hx, h1, h2⟩
    obtain ⟨p, hp, rfl⟩ := List.mem_map.1 hx
    have hn := rgP_n (hR p hp)
    have hpos := Nat.two_pow_pos (freeB p)
    have h1' : p.1.n ≤ m := h1
    exact ⟨p, hp, h1', by show m < p.1.n + 2 ^ freeB p; omega⟩
  · rintro ⟨p, hp, h1, h2⟩
    have hn := rgP_n (hR p hp)
    have hpos := Nat.two_pow_pos (freeB p)
    have h2' : m < p.1.n + 2 ^ freeB p := h2
    exact ⟨rgP p, List.mem_map_of_mem hp, h1, by omega⟩

def inQ (p : Pf) (m : Nat) : Bool := decide ((blk p).1 ≤ m ∧ m < (blk p).1 + 2 ^ (blk p).2)
def inS (ps : List Pf) (m : Nat) : Bool := ps.any fun p => inQ p m
theorem contains_n (p : Pf) (a : Ad) (w : World) (hp : p.R) (ha : a.R) : Calls Tryz.prog 61 #[pfA p, adA a] w (GivesV (.bool (inQ p a.n)) w) := by
  unfold inQ
  rw [← ctP_eq hp ha]
  exact contains_any p.1.s p.1.hi p.1.lo p.2 a.s a.hi a.lo w hp.1.1.1.1 hp.1.1.1.2 hp.1.1.2.1 hp.1.1.2.2 ha.1.1.1 ha.1.1.2 ha.1.2.1 ha.1.2.2 hp.2.1 hp.2.2.1
theorem hdP_eq {p : Pf} {a : Ad} (hp : p.R) (ha : a.R) : hdB (num p.1.hi p.1.lo) (lenZ p.1.s - p.2).toNat p.1.s (num a.hi a.lo) a.s = inQ p a.n := by
  rw [hdB_eq]
  show (p.1.s == a.s && decide (p.1.v ≤ a.v ∧ a.v ≤ fil p.1.v (freeB p))) = decide (p.1.n ≤ a.n ∧ a.n < p.1.n + 2 ^ freeB p)
  rw [fil_blk hp]
  have hpos := Nat.two_pow_pos (freeB p)
  have h1 : p.1.n = s2n p.1.s + p.1.v := rfl
  have h2 : a.n = s2n a.s + a.v := rfl
  have h3 := rg_fam (rgP_R hp)
  have h4 := rgP_n hp
  have h5 : (rgP p).1 = p.1 := rfl
  have h6 := ad_fam ha
  rw [h5] at h3
  rw [Bool.eq_iff_iff, Bool.and_eq_true, beq_iff_eq, decide_eq_true_iff, decide_eq_true_iff]
  constructor
  · rintro ⟨e, k1, k2⟩
    rw [h1, h2, e]
    omega
  · rintro ⟨k1, k2⟩
    have e : p.1.s = a.s := rg_fam_of (rgP_R hp) h6.1 h6.2 k1 (by omega)
    rw [h1, h2, e] at k1
    rw [h1, h2, e] at k2
    exact ⟨e, by omega, by omega⟩
theorem holds_n (p : Pf) (a : Ad) (w : World) (hp : p.R) (ha : a.R) : Calls Tryz.prog 40 #[pfA p, adA a] w (GivesV (.bool (inQ p a.n)) w) := by
  rw [← hdP_eq hp ha]
  exact holds_any p.1.s p.1.hi p.1.lo p.2 a.s a.hi a.lo w hp.1.1.1.1 hp.1.1.1.2 hp.1.1.2.1 hp.1.1.2.2 ha.1.1.1 ha.1.1.2 ha.1.2.1 ha.1.2.2 hp.2.1 hp.2.2.1


theorem Ad.R.u {a : Ad} (h : a.R) : a.U := h.1
theorem inS_iff {ps : List Pf} (hR : ∀ p ∈ ps, Pf.R p) (m : Nat) : inS ps m = true ↔ InA (ps.map rgP) m := by
  rw [inA_rgP hR]
  unfold inS
  rw [List.any_eq_true]
  constructor
  · rintro ⟨p, hp, h⟩
    unfold inQ at h
    have h' := of_decide_eq_true h
    exact ⟨p, hp, h'⟩
  · rintro ⟨p, hp, h⟩
    have h' : (blk p).1 ≤ m ∧ m < (blk p).1 + 2 ^ (blk p).2 := h
    exact ⟨p, hp, by unfold inQ; exact decide_eq_true h'⟩

structure En where
  p : Pf
  nm : List UInt8
def bestF (f : Pf → Bool) : List En → List UInt8 × Int → List UInt8 × Int
  | [], s => s
  | x :: r, s => bestF f r (if s.2 < x.p.2 ∧ f x.p = true then (x.nm, x.p.2) else s)
def longF (f : Pf → Bool) (t : List En) : List UInt8 := (bestF f t ([], -1)).1
theorem bestF_spec (f : Pf → Bool) : ∀ (t : List En) (s : List UInt8 × Int),
    ((∀ x ∈ t, f x.p = true → x.p.2 ≤ s.2) ∧ bestF f t s = s) ∨ ∃ x ∈ t, f x.p = true ∧ s.2 < x.p.2 ∧ (∀ y ∈ t, f y.p = true → y.p.2 ≤ x.p.2) ∧ bestF f t s = (x.nm, x.p.2)
  | [], s => .inl ⟨fun x hx => (by cases hx), rfl⟩
  | x :: r, s => by
    by_cases h : s.2 < x.p.2 ∧ f x.p = true
    · rw [bestF, if_pos h]
      rcases bestF_spec f r (x.nm, x.p.2) with ⟨h1, h2⟩ | ⟨y, hy, h1, h2, h3, h4⟩
      · refine .inr ⟨x, List.mem_cons_self, h.2, h.1, fun y hy hf => ?_, h2⟩
        rcases List.mem_cons.1 hy with rfl | hy
        · exact Int.le_refl _
        · exact h1 y hy hf
      · have h2' : x.p.2 < y.p.2 := h2
        refine .inr ⟨y, List.mem_cons_of_mem _ hy, h1, by omega, fun z hz hf => ?_, h4⟩
        rcases List.mem_cons.1 hz with rfl | hz
        · omega
        · exact h3 z hz hf
    · rw [bestF, if_neg h]
      rcases bestF_spec f r s with ⟨h1, h2⟩ | ⟨y, hy, h1, h2, h3, h4⟩
      · refine .inl ⟨fun z hz hf => ?_, h2⟩
        rcases List.mem_cons.1 hz with rfl | hz
        · exact Int.not_lt.1 fun k => h ⟨k, hf⟩
        · exact h1 z hz hf
      · refine .inr ⟨y, List.mem_cons_of_mem _ hy, h1, h2, fun z hz hf => ?_, h4⟩
        rcases List.mem_cons.1 hz with rfl | hz
        · have := Int.not_lt.1 fun k => h ⟨k, hf⟩
          omega
        · exact h3 z hz hf
theorem longF_spec (f : Pf → Bool) (t : List En) (h0 : ∀ x ∈ t, 0 ≤ x.p.2) :
    ((∀ x ∈ t, f x.p = false) ∧ longF f t = []) ∨ ∃ x ∈ t, f x.p = true ∧ (∀ y ∈ t, f y.p = true → y.p.2 ≤ x.p.2) ∧ longF f t = x.nm := by
  unfold longF
  rcases bestF_spec f t ([], -1) with ⟨h1, h2⟩ | ⟨x, hx, h1, _, h3, h4⟩
  · refine .inl ⟨fun x hx => ?_, by rw [h2]⟩
    rw [Bool.eq_false_iff]
    intro k
    have h3 : x.p.2 ≤ -1 := h1 x hx k
    have := h0 x hx
    omega
  · exact .inr ⟨x, hx, h1, h3, by rw [h4]⟩
theorem bestF_congr {f g : Pf → Bool} : ∀ (t : List En) (s : List UInt8 × Int), (∀ x ∈ t, f x.p = g x.p) → bestF f t s = bestF g t s
  | [], _, _ => rfl
  | x :: r, s, h => by
    rw [bestF, bestF, h x List.mem_cons_self]
    exact bestF_congr r _ fun y hy => h y (List.mem_cons_of_mem _ hy)
theorem longF_congr {f g : Pf → Bool} {t : List En} (h : ∀ x ∈ t, f x.p = g x.p) : longF f t = longF g t := by
  unfold longF; rw [bestF_congr t _ h]

def supB (p q : Pf) : Bool := decide (q ≠ p) && insP p q
instance : DecidableEq Ad := fun a b => by
  cases a; cases b
  exact decidable_of_iff (_ ∧ _ ∧ _) (by rw [Ad.mk.injEq])
def fM (m : Nat) (B : Int) (p : Pf) : Bool := inQ p m && decide (p.2 < B)
theorem same_fam {x y : Pf} (hx : x.R) (hy : y.R) {m : Nat} (hm : inQ x m = true) (hm' : inQ y m = true) : x.1.s = y.1.s := by
  have h1 := rg_fam (rgP_R hx)
  have h2 := rg_fam (rgP_R hy)
  have n1 := rgP_n hx
  have n2 := rgP_n hy
  have p1 := Nat.two_pow_pos (freeB x)
  have p2 := Nat.two_pow_pos (freeB y)
  have k1 : x.1.n ≤ m ∧ m < x.1.n + 2 ^ freeB x := of_decide_eq_true hm
  have k2 : y.1.n ≤ m ∧ m < y.1.n + 2 ^ freeB y := of_decide_eq_true hm'
  have e1 : (rgP x).1 = x.1 := rfl
  have e2 : (rgP y).1 = y.1 := rfl
  rw [e1] at h1
  rw [e2] at h2
  generalize 2 ^ freeB x = T at *
  generalize 2 ^ freeB y = U at *
  exact fam_one (m := m) (by omega) (by omega) (by omega) (by omega)
theorem one_of {x y : Pf} (hx : x.R) (hy : y.R) {m : Nat} (hm : inQ x m = true) (hm' : inQ y m = true) (hb : x.2 = y.2) : x = y := by
  have hs := same_fam hx hy hm hm'
  have hf := (free_bits hx hy hs).2.1 hb
  have k1 : x.1.n ≤ m ∧ m < x.1.n + 2 ^ freeB x := of_decide_eq_true hm
  have k2 : y.1.n ≤ m ∧ m < y.1.n + 2 ^ freeB y := of_decide_eq_true hm'
  have a1 : 2 ^ freeB x ∣ x.1.n := hx.blk_ok.1
  have a2 : 2 ^ freeB y ∣ y.1.n := hy.blk_ok.1
  rw [← hf] at k2 a2
  have d1 := dy_in a1 a2 (Nat.le_refl _) k1.1 k1.2 k2.1 k2.2
  have hn : x.1.n = y.1.n := by
    generalize 2 ^ freeB x = T at *
    omega
  have he : x.1 = y.1 := by rw [← adOf_of hx.1.1, ← adOf_of hy.1.1, hn]
  exact Prod.ext he hb
theorem sup_iff {x y : Pf} (hx : x.R) (hy : y.R) {m : Nat} (hm : inQ x m = true) : supB x y = fM m x.2 y := by
  have k1 : x.1.n ≤ m ∧ m < x.1.n + 2 ^ freeB x := of_decide_eq_true hm
  have a1 : 2 ^ freeB x ∣ x.1.n := hx.blk_ok.1
  have a2 : 2 ^ freeB y ∣ y.1.n := hy.blk_ok.1
  unfold supB fM
  rw [insP_eq hx hy]
  have px := Nat.two_pow_pos (freeB x)
  rw [Bool.eq_iff_iff, Bool.and_eq_true, Bool.and_eq_true, decide_eq_true_iff, decide_eq_true_iff, decide_eq_true_iff]
  constructor
  · rintro ⟨hne, h1, h2, h3⟩
    have h1' : y.1.n ≤ x.1.n := h1
    have h2' : x.1.n < y.1.n + 2 ^ freeB y := h2
    have h3' : freeB x ≤ freeB y := h3
    have d := dy_in a2 a1 h3' h1' h2' (Nat.le_refl _) (by omega)
    have hmy : inQ y m = true := decide_eq_true ⟨by show y.1.n ≤ m; omega, by show m < y.1.n + 2 ^ freeB y; generalize 2 ^ freeB x = T at *; generalize 2 ^ freeB y = U at *; omega⟩
    refine ⟨hmy, ?_⟩
    have hs := same_fam hx hy hm hmy
    have hb := (free_bits hx hy hs).1.2 h3'
    have hnb : x.2 ≠ y.2 := fun e => hne (one_of hx hy hm hmy e).symm
    omega
  · rintro ⟨hmy, hb⟩
    have hs := same_fam hx hy hm hmy
    have h3' : freeB x ≤ freeB y := (free_bits hx hy hs).1.1 (by omega)
    have k2 : y.1.n ≤ m ∧ m < y.1.n + 2 ^ freeB y := of_decide_eq_true hmy
    have d := dy_in a2 a1 h3' k2.1 k2.2 k1.1 k1.2
    refine ⟨fun e => by rw [e] at hb; omega, ?_, ?_, h3'⟩
    · show y.1.n ≤ x.1.n
      exact d.1
    · show x.1.n < y.1.n + 2 ^ freeB y
      have := d.2
      omega
theorem inQ_self (x : Pf) : inQ x x.1.n = true := decide_eq_true ⟨Nat.le_refl _, by have := Nat.two_pow_pos (blk x).2; show x.1.n < x.1.n + _; omega⟩

structure TbD (t : List En) : Prop where
  r : ∀ x ∈ t, x.p.R
  d : ∀ x ∈ t, ∀ y ∈ t, x.p = y.p → x = y
theorem TbD.bits {t : List En} (h : TbD t) : ∀ x ∈ t, 0 ≤ x.p.2 := fun x hx => (h.r x hx).2.1
def lookT (t : List En) (m : Nat) : List UInt8 := longF (fun p => inQ p m) t
def aroT (t : List En) (x : En) : List UInt8 := longF (supB x.p) t
def sqT (t : List En) : List En := t.filter fun x => decide (aroT t x ≠ x.nm)
theorem aro_fM {t u : List En} (h : TbD t) (hu : ∀ y ∈ u, y ∈ t) {x : En} (hx : x ∈ t) {m : Nat} (hm : inQ x.p m = true) : longF (supB x.p) u = longF (fM m x.p.2) u :=
  longF_congr fun y hy => sup_iff (h.r x hx) (h.r y (hu y hy)) hm
theorem inQ_has {p : Pf} (hp : p.R) (m : Nat) : inQ p m = hasB [rgP p] m := by
  have h := inS_iff (ps := [p]) (fun q hq => by rw [List.mem_singleton.1 hq]; exact hp) m
  have e : inS [p] m = inQ p m := by unfold inS; simp
  rw [e, ← hasB_iff] at h
  exact Bool.eq_iff_iff.2 h
theorem cuts_say {t u : List En} (ht : ∀ x ∈ t, x.p.R) (hu : ∀ x ∈ u, x.p.R) {cs : List Ad} (h : Cut cs)
    (h1 : ∀ x ∈ t.map (fun e => rgP e.p) ++ u.map (fun e => rgP e.p), ∃ c ∈ cs, c.n = x.1.n) (h2 : ∀ x ∈ t.map (fun e => rgP e.p) ++ u.map (fun e => rgP e.p), x.2.n ≠ topN x.2.s → ∃ c ∈ cs, c.n = x.2.n + 1)
    {m : Nat} (hm : Val m) (hs : ∀ c ∈ cs, c.n ≤ m → lookT t c.n = lookT u c.n) : lookT t m = lookT u m := by
  obtain ⟨i, a, hi, ha1, ha2⟩ := cut_cover h hm
  have key : ∀ l : List En, (∀ x ∈ l, x.p.R) → (∀ x ∈ l, rgP x.p ∈ t.map (fun e => rgP e.p) ++ u.map (fun e => rgP e.p)) → lookT l m = lookT l a.n := fun l hl hin => longF_congr fun x hx => by
    rw [inQ_has (hl x hx), inQ_has (hl x hx)]
    refine cut_same h (fun y hy => by rw [List.mem_singleton.1 hy]; exact rgP_R (hl x hx)) (fun y hy => ?_) (fun y hy => ?_) hi ha1 ha2
    · rw [List.mem_singleton.1 hy]; exact h1 _ (hin x hx)
    · rw [List.mem_singleton.1 hy]; exact h2 _ (hin x hx)
  rw [key t ht (fun x hx => List.mem_append_left _ (List.mem_map_of_mem hx)), key u hu (fun x hx => List.mem_append_right _ (List.mem_map_of_mem hx))]
  exact hs a (List.mem_of_getElem? hi) ha1

def enC (x : En) : List Value := [.bool x.p.1.s, .int .u64 x.p.1.hi, .int .u64 x.p.1.lo, .int .i64 x.p.2, .string ⟨x.nm.toArray⟩]
abbrev enA (x : En) : Value := .agg (enC x).toArray
theorem enC_len (x : En) : (enC x).length = 5 := rfl
theorem enC_one (x : En) : ∀ v ∈ enC x, v.oneCell' = true := by intro v hv; simp [enC] at hv; rcases hv with rfl | rfl | rfl | rfl | rfl <;> rfl
def eEn : Enc En := ⟨enC, 5, by decide, enC_len, enC_one⟩
section
variable (ρ : Operand → Value) (dst : Option Tmp) (x y : Operand) (ty : TypeId) (pos : String) (after : Array Edge) (guard : Option (Nat × Bool))
@[go_sem ↓ high] theorem execOp_ldEn : execOp ρ ⟨dst, .load 37 x, ty, pos, after, guard⟩ = ldT 37 (ρ x) := rfl
@[go_sem high] theorem execOp_ldEn' : execOp ρ ⟨dst, .load 37 x, ty, pos, after, guard⟩ = ldT 37 (ρ x) := rfl
@[go_sem ↓ high] theorem execOp_stEn : execOp ρ ⟨dst, .store 37 x y, ty, pos, after, guard⟩ = stT 37 (ρ x) (ρ y) := rfl
@[go_sem high] theorem execOp_stEn' : execOp ρ ⟨dst, .store 37 x y, ty, pos, after, guard⟩ = stT 37 (ρ x) (ρ y) := rfl
end
theorem rowEn : RowT 37 5 := ⟨⟨_, Tryz.underlying37, rfl⟩, by kernel_rfl⟩

theorem best_step (f : Pf → Bool) (t : List En) (k : Nat) (x : En) (hx : t[k]? = some x) (s : List UInt8 × Int) :
    bestF f (t.drop k) s = bestF f (t.drop (k + 1)) (if s.2 < x.p.2 ∧ f x.p = true then (x.nm, x.p.2) else s) := by
  obtain ⟨hk, hpe⟩ := List.getElem?_eq_some_iff.1 hx
  rw [List.drop_eq_getElem_cons hk, hpe]
  rfl

set_option maxHeartbeats 4000000 in
theorem longestT_any (kf g : Nat) (f : Pf → Bool) (A : Option Addr) (n cap : Nat) (t : List En) (w : World) (hS : SlE eEn w A n cap t) (hn : n ≤ 100000) (hR : ∀ x ∈ t, x.p.R)
    (HF : ∀ p W, p.R → Below w.heap.size w W → Calls Tryz.prog kf #[pfA p, .pointer (some ⟨g, 0, none⟩)] W (GivesV (.bool (f p)) W)) (eg : ∀ args w, (callFunc kf args).run Tryz.prog w = .ok (.enter kf args) w) :
    Calls Tryz.prog 29 #[.slice A n cap, .func (.func kf) #[] #[.pointer (some ⟨g, 0, none⟩)]] w (GivesV (.string ⟨(longF f t).toArray⟩) w) := by
  have hnl := Lib.hid hS.1
  replace hS := Lib.hid hS
  replace hR := Lib.hid hR
  replace HF := Lib.hid HF
  go_enter Tryz.func29, Tryz.ntmps29
  go_wp2_with fail
  go_loopw [5, 6, 11] (fun vt vm vi wr => ∃ (k : Nat) (nm : List UInt8) (mo : Int), k ≤ n ∧ vi = .int .i64 k ∧ vt = .string ⟨nm.toArray⟩ ∧ vm = .int .i64 mo ∧ Hid (bestF f (t.drop k) (nm, mo) = bestF f t ([], -1)) ∧ Below w.heap.size w wr) (fun _ _ vi _ => n - (intOf vi).toNat)
  case atStart => exact ⟨0, [], -1, by omega, rfl, rfl, rfl, Lib.hid rfl, Below.refl _ _⟩
  case round =>
    obtain ⟨k, nm, mo, hk, rfl, rfl, rfl, hI, hbw⟩ := hrel
    by_cases hlt : k < n
    · obtain ⟨x, hx⟩ : ∃ x, t[k]? = some x := ⟨t[k]'(by have := hnl.out; omega), List.getElem?_eq_getElem _⟩
      obtain ⟨g0, off, rfl, _, _⟩ := hS.out.at' hlt
      have hld := SlE.ld rowEn (hS.out.below hbw) hx
      replace hld : (ldT 37 (.pointer (some ⟨g0, off + k * 5, none⟩))).run Tryz.prog wr = .ok (.value (enA x)) wr := hld
      have hxR := hR.out x (List.mem_of_getElem? hx)
      have hlt' : (k : Int) < n := by omega
      have hsw := hbw.size
      have hstep := Lib.hid (best_step f t k x hx (nm, mo))
      have HFx := Lib.hid (fun W hW => HF.out x.p W hxR hW)
      have S1 := stT_new rowEn (te := 37) wr wr.heap.size rfl [.bool false, .int .u64 0, .int .u64 0, .int .i64 0, .string ⟨#[]⟩] (enC x) rfl rfl (enC_one x)
      clear hx hxR
      have hC := Blk.new wr (enC x) 37
      replace hbw := hbw.alloc hsw (.cells (enC x).toArray 37)
      have c3 := hC.cell (i := 3) (v := .int .i64 x.p.2) rfl
      by_cases hm : mo < x.p.2
      · have lp := hC.ldAt rowPf 0 (pfC x.p) [.string ⟨x.nm.toArray⟩] rfl rfl
        obtain ⟨V, hV⟩ : ∃ V, V = f x.p := ⟨_, rfl⟩
        rw [← hV] at HFx hstep
        replace hV := Lib.hid hV
        have hmh := Lib.hid hm
        go_wp2_with fail
        refine (HFx.out _ hbw).mono ?_
        rintro e w1 ⟨rfl, hv⟩
        replace hC := hC.below hv
        replace hbw := hbw.trans (hv.mono hbw.size)
        clear hv hld S1 HFx lp c3
        cases V with
        | true =>
          have c3 := hC.cell (i := 3) (v := .int .i64 x.p.2) rfl
          have c4 := hC.cell (i := 4) (v := .string ⟨x.nm.toArray⟩) rfl
          have hI2 := Lib.hid (show bestF f (t.drop (k + 1)) (x.nm, x.p.2) = bestF f t ([], -1) by
            have h := hstep.out
            rw [if_pos ⟨hmh.out, rfl⟩] at h
            rw [← h]; exact hI.out)
          clear hstep
          go_wp2_with fail
          go_quiet (fail)
          go_wp2_with fail
          go_roundw
          case rel => exact ⟨k + 1, x.nm, x.p.2, by omega, by go_num, rfl, rfl, hI2, ⟨hbw.os, hbw.tape, hbw.output, hbw.size, hbw.block⟩⟩
          case measure => simp [intOf]; omega
        | false =>
          have hI2 := Lib.hid (show bestF f (t.drop (k + 1)) (nm, mo) = bestF f t ([], -1) by
            have h := hstep.out
            rw [if_neg (fun k => by cases k.2)] at h
            rw [← h]; exact hI.out)
          clear hstep
          go_wp2_with fail
          go_roundw
          case rel => exact ⟨k + 1, nm, mo, by omega, by go_num, rfl, rfl, hI2, hbw⟩
          case measure => simp [intOf]; omega
      · have hI2 := Lib.hid (show bestF f (t.drop (k + 1)) (nm, mo) = bestF f t ([], -1) by
          have h := hstep.out
          rw [if_neg (fun k => hm k.1)] at h
          rw [← h]; exact hI.out)
        clear hstep HFx
        go_wp2_with fail
        go_roundw
        case rel => exact ⟨k + 1, nm, mo, by omega, by go_num, rfl, rfl, hI2, hbw⟩
        case measure => simp [intOf]; omega
    · have hfin := Lib.hid (show longF f t = nm by
        have h := hI.out
        rw [List.drop_of_length_le (by have := hnl.out; omega)] at h
        unfold longF
        rw [← h]; rfl)
      have hnlt : ¬ (k : Int) < n := by omega
      clear hI
      go_wp2_with fail
      go_ret
      exact ⟨by rw [hfin.out]; rfl, hbw⟩

theorem looks_any (p : Pf) (a : Ad) (g : Nat) (w : World) (hp : p.R) (ha : a.R) (h : Blk w g (adC a) 30) :
    Calls Tryz.prog 60 #[pfA p, .pointer (some ⟨g, 0, none⟩)] w (GivesV (.bool (inQ p a.n)) w) := by
  have HC := fun w' => Lib.hid (contains_n p a w' hp ha)
  generalize inQ p a.n = V at *
  have hC := Blk.new w (pfC p) 35
  have hbw : Below w.heap.size w (w.alloc (.cells (pfC p).toArray 35)) := (Below.refl _ _).alloc (Nat.le_refl _) _
  replace h := Blk.below h hbw
  have k1 := hC.ld rowPf rfl
  have k2 := h.ld rowAd rfl
  clear hp ha
  go_enter Tryz.func60, Tryz.ntmps60
  go_wp2_with fail
  refine (HC _).out.mono ?_
  rintro e w1 ⟨rfl, hb1⟩
  replace hbw := hbw.trans (hb1.mono hbw.size)
  go_wp2_with fail
  go_ret
  exact ⟨rfl, hbw⟩

theorem look_any (a : Ad) (A : Option Addr) (n cap : Nat) (t : List En) (w : World) (hS : SlE eEn w A n cap t) (hn : n ≤ 100000) (hR : ∀ x ∈ t, x.p.R) (ha : a.R) :
    Calls Tryz.prog 28 #[.slice A n cap, adA a] w (GivesV (.string ⟨(lookT t a.n).toArray⟩) w) := by
  have h1 := Blk.new w (adC a) 30
  have hbw : Below w.heap.size w (w.alloc (.cells (adC a).toArray 30)) := (Below.refl _ _).alloc (Nat.le_refl _) _
  have H := Lib.hid (longestT_any 60 w.heap.size (fun p => inQ p a.n) A n cap t _ (hS.below hbw) hn hR (fun p W hp hW => looks_any p a _ W hp ha (Blk.below h1 hW)) (enters_of Tryz.func60 (by kernel_rfl) rfl))
  have e : longF (fun p => inQ p a.n) t = lookT t a.n := rfl
  rw [e] at H
  clear hS hR ha h1 e
  generalize (⟨(lookT t a.n).toArray⟩ : ByteArray) = V at *
  go_enter Tryz.func28, Tryz.ntmps28
  go_wp2_with fail
  refine H.out.mono ?_
  rintro e w1 ⟨rfl, hb⟩
  replace hbw := hbw.trans (hb.mono hbw.size)
  go_wp2_with fail
  go_ret
  exact ⟨rfl, hbw⟩
end Go.Proofs.YtfpcalgkfagjkaaGreatDoor
