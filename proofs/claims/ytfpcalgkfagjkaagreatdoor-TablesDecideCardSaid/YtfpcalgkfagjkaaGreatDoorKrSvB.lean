/- Sets: how many blocks there are at most. -/
import Derived.Test.YtfpcalgkfagjkaaGreatDoorKrStP
import Derived.Test.YtfpcalgkfagjkaaGreatDoorKrStH
import Derived.Test.YtfpcalgkfagjkaaGreatDoorKrWaysB
import Derived.Deep.CutBlock
import Derived.Deep.DeepCutAuto
import Derived.Test.YtfpcalgkfagjkaaGreatDoorKrSiteA
set_option linter.unusedVariables false
set_option linter.unusedSimpArgs false
namespace Go.Proofs.YtfpcalgkfagjkaaGreatDoor
open Go.RowKit

theorem rgP_R {p : Pf} (h : p.R) : RgR (rgP p) := by
  have hpos := Nat.two_pow_pos (freeB p)
  obtain ⟨_, hok⟩ := h.blk_ok
  unfold OkB OkX blk at hok
  simp only at hok
  have hR : (adOf (p.1.n + 2 ^ freeB p - 1)).R := adOf_R (by rcases hok with g | g <;> omega)
  have hn : (adOf (p.1.n + 2 ^ freeB p - 1)).n = p.1.n + 2 ^ freeB p - 1 := adOf_n (by rcases hok with g | g <;> omega)
  refine ⟨h.1, hR, ?_, by show p.1.n ≤ (adOf (p.1.n + 2 ^ freeB p - 1)).n; omega⟩
  refine h.1.s_of hR ?_
  show p.1.n < 2 ^ 128 ↔ (adOf (p.1.n + 2 ^ freeB p - 1)).n < 2 ^ 128
  rcases hok with g | g <;> omega
theorem rgP_n {p : Pf} (h : p.R) : (rgP p).2.n = p.1.n + 2 ^ freeB p - 1 := by
  have hpos := Nat.two_pow_pos (freeB p)
  obtain ⟨_, hok⟩ := h.blk_ok
  unfold OkB OkX blk at hok
  simp only at hok
  exact adOf_n (by rcases hok with g | g <;> omega)


def rowA (x : Ad × Ad) : Nat × Nat := (x.1.n, x.2.n + 1)
theorem rowA_row {x : Ad × Ad} (h : RgR x) : Row (rowA x) := by
  obtain ⟨h1, h2, h3, h4⟩ := h
  refine ⟨by show x.1.n < x.2.n + 1; omega, ?_⟩
  unfold OkX rowA
  rcases h1.six with ⟨a1, a2, a3⟩ | ⟨a1, a2, a3⟩ <;> rcases h2.six with ⟨b1, b2, b3⟩ | ⟨b1, b2, b3⟩
  · left; show x.2.n + 1 ≤ 2 ^ 32; omega
  · rw [h3, b1] at a1; cases a1
  · rw [h3, b1] at a1; cases a1
  · right; exact ⟨by show 2 ^ 128 ≤ x.1.n; omega, by show x.2.n + 1 ≤ 2 ^ 129; omega⟩
theorem gb_setRow {w : World} {p : Nat} (cs : Array Value) : w.grownBy (w.setRow p cs) (some p) :=
  ⟨rfl, rfl, rfl, by simp, fun k hk hne => setRow_other _ _ _ _ (fun e => hne (by rw [e]))⟩

def GivesO {α : Type} (E : Enc α) (t : TypeId) (B : Nat) (ys : List α) (e : Ending) (w' : World) : Prop := ∃ v, e = .returned v ∧ OwnE E t B w' v ys

theorem Blk.gbo {w w' : World} {p : Nat} {o : Option Nat} {cs : List Value} {t : TypeId} (h : Blk w p cs t) (hg : w.grownBy w' o) (hne : o ≠ some p) : Blk w' p cs t := (hg.block p h.lt (fun e => hne e.symm)).trans h



def pfQQ (p q : Pf) : Bool := pfQ p.1.s q.1.s p.1.hi p.1.lo q.1.hi q.1.lo p.2 q.2
@[go_sem] theorem run_nePfA (x y : Operand) (p q : Pf) (w : World) : (nePf x y (.agg (pfC p).toArray) (.agg (pfC q).toArray)).run Tryz.prog w = .ok (.value (.bool (!pfQQ p q))) w :=
  run_nePf x y p.1.s q.1.s p.1.hi p.1.lo q.1.hi q.1.lo p.2 q.2 w
@[go_sem] theorem run_nePfE (x y : Operand) (p q : Pf) (w : World) : (nePf x y (.agg (ePf.enc p).toArray) (.agg (ePf.enc q).toArray)).run Tryz.prog w = .ok (.value (.bool (!pfQQ p q))) w := run_nePfA x y p q w
def rgQQ (x y : Ad × Ad) : Bool := adE x.1 y.1 && adE x.2 y.2
theorem adE_eq (a b : Ad) : adE a b = true ↔ a = b := by
  obtain ⟨s, hi, lo⟩ := a
  obtain ⟨t, hh, l⟩ := b
  unfold adE adQ
  simp only [Bool.and_eq_true, beq_iff_eq]
  constructor
  · rintro h
    obtain ⟨h1, h2, h3⟩ : s = t ∧ hi = hh ∧ lo = l := by simpa [and_assoc] using h
    subst h1; subst h2; subst h3; rfl
  · intro h
    injection h with h3 h4 h5
    subst h3; subst h4; subst h5
    simp
set_option maxHeartbeats 1000000 in
theorem rg_equalIn (x y : Ad × Ad) (w : World) : (Op.equalIn 10000 95 (.agg (rgC x).toArray) (.agg (rgC y).toArray)).run Tryz.prog w = .ok (rgQQ x y) w := by
  unfold rgC
  rw [show (10000 : Nat) = 9999 + 1 from rfl, run_equalIn_agg w 9999 95 _ _ (by kernel_rfl) (by kernel_rfl)]
  simp only [Program.fieldsOf, Tryz.underlying95]
  go_simp
  unfold rgQQ adE adQ
  (repeat' split) <;> simp_all
def neRg (x y : Operand) (a b : Value) : Sem Next := do
  let v ← (do eqGuard .neq 95 x y a b; binOp .neq 95 a b)
  pure (.value v)
@[go_sem ↓ high] theorem execOp_neRg' (ρ : Operand → Value) (dst : Option Tmp) (x y : Operand) (r ty : TypeId) (pos : String) (after : Array Edge) (guard : Option (Nat × Bool)) :
    execOp ρ ⟨dst, .binOp .neq 95 x y r, ty, pos, after, guard⟩ = neRg x y (ρ x) (ρ y) := rfl
@[go_sem high] theorem execOp_neRg (ρ : Operand → Value) (dst : Option Tmp) (x y : Operand) (r ty : TypeId) (pos : String) (after : Array Edge) (guard : Option (Nat × Bool)) :
    execOp ρ ⟨dst, .binOp .neq 95 x y r, ty, pos, after, guard⟩ = neRg x y (ρ x) (ρ y) := rfl
@[go_sem] theorem run_neRg (x y : Operand) (a b : Ad × Ad) (w : World) : (neRg x y (.agg (rgC a).toArray) (.agg (rgC b).toArray)).run Tryz.prog w = .ok (.value (.bool (!rgQQ a b))) w := by
  unfold neRg
  simp only [Sem.run_bind, run_neq_struct, rg_equalIn, run_eqGuard_agg _ _ _ _ _ _ _ Tryz.eqGuardType95, Result.andThen_ok, Sem.run_pure]
@[go_sem] theorem run_neRgE (x y : Operand) (a b : Ad × Ad) (w : World) : (neRg x y (.agg (eRg.enc a).toArray) (.agg (eRg.enc b).toArray)).run Tryz.prog w = .ok (.value (.bool (!rgQQ a b))) w := run_neRg x y a b w


open Classical in
theorem order_n (a b : Ad) (w : World) (ha : a.U) (hb : b.U) : Calls Tryz.prog 56 #[adA a, adA b] w (GivesV (.int .i64 (cmpN a.n b.n)) w) := by
  have := order_any a.s a.hi a.lo b.s b.hi b.lo w ha.1.1 ha.1.2 ha.2.1 ha.2.2 hb.1.1 hb.1.2 hb.2.1 hb.2.2
  rwa [show cmpW (num a.hi a.lo) a.s (num b.hi b.lo) b.s = cmpN a.n b.n from cmpW_cmpN ha hb] at this



def Val (m : Nat) : Prop := m < 2 ^ 32 ∨ (2 ^ 128 ≤ m ∧ m < 2 ^ 129)
def InA (xs : List (Ad × Ad)) (m : Nat) : Prop := ∃ x ∈ xs, x.1.n ≤ m ∧ m ≤ x.2.n
theorem inA_iff (xs : List (Ad × Ad)) (m : Nat) : InP (xs.map iv) (m : Int) ↔ InA xs m := by
  unfold InP InA
  constructor
  · rintro ⟨p, hp, h1, h2⟩
    obtain ⟨x, hx, rfl⟩ := List.mem_map.1 hp
    have h1' : (x.1.n : Int) ≤ m := h1
    have h2' : (m : Int) ≤ x.2.n := h2
    exact ⟨x, hx, by omega, by omega⟩
  · rintro ⟨x, hx, h1, h2⟩
    refine ⟨iv x, List.mem_map_of_mem hx, ?_, ?_⟩
    · show (x.1.n : Int) ≤ m; omega
    · show (m : Int) ≤ x.2.n; omega
theorem inP_pos {xs : List (Ad × Ad)} {k : Int} (h : InP (xs.map iv) k) : 0 ≤ k := by
  obtain ⟨p, hp, h1, _⟩ := h
  obtain ⟨x, _, rfl⟩ := List.mem_map.1 hp
  have : (x.1.n : Int) ≤ k := h1
  omega
theorem inA_nil (m : Nat) : ¬ InA [] m := by rintro ⟨x, hx, _⟩; cases hx
theorem inA_cons (x : Ad × Ad) (xs : List (Ad × Ad)) (m : Nat) : InA (x :: xs) m ↔ (x.1.n ≤ m ∧ m ≤ x.2.n) ∨ InA xs m := by
  unfold InA
  constructor
  · rintro ⟨y, hy, h⟩
    rcases List.mem_cons.1 hy with rfl | hy
    · exact .inl h
    · exact .inr ⟨y, hy, h⟩
  · rintro (h | ⟨y, hy, h⟩)
    · exact ⟨x, List.mem_cons_self, h⟩
    · exact ⟨y, List.mem_cons_of_mem _ hy, h⟩
theorem inA_append (xs ys : List (Ad × Ad)) (m : Nat) : InA (xs ++ ys) m ↔ InA xs m ∨ InA ys m := by
  unfold InA
  constructor
  · rintro ⟨y, hy, h⟩
    rcases List.mem_append.1 hy with hy | hy
    · exact .inl ⟨y, hy, h⟩
    · exact .inr ⟨y, hy, h⟩
  · rintro (⟨y, hy, h⟩ | ⟨y, hy, h⟩)
    · exact ⟨y, List.mem_append_left _ hy, h⟩
    · exact ⟨y, List.mem_append_right _ hy, h⟩
theorem inA_val {xs : List (Ad × Ad)} (h : ∀ x ∈ xs, RgR x) {m : Nat} (hm : InA xs m) : Val m := by
  obtain ⟨x, hx, h1, h2⟩ := hm
  obtain ⟨r1, r2, r3, r4⟩ := h x hx
  rcases r1.six with ⟨a1, a2, a3⟩ | ⟨a1, a2, a3⟩ <;> rcases r2.six with ⟨b1, b2, b3⟩ | ⟨b1, b2, b3⟩
  · exact .inl (by omega)
  · rw [a1, b1] at r3; cases r3
  · rw [a1, b1] at r3; cases r3
  · exact .inr (by omega)

def Tells (ys : List (Ad × Ad)) (P : Nat → Prop) : Prop := ys.Pairwise (fun x y => x.2.n + 1 < y.1.n) ∧ (∀ m, InA ys m ↔ P m) ∧ ∀ y ∈ ys, RgR y
theorem toP_rowA (ys : List (Ad × Ad)) : (ys.map rowA).map toP = ys.map iv := by
  rw [List.map_map]
  apply List.map_congr_left
  intro x _
  show ((x.1.n : Int), ((x.2.n + 1 : Nat) : Int) - 1) = ((x.1.n : Int), (x.2.n : Int))
  congr 1
  omega
theorem pairs_rowA {ys : List (Ad × Ad)} : (ys.map rowA).Pairwise (fun x y => x.2 < y.1) ↔ ys.Pairwise (fun x y => x.2.n + 1 < y.1.n) := by
  rw [List.pairwise_map]; rfl
theorem Tells.joined {ys xs : List (Ad × Ad)} (h : Tells ys (InA xs)) : Joined ys xs := by
  refine ⟨?_, fun k => ?_, h.2.2⟩
  · have h1 := rows_can (ys.map rowA) (fun x hx => by
      obtain ⟨y, hy, rfl⟩ := List.mem_map.1 hx
      exact rowA_row (h.2.2 y hy)) (pairs_rowA.2 h.1)
    rw [toP_rowA, ← List.map_reverse] at h1
    exact h1
  · constructor
    · intro hk
      obtain ⟨m, rfl⟩ := Int.eq_ofNat_of_zero_le (inP_pos hk)
      exact (inA_iff _ _).2 ((h.2.1 m).1 ((inA_iff _ _).1 hk))
    · intro hk
      obtain ⟨m, rfl⟩ := Int.eq_ofNat_of_zero_le (inP_pos hk)
      exact (inA_iff _ _).2 ((h.2.1 m).2 ((inA_iff _ _).1 hk))
theorem Tells.self {ys : List (Ad × Ad)} {P : Nat → Prop} (h : Tells ys P) : Tells ys (InA ys) := ⟨h.1, fun _ => Iff.rfl, h.2.2⟩
theorem Tells.unique {ys zs : List (Ad × Ad)} {P Q : Nat → Prop} (h : Tells ys P) (h' : Tells zs Q) (he : ∀ m, P m ↔ Q m) : ys = zs := by
  refine Joined.unique h.self.joined h'.self.joined (fun k => ?_)
  constructor
  · intro hk
    obtain ⟨m, rfl⟩ := Int.eq_ofNat_of_zero_le (inP_pos hk)
    exact (inA_iff _ _).2 ((h'.2.1 m).2 ((he m).1 ((h.2.1 m).1 ((inA_iff _ _).1 hk))))
  · intro hk
    obtain ⟨m, rfl⟩ := Int.eq_ofNat_of_zero_le (inP_pos hk)
    exact (inA_iff _ _).2 ((h.2.1 m).2 ((he m).2 ((h'.2.1 m).1 ((inA_iff _ _).1 hk))))

theorem apart_two : ∀ {l : List (Ad × Ad)}, l.Pairwise (fun x y => x.2.n + 1 < y.1.n) → ∀ {x y : Ad × Ad}, x ∈ l → y ∈ l → x ≠ y → x.2.n + 1 < y.1.n ∨ y.2.n + 1 < x.1.n
  | [], _, _, _, hx, _, _ => by cases hx
  | z :: t, hp, x, y, hx, hy, hne => by
    have hp' := List.pairwise_cons.1 hp
    rcases List.mem_cons.1 hx with rfl | hx'
    · rcases List.mem_cons.1 hy with rfl | hy'
      · exact absurd rfl hne
      · exact .inl (hp'.1 y hy')
    · rcases List.mem_cons.1 hy with rfl | hy'
      · exact .inr (hp'.1 x hx')
      · exact apart_two hp'.2 hx' hy' hne
theorem Tells.one {ys : List (Ad × Ad)} {P : Nat → Prop} (h : Tells ys P) : ∀ (n a : Nat), (∀ m, a ≤ m → m ≤ a + n → P m) → ∃ y ∈ ys, y.1.n ≤ a ∧ a + n ≤ y.2.n
  | 0, a, ha => (h.2.1 a).2 (ha a (Nat.le_refl _) (Nat.le_refl _))
  | n + 1, a, ha => by
    obtain ⟨x, hx, h1, h2⟩ := h.one n a (fun m hm1 hm2 => ha m hm1 (by omega))
    obtain ⟨y, hy, h3, h4⟩ := (h.2.1 (a + (n + 1))).2 (ha _ (by omega) (Nat.le_refl _))
    by_cases he : a + (n + 1) ≤ x.2.n
    · exact ⟨x, hx, h1, he⟩
    · exfalso
      have hne : x ≠ y := by rintro rfl; omega
      have hyr := (h.2.2 y hy).2.2.2
      rcases apart_two h.1 hx hy hne with k | k <;> omega
instance : DecidableEq Ad := fun a b => decidable_of_iff (a.s = b.s ∧ a.hi = b.hi ∧ a.lo = b.lo) (by cases a; cases b; simp)

theorem dy_in {a b i j t : Nat} (ha : 2 ^ i ∣ a) (hb : 2 ^ j ∣ b) (hj : j ≤ i) (h1 : a ≤ t) (h2 : t < a + 2 ^ i) (h3 : b ≤ t) (h4 : t < b + 2 ^ j) : a ≤ b ∧ b + 2 ^ j ≤ a + 2 ^ i := by
  obtain ⟨r, hr⟩ := Nat.pow_dvd_pow 2 hj
  obtain ⟨u, hu⟩ := Nat.dvd_trans (Nat.pow_dvd_pow 2 hj) ha
  obtain ⟨v, hv⟩ := hb
  have hp := Nat.two_pow_pos j
  generalize 2 ^ j = J at *
  generalize 2 ^ i = I at *
  subst hr hu hv
  have k1 : u ≤ v := by
    rcases Nat.lt_or_ge v u with h | h
    · have := Nat.mul_le_mul_left J (Nat.succ_le_of_lt h)
      rw [Nat.mul_succ] at this
      omega
    · exact h
  have k2 : v < u + r := by
    rcases Nat.lt_or_ge v (u + r) with h | h
    · exact h
    · have := Nat.mul_le_mul_left J h
      rw [Nat.mul_add] at this
      omega
  have k3 := Nat.mul_le_mul_left J k1
  have k4 := Nat.mul_le_mul_left J (Nat.succ_le_of_lt k2)
  rw [Nat.mul_succ, Nat.mul_add] at k4
  exact ⟨k3, k4⟩
def InB (b : Bk) (m : Nat) : Prop := b.1 ≤ m ∧ m < b.1 + 2 ^ b.2
end Go.Proofs.YtfpcalgkfagjkaaGreatDoor
