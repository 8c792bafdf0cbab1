/- Sets: the reference joins spans. -/
import Derived.Test.YtfpcalgkfagjkaaGreatDoorKrStJ
import Derived.Test.YtfpcalgkfagjkaaGreatDoorKrStG
import Derived.Test.YtfpcalgkfagjkaaGreatDoorKrWideD
import Derived.Test.YtfpcalgkfagjkaaGreatDoorKrPfxD
set_option linter.unusedVariables false
set_option linter.unusedSimpArgs false
set_option maxRecDepth 100000
namespace Go.Proofs.YtfpcalgkfagjkaaGreatDoor
open Go.RowKit

theorem results_row {fn : Func} {p : Tmp} {ty : TypeId} {k : Nat} (T : RowT ty k) (h : fn.results = #[.cell p ty]) (tmps : Array Value) (w : World) (g : Nat) (t : TypeId) (cs : List Value)
    (hp : tmps.getD p undef = .pointer (some ⟨g, 0, none⟩)) (hg : Blk w g cs t) (hl : cs.length = k) :
    (results fn tmps).run Tryz.prog w = .ok (.agg cs.toArray) w := by
  obtain ⟨d, hu, hd⟩ := T.row
  have := run_loadVar_mid (P := Tryz.prog) w g 0 ty cs d (hg.range 0 cs [] (by simp)) hu hd (by rw [T.size, hl])
  have hp' : tmps[p]?.getD undef = .pointer (some ⟨g, 0, none⟩) := by simpa using hp
  simp [results, h, hp', asAddr, this, Result.andThen]


def RgR (x : Ad × Ad) : Prop := x.1.R ∧ x.2.R ∧ x.1.s = x.2.s ∧ x.1.n ≤ x.2.n
def iv (x : Ad × Ad) : Pt := ((x.1.n : Int), (x.2.n : Int))
theorem RgR.n_lt {x : Ad × Ad} (h : RgR x) : x.1.n < 2 ^ 129 ∧ x.2.n < 2 ^ 129 := ⟨h.1.1.n_lt, h.2.1.1.n_lt⟩
theorem RgR.s_touch {x y : Ad × Ad} (hx : RgR x) (hy : RgR y) (hs : x.1.n ≤ y.1.n) (ht : y.1.n ≤ x.2.n + 1) : x.1.s = y.1.s := by
  obtain ⟨h1, h2, h3, h4⟩ := hx
  obtain ⟨k1, k2, k3, k4⟩ := hy
  rcases h1.six with ⟨a1, a2, a3⟩ | ⟨a1, a2, a3⟩ <;> rcases k1.six with ⟨b1, b2, b3⟩ | ⟨b1, b2, b3⟩
  · rw [a1, b1]
  · exfalso
    rcases h2.six with ⟨c1, c2, c3⟩ | ⟨c1, c2, c3⟩
    · omega
    · rw [h3, c1] at a1; cases a1
  · omega
  · rw [a1, b1]

def joinA (J : List (Ad × Ad)) (x : Ad × Ad) : List (Ad × Ad) := match J with
  | [] => [x]
  | y :: r => if y.2.n + 1 < x.1.n then x :: y :: r else (y.1, if y.2.n < x.2.n then x.2 else y.2) :: r
theorem map_joinA (J : List (Ad × Ad)) (x : Ad × Ad) : (joinA J x).map iv = joinS (J.map iv) (iv x) := by
  cases J with
  | nil => rfl
  | cons y r =>
    unfold joinA joinS
    simp only [List.map_cons]
    by_cases h : y.2.n + 1 < x.1.n
    · rw [if_pos h, if_pos (show (iv y).2 + 1 < (iv x).1 by show (y.2.n : Int) + 1 < (x.1.n : Int); omega)]
      rfl
    · rw [if_neg h, if_neg (show ¬ (iv y).2 + 1 < (iv x).1 by show ¬ (y.2.n : Int) + 1 < (x.1.n : Int); omega)]
      rw [List.map_cons]
      congr 1
      apply Prod.ext
      · rfl
      · show (((if y.2.n < x.2.n then x.2 else y.2).n : Nat) : Int) = max (y.2.n : Int) (x.2.n : Int)
        by_cases g : y.2.n < x.2.n
        · rw [if_pos g]; omega
        · rw [if_neg g]; omega
def JA (J P : List (Ad × Ad)) : Prop := JoinI (J.map iv) (P.map iv) (2 ^ 129) ∧ ∀ y ∈ J, RgR y
theorem JA.nil : JA [] [] := ⟨⟨trivial, fun k => Iff.rfl, fun q r e => by cases e⟩, fun y hy => by cases hy⟩
theorem JA.first {P : List (Ad × Ad)} {y x : Ad × Ad} {r : List (Ad × Ad)} (h : JA (y :: r) P) (hs : ∀ z ∈ P, z.1.n ≤ x.1.n) : y.1.n ≤ x.1.n := by
  obtain ⟨z, hz, hyz⟩ := h.1.2.2 (iv y) (r.map iv) rfl
  obtain ⟨z, hz', rfl⟩ := List.mem_map.1 hz
  have := hs z hz'
  have h1 : (y.1.n : Int) ≤ (z.1.n : Int) := hyz
  omega
theorem JA.step {J P : List (Ad × Ad)} {x : Ad × Ad} (h : JA J P) (hx : RgR x) (hs : ∀ z ∈ P, z.1.n ≤ x.1.n) : JA (joinA J x) (P ++ [x]) := by
  have hlt := hx.n_lt
  refine ⟨?_, ?_⟩
  · rw [map_joinA, List.map_append, List.map_cons, List.map_nil]
    refine joinS_keeps h.1 ⟨?_, ?_⟩ (fun z hz => ?_)
    · show (x.1.n : Int) ≤ (x.2.n : Int)
      have := hx.2.2.2
      omega
    · show (x.2.n : Int) < 2 ^ 129
      omega
    · obtain ⟨z, hz', rfl⟩ := List.mem_map.1 hz
      have := hs z hz'
      show (z.1.n : Int) ≤ (x.1.n : Int)
      omega
  · intro y hy
    cases hJ : J with
    | nil =>
      subst hJ
      rcases List.mem_singleton.1 hy with rfl
      exact hx
    | cons q r =>
      subst hJ
      have hq := h.2 q List.mem_cons_self
      have hqx : q.1.n ≤ x.1.n := JA.first h hs
      unfold joinA at hy
      by_cases hlt : q.2.n + 1 < x.1.n
      · simp only [if_pos hlt] at hy
        rcases List.mem_cons.1 hy with rfl | hy
        · exact hx
        · exact h.2 y hy
      · simp only [if_neg hlt] at hy
        rcases List.mem_cons.1 hy with rfl | hy
        · by_cases g : q.2.n < x.2.n
          · simp only [if_pos g]
            refine ⟨hq.1, hx.2.1, ?_, by have := hq.2.2.2; show q.1.n ≤ x.2.n; omega⟩
            show q.1.s = x.2.s
            rw [hq.s_touch hx hqx (by omega), hx.2.2.1]
          · simp only [if_neg g]; exact hq
        · exact h.2 y (List.mem_cons_of_mem _ hy)

def Joined (ys xs : List (Ad × Ad)) : Prop := CanR (2 ^ 129) (ys.reverse.map iv) ∧ (∀ k, InP (ys.map iv) k ↔ InP (xs.map iv) k) ∧ ∀ y ∈ ys, RgR y
theorem inP_perm {l m : List Pt} (h : l.Perm m) (k : Int) : InP l k ↔ InP m k := by
  unfold InP
  constructor
  · rintro ⟨p, hp, x⟩; exact ⟨p, h.mem_iff.1 hp, x⟩
  · rintro ⟨p, hp, x⟩; exact ⟨p, h.mem_iff.2 hp, x⟩
theorem JA.done {J P xs : List (Ad × Ad)} (h : JA J P) (hp : P.Perm xs) : Joined J.reverse xs := by
  refine ⟨by rw [List.reverse_reverse]; exact h.1.1, fun k => ?_, fun y hy => h.2 y (List.mem_reverse.1 hy)⟩
  rw [List.map_reverse, inP_reverse, h.1.2.1 k]
  exact inP_perm (hp.map iv) k
theorem iv_inj {x y : Ad × Ad} (hx : RgR x) (hy : RgR y) (h : iv x = iv y) : x = y := by
  have h1 : (x.1.n : Int) = (y.1.n : Int) := congrArg Prod.fst h
  have h2 : (x.2.n : Int) = (y.2.n : Int) := congrArg Prod.snd h
  exact Prod.ext (Ad.ext' hx.1.1 hy.1.1 (by omega)) (Ad.ext' hx.2.1.1 hy.2.1.1 (by omega))
theorem map_iv_inj : ∀ (xs ys : List (Ad × Ad)), (∀ x ∈ xs, RgR x) → (∀ y ∈ ys, RgR y) → xs.map iv = ys.map iv → xs = ys
  | [], [], _, _, _ => rfl
  | [], y :: r, _, _, h => by cases h
  | x :: r, [], _, _, h => by cases h
  | x :: r, y :: t, hx, hy, h => by
    injection h with h1 h2
    rw [iv_inj (hx x List.mem_cons_self) (hy y List.mem_cons_self) h1, map_iv_inj r t (fun z hz => hx z (List.mem_cons_of_mem _ hz)) (fun z hz => hy z (List.mem_cons_of_mem _ hz)) h2]
theorem Joined.unique {ys zs xs xs' : List (Ad × Ad)} (h : Joined ys xs) (h' : Joined zs xs') (he : ∀ k, InP (xs.map iv) k ↔ InP (xs'.map iv) k) : ys = zs := by
  refine map_iv_inj _ _ h.2.2 h'.2.2 ?_
  have := canR_unique _ _ _ _ h.1 h'.1 (fun k => by rw [List.map_reverse, inP_reverse, List.map_reverse, inP_reverse, h.2.1 k, h'.2.1 k, he k])
  rw [List.map_reverse, List.map_reverse] at this
  exact List.reverse_inj.1 this

def setL : List Value → Nat → List Value → List Value
  | l, _, [] => l
  | l, o, v :: r => setL (l.set o v) (o + 1) r
theorem setL_mid : ∀ (cs old a b : List Value), old.length = cs.length → setL (a ++ (old ++ b)) a.length cs = a ++ (cs ++ b)
  | [], [], a, b, _ => rfl
  | [], _ :: _, _, _, h => by simp at h
  | _ :: _, [], _, _, h => by simp at h
  | c :: cs, o :: old, a, b, h => by
    unfold setL
    rw [List.set_append_right _ _ (Nat.le_refl _), Nat.sub_self, List.cons_append, List.set_cons_zero]
    have := setL_mid cs old (a ++ [c]) b (by simpa using h)
    simpa using this
theorem own_setL {B : Nat} {e : TypeId} {size n cap g : Nat} : ∀ (vs : List Value) (o : Nat) (w : World) (xs : List Value), w.ownsRow B e size (.slice (some ⟨g, 0, none⟩) n cap) n xs → (w.setCells g o vs).ownsRow B e size (.slice (some ⟨g, 0, none⟩) n cap) n (setL xs o vs)
  | [], _, _, _, h => h
  | v :: r, o, w, xs, h => by
    unfold World.setCells setL
    exact own_setL r (o + 1) _ _ (own_setV h o v)
section
variable {α : Type} {E : Enc α} {t : TypeId}
theorem OwnE.ld {k : Nat} (T : RowT t k) (hk : E.k = k) {w : World} {B g n cap : Nat} {xs : List α} (h : OwnE E t B w (.slice (some ⟨g, 0, none⟩) n cap) xs) {j : Nat} {x : α} (hx : xs[j]? = some x) :
    (ldT t (.pointer (some ⟨g, j * k, none⟩))).run Tryz.prog w = .ok (.value (.agg (E.enc x).toArray)) w := by
  have h0 := h
  subst hk
  refine ldT_run T (E.len x) (fun i v hv => ?_)
  have := World.ownsRow.cells h0 (g := g) rfl _ _ (E.cells_get xs j x hx i v hv)
  rwa [Addr.add_lit, Nat.zero_add] at this
theorem OwnE.ldAt {t' : TypeId} {k m : Nat} (T : RowT t' m) (hk : E.k = k) {w : World} {B g n cap : Nat} {xs : List α} (h : OwnE E t B w (.slice (some ⟨g, 0, none⟩) n cap) xs) {j : Nat} {x : α} (hx : xs[j]? = some x) (o : Nat) (ds rest : List Value) (hl : ds.length = m) (hd : (E.enc x).drop o = ds ++ rest) :
    (ldT t' (.pointer (some ⟨g, j * k + o, none⟩))).run Tryz.prog w = .ok (.value (.agg ds.toArray)) w := by
  have h0 := h
  subst hk
  refine ldT_run T hl (fun i v hv => ?_)
  have hi := (List.getElem?_eq_some_iff.1 hv).1
  have h1 : ((E.enc x).drop o)[i]? = some v := by rw [hd, List.getElem?_append_left hi]; exact hv
  rw [List.getElem?_drop] at h1
  have := World.ownsRow.cells h0 (g := g) rfl _ _ (E.cells_get xs j x hx (o + i) v h1)
  rw [Addr.add_lit, Nat.zero_add, ← Nat.add_assoc] at this
  exact this
theorem OwnE.cell {w : World} {B g n cap : Nat} {xs : List α} (h : OwnE E t B w (.slice (some ⟨g, 0, none⟩) n cap) xs) {j : Nat} {x : α} (hx : xs[j]? = some x) {i : Nat} {v : Value} (hv : (E.enc x)[i]? = some v) : w.cell? ⟨g, j * E.k + i, none⟩ = some v := by
  have := World.ownsRow.cells h (g := g) rfl _ _ (E.cells_get xs j x hx i v hv)
  rwa [Addr.add_lit, Nat.zero_add] at this
theorem stT_own {t' : TypeId} {m : Nat} (T : RowT t' m) {w : World} {B g n cap : Nat} {xs : List α} {x : α} (h : OwnE E t B w (.slice (some ⟨g, 0, none⟩) n cap) xs) {j : Nat} (hx : xs[j]? = some x) (o : Nat) (cs : List Value) (ho : o + m ≤ E.k) (hl : cs.length = m) (h1 : ∀ v ∈ cs, v.oneCell' = true) :
    (stT t' (.pointer (some ⟨g, j * E.k + o, none⟩)) (.agg cs.toArray)).run Tryz.prog w = .ok .skip (w.setCells g (j * E.k + o) cs) := by
  unfold stT
  have hf : ∀ q, w.frozen? ⟨g, q, none⟩ = false := by
    have h0 := h
    rcases h0.2 with ⟨hv, _⟩ | ⟨g', cap', cur, hv, hg, hh, _⟩
    · cases hv
    · cases hv; exact fun q => frozen_of_row w g q _ _ hh
  have ht : w.there g (j * E.k + o) cs.toArray.size := by
    intro i hi
    have hi' : i < m := by rw [← hl]; simpa using hi
    have hb : o + i < (E.enc x).length := by rw [E.len]; omega
    refine ⟨?_, hf _⟩
    rw [show j * E.k + o + i = j * E.k + (o + i) by omega, h.cell hx (List.getElem?_eq_getElem hb)]
    rfl
  have hs := run_storeAt_mid (P := Tryz.prog) w g (j * E.k + o) t' cs.toArray ht (by rw [T.size]; simp [hl]) (all_oneCell_toArray h1)
  simp only [Sem.run_bind, hs, Result.andThen_ok, Sem.run_pure]
theorem below_setC {B b : Nat} {a : World} (hb : B ≤ b) : ∀ (vs : List Value) (o : Nat) (w : World), Below B a w → Below B a (w.setCells b o vs)
  | [], _, _, h => h
  | v :: r, o, w, h => by
    unfold World.setCells
    exact below_setC hb r (o + 1) _ (h.setCell (p := ⟨b, o, none⟩) hb v)
end

theorem OwnE.alloc' {α : Type} {E : Enc α} {t : TypeId} {B : Nat} {w : World} {v : Value} {xs : List α} (h : OwnE E t B w v xs) (o : Obj) : OwnE E t B (w.alloc o) v xs := h.below ((Below.refl _ _).alloc (Nat.le_refl _) _)

theorem dig_six {V : Nat} (s : Bool) (hV : V < 2 ^ 128) (j : Nat) (hj : j < 8) : dig (s2n s + V) j = dig V j := by
  cases s
  · rw [s2n_false, Nat.zero_add]
  · rw [s2n_true]
    unfold dig
    have e : (2 : Nat) ^ 128 = 2 ^ (16 * j) * (2 ^ (112 - 16 * j) * 2 ^ 16) := by rw [← Nat.pow_add, ← Nat.pow_add]; congr 1; omega
    have hp := Nat.two_pow_pos (16 * j)
    rw [e, Nat.mul_add_div hp, Nat.mul_comm (2 ^ (112 - 16 * j)), Nat.add_comm, Nat.add_mul_mod_self_left]
theorem dig_top {V : Nat} (s : Bool) (hV : V < 2 ^ 128) : ((dig (s2n s + V) 8 : Nat) : Int) = b2i s := by
  unfold dig
  show (((s2n s + V) / 2 ^ 128 % 2 ^ 16 : Nat) : Int) = b2i s
  cases s
  · rw [s2n_false, Nat.zero_add, Nat.div_eq_of_lt hV]; rfl
  · rw [s2n_true, show (2 ^ 128 + V) / 2 ^ 128 = 1 by omega]; rfl
theorem wV_wA {V : Nat} (s : Bool) (hV : V < 2 ^ 128) : wV V s = wA (s2n s + V) := by
  unfold wV wA digN
  rw [dig_six s hV 0 (by decide), dig_six s hV 1 (by decide), dig_six s hV 2 (by decide), dig_six s hV 3 (by decide), dig_six s hV 4 (by decide), dig_six s hV 5 (by decide), dig_six s hV 6 (by decide), dig_six s hV 7 (by decide), dig_top s hV]
theorem of_w (a : Ad) (w : World) (h : a.U) : Calls Tryz.prog 44 #[adA a] w (GivesV (wA a.n) w) := by
  have := of_any a.s a.hi a.lo w h.1.1 h.1.2 h.2.1 h.2.2
  rwa [wV_wA a.s (show num a.hi a.lo < 2 ^ 128 from h.v_lt)] at this
theorem fil_n {p : Pf} (h : p.R) : s2n p.1.s + fil p.1.v (freeB p) = p.1.n + 2 ^ freeB p - 1 := by
  rw [fil_blk h]
  have := Nat.two_pow_pos (freeB p)
  unfold Ad.n; omega
theorem lastOf_w (p : Pf) (w : World) (h : p.R) : Calls Tryz.prog 46 #[pfA p] w (GivesV (wA (p.1.n + 2 ^ freeB p - 1)) w) := by
  have hv : fil p.1.v (freeB p) < 2 ^ 128 := fil_lt h.free_le.1 h.1.1.v_lt
  have := lastOf_any p.1.s p.1.hi p.1.lo p.2 w h.1.1.1.1 h.1.1.1.2 h.1.1.2.1 h.1.1.2.2 h.2.1 h.2.2.1
  rw [wV_wA p.1.s (show fil (num p.1.hi p.1.lo) (lenZ p.1.s - p.2).toNat < 2 ^ 128 from hv)] at this
  rwa [show s2n p.1.s + fil (num p.1.hi p.1.lo) (lenZ p.1.s - p.2).toNat = p.1.n + 2 ^ freeB p - 1 from fil_n h] at this
theorem clr_le (V k : Nat) : clr V k ≤ V := Nat.div_mul_le_self _ _
theorem wA_adOf {W : Nat} (h : W < 2 ^ 129) : wA W = wV (W % 2 ^ 128) (decide (2 ^ 128 ≤ W)) := by
  rw [wV_wA _ (Nat.mod_lt _ (by decide))]
  congr 2
  by_cases hs : 2 ^ 128 ≤ W
  · rw [decide_eq_true hs, s2n_true]; congr 1; omega
  · rw [decide_eq_false hs, s2n_false]; congr 1; omega
def eqN (A B : Nat) : Bool := dig A 0 == dig B 0 && (dig A 1 == dig B 1 && (dig A 2 == dig B 2 && (dig A 3 == dig B 3 && (dig A 4 == dig B 4 && (dig A 5 == dig B 5 && (dig A 6 == dig B 6 && (dig A 7 == dig B 7 && dig A 8 == dig B 8)))))))
set_option maxHeartbeats 1000000 in
theorem wide_equalN (A B : Nat) (w : World) : (Op.equalIn 10000 77 (.agg (digN A).toArray) (.agg (digN B).toArray)).run Tryz.prog w = .ok (eqN A B) w := by
  have u3 := Tryz.underlying3
  have a3 := Tryz.isAgg3
  have z3 := Tryz.sizeOf3
  have ei : ∀ a b : Nat, ((a : Int) = (b : Int)) = (a = b) := fun a b => propext Int.ofNat_inj
  unfold digN
  rw [show (10000 : Nat) = 9999 + 1 from rfl, Op.equalIn]
  simp only [Sem.run_bind, run_underlying Tryz.underlying77, Result.andThen_ok]
  simp only [Std.Legacy.Range.forIn_eq_forIn_range', Std.Legacy.Range.size, Nat.sub_zero, Nat.add_sub_cancel, Nat.div_one, List.range'_succ, List.range'_zero, List.forIn_cons, List.forIn_nil]
  go_simp
  unfold eqN
  (repeat' split) <;> simp_all
@[go_sem] theorem run_neqN (x y : Operand) (A B : Nat) (w : World) : (neqW x y (.agg (digN A).toArray) (.agg (digN B).toArray)).run Tryz.prog w = .ok (.value (.bool (!eqN A B))) w := by
  have := wide_equalN A B w
  unfold neqW
  go_simp
def eqlW (x y : Operand) (a b : Value) : Sem Next := do
  let v ← (do eqGuard .eql 77 x y a b; binOp .eql 77 a b)
  pure (.value v)
@[go_sem ↓ high] theorem execOp_eqlW (ρ : Operand → Value) (dst : Option Tmp) (x y : Operand) (r ty : TypeId) (pos : String) (after : Array Edge) (guard : Option (Nat × Bool)) :
    execOp ρ ⟨dst, .binOp .eql 77 x y r, ty, pos, after, guard⟩ = eqlW x y (ρ x) (ρ y) := rfl
@[go_sem high] theorem execOp_eqlW' (ρ : Operand → Value) (dst : Option Tmp) (x y : Operand) (r ty : TypeId) (pos : String) (after : Array Edge) (guard : Option (Nat × Bool)) :
    execOp ρ ⟨dst, .binOp .eql 77 x y r, ty, pos, after, guard⟩ = eqlW x y (ρ x) (ρ y) := rfl
@[go_sem] theorem run_eqlN (x y : Operand) (A B : Nat) (w : World) : (eqlW x y (.agg (digN A).toArray) (.agg (digN B).toArray)).run Tryz.prog w = .ok (.value (.bool (eqN A B))) w := by
  have := wide_equalN A B w
  unfold eqlW
  go_simp
theorem eqN_iff {A B : Nat} (hA : A < 2 ^ 144) (hB : B < 2 ^ 144) : eqN A B = decide (A = B) := by
  by_cases h : A = B
  · subst h; simp [eqN]
  · rw [decide_eq_false h]
    cases hw : eqN A B
    · rfl
    · exfalso
      unfold eqN at hw
      simp only [Bool.and_eq_true, beq_iff_eq] at hw
      obtain ⟨a0, a1, a2, a3, a4, a5, a6, a7, a8⟩ := hw
      apply h
      have hd : ∀ j, j < 9 → dig A j = dig B j := fun j hj => by
        match j, hj with
        | 0, _ => exact a0
        | 1, _ => exact a1
        | 2, _ => exact a2
        | 3, _ => exact a3
        | 4, _ => exact a4
        | 5, _ => exact a5
        | 6, _ => exact a6
        | 7, _ => exact a7
        | 8, _ => exact a8
      have step : ∀ j, j ≤ 9 → A / 2 ^ (16 * (9 - j)) = B / 2 ^ (16 * (9 - j)) := fun j => by
        induction j with
        | zero => intro _; show A / 2 ^ 144 = B / 2 ^ 144; rw [Nat.div_eq_of_lt hA, Nat.div_eq_of_lt hB]
        | succ j ih =>
          intro hj
          have i := ih (by omega)
          rw [show 9 - j = (9 - (j + 1)) + 1 by omega] at i
          exact (cmpN_step A B _ i).1 (hd _ (by omega))
      have := step 9 (Nat.le_refl _)
      simpa using this

theorem and16z (x : Int) (h1 : -9223372036854775808 ≤ x) (h2 : x < 9223372036854775808) : bits .and .i64 x 65535 = x % 65536 := by
  have hm : (BitVec.ofInt 64 65535).toNat = 2 ^ 16 - 1 := by decide
  have key : (BitVec.ofInt 64 x &&& BitVec.ofInt 64 65535).toNat = (x % ((2 ^ 64 : Nat) : Int)).toNat % 2 ^ 16 := by
    rw [BitVec.toNat_and, BitVec.toNat_ofInt, hm, Nat.and_two_pow_sub_one_eq_mod]
  show IntKind.i64.wrap ((BitVec.ofInt 64 x &&& BitVec.ofInt 64 65535).toNat : Nat) = x % 65536
  rw [key, IntKind.wrap_i64]
  omega

theorem plus_digit {W S : Nat} {c : Int} {j : Nat} (h : c + ((W / 2 ^ (16 * j) : Nat) : Int) = ((S / 2 ^ (16 * j) : Nat) : Int)) :
    (c + (dig W j : Nat)) % 65536 = (dig S j : Nat) ∧ (c + (dig W j : Nat)) / 65536 + ((W / 2 ^ (16 * (j + 1)) : Nat) : Int) = ((S / 2 ^ (16 * (j + 1)) : Nat) : Int) := by
  have e : ∀ V : Nat, V / 2 ^ (16 * (j + 1)) = V / 2 ^ (16 * j) / 65536 := fun V => by
    rw [Nat.div_div_eq_div_mul, show 16 * (j + 1) = 16 * j + 16 by omega, Nat.pow_add]
  rw [e, e]
  unfold dig
  generalize W / 2 ^ (16 * j) = a at *
  generalize S / 2 ^ (16 * j) = b at *
  constructor <;> omega
def mixD (W S k j : Nat) : Nat := if j < k then dig S j else dig W j
def mixN (W S k : Nat) : List Value := [.int .i64 (mixD W S k 0 : Nat), .int .i64 (mixD W S k 1 : Nat), .int .i64 (mixD W S k 2 : Nat), .int .i64 (mixD W S k 3 : Nat), .int .i64 (mixD W S k 4 : Nat), .int .i64 (mixD W S k 5 : Nat), .int .i64 (mixD W S k 6 : Nat), .int .i64 (mixD W S k 7 : Nat), .int .i64 (mixD W S k 8 : Nat)]
theorem mixN_get (W S k : Nat) (j : Nat) (hj : j < 9) : (mixN W S k)[j]? = some (.int .i64 (mixD W S k j : Nat)) := by
  match j, hj with
  | 0, _ => rfl
  | 1, _ => rfl
  | 2, _ => rfl
  | 3, _ => rfl
  | 4, _ => rfl
  | 5, _ => rfl
  | 6, _ => rfl
  | 7, _ => rfl
  | 8, _ => rfl
theorem mixN_nine (W S : Nat) : mixN W S 9 = digN S := rfl
theorem mixN_here (W S k : Nat) (hk : k < 9) : (mixN W S k)[k]? = some (.int .i64 (dig W k : Nat)) := by
  rw [mixN_get W S k k hk]; unfold mixD; rw [if_neg (Nat.lt_irrefl k)]
theorem mixN_set (W S k : Nat) (hk : k < 9) : (mixN W S k).set k (.int .i64 (dig S k : Nat)) = mixN W S (k + 1) := by
  apply List.ext_getElem?
  intro i
  by_cases hi : i < 9
  · rw [mixN_get W S (k + 1) i hi, List.getElem?_set]
    by_cases e : k = i
    · subst e
      rw [if_pos rfl, if_pos (show k < (mixN W S k).length from hk)]
      unfold mixD; rw [if_pos (Nat.lt_succ_self k)]
    · rw [if_neg e, mixN_get W S k i hi]
      unfold mixD
      by_cases g : i < k
      · rw [if_pos g, if_pos (by omega)]
      · rw [if_neg g, if_neg (by omega)]
  · rw [List.getElem?_eq_none (by rw [List.length_set]; show 9 ≤ i; omega), List.getElem?_eq_none (by show 9 ≤ i; omega)]

set_option maxHeartbeats 2000000 in
theorem plus_any (W S : Nat) (n : Int) (w : World) (hn1 : -65536 ≤ n) (hn2 : n ≤ 65536) (hS : n + (W : Int) = (S : Int)) :
    Calls Tryz.prog 47 #[wA W, .int .i64 n] w (GivesV (wA S) w) := by
  obtain ⟨h1, h2⟩ := two_new w (digN W) [.int .i64 0, .int .i64 0, .int .i64 0, .int .i64 0, .int .i64 0, .int .i64 0, .int .i64 0, .int .i64 0, .int .i64 0] 77 77
  have hG := below_two w (.cells (digN W).toArray 77) (.cells #[.int .i64 0, .int .i64 0, .int .i64 0, .int .i64 0, .int .i64 0, .int .i64 0, .int .i64 0, .int .i64 0, .int .i64 0] 77)
  go_enter Tryz.func47, Tryz.ntmps47
  go_wp2_with fail
  go_loopw [1, 6] (fun c i wr => ∃ (k : Nat) (z : Int), k ≤ 9 ∧ i = .int .i64 k ∧ c = .int .i64 z ∧ -65537 ≤ z ∧ z ≤ 65537 ∧ Hid (z + ((W / 2 ^ (16 * k) : Nat) : Int) = ((S / 2 ^ (16 * k) : Nat) : Int)) ∧ Blk wr w.heap.size (mixN W S k) 77 ∧ Blk wr (w.heap.size + 1) [.int .i64 0, .int .i64 0, .int .i64 0, .int .i64 0, .int .i64 0, .int .i64 0, .int .i64 0, .int .i64 0, .int .i64 0] 77 ∧ Below w.heap.size w wr) (fun _ i _ => 9 - (intOf i).toNat)
  case atStart => exact ⟨0, n, by omega, rfl, rfl, by omega, by omega, Lib.hid (by simpa using hS), h1, h2, hG⟩
  case round =>
    clear h1 h2 hG
    obtain ⟨k, z, hk, rfl, rfl, hz1, hz2, hc, hx, hy, hb⟩ := hrel
    by_cases hlt : k < 9
    · obtain ⟨d1, d2⟩ := plus_digit hc.out
      have hd := dig_lt W k
      have q := hx.cell (mixN_here W S k hlt)
      have fq := hx.free k
      have d3 := mixN_set W S k hlt
      have hx0 : 0 ≤ ((dig W k : Nat) : Int) ∧ ((dig W k : Nat) : Int) < 65536 := by omega
      generalize ((dig W k : Nat) : Int) = X at *
      have hA := (and16z (z + X) (by omega) (by omega)).trans d1
      have hW : IntKind.i64.wrap (z + X) = z + X := IntWalk.i64_in _ (by omega)
      have hx9 := hx.set k (.int .i64 (dig S k : Nat))
      rw [d3] at hx9
      have hy9 := hy.other (a := ⟨w.heap.size, k, none⟩) (by show w.heap.size + 1 ≠ w.heap.size; omega) (.int .i64 (dig S k : Nat))
      have hb9 := hb.setCell (p := ⟨w.heap.size, k, none⟩) (Nat.le_refl _) (.int .i64 (dig S k : Nat))
      have hlt' : (k : Int) < 9 := by omega
      have d2 := Lib.hid d2
      have hz3 := Lib.hid (show -65537 ≤ (z + X) / 65536 ∧ (z + X) / 65536 ≤ 65537 by omega)
      clear hd hx hy hb d1 d3 hc
      generalize ((dig S k : Nat) : Int) = Y at *
      go_wp2_with fail
      go_roundw
      case rel => exact ⟨k + 1, (z + X) / 65536, by omega, by go_num, rfl, hz3.out.1, hz3.out.2, d2, hx9, hy9, hb9⟩
      case measure => simp [intOf]; omega
    · have hk9 : k = 9 := by omega
      subst hk9
      rw [mixN_nine] at hx
      have l1 := hx.ld rowW rfl
      have S1 := stT_row rowW hy rfl (digN_len S) (digN_one S)
      go_wp2_with fail
      refine bodyPost_ret (v := wA S) (results_row rowW rfl _ _ _ _ _ rfl (hy.row (digN S)) rfl) rfl ⟨rfl, below_row hb (by omega) _⟩
theorem addr_w (W : Nat) (w : World) (hW : W < 2 ^ 129) : Calls Tryz.prog 50 #[wA W] w (GivesV (adA (adOf W)) w) := by
  rw [wA_adOf hW]
  exact waddr_any (W % 2 ^ 128) (decide (2 ^ 128 ≤ W)) w (Nat.mod_lt _ (by decide))

theorem stT_own' {α : Type} {E : Enc α} {t t' : TypeId} {m k : Nat} (T : RowT t' m) (hk : E.k = k) {w : World} {B g n cap : Nat} {xs : List α} {x : α} (h : OwnE E t B w (.slice (some ⟨g, 0, none⟩) n cap) xs) {j : Nat} (hx : xs[j]? = some x) (o : Nat) (cs : List Value) (ho : o + m ≤ k) (hl : cs.length = m) (h1 : ∀ v ∈ cs, v.oneCell' = true) :
    (stT t' (.pointer (some ⟨g, j * k + o, none⟩)) (.agg cs.toArray)).run Tryz.prog w = .ok .skip (w.setCells g (j * k + o) cs) := by
  subst hk; exact stT_own T h hx o cs ho hl h1
theorem Ad.R.dig_six {a : Ad} (h : a.R) : ((dig a.n 8 : Nat) : Int) = b2i a.s := dig_top a.s h.1.v_lt

end Go.Proofs.YtfpcalgkfagjkaaGreatDoor
