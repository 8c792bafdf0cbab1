/- Tables: CompactFunc: without the entries whose prefix is that of the one ahead. -/
import Derived.Test.YtfbggfpihiegpaaGreatDoorKpGzA
import Derived.Test.YtfbggfpihiegpaaGreatDoorKpTbH
import Derived.Test.YtfbggfpihiegpaaGreatDoorKpRpH
import Derived.Test.YtfbggfpihiegpaaGreatDoorKpTbQ
import Derived.Test.YtfbggfpihiegpaaGreatDoorKpShelf
import Derived.Test.YtfbggfpihiegpaaGreatDoorKpTbC
set_option linter.unusedVariables false
set_option linter.unusedSimpArgs false
set_option maxRecDepth 100000
namespace Go.Proofs.YtfbggfpihiegpaaGreatDoor
open Go.RowKit

open Go.Shelf
def cmpEn (x y : En) : Int := if cmpN x.p.1.n y.p.1.n = 0 then x.p.2 - y.p.2 else cmpN x.p.1.n y.p.1.n
theorem cm_sub : Cm (fun a b : Int => a - b) := ⟨fun x y => by omega, fun x y z a b => by omega⟩
theorem cm_En : Cm cmpEn := by
  have h := Cm.thn (cm_n.on fun x : En => x.p.1.n) (cm_sub.on fun x : En => x.p.2)
  exact h
def En.R (x : En) : Prop := x.p.R

set_option maxHeartbeats 1000000 in
theorem tblOrder_d (x y : En) (w : World) (hx : En.R x) (hy : En.R y) :
    Calls Tryz.prog 15 #[enA x, enA y] w (GivesD (.int .i64 (cmpEn x y)) w) := by
  have HO := fun w' => Lib.hid (order_d x.p.1 y.p.1 w' hx.1.1 hy.1.1)
  obtain ⟨h1, h2⟩ := two_new w (enC x) (enC y) 43 43
  have hG : Gd w ((w.alloc (.cells (enC x).toArray 43)).alloc (.cells (enC y).toArray 43)) := ((Gd.refl w).alloc _).alloc _
  have l1 := h1.ldAt rowAd 0 (adC x.p.1) [.int .i64 x.p.2, .string ⟨x.nm.toArray⟩] rfl rfl
  have l2 := h2.ldAt rowAd 0 (adC y.p.1) [.int .i64 y.p.2, .string ⟨y.nm.toArray⟩] rfl rfl
  have b1 := hx.2.1
  have b2 : x.p.2 ≤ 128 := by have h := hx.2.2.1; rcases lenZ_le x.p.1.s with k | k <;> omega
  have b3 := hy.2.1
  have b4 : y.p.2 ≤ 128 := by have h := hy.2.2.1; rcases lenZ_le y.p.1.s with k | k <;> omega
  have e1 : IntKind.i64.wrap (x.p.2 - y.p.2) = x.p.2 - y.p.2 := IntWalk.i64_in _ (by omega)
  obtain ⟨R, hR⟩ : ∃ R, R = cmpEn x y := ⟨_, rfl⟩
  rw [← hR]
  unfold cmpEn at hR
  obtain ⟨C, hC⟩ : ∃ C, C = cmpN x.p.1.n y.p.1.n := ⟨_, rfl⟩
  rw [← hC] at HO hR
  replace hR := Lib.hid hR
  clear hC hx hy b1 b2 b3 b4
  go_enter Tryz.func15, Tryz.ntmps15
  go_wp2_with fail
  refine (HO _).out.mono ?_
  rintro e w1 ⟨rfl, hg1⟩
  replace h1 := h1.below hg1.below
  replace h2 := h2.below hg1.below
  have c1 := h1.cell (i := 3) (v := .int .i64 x.p.2) rfl
  have c2 := h2.cell (i := 3) (v := .int .i64 y.p.2) rfl
  clear l1 l2
  by_cases h0 : C = 0
  · have b0 : (C == 0) = true := by simp [h0]
    have hR2 := Lib.hid (show R = x.p.2 - y.p.2 by rw [hR.out, if_pos h0])
    clear h0 hR
    go_wp2_with fail
    go_ret
    exact ⟨by rw [hR2.out]; rfl, hG.trans hg1⟩
  · have b0 : (C == 0) = false := by simp [h0]
    have hR2 := Lib.hid (show R = C by rw [hR.out, if_neg h0])
    clear h0 hR
    go_wp2_with fail
    go_ret
    exact ⟨by rw [hR2.out]; rfl, hG.trans hg1⟩

abbrev EnR := {x : En // En.R x}
instance : Inhabited EnR := ⟨⟨⟨(⟨false, 0, 0⟩, 0), []⟩, (show Pf.R (⟨false, 0, 0⟩, 0) from allP_R false)⟩⟩
def cmpEU (x y : EnR) : Int := cmpEn x.1 y.1
theorem ltEU_iff (x y : EnR) : ltOf cmpEU x y = true ↔ cmpEn x.1 y.1 < 0 := by
  unfold ltOf cmpEU
  simp
theorem ltEU_le (x y : EnR) (h : ltOf cmpEU x y = false) : cmpEn y.1 x.1 ≤ 0 := by
  have := mt (ltEU_iff x y).2 (by rw [h]; decide)
  have := cm_En.anti x.1 y.1
  omega
theorem ltEU_not (x y : EnR) (h : cmpEn y.1 x.1 ≤ 0) : ltOf cmpEU x y = false := by
  cases e : ltOf cmpEU x y
  · rfl
  · have := (ltEU_iff x y).1 e
    have := cm_En.anti x.1 y.1
    omega
theorem swo_cmpEU : Sort.SWO (ltOf cmpEU) where
  irrefl := fun x => ltEU_not x x (by rw [cm_En.self]; exact Int.le_refl 0)
  trans := fun x y z a b => (ltEU_iff x z).2 (cm_En.lt (Int.le_of_lt ((ltEU_iff x y).1 a)) (Int.le_of_lt ((ltEU_iff y z).1 b)) (.inl ((ltEU_iff x y).1 a)))
  ntrans := fun x y z a b => ltEU_not x z (cm_En.trans _ _ _ (ltEU_le y z b) (ltEU_le x y a))
theorem pairwise_ofE {d : Array EnR} {n : Nat} (hn : d.size = n) (h : Sort.SortedIn (ltOf cmpEU) 0 n d) : (d.toList.map (·.1)).Pairwise (fun x y => cmpEn x y ≤ 0) := by
  rw [List.pairwise_map, List.pairwise_iff_getElem]
  intro i j hi hj hij
  have := ltEU_le _ _ (h i j (Nat.zero_le _) hij (by rw [← hn]; simpa using hj))
  rw [getElem!_pos d i (by simpa using hi), getElem!_pos d j (by simpa using hj)] at this
  simpa using this
def SrtE (B : Nat) (w : World) (v : Value) (xs : List En) (e : Ending) (w' : World) : Prop :=
  e = .returned (.tuple #[]) ∧ ∃ qs : List En, qs.Perm xs ∧ qs.Pairwise (fun x y => cmpEn x y ≤ 0) ∧ OwnE eEn 43 B w' v qs ∧ Below B w w'
theorem lays_insEn (blk off size : Nat) (w : World) : CmpLays Tryz.prog 15 #[] (onP En.R eEn).enc (onP En.R eEn).k cmpEU blk off size w :=
  fun _ _ _ _ x y => (tblOrder_d x.1 y.1 _ x.2 y.2).mono fun _ _ h => ⟨h.1, h.2.grows⟩
theorem noneE_any {ρ : Go.Shelf.Ren} (L : SlLaysF0.n20 Tryz.prog ρ) (p : Option Addr) (cap : Nat) (fv : Value) (w : World) :
    Calls Tryz.prog (ρ.f 20) #[.slice p 0 cap, .int .i64 0, .int .i64 0, fv] w fun e w' => e = .returned (.tuple #[]) ∧ w' = w := AnyF.insertionSortCmpFunc_none L p cap fv w

set_option maxHeartbeats 2000000 in
theorem insEn_any (B : Nat) (A : Option Addr) (n cap : Nat) (v : Value) (hv : v = .slice A n cap) (xs : List En) (w : World) (hown : OwnE eEn 43 B w v xs) (hU : ∀ x ∈ xs, En.R x) (hb : B ≤ w.heap.size) (hn : n ≤ 1000000) :
    Calls Tryz.prog 63 #[v, .int .i64 0, .int .i64 n, .func (.func 15) #[] #[]] w (SrtE B w v xs) := by
  by_cases h0 : xs = []
  · subst h0
    obtain ⟨A', cap', hvv, hS⟩ := hown.sl
    rw [hv] at hvv
    injection hvv with e1 e2 e3
    subst hv e1 e2 e3
    refine (noneE_any Tryz.insEnt A cap _ w).mono ?_
    rintro e w' ⟨rfl, rfl⟩
    exact ⟨rfl, [], List.Perm.refl _, List.Pairwise.nil, hown, Below.refl _ _⟩
  · obtain ⟨ys, rfl⟩ := lift_P xs hU
    obtain ⟨g, cap', hvv, hg1, hg2, hcap, _⟩ := hown.form h0
    rw [hv] at hvv
    injection hvv with e1 e2 e3
    subst hv e1 e2 e3
    have hH := holdsP_own (E := eEn) hown
    have eg : ∀ args w, (callFunc 15 args).run Tryz.prog w = .ok (.enter 15 args) w := enters_of Tryz.func15 (by kernel_rfl) rfl
    have hcon := AnyQ.insertionSortCmpFunc Tryz.insEnt 5 Tryz.isAgg43 Tryz.sizeOf43 (onP En.R eEn).enc (onP En.R eEn).len (onP En.R eEn).one cmpEU 15 #[] g 0 cap 0 ys.toArray.size ys.toArray w eg (lays_insEn g 0 ys.toArray.size w) hH hg2 (Nat.zero_le _) (Nat.le_refl _) (by simp at hn ⊢; omega)
    change Calls Tryz.prog 63 _ _ _ at hcon
    have e0 : ys.toArray.size = ys.length := by simp
    have hI := Sort.insertionSort_holds (lt := ltOf cmpEU) swo_cmpEU ys.toArray 0 ys.toArray.size (Nat.zero_le _) (Nat.le_refl _)
    generalize Sort.insertionSort (ltOf cmpEU) ys.toArray 0 ys.toArray.size = d' at hcon hI
    obtain ⟨hp, hs⟩ := hI
    rw [e0] at hcon hs
    rw [List.length_map] at hown ⊢
    refine hcon.mono ?_
    rintro e w' ⟨rfl, m, os, rfl⟩
    have hsz : d'.size = ys.length := hp.1.trans e0
    refine ⟨rfl, List.map (fun x : EnR => x.1) d'.toList, by simpa using (perm_ofP hp).map (fun x : EnR => x.1), pairwise_ofE hsz hs, ?_, below_sortP hg1 hb⟩
    exact own_sortedP (E := eEn) hown hsz

set_option maxHeartbeats 2000000 in
theorem stableEn_any (B : Nat) (A : Option Addr) (n cap : Nat) (v : Value) (hv : v = .slice A n cap) (xs : List En) (w : World) (hown : OwnE eEn 43 B w v xs) (hU : ∀ x ∈ xs, En.R x) (hb : B ≤ w.heap.size) (hn : n < 20) :
    Calls Tryz.prog 14 #[v, .func (.func 15) #[] #[]] w (SrtE B w v xs) := by
  have HC := Lib.hid (insEn_any B A n cap v hv xs w hown hU hb (by omega))
  subst hv
  clear hown hU hb
  have HS : Hid (Calls Tryz.prog 36 #[.slice A n cap, .int .i64 n, .func (.func 15) #[] #[]] w (SrtE B w (.slice A n cap) xs)) := by
    refine Lib.hid ?_
    have h1 : ¬ (20 : Int) ≤ n := by omega
    have h2 : ¬ (20 : Int) < n := by omega
    go_enter Tryz.func36, Tryz.ntmps36
    go_wp2_with fail
    refine wp_loop_rounds 1 ?_
    rw [rounds_succ]
    go_wp2_with fail
    refine HC.out.mono ?_
    intro e w1 hq
    obtain ⟨rfl, hq⟩ := hq
    replace hq := Lib.hid hq
    go_wp2_with fail
    refine wp_loop_rounds 1 ?_
    rw [rounds_succ]
    go_wp2_with fail
    refine bodyPost_ret (v := .tuple #[]) ?_ rfl ⟨rfl, hq.out⟩
    simp [results, Tryz.results36, go_sem]
  clear HC
  go_enter Tryz.func14, Tryz.ntmps14
  go_wp2_with fail
  refine HS.out.mono ?_
  intro e w1 hq
  obtain ⟨rfl, hq⟩ := hq
  replace hq := Lib.hid hq
  go_wp2_with fail
  refine bodyPost_ret (v := .tuple #[]) ?_ rfl ⟨rfl, hq.out⟩
  simp [results, Tryz.results14, go_sem]

def sqzE (xs : List En) : Nat → List En
  | 0 => []
  | 1 => xs.take 1
  | j + 2 => if (xs[j + 1]?).map En.p = (xs[j]?).map En.p then sqzE xs (j + 1) else sqzE xs (j + 1) ++ (xs[j + 1]?).toList
def CpE (xs : List En) (j : Nat) (zs : List En) : Prop := zs = sqzE xs j
theorem CpE.same {xs : List En} {j : Nat} {zs : List En} (h : CpE xs (j + 1) zs) {y z : En} (hy : xs[j + 1]? = some y) (hy' : xs[j]? = some z) (he : y.p = z.p) : CpE xs (j + 2) zs := by
  unfold CpE sqzE
  rw [if_pos (by rw [hy, hy']; exact congrArg some he)]
  exact h
theorem CpE.next {xs : List En} {j : Nat} {zs : List En} (h : CpE xs (j + 1) zs) {y z : En} (hy : xs[j + 1]? = some y) (hy' : xs[j]? = some z) (hne : y.p ≠ z.p) : CpE xs (j + 2) (zs ++ [y]) := by
  unfold CpE sqzE
  rw [if_neg (by rw [hy, hy']; intro e; injection e with e; exact hne e), hy]
  rw [show zs = sqzE xs (j + 1) from h]
  rfl
theorem CpE.one {xs : List En} {x : En} (hx : xs[0]? = some x) : CpE xs 1 [x] := by
  unfold CpE sqzE
  rw [List.take_add_one, hx]
  rfl
@[go_sem] theorem run_eqPfP (x y : Operand) (p q : Pf) (w : World) : (eqPf x y (.agg (pfC p).toArray) (.agg (pfC q).toArray)).run Tryz.prog w = .ok (.value (.bool (pfE2 p q))) w :=
  run_eqPf x y p.1.s q.1.s p.1.hi p.1.lo q.1.hi q.1.lo p.2 q.2 w

set_option maxHeartbeats 1000000 in
theorem tblEq_any (x y : En) (w : World) :
    Calls Tryz.prog 18 #[enA x, enA y] w (GivesV (.bool (pfE2 x.p y.p)) w) := by
  obtain ⟨hA, hD⟩ := two_new w (enC x) (enC y) 43 43
  have hbw : Below w.heap.size w ((w.alloc (.cells (enC x).toArray 43)).alloc (.cells (enC y).toArray 43)) := ((Below.refl _ _).alloc (Nat.le_refl _) _).alloc (by simp) _
  have l1 := hA.ldAt rowPf 0 (pfC x.p) [.string ⟨x.nm.toArray⟩] rfl rfl
  have l2 := hD.ldAt rowPf 0 (pfC y.p) [.string ⟨y.nm.toArray⟩] rfl rfl
  have E1 := fun a b w' => run_eqPfP a b x.p y.p w'
  generalize pfE2 x.p y.p = V at *
  clear hA hD
  go_enter Tryz.func18, Tryz.ntmps18
  go_wp2_with fail
  go_ret
  exact ⟨rfl, hbw⟩
def CpT (xs : List En) (c j : Nat) (ys : List En) : Prop := ys.length = xs.length ∧ c ≤ j ∧ CpE xs (j + 1) (ys.take c) ∧ ys.drop j = xs.drop j
theorem CpT.get {xs : List En} {c j : Nat} {ys : List En} (h : CpT xs c j ys) {i : Nat} (hi : j ≤ i) : ys[i]? = xs[i]? := by
  have h1 := h.2.2.2
  have : (ys.drop j)[i - j]? = (xs.drop j)[i - j]? := by rw [h1]
  rw [List.getElem?_drop, List.getElem?_drop, show j + (i - j) = i by omega] at this
  exact this
theorem CpT.skip {xs : List En} {c j : Nat} {ys : List En} (h : CpT xs c j ys) {y : En} (hy : xs[j + 1]? = some y) {z : En} (hy' : xs[j]? = some z) (he : y.p = z.p) : CpT xs c (j + 1) ys := by
  refine ⟨h.1, by have := h.2.1; omega, h.2.2.1.same hy hy' he, ?_⟩
  have := congrArg (List.drop 1) h.2.2.2
  rwa [List.drop_drop, List.drop_drop] at this
theorem CpT.put {xs : List En} {c j : Nat} {ys : List En} (h : CpT xs c j ys) {y z : En} (hy : xs[j + 1]? = some y) (hy' : xs[j]? = some z) (hne : y.p ≠ z.p) : CpT xs (c + 1) (j + 1) (ys.set c y) := by
  have hj : j + 1 < xs.length := (List.getElem?_eq_some_iff.1 hy).1
  have hc := h.2.1
  have hl := h.1
  refine ⟨by rw [List.length_set]; exact h.1, by omega, ?_, ?_⟩
  · have e : (ys.set c y).take (c + 1) = ys.take c ++ [y] := by
      rw [List.take_add_one, List.take_set, List.getElem?_set_self (by omega)]
      rw [List.set_eq_of_length_le (by rw [List.length_take]; omega)]
      rfl
    rw [e]
    exact h.2.2.1.next hy hy' hne
  · rw [List.drop_set, if_pos (by omega)]
    have := congrArg (List.drop 1) h.2.2.2
    rwa [List.drop_drop, List.drop_drop] at this

theorem zeroEn_run (w : World) : (zeroValue 43).run Tryz.prog w = .ok zEn w := by
  kernel_rfl

theorem clear_restE {w : World} {B g n cap c : Nat} {ys : List En} (h : OwnE eEn 43 B w (.slice (some ⟨g, 0, none⟩) n cap) ys) (hn : n = ys.length) (hc : c < n) (hz : ∀ w, (zeroValue 43).run Tryz.prog w = .ok zEn w) (m : Nat) :
    ∃ L, ∀ ty, (Builtin.clear_ #[26] ty #[.slice (some ⟨g, c * 5, none⟩) (n - c) m]).run Tryz.prog w = .ok (.tuple #[]) (w.setCells g (c * 5) L) := by
  obtain ⟨L, hL⟩ : ∃ L, (Builtin.zeroCells zEn.cells (n - c)).toList = L := ⟨_, rfl⟩
  have e3 : eEn.k = 5 := rfl
  have hLl : L.length = (n - c) * 5 := by rw [← hL]; simp [Builtin.zeroCells]; rfl
  refine ⟨L, fun ty => run_clear_row w _ _ ty zEn Tryz.underlying26 hz g (c * 5) (n - c) m (by omega) L hL ?_ ?_ ?_⟩
  · intro v hv
    rw [← hL] at hv
    simp only [Builtin.zeroCells, Array.toList_map, List.mem_map] at hv
    obtain ⟨i, _, rfl⟩ := hv
    have hs : zEn.cells.size = 5 := rfl
    have hi : i % zEn.cells.size < 5 := by rw [hs]; exact Nat.mod_lt _ (by decide)
    have hall : ∀ j, j < 5 → (zEn.cells[j]!).oneCell' = true := by decide
    exact hall _ hi
  · intro j hj
    rw [hLl] at hj
    have hlen : c * 5 + j < (eEn.cells ys).length := by rw [eEn.cells_len, e3, ← hn]; omega
    have h4 := World.ownsRow.cells h (g := g) rfl (c * 5 + j) _ (List.getElem?_eq_getElem hlen)
    rw [Addr.add_lit, Nat.zero_add] at h4
    rw [h4]; rfl
  · intro j _
    rcases h.2 with ⟨hv, _⟩ | ⟨g', cap', cur, hv, hB, hh, _⟩
    · cases hv
    · cases hv; exact frozen_of_row w g _ _ _ hh

def RowN (C : List Value) (zs : List En) : Prop := ∀ (j : Nat) (x : En), zs[j]? = some x → ∀ (i : Nat) (v : Value), (enC x)[i]? = some v → C[j * 5 + i]? = some v
def OwnN (B : Nat) (w : World) (g n cap : Nat) (zs : List En) : Prop := ∃ C, w.ownsRow B 43 5 (.slice (some ⟨g, 0, none⟩) n cap) n C ∧ RowN C zs ∧ zs.length ≤ n
theorem OwnN.sl {B : Nat} {w : World} {g n c cap : Nat} {zs : List En} (h : OwnN B w g n c zs) (m : Nat) (hm : m = zs.length) (hcap : m ≤ cap) : SlE eEn w (some ⟨g, 0, none⟩) m cap zs := by
  obtain ⟨C, h1, h2, h3⟩ := h
  have hg' : g < w.heap.size := by
    rcases h1.2 with ⟨hv, _⟩ | ⟨g', cap', cur, hv, hB, hh, _⟩
    · cases hv
    · cases hv; exact (Array.getElem?_eq_some_iff.1 hh).1
  refine ⟨hm, hcap, (fun e => by cases e), .inr ⟨g, 0, rfl, hg', fun j x hx i v hv => ?_⟩⟩
  have h4 := World.ownsRow.cells h1 (g := g) rfl (j * 5 + i) v (h2 j x hx i v hv)
  rw [Addr.add_lit] at h4
  have e3 : eEn.k = 5 := rfl
  rw [show 0 + j * eEn.k + i = 0 + (j * 5 + i) by rw [e3]; omega]
  exact h4
theorem ownN_ahead {w : World} {B g n cap c : Nat} {ys : List En} (h : OwnE eEn 43 B w (.slice (some ⟨g, 0, none⟩) n cap) ys) (hn : n = ys.length) (hc : c ≤ n) (L : List Value) : OwnN B (w.setCells g (c * 5) L) g n cap (ys.take c) := by
  have h2 : w.ownsRow B 43 eEn.k (.slice (some ⟨g, 0, none⟩) n cap) n (eEn.cells ys) := by
    have h' := h
    unfold OwnE at h'
    rw [← hn] at h'
    exact h'
  refine ⟨_, own_setL L (c * 5) w _ h2, fun j x hx i v hv => ?_, by rw [List.length_take]; first | omega | exact Nat.min_le_right .. | skip⟩
  have hj : j < c := by have := (List.getElem?_eq_some_iff.1 hx).1; rw [List.length_take] at this; omega
  rw [List.getElem?_take, if_pos hj] at hx
  have hi : i < 5 := by have := (List.getElem?_eq_some_iff.1 hv).1; rw [enC_len] at this; exact this
  rw [setL_lt _ _ _ _ (by omega)]
  exact eEn.cells_get ys j x hx i v hv
theorem ownN_all {w : World} {B g n cap : Nat} {ys : List En} (h : OwnE eEn 43 B w (.slice (some ⟨g, 0, none⟩) n cap) ys) (hn : n = ys.length) : OwnN B w g n cap ys := by
  have h2 : w.ownsRow B 43 eEn.k (.slice (some ⟨g, 0, none⟩) n cap) n (eEn.cells ys) := by
    have h' := h
    unfold OwnE at h'
    rw [← hn] at h'
    exact h'
  exact ⟨_, h2, fun j x hx i v hv => eEn.cells_get ys j x hx i v hv, by omega⟩

def CfE (B g n cap : Nat) (xs : List En) (w : World) (e : Ending) (w' : World) : Prop := ∃ (m : Nat) (zs : List En), e = .returned (.slice (some ⟨g, 0, none⟩) m cap) ∧ m = zs.length ∧ m ≤ cap ∧ OwnN B w' g n cap zs ∧ CpE xs n zs ∧ Below B w w'

set_option maxHeartbeats 4000000 in
theorem compactE_any (B g n cap : Nat) (xs : List En) (w : World) (hown : OwnE eEn 43 B w (.slice (some ⟨g, 0, none⟩) n cap) xs) (hnl : n = xs.length) (hn2 : 2 ≤ n) (hn : n ≤ 1000000) (hB : B ≤ w.heap.size) :
    Calls Tryz.prog 17 #[.slice (some ⟨g, 0, none⟩) n cap, .func (.func 18) #[] #[]] w (CfE B g n cap xs w) := by
  have hcap : n ≤ cap := by
    rcases hown.2 with ⟨hv, _⟩ | ⟨g', cap', cur, hv, hB, hh, h1, h2, hsz, htake⟩
    · cases hv
    · cases hv; omega
  have hgB : B ≤ g ∧ g < w.heap.size := hown.lt g rfl
  have hbw := Below.refl B w
  have h2n : ¬ (n : Int) < 2 := by omega
  replace hnl := Lib.hid hnl
  go_enter Tryz.func17, Tryz.ntmps17
  go_wp2_with fail
  go_loopw [5] (fun vk wr => ∃ k : Nat, k + 1 ≤ n ∧ vk = .int .i64 ((k : Int) + 1) ∧ Hid (CpE xs (k + 1) (xs.take (k + 1))) ∧ OwnE eEn 43 B wr (.slice (some ⟨g, 0, none⟩) n cap) xs ∧ Below B w wr) (fun vk _ => n - (intOf vk).toNat)
  case atStart => exact ⟨0, by omega, rfl, Lib.hid (by
      obtain ⟨x, hx⟩ : ∃ x, xs[0]? = some x := ⟨xs[0]'(by have := hnl.out; omega), List.getElem?_eq_getElem _⟩
      rw [List.take_add_one, hx]
      exact CpE.one hx), hown, hbw⟩
  case round =>
    clear hown hbw
    obtain ⟨k, hk, rfl, hI, hown, hbw⟩ := hrel
    by_cases hlt : k + 1 < n
    · obtain ⟨y, hy⟩ : ∃ x, xs[k + 1]? = some x := ⟨xs[k + 1]'(by have := hnl.out; omega), List.getElem?_eq_getElem _⟩
      obtain ⟨z, hz⟩ : ∃ x, xs[k]? = some x := ⟨xs[k]'(by have := hnl.out; omega), List.getElem?_eq_getElem _⟩
      have HE := Lib.hid (fun W => tblEq_any y z W)
      have hsame := Lib.hid (fun (e : y.p = z.p) => hI.out.same (y := y) hy hz e)
      have hnext := Lib.hid (fun e => hI.out.next hy hz e)
      have hqd := pfE2_dec y.p z.p
      obtain ⟨q, hq⟩ : ∃ q, q = pfE2 y.p z.p := ⟨_, rfl⟩
      rw [← hq] at HE hqd
      replace hqd := Lib.hid hqd
      have hyh := Lib.hid hy
      clear hq hI
      obtain ⟨K, hK⟩ : ∃ K, K = k + 1 := ⟨_, rfl⟩
      have e0 : (k : Int) + 1 = K := by omega
      have e1 : (K : Int) - 1 = k := by omega
      have hx := hy
      rw [← hK] at hx
      have hx' := hz
      have hltK : (K : Int) < n := by omega
      have hltk : (k : Int) < n := by omega
      have hKn : K < n := by omega
      have hsB : B ≤ wr.heap.size := Nat.le_trans hB hbw.size
      have q1 : IntKind.i64.wrap (k : Int) = k := IntWalk.i64_in _ (by omega)
      rw [e0]
      clear hlt hy hz hk e0
      replace hK := Lib.hid hK
      go_upto_region 6 with fail
      refine wx_begin (none) [] (by kernel_rfl) (fun u0 hb0' hz0' => ?_)
      replace hown := hown.below hb0'
      replace hbw := hbw.trans (hb0'.mono hsB)
      replace hsB : B ≤ u0.heap.size := Nat.le_trans hsB hb0'.size
      clear hb0' hz0'
      refine wx_pureZ 0 (some 18) (v := ?_) ?_ ?_; rotate_left; · (intro u; go_simp; try with_reducible rfl)
      try simp only [Act.put, gzD, gzE, gzF]
      refine wx_pureZ 1 (some 19) (v := ?_) ?_ ?_; rotate_left; · (intro u; go_simp; try with_reducible rfl)
      try simp only [Act.put, gzD, gzE, gzF]
      refine wx_pureZ 2 (some 20) (v := ?_) ?_ ?_; rotate_left; · (intro u; go_simp; try with_reducible rfl)
      try simp only [Act.put, gzD, gzE, gzF]
      refine wx_pureZ 3 (some 21) (v := ?_) ?_ ?_; rotate_left; · (intro u; go_simp; try with_reducible rfl)
      try simp only [Act.put, gzD, gzE, gzF]
      refine wx_takeZ 4 (some 22) (v := ?_) ?_ ?_; rotate_left; · (intro u hu; have o := hown.gb hu (.inr (by simp [Value.ownBlock])); have k1 : (ldT 43 (.pointer (some ⟨g, K * 5, none⟩))).run Tryz.prog u = .ok (.value (enA y)) u := o.ld rowEn rfl hx; have k2 : (ldT 43 (.pointer (some ⟨g, k * 5, none⟩))).run Tryz.prog u = .ok (.value (enA z)) u := o.ld rowEn rfl hx'; go_simp; try with_reducible rfl)
      try simp only [Act.put, gzD, gzE, gzF]
      refine wx_pureZ 5 (some 23) (v := ?_) ?_ ?_; rotate_left; · (intro u; go_simp; try with_reducible rfl)
      try simp only [Act.put, gzD, gzE, gzF]
      refine wx_pureZ 6 (some 24) (v := ?_) ?_ ?_; rotate_left; · (intro u; go_simp; try with_reducible rfl)
      try simp only [Act.put, gzD, gzE, gzF]
      refine wx_pureZ 7 (some 25) (v := ?_) ?_ ?_; rotate_left; · (intro u; go_simp; try with_reducible rfl)
      try simp only [Act.put, gzD, gzE, gzF]
      refine wx_pureZ 8 (some 26) (v := ?_) ?_ ?_; rotate_left; · (intro u; go_simp; try with_reducible rfl)
      try simp only [Act.put, gzD, gzE, gzF]
      refine wx_takeZ 9 (some 27) (v := ?_) ?_ ?_; rotate_left; · (intro u hu; have o := hown.gb hu (.inr (by simp [Value.ownBlock])); have k1 : (ldT 43 (.pointer (some ⟨g, K * 5, none⟩))).run Tryz.prog u = .ok (.value (enA y)) u := o.ld rowEn rfl hx; have k2 : (ldT 43 (.pointer (some ⟨g, k * 5, none⟩))).run Tryz.prog u = .ok (.value (enA z)) u := o.ld rowEn rfl hx'; go_simp; try with_reducible rfl)
      try simp only [Act.put, gzD, gzE, gzF]
      refine wx_oneZ 10 (fun K hK => ?_)
      go_simp
      refine (HE.out _).mono ?_
      rintro e wq10 ⟨rfl, hv1⟩
      refine hK.out _ _ (gbB hv1) ?_
      replace hown := hown.below hv1
      replace hbw := hbw.trans (hv1.mono hsB)
      replace hsB := Nat.le_trans hsB hv1.size
      clear hK K hv1
      try simp only [Act.put, gzD, gzE, gzF]
      refine wx_done (by kernel_rfl) ?_ _
      clear HE hx hx' q1
      cases q
      · have hI2 := Lib.hid (show CpE xs (K + 1) (xs.take (K + 1)) by
          rw [hK.out, List.take_add_one, hyh.out]
          exact hnext.out (of_decide_eq_false hqd.out.symm))
        clear hsame hnext hqd hyh
        go_wp2_with fail
        go_roundw
        case rel => exact ⟨K, by omega, by go_num, hI2, hown, hbw⟩
        case measure => simp [intOf]; omega
      · have hcp := Lib.hid (show CpT xs K K xs from ⟨rfl, Nat.le_refl _, by rw [hK.out]; exact hsame.out (of_decide_eq_true hqd.out.symm), rfl⟩)
        clear hsame hnext hqd hyh
        have hcK : ¬ (cap : Int) = K := by omega
        have hKc : (K : Int) ≤ cap := by omega
        go_wp2_with fail
        obtain ⟨D, hD⟩ : ∃ D, D = n - K := ⟨_, rfl⟩
        obtain ⟨D', hD'⟩ : ∃ D, D = cap - K := ⟨_, rfl⟩
        rw [← hD, ← hD']
        have hDn : n ≤ K + D ∧ K + D ≤ n := by omega
        clear hD hD'
        go_loopw [5, 7] (fun v3 v5 wr => ∃ (c m : Nat) (ys : List En), m + 1 ≤ D ∧ v3 = .int .i64 c ∧ v5 = .int .i64 ((m : Int) + 1) ∧ Hid (CpT xs c (K + m) ys) ∧ OwnE eEn 43 B wr (.slice (some ⟨g, 0, none⟩) n cap) ys ∧ Below B w wr ∧ c ≤ K + m) (fun _ v5 _ => n - (intOf v5).toNat)
        case atStart => exact ⟨K, 0, xs, by omega, rfl, rfl, hcp, hown, hbw, Nat.le_refl _⟩
        case round =>
          clear hown hbw hsB hcp
          obtain ⟨c, m, ys, hmD, rfl, rfl, hI, hown, hbw, hcm⟩ := hrel
          have hlys := Lib.hid (show n = ys.length by rw [hI.out.1]; exact hnl.out)
          have hsB : B ≤ wr.heap.size := Nat.le_trans hB hbw.size
          by_cases hlt2 : m + 1 < D
          · obtain ⟨M, hM⟩ : ∃ M, M = m + 1 := ⟨_, rfl⟩
            have i0 : (m : Int) + 1 = M := by omega
            have i1 : (M : Int) - 1 = m := by omega
            have q1 : IntKind.i64.wrap (m : Int) = m := IntWalk.i64_in _ (by omega)
            have hltM : (M : Int) < D := by omega
            have hltm : (m : Int) < D := by omega
            have hcn : (c : Int) < n := by omega
            obtain ⟨y, hy⟩ : ∃ x, ys[K + M]? = some x := ⟨ys[K + M]'(by have := hlys.out; omega), List.getElem?_eq_getElem _⟩
            obtain ⟨z, hy'⟩ : ∃ x, ys[K + m]? = some x := ⟨ys[K + m]'(by have := hlys.out; omega), List.getElem?_eq_getElem _⟩
            have hxy : xs[K + m + 1]? = some y := by rw [← hI.out.get (by omega), show K + m + 1 = K + M by omega]; exact hy
            have hxz : xs[K + m]? = some z := by rw [← hI.out.get (Nat.le_refl _)]; exact hy'
            have hsame := Lib.hid (fun (e : y.p = z.p) => hI.out.skip hxy hxz e)
            have hput := Lib.hid (fun e => hI.out.put hxy hxz e)
            have HE := Lib.hid (fun W => tblEq_any y z W)
            have hqd := pfE2_dec y.p z.p
            obtain ⟨q, hq⟩ : ∃ q, q = pfE2 y.p z.p := ⟨_, rfl⟩
            rw [← hq] at HE hqd
            replace hqd := Lib.hid hqd
            clear hq hxy hxz
            have e1 := Lib.hid (show (K + M) * 5 = K * 5 + M * 5 from Nat.add_mul _ _ _)
            have e2 := Lib.hid (show (K + m) * 5 = K * 5 + m * 5 from Nat.add_mul _ _ _)
            rw [i0]
            clear i0
            replace hM := Lib.hid hM
            go_upto_region 11 with fail
            refine wx_begin (none) [] (by kernel_rfl) (fun u0 hb0' hz0' => ?_)
            replace hown := hown.below hb0'
            replace hbw := hbw.trans (hb0'.mono hsB)
            replace hsB : B ≤ u0.heap.size := Nat.le_trans hsB hb0'.size
            clear hb0' hz0'
            refine wx_pureZ 0 (some 38) (v := ?_) ?_ ?_; rotate_left; · (intro u; go_simp; try with_reducible rfl)
            try simp only [Act.put, gzD, gzE, gzF]
            refine wx_pureZ 1 (some 39) (v := ?_) ?_ ?_; rotate_left; · (intro u; go_simp; try with_reducible rfl)
            try simp only [Act.put, gzD, gzE, gzF]
            refine wx_pureZ 2 (some 40) (v := ?_) ?_ ?_; rotate_left; · (intro u; go_simp; try with_reducible rfl)
            try simp only [Act.put, gzD, gzE, gzF]
            refine wx_pureZ 3 (some 41) (v := ?_) ?_ ?_; rotate_left; · (intro u; go_simp; try with_reducible rfl)
            try simp only [Act.put, gzD, gzE, gzF]
            refine wx_takeZ 4 (some 42) (v := ?_) ?_ ?_; rotate_left; · (intro u hu; have o := hown.gb hu (.inr (by simp [Value.ownBlock])); have k1 : (ldT 43 (.pointer (some ⟨g, K * 5 + M * 5, none⟩))).run Tryz.prog u = .ok (.value (enA y)) u := (by rw [← e1.out]; exact o.ld rowEn rfl hy); have k2 : (ldT 43 (.pointer (some ⟨g, K * 5 + m * 5, none⟩))).run Tryz.prog u = .ok (.value (enA z)) u := (by rw [← e2.out]; exact o.ld rowEn rfl hy'); go_simp; try with_reducible rfl)
            try simp only [Act.put, gzD, gzE, gzF]
            refine wx_pureZ 5 (some 43) (v := ?_) ?_ ?_; rotate_left; · (intro u; go_simp; try with_reducible rfl)
            try simp only [Act.put, gzD, gzE, gzF]
            refine wx_pureZ 6 (some 44) (v := ?_) ?_ ?_; rotate_left; · (intro u; go_simp; try with_reducible rfl)
            try simp only [Act.put, gzD, gzE, gzF]
            refine wx_pureZ 7 (some 45) (v := ?_) ?_ ?_; rotate_left; · (intro u; go_simp; try with_reducible rfl)
            try simp only [Act.put, gzD, gzE, gzF]
            refine wx_pureZ 8 (some 46) (v := ?_) ?_ ?_; rotate_left; · (intro u; go_simp; try with_reducible rfl)
            try simp only [Act.put, gzD, gzE, gzF]
            refine wx_takeZ 9 (some 47) (v := ?_) ?_ ?_; rotate_left; · (intro u hu; have o := hown.gb hu (.inr (by simp [Value.ownBlock])); have k1 : (ldT 43 (.pointer (some ⟨g, K * 5 + M * 5, none⟩))).run Tryz.prog u = .ok (.value (enA y)) u := (by rw [← e1.out]; exact o.ld rowEn rfl hy); have k2 : (ldT 43 (.pointer (some ⟨g, K * 5 + m * 5, none⟩))).run Tryz.prog u = .ok (.value (enA z)) u := (by rw [← e2.out]; exact o.ld rowEn rfl hy'); go_simp; try with_reducible rfl)
            try simp only [Act.put, gzD, gzE, gzF]
            refine wx_oneZ 10 (fun K hK => ?_)
            go_simp
            refine (HE.out _).mono ?_
            rintro e wq10 ⟨rfl, hv1⟩
            refine hK.out _ _ (gbB hv1) ?_
            replace hown := hown.below hv1
            replace hbw := hbw.trans (hv1.mono hsB)
            replace hsB := Nat.le_trans hsB hv1.size
            clear hK K hv1
            try simp only [Act.put, gzD, gzE, gzF]
            refine wx_pureZ 11 (some 49) (v := ?_) ?_ ?_; rotate_left; · (intro u; go_simp; try with_reducible rfl)
            try simp only [Act.put, gzD, gzE, gzF]
            refine wx_done (by kernel_rfl) ?_ _
            clear HE
            cases q
            · obtain ⟨o, ho⟩ : ∃ o, ys[c]? = some o := ⟨ys[c]'(by have := hlys.out; omega), List.getElem?_eq_getElem _⟩
              have S := stT_own' rowEn (E := eEn) (k := 5) rfl hown ho 0 (enC y) (by decide) rfl (enC_one y)
              have k1 := hown.ld (k := 5) rowEn rfl hy
              rw [e1.out] at k1
              replace k1 : (ldT 43 (.pointer (some ⟨g, K * 5 + M * 5, none⟩))).run Tryz.prog _ = .ok (.value (enA y)) _ := k1
              have hset := own_setAt (k := 5) rfl (x' := y) hown hlys.out ho
              have hb3 := below_setC hgB.1 (enC y) (c * 5) _ hbw
              simp only [Nat.add_zero] at S
              replace hset : OwnE eEn 43 B (World.setCells _ g (c * 5) (enC y)) _ _ := hset
              have hI2 : Hid (CpT xs (c + 1) (K + M) (ys.set c y)) := Lib.hid (by
                have h := hput.out (of_decide_eq_false hqd.out.symm)
                rw [show K + M = K + m + 1 by have := hM.out; omega]; exact h)
              clear hsame hput hqd
              clear hy hy' q1 hown hbw ho
              go_wp2_with fail
              go_roundw
              case rel => exact ⟨c + 1, M, _, by omega, by go_num, by go_num, hI2, hset, hb3, by have := hM.out; omega⟩
              case measure => simp [intOf]; omega
            · have hI2 : Hid (CpT xs c (K + M) ys) := Lib.hid (by
                have h := hsame.out (of_decide_eq_true hqd.out.symm)
                rw [show K + M = K + m + 1 by have := hM.out; omega]; exact h)
              clear hsame hput hqd
              clear hy hy' q1
              go_wp2_with fail
              go_roundw
              case rel => exact ⟨c, M, ys, by omega, rfl, by go_num, hI2, hown, hbw, by have := hM.out; omega⟩
              case measure => simp [intOf]; omega
          · have hmd : D = m + 1 := by omega
            obtain ⟨L, hCL⟩ := clear_restE hown hlys.out (c := c) (by omega) zeroEn_run (cap - c)
            have hcC : (c : Int) ≤ cap := by omega
            have hcC2 : ¬ (cap : Int) = c := by omega
            have hcN : (c : Int) ≤ n := by omega
            have i0 : (m : Int) + 1 = D := by omega
            rw [i0]
            have hOr := Lib.hid (ownN_ahead hown hlys.out (show c ≤ n by omega) L)
            have hb3 := Lib.hid (below_setC hgB.1 L (c * 5) _ hbw)
            have hln := Lib.hid (show c = (ys.take c).length by rw [List.length_take]; have := hlys.out; omega)
            have hmem := Lib.hid (show CpE xs n (ys.take c) by rw [show n = K + m + 1 by omega]; exact hI.out.2.2.1)
            have hcc : c ≤ cap := by omega
            clear hown hbw hI i0 hmd hDn hKn hltK hltk hmD hlt2 hcm
            go_wp2_with fail
            go_ret
            exact ⟨c, ys.take c, rfl, hln.out, hcc, hOr.out, hmem.out, hb3.out⟩
    · have hkn : n = k + 1 := by omega
      have hOr := Lib.hid (ownN_all hown hnl.out)
      have hall := Lib.hid (show CpE xs n xs by
        have h := hI.out
        rw [List.take_of_length_le (by have := hnl.out; omega)] at h
        rw [hkn]; exact h)
      have i0 : (k : Int) + 1 = n := by omega
      rw [i0]
      clear hkn hk hlt i0 hown
      replace hbw := Lib.hid hbw
      go_wp2_with fail
      go_ret
      exact ⟨n, xs, rfl, hnl.out, hcap, hOr.out, hall.out, hbw.out⟩
end Go.Proofs.YtfbggfpihiegpaaGreatDoor
