/- Sets: clones and sorts of ranges and spans. -/
import Derived.Test.YthjhokicojgpbaaGreatDoorKdStF
import Derived.Test.YthjhokicojgpbaaGreatDoorKdShelf
import Derived.Shelf.SlSortCmp.WholeK
import Derived.Shelf.SlSortCmp.NoneTotal
import Derived.Lib.Small
import Derived.Great.BuildSlice
namespace Go.Proofs.YthjhokicojgpbaaGreatDoor
open Go.RowKit Go.Shelf
set_option linter.unusedVariables false
set_option linter.unusedSimpArgs false

def zRg : Value := .agg #[.bool false, .int .u64 0, .int .u64 0, .bool false, .int .u64 0, .int .u64 0]
def zPf : Value := .agg #[.bool false, .int .u64 0, .int .u64 0, .int .i64 0]
def zSp : Value := .agg #[.int .i64 0, .int .i64 0, .int .i64 0, .int .i64 0, .int .i64 0, .int .i64 0, .int .i64 0, .int .i64 0, .int .i64 0, .int .i64 0, .int .i64 0, .int .i64 0, .int .i64 0, .int .i64 0, .int .i64 0, .int .i64 0, .int .i64 0, .int .i64 0]
theorem infoRg : (Tryz.prog.info? 49).map (fun i => (i.zero, i.size, i.bytes)) = some (some zRg, 6, 48) := by kernel_rfl
theorem infoPf : (Tryz.prog.info? 52).map (fun i => (i.zero, i.size, i.bytes)) = some (some zPf, 4, 32) := by kernel_rfl
theorem infoSp : (Tryz.prog.info? 103).map (fun i => (i.zero, i.size, i.bytes)) = some (some zSp, 18, 144) := by kernel_rfl
/-- A slice of one struct is built, as one step. -/
def bsT (t : TypeId) (x : Value) : Sem Next := do
  let v ← Instr.buildSlice t 1 #[(0, x)]
  pure (.value v)
section
variable (ρ : Operand → Value) (dst : Option Tmp) (x : Operand) (ty : TypeId) (pos : String) (after : Array Edge) (guard : Option (Nat × Bool))
@[go_sem ↓ high] theorem execOp_bsRg : execOp ρ ⟨dst, .buildSlice 57 1 #[(0, x)], ty, pos, after, guard⟩ = bsT 57 (ρ x) := by
  simp only [execOp, bsT, List.map_toArray, List.map_cons, List.map_nil]
@[go_sem high] theorem execOp_bsRg' : execOp ρ ⟨dst, .buildSlice 57 1 #[(0, x)], ty, pos, after, guard⟩ = bsT 57 (ρ x) := by
  simp only [execOp, bsT, List.map_toArray, List.map_cons, List.map_nil]
@[go_sem ↓ high] theorem execOp_bsPf : execOp ρ ⟨dst, .buildSlice 44 1 #[(0, x)], ty, pos, after, guard⟩ = bsT 44 (ρ x) := by
  simp only [execOp, bsT, List.map_toArray, List.map_cons, List.map_nil]
@[go_sem high] theorem execOp_bsPf' : execOp ρ ⟨dst, .buildSlice 44 1 #[(0, x)], ty, pos, after, guard⟩ = bsT 44 (ρ x) := by
  simp only [execOp, bsT, List.map_toArray, List.map_cons, List.map_nil]
@[go_sem ↓ high] theorem execOp_bsSp : execOp ρ ⟨dst, .buildSlice 100 1 #[(0, x)], ty, pos, after, guard⟩ = bsT 100 (ρ x) := by
  simp only [execOp, bsT, List.map_toArray, List.map_cons, List.map_nil]
@[go_sem high] theorem execOp_bsSp' : execOp ρ ⟨dst, .buildSlice 100 1 #[(0, x)], ty, pos, after, guard⟩ = bsT 100 (ρ x) := by
  simp only [execOp, bsT, List.map_toArray, List.map_cons, List.map_nil]
end
theorem bsT_run {st t : TypeId} {k bytes : Nat} {z : Value} {cs : Array Value} (hu : Tryz.prog.underlying st = some (.slice t)) (hi : (Tryz.prog.info? t).map (fun i => (i.zero, i.size, i.bytes)) = some (some z, k, bytes)) (hk : ¬ 1 * k > 2 ^ 24) (hk0 : ¬ 1 * k = 0)
    (hf : Instr.fill (fun i => some (i * k, k)) ((Array.range (1 * k)).map (z.cells[· % z.cells.size]!)) [(0, .agg cs)] = some cs) (w : World) :
    (bsT st (.agg cs)).run Tryz.prog w = .ok (.value (.slice (some ⟨w.heap.size, 0, none⟩) 1 1)) (w.alloc (.cells cs t)) := by
  obtain ⟨i0, hi0, hz0, hz1, hz2⟩ := info_parts hi
  subst hz1
  unfold bsT
  simp only [Sem.run_bind, run_buildSlice (P := Tryz.prog) w st t 1 #[(0, .agg cs)] cs i0 z hu hi0 hz0 hk hk0 hf, Result.andThen_ok, Sem.run_pure]
@[go_sem] theorem run_bsRg (x : Ad × Ad) (w : World) : (bsT 57 (.agg (rgC x).toArray)).run Tryz.prog w = .ok (.value (.slice (some ⟨w.heap.size, 0, none⟩) 1 1)) (w.alloc (.cells (rgC x).toArray 49)) :=
  bsT_run Tryz.underlying57 infoRg (by decide) (by decide) (by kernel_rfl) w
@[go_sem] theorem run_bsPf (x : Pf) (w : World) : (bsT 44 (.agg (pfC x).toArray)).run Tryz.prog w = .ok (.value (.slice (some ⟨w.heap.size, 0, none⟩) 1 1)) (w.alloc (.cells (pfC x).toArray 52)) :=
  bsT_run Tryz.underlying44 infoPf (by decide) (by decide) (by kernel_rfl) w
@[go_sem] theorem run_bsSp (x : Ad × Ad) (w : World) : (bsT 100 (.agg (spC x).toArray)).run Tryz.prog w = .ok (.value (.slice (some ⟨w.heap.size, 0, none⟩) 1 1)) (w.alloc (.cells (spC x).toArray 103)) :=
  bsT_run Tryz.underlying100 infoSp (by decide) (by decide) (by kernel_rfl) w
@[go_sem] theorem run_bsSp2 (A B : Nat) (w : World) : (bsT 100 (.agg (digN A ++ digN B).toArray)).run Tryz.prog w = .ok (.value (.slice (some ⟨w.heap.size, 0, none⟩) 1 1)) (w.alloc (.cells (digN A ++ digN B).toArray 103)) :=
  bsT_run Tryz.underlying100 infoSp (by decide) (by decide) (by kernel_rfl) w
theorem tyeRg : Ty eRg 49 57 zRg 48 := ⟨Tryz.underlying57, infoRg, rfl, by decide⟩
theorem tyePf : Ty ePf 52 44 zPf 32 := ⟨Tryz.underlying44, infoPf, rfl, by decide⟩
theorem tyeSp : Ty eSp 103 100 zSp 144 := ⟨Tryz.underlying100, infoSp, rfl, by decide⟩

set_option maxHeartbeats 4000000 in
set_option maxRecDepth 100000 in
theorem cloneRg_any (A : Option Addr) (n cap : Nat) (xs : List (Ad × Ad)) (w : World) (hS : SlE eRg w A n cap xs) (hn : n ≤ 100000) :
    Calls Tryz.prog 175 #[.slice A n cap] w fun e w' => ∃ v', e = .returned v' ∧ OwnE eRg 49 w.heap.size w' v' xs ∧ Below w.heap.size w w' := by
  have q22 : ∀ (w : World) (a : Option Addr) (n c n' c' : Nat), (binOp .eql 57 (.slice a n c) (.slice none n' c')).run Tryz.prog w = .ok (.bool a.isNone) w := fun w a n c n' c' => Lib.run_eql_slice_nil w _ _ a n c n' c' Tryz.underlying57
  have hlen := Lib.hid hS.1
  have hS := Lib.hid hS
  cases A with
  | none =>
    have hxs : xs = [] := by
      rcases hS.out.2.2.2 with h | ⟨g, off, h, _⟩
      · exact List.length_eq_zero_iff.1 (by have := hlen.out; omega)
      · cases h
    subst hxs
    obtain rfl : n = 0 := by simpa using hlen.out
    clear hlen
    go_enter Tryz.func175, Tryz.ntmps175
    go_wp2_with fail
    go_ret
    exact ⟨_, rfl, OwnE.nil _ _, Below.refl _ _⟩
  | some a =>
    have hc := Lib.hid (fun j u (hj : (Enc.cells eRg xs)[j]? = some u) => hS.out.cells j u hj)
    go_enter Tryz.func175, Tryz.ntmps175
    go_wp2_with (at_builtin; refine wpList_app tyeRg rfl _ _ rfl w.heap.size _ [] xs rfl (World.ownsRow_made w #[] 0 (Nat.le_refl _) (Nat.zero_le _) (by simp)) a n cap rfl ?c1 ?c2 ?c3 ?c4 ?_)
    case c1 => exact hlen.out
    case c2 =>
      intro j u hj
      exact Lib.cell?_alloc_some _ (hc.out j u hj)
    case c3 => rw [← hlen.out]; simp; omega
    case c4 => simp
    intro v' w1 hown hgrow _
    have hB := ((Below.refl _ w).alloc (Nat.le_refl _) _).grown hgrow (by simp) (by intro k hk; simp [Value.ownBlock] at hk; omega)
    clear hgrow
    go_wp2_with fail
    go_ret
    exact ⟨v', rfl, by simpa using hown, hB⟩

set_option maxHeartbeats 4000000 in
set_option maxRecDepth 100000 in
theorem cloneSp_any (A : Option Addr) (n cap : Nat) (xs : List (Ad × Ad)) (w : World) (hS : SlE eSp w A n cap xs) (hn : n ≤ 100000) :
    Calls Tryz.prog 181 #[.slice A n cap] w fun e w' => ∃ v', e = .returned v' ∧ OwnE eSp 103 w.heap.size w' v' xs ∧ Below w.heap.size w w' := by
  have q22 : ∀ (w : World) (a : Option Addr) (n c n' c' : Nat), (binOp .eql 100 (.slice a n c) (.slice none n' c')).run Tryz.prog w = .ok (.bool a.isNone) w := fun w a n c n' c' => Lib.run_eql_slice_nil w _ _ a n c n' c' Tryz.underlying100
  have hlen := Lib.hid hS.1
  have hS := Lib.hid hS
  cases A with
  | none =>
    have hxs : xs = [] := by
      rcases hS.out.2.2.2 with h | ⟨g, off, h, _⟩
      · exact List.length_eq_zero_iff.1 (by have := hlen.out; omega)
      · cases h
    subst hxs
    obtain rfl : n = 0 := by simpa using hlen.out
    clear hlen
    go_enter Tryz.func181, Tryz.ntmps181
    go_wp2_with fail
    go_ret
    exact ⟨_, rfl, OwnE.nil _ _, Below.refl _ _⟩
  | some a =>
    have hc := Lib.hid (fun j u (hj : (Enc.cells eSp xs)[j]? = some u) => hS.out.cells j u hj)
    go_enter Tryz.func181, Tryz.ntmps181
    go_wp2_with (at_builtin; refine wpList_app tyeSp rfl _ _ rfl w.heap.size _ [] xs rfl (World.ownsRow_made w #[] 0 (Nat.le_refl _) (Nat.zero_le _) (by simp)) a n cap rfl ?c1 ?c2 ?c3 ?c4 ?_)
    case c1 => exact hlen.out
    case c2 =>
      intro j u hj
      exact Lib.cell?_alloc_some _ (hc.out j u hj)
    case c3 => rw [← hlen.out]; simp; omega
    case c4 => simp
    intro v' w1 hown hgrow _
    have hB := ((Below.refl _ w).alloc (Nat.le_refl _) _).grown hgrow (by simp) (by intro k hk; simp [Value.ownBlock] at hk; omega)
    clear hgrow
    go_wp2_with fail
    go_ret
    exact ⟨v', rfl, by simpa using hown, hB⟩

/-- Two right addresses. -/
abbrev U2 := {x : Ad × Ad // x.1.U ∧ x.2.U}
instance : Inhabited U2 := ⟨⟨(⟨false, 0, 0⟩, ⟨false, 0, 0⟩), ⟨⟨by decide, by decide⟩, ⟨by decide, by decide⟩⟩, ⟨⟨by decide, by decide⟩, ⟨by decide, by decide⟩⟩⟩⟩

def onU (E : Enc (Ad × Ad)) : Enc U2 := ⟨fun x => E.enc x.1, E.k, E.pos, fun x => E.len x.1, fun x => E.one x.1⟩
theorem lift_U : ∀ xs : List (Ad × Ad), (∀ x ∈ xs, x.1.U ∧ x.2.U) → ∃ ys : List U2, xs = ys.map (·.1)
  | [], _ => ⟨[], rfl⟩
  | x :: r, h => by
    obtain ⟨ys, hy⟩ := lift_U r (fun z hz => h z (List.mem_cons_of_mem _ hz))
    exact ⟨⟨x, h x List.mem_cons_self⟩ :: ys, by show x :: r = x :: ys.map _; rw [← hy]⟩
theorem cells_onU (E : Enc (Ad × Ad)) : ∀ ys : List U2, E.cells (ys.map (·.1)) = (onU E).cells ys
  | [] => rfl
  | y :: r => by rw [List.map_cons, E.cells_cons, (onU E).cells_cons, cells_onU E r]; rfl
def cmpU2 (x y : U2) : Int := cmpN x.1.1.n y.1.1.n
theorem ltU2_iff (x y : U2) : ltOf cmpU2 x y = true ↔ x.1.1.n < y.1.1.n := by
  unfold ltOf cmpU2 cmpN
  by_cases h : x.1.1.n < y.1.1.n
  · rw [if_pos h]; exact ⟨fun _ => h, fun _ => by decide⟩
  · rw [if_neg h]
    refine ⟨fun a => ?_, fun a => absurd a h⟩
    exfalso
    by_cases h2 : x.1.1.n = y.1.1.n
    · rw [if_pos h2] at a; cases a
    · rw [if_neg h2] at a; cases a
theorem ltU2_le (x y : U2) (h : ltOf cmpU2 x y = false) : y.1.1.n ≤ x.1.1.n := by
  have := mt (ltU2_iff x y).2 (by rw [h]; decide)
  omega
theorem ltU2_not (x y : U2) (h : y.1.1.n ≤ x.1.1.n) : ltOf cmpU2 x y = false := by
  cases e : ltOf cmpU2 x y
  · rfl
  · have := (ltU2_iff x y).1 e; omega
theorem swo_cmpU2 : Sort.SWO (ltOf cmpU2) where
  irrefl := fun x => ltU2_not x x (Nat.le_refl _)
  trans := fun x y z a b => (ltU2_iff x z).2 (Nat.lt_trans ((ltU2_iff x y).1 a) ((ltU2_iff y z).1 b))
  ntrans := fun x y z a b => ltU2_not x z (Nat.le_trans (ltU2_le y z b) (ltU2_le x y a))

theorem flatK_cells (E : Enc (Ad × Ad)) (ys : List U2) (j : Nat) (hj : j < (ys.toArray.size) * E.k) : ∃ u, ((onU E).cells ys)[j]? = some u ∧ ((onU E).enc ys.toArray[j / E.k]!)[j % E.k]? = some u := by
  have hp := E.pos
  have hq : j / E.k < ys.length := Nat.div_lt_of_lt_mul (by rw [Nat.mul_comm]; simpa using hj)
  have hm : j % E.k < E.k := Nat.mod_lt _ hp
  have hx : ys[j / E.k]? = some ys[j / E.k] := List.getElem?_eq_getElem hq
  have hl : j % E.k < ((onU E).enc ys[j / E.k]).length := by rw [(onU E).len]; exact hm
  refine ⟨((onU E).enc ys[j / E.k])[j % E.k], ?_, ?_⟩
  · have := (onU E).cells_get ys (j / E.k) _ hx (j % E.k) _ (List.getElem?_eq_getElem hl)
    rwa [show j / E.k * (onU E).k + j % E.k = j by rw [Nat.mul_comm]; exact Nat.div_add_mod j E.k] at this
  · rw [getElem!_pos ys.toArray (j / E.k) (by simpa using hq)]
    simp

theorem holdsK_own {E : Enc (Ad × Ad)} {t : TypeId} {w : World} {B g n cap : Nat} {ys : List U2} (h : OwnE E t B w (.slice (some ⟨g, 0, none⟩) n cap) (ys.map (·.1))) : Sort.HoldsK (onU E).enc (onU E).k w g 0 ys.toArray := by
  intro j hj
  have hj' := hj
  rw [Sort.size_flatK] at hj'
  obtain ⟨u, h1, h2⟩ := flatK_cells E ys j (by simpa [onU] using hj')
  rw [Sort.get_flatK _ _ _ _ hj']
  have hc := World.ownsRow.cells h (g := g) rfl j u (by rw [cells_onU]; exact h1)
  rw [Addr.add_lit, Nat.zero_add] at hc
  refine ⟨?_, ?_⟩
  · rw [Nat.zero_add, hc]
    show some u = some (((onU E).enc ys.toArray[j / E.k]!)[j % E.k]!)
    rw [List.getElem!_eq_getElem?_getD, h2]; rfl
  · rcases h.2 with ⟨hv, _⟩ | ⟨g', cap', cur, hv, hg, hh, _⟩
    · cases hv
    · cases hv; exact frozen_of_row w g _ _ _ hh
theorem below_sortK {enc : U2 → List Value} {k : Nat} {w : World} {B g off m : Nat} {d : Array U2} {os : Array Obj} (hg : B ≤ g) (hB : B ≤ w.heap.size) : Below B w (sortWorldK enc k w g off m d os) := by
  refine ⟨rfl, rfl, rfl, size_sortWorldK_c _ _ _ _ _ _ _ _, fun k hk => ?_⟩
  unfold sortWorldK Sort.grow Sort.putRowK Sort.putRow Sort.mapBlock Sort.ahead
  show (w.heap.modify g _ ++ os)[k]? = _
  rw [Array.getElem?_append_left (by simp; omega), Array.getElem?_modify, if_neg (by omega)]
theorem sorted_slE {E : Enc (Ad × Ad)} {w : World} {g cap : Nat} {d : Array U2} (h : Sort.HoldsK (onU E).enc (onU E).k w g 0 d) (hg : g < w.heap.size) (hc : d.size ≤ cap) : SlE E w (some ⟨g, 0, none⟩) (d.toList.map (·.1)).length cap (d.toList.map (·.1)) := by
  refine ⟨rfl, by simpa using hc, (fun e => by cases e), .inr ⟨g, 0, rfl, hg, fun j x hx i v hv => ?_⟩⟩
  obtain ⟨y, hy, rfl⟩ := Option.map_eq_some_iff.1 (by rw [List.getElem?_map] at hx; exact hx)
  have hj : j < d.size := by simpa using (List.getElem?_eq_some_iff.1 hy).1
  have hi : i < (onU E).k := by rw [← (onU E).len y]; exact (List.getElem?_eq_some_iff.1 hv).1
  have e : d[j]! = y := by
    rw [getElem!_pos d j hj]
    have := (List.getElem?_eq_some_iff.1 hy).2
    simpa using this
  have a := (h.cell hj hi).1
  rw [e] at a
  rw [show 0 + j * E.k + i = 0 + j * (onU E).k + i from rfl, a, List.getElem!_eq_getElem?_getD]
  rw [show ((onU E).enc y)[i]? = some v from hv]; rfl
theorem perm_ofU {d d' : Array U2} (h : Sort.PermIn 0 d.size d d') : d'.toList.Perm d.toList := by
  obtain ⟨h1, _, h3⟩ := h
  have a : d'.extract 0 d.size = d' := by rw [← h1]; simp
  have b : d.extract 0 d.size = d := by simp
  rw [a, b] at h3
  exact h3
theorem pairwise_ofU {d : Array U2} {n : Nat} (hn : d.size = n) (h : Sort.SortedIn (ltOf cmpU2) 0 n d) : (d.toList.map (·.1)).Pairwise (fun x y => x.1.n ≤ y.1.n) := by
  rw [List.pairwise_map, List.pairwise_iff_getElem]
  intro i j hi hj hij
  have := ltU2_le _ _ (h i j (Nat.zero_le _) hij (by rw [← hn]; simpa using hj))
  rw [getElem!_pos d i (by simpa using hi), getElem!_pos d j (by simpa using hj)] at this
  simpa using this

/-- A value that is a slice of one's own, from block B on, which reads as a list. -/
def OwnS (E : Enc (Ad × Ad)) (B : Nat) (w : World) (v : Value) (xs : List (Ad × Ad)) : Prop :=
  ∃ A cap, v = .slice A xs.length cap ∧ SlE E w A xs.length cap xs ∧ ∀ g off, A = some ⟨g, off, none⟩ → B ≤ g ∧ g < w.heap.size
theorem none_any {ρ : Go.Shelf.Ren} (L : SlLaysF0.n6 Tryz.prog ρ) (p : Option Addr) (cap : Nat) (fv : Value) (w : World) :
    Calls Tryz.prog (ρ.f 6) #[.slice p 0 cap, fv] w fun e w' => e = .returned (.tuple #[]) ∧ w' = w := AnyF.slices_SortFunc_none L p cap fv w

theorem lays_sortRg_any (blk off size : Nat) (w : World) : CmpLays Tryz.prog 177 #[] (onU eRg).enc (onU eRg).k cmpU2 blk off size w :=
  fun _ _ _ _ x y => (join1_d x.1 y.1 _ x.2.1 y.2.1).mono fun _ _ h => ⟨h.1, h.2.grows⟩

set_option maxHeartbeats 2000000 in
set_option maxRecDepth 100000 in
theorem sortRg_any (B : Nat) (v : Value) (xs : List (Ad × Ad)) (w : World) (hown : OwnE eRg 49 B w v xs) (hU : ∀ x ∈ xs, x.1.U ∧ x.2.U) (hb : B ≤ w.heap.size) (hn : xs.length ≤ 1000000) :
    Calls Tryz.prog 176 #[v, .func (.func 177) #[] #[]] w fun e w' => e = .returned (.tuple #[]) ∧ ∃ qs : List (Ad × Ad), qs.Perm xs ∧ qs.Pairwise (fun x y => x.1.n ≤ y.1.n) ∧ OwnS eRg B w' v qs ∧ Below B w w' := by
  by_cases h0 : xs = []
  · subst h0
    obtain ⟨A, cap, rfl, hS⟩ := hown.sl
    refine (none_any Tryz.sortRange A cap _ w).mono ?_
    rintro e w' ⟨rfl, rfl⟩
    exact ⟨rfl, [], List.Perm.refl _, List.Pairwise.nil, ⟨A, cap, rfl, hS, fun g off hA => by cases A with | none => cases hA | some a => exact (by have := hown.lt a.block rfl; cases hA; exact this)⟩, Below.refl _ _⟩
  · obtain ⟨ys, rfl⟩ := lift_U xs hU
    obtain ⟨g, cap, rfl, hg1, hg2, hcap, _⟩ := hown.form h0
    have hH := holdsK_own (E := eRg) hown
    have eg : ∀ args w, (callFunc 177 args).run Tryz.prog w = .ok (.enter 177 args) w := enters_of Tryz.func177 (by kernel_rfl) rfl
    have hcon := AnyQ.slices_SortFunc Tryz.sortRange 6 Tryz.isAgg49 Tryz.sizeOf49 (onU eRg).enc (onU eRg).len (onU eRg).one cmpU2 swo_cmpU2 177 #[] g 0 cap ys.toArray w eg (lays_sortRg_any g 0 ys.toArray.size w) hH hg2 (by simp at hn ⊢; omega)
    change Calls Tryz.prog 176 _ _ _ at hcon
    have e0 : ys.toArray.size = ys.length := by simp
    rw [e0] at hcon
    rw [List.length_map]
    refine hcon.mono ?_
    rintro e w' ⟨rfl, d', m, os, hp, hs, rfl⟩
    rw [← e0] at hp
    have hsz : d'.size = ys.length := hp.1.trans e0
    refine ⟨rfl, d'.toList.map (·.1), (perm_ofU hp).map _, pairwise_ofU hsz hs, ?_, below_sortK hg1 hb⟩
    refine ⟨some ⟨g, 0, none⟩, cap, by simp [hsz], ?_, fun g' off hA => by cases hA; exact ⟨hg1, Nat.lt_of_lt_of_le hg2 (size_sortWorldK_c _ _ _ _ _ _ _ _)⟩⟩
    exact sorted_slE (holdsK_sortWorldK_c _ _ _ _ _ _ _ _ _ hH hg2 hp.1) (Nat.lt_of_lt_of_le hg2 (size_sortWorldK_c _ _ _ _ _ _ _ _)) (by simp at hcap; omega)

theorem lays_sortSp_any (blk off size : Nat) (w : World) : CmpLays Tryz.prog 183 #[] (onU eSp).enc (onU eSp).k cmpU2 blk off size w :=
  fun _ _ _ _ x y => (joined1_d x.1 y.1 _ x.2.1 y.2.1).mono fun _ _ h => ⟨h.1, h.2.grows⟩

set_option maxHeartbeats 2000000 in
set_option maxRecDepth 100000 in
theorem sortSp_any (B : Nat) (v : Value) (xs : List (Ad × Ad)) (w : World) (hown : OwnE eSp 103 B w v xs) (hU : ∀ x ∈ xs, x.1.U ∧ x.2.U) (hb : B ≤ w.heap.size) (hn : xs.length ≤ 1000000) :
    Calls Tryz.prog 182 #[v, .func (.func 183) #[] #[]] w fun e w' => e = .returned (.tuple #[]) ∧ ∃ qs : List (Ad × Ad), qs.Perm xs ∧ qs.Pairwise (fun x y => x.1.n ≤ y.1.n) ∧ OwnS eSp B w' v qs ∧ Below B w w' := by
  by_cases h0 : xs = []
  · subst h0
    obtain ⟨A, cap, rfl, hS⟩ := hown.sl
    refine (none_any Tryz.sortSpan A cap _ w).mono ?_
    rintro e w' ⟨rfl, rfl⟩
    exact ⟨rfl, [], List.Perm.refl _, List.Pairwise.nil, ⟨A, cap, rfl, hS, fun g off hA => by cases A with | none => cases hA | some a => exact (by have := hown.lt a.block rfl; cases hA; exact this)⟩, Below.refl _ _⟩
  · obtain ⟨ys, rfl⟩ := lift_U xs hU
    obtain ⟨g, cap, rfl, hg1, hg2, hcap, _⟩ := hown.form h0
    have hH := holdsK_own (E := eSp) hown
    have eg : ∀ args w, (callFunc 183 args).run Tryz.prog w = .ok (.enter 183 args) w := enters_of Tryz.func183 (by kernel_rfl) rfl
    have hcon := AnyQ.slices_SortFunc Tryz.sortSpan 18 Tryz.isAgg103 Tryz.sizeOf103 (onU eSp).enc (onU eSp).len (onU eSp).one cmpU2 swo_cmpU2 183 #[] g 0 cap ys.toArray w eg (lays_sortSp_any g 0 ys.toArray.size w) hH hg2 (by simp at hn ⊢; omega)
    change Calls Tryz.prog 182 _ _ _ at hcon
    have e0 : ys.toArray.size = ys.length := by simp
    rw [e0] at hcon
    rw [List.length_map]
    refine hcon.mono ?_
    rintro e w' ⟨rfl, d', m, os, hp, hs, rfl⟩
    rw [← e0] at hp
    have hsz : d'.size = ys.length := hp.1.trans e0
    refine ⟨rfl, d'.toList.map (·.1), (perm_ofU hp).map _, pairwise_ofU hsz hs, ?_, below_sortK hg1 hb⟩
    refine ⟨some ⟨g, 0, none⟩, cap, by simp [hsz], ?_, fun g' off hA => by cases hA; exact ⟨hg1, Nat.lt_of_lt_of_le hg2 (size_sortWorldK_c _ _ _ _ _ _ _ _)⟩⟩
    exact sorted_slE (holdsK_sortWorldK_c _ _ _ _ _ _ _ _ _ hH hg2 hp.1) (Nat.lt_of_lt_of_le hg2 (size_sortWorldK_c _ _ _ _ _ _ _ _)) (by simp at hcap; omega)
end Go.Proofs.YthjhokicojgpbaaGreatDoor
