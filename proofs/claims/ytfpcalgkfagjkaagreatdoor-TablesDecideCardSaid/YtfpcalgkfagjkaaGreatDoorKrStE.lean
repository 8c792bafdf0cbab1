/- Structs that are loaded, stored and built whole: addresses, prefixes, ranges, wide numbers, spans. -/
import Derived.Test.YtfpcalgkfagjkaaGreatDoorKrMdB
import Derived.Test.YtfpcalgkfagjkaaGreatDoorKrStD
import Derived.Test.YtfpcalgkfagjkaaGreatDoorKrWaysD
import Derived.Test.YtfpcalgkfagjkaaGreatDoorKrPfxA
import Derived.Deep.MidRow
set_option linter.unusedVariables false
namespace Go.Proofs.YtfpcalgkfagjkaaGreatDoor
open Go.RowKit

def adC (a : Ad) : List Value := [.bool a.s, .int .u64 a.hi, .int .u64 a.lo]
def pfC (p : Pf) : List Value := [.bool p.1.s, .int .u64 p.1.hi, .int .u64 p.1.lo, .int .i64 p.2]
def rgC (x : Ad × Ad) : List Value := [.bool x.1.s, .int .u64 x.1.hi, .int .u64 x.1.lo, .bool x.2.s, .int .u64 x.2.hi, .int .u64 x.2.lo]
def digN (W : Nat) : List Value := [.int .i64 (dig W 0), .int .i64 (dig W 1), .int .i64 (dig W 2), .int .i64 (dig W 3), .int .i64 (dig W 4), .int .i64 (dig W 5), .int .i64 (dig W 6), .int .i64 (dig W 7), .int .i64 (dig W 8)]
abbrev adA (a : Ad) : Value := .agg (adC a).toArray
abbrev pfA (p : Pf) : Value := .agg (pfC p).toArray
abbrev rgA (x : Ad × Ad) : Value := .agg (rgC x).toArray
abbrev wA (W : Nat) : Value := .agg (digN W).toArray
theorem adC_len (a : Ad) : (adC a).length = 3 := rfl
theorem pfC_len (p : Pf) : (pfC p).length = 4 := rfl
theorem rgC_len (x : Ad × Ad) : (rgC x).length = 6 := rfl
theorem digN_len (W : Nat) : (digN W).length = 9 := rfl
theorem adC_one (a : Ad) : ∀ v ∈ adC a, v.oneCell' = true := by intro v hv; simp [adC] at hv; rcases hv with rfl | rfl | rfl <;> rfl
theorem pfC_one (p : Pf) : ∀ v ∈ pfC p, v.oneCell' = true := by intro v hv; simp [pfC] at hv; rcases hv with rfl | rfl | rfl | rfl <;> rfl
theorem rgC_one (x : Ad × Ad) : ∀ v ∈ rgC x, v.oneCell' = true := by intro v hv; simp [rgC] at hv; rcases hv with rfl | rfl | rfl | rfl | rfl | rfl <;> rfl
theorem digN_one (W : Nat) : ∀ v ∈ digN W, v.oneCell' = true := by
  intro v hv
  simp [digN] at hv
  rcases hv with rfl | rfl | rfl | rfl | rfl | rfl | rfl | rfl | rfl <;> rfl
def eAd : Enc Ad := ⟨adC, 3, by decide, adC_len, adC_one⟩
def ePf : Enc Pf := ⟨pfC, 4, by decide, pfC_len, pfC_one⟩
def eRg : Enc (Ad × Ad) := ⟨rgC, 6, by decide, rgC_len, rgC_one⟩
def ldT (t : TypeId) (p : Value) : Sem Next := do
  let x ← Instr.loadAt t p
  pure (.value x)
def stT (t : TypeId) (p x : Value) : Sem Next := do
  Instr.storeAt t p x
  pure .skip
section
variable (ρ : Operand → Value) (dst : Option Tmp) (x y : Operand) (ty : TypeId) (pos : String) (after : Array Edge) (guard : Option (Nat × Bool))
@[go_sem ↓ high] theorem execOp_ldAd : execOp ρ ⟨dst, .load 30 x, ty, pos, after, guard⟩ = ldT 30 (ρ x) := rfl
@[go_sem high] theorem execOp_ldAd' : execOp ρ ⟨dst, .load 30 x, ty, pos, after, guard⟩ = ldT 30 (ρ x) := rfl
@[go_sem ↓ high] theorem execOp_ldPf : execOp ρ ⟨dst, .load 35 x, ty, pos, after, guard⟩ = ldT 35 (ρ x) := rfl
@[go_sem high] theorem execOp_ldPf' : execOp ρ ⟨dst, .load 35 x, ty, pos, after, guard⟩ = ldT 35 (ρ x) := rfl
@[go_sem ↓ high] theorem execOp_ldRg : execOp ρ ⟨dst, .load 95 x, ty, pos, after, guard⟩ = ldT 95 (ρ x) := rfl
@[go_sem high] theorem execOp_ldRg' : execOp ρ ⟨dst, .load 95 x, ty, pos, after, guard⟩ = ldT 95 (ρ x) := rfl
@[go_sem ↓ high] theorem execOp_ldW : execOp ρ ⟨dst, .load 77 x, ty, pos, after, guard⟩ = ldT 77 (ρ x) := rfl
@[go_sem high] theorem execOp_ldW' : execOp ρ ⟨dst, .load 77 x, ty, pos, after, guard⟩ = ldT 77 (ρ x) := rfl
@[go_sem ↓ high] theorem execOp_stAd : execOp ρ ⟨dst, .store 30 x y, ty, pos, after, guard⟩ = stT 30 (ρ x) (ρ y) := rfl
@[go_sem high] theorem execOp_stAd' : execOp ρ ⟨dst, .store 30 x y, ty, pos, after, guard⟩ = stT 30 (ρ x) (ρ y) := rfl
@[go_sem ↓ high] theorem execOp_stPf : execOp ρ ⟨dst, .store 35 x y, ty, pos, after, guard⟩ = stT 35 (ρ x) (ρ y) := rfl
@[go_sem high] theorem execOp_stPf' : execOp ρ ⟨dst, .store 35 x y, ty, pos, after, guard⟩ = stT 35 (ρ x) (ρ y) := rfl
@[go_sem ↓ high] theorem execOp_stRg : execOp ρ ⟨dst, .store 95 x y, ty, pos, after, guard⟩ = stT 95 (ρ x) (ρ y) := rfl
@[go_sem high] theorem execOp_stRg' : execOp ρ ⟨dst, .store 95 x y, ty, pos, after, guard⟩ = stT 95 (ρ x) (ρ y) := rfl
@[go_sem ↓ high] theorem execOp_stW : execOp ρ ⟨dst, .store 77 x y, ty, pos, after, guard⟩ = stT 77 (ρ x) (ρ y) := rfl
@[go_sem high] theorem execOp_stW' : execOp ρ ⟨dst, .store 77 x y, ty, pos, after, guard⟩ = stT 77 (ρ x) (ρ y) := rfl
end

structure RowT (t : TypeId) (k : Nat) : Prop where
  row : ∃ d, Tryz.prog.underlying t = some d ∧ d.isRow = true
  size : (Tryz.prog.info? t).map (·.size) = some k
theorem rowAd : RowT 30 3 := ⟨⟨_, Tryz.underlying30, rfl⟩, by kernel_rfl⟩
theorem rowPf : RowT 35 4 := ⟨⟨_, Tryz.underlying35, rfl⟩, by kernel_rfl⟩
theorem rowRg : RowT 95 6 := ⟨⟨_, Tryz.underlying95, rfl⟩, by kernel_rfl⟩
theorem rowW : RowT 77 9 := ⟨⟨_, Tryz.underlying77, rfl⟩, by kernel_rfl⟩
theorem ldT_run {t : TypeId} {k : Nat} (T : RowT t k) {w : World} {g o : Nat} {cs : List Value} (hl : cs.length = k) (hc : w.rangeAt g o cs) :
    (ldT t (.pointer (some ⟨g, o, none⟩))).run Tryz.prog w = .ok (.value (.agg cs.toArray)) w := by
  obtain ⟨d, hu, hd⟩ := T.row
  unfold ldT
  have := run_loadAt_mid (P := Tryz.prog) w g o t cs d hc hu hd (by rw [T.size, hl])
  simp only [Sem.run_bind, this, Result.andThen_ok, Sem.run_pure]
theorem Blk.range {w : World} {p : Nat} {cs : List Value} {t : TypeId} (h : Blk w p cs t) (o : Nat) (ds rest : List Value) (hd : cs.drop o = ds ++ rest) : w.rangeAt p o ds := by
  intro j v hv
  refine h.cell ?_
  have hj := (List.getElem?_eq_some_iff.1 hv).1
  have : (cs.drop o)[j]? = some v := by rw [hd, List.getElem?_append_left hj]; exact hv
  rwa [List.getElem?_drop] at this
theorem Blk.ld {t : TypeId} {k : Nat} (T : RowT t k) {w : World} {p : Nat} {cs : List Value} {te : TypeId} (h : Blk w p cs te) (hl : cs.length = k) :
    (ldT t (.pointer (some ⟨p, 0, none⟩))).run Tryz.prog w = .ok (.value (.agg cs.toArray)) w := ldT_run T hl (h.range 0 cs [] (by simp))
theorem Blk.ldAt {t : TypeId} {k : Nat} (T : RowT t k) {w : World} {p : Nat} {cs : List Value} {te : TypeId} (h : Blk w p cs te) (o : Nat) (ds rest : List Value) (hl : ds.length = k) (hd : cs.drop o = ds ++ rest) :
    (ldT t (.pointer (some ⟨p, o, none⟩))).run Tryz.prog w = .ok (.value (.agg ds.toArray)) w := ldT_run T hl (h.range o ds rest hd)
theorem SlE.range {α : Type} {E : Enc α} {w : World} {g off n cap : Nat} {xs : List α} (h : SlE E w (some ⟨g, off, none⟩) n cap xs) {k : Nat} {x : α} (hx : xs[k]? = some x) : w.rangeAt g (off + k * E.k) (E.enc x) := by
  intro i v hv
  have hk := (List.getElem?_eq_some_iff.1 hx).1
  obtain ⟨h1, _, _, h4⟩ := h
  rcases h4 with h4 | ⟨g', off', hA, _, hc⟩
  · omega
  · cases hA; exact hc k x hx i v hv
theorem SlE.ld {α : Type} {E : Enc α} {t : TypeId} (T : RowT t E.k) {w : World} {g off n cap : Nat} {xs : List α} (h : SlE E w (some ⟨g, off, none⟩) n cap xs) {k : Nat} {x : α} (hx : xs[k]? = some x) :
    (ldT t (.pointer (some ⟨g, off + k * E.k, none⟩))).run Tryz.prog w = .ok (.value (.agg (E.enc x).toArray)) w := ldT_run T (E.len x) (h.range hx)
theorem SlE.ldAt {α : Type} {E : Enc α} {t : TypeId} {m : Nat} (T : RowT t m) {w : World} {g off n cap : Nat} {xs : List α} (h : SlE E w (some ⟨g, off, none⟩) n cap xs) {k : Nat} {x : α} (hx : xs[k]? = some x) (o : Nat) (ds rest : List Value) (hl : ds.length = m) (hd : (E.enc x).drop o = ds ++ rest) :
    (ldT t (.pointer (some ⟨g, off + k * E.k + o, none⟩))).run Tryz.prog w = .ok (.value (.agg ds.toArray)) w := by
  refine ldT_run T hl (fun j v hv => ?_)
  have hj := (List.getElem?_eq_some_iff.1 hv).1
  have h1 : ((E.enc x).drop o)[j]? = some v := by rw [hd, List.getElem?_append_left hj]; exact hv
  rw [List.getElem?_drop] at h1
  have := h.range hx (o + j) v h1
  rwa [← Nat.add_assoc] at this

theorem setRow_new (w : World) (zs cs : Array Value) (t : TypeId) : (w.alloc (.cells zs t)).setRow w.heap.size cs = w.alloc (.cells cs t) := by
  have h : ∀ (a b : World), a.heap = b.heap → a.tape = b.tape → a.drawn = b.drawn → a.os = b.os → a.output = b.output → a = b := by
    intro a b h1 h2 h3 h4 h5; cases a; cases b; simp_all
  refine h _ _ ?_ rfl rfl rfl rfl
  apply Array.ext_getElem?
  intro i
  by_cases hi : i = w.heap.size
  · subst hi
    rw [setRow_heap _ _ _ _ _ _ (heap_alloc_new w _), heap_alloc_new w _]
  · rw [setRow_other _ _ _ _ hi]
    rcases Nat.lt_or_ge i w.heap.size with h1 | h1
    · rw [Below.heap_alloc _ _ _ h1, Below.heap_alloc _ _ _ h1]
    · rw [Array.getElem?_eq_none (by simp; omega), Array.getElem?_eq_none (by simp; omega)]
theorem stT_row {t te : TypeId} {k : Nat} (T : RowT t k) {w : World} {p : Nat} {old cs : List Value} (h : Blk w p old te) (ho : old.length = k) (hl : cs.length = k) (h1 : ∀ v ∈ cs, v.oneCell' = true) :
    (stT t (.pointer (some ⟨p, 0, none⟩)) (.agg cs.toArray)).run Tryz.prog w = .ok .skip (w.setRow p cs.toArray) := by
  obtain ⟨d, hu, hd⟩ := T.row
  unfold stT
  have hs := run_storeVar_row (P := Tryz.prog) w p te t old.toArray cs.toArray h (by rw [T.size]; simp [hl]) (by simp [ho, hl]) (all_oneCell_toArray h1)
  simp only [Instr.storeAt, Instr.sureAddr, Sem.run_bind, Sem.run_pure, Result.andThen_ok, hs]
theorem stT_new {t te : TypeId} {k : Nat} (T : RowT t k) (w : World) (b : Nat) (hb : b = w.heap.size) (zs cs : List Value) (hz : zs.length = k) (hl : cs.length = k) (h1 : ∀ v ∈ cs, v.oneCell' = true) :
    (stT t (.pointer (some ⟨b, 0, none⟩)) (.agg cs.toArray)).run Tryz.prog (w.alloc (.cells zs.toArray te)) = .ok .skip (w.alloc (.cells cs.toArray te)) := by
  subst hb
  rw [stT_row T (Blk.new w zs te) hz hl h1, setRow_new]
def bdT (t : TypeId) (x y : Value) : Sem Next := do
  let v ← Instr.build t #[(0, x), (1, y)]
  pure (.value v)
section
variable (ρ : Operand → Value) (dst : Option Tmp) (x y : Operand) (ty : TypeId) (pos : String) (after : Array Edge) (guard : Option (Nat × Bool))
@[go_sem ↓ high] theorem execOp_bdPf : execOp ρ ⟨dst, .build 35 #[(0, x), (1, y)], ty, pos, after, guard⟩ = bdT 35 (ρ x) (ρ y) := by
  simp only [execOp, bdT, List.map_toArray, List.map_cons, List.map_nil]
@[go_sem high] theorem execOp_bdPf' : execOp ρ ⟨dst, .build 35 #[(0, x), (1, y)], ty, pos, after, guard⟩ = bdT 35 (ρ x) (ρ y) := by
  simp only [execOp, bdT, List.map_toArray, List.map_cons, List.map_nil]
@[go_sem ↓ high] theorem execOp_bdRg : execOp ρ ⟨dst, .build 95 #[(0, x), (1, y)], ty, pos, after, guard⟩ = bdT 95 (ρ x) (ρ y) := by
  simp only [execOp, bdT, List.map_toArray, List.map_cons, List.map_nil]
@[go_sem high] theorem execOp_bdRg' : execOp ρ ⟨dst, .build 95 #[(0, x), (1, y)], ty, pos, after, guard⟩ = bdT 95 (ρ x) (ρ y) := by
  simp only [execOp, bdT, List.map_toArray, List.map_cons, List.map_nil]
end
theorem bdT_run {t : TypeId} {x y : Value} {cells : Array Value} (h : Tryz.prog.built t [(0, x), (1, y)] = some cells) (w : World) : (bdT t x y).run Tryz.prog w = .ok (.value (.agg cells)) w := by
  unfold bdT
  simp only [Sem.run_bind, run_build (P := Tryz.prog) w t #[(0, x), (1, y)] cells h, Result.andThen_ok, Sem.run_pure]
@[go_sem] theorem run_bdPf (a : Ad) (n : Int) (w : World) : (bdT 35 (.agg (adC a).toArray) (.int .i64 n)).run Tryz.prog w = .ok (.value (.agg (pfC (a, n)).toArray)) w := bdT_run (by kernel_rfl) w
@[go_sem] theorem run_bdRg (a b : Ad) (w : World) : (bdT 95 (.agg (adC a).toArray) (.agg (adC b).toArray)).run Tryz.prog w = .ok (.value (.agg (rgC (a, b)).toArray)) w := bdT_run (by kernel_rfl) w
end Go.Proofs.YtfpcalgkfagjkaaGreatDoor
