/- Nodes of nothing that are checked: a list. -/
import Derived.Test.YtfbggfpihiegpaaGreatDoorKpGzA
import Derived.Test.YtfbggfpihiegpaaGreatDoorKpMdD
import Derived.Test.YtfbggfpihiegpaaGreatDoorKpStD
import Derived.Test.YtfbggfpihiegpaaGreatDoorKpWaysD
import Derived.Test.YtfbggfpihiegpaaGreatDoorKpPfxA
import Derived.Deep.MidRow
import Derived.Great.BuildSlice
import Derived.Laws.EntriesVeiled
import Derived.Test.YtfbggfpihiegpaaGreatDoorKpWaysB
set_option linter.unusedVariables false
set_option linter.unusedSimpArgs false
set_option maxRecDepth 100000
namespace Go.Proofs.YtfbggfpihiegpaaGreatDoor
open Go.RowKit

def adC (a : Ad) : List Value := [.bool a.s, .int .u64 a.hi, .int .u64 a.lo]
def pfC (p : Pf) : List Value := [.bool p.1.s, .int .u64 p.1.hi, .int .u64 p.1.lo, .int .i64 p.2]
def rgC (x : Ad × Ad) : List Value := [.bool x.1.s, .int .u64 x.1.hi, .int .u64 x.1.lo, .bool x.2.s, .int .u64 x.2.hi, .int .u64 x.2.lo]
def digN (W : Nat) : List Value := [.int .i64 (dig W 0), .int .i64 (dig W 1), .int .i64 (dig W 2), .int .i64 (dig W 3), .int .i64 (dig W 4), .int .i64 (dig W 5), .int .i64 (dig W 6), .int .i64 (dig W 7), .int .i64 (dig W 8)]
abbrev adA (a : Ad) : Value := .agg (adC a).toArray
abbrev pfA (p : Pf) : Value := .agg (pfC p).toArray
abbrev rgA (x : Ad × Ad) : Value := .agg (rgC x).toArray
abbrev wA (W : Nat) : Value := .agg (digN W).toArray
theorem adC_len (a : Ad) : (adC a).length = 3 := rfl
theorem pfC_len (p : Pf) : (pfC p).length = 4 := rfl
theorem rgC_len (x : Ad × Ad) : (rgC x).length = 6 := rfl
theorem adC_one (a : Ad) : ∀ v ∈ adC a, v.oneCell' = true := by intro v hv; simp [adC] at hv; rcases hv with rfl | rfl | rfl <;> rfl
theorem pfC_one (p : Pf) : ∀ v ∈ pfC p, v.oneCell' = true := by intro v hv; simp [pfC] at hv; rcases hv with rfl | rfl | rfl | rfl <;> rfl
theorem rgC_one (x : Ad × Ad) : ∀ v ∈ rgC x, v.oneCell' = true := by intro v hv; simp [rgC] at hv; rcases hv with rfl | rfl | rfl | rfl | rfl | rfl <;> rfl
def eAd : Enc Ad := ⟨adC, 3, by decide, adC_len, adC_one⟩
def ePf : Enc Pf := ⟨pfC, 4, by decide, pfC_len, pfC_one⟩
def eRg : Enc (Ad × Ad) := ⟨rgC, 6, by decide, rgC_len, rgC_one⟩
def ldT (t : TypeId) (p : Value) : Sem Next := do
  let x ← Instr.loadAt t p
  pure (.value x)
def stT (t : TypeId) (p x : Value) : Sem Next := do
  Instr.storeAt t p x
  pure .skip
section
variable (ρ : Operand → Value) (dst : Option Tmp) (x y : Operand) (ty : TypeId) (pos : String) (after : Array Edge) (guard : Option (Nat × Bool))
@[go_sem ↓ high] theorem execOp_ldAd : execOp ρ ⟨dst, .load 30 x, ty, pos, after, guard⟩ = ldT 30 (ρ x) := rfl
@[go_sem high] theorem execOp_ldAd' : execOp ρ ⟨dst, .load 30 x, ty, pos, after, guard⟩ = ldT 30 (ρ x) := rfl
@[go_sem ↓ high] theorem execOp_ldPf : execOp ρ ⟨dst, .load 41 x, ty, pos, after, guard⟩ = ldT 41 (ρ x) := rfl
@[go_sem high] theorem execOp_ldPf' : execOp ρ ⟨dst, .load 41 x, ty, pos, after, guard⟩ = ldT 41 (ρ x) := rfl
@[go_sem ↓ high] theorem execOp_ldRg : execOp ρ ⟨dst, .load 107 x, ty, pos, after, guard⟩ = ldT 107 (ρ x) := rfl
@[go_sem high] theorem execOp_ldRg' : execOp ρ ⟨dst, .load 107 x, ty, pos, after, guard⟩ = ldT 107 (ρ x) := rfl
@[go_sem ↓ high] theorem execOp_ldW : execOp ρ ⟨dst, .load 97 x, ty, pos, after, guard⟩ = ldT 97 (ρ x) := rfl
@[go_sem high] theorem execOp_ldW' : execOp ρ ⟨dst, .load 97 x, ty, pos, after, guard⟩ = ldT 97 (ρ x) := rfl
@[go_sem ↓ high] theorem execOp_stAd : execOp ρ ⟨dst, .store 30 x y, ty, pos, after, guard⟩ = stT 30 (ρ x) (ρ y) := rfl
@[go_sem high] theorem execOp_stAd' : execOp ρ ⟨dst, .store 30 x y, ty, pos, after, guard⟩ = stT 30 (ρ x) (ρ y) := rfl
@[go_sem ↓ high] theorem execOp_stPf : execOp ρ ⟨dst, .store 41 x y, ty, pos, after, guard⟩ = stT 41 (ρ x) (ρ y) := rfl
@[go_sem high] theorem execOp_stPf' : execOp ρ ⟨dst, .store 41 x y, ty, pos, after, guard⟩ = stT 41 (ρ x) (ρ y) := rfl
@[go_sem ↓ high] theorem execOp_stRg : execOp ρ ⟨dst, .store 107 x y, ty, pos, after, guard⟩ = stT 107 (ρ x) (ρ y) := rfl
@[go_sem high] theorem execOp_stRg' : execOp ρ ⟨dst, .store 107 x y, ty, pos, after, guard⟩ = stT 107 (ρ x) (ρ y) := rfl
@[go_sem ↓ high] theorem execOp_stW : execOp ρ ⟨dst, .store 97 x y, ty, pos, after, guard⟩ = stT 97 (ρ x) (ρ y) := rfl
@[go_sem high] theorem execOp_stW' : execOp ρ ⟨dst, .store 97 x y, ty, pos, after, guard⟩ = stT 97 (ρ x) (ρ y) := rfl
end

structure RowT (t : TypeId) (k : Nat) : Prop where
  row : ∃ d, Tryz.prog.underlying t = some d ∧ d.isRow = true
  size : (Tryz.prog.info? t).map (·.size) = some k
theorem rowAd : RowT 30 3 := ⟨⟨_, Tryz.underlying30, rfl⟩, by kernel_rfl⟩
theorem rowPf : RowT 41 4 := ⟨⟨_, Tryz.underlying41, rfl⟩, by kernel_rfl⟩
theorem rowRg : RowT 107 6 := ⟨⟨_, Tryz.underlying107, rfl⟩, by kernel_rfl⟩
theorem ldT_run {t : TypeId} {k : Nat} (T : RowT t k) {w : World} {g o : Nat} {cs : List Value} (hl : cs.length = k) (hc : w.rangeAt g o cs) :
    (ldT t (.pointer (some ⟨g, o, none⟩))).run Tryz.prog w = .ok (.value (.agg cs.toArray)) w := by
  obtain ⟨d, hu, hd⟩ := T.row
  unfold ldT
  have := run_loadAt_mid (P := Tryz.prog) w g o t cs d hc hu hd (by rw [T.size, hl])
  simp only [Sem.run_bind, this, Result.andThen_ok, Sem.run_pure]
theorem Blk.range {w : World} {p : Nat} {cs : List Value} {t : TypeId} (h : Blk w p cs t) (o : Nat) (ds rest : List Value) (hd : cs.drop o = ds ++ rest) : w.rangeAt p o ds := by
  intro j v hv
  refine h.cell ?_
  have hj := (List.getElem?_eq_some_iff.1 hv).1
  have : (cs.drop o)[j]? = some v := by rw [hd, List.getElem?_append_left hj]; exact hv
  rwa [List.getElem?_drop] at this
theorem Blk.ld {t : TypeId} {k : Nat} (T : RowT t k) {w : World} {p : Nat} {cs : List Value} {te : TypeId} (h : Blk w p cs te) (hl : cs.length = k) :
    (ldT t (.pointer (some ⟨p, 0, none⟩))).run Tryz.prog w = .ok (.value (.agg cs.toArray)) w := ldT_run T hl (h.range 0 cs [] (by simp))
theorem Blk.ldAt {t : TypeId} {k : Nat} (T : RowT t k) {w : World} {p : Nat} {cs : List Value} {te : TypeId} (h : Blk w p cs te) (o : Nat) (ds rest : List Value) (hl : ds.length = k) (hd : cs.drop o = ds ++ rest) :
    (ldT t (.pointer (some ⟨p, o, none⟩))).run Tryz.prog w = .ok (.value (.agg ds.toArray)) w := ldT_run T hl (h.range o ds rest hd)
theorem SlE.range {α : Type} {E : Enc α} {w : World} {g off n cap : Nat} {xs : List α} (h : SlE E w (some ⟨g, off, none⟩) n cap xs) {k : Nat} {x : α} (hx : xs[k]? = some x) : w.rangeAt g (off + k * E.k) (E.enc x) := by
  intro i v hv
  have hk := (List.getElem?_eq_some_iff.1 hx).1
  obtain ⟨h1, _, _, h4⟩ := h
  rcases h4 with h4 | ⟨g', off', hA, _, hc⟩
  · omega
  · cases hA; exact hc k x hx i v hv
theorem SlE.ld {α : Type} {E : Enc α} {t : TypeId} (T : RowT t E.k) {w : World} {g off n cap : Nat} {xs : List α} (h : SlE E w (some ⟨g, off, none⟩) n cap xs) {k : Nat} {x : α} (hx : xs[k]? = some x) :
    (ldT t (.pointer (some ⟨g, off + k * E.k, none⟩))).run Tryz.prog w = .ok (.value (.agg (E.enc x).toArray)) w := ldT_run T (E.len x) (h.range hx)
theorem SlE.ldAt {α : Type} {E : Enc α} {t : TypeId} {m : Nat} (T : RowT t m) {w : World} {g off n cap : Nat} {xs : List α} (h : SlE E w (some ⟨g, off, none⟩) n cap xs) {k : Nat} {x : α} (hx : xs[k]? = some x) (o : Nat) (ds rest : List Value) (hl : ds.length = m) (hd : (E.enc x).drop o = ds ++ rest) :
    (ldT t (.pointer (some ⟨g, off + k * E.k + o, none⟩))).run Tryz.prog w = .ok (.value (.agg ds.toArray)) w := by
  refine ldT_run T hl (fun j v hv => ?_)
  have hj := (List.getElem?_eq_some_iff.1 hv).1
  have h1 : ((E.enc x).drop o)[j]? = some v := by rw [hd, List.getElem?_append_left hj]; exact hv
  rw [List.getElem?_drop] at h1
  have := h.range hx (o + j) v h1
  rwa [← Nat.add_assoc] at this

theorem setRow_new (w : World) (zs cs : Array Value) (t : TypeId) : (w.alloc (.cells zs t)).setRow w.heap.size cs = w.alloc (.cells cs t) := by
  have h : ∀ (a b : World), a.heap = b.heap → a.tape = b.tape → a.drawn = b.drawn → a.os = b.os → a.output = b.output → a = b := by
    intro a b h1 h2 h3 h4 h5; cases a; cases b; simp_all
  refine h _ _ ?_ rfl rfl rfl rfl
  apply Array.ext_getElem?
  intro i
  by_cases hi : i = w.heap.size
  · subst hi
    rw [setRow_heap _ _ _ _ _ _ (heap_alloc_new w _), heap_alloc_new w _]
  · rw [setRow_other _ _ _ _ hi]
    rcases Nat.lt_or_ge i w.heap.size with h1 | h1
    · rw [Below.heap_alloc _ _ _ h1, Below.heap_alloc _ _ _ h1]
    · rw [Array.getElem?_eq_none (by simp; omega), Array.getElem?_eq_none (by simp; omega)]
theorem stT_row {t te : TypeId} {k : Nat} (T : RowT t k) {w : World} {p : Nat} {old cs : List Value} (h : Blk w p old te) (ho : old.length = k) (hl : cs.length = k) (h1 : ∀ v ∈ cs, v.oneCell' = true) :
    (stT t (.pointer (some ⟨p, 0, none⟩)) (.agg cs.toArray)).run Tryz.prog w = .ok .skip (w.setRow p cs.toArray) := by
  obtain ⟨d, hu, hd⟩ := T.row
  unfold stT
  have hs := run_storeVar_row (P := Tryz.prog) w p te t old.toArray cs.toArray h (by rw [T.size]; simp [hl]) (by simp [ho, hl]) (all_oneCell_toArray h1)
  simp only [Instr.storeAt, Instr.sureAddr, Sem.run_bind, Sem.run_pure, Result.andThen_ok, hs]
theorem stT_new {t te : TypeId} {k : Nat} (T : RowT t k) (w : World) (b : Nat) (hb : b = w.heap.size) (zs cs : List Value) (hz : zs.length = k) (hl : cs.length = k) (h1 : ∀ v ∈ cs, v.oneCell' = true) :
    (stT t (.pointer (some ⟨b, 0, none⟩)) (.agg cs.toArray)).run Tryz.prog (w.alloc (.cells zs.toArray te)) = .ok .skip (w.alloc (.cells cs.toArray te)) := by
  subst hb
  rw [stT_row T (Blk.new w zs te) hz hl h1, setRow_new]
def bdT (t : TypeId) (x y : Value) : Sem Next := do
  let v ← Instr.build t #[(0, x), (1, y)]
  pure (.value v)
section
variable (ρ : Operand → Value) (dst : Option Tmp) (x y : Operand) (ty : TypeId) (pos : String) (after : Array Edge) (guard : Option (Nat × Bool))
@[go_sem ↓ high] theorem execOp_bdPf : execOp ρ ⟨dst, .build 41 #[(0, x), (1, y)], ty, pos, after, guard⟩ = bdT 41 (ρ x) (ρ y) := by
  simp only [execOp, bdT, List.map_toArray, List.map_cons, List.map_nil]
@[go_sem high] theorem execOp_bdPf' : execOp ρ ⟨dst, .build 41 #[(0, x), (1, y)], ty, pos, after, guard⟩ = bdT 41 (ρ x) (ρ y) := by
  simp only [execOp, bdT, List.map_toArray, List.map_cons, List.map_nil]
@[go_sem ↓ high] theorem execOp_bdRg : execOp ρ ⟨dst, .build 107 #[(0, x), (1, y)], ty, pos, after, guard⟩ = bdT 107 (ρ x) (ρ y) := by
  simp only [execOp, bdT, List.map_toArray, List.map_cons, List.map_nil]
@[go_sem high] theorem execOp_bdRg' : execOp ρ ⟨dst, .build 107 #[(0, x), (1, y)], ty, pos, after, guard⟩ = bdT 107 (ρ x) (ρ y) := by
  simp only [execOp, bdT, List.map_toArray, List.map_cons, List.map_nil]
end
theorem bdT_run {t : TypeId} {x y : Value} {cells : Array Value} (h : Tryz.prog.built t [(0, x), (1, y)] = some cells) (w : World) : (bdT t x y).run Tryz.prog w = .ok (.value (.agg cells)) w := by
  unfold bdT
  simp only [Sem.run_bind, run_build (P := Tryz.prog) w t #[(0, x), (1, y)] cells h, Result.andThen_ok, Sem.run_pure]
@[go_sem] theorem run_bdPf (a : Ad) (n : Int) (w : World) : (bdT 41 (.agg (adC a).toArray) (.int .i64 n)).run Tryz.prog w = .ok (.value (.agg (pfC (a, n)).toArray)) w := bdT_run (by kernel_rfl) w
@[go_sem] theorem run_bdRg (a b : Ad) (w : World) : (bdT 107 (.agg (adC a).toArray) (.agg (adC b).toArray)).run Tryz.prog w = .ok (.value (.agg (rgC (a, b)).toArray)) w := bdT_run (by kernel_rfl) w

structure Wh where
  kind : Int
  name : List UInt8
  net : Pf
structure Tg where
  what : Wh
  lo : Int
  hi : Int
structure Sl3 where
  A : Option Addr
  n : Nat
  c : Nat
structure Gt where
  s : Sl3
  d : Sl3
  proto : Int
  ps : Sl3
abbrev slV (x : Sl3) : Value := .slice x.A x.n x.c
def whC (x : Wh) : List Value := [.int .i64 x.kind, .string ⟨x.name.toArray⟩] ++ pfC x.net
def tgC (x : Tg) : List Value := whC x.what ++ [.int .i64 x.lo, .int .i64 x.hi]
def gtC (x : Gt) : List Value := [slV x.s, slV x.d, .int .i64 x.proto, slV x.ps]
abbrev whA (x : Wh) : Value := .agg (whC x).toArray
abbrev tgA (x : Tg) : Value := .agg (tgC x).toArray
theorem whC_len (x : Wh) : (whC x).length = 6 := rfl
theorem tgC_len (x : Tg) : (tgC x).length = 8 := rfl
theorem gtC_len (x : Gt) : (gtC x).length = 4 := rfl
theorem gtC_one (x : Gt) : ∀ v ∈ gtC x, v.oneCell' = true := by
  intro v hv
  simp [gtC] at hv
  rcases hv with rfl | rfl | rfl | rfl <;> rfl
theorem whC_one (x : Wh) : ∀ v ∈ whC x, v.oneCell' = true := by
  intro v hv
  simp [whC, pfC] at hv
  rcases hv with rfl | rfl | rfl | rfl | rfl | rfl <;> rfl
theorem tgC_one (x : Tg) : ∀ v ∈ tgC x, v.oneCell' = true := by
  intro v hv
  simp [tgC, whC, pfC] at hv
  rcases hv with rfl | rfl | rfl | rfl | rfl | rfl | rfl | rfl <;> rfl
def eWh : Enc Wh := ⟨whC, 6, by decide, whC_len, whC_one⟩
def eTg : Enc Tg := ⟨tgC, 8, by decide, tgC_len, tgC_one⟩
def eGt : Enc Gt := ⟨gtC, 4, by decide, gtC_len, gtC_one⟩
def zGtC : List Value := [.slice none 0 0, .slice none 0 0, .int .i64 0, .slice none 0 0]
def zWhC : List Value := [.int .i64 0, .string ⟨#[]⟩, .bool false, .int .u64 0, .int .u64 0, .int .i64 0]
def zTgC : List Value := [.int .i64 0, .string ⟨#[]⟩, .bool false, .int .u64 0, .int .u64 0, .int .i64 0, .int .i64 0, .int .i64 0]
section
variable (ρ : Operand → Value) (dst : Option Tmp) (x y : Operand) (ty : TypeId) (pos : String) (after : Array Edge) (guard : Option (Nat × Bool))
@[go_sem ↓ high] theorem execOp_ldWh : execOp ρ ⟨dst, .load 222 x, ty, pos, after, guard⟩ = ldT 222 (ρ x) := rfl
@[go_sem high] theorem execOp_ldWh' : execOp ρ ⟨dst, .load 222 x, ty, pos, after, guard⟩ = ldT 222 (ρ x) := rfl
@[go_sem ↓ high] theorem execOp_stWh : execOp ρ ⟨dst, .store 222 x y, ty, pos, after, guard⟩ = stT 222 (ρ x) (ρ y) := rfl
@[go_sem high] theorem execOp_stWh' : execOp ρ ⟨dst, .store 222 x y, ty, pos, after, guard⟩ = stT 222 (ρ x) (ρ y) := rfl
@[go_sem ↓ high] theorem execOp_ldTg : execOp ρ ⟨dst, .load 230 x, ty, pos, after, guard⟩ = ldT 230 (ρ x) := rfl
@[go_sem high] theorem execOp_ldTg' : execOp ρ ⟨dst, .load 230 x, ty, pos, after, guard⟩ = ldT 230 (ρ x) := rfl
@[go_sem ↓ high] theorem execOp_stTg : execOp ρ ⟨dst, .store 230 x y, ty, pos, after, guard⟩ = stT 230 (ρ x) (ρ y) := rfl
@[go_sem high] theorem execOp_stTg' : execOp ρ ⟨dst, .store 230 x y, ty, pos, after, guard⟩ = stT 230 (ρ x) (ρ y) := rfl
@[go_sem ↓ high] theorem execOp_ldGt : execOp ρ ⟨dst, .load 233 x, ty, pos, after, guard⟩ = ldT 233 (ρ x) := rfl
@[go_sem high] theorem execOp_ldGt' : execOp ρ ⟨dst, .load 233 x, ty, pos, after, guard⟩ = ldT 233 (ρ x) := rfl
@[go_sem ↓ high] theorem execOp_stGt : execOp ρ ⟨dst, .store 233 x y, ty, pos, after, guard⟩ = stT 233 (ρ x) (ρ y) := rfl
@[go_sem high] theorem execOp_stGt' : execOp ρ ⟨dst, .store 233 x y, ty, pos, after, guard⟩ = stT 233 (ρ x) (ρ y) := rfl
@[go_sem ↓ high] theorem execOp_bdTg : execOp ρ ⟨dst, .build 230 #[(0, x), (1, y)], ty, pos, after, guard⟩ = bdT 230 (ρ x) (ρ y) := by
  simp only [execOp, bdT, List.map_toArray, List.map_cons, List.map_nil]
@[go_sem high] theorem execOp_bdTg' : execOp ρ ⟨dst, .build 230 #[(0, x), (1, y)], ty, pos, after, guard⟩ = bdT 230 (ρ x) (ρ y) := execOp_bdTg ρ dst x y ty pos after guard
@[go_sem ↓ high] theorem execOp_bdGt : execOp ρ ⟨dst, .build 233 #[(0, x), (1, y)], ty, pos, after, guard⟩ = bdT 233 (ρ x) (ρ y) := by
  simp only [execOp, bdT, List.map_toArray, List.map_cons, List.map_nil]
@[go_sem high] theorem execOp_bdGt' : execOp ρ ⟨dst, .build 233 #[(0, x), (1, y)], ty, pos, after, guard⟩ = bdT 233 (ρ x) (ρ y) := execOp_bdGt ρ dst x y ty pos after guard
end
theorem rowWh : RowT 222 6 := ⟨⟨_, Tryz.underlying222, rfl⟩, by kernel_rfl⟩
theorem rowTg : RowT 230 8 := ⟨⟨_, Tryz.underlying230, rfl⟩, by kernel_rfl⟩
@[go_sem] theorem run_bdTg (x : Wh) (a b : Int) (w : World) : (bdT 230 (.agg (whC x).toArray) (.agg #[.int .i64 a, .int .i64 b])).run Tryz.prog w = .ok (.value (.agg (tgC ⟨x, a, b⟩).toArray)) w := bdT_run (by kernel_rfl) w
theorem rowGt : RowT 233 4 := ⟨⟨_, Tryz.underlying233, rfl⟩, by kernel_rfl⟩
@[go_sem] theorem run_bdGt (s d : Sl3) (w : World) : (bdT 233 (slV s) (slV d)).run Tryz.prog w = .ok (.value (.agg (gtC ⟨s, d, 0, ⟨none, 0, 0⟩⟩).toArray)) w := bdT_run (by kernel_rfl) w
theorem infoGt : (Tryz.prog.info? 233).map (fun i => (i.zero, i.size, i.bytes)) = some (some (.agg zGtC.toArray), 4, 80) := by kernel_rfl
theorem tyeGt : Ty eGt 233 71 (.agg zGtC.toArray) 80 := ⟨Tryz.underlying71, infoGt, rfl, by decide⟩
theorem infoWh : (Tryz.prog.info? 222).map (fun i => (i.zero, i.size, i.bytes)) = some (some (.agg zWhC.toArray), 6, 56) := by kernel_rfl
theorem infoTg : (Tryz.prog.info? 230).map (fun i => (i.zero, i.size, i.bytes)) = some (some (.agg zTgC.toArray), 8, 72) := by kernel_rfl
theorem tyeWh : Ty eWh 222 218 (.agg zWhC.toArray) 56 := ⟨Tryz.underlying218, infoWh, rfl, by decide⟩
theorem tyeTg : Ty eTg 230 224 (.agg zTgC.toArray) 72 := ⟨Tryz.underlying224, infoTg, rfl, by decide⟩
def bsU (t : TypeId) (x : Value) : Sem Next := do
  let v ← Instr.buildSlice t 1 #[(0, x)]
  pure (.value v)
@[go_sem ↓ high] theorem execOp_bsWh (ρ : Operand → Value) (dst : Option Tmp) (x : Operand) (ty : TypeId) (pos : String) (after : Array Edge) (guard : Option (Nat × Bool)) : execOp ρ ⟨dst, .buildSlice 218 1 #[(0, x)], ty, pos, after, guard⟩ = bsU 218 (ρ x) := by
  simp only [execOp, bsU, List.map_toArray, List.map_cons, List.map_nil]
@[go_sem high] theorem execOp_bsWh' (ρ : Operand → Value) (dst : Option Tmp) (x : Operand) (ty : TypeId) (pos : String) (after : Array Edge) (guard : Option (Nat × Bool)) : execOp ρ ⟨dst, .buildSlice 218 1 #[(0, x)], ty, pos, after, guard⟩ = bsU 218 (ρ x) := execOp_bsWh ρ dst x ty pos after guard
@[go_sem] theorem run_bsWh (x : Wh) (w : World) : (bsU 218 (.agg (whC x).toArray)).run Tryz.prog w = .ok (.value (.slice (some ⟨w.heap.size, 0, none⟩) 1 1)) (w.alloc (.cells (whC x).toArray 222)) := by
  obtain ⟨i0, hi0, hz0, hz1, hz2⟩ := info_parts infoWh
  have hf : Instr.fill (fun i => some (i * 6, 6)) ((Array.range (1 * 6)).map ((Value.agg zWhC.toArray).cells[· % (Value.agg zWhC.toArray).cells.size]!)) [(0, .agg (whC x).toArray)] = some (whC x).toArray := by kernel_rfl
  unfold bsU
  simp only [Sem.run_bind, run_buildSlice (P := Tryz.prog) w 218 222 1 #[(0, .agg (whC x).toArray)] (whC x).toArray i0 (.agg zWhC.toArray) Tryz.underlying218 hi0 hz0 (by rw [hz1]; decide) (by rw [hz1]; decide) (by rw [hz1]; exact hf), Result.andThen_ok, Sem.run_pure]
@[go_sem ↓ high] theorem execOp_bsTg (ρ : Operand → Value) (dst : Option Tmp) (x : Operand) (ty : TypeId) (pos : String) (after : Array Edge) (guard : Option (Nat × Bool)) : execOp ρ ⟨dst, .buildSlice 224 1 #[(0, x)], ty, pos, after, guard⟩ = bsU 224 (ρ x) := by
  simp only [execOp, bsU, List.map_toArray, List.map_cons, List.map_nil]
@[go_sem high] theorem execOp_bsTg' (ρ : Operand → Value) (dst : Option Tmp) (x : Operand) (ty : TypeId) (pos : String) (after : Array Edge) (guard : Option (Nat × Bool)) : execOp ρ ⟨dst, .buildSlice 224 1 #[(0, x)], ty, pos, after, guard⟩ = bsU 224 (ρ x) := execOp_bsTg ρ dst x ty pos after guard
@[go_sem] theorem run_bsTg (x : Tg) (w : World) : (bsU 224 (.agg (tgC x).toArray)).run Tryz.prog w = .ok (.value (.slice (some ⟨w.heap.size, 0, none⟩) 1 1)) (w.alloc (.cells (tgC x).toArray 230)) := by
  obtain ⟨i0, hi0, hz0, hz1, hz2⟩ := info_parts infoTg
  have hf : Instr.fill (fun i => some (i * 8, 8)) ((Array.range (1 * 8)).map ((Value.agg zTgC.toArray).cells[· % (Value.agg zTgC.toArray).cells.size]!)) [(0, .agg (tgC x).toArray)] = some (tgC x).toArray := by kernel_rfl
  unfold bsU
  simp only [Sem.run_bind, run_buildSlice (P := Tryz.prog) w 224 230 1 #[(0, .agg (tgC x).toArray)] (tgC x).toArray i0 (.agg zTgC.toArray) Tryz.underlying224 hi0 hz0 (by rw [hz1]; decide) (by rw [hz1]; decide) (by rw [hz1]; exact hf), Result.andThen_ok, Sem.run_pure]
@[go_sem ↓ high] theorem execOp_bsGt (ρ : Operand → Value) (dst : Option Tmp) (x : Operand) (ty : TypeId) (pos : String) (after : Array Edge) (guard : Option (Nat × Bool)) : execOp ρ ⟨dst, .buildSlice 71 1 #[(0, x)], ty, pos, after, guard⟩ = bsU 71 (ρ x) := by
  simp only [execOp, bsU, List.map_toArray, List.map_cons, List.map_nil]
@[go_sem high] theorem execOp_bsGt' (ρ : Operand → Value) (dst : Option Tmp) (x : Operand) (ty : TypeId) (pos : String) (after : Array Edge) (guard : Option (Nat × Bool)) : execOp ρ ⟨dst, .buildSlice 71 1 #[(0, x)], ty, pos, after, guard⟩ = bsU 71 (ρ x) := execOp_bsGt ρ dst x ty pos after guard
@[go_sem] theorem run_bsGt (x : Gt) (w : World) : (bsU 71 (.agg (gtC x).toArray)).run Tryz.prog w = .ok (.value (.slice (some ⟨w.heap.size, 0, none⟩) 1 1)) (w.alloc (.cells (gtC x).toArray 233)) := by
  obtain ⟨i0, hi0, hz0, hz1, hz2⟩ := info_parts infoGt
  have hf : Instr.fill (fun i => some (i * 4, 4)) ((Array.range (1 * 4)).map ((Value.agg zGtC.toArray).cells[· % (Value.agg zGtC.toArray).cells.size]!)) [(0, .agg (gtC x).toArray)] = some (gtC x).toArray := by kernel_rfl
  unfold bsU
  simp only [Sem.run_bind, run_buildSlice (P := Tryz.prog) w 71 233 1 #[(0, .agg (gtC x).toArray)] (gtC x).toArray i0 (.agg zGtC.toArray) Tryz.underlying71 hi0 hz0 (by rw [hz1]; decide) (by rw [hz1]; decide) (by rw [hz1]; exact hf), Result.andThen_ok, Sem.run_pure]

set_option maxHeartbeats 1000000 in
theorem risingNilGr_any (A : Option Addr) (c : Nat) (most : Int) (f g : Value) (R : Option Addr) (rn rc : Nat) (w : World) (hm : 0 ≤ most) :
    Calls Tryz.prog 159 #[.slice A 0 c, .int .i64 most, f, g, .slice R rn rc] w fun e w' => e = .returned (.int .i64 0) ∧ w = w' := by
  have h1 : ¬ most < 0 := by omega
  have h2 : decide (most < 0) = false := decide_eq_false h1
  go_enter Tryz.func159, Tryz.ntmps159
  go_wp2_with fail
  refine wp_loop_rounds 1 ?_
  rw [rounds_succ]
  go_wp2_with fail
  go_ret
  exact ⟨rfl, rfl⟩

set_option maxHeartbeats 1000000 in
theorem risingNilHo_any (A : Option Addr) (c : Nat) (most : Int) (f g : Value) (R : Option Addr) (rn rc : Nat) (w : World) (hm : 0 ≤ most) :
    Calls Tryz.prog 165 #[.slice A 0 c, .int .i64 most, f, g, .slice R rn rc] w fun e w' => e = .returned (.int .i64 0) ∧ w = w' := by
  have h1 : ¬ most < 0 := by omega
  have h2 : decide (most < 0) = false := decide_eq_false h1
  go_enter Tryz.func165, Tryz.ntmps165
  go_wp2_with fail
  refine wp_loop_rounds 1 ?_
  rw [rounds_succ]
  go_wp2_with fail
  go_ret
  exact ⟨rfl, rfl⟩

set_option maxHeartbeats 1000000 in
theorem risingNilSt_any (A : Option Addr) (c : Nat) (most : Int) (f g : Value) (R : Option Addr) (rn rc : Nat) (w : World) (hm : 0 ≤ most) :
    Calls Tryz.prog 99 #[.slice A 0 c, .int .i64 most, f, g, .slice R rn rc] w fun e w' => e = .returned (.int .i64 0) ∧ w = w' := by
  have h1 : ¬ most < 0 := by omega
  have h2 : decide (most < 0) = false := decide_eq_false h1
  go_enter Tryz.func99, Tryz.ntmps99
  go_wp2_with fail
  refine wp_loop_rounds 1 ?_
  rw [rounds_succ]
  go_wp2_with fail
  go_ret
  exact ⟨rfl, rfl⟩

set_option maxHeartbeats 1000000 in
theorem eachNilTe_any (A : Option Addr) (c : Nat) (most : Int) (f : Value) (w : World) (hm : 0 ≤ most) :
    Calls Tryz.prog 171 #[.slice A 0 c, .int .i64 most, f] w fun e w' => e = .returned (.int .i64 0) ∧ w = w' := by
  have h1 : ¬ most < 0 := by omega
  have h2 : decide (most < 0) = false := decide_eq_false h1
  go_enter Tryz.func171, Tryz.ntmps171
  go_wp2_with fail
  refine wp_loop_rounds 1 ?_
  rw [rounds_succ]
  go_wp2_with fail
  go_ret
  exact ⟨rfl, rfl⟩

set_option maxHeartbeats 1000000 in
theorem keysNil_any (w : World) : Calls Tryz.prog 239 #[.slice none 0 0] w (GivesV (.int .i64 0) w) := by
  go_enter Tryz.func239, Tryz.ntmps239
  go_wp2_with fail
  refine (risingNilSt_any _ _ _ _ _ _ _ _ _ (by decide)).mono ?_
  rintro e w1 ⟨rfl, rfl⟩
  go_wp2_with fail
  go_ret
  exact ⟨rfl, Below.refl _ _⟩

set_option maxHeartbeats 1000000 in
theorem checkTestsNil_any (w : World) : Calls Tryz.prog 93 #[.slice none 0 0] w (GivesV (.int .i64 0) w) := by
  go_enter Tryz.func93, Tryz.ntmps93
  go_wp2_with fail
  refine (eachNilTe_any _ _ _ _ _ (by decide)).mono ?_
  rintro e w1 ⟨rfl, rfl⟩
  go_wp2_with fail
  go_ret
  exact ⟨rfl, Below.refl _ _⟩

set_option maxHeartbeats 1000000 in
theorem checkHostsNil_any (w : World) : Calls Tryz.prog 91 #[.slice none 0 0] w (GivesV (.int .i64 0) w) := by
  have hb : Below w.heap.size w (w.alloc (.cells #[.func (.func 166) #[] #[]] 251)) := (Below.refl _ _).alloc (Nat.le_refl _) _
  go_enter Tryz.func91, Tryz.ntmps91
  go_wp2_with fail
  refine (risingNilHo_any _ _ _ _ _ _ _ _ _ (by decide)).mono ?_
  rintro e w1 ⟨rfl, rfl⟩
  go_wp2_with fail
  go_ret
  exact ⟨rfl, hb⟩

theorem run_makeMapH {t k e : TypeId} (ht : Tryz.prog.underlying t = some (.map k e)) (w : World) : (Instr.makeMap t (some (.int .i64 0))).run Tryz.prog w = .ok (.map (some w.heap.size)) (w.alloc (.map #[] 0)) := by simp [Instr.makeMap, run_underlying ht, Result.andThen, asInt, asIntOf]
@[go_sem] theorem run_makeMapGr (w : World) : (Instr.makeMap 325 (some (.int .i64 0))).run Tryz.prog w = .ok (.map (some w.heap.size)) (w.alloc (.map #[] 0)) := run_makeMapH Tryz.underlying325 w
@[go_sem] theorem run_makeMapN (t : TypeId) (w : World) : (Instr.makeMap t none).run Tryz.prog w = .ok (.map (some w.heap.size)) (w.alloc (.map #[] 0)) := by simp [Instr.makeMap]

set_option maxHeartbeats 1000000 in
theorem groupsOfNil_any (w : World) : Calls Tryz.prog 230 #[.slice none 0 0] w (fun e w' => (∃ v, e = .returned v) ∧ Below w.heap.size w w') := by
  go_enter Tryz.func230, Tryz.ntmps230
  go_wp2_with fail
  refine wp_loop_rounds 1 ?_
  rw [rounds_succ]
  go_wp2_with fail
  go_ret
  exact ⟨⟨_, rfl⟩, (Below.refl _ _).alloc (Nat.le_refl _) _⟩

set_option maxHeartbeats 1000000 in
theorem checkInnerNil_any (w : World) : Calls Tryz.prog 162 #[.slice none 0 0] w (GivesV (.int .i64 0) w) := by
  go_enter Tryz.func162, Tryz.ntmps162
  go_wp2_with fail
  refine (groupsOfNil_any w).mono ?_
  rintro e w1 ⟨⟨v, rfl⟩, hb⟩
  go_wp2_with fail
  refine wp_loop_rounds 1 ?_
  rw [rounds_succ]
  go_wp2_with fail
  refine wp_loop_rounds 1 ?_
  rw [rounds_succ]
  go_wp2_with fail
  go_ret
  exact ⟨rfl, hb⟩

set_option maxHeartbeats 1000000 in
theorem checkGroupsNil_any (w : World) : Calls Tryz.prog 90 #[.slice none 0 0] w (GivesV (.int .i64 0) w) := by
  have hb : Below w.heap.size w (w.alloc (.cells #[.func (.func 160) #[] #[]] 247)) := (Below.refl _ _).alloc (Nat.le_refl _) _
  go_enter Tryz.func90, Tryz.ntmps90
  go_wp2_with fail
  refine (risingNilGr_any _ _ _ _ _ _ _ _ _ (by decide)).mono ?_
  rintro e w1 ⟨rfl, rfl⟩
  go_wp2_with fail
  refine (checkInnerNil_any _).mono ?_
  rintro e w2 ⟨rfl, hb2⟩
  replace hb := hb.trans (hb2.mono hb.size)
  clear hb2
  go_wp2_with fail
  go_ret
  exact ⟨rfl, hb⟩

set_option maxHeartbeats 1000000 in
theorem risingNilPe_any (A : Option Addr) (c : Nat) (most : Int) (f g : Value) (R : Option Addr) (rn rc : Nat) (w : World) (hm : 0 ≤ most) :
    Calls Tryz.prog 185 #[.slice A 0 c, .int .i64 most, f, g, .slice R rn rc] w fun e w' => e = .returned (.int .i64 0) ∧ w = w' := by
  have h1 : ¬ most < 0 := by omega
  have h2 : decide (most < 0) = false := decide_eq_false h1
  go_enter Tryz.func185, Tryz.ntmps185
  go_wp2_with fail
  refine wp_loop_rounds 1 ?_
  rw [rounds_succ]
  go_wp2_with fail
  go_ret
  exact ⟨rfl, rfl⟩

set_option maxHeartbeats 1000000 in
theorem eachNilFi_any (A : Option Addr) (c : Nat) (most : Int) (f : Value) (w : World) (hm : 0 ≤ most) :
    Calls Tryz.prog 190 #[.slice A 0 c, .int .i64 most, f] w fun e w' => e = .returned (.int .i64 0) ∧ w = w' := by
  have h1 : ¬ most < 0 := by omega
  have h2 : decide (most < 0) = false := decide_eq_false h1
  go_enter Tryz.func190, Tryz.ntmps190
  go_wp2_with fail
  refine wp_loop_rounds 1 ?_
  rw [rounds_succ]
  go_wp2_with fail
  go_ret
  exact ⟨rfl, rfl⟩

set_option maxHeartbeats 400000 in
theorem equalNilAd_any (w : World) : Calls Tryz.prog 188 #[.slice none 0 0, .slice none 0 0] w fun e w' => e = .returned (.bool true) ∧ w = w' := by
  go_enter Tryz.func188, Tryz.ntmps188
  go_wp2_with fail
  refine wp_loop_rounds 1 ?_
  rw [rounds_succ]
  go_wp2_with fail
  go_ret
  exact ⟨rfl, rfl⟩

set_option maxHeartbeats 400000 in
theorem equalNilPx_any (w : World) : Calls Tryz.prog 189 #[.slice none 0 0, .slice none 0 0] w fun e w' => e = .returned (.bool true) ∧ w = w' := by
  go_enter Tryz.func189, Tryz.ntmps189
  go_wp2_with fail
  refine wp_loop_rounds 1 ?_
  rw [rounds_succ]
  go_wp2_with fail
  go_ret
  exact ⟨rfl, rfl⟩

set_option maxHeartbeats 400000 in
theorem equalNilSt_any (w : World) : Calls Tryz.prog 187 #[.slice none 0 0, .slice none 0 0] w fun e w' => e = .returned (.bool true) ∧ w = w' := by
  go_enter Tryz.func187, Tryz.ntmps187
  go_wp2_with fail
  refine wp_loop_rounds 1 ?_
  rw [rounds_succ]
  go_wp2_with fail
  go_ret
  exact ⟨rfl, rfl⟩

@[go_sem] theorem run_makeMapPe (w : World) : (Instr.makeMap 167 (some (.int .i64 0))).run Tryz.prog w = .ok (.map (some w.heap.size)) (w.alloc (.map #[] 0)) := run_makeMapH Tryz.underlying167 w

set_option maxHeartbeats 400000 in
theorem byKeysNil_any (w : World) : Calls Tryz.prog 103 #[.slice none 0 0] w (fun e w' => e = .returned (.map (some w.heap.size)) ∧ w' = w.alloc (.map #[] 0)) := by
  go_enter Tryz.func103, Tryz.ntmps103
  go_wp2_with fail
  refine wp_loop_rounds 1 ?_
  rw [rounds_succ]
  go_wp2_with fail
  go_ret
  exact ⟨rfl, rfl⟩

set_option maxHeartbeats 400000 in
theorem filterNil_any (w : World) : Calls Tryz.prog 107 #[.slice none 0 0] w (GivesV (.int .i64 0) w) := by
  go_enter Tryz.func107, Tryz.ntmps107
  go_wp2_with fail
  refine (eachNilFi_any _ _ _ _ _ (by decide)).mono ?_
  rintro e w1 ⟨rfl, rfl⟩
  go_wp2_with fail
  go_ret
  exact ⟨rfl, Below.refl _ _⟩

set_option maxHeartbeats 400000 in
theorem needU_any (b : Bool) (e : Int) (w : World) : Calls Tryz.prog 174 #[.bool b, .int .i64 e] w fun r w' => r = .returned (.int .i64 (if b then 0 else e)) ∧ w = w' := by
  cases b
  all_goals
    go_enter Tryz.func174, Tryz.ntmps174
    go_wp2_with fail
    go_ret
    exact ⟨rfl, rfl⟩

set_option maxHeartbeats 400000 in
theorem checkHadNo_any (e : Int) (w : World) : Calls Tryz.prog 104 #[.bool false, .int .i64 e, .bool true] w fun r w' => r = .returned (.int .i64 0) ∧ w = w' := by
  go_enter Tryz.func104, Tryz.ntmps104
  go_wp2_with fail
  refine (needU_any _ _ _).mono ?_
  rintro e w1 ⟨rfl, rfl⟩
  go_wp2_with fail
  go_ret
  exact ⟨rfl, rfl⟩

set_option maxHeartbeats 1000000 in
theorem checkPeersNil_any (w : World) : Calls Tryz.prog 102 #[.slice none 0 0, .string ⟨#[]⟩] w (GivesV (.int .i64 0) w) := by
  go_enter Tryz.func102, Tryz.ntmps102
  go_wp2_with fail
  refine (risingNilPe_any _ _ _ _ _ _ _ _ _ (by decide)).mono ?_
  rintro e w1 ⟨rfl, rfl⟩
  go_wp2_with fail
  go_ret
  exact ⟨rfl, ((Below.refl _ _).alloc (Nat.le_refl _) _).alloc (by simp) _⟩

abbrev ndC : List Value := [.string ⟨#[]⟩, .string ⟨#[]⟩, .string ⟨#[]⟩, .slice none 0 0, .slice none 0 0, .slice none 0 0]
set_option maxHeartbeats 1000000 in
theorem sameNodeZero_any (w : World) : Calls Tryz.prog 106 #[.agg ndC.toArray, .agg ndC.toArray] w (GivesV (.bool true) w) := by
  have hX := (Blk.new w ndC 85).alloc (.cells ndC.toArray 85)
  have hY := Blk.new (w.alloc (.cells ndC.toArray 85)) ndC 85
  rw [World.size_alloc] at hY
  obtain ⟨w1, hw1⟩ : ∃ x, x = (w.alloc (.cells #[.string ⟨#[]⟩, .string ⟨#[]⟩, .string ⟨#[]⟩, .slice none 0 0, .slice none 0 0, .slice none 0 0] 85)).alloc (.cells #[.string ⟨#[]⟩, .string ⟨#[]⟩, .string ⟨#[]⟩, .slice none 0 0, .slice none 0 0, .slice none 0 0] 85) := ⟨_, rfl⟩
  have hb1 : Below w.heap.size w w1 := by rw [hw1]; exact ((Below.refl _ _).alloc (Nat.le_refl _) _).alloc (by simp) _
  replace hX : Blk w1 w.heap.size ndC 85 := by rw [hw1]; exact hX
  replace hY : Blk w1 (w.heap.size + 1) ndC 85 := by rw [hw1]; exact hY
  have x0 := hX.cell (i := 0) rfl
  have x1 := hX.cell (i := 1) rfl
  have x2 := hX.cell (i := 2) rfl
  have x3 := hX.cell (i := 3) rfl
  have x4 := hX.cell (i := 4) rfl
  have x5 := hX.cell (i := 5) rfl
  have y0 := hY.cell (i := 0) rfl
  have y1 := hY.cell (i := 1) rfl
  have y2 := hY.cell (i := 2) rfl
  have y3 := hY.cell (i := 3) rfl
  have y4 := hY.cell (i := 4) rfl
  have y5 := hY.cell (i := 5) rfl
  go_enter Tryz.func106, Tryz.ntmps106
  go_upto_region 1 with fail
  rw [← hw1]
  clear hw1 hX hY
  go_wp2_with fail
  refine (equalNilSt_any _).mono ?_
  rintro e w2 ⟨rfl, rfl⟩
  go_wp2_with fail
  refine (equalNilAd_any _).mono ?_
  rintro e w2 ⟨rfl, rfl⟩
  go_wp2_with fail
  refine (equalNilPx_any _).mono ?_
  rintro e w2 ⟨rfl, rfl⟩
  go_wp2_with fail
  go_ret
  exact ⟨rfl, hb1⟩

set_option maxHeartbeats 400000 in
theorem isKeyEmptyU_any (w : World) : Calls Tryz.prog 41 #[.string ⟨#[]⟩] w fun e w' => e = .returned (.bool false) ∧ w' = w := by
  go_enter Tryz.func41, Tryz.ntmps41
  go_wp2_with fail
  go_ret
  exact ⟨rfl, rfl⟩
set_option maxHeartbeats 400000 in
theorem keyEmptyU_any (w : World) : Calls Tryz.prog 100 #[.string ⟨#[]⟩] w fun e w' => e = .returned (.int .i64 5) ∧ w' = w := by
  go_enter Tryz.func100, Tryz.ntmps100
  go_wp2_with fail
  refine (isKeyEmptyU_any _).mono ?_
  rintro e w1 ⟨rfl, rfl⟩
  go_wp2_with fail
  refine (needU_any _ _ _).mono ?_
  rintro e w2 ⟨rfl, rfl⟩
  go_wp2_with fail
  go_ret
  exact ⟨rfl, rfl⟩
set_option maxHeartbeats 400000 in
theorem isSmallA_any (w : World) : Calls Tryz.prog 67 #[.int .u8 97] w fun e w' => e = .returned (.bool true) ∧ w' = w := by
  go_enter Tryz.func67, Tryz.ntmps67
  go_wp2_with fail
  go_ret
  exact ⟨rfl, rfl⟩
set_option maxHeartbeats 400000 in
theorem inKeyA_any (w : World) : Calls Tryz.prog 68 #[.int .u8 97] w fun e w' => e = .returned (.bool true) ∧ w' = w := by
  go_enter Tryz.func68, Tryz.ntmps68
  go_wp2_with fail
  refine (isSmallA_any _).mono ?_
  rintro e w1 ⟨rfl, rfl⟩
  go_wp2_with fail
  go_ret
  exact ⟨rfl, rfl⟩
set_option maxHeartbeats 400000 in
theorem isKeyA_any (w : World) : Calls Tryz.prog 41 #[.string ⟨#[97]⟩] w fun e w' => e = .returned (.bool true) ∧ w' = w := by
  go_enter Tryz.func41, Tryz.ntmps41
  go_wp2_with fail
  refine (isSmallA_any _).mono ?_
  rintro e w1 ⟨rfl, rfl⟩
  go_wp2_with fail
  refine wp_loop_rounds 2 ?_
  rw [rounds_succ]
  go_wp2_with fail
  refine (inKeyA_any _).mono ?_
  rintro e w1 ⟨rfl, rfl⟩
  go_wp2_with fail
  rw [rounds_succ]
  go_wp2_with fail
  go_ret
  exact ⟨rfl, rfl⟩
set_option maxHeartbeats 400000 in
theorem keyA_any (w : World) : Calls Tryz.prog 100 #[.string ⟨#[97]⟩] w fun e w' => e = .returned (.int .i64 0) ∧ w' = w := by
  go_enter Tryz.func100, Tryz.ntmps100
  go_wp2_with fail
  refine (isKeyA_any _).mono ?_
  rintro e w1 ⟨rfl, rfl⟩
  go_wp2_with fail
  refine (needU_any _ _ _).mono ?_
  rintro e w2 ⟨rfl, rfl⟩
  go_wp2_with fail
  go_ret
  exact ⟨rfl, rfl⟩
theorem orU_blk (l : List Int) (p cap : Nat) (w : World) (t : TypeId) (h : Blk w p (l.map (Value.int .i64)) t) (hl : l.length ≤ 100) :
    Calls Tryz.prog 24 #[.slice (some ⟨p, 0, none⟩) l.length cap] w fun e w' => e = .returned (.int .i64 (firstZ l)) ∧ w = w' :=
  or_any l p cap w (fun i hi => h.cell (by rw [List.getElem?_map, List.getElem?_eq_getElem hi, List.getD_eq_getElem?_getD, List.getElem?_eq_getElem hi]; rfl)) hl
theorem or55_any (p cap : Nat) (w : World) {t : TypeId} (h : Blk w p (([5, 5] : List Int).map (Value.int .i64)) t) : Calls Tryz.prog 24 #[.slice (some ⟨p, 0, none⟩) 2 cap] w fun e w' => e = .returned (.int .i64 5) ∧ w = w' := orU_blk [5, 5] p cap w t h (by decide)

set_option maxHeartbeats 1000000 in
theorem nodes1_any (w : World) : Calls Tryz.prog 243 #[.agg ndC.toArray] w (GivesV (.int .i64 5) w) := by
  have hX := Blk.new w ndC 85
  have hbw : Below w.heap.size w (w.alloc (.cells ndC.toArray 85)) := (Below.refl _ _).alloc (Nat.le_refl _) _
  go_enter Tryz.func243, Tryz.ntmps243
  go_upto_region 1 with fail
  refine wb_begin ([w.heap.size]) [] (by kernel_rfl) (fun u0 hb0' hz0' => ?_)
  replace hX := hX.below hb0'
  replace hbw := hbw.trans (hb0'.mono hbw.size)
  clear hb0' hz0'
  refine wb_pureZ 0 (some 3) (v := ?_) ?_ ?_; rotate_left; · (intro u; go_simp; try with_reducible rfl)
  try simp only [Act.put, gzD, gzE, gzF]
  refine wb_takeZ 1 (some 4) (v := ?_) ?_ ?_; rotate_left; · (intro u hu; have ka := hX.kb hu (List.mem_singleton.2 rfl); have a0 := ka.cell (i := 0) (v := .string ⟨#[]⟩) rfl; have a2 := ka.cell (i := 2) (v := .string ⟨#[]⟩) rfl; clear ka; go_simp; try with_reducible rfl)
  try simp only [Act.put, gzD, gzE, gzF]
  refine wb_pureZ 3 (some 6) (v := ?_) ?_ ?_; rotate_left; · (intro u; go_simp; try with_reducible rfl)
  try simp only [Act.put, gzD, gzE, gzF]
  refine wb_takeZ 4 (some 7) (v := ?_) ?_ ?_; rotate_left; · (intro u hu; have ka := hX.kb hu (List.mem_singleton.2 rfl); have a0 := ka.cell (i := 0) (v := .string ⟨#[]⟩) rfl; have a2 := ka.cell (i := 2) (v := .string ⟨#[]⟩) rfl; clear ka; go_simp; try with_reducible rfl)
  try simp only [Act.put, gzD, gzE, gzF]
  refine wb_oneZ 2 (fun K hK => ?_)
  go_simp
  refine (keyEmptyU_any _).mono ?_
  rintro e wq2 ⟨rfl, rfl⟩
  refine hK _ _ (Kb.refl _ _) ?_
  clear hK K
  try simp only [Act.put, gzD, gzE, gzF]
  refine wb_oneZ 5 (fun K hK => ?_)
  go_simp
  refine (keyEmptyU_any _).mono ?_
  rintro e wq5 ⟨rfl, rfl⟩
  refine hK _ _ (Kb.refl _ _) ?_
  clear hK K
  try simp only [Act.put, gzD, gzE, gzF]
  refine wb_oneZ 6 (fun K hK => ?_)
  go_simp
  refine hK _ _ (Kb.gb (World.grownBy_alloc _ _ none) (by intro q hq; rw [List.mem_singleton.1 hq]; exact ⟨hX.lt, by simp⟩)) ?_
  refine wb_new (cs := ([5, 5] : List Int).map (Value.int .i64)) (t := 32) (fun u91 hv3 hL3 hz3 => ?_)
  replace hX := hX.below hv3
  replace hbw := hbw.trans (hv3.mono hbw.size)
  clear hK K hv3 hz3
  try simp only [Act.put, gzD, gzE, gzF]
  refine wb_oneZ 7 (fun K hK => ?_)
  go_simp
  refine (or55_any _ _ _ hL3).mono ?_
  rintro e w' ⟨rfl, rfl⟩
  refine hK _ _ (Kb.refl _ _) ?_
  clear hK K hL3
  try simp only [Act.put, gzD, gzE, gzF]
  refine wb_pureZ 8 (some 2) (v := ?_) ?_ ?_; rotate_left; · (intro u; go_simp; try with_reducible rfl)
  try simp only [Act.put, gzD, gzE, gzF]
  refine wb_done (by kernel_rfl) ?_ _
  skip
  go_wp2_with fail
  go_ret
  exact ⟨rfl, hbw⟩

set_option maxHeartbeats 1000000 in
theorem risingNode1_any (g : Nat) (byk : Value) (R : Option Addr) (rn rc : Nat) (w : World) (hL : Blk w g ndC 85) :
    Calls Tryz.prog 245 #[.slice (some ⟨g, 0, none⟩) 1 1, .int .i64 500, .func (.func 243) #[] #[], byk, .slice R rn rc] w (GivesV (.int .i64 5) w) := by
  have x0 := hL.cell (i := 0) rfl
  have x1 := hL.cell (i := 1) rfl
  have x2 := hL.cell (i := 2) rfl
  have x3 := hL.cell (i := 3) rfl
  have x4 := hL.cell (i := 4) rfl
  have x5 := hL.cell (i := 5) rfl
  have hX := Blk.new w ndC 85
  have y0 := hX.cell (i := 0) rfl
  have y1 := hX.cell (i := 1) rfl
  have y2 := hX.cell (i := 2) rfl
  have y3 := hX.cell (i := 3) rfl
  have y4 := hX.cell (i := 4) rfl
  have y5 := hX.cell (i := 5) rfl
  have hbw : Below w.heap.size w (w.alloc (.cells ndC.toArray 85)) := (Below.refl _ _).alloc (Nat.le_refl _) _
  have HN := Lib.hid (nodes1_any (w.alloc (.cells ndC.toArray 85)))
  clear hL hX
  go_enter Tryz.func245, Tryz.ntmps245
  go_wp2_with fail
  refine wp_loop_rounds 2 ?_
  rw [rounds_succ]
  go_wp2_with fail
  refine HN.out.mono ?_
  rintro e w2 ⟨rfl, hb2⟩
  replace hbw := hbw.trans (hb2.mono hbw.size)
  clear HN hb2 x0 x1 x2 x3 x4 x5 y0 y1 y2 y3 y4 y5
  go_wp2_with fail
  go_ret
  exact ⟨rfl, hbw⟩

set_option maxHeartbeats 1000000 in
theorem checkNodesZero_any (g : Nat) (w : World) (hL : Blk w g ndC 85) : Calls Tryz.prog 186 #[.slice (some ⟨g, 0, none⟩) 1 1] w (GivesV (.int .i64 5) w) := by
  have hb := fun (v : Value) (t1 t2 : TypeId) => (((Below.refl w.heap.size w).alloc (Nat.le_refl _) (.map #[] 0)).alloc (by simp) (.cells #[.map (some w.heap.size)] t1)).alloc (by simp; omega) (.cells #[v] t2)
  go_enter Tryz.func186, Tryz.ntmps186
  go_wp2_with fail
  have hL2 := hL.below (hb (.func (.func 246) #[] #[.pointer (some ⟨w.heap.size + 1, 0, none⟩)]) 267 173)
  have hb2 := hb (.func (.func 246) #[] #[.pointer (some ⟨w.heap.size + 1, 0, none⟩)]) 267 173
  clear hb hL
  refine (risingNode1_any g _ _ _ _ _ hL2).mono ?_
  rintro e w3 ⟨rfl, hb3⟩
  replace hb2 := hb2.trans (hb3.mono hb2.size)
  clear hb3 hL2
  go_wp2_with fail
  go_ret
  exact ⟨rfl, hb2⟩

set_option maxHeartbeats 1000000 in
theorem checkSelfZero_any (w : World) : Calls Tryz.prog 105 #[.agg ndC.toArray] w (GivesV (.int .i64 5) w) := by
  have hX := Blk.new w ndC 85
  have y0 := hX.cell (i := 0) rfl
  have y1 := hX.cell (i := 1) rfl
  have y2 := hX.cell (i := 2) rfl
  have y3 := hX.cell (i := 3) rfl
  have y4 := hX.cell (i := 4) rfl
  have y5 := hX.cell (i := 5) rfl
  have hY := Blk.new (w.alloc (.cells ndC.toArray 85)) ndC 85
  have hb : Below w.heap.size w ((w.alloc (.cells ndC.toArray 85)).alloc (.cells ndC.toArray 85)) := ((Below.refl _ _).alloc (Nat.le_refl _) _).alloc (by simp) _
  rw [World.size_alloc] at hY
  have HN := Lib.hid (checkNodesZero_any (w.heap.size + 1) _ hY)
  clear hX hY
  go_enter Tryz.func105, Tryz.ntmps105
  go_wp2_with fail
  refine HN.out.mono ?_
  rintro e w2 ⟨rfl, hb2⟩
  replace hb := hb.trans (hb2.mono hb.size)
  clear HN hb2 y0 y1 y2 y3 y4 y5
  go_wp2_with fail
  go_ret
  exact ⟨rfl, hb⟩
end Go.Proofs.YtfbggfpihiegpaaGreatDoor
