/- Whats and targets: their cells. -/
import Derived.Test.YtfiocnjogbpgoaaGreatDoorKjItA
import Derived.Test.YtfiocnjogbpgoaaGreatDoorKjStD
import Derived.Test.YtfiocnjogbpgoaaGreatDoorKjWaysD
import Derived.Test.YtfiocnjogbpgoaaGreatDoorKjPfxA
import Derived.Deep.MidRow
import Derived.Great.BuildSlice
namespace Go.Proofs.YtfiocnjogbpgoaaGreatDoor
open Go.RowKit
set_option linter.unusedVariables false

/-- The cells of an address, a prefix, a range. -/
def adC (a : Ad) : List Value := [.bool a.s, .int .u64 a.hi, .int .u64 a.lo]
def pfC (p : Pf) : List Value := [.bool p.1.s, .int .u64 p.1.hi, .int .u64 p.1.lo, .int .i64 p.2]
/-- The nine digits of a wide number. -/
def digN (W : Nat) : List Value := [.int .i64 (dig W 0), .int .i64 (dig W 1), .int .i64 (dig W 2), .int .i64 (dig W 3), .int .i64 (dig W 4), .int .i64 (dig W 5), .int .i64 (dig W 6), .int .i64 (dig W 7), .int .i64 (dig W 8)]
abbrev wA (W : Nat) : Value := .agg (digN W).toArray
/-- The load of a struct, as one step; its store. -/
def ldT (t : TypeId) (p : Value) : Sem Next := do
  let x ← Instr.loadAt t p
  pure (.value x)
def stT (t : TypeId) (p x : Value) : Sem Next := do
  Instr.storeAt t p x
  pure .skip
section
variable (ρ : Operand → Value) (dst : Option Tmp) (x y : Operand) (ty : TypeId) (pos : String) (after : Array Edge) (guard : Option (Nat × Bool))
@[go_sem ↓ high] theorem execOp_ldAd : execOp ρ ⟨dst, .load 28 x, ty, pos, after, guard⟩ = ldT 28 (ρ x) := rfl
@[go_sem high] theorem execOp_ldAd' : execOp ρ ⟨dst, .load 28 x, ty, pos, after, guard⟩ = ldT 28 (ρ x) := rfl
@[go_sem ↓ high] theorem execOp_ldPf : execOp ρ ⟨dst, .load 31 x, ty, pos, after, guard⟩ = ldT 31 (ρ x) := rfl
@[go_sem high] theorem execOp_ldPf' : execOp ρ ⟨dst, .load 31 x, ty, pos, after, guard⟩ = ldT 31 (ρ x) := rfl
@[go_sem ↓ high] theorem execOp_ldW : execOp ρ ⟨dst, .load 129 x, ty, pos, after, guard⟩ = ldT 129 (ρ x) := rfl
@[go_sem high] theorem execOp_ldW' : execOp ρ ⟨dst, .load 129 x, ty, pos, after, guard⟩ = ldT 129 (ρ x) := rfl
@[go_sem ↓ high] theorem execOp_stAd : execOp ρ ⟨dst, .store 28 x y, ty, pos, after, guard⟩ = stT 28 (ρ x) (ρ y) := rfl
@[go_sem high] theorem execOp_stAd' : execOp ρ ⟨dst, .store 28 x y, ty, pos, after, guard⟩ = stT 28 (ρ x) (ρ y) := rfl
@[go_sem ↓ high] theorem execOp_stPf : execOp ρ ⟨dst, .store 31 x y, ty, pos, after, guard⟩ = stT 31 (ρ x) (ρ y) := rfl
@[go_sem high] theorem execOp_stPf' : execOp ρ ⟨dst, .store 31 x y, ty, pos, after, guard⟩ = stT 31 (ρ x) (ρ y) := rfl
@[go_sem ↓ high] theorem execOp_stW : execOp ρ ⟨dst, .store 129 x y, ty, pos, after, guard⟩ = stT 129 (ρ x) (ρ y) := rfl
@[go_sem high] theorem execOp_stW' : execOp ρ ⟨dst, .store 129 x y, ty, pos, after, guard⟩ = stT 129 (ρ x) (ρ y) := rfl
end

/-- A struct's or an array's type, of k cells. -/
structure RowT (t : TypeId) (k : Nat) : Prop where
  row : ∃ d, Tryz.prog.underlying t = some d ∧ d.isRow = true
  size : (Tryz.prog.info? t).map (·.size) = some k
theorem rowAd : RowT 28 3 := ⟨⟨_, Tryz.underlying28, rfl⟩, by kernel_rfl⟩
theorem rowPf : RowT 31 4 := ⟨⟨_, Tryz.underlying31, rfl⟩, by kernel_rfl⟩
theorem ldT_run {t : TypeId} {k : Nat} (T : RowT t k) {w : World} {g o : Nat} {cs : List Value} (hl : cs.length = k) (hc : w.rangeAt g o cs) :
    (ldT t (.pointer (some ⟨g, o, none⟩))).run Tryz.prog w = .ok (.value (.agg cs.toArray)) w := by
  obtain ⟨d, hu, hd⟩ := T.row
  unfold ldT
  have := run_loadAt_mid (P := Tryz.prog) w g o t cs d hc hu hd (by rw [T.size, hl])
  simp only [Sem.run_bind, this, Result.andThen_ok, Sem.run_pure]
/-- Out of a block that holds it from o on. -/
theorem Blk.range {w : World} {p : Nat} {cs : List Value} {t : TypeId} (h : Blk w p cs t) (o : Nat) (ds rest : List Value) (hd : cs.drop o = ds ++ rest) : w.rangeAt p o ds := by
  intro j v hv
  refine h.cell ?_
  have hj := (List.getElem?_eq_some_iff.1 hv).1
  have : (cs.drop o)[j]? = some v := by rw [hd, List.getElem?_append_left hj]; exact hv
  rwa [List.getElem?_drop] at this
theorem Blk.ld {t : TypeId} {k : Nat} (T : RowT t k) {w : World} {p : Nat} {cs : List Value} {te : TypeId} (h : Blk w p cs te) (hl : cs.length = k) :
    (ldT t (.pointer (some ⟨p, 0, none⟩))).run Tryz.prog w = .ok (.value (.agg cs.toArray)) w := ldT_run T hl (h.range 0 cs [] (by simp))
theorem Blk.ldAt {t : TypeId} {k : Nat} (T : RowT t k) {w : World} {p : Nat} {cs : List Value} {te : TypeId} (h : Blk w p cs te) (o : Nat) (ds rest : List Value) (hl : ds.length = k) (hd : cs.drop o = ds ++ rest) :
    (ldT t (.pointer (some ⟨p, o, none⟩))).run Tryz.prog w = .ok (.value (.agg ds.toArray)) w := ldT_run T hl (h.range o ds rest hd)
/-- An element of a slice. -/
theorem SlE.range {α : Type} {E : Enc α} {w : World} {g off n cap : Nat} {xs : List α} (h : SlE E w (some ⟨g, off, none⟩) n cap xs) {k : Nat} {x : α} (hx : xs[k]? = some x) : w.rangeAt g (off + k * E.k) (E.enc x) := by
  intro i v hv
  have hk := (List.getElem?_eq_some_iff.1 hx).1
  obtain ⟨h1, _, _, h4⟩ := h
  rcases h4 with h4 | ⟨g', off', hA, _, hc⟩
  · omega
  · cases hA; exact hc k x hx i v hv
theorem SlE.ld {α : Type} {E : Enc α} {t : TypeId} (T : RowT t E.k) {w : World} {g off n cap : Nat} {xs : List α} (h : SlE E w (some ⟨g, off, none⟩) n cap xs) {k : Nat} {x : α} (hx : xs[k]? = some x) :
    (ldT t (.pointer (some ⟨g, off + k * E.k, none⟩))).run Tryz.prog w = .ok (.value (.agg (E.enc x).toArray)) w := ldT_run T (E.len x) (h.range hx)
/-- A part of an element of a slice. -/
theorem SlE.ldAt {α : Type} {E : Enc α} {t : TypeId} {m : Nat} (T : RowT t m) {w : World} {g off n cap : Nat} {xs : List α} (h : SlE E w (some ⟨g, off, none⟩) n cap xs) {k : Nat} {x : α} (hx : xs[k]? = some x) (o : Nat) (ds rest : List Value) (hl : ds.length = m) (hd : (E.enc x).drop o = ds ++ rest) :
    (ldT t (.pointer (some ⟨g, off + k * E.k + o, none⟩))).run Tryz.prog w = .ok (.value (.agg ds.toArray)) w := by
  refine ldT_run T hl (fun j v hv => ?_)
  have hj := (List.getElem?_eq_some_iff.1 hv).1
  have h1 : ((E.enc x).drop o)[j]? = some v := by rw [hd, List.getElem?_append_left hj]; exact hv
  rw [List.getElem?_drop] at h1
  have := h.range hx (o + j) v h1
  rwa [← Nat.add_assoc] at this

/-- A block that was just made is stored into whole: it was made so. -/
theorem setRow_new (w : World) (zs cs : Array Value) (t : TypeId) : (w.alloc (.cells zs t)).setRow w.heap.size cs = w.alloc (.cells cs t) := by
  have h : ∀ (a b : World), a.heap = b.heap → a.tape = b.tape → a.drawn = b.drawn → a.os = b.os → a.output = b.output → a = b := by
    intro a b h1 h2 h3 h4 h5; cases a; cases b; simp_all
  refine h _ _ ?_ rfl rfl rfl rfl
  apply Array.ext_getElem?
  intro i
  by_cases hi : i = w.heap.size
  · subst hi
    rw [setRow_heap _ _ _ _ _ _ (heap_alloc_new w _), heap_alloc_new w _]
  · rw [setRow_other _ _ _ _ hi]
    rcases Nat.lt_or_ge i w.heap.size with h1 | h1
    · rw [Below.heap_alloc _ _ _ h1, Below.heap_alloc _ _ _ h1]
    · rw [Array.getElem?_eq_none (by simp; omega), Array.getElem?_eq_none (by simp; omega)]
theorem stT_row {t te : TypeId} {k : Nat} (T : RowT t k) {w : World} {p : Nat} {old cs : List Value} (h : Blk w p old te) (ho : old.length = k) (hl : cs.length = k) (h1 : ∀ v ∈ cs, v.oneCell' = true) :
    (stT t (.pointer (some ⟨p, 0, none⟩)) (.agg cs.toArray)).run Tryz.prog w = .ok .skip (w.setRow p cs.toArray) := by
  obtain ⟨d, hu, hd⟩ := T.row
  unfold stT
  have hs := run_storeVar_row (P := Tryz.prog) w p te t old.toArray cs.toArray h (by rw [T.size]; simp [hl]) (by simp [ho, hl]) (all_oneCell_toArray h1)
  simp only [Instr.storeAt, Instr.sureAddr, Sem.run_bind, Sem.run_pure, Result.andThen_ok, hs]
theorem stT_new {t te : TypeId} {k : Nat} (T : RowT t k) (w : World) (b : Nat) (hb : b = w.heap.size) (zs cs : List Value) (hz : zs.length = k) (hl : cs.length = k) (h1 : ∀ v ∈ cs, v.oneCell' = true) :
    (stT t (.pointer (some ⟨b, 0, none⟩)) (.agg cs.toArray)).run Tryz.prog (w.alloc (.cells zs.toArray te)) = .ok .skip (w.alloc (.cells cs.toArray te)) := by
  subst hb
  rw [stT_row T (Blk.new w zs te) hz hl h1, setRow_new]
/-- A struct of two parts is built, as one step. -/
def bdT (t : TypeId) (x y : Value) : Sem Next := do
  let v ← Instr.build t #[(0, x), (1, y)]
  pure (.value v)
section
variable (ρ : Operand → Value) (dst : Option Tmp) (x y : Operand) (ty : TypeId) (pos : String) (after : Array Edge) (guard : Option (Nat × Bool))
@[go_sem ↓ high] theorem execOp_bdPf : execOp ρ ⟨dst, .build 31 #[(0, x), (1, y)], ty, pos, after, guard⟩ = bdT 31 (ρ x) (ρ y) := by
  simp only [execOp, bdT, List.map_toArray, List.map_cons, List.map_nil]
@[go_sem high] theorem execOp_bdPf' : execOp ρ ⟨dst, .build 31 #[(0, x), (1, y)], ty, pos, after, guard⟩ = bdT 31 (ρ x) (ρ y) := by
  simp only [execOp, bdT, List.map_toArray, List.map_cons, List.map_nil]
end
theorem bdT_run {t : TypeId} {x y : Value} {cells : Array Value} (h : Tryz.prog.built t [(0, x), (1, y)] = some cells) (w : World) : (bdT t x y).run Tryz.prog w = .ok (.value (.agg cells)) w := by
  unfold bdT
  simp only [Sem.run_bind, run_build (P := Tryz.prog) w t #[(0, x), (1, y)] cells h, Result.andThen_ok, Sem.run_pure]
@[go_sem] theorem run_bdPf (a : Ad) (n : Int) (w : World) : (bdT 31 (.agg (adC a).toArray) (.int .i64 n)).run Tryz.prog w = .ok (.value (.agg (pfC (a, n)).toArray)) w := bdT_run (by kernel_rfl) w
end Go.Proofs.YtfiocnjogbpgoaaGreatDoor
namespace Go.Proofs.YtfiocnjogbpgoaaGreatDoor
open Go.RowKit
set_option linter.unusedVariables false
set_option linter.unusedSimpArgs false

/-- A what: its kind, its name, its net; a target: a what and ports; a grant. -/
structure Wh where
  kind : Int
  name : List UInt8
  net : Pf
structure Tg where
  what : Wh
  lo : Int
  hi : Int
structure Sl3 where
  A : Option Addr
  n : Nat
  c : Nat
structure Gt where
  s : Sl3
  d : Sl3
  proto : Int
  ps : Sl3
abbrev slV (x : Sl3) : Value := .slice x.A x.n x.c
def whC (x : Wh) : List Value := [.int .i64 x.kind, .string ⟨x.name.toArray⟩] ++ pfC x.net
def tgC (x : Tg) : List Value := whC x.what ++ [.int .i64 x.lo, .int .i64 x.hi]
def gtC (x : Gt) : List Value := [slV x.s, slV x.d, .int .i64 x.proto, slV x.ps]
abbrev whA (x : Wh) : Value := .agg (whC x).toArray
abbrev tgA (x : Tg) : Value := .agg (tgC x).toArray
theorem whC_len (x : Wh) : (whC x).length = 6 := rfl
theorem tgC_len (x : Tg) : (tgC x).length = 8 := rfl
theorem gtC_len (x : Gt) : (gtC x).length = 4 := rfl
theorem gtC_one (x : Gt) : ∀ v ∈ gtC x, v.oneCell' = true := by
  intro v hv
  simp [gtC] at hv
  rcases hv with rfl | rfl | rfl | rfl <;> rfl
theorem whC_one (x : Wh) : ∀ v ∈ whC x, v.oneCell' = true := by
  intro v hv
  simp [whC, pfC] at hv
  rcases hv with rfl | rfl | rfl | rfl | rfl | rfl <;> rfl
theorem tgC_one (x : Tg) : ∀ v ∈ tgC x, v.oneCell' = true := by
  intro v hv
  simp [tgC, whC, pfC] at hv
  rcases hv with rfl | rfl | rfl | rfl | rfl | rfl | rfl | rfl <;> rfl
def eWh : Enc Wh := ⟨whC, 6, by decide, whC_len, whC_one⟩
def eTg : Enc Tg := ⟨tgC, 8, by decide, tgC_len, tgC_one⟩
def eGt : Enc Gt := ⟨gtC, 4, by decide, gtC_len, gtC_one⟩
def zGtC : List Value := [.slice none 0 0, .slice none 0 0, .int .i64 0, .slice none 0 0]
def zWhC : List Value := [.int .i64 0, .string ⟨#[]⟩, .bool false, .int .u64 0, .int .u64 0, .int .i64 0]
def zTgC : List Value := [.int .i64 0, .string ⟨#[]⟩, .bool false, .int .u64 0, .int .u64 0, .int .i64 0, .int .i64 0, .int .i64 0]
section
variable (ρ : Operand → Value) (dst : Option Tmp) (x y : Operand) (ty : TypeId) (pos : String) (after : Array Edge) (guard : Option (Nat × Bool))
@[go_sem ↓ high] theorem execOp_ldWh : execOp ρ ⟨dst, .load 244 x, ty, pos, after, guard⟩ = ldT 244 (ρ x) := rfl
@[go_sem high] theorem execOp_ldWh' : execOp ρ ⟨dst, .load 244 x, ty, pos, after, guard⟩ = ldT 244 (ρ x) := rfl
@[go_sem ↓ high] theorem execOp_stWh : execOp ρ ⟨dst, .store 244 x y, ty, pos, after, guard⟩ = stT 244 (ρ x) (ρ y) := rfl
@[go_sem high] theorem execOp_stWh' : execOp ρ ⟨dst, .store 244 x y, ty, pos, after, guard⟩ = stT 244 (ρ x) (ρ y) := rfl
@[go_sem ↓ high] theorem execOp_ldTg : execOp ρ ⟨dst, .load 252 x, ty, pos, after, guard⟩ = ldT 252 (ρ x) := rfl
@[go_sem high] theorem execOp_ldTg' : execOp ρ ⟨dst, .load 252 x, ty, pos, after, guard⟩ = ldT 252 (ρ x) := rfl
@[go_sem ↓ high] theorem execOp_stTg : execOp ρ ⟨dst, .store 252 x y, ty, pos, after, guard⟩ = stT 252 (ρ x) (ρ y) := rfl
@[go_sem high] theorem execOp_stTg' : execOp ρ ⟨dst, .store 252 x y, ty, pos, after, guard⟩ = stT 252 (ρ x) (ρ y) := rfl
@[go_sem ↓ high] theorem execOp_ldGt : execOp ρ ⟨dst, .load 255 x, ty, pos, after, guard⟩ = ldT 255 (ρ x) := rfl
@[go_sem high] theorem execOp_ldGt' : execOp ρ ⟨dst, .load 255 x, ty, pos, after, guard⟩ = ldT 255 (ρ x) := rfl
@[go_sem ↓ high] theorem execOp_stGt : execOp ρ ⟨dst, .store 255 x y, ty, pos, after, guard⟩ = stT 255 (ρ x) (ρ y) := rfl
@[go_sem high] theorem execOp_stGt' : execOp ρ ⟨dst, .store 255 x y, ty, pos, after, guard⟩ = stT 255 (ρ x) (ρ y) := rfl
@[go_sem ↓ high] theorem execOp_bdTg : execOp ρ ⟨dst, .build 252 #[(0, x), (1, y)], ty, pos, after, guard⟩ = bdT 252 (ρ x) (ρ y) := by
  simp only [execOp, bdT, List.map_toArray, List.map_cons, List.map_nil]
@[go_sem high] theorem execOp_bdTg' : execOp ρ ⟨dst, .build 252 #[(0, x), (1, y)], ty, pos, after, guard⟩ = bdT 252 (ρ x) (ρ y) := execOp_bdTg ρ dst x y ty pos after guard
@[go_sem ↓ high] theorem execOp_bdGt : execOp ρ ⟨dst, .build 255 #[(0, x), (1, y)], ty, pos, after, guard⟩ = bdT 255 (ρ x) (ρ y) := by
  simp only [execOp, bdT, List.map_toArray, List.map_cons, List.map_nil]
@[go_sem high] theorem execOp_bdGt' : execOp ρ ⟨dst, .build 255 #[(0, x), (1, y)], ty, pos, after, guard⟩ = bdT 255 (ρ x) (ρ y) := execOp_bdGt ρ dst x y ty pos after guard
end
theorem rowWh : RowT 244 6 := ⟨⟨_, Tryz.underlying244, rfl⟩, by kernel_rfl⟩
theorem rowTg : RowT 252 8 := ⟨⟨_, Tryz.underlying252, rfl⟩, by kernel_rfl⟩
@[go_sem] theorem run_bdTg (x : Wh) (a b : Int) (w : World) : (bdT 252 (.agg (whC x).toArray) (.agg #[.int .i64 a, .int .i64 b])).run Tryz.prog w = .ok (.value (.agg (tgC ⟨x, a, b⟩).toArray)) w := bdT_run (by kernel_rfl) w
theorem rowGt : RowT 255 4 := ⟨⟨_, Tryz.underlying255, rfl⟩, by kernel_rfl⟩
@[go_sem] theorem run_bdGt (s d : Sl3) (w : World) : (bdT 255 (slV s) (slV d)).run Tryz.prog w = .ok (.value (.agg (gtC ⟨s, d, 0, ⟨none, 0, 0⟩⟩).toArray)) w := bdT_run (by kernel_rfl) w
theorem infoGt : (Tryz.prog.info? 255).map (fun i => (i.zero, i.size, i.bytes)) = some (some (.agg zGtC.toArray), 4, 80) := by kernel_rfl
theorem tyeGt : Ty eGt 255 90 (.agg zGtC.toArray) 80 := ⟨Tryz.underlying90, infoGt, rfl, by decide⟩
theorem infoWh : (Tryz.prog.info? 244).map (fun i => (i.zero, i.size, i.bytes)) = some (some (.agg zWhC.toArray), 6, 56) := by kernel_rfl
theorem infoTg : (Tryz.prog.info? 252).map (fun i => (i.zero, i.size, i.bytes)) = some (some (.agg zTgC.toArray), 8, 72) := by kernel_rfl
theorem tyeWh : Ty eWh 244 240 (.agg zWhC.toArray) 56 := ⟨Tryz.underlying240, infoWh, rfl, by decide⟩
theorem tyeTg : Ty eTg 252 246 (.agg zTgC.toArray) 72 := ⟨Tryz.underlying246, infoTg, rfl, by decide⟩
/-- A slice of one struct is built, as one step. -/
def bsU (t : TypeId) (x : Value) : Sem Next := do
  let v ← Instr.buildSlice t 1 #[(0, x)]
  pure (.value v)
@[go_sem ↓ high] theorem execOp_bsWh (ρ : Operand → Value) (dst : Option Tmp) (x : Operand) (ty : TypeId) (pos : String) (after : Array Edge) (guard : Option (Nat × Bool)) : execOp ρ ⟨dst, .buildSlice 240 1 #[(0, x)], ty, pos, after, guard⟩ = bsU 240 (ρ x) := by
  simp only [execOp, bsU, List.map_toArray, List.map_cons, List.map_nil]
@[go_sem high] theorem execOp_bsWh' (ρ : Operand → Value) (dst : Option Tmp) (x : Operand) (ty : TypeId) (pos : String) (after : Array Edge) (guard : Option (Nat × Bool)) : execOp ρ ⟨dst, .buildSlice 240 1 #[(0, x)], ty, pos, after, guard⟩ = bsU 240 (ρ x) := execOp_bsWh ρ dst x ty pos after guard
@[go_sem] theorem run_bsWh (x : Wh) (w : World) : (bsU 240 (.agg (whC x).toArray)).run Tryz.prog w = .ok (.value (.slice (some ⟨w.heap.size, 0, none⟩) 1 1)) (w.alloc (.cells (whC x).toArray 244)) := by
  obtain ⟨i0, hi0, hz0, hz1, hz2⟩ := info_parts infoWh
  have hf : Instr.fill (fun i => some (i * 6, 6)) ((Array.range (1 * 6)).map ((Value.agg zWhC.toArray).cells[· % (Value.agg zWhC.toArray).cells.size]!)) [(0, .agg (whC x).toArray)] = some (whC x).toArray := by kernel_rfl
  unfold bsU
  simp only [Sem.run_bind, run_buildSlice (P := Tryz.prog) w 240 244 1 #[(0, .agg (whC x).toArray)] (whC x).toArray i0 (.agg zWhC.toArray) Tryz.underlying240 hi0 hz0 (by rw [hz1]; decide) (by rw [hz1]; decide) (by rw [hz1]; exact hf), Result.andThen_ok, Sem.run_pure]
@[go_sem ↓ high] theorem execOp_bsTg (ρ : Operand → Value) (dst : Option Tmp) (x : Operand) (ty : TypeId) (pos : String) (after : Array Edge) (guard : Option (Nat × Bool)) : execOp ρ ⟨dst, .buildSlice 246 1 #[(0, x)], ty, pos, after, guard⟩ = bsU 246 (ρ x) := by
  simp only [execOp, bsU, List.map_toArray, List.map_cons, List.map_nil]
@[go_sem high] theorem execOp_bsTg' (ρ : Operand → Value) (dst : Option Tmp) (x : Operand) (ty : TypeId) (pos : String) (after : Array Edge) (guard : Option (Nat × Bool)) : execOp ρ ⟨dst, .buildSlice 246 1 #[(0, x)], ty, pos, after, guard⟩ = bsU 246 (ρ x) := execOp_bsTg ρ dst x ty pos after guard
@[go_sem] theorem run_bsTg (x : Tg) (w : World) : (bsU 246 (.agg (tgC x).toArray)).run Tryz.prog w = .ok (.value (.slice (some ⟨w.heap.size, 0, none⟩) 1 1)) (w.alloc (.cells (tgC x).toArray 252)) := by
  obtain ⟨i0, hi0, hz0, hz1, hz2⟩ := info_parts infoTg
  have hf : Instr.fill (fun i => some (i * 8, 8)) ((Array.range (1 * 8)).map ((Value.agg zTgC.toArray).cells[· % (Value.agg zTgC.toArray).cells.size]!)) [(0, .agg (tgC x).toArray)] = some (tgC x).toArray := by kernel_rfl
  unfold bsU
  simp only [Sem.run_bind, run_buildSlice (P := Tryz.prog) w 246 252 1 #[(0, .agg (tgC x).toArray)] (tgC x).toArray i0 (.agg zTgC.toArray) Tryz.underlying246 hi0 hz0 (by rw [hz1]; decide) (by rw [hz1]; decide) (by rw [hz1]; exact hf), Result.andThen_ok, Sem.run_pure]
@[go_sem ↓ high] theorem execOp_bsGt (ρ : Operand → Value) (dst : Option Tmp) (x : Operand) (ty : TypeId) (pos : String) (after : Array Edge) (guard : Option (Nat × Bool)) : execOp ρ ⟨dst, .buildSlice 90 1 #[(0, x)], ty, pos, after, guard⟩ = bsU 90 (ρ x) := by
  simp only [execOp, bsU, List.map_toArray, List.map_cons, List.map_nil]
@[go_sem high] theorem execOp_bsGt' (ρ : Operand → Value) (dst : Option Tmp) (x : Operand) (ty : TypeId) (pos : String) (after : Array Edge) (guard : Option (Nat × Bool)) : execOp ρ ⟨dst, .buildSlice 90 1 #[(0, x)], ty, pos, after, guard⟩ = bsU 90 (ρ x) := execOp_bsGt ρ dst x ty pos after guard
@[go_sem] theorem run_bsGt (x : Gt) (w : World) : (bsU 90 (.agg (gtC x).toArray)).run Tryz.prog w = .ok (.value (.slice (some ⟨w.heap.size, 0, none⟩) 1 1)) (w.alloc (.cells (gtC x).toArray 255)) := by
  obtain ⟨i0, hi0, hz0, hz1, hz2⟩ := info_parts infoGt
  have hf : Instr.fill (fun i => some (i * 4, 4)) ((Array.range (1 * 4)).map ((Value.agg zGtC.toArray).cells[· % (Value.agg zGtC.toArray).cells.size]!)) [(0, .agg (gtC x).toArray)] = some (gtC x).toArray := by kernel_rfl
  unfold bsU
  simp only [Sem.run_bind, run_buildSlice (P := Tryz.prog) w 90 255 1 #[(0, .agg (gtC x).toArray)] (gtC x).toArray i0 (.agg zGtC.toArray) Tryz.underlying90 hi0 hz0 (by rw [hz1]; decide) (by rw [hz1]; decide) (by rw [hz1]; exact hf), Result.andThen_ok, Sem.run_pure]
end Go.Proofs.YtfiocnjogbpgoaaGreatDoor
