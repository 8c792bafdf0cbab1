/- Targets that are read: the star. -/
import Derived.Test.YtmgdkefoehlamaaGreatDoorKoGzA
import Derived.Test.YtmgdkefoehlamaaGreatDoorKoMdD
import Derived.Test.YtmgdkefoehlamaaGreatDoorKoStD
import Derived.Test.YtmgdkefoehlamaaGreatDoorKoWaysD
import Derived.Test.YtmgdkefoehlamaaGreatDoorKoPfxA
import Derived.Deep.MidRow
import Derived.Great.BuildSlice
import Derived.Test.YtmgdkefoehlamaaGreatDoorKoShelf
import Derived.Lib.LaidTab
import Derived.Test.YtmgdkefoehlamaaGreatDoorKoWaysB
set_option linter.unusedVariables false
set_option linter.unusedSimpArgs false
set_option maxRecDepth 100000
namespace Go.Proofs.YtmgdkefoehlamaaGreatDoor
open Go.RowKit

def adC (a : Ad) : List Value := [.bool a.s, .int .u64 a.hi, .int .u64 a.lo]
def pfC (p : Pf) : List Value := [.bool p.1.s, .int .u64 p.1.hi, .int .u64 p.1.lo, .int .i64 p.2]
def rgC (x : Ad × Ad) : List Value := [.bool x.1.s, .int .u64 x.1.hi, .int .u64 x.1.lo, .bool x.2.s, .int .u64 x.2.hi, .int .u64 x.2.lo]
def digN (W : Nat) : List Value := [.int .i64 (dig W 0), .int .i64 (dig W 1), .int .i64 (dig W 2), .int .i64 (dig W 3), .int .i64 (dig W 4), .int .i64 (dig W 5), .int .i64 (dig W 6), .int .i64 (dig W 7), .int .i64 (dig W 8)]
def spC (x : Ad × Ad) : List Value := digN x.1.n ++ digN x.2.n
abbrev adA (a : Ad) : Value := .agg (adC a).toArray
abbrev pfA (p : Pf) : Value := .agg (pfC p).toArray
abbrev rgA (x : Ad × Ad) : Value := .agg (rgC x).toArray
abbrev wA (W : Nat) : Value := .agg (digN W).toArray
abbrev spA (x : Ad × Ad) : Value := .agg (spC x).toArray
theorem adC_len (a : Ad) : (adC a).length = 3 := rfl
theorem pfC_len (p : Pf) : (pfC p).length = 4 := rfl
theorem rgC_len (x : Ad × Ad) : (rgC x).length = 6 := rfl
theorem digN_len (W : Nat) : (digN W).length = 9 := rfl
theorem spC_len (x : Ad × Ad) : (spC x).length = 18 := rfl
theorem adC_one (a : Ad) : ∀ v ∈ adC a, v.oneCell' = true := by intro v hv; simp [adC] at hv; rcases hv with rfl | rfl | rfl <;> rfl
theorem pfC_one (p : Pf) : ∀ v ∈ pfC p, v.oneCell' = true := by intro v hv; simp [pfC] at hv; rcases hv with rfl | rfl | rfl | rfl <;> rfl
theorem rgC_one (x : Ad × Ad) : ∀ v ∈ rgC x, v.oneCell' = true := by intro v hv; simp [rgC] at hv; rcases hv with rfl | rfl | rfl | rfl | rfl | rfl <;> rfl
theorem digN_one (W : Nat) : ∀ v ∈ digN W, v.oneCell' = true := by
  intro v hv
  simp [digN] at hv
  rcases hv with rfl | rfl | rfl | rfl | rfl | rfl | rfl | rfl | rfl <;> rfl
theorem spC_one (x : Ad × Ad) : ∀ v ∈ spC x, v.oneCell' = true := by
  intro v hv
  rcases List.mem_append.1 hv with h | h
  · exact digN_one _ v h
  · exact digN_one _ v h
def eAd : Enc Ad := ⟨adC, 3, by decide, adC_len, adC_one⟩
def ePf : Enc Pf := ⟨pfC, 4, by decide, pfC_len, pfC_one⟩
def eRg : Enc (Ad × Ad) := ⟨rgC, 6, by decide, rgC_len, rgC_one⟩
def eSp : Enc (Ad × Ad) := ⟨spC, 18, by decide, spC_len, spC_one⟩
def ldT (t : TypeId) (p : Value) : Sem Next := do
  let x ← Instr.loadAt t p
  pure (.value x)
def stT (t : TypeId) (p x : Value) : Sem Next := do
  Instr.storeAt t p x
  pure .skip
section
variable (ρ : Operand → Value) (dst : Option Tmp) (x y : Operand) (ty : TypeId) (pos : String) (after : Array Edge) (guard : Option (Nat × Bool))
@[go_sem ↓ high] theorem execOp_ldAd : execOp ρ ⟨dst, .load 38 x, ty, pos, after, guard⟩ = ldT 38 (ρ x) := rfl
@[go_sem high] theorem execOp_ldAd' : execOp ρ ⟨dst, .load 38 x, ty, pos, after, guard⟩ = ldT 38 (ρ x) := rfl
@[go_sem ↓ high] theorem execOp_ldPf : execOp ρ ⟨dst, .load 40 x, ty, pos, after, guard⟩ = ldT 40 (ρ x) := rfl
@[go_sem high] theorem execOp_ldPf' : execOp ρ ⟨dst, .load 40 x, ty, pos, after, guard⟩ = ldT 40 (ρ x) := rfl
@[go_sem ↓ high] theorem execOp_ldRg : execOp ρ ⟨dst, .load 53 x, ty, pos, after, guard⟩ = ldT 53 (ρ x) := rfl
@[go_sem high] theorem execOp_ldRg' : execOp ρ ⟨dst, .load 53 x, ty, pos, after, guard⟩ = ldT 53 (ρ x) := rfl
@[go_sem ↓ high] theorem execOp_ldW : execOp ρ ⟨dst, .load 145 x, ty, pos, after, guard⟩ = ldT 145 (ρ x) := rfl
@[go_sem high] theorem execOp_ldW' : execOp ρ ⟨dst, .load 145 x, ty, pos, after, guard⟩ = ldT 145 (ρ x) := rfl
@[go_sem ↓ high] theorem execOp_ldSp : execOp ρ ⟨dst, .load 147 x, ty, pos, after, guard⟩ = ldT 147 (ρ x) := rfl
@[go_sem high] theorem execOp_ldSp' : execOp ρ ⟨dst, .load 147 x, ty, pos, after, guard⟩ = ldT 147 (ρ x) := rfl
@[go_sem ↓ high] theorem execOp_stAd : execOp ρ ⟨dst, .store 38 x y, ty, pos, after, guard⟩ = stT 38 (ρ x) (ρ y) := rfl
@[go_sem high] theorem execOp_stAd' : execOp ρ ⟨dst, .store 38 x y, ty, pos, after, guard⟩ = stT 38 (ρ x) (ρ y) := rfl
@[go_sem ↓ high] theorem execOp_stPf : execOp ρ ⟨dst, .store 40 x y, ty, pos, after, guard⟩ = stT 40 (ρ x) (ρ y) := rfl
@[go_sem high] theorem execOp_stPf' : execOp ρ ⟨dst, .store 40 x y, ty, pos, after, guard⟩ = stT 40 (ρ x) (ρ y) := rfl
@[go_sem ↓ high] theorem execOp_stRg : execOp ρ ⟨dst, .store 53 x y, ty, pos, after, guard⟩ = stT 53 (ρ x) (ρ y) := rfl
@[go_sem high] theorem execOp_stRg' : execOp ρ ⟨dst, .store 53 x y, ty, pos, after, guard⟩ = stT 53 (ρ x) (ρ y) := rfl
@[go_sem ↓ high] theorem execOp_stW : execOp ρ ⟨dst, .store 145 x y, ty, pos, after, guard⟩ = stT 145 (ρ x) (ρ y) := rfl
@[go_sem high] theorem execOp_stW' : execOp ρ ⟨dst, .store 145 x y, ty, pos, after, guard⟩ = stT 145 (ρ x) (ρ y) := rfl
@[go_sem ↓ high] theorem execOp_stSp : execOp ρ ⟨dst, .store 147 x y, ty, pos, after, guard⟩ = stT 147 (ρ x) (ρ y) := rfl
@[go_sem high] theorem execOp_stSp' : execOp ρ ⟨dst, .store 147 x y, ty, pos, after, guard⟩ = stT 147 (ρ x) (ρ y) := rfl
end

structure RowT (t : TypeId) (k : Nat) : Prop where
  row : ∃ d, Tryz.prog.underlying t = some d ∧ d.isRow = true
  size : (Tryz.prog.info? t).map (·.size) = some k
theorem rowAd : RowT 38 3 := ⟨⟨_, Tryz.underlying38, rfl⟩, by kernel_rfl⟩
theorem rowPf : RowT 40 4 := ⟨⟨_, Tryz.underlying40, rfl⟩, by kernel_rfl⟩
theorem rowRg : RowT 53 6 := ⟨⟨_, Tryz.underlying53, rfl⟩, by kernel_rfl⟩
theorem rowW : RowT 145 9 := ⟨⟨_, Tryz.underlying145, rfl⟩, by kernel_rfl⟩
theorem rowSp : RowT 147 18 := ⟨⟨_, Tryz.underlying147, rfl⟩, by kernel_rfl⟩

theorem ldT_run {t : TypeId} {k : Nat} (T : RowT t k) {w : World} {g o : Nat} {cs : List Value} (hl : cs.length = k) (hc : w.rangeAt g o cs) :
    (ldT t (.pointer (some ⟨g, o, none⟩))).run Tryz.prog w = .ok (.value (.agg cs.toArray)) w := by
  obtain ⟨d, hu, hd⟩ := T.row
  unfold ldT
  have := run_loadAt_mid (P := Tryz.prog) w g o t cs d hc hu hd (by rw [T.size, hl])
  simp only [Sem.run_bind, this, Result.andThen_ok, Sem.run_pure]
theorem Blk.range {w : World} {p : Nat} {cs : List Value} {t : TypeId} (h : Blk w p cs t) (o : Nat) (ds rest : List Value) (hd : cs.drop o = ds ++ rest) : w.rangeAt p o ds := by
  intro j v hv
  refine h.cell ?_
  have hj := (List.getElem?_eq_some_iff.1 hv).1
  have : (cs.drop o)[j]? = some v := by rw [hd, List.getElem?_append_left hj]; exact hv
  rwa [List.getElem?_drop] at this
theorem Blk.ld {t : TypeId} {k : Nat} (T : RowT t k) {w : World} {p : Nat} {cs : List Value} {te : TypeId} (h : Blk w p cs te) (hl : cs.length = k) :
    (ldT t (.pointer (some ⟨p, 0, none⟩))).run Tryz.prog w = .ok (.value (.agg cs.toArray)) w := ldT_run T hl (h.range 0 cs [] (by simp))
theorem Blk.ldAt {t : TypeId} {k : Nat} (T : RowT t k) {w : World} {p : Nat} {cs : List Value} {te : TypeId} (h : Blk w p cs te) (o : Nat) (ds rest : List Value) (hl : ds.length = k) (hd : cs.drop o = ds ++ rest) :
    (ldT t (.pointer (some ⟨p, o, none⟩))).run Tryz.prog w = .ok (.value (.agg ds.toArray)) w := ldT_run T hl (h.range o ds rest hd)
theorem SlE.range {α : Type} {E : Enc α} {w : World} {g off n cap : Nat} {xs : List α} (h : SlE E w (some ⟨g, off, none⟩) n cap xs) {k : Nat} {x : α} (hx : xs[k]? = some x) : w.rangeAt g (off + k * E.k) (E.enc x) := by
  intro i v hv
  have hk := (List.getElem?_eq_some_iff.1 hx).1
  obtain ⟨h1, _, _, h4⟩ := h
  rcases h4 with h4 | ⟨g', off', hA, _, hc⟩
  · omega
  · cases hA; exact hc k x hx i v hv
theorem SlE.ld {α : Type} {E : Enc α} {t : TypeId} (T : RowT t E.k) {w : World} {g off n cap : Nat} {xs : List α} (h : SlE E w (some ⟨g, off, none⟩) n cap xs) {k : Nat} {x : α} (hx : xs[k]? = some x) :
    (ldT t (.pointer (some ⟨g, off + k * E.k, none⟩))).run Tryz.prog w = .ok (.value (.agg (E.enc x).toArray)) w := ldT_run T (E.len x) (h.range hx)
theorem SlE.ldAt {α : Type} {E : Enc α} {t : TypeId} {m : Nat} (T : RowT t m) {w : World} {g off n cap : Nat} {xs : List α} (h : SlE E w (some ⟨g, off, none⟩) n cap xs) {k : Nat} {x : α} (hx : xs[k]? = some x) (o : Nat) (ds rest : List Value) (hl : ds.length = m) (hd : (E.enc x).drop o = ds ++ rest) :
    (ldT t (.pointer (some ⟨g, off + k * E.k + o, none⟩))).run Tryz.prog w = .ok (.value (.agg ds.toArray)) w := by
  refine ldT_run T hl (fun j v hv => ?_)
  have hj := (List.getElem?_eq_some_iff.1 hv).1
  have h1 : ((E.enc x).drop o)[j]? = some v := by rw [hd, List.getElem?_append_left hj]; exact hv
  rw [List.getElem?_drop] at h1
  have := h.range hx (o + j) v h1
  rwa [← Nat.add_assoc] at this

theorem setRow_new (w : World) (zs cs : Array Value) (t : TypeId) : (w.alloc (.cells zs t)).setRow w.heap.size cs = w.alloc (.cells cs t) := by
  have h : ∀ (a b : World), a.heap = b.heap → a.tape = b.tape → a.drawn = b.drawn → a.os = b.os → a.output = b.output → a = b := by
    intro a b h1 h2 h3 h4 h5; cases a; cases b; simp_all
  refine h _ _ ?_ rfl rfl rfl rfl
  apply Array.ext_getElem?
  intro i
  by_cases hi : i = w.heap.size
  · subst hi
    rw [setRow_heap _ _ _ _ _ _ (heap_alloc_new w _), heap_alloc_new w _]
  · rw [setRow_other _ _ _ _ hi]
    rcases Nat.lt_or_ge i w.heap.size with h1 | h1
    · rw [Below.heap_alloc _ _ _ h1, Below.heap_alloc _ _ _ h1]
    · rw [Array.getElem?_eq_none (by simp; omega), Array.getElem?_eq_none (by simp; omega)]
theorem stT_row {t te : TypeId} {k : Nat} (T : RowT t k) {w : World} {p : Nat} {old cs : List Value} (h : Blk w p old te) (ho : old.length = k) (hl : cs.length = k) (h1 : ∀ v ∈ cs, v.oneCell' = true) :
    (stT t (.pointer (some ⟨p, 0, none⟩)) (.agg cs.toArray)).run Tryz.prog w = .ok .skip (w.setRow p cs.toArray) := by
  obtain ⟨d, hu, hd⟩ := T.row
  unfold stT
  have hs := run_storeVar_row (P := Tryz.prog) w p te t old.toArray cs.toArray h (by rw [T.size]; simp [hl]) (by simp [ho, hl]) (all_oneCell_toArray h1)
  simp only [Instr.storeAt, Instr.sureAddr, Sem.run_bind, Sem.run_pure, Result.andThen_ok, hs]
theorem stT_new {t te : TypeId} {k : Nat} (T : RowT t k) (w : World) (b : Nat) (hb : b = w.heap.size) (zs cs : List Value) (hz : zs.length = k) (hl : cs.length = k) (h1 : ∀ v ∈ cs, v.oneCell' = true) :
    (stT t (.pointer (some ⟨b, 0, none⟩)) (.agg cs.toArray)).run Tryz.prog (w.alloc (.cells zs.toArray te)) = .ok .skip (w.alloc (.cells cs.toArray te)) := by
  subst hb
  rw [stT_row T (Blk.new w zs te) hz hl h1, setRow_new]
def bdT (t : TypeId) (x y : Value) : Sem Next := do
  let v ← Instr.build t #[(0, x), (1, y)]
  pure (.value v)
section
variable (ρ : Operand → Value) (dst : Option Tmp) (x y : Operand) (ty : TypeId) (pos : String) (after : Array Edge) (guard : Option (Nat × Bool))
@[go_sem ↓ high] theorem execOp_bdPf : execOp ρ ⟨dst, .build 40 #[(0, x), (1, y)], ty, pos, after, guard⟩ = bdT 40 (ρ x) (ρ y) := by
  simp only [execOp, bdT, List.map_toArray, List.map_cons, List.map_nil]
@[go_sem high] theorem execOp_bdPf' : execOp ρ ⟨dst, .build 40 #[(0, x), (1, y)], ty, pos, after, guard⟩ = bdT 40 (ρ x) (ρ y) := by
  simp only [execOp, bdT, List.map_toArray, List.map_cons, List.map_nil]
@[go_sem ↓ high] theorem execOp_bdRg : execOp ρ ⟨dst, .build 53 #[(0, x), (1, y)], ty, pos, after, guard⟩ = bdT 53 (ρ x) (ρ y) := by
  simp only [execOp, bdT, List.map_toArray, List.map_cons, List.map_nil]
@[go_sem high] theorem execOp_bdRg' : execOp ρ ⟨dst, .build 53 #[(0, x), (1, y)], ty, pos, after, guard⟩ = bdT 53 (ρ x) (ρ y) := by
  simp only [execOp, bdT, List.map_toArray, List.map_cons, List.map_nil]
@[go_sem ↓ high] theorem execOp_bdSp : execOp ρ ⟨dst, .build 147 #[(0, x), (1, y)], ty, pos, after, guard⟩ = bdT 147 (ρ x) (ρ y) := by
  simp only [execOp, bdT, List.map_toArray, List.map_cons, List.map_nil]
@[go_sem high] theorem execOp_bdSp' : execOp ρ ⟨dst, .build 147 #[(0, x), (1, y)], ty, pos, after, guard⟩ = bdT 147 (ρ x) (ρ y) := by
  simp only [execOp, bdT, List.map_toArray, List.map_cons, List.map_nil]
end
theorem bdT_run {t : TypeId} {x y : Value} {cells : Array Value} (h : Tryz.prog.built t [(0, x), (1, y)] = some cells) (w : World) : (bdT t x y).run Tryz.prog w = .ok (.value (.agg cells)) w := by
  unfold bdT
  simp only [Sem.run_bind, run_build (P := Tryz.prog) w t #[(0, x), (1, y)] cells h, Result.andThen_ok, Sem.run_pure]
@[go_sem] theorem run_bdPf (a : Ad) (n : Int) (w : World) : (bdT 40 (.agg (adC a).toArray) (.int .i64 n)).run Tryz.prog w = .ok (.value (.agg (pfC (a, n)).toArray)) w := bdT_run (by kernel_rfl) w
@[go_sem] theorem run_bdRg (a b : Ad) (w : World) : (bdT 53 (.agg (adC a).toArray) (.agg (adC b).toArray)).run Tryz.prog w = .ok (.value (.agg (rgC (a, b)).toArray)) w := bdT_run (by kernel_rfl) w
@[go_sem] theorem run_bdSp (A B : Nat) (w : World) : (bdT 147 (.agg (digN A).toArray) (.agg (digN B).toArray)).run Tryz.prog w = .ok (.value (.agg (digN A ++ digN B).toArray)) w := bdT_run (by kernel_rfl) w

structure Wh where
  kind : Int
  name : List UInt8
  net : Pf
structure Tg where
  what : Wh
  lo : Int
  hi : Int
structure Sl3 where
  A : Option Addr
  n : Nat
  c : Nat
structure Gt where
  s : Sl3
  d : Sl3
  proto : Int
  ps : Sl3
abbrev slV (x : Sl3) : Value := .slice x.A x.n x.c
def whC (x : Wh) : List Value := [.int .i64 x.kind, .string ⟨x.name.toArray⟩] ++ pfC x.net
def tgC (x : Tg) : List Value := whC x.what ++ [.int .i64 x.lo, .int .i64 x.hi]
def gtC (x : Gt) : List Value := [slV x.s, slV x.d, .int .i64 x.proto, slV x.ps]
abbrev whA (x : Wh) : Value := .agg (whC x).toArray
abbrev tgA (x : Tg) : Value := .agg (tgC x).toArray
theorem whC_len (x : Wh) : (whC x).length = 6 := rfl
theorem tgC_len (x : Tg) : (tgC x).length = 8 := rfl
theorem gtC_len (x : Gt) : (gtC x).length = 4 := rfl
theorem gtC_one (x : Gt) : ∀ v ∈ gtC x, v.oneCell' = true := by
  intro v hv
  simp [gtC] at hv
  rcases hv with rfl | rfl | rfl | rfl <;> rfl
theorem whC_one (x : Wh) : ∀ v ∈ whC x, v.oneCell' = true := by
  intro v hv
  simp [whC, pfC] at hv
  rcases hv with rfl | rfl | rfl | rfl | rfl | rfl <;> rfl
theorem tgC_one (x : Tg) : ∀ v ∈ tgC x, v.oneCell' = true := by
  intro v hv
  simp [tgC, whC, pfC] at hv
  rcases hv with rfl | rfl | rfl | rfl | rfl | rfl | rfl | rfl <;> rfl
def eWh : Enc Wh := ⟨whC, 6, by decide, whC_len, whC_one⟩
def eTg : Enc Tg := ⟨tgC, 8, by decide, tgC_len, tgC_one⟩
def eGt : Enc Gt := ⟨gtC, 4, by decide, gtC_len, gtC_one⟩
def zGtC : List Value := [.slice none 0 0, .slice none 0 0, .int .i64 0, .slice none 0 0]
def zWhC : List Value := [.int .i64 0, .string ⟨#[]⟩, .bool false, .int .u64 0, .int .u64 0, .int .i64 0]
def zTgC : List Value := [.int .i64 0, .string ⟨#[]⟩, .bool false, .int .u64 0, .int .u64 0, .int .i64 0, .int .i64 0, .int .i64 0]
section
variable (ρ : Operand → Value) (dst : Option Tmp) (x y : Operand) (ty : TypeId) (pos : String) (after : Array Edge) (guard : Option (Nat × Bool))
@[go_sem ↓ high] theorem execOp_ldWh : execOp ρ ⟨dst, .load 244 x, ty, pos, after, guard⟩ = ldT 244 (ρ x) := rfl
@[go_sem high] theorem execOp_ldWh' : execOp ρ ⟨dst, .load 244 x, ty, pos, after, guard⟩ = ldT 244 (ρ x) := rfl
@[go_sem ↓ high] theorem execOp_stWh : execOp ρ ⟨dst, .store 244 x y, ty, pos, after, guard⟩ = stT 244 (ρ x) (ρ y) := rfl
@[go_sem high] theorem execOp_stWh' : execOp ρ ⟨dst, .store 244 x y, ty, pos, after, guard⟩ = stT 244 (ρ x) (ρ y) := rfl
@[go_sem ↓ high] theorem execOp_ldTg : execOp ρ ⟨dst, .load 252 x, ty, pos, after, guard⟩ = ldT 252 (ρ x) := rfl
@[go_sem high] theorem execOp_ldTg' : execOp ρ ⟨dst, .load 252 x, ty, pos, after, guard⟩ = ldT 252 (ρ x) := rfl
@[go_sem ↓ high] theorem execOp_stTg : execOp ρ ⟨dst, .store 252 x y, ty, pos, after, guard⟩ = stT 252 (ρ x) (ρ y) := rfl
@[go_sem high] theorem execOp_stTg' : execOp ρ ⟨dst, .store 252 x y, ty, pos, after, guard⟩ = stT 252 (ρ x) (ρ y) := rfl
@[go_sem ↓ high] theorem execOp_ldGt : execOp ρ ⟨dst, .load 255 x, ty, pos, after, guard⟩ = ldT 255 (ρ x) := rfl
@[go_sem high] theorem execOp_ldGt' : execOp ρ ⟨dst, .load 255 x, ty, pos, after, guard⟩ = ldT 255 (ρ x) := rfl
@[go_sem ↓ high] theorem execOp_stGt : execOp ρ ⟨dst, .store 255 x y, ty, pos, after, guard⟩ = stT 255 (ρ x) (ρ y) := rfl
@[go_sem high] theorem execOp_stGt' : execOp ρ ⟨dst, .store 255 x y, ty, pos, after, guard⟩ = stT 255 (ρ x) (ρ y) := rfl
@[go_sem ↓ high] theorem execOp_bdTg : execOp ρ ⟨dst, .build 252 #[(0, x), (1, y)], ty, pos, after, guard⟩ = bdT 252 (ρ x) (ρ y) := by
  simp only [execOp, bdT, List.map_toArray, List.map_cons, List.map_nil]
@[go_sem high] theorem execOp_bdTg' : execOp ρ ⟨dst, .build 252 #[(0, x), (1, y)], ty, pos, after, guard⟩ = bdT 252 (ρ x) (ρ y) := execOp_bdTg ρ dst x y ty pos after guard
@[go_sem ↓ high] theorem execOp_bdGt : execOp ρ ⟨dst, .build 255 #[(0, x), (1, y)], ty, pos, after, guard⟩ = bdT 255 (ρ x) (ρ y) := by
  simp only [execOp, bdT, List.map_toArray, List.map_cons, List.map_nil]
@[go_sem high] theorem execOp_bdGt' : execOp ρ ⟨dst, .build 255 #[(0, x), (1, y)], ty, pos, after, guard⟩ = bdT 255 (ρ x) (ρ y) := execOp_bdGt ρ dst x y ty pos after guard
end
theorem rowWh : RowT 244 6 := ⟨⟨_, Tryz.underlying244, rfl⟩, by kernel_rfl⟩
theorem rowTg : RowT 252 8 := ⟨⟨_, Tryz.underlying252, rfl⟩, by kernel_rfl⟩
@[go_sem] theorem run_bdTg (x : Wh) (a b : Int) (w : World) : (bdT 252 (.agg (whC x).toArray) (.agg #[.int .i64 a, .int .i64 b])).run Tryz.prog w = .ok (.value (.agg (tgC ⟨x, a, b⟩).toArray)) w := bdT_run (by kernel_rfl) w
theorem rowGt : RowT 255 4 := ⟨⟨_, Tryz.underlying255, rfl⟩, by kernel_rfl⟩
@[go_sem] theorem run_bdGt (s d : Sl3) (w : World) : (bdT 255 (slV s) (slV d)).run Tryz.prog w = .ok (.value (.agg (gtC ⟨s, d, 0, ⟨none, 0, 0⟩⟩).toArray)) w := bdT_run (by kernel_rfl) w
theorem infoGt : (Tryz.prog.info? 255).map (fun i => (i.zero, i.size, i.bytes)) = some (some (.agg zGtC.toArray), 4, 80) := by kernel_rfl
theorem tyeGt : Ty eGt 255 64 (.agg zGtC.toArray) 80 := ⟨Tryz.underlying64, infoGt, rfl, by decide⟩
theorem infoWh : (Tryz.prog.info? 244).map (fun i => (i.zero, i.size, i.bytes)) = some (some (.agg zWhC.toArray), 6, 56) := by kernel_rfl
theorem infoTg : (Tryz.prog.info? 252).map (fun i => (i.zero, i.size, i.bytes)) = some (some (.agg zTgC.toArray), 8, 72) := by kernel_rfl
theorem tyeWh : Ty eWh 244 240 (.agg zWhC.toArray) 56 := ⟨Tryz.underlying240, infoWh, rfl, by decide⟩
theorem tyeTg : Ty eTg 252 246 (.agg zTgC.toArray) 72 := ⟨Tryz.underlying246, infoTg, rfl, by decide⟩
def bsU (t : TypeId) (x : Value) : Sem Next := do
  let v ← Instr.buildSlice t 1 #[(0, x)]
  pure (.value v)
@[go_sem ↓ high] theorem execOp_bsWh (ρ : Operand → Value) (dst : Option Tmp) (x : Operand) (ty : TypeId) (pos : String) (after : Array Edge) (guard : Option (Nat × Bool)) : execOp ρ ⟨dst, .buildSlice 240 1 #[(0, x)], ty, pos, after, guard⟩ = bsU 240 (ρ x) := by
  simp only [execOp, bsU, List.map_toArray, List.map_cons, List.map_nil]
@[go_sem high] theorem execOp_bsWh' (ρ : Operand → Value) (dst : Option Tmp) (x : Operand) (ty : TypeId) (pos : String) (after : Array Edge) (guard : Option (Nat × Bool)) : execOp ρ ⟨dst, .buildSlice 240 1 #[(0, x)], ty, pos, after, guard⟩ = bsU 240 (ρ x) := execOp_bsWh ρ dst x ty pos after guard
@[go_sem] theorem run_bsWh (x : Wh) (w : World) : (bsU 240 (.agg (whC x).toArray)).run Tryz.prog w = .ok (.value (.slice (some ⟨w.heap.size, 0, none⟩) 1 1)) (w.alloc (.cells (whC x).toArray 244)) := by
  obtain ⟨i0, hi0, hz0, hz1, hz2⟩ := info_parts infoWh
  have hf : Instr.fill (fun i => some (i * 6, 6)) ((Array.range (1 * 6)).map ((Value.agg zWhC.toArray).cells[· % (Value.agg zWhC.toArray).cells.size]!)) [(0, .agg (whC x).toArray)] = some (whC x).toArray := by kernel_rfl
  unfold bsU
  simp only [Sem.run_bind, run_buildSlice (P := Tryz.prog) w 240 244 1 #[(0, .agg (whC x).toArray)] (whC x).toArray i0 (.agg zWhC.toArray) Tryz.underlying240 hi0 hz0 (by rw [hz1]; decide) (by rw [hz1]; decide) (by rw [hz1]; exact hf), Result.andThen_ok, Sem.run_pure]
@[go_sem ↓ high] theorem execOp_bsTg (ρ : Operand → Value) (dst : Option Tmp) (x : Operand) (ty : TypeId) (pos : String) (after : Array Edge) (guard : Option (Nat × Bool)) : execOp ρ ⟨dst, .buildSlice 246 1 #[(0, x)], ty, pos, after, guard⟩ = bsU 246 (ρ x) := by
  simp only [execOp, bsU, List.map_toArray, List.map_cons, List.map_nil]
@[go_sem high] theorem execOp_bsTg' (ρ : Operand → Value) (dst : Option Tmp) (x : Operand) (ty : TypeId) (pos : String) (after : Array Edge) (guard : Option (Nat × Bool)) : execOp ρ ⟨dst, .buildSlice 246 1 #[(0, x)], ty, pos, after, guard⟩ = bsU 246 (ρ x) := execOp_bsTg ρ dst x ty pos after guard
@[go_sem] theorem run_bsTg (x : Tg) (w : World) : (bsU 246 (.agg (tgC x).toArray)).run Tryz.prog w = .ok (.value (.slice (some ⟨w.heap.size, 0, none⟩) 1 1)) (w.alloc (.cells (tgC x).toArray 252)) := by
  obtain ⟨i0, hi0, hz0, hz1, hz2⟩ := info_parts infoTg
  have hf : Instr.fill (fun i => some (i * 8, 8)) ((Array.range (1 * 8)).map ((Value.agg zTgC.toArray).cells[· % (Value.agg zTgC.toArray).cells.size]!)) [(0, .agg (tgC x).toArray)] = some (tgC x).toArray := by kernel_rfl
  unfold bsU
  simp only [Sem.run_bind, run_buildSlice (P := Tryz.prog) w 246 252 1 #[(0, .agg (tgC x).toArray)] (tgC x).toArray i0 (.agg zTgC.toArray) Tryz.underlying246 hi0 hz0 (by rw [hz1]; decide) (by rw [hz1]; decide) (by rw [hz1]; exact hf), Result.andThen_ok, Sem.run_pure]
@[go_sem ↓ high] theorem execOp_bsGt (ρ : Operand → Value) (dst : Option Tmp) (x : Operand) (ty : TypeId) (pos : String) (after : Array Edge) (guard : Option (Nat × Bool)) : execOp ρ ⟨dst, .buildSlice 64 1 #[(0, x)], ty, pos, after, guard⟩ = bsU 64 (ρ x) := by
  simp only [execOp, bsU, List.map_toArray, List.map_cons, List.map_nil]
@[go_sem high] theorem execOp_bsGt' (ρ : Operand → Value) (dst : Option Tmp) (x : Operand) (ty : TypeId) (pos : String) (after : Array Edge) (guard : Option (Nat × Bool)) : execOp ρ ⟨dst, .buildSlice 64 1 #[(0, x)], ty, pos, after, guard⟩ = bsU 64 (ρ x) := execOp_bsGt ρ dst x ty pos after guard
@[go_sem] theorem run_bsGt (x : Gt) (w : World) : (bsU 64 (.agg (gtC x).toArray)).run Tryz.prog w = .ok (.value (.slice (some ⟨w.heap.size, 0, none⟩) 1 1)) (w.alloc (.cells (gtC x).toArray 255)) := by
  obtain ⟨i0, hi0, hz0, hz1, hz2⟩ := info_parts infoGt
  have hf : Instr.fill (fun i => some (i * 4, 4)) ((Array.range (1 * 4)).map ((Value.agg zGtC.toArray).cells[· % (Value.agg zGtC.toArray).cells.size]!)) [(0, .agg (gtC x).toArray)] = some (gtC x).toArray := by kernel_rfl
  unfold bsU
  simp only [Sem.run_bind, run_buildSlice (P := Tryz.prog) w 64 255 1 #[(0, .agg (gtC x).toArray)] (gtC x).toArray i0 (.agg zGtC.toArray) Tryz.underlying64 hi0 hz0 (by rw [hz1]; decide) (by rw [hz1]; decide) (by rw [hz1]; exact hf), Result.andThen_ok, Sem.run_pure]

def formsC : List Value := [.string ⟨#[42]⟩, .bool false, .bool false, .string ⟨#[117, 115, 101, 114]⟩, .bool true, .bool false, .string ⟨#[103, 114, 111, 117, 112]⟩, .bool true, .bool false, .string ⟨#[116, 97, 103]⟩, .bool true, .bool false, .string ⟨#[110, 111, 100, 101]⟩, .bool true, .bool false, .string ⟨#[104, 111, 115, 116]⟩, .bool true, .bool false, .string ⟨#[110, 101, 116]⟩, .bool false, .bool true, .string ⟨#[109, 101, 109, 98, 101, 114]⟩, .bool false, .bool false, .string ⟨#[116, 97, 103, 103, 101, 100]⟩, .bool false, .bool false, .string ⟨#[115, 101, 108, 102]⟩, .bool false, .bool false]
theorem formsC_len : formsC.length = 30 := rfl
structure Rd2 (w : World) : Prop where
  maxl : ∃ m, w.cell? ⟨3, 0, none⟩ = some (.int .i64 m)
  forms : w.rangeAt 2 0 formsC
  lt : 11 ≤ w.heap.size
theorem Rd2.below {w w' : World} (h : Rd2 w) (k : Below w.heap.size w w') : Rd2 w' := by
  have hl := h.lt
  obtain ⟨m, hm⟩ := h.maxl
  refine ⟨⟨m, ?_⟩, ?_, Nat.le_trans hl k.size⟩
  · rw [World.cell?_of_block (w := w) (k.block _ (by simp; omega))]; exact hm
  · intro i v hv
    have := h.forms i v hv
    rw [World.cell?_of_block (w := w) (k.block _ (by simp; omega))]
    exact this
section
variable (ρ : Operand → Value) (dst : Option Tmp) (x y : Operand) (ty : TypeId) (pos : String) (after : Array Edge) (guard : Option (Nat × Bool))
@[go_sem ↓ high] theorem execOp_ldFm : execOp ρ ⟨dst, .load 342 x, ty, pos, after, guard⟩ = ldT 342 (ρ x) := rfl
@[go_sem high] theorem execOp_ldFm' : execOp ρ ⟨dst, .load 342 x, ty, pos, after, guard⟩ = ldT 342 (ρ x) := rfl
end
theorem rowFm : RowT 342 30 := ⟨⟨_, Tryz.underlying342, rfl⟩, by kernel_rfl⟩
@[go_sem] theorem run_indexFm (w : World) : (Instr.index 342 (.agg formsC.toArray) (.int .i64 0)).run Tryz.prog w = .ok (.agg #[.string ⟨#[42]⟩, .bool false, .bool false]) w := by kernel_rfl

set_option maxHeartbeats 1000000 in
theorem kindStar_any (w : World) (hF : Rd2 w) : Calls Tryz.prog 257 #[.string ⟨#[42]⟩, .bool false] w (GivesV (.tuple #[.int .i64 1, .bool true]) w) := by
  have lF : (ldT 342 (.pointer (some ⟨2, 0, none⟩))).run Tryz.prog w = .ok (.value (.agg formsC.toArray)) w := ldT_run rowFm formsC_len hF.forms
  have hb : Below w.heap.size w (w.alloc (.cells #[.string ⟨#[42]⟩, .bool false, .bool false] 341)) := (Below.refl _ _).alloc (Nat.le_refl _) _
  go_enter Tryz.func257, Tryz.ntmps257
  go_wp2_with fail
  refine wp_loop_rounds 2 ?_
  rw [rounds_succ]
  go_wp2_with fail
  go_ret2
  exact ⟨rfl, hb⟩

theorem cutNo_any (l p : List UInt8) (w : World) (hC : Rd2 w) (hl : l.length ≤ 100000) :
    Calls Tryz.prog 99 #[.string ⟨l.toArray⟩, .string ⟨p.toArray⟩] w (GivesV (.tuple #[.string ⟨(Lib.cut l p).1.toArray⟩, .string ⟨(Lib.cut l p).2.1.toArray⟩, .bool (Lib.cut l p).2.2]) w) := by
  obtain ⟨m, hm⟩ := hC.maxl
  refine (Tryz.strings_Cut ⟨l.toArray⟩ ⟨p.toArray⟩ m w (by rw [Lib.size_eq]; exact Nat.lt_of_le_of_lt hl (by decide)) hm).mono ?_
  rintro e w' ⟨rfl, n, rfl⟩
  exact ⟨rfl, below_drewN (Below.refl _ _) n⟩
theorem results_cell_tmp_rowU {fn : Func} {p u : Tmp} {ty : TypeId} {k : Nat} (T : RowT ty k) (h : fn.results = #[.cell p ty, .tmp u]) (tmps : Array Value) (w : World) (g : Nat) (t : TypeId) (cs : List Value) (x : Value)
    (hp : tmps.getD p undef = .pointer (some ⟨g, 0, none⟩)) (hx : tmps.getD u undef = x) (hg : Blk w g cs t) (hl : cs.length = k) :
    (results fn tmps).run Tryz.prog w = .ok (.tuple #[.agg cs.toArray, x]) w := by
  obtain ⟨d, hu, hd⟩ := T.row
  rw [results_cell_tmp h, hp, hx]
  have := run_loadVar_mid (P := Tryz.prog) w g 0 ty cs d (hg.range 0 cs [] (by simp)) hu hd (by rw [T.size, hl])
  simp [asAddr, this, Result.andThen]
theorem below_rowU {B p : Nat} {w W : World} (h : Below B w W) (hp : B ≤ p) (cs : Array Value) : Below B w (W.setRow p cs) :=
  ⟨h.os, h.tape, h.output, Nat.le_trans h.size (by simp), fun k hk => (setRow_other W p k cs (by omega)).trans (h.block k hk)⟩
def wStar : Wh := ⟨1, [], (⟨false, 0, 0⟩, 0)⟩
def tStar : Tg := ⟨wStar, 0, 65535⟩

set_option maxHeartbeats 2000000 in
theorem readWhatStar_any (w : World) (hF : Rd2 w) : Calls Tryz.prog 172 #[.string ⟨#[42]⟩] w (GivesV (.tuple #[whA wStar, .bool true]) w) := by
  have hR := Blk.new w zWhC 244
  obtain ⟨wR, hwR⟩ : ∃ x, x = w.alloc (.cells #[.int .i64 0, .string ⟨#[]⟩, .bool false, .int .u64 0, .int .u64 0, .int .i64 0] 244) := ⟨_, rfl⟩
  have hbw : Below w.heap.size w wR := by rw [hwR]; exact (Below.refl _ _).alloc (Nat.le_refl _) _
  replace hR : Blk wR w.heap.size zWhC 244 := by rw [hwR]; exact hR
  have HC := Lib.hid (show Calls Tryz.prog 99 #[.string ⟨#[42]⟩, .string ⟨#[58]⟩] wR (GivesV (.tuple #[.string ⟨#[42]⟩, .string ⟨#[]⟩, .bool false]) wR) from cutNo_any [42] [58] wR (hF.below hbw) (by decide))
  go_enter Tryz.func172, Tryz.ntmps172
  go_upto_region 1 with fail
  rw [← hwR]
  clear hwR
  go_wp2_with fail
  refine HC.out.mono ?_
  rintro e w1 ⟨rfl, hb1⟩
  replace hbw := hbw.trans (hb1.mono hbw.size)
  replace hR := hR.below hb1
  replace hF := hF.below hbw
  have HK := Lib.hid (kindStar_any w1 hF)
  clear HC hb1
  go_wp2_with fail
  refine HK.out.mono ?_
  rintro e w2 ⟨rfl, hb2⟩
  replace hbw := hbw.trans (hb2.mono hbw.size)
  replace hR := hR.below hb2
  replace hF := hF.below hb2
  clear HK hb2
  have hF5 := hF.below ((Below.refl _ _).alloc (Nat.le_refl _) (.cells (whC wStar).toArray 244))
  have c0 : (w2.alloc (.cells (whC wStar).toArray 244)).cell? ⟨2, 0, none⟩ = some (.string ⟨#[42]⟩) := hF5.forms 0 _ rfl
  have c1 : (w2.alloc (.cells (whC wStar).toArray 244)).cell? ⟨2, 1, none⟩ = some (.bool false) := hF5.forms 1 _ rfl
  have c2 : (w2.alloc (.cells (whC wStar).toArray 244)).cell? ⟨2, 2, none⟩ = some (.bool false) := hF5.forms 2 _ rfl
  clear hF5
  have S5 : (stT 244 (.pointer (some ⟨w2.heap.size, 0, none⟩)) (.agg #[.int .i64 1, .string ⟨#[]⟩, .bool false, .int .u64 0, .int .u64 0, .int .i64 0])).run Tryz.prog (w2.alloc (.cells #[.int .i64 0, .string ⟨#[]⟩, .bool false, .int .u64 0, .int .u64 0, .int .i64 0] 244)) = .ok .skip (w2.alloc (.cells (whC wStar).toArray 244)) :=
    stT_new rowWh w2 w2.heap.size rfl zWhC (whC wStar) rfl (whC_len _) (whC_one _)
  have hX := (Blk.new w2 (whC wStar) 244).alloc (.cells #[.string ⟨#[42]⟩, .bool false, .bool false] 341)
  have lX := hX.ld rowWh (whC_len wStar)
  have hR2 := (hR.alloc (.cells (whC wStar).toArray 244)).alloc (.cells #[.string ⟨#[42]⟩, .bool false, .bool false] 341)
  have SR := stT_row rowWh hR2 rfl (whC_len wStar) (whC_one wStar)
  have hb3 := (hbw.alloc hbw.size (.cells (whC wStar).toArray 244)).alloc (by have := hbw.size; simp; omega) (.cells #[.string ⟨#[42]⟩, .bool false, .bool false] 341)
  go_wp2_with fail
  refine bodyPost_ret (v := .tuple #[whA wStar, .bool true]) (results_cell_tmp_rowU rowWh rfl _ _ w.heap.size _ _ _ rfl rfl (setRow_heap _ w.heap.size _ _ _ _ hR2) (whC_len _)) rfl ⟨rfl, ?_⟩
  exact below_rowU (p := w.heap.size) hb3 (Nat.le_refl _) _

def formL (s : List UInt8) (a b : Bool) : DataW Unit := .agg [.lit (.string s), .lit (.bool a), .lit (.bool b)]
theorem one_at {cs : List Value} {o : Nat} {v : Value} (h : (cs.drop o).take 1 = [v]) : cs[o]? = some v := by
  have := congrArg (·[0]?) h
  simpa [List.getElem?_take, List.getElem?_drop] using this
theorem form_cells {enc : TypeId × Value → Unit} {w : World} {base : Nat} {sp : Nat → Bool} {held : Bool} {fuel : Nat} {cs : List Value} {s : List UInt8} {a b : Bool} {p : List MemPlace}
    (h : DataW.trod enc Tryz.prog w base sp held fuel 341 cs = some (formL s a b, p)) : cs = [.string ⟨s.toArray⟩, .bool a, .bool b] := by
  obtain ⟨xs, n, _, hx, hl, hxl, hf⟩ := DataW.trod_struct Tryz.underlying341 h
  have hl3 : cs.length = 3 := hl.trans (by kernel_rfl)
  have hxm : xs.map (·.1) = [.lit (.string s), .lit (.bool a), .lit (.bool b)] := by
    have := congrArg Prod.fst hx
    simp only [formL, DataW.agg.injEq] at this
    exact this.symm
  have g0 := hf 0 _ rfl
  have g1 := hf 1 _ rfl
  have g2 := hf 2 _ rfl
  have hx3 : xs.length = 3 := by have := congrArg List.length hxm; simpa using this
  match xs, hx3, hxm, g0, g1, g2 with
  | [x0, x1, x2], _, hxm, g0, g1, g2 =>
    simp only [List.map_cons, List.map_nil, List.cons.injEq, and_true] at hxm
    obtain ⟨e0, e1, e2⟩ := hxm
    obtain ⟨s0, hs0, rfl, _⟩ := DataW.trod_string Tryz.underlying9 g0
    obtain ⟨b1, hb1, rfl⟩ := DataW.trod_bool Tryz.underlying4 g1
    obtain ⟨b2, hb2, rfl⟩ := DataW.trod_bool Tryz.underlying4 g2
    simp only [DataW.lit.injEq, Lit.string.injEq, Lit.bool.injEq] at e0 e1 e2
    subst e0 e1 e2
    have k0 : cs[0]? = some (.string s0) := one_at hs0
    have k1 : cs[1]? = some (.bool b1) := one_at hb1
    have k2 : cs[2]? = some (.bool b2) := one_at hb2
    match cs, hl3, k0, k1, k2 with
    | [c0, c1, c2], _, k0, k1, k2 =>
      simp only [List.getElem?_cons_zero, List.getElem?_cons_succ, Option.some.injEq] at k0 k1 k2
      subst k0 k1 k2
      rfl
def formD : List (List UInt8 × Bool × Bool) := [([42], false, false), ([117, 115, 101, 114], true, false), ([103, 114, 111, 117, 112], true, false), ([116, 97, 103], true, false), ([110, 111, 100, 101], true, false), ([104, 111, 115, 116], true, false), ([110, 101, 116], false, true), ([109, 101, 109, 98, 101, 114], false, false), ([116, 97, 103, 103, 101, 100], false, false), ([115, 101, 108, 102], false, false)]
theorem forms_cells {enc : TypeId × Value → Unit} {w : World} {base : Nat} {sp : Nat → Bool} {held : Bool} {fuel : Nat} {cs : List Value} {p : List MemPlace}
    (h : DataW.trod enc Tryz.prog w base sp held fuel 342 cs = some (.agg (formD.map fun f => formL f.1 f.2.1 f.2.2), p)) : cs = formsC := by
  have hce : Tryz.prog.cellsOf 341 = 3 := by kernel_rfl
  have hct : Tryz.prog.cellsOf 342 = 30 := by kernel_rfl
  cases fuel with
  | zero => simp [DataW.trod] at h
  | succ fuel =>
    simp only [DataW.trod, Tryz.underlying342, hce, hct] at h
    split at h
    · rename_i hl
      obtain ⟨xs, hm, hx⟩ := Option.map_eq_some_iff.1 h
      have hxs : xs.map (·.1) = formD.map fun f => formL f.1 f.2.1 f.2.2 := by
        have := congrArg Prod.fst hx
        simpa using this
      have key : ∀ i s a b, formD[i]? = some (s, a, b) → (cs.drop (i * 3)).take 3 = [.string ⟨s.toArray⟩, .bool a, .bool b] := by
        intro i s a b hi
        have hi10 : i < 10 := (List.getElem?_eq_some_iff.1 hi).1
        obtain ⟨y, hy, hf⟩ := Lib.mapM_at hm i i (by simp [hi10])
        have h2 : (xs.map (·.1))[i]? = some (formL s a b) := by rw [hxs, List.getElem?_map, hi]; rfl
        rw [List.getElem?_map, hy] at h2
        have h3 : y.1 = formL s a b := Option.some.inj h2
        obtain ⟨y1, y2⟩ := y
        simp only at h3
        subst h3
        exact form_cells hf
      apply List.ext_getElem?
      intro j
      by_cases hj : j < 30
      · obtain ⟨f, hf⟩ : ∃ f, formD[j / 3]? = some f := ⟨formD[j / 3]'(by show j / 3 < 10; omega), List.getElem?_eq_getElem _⟩
        obtain ⟨s, a, b⟩ := f
        have h1 := key (j / 3) s a b hf
        have h2 := congrArg (·[j % 3]?) h1
        simp only [List.getElem?_take, List.getElem?_drop] at h2
        rw [if_pos (by omega), show j / 3 * 3 + j % 3 = j by omega] at h2
        rw [h2]
        have hall : ∀ j, j < 30 → ∀ s a b, formD[j / 3]? = some (s, a, b) → ([.string ⟨s.toArray⟩, .bool a, .bool b] : List Value)[j % 3]? = formsC[j]? := by
          intro j hj
          have : j = 0 ∨ j = 1 ∨ j = 2 ∨ j = 3 ∨ j = 4 ∨ j = 5 ∨ j = 6 ∨ j = 7 ∨ j = 8 ∨ j = 9 ∨ j = 10 ∨ j = 11 ∨ j = 12 ∨ j = 13 ∨ j = 14 ∨ j = 15 ∨ j = 16 ∨ j = 17 ∨ j = 18 ∨ j = 19 ∨ j = 20 ∨ j = 21 ∨ j = 22 ∨ j = 23 ∨ j = 24 ∨ j = 25 ∨ j = 26 ∨ j = 27 ∨ j = 28 ∨ j = 29 := by omega
          rcases this with rfl | rfl | rfl | rfl | rfl | rfl | rfl | rfl | rfl | rfl | rfl | rfl | rfl | rfl | rfl | rfl | rfl | rfl | rfl | rfl | rfl | rfl | rfl | rfl | rfl | rfl | rfl | rfl | rfl | rfl <;> (intro s a b h; cases h; rfl)
        exact hall j hj s a b hf
      · rw [List.getElem?_eq_none (by omega), List.getElem?_eq_none (by show 30 ≤ j; omega)]
    · cases h

set_option maxHeartbeats 400000 in
theorem portsAll_any (w : World) : Calls Tryz.prog 258 #[] w (GivesV (.agg #[.int .i64 0, .int .i64 65535]) w) := by
  have hB := Blk.new w [.int .i64 0, .int .i64 65535] 250
  have hb : Below w.heap.size w (w.alloc (.cells #[.int .i64 0, .int .i64 65535] 250)) := (Below.refl _ _).alloc (Nat.le_refl _) _
  have c0 := hB.cell (i := 0) rfl
  have c1 := hB.cell (i := 1) rfl
  go_enter Tryz.func258, Tryz.ntmps258
  go_wp2_with fail
  refine bodyPost_ret (v := .agg #[.int .i64 0, .int .i64 65535]) ?_ rfl ⟨rfl, hb⟩
  simp [results, Tryz.results258, go_sem, c0, c1]

set_option maxHeartbeats 2000000 in
theorem readTargetStar_any (w : World) (hF : Rd2 w) : Calls Tryz.prog 174 #[.string ⟨#[42]⟩] w (GivesV (.tuple #[tgA tStar, .bool true]) w) := by
  have hR := Blk.new w zTgC 252
  obtain ⟨wR, hwR⟩ : ∃ x, x = w.alloc (.cells #[.int .i64 0, .string ⟨#[]⟩, .bool false, .int .u64 0, .int .u64 0, .int .i64 0, .int .i64 0, .int .i64 0] 252) := ⟨_, rfl⟩
  have hbw : Below w.heap.size w wR := by rw [hwR]; exact (Below.refl _ _).alloc (Nat.le_refl _) _
  replace hR : Blk wR w.heap.size zTgC 252 := by rw [hwR]; exact hR
  have HC := Lib.hid (show Calls Tryz.prog 99 #[.string ⟨#[42]⟩, .string ⟨#[59]⟩] wR (GivesV (.tuple #[.string ⟨#[42]⟩, .string ⟨#[]⟩, .bool false]) wR) from cutNo_any [42] [59] wR (hF.below hbw) (by decide))
  go_enter Tryz.func174, Tryz.ntmps174
  go_upto_region 1 with fail
  rw [← hwR]
  clear hwR
  go_wp2_with fail
  refine HC.out.mono ?_
  rintro e w1 ⟨rfl, hb1⟩
  replace hbw := hbw.trans (hb1.mono hbw.size)
  replace hR := hR.below hb1
  replace hF := hF.below hbw
  have HW := Lib.hid (readWhatStar_any w1 hF)
  clear HC hb1
  go_wp2_with fail
  refine HW.out.mono ?_
  rintro e w2 ⟨rfl, hb2⟩
  replace hbw := hbw.trans (hb2.mono hbw.size)
  replace hR := hR.below hb2
  clear HW hb2 hF
  have S5 : (stT 244 (.pointer (some ⟨w2.heap.size, 0, none⟩)) (whA wStar)).run Tryz.prog (w2.alloc (.cells #[.int .i64 0, .string ⟨#[]⟩, .bool false, .int .u64 0, .int .u64 0, .int .i64 0] 244)) = .ok .skip (w2.alloc (.cells (whC wStar).toArray 244)) :=
    stT_new rowWh w2 w2.heap.size rfl zWhC (whC wStar) rfl (whC_len _) (whC_one _)
  have hX := Blk.new w2 (whC wStar) 244
  replace hR := hR.alloc (.cells (whC wStar).toArray 244)
  replace hbw := hbw.alloc hbw.size (.cells (whC wStar).toArray 244)
  go_upto_region 3 with fail
  refine wx_begin (none) [4] (by kernel_rfl) (fun u0 hb0' hz0' => ?_)
  replace hR := hR.below hb0'
  replace hX := hX.below hb0'
  replace hbw := hbw.trans (hb0'.mono hbw.size)
  clear hb0' hz0'
  refine wx_takeZ 0 (some 21) (v := ?_) ?_ ?_; rotate_left; · (intro u hu; have k1 := (hX.gn hu).ld rowWh (whC_len wStar); go_simp; try with_reducible rfl)
  try simp only [Act.put, gzD, gzE, gzF]
  refine wx_two (i := 1) (k := 3) (by simp only [gzA, gzB, gzC] <;> rfl) (by simp only [gzA, gzB, gzC] <;> rfl) (by kernel_rfl) (by rfl) (by rfl) (fun K hK => ?_) (fun K hK => ?_)
  · go_simp
    refine (portsAll_any _).mono ?_
    rintro e wq1 ⟨rfl, hv1⟩
    refine hK.out _ _ (gbB hv1) ?_
    replace hR := hR.below hv1
    replace hX := hX.below hv1
    replace hbw := hbw.trans (hv1.mono hbw.size)
    try replace hP := hP.below hv1
    clear hK K hv1
    try simp only [Act.put, gzD, gzE, gzF]
    refine wx_pureZ 2 (some 23) (v := ?_) ?_ ?_; rotate_left; · (intro u; go_simp; try with_reducible rfl)
    try simp only [Act.put, gzD, gzE, gzF]
    refine wx_oneZ 3 (fun K hK => ?_)
    go_simp
    have hpl := hR.lt
    refine hK.out _ _ (World.grownBy_alloc _ _ none) ?_
    refine wx_new (cs := zTgC) (t := 252) (fun ua3 hv1 hP hz1 => ?_)
    replace hR := hR.below hv1
    replace hX := hX.below hv1
    replace hbw := hbw.trans (hv1.mono hbw.size)
    clear hK K hv1 hz1
    try simp only [Act.put, gzD, gzE, gzF]
    refine wx_store (i := 4) (by simp only [gzA, gzB, gzC] <;> rfl) (by kernel_rfl) (by rfl) (by kernel_rfl) (fun K hK => ?_)
    go_simp
    have S := stT_row rowTg hP rfl (tgC_len ⟨wStar, 0, 65535⟩) (tgC_one ⟨wStar, 0, 65535⟩)
    go_simp
    refine hK _ _ ?_
    have hP2 := setRow_heap _ _ _ (tgC ⟨wStar, 0, 65535⟩).toArray _ _ hP
    have hR2 := (setRow_other _ _ w.heap.size (tgC ⟨wStar, 0, 65535⟩).toArray (Nat.ne_of_lt hpl)).trans hR
    have hb2 := below_rowU hbw (Nat.le_of_lt hpl) (tgC ⟨wStar, 0, 65535⟩).toArray
    clear hK K S hP hR hbw hX
    try simp only [Act.put, gzD, gzE, gzF]
    refine wx_done (by kernel_rfl) ?_ _
    replace hP2 : Blk _ _ (tgC tStar) 252 := hP2
    replace hR2 : Blk _ _ zTgC 252 := hR2
    have lP := hP2.ld rowTg (tgC_len tStar)
    have SR := stT_row rowTg hR2 rfl (tgC_len tStar) (tgC_one tStar)
    go_wp2_with fail
    refine bodyPost_ret (v := .tuple #[tgA tStar, .bool true]) (results_cell_tmp_rowU rowTg rfl _ _ w.heap.size _ _ _ rfl rfl (setRow_heap _ w.heap.size _ _ _ _ hR2) (tgC_len _)) rfl ⟨rfl, ?_⟩
    exact below_rowU (p := w.heap.size) hb2 (Nat.le_refl _) _
  · go_simp
    have hpl := hR.lt
    refine hK.out _ _ (World.grownBy_alloc _ _ none) ?_
    refine wx_new (cs := zTgC) (t := 252) (fun ua3 hv1 hP hz1 => ?_)
    replace hR := hR.below hv1
    replace hX := hX.below hv1
    replace hbw := hbw.trans (hv1.mono hbw.size)
    clear hK K hv1 hz1
    try simp only [Act.put, gzD, gzE, gzF]
    refine wx_oneZ 1 (fun K hK => ?_)
    go_simp
    refine (portsAll_any _).mono ?_
    rintro e wq1 ⟨rfl, hv1⟩
    refine hK.out _ _ (gbB hv1) ?_
    replace hR := hR.below hv1
    replace hX := hX.below hv1
    replace hbw := hbw.trans (hv1.mono hbw.size)
    try replace hP := hP.below hv1
    clear hK K hv1
    try simp only [Act.put, gzD, gzE, gzF]
    refine wx_pureZ 2 (some 23) (v := ?_) ?_ ?_; rotate_left; · (intro u; go_simp; try with_reducible rfl)
    try simp only [Act.put, gzD, gzE, gzF]
    refine wx_store (i := 4) (by simp only [gzA, gzB, gzC] <;> rfl) (by kernel_rfl) (by rfl) (by kernel_rfl) (fun K hK => ?_)
    go_simp
    have S := stT_row rowTg hP rfl (tgC_len ⟨wStar, 0, 65535⟩) (tgC_one ⟨wStar, 0, 65535⟩)
    go_simp
    refine hK _ _ ?_
    have hP2 := setRow_heap _ _ _ (tgC ⟨wStar, 0, 65535⟩).toArray _ _ hP
    have hR2 := (setRow_other _ _ w.heap.size (tgC ⟨wStar, 0, 65535⟩).toArray (Nat.ne_of_lt hpl)).trans hR
    have hb2 := below_rowU hbw (Nat.le_of_lt hpl) (tgC ⟨wStar, 0, 65535⟩).toArray
    clear hK K S hP hR hbw hX
    try simp only [Act.put, gzD, gzE, gzF]
    refine wx_done (by kernel_rfl) ?_ _
    replace hP2 : Blk _ _ (tgC tStar) 252 := hP2
    replace hR2 : Blk _ _ zTgC 252 := hR2
    have lP := hP2.ld rowTg (tgC_len tStar)
    have SR := stT_row rowTg hR2 rfl (tgC_len tStar) (tgC_one tStar)
    go_wp2_with fail
    refine bodyPost_ret (v := .tuple #[tgA tStar, .bool true]) (results_cell_tmp_rowU rowTg rfl _ _ w.heap.size _ _ _ rfl rfl (setRow_heap _ w.heap.size _ _ _ _ hR2) (tgC_len _)) rfl ⟨rfl, ?_⟩
    exact below_rowU (p := w.heap.size) hb2 (Nat.le_refl _) _
end Go.Proofs.YtmgdkefoehlamaaGreatDoor
