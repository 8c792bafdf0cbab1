/- Reports: CompactFunc of every list; what is changed in a row. -/
import Derived.Test.YtilgjgdppfnefaaGreatDoorKhRqH
import Derived.Test.YtilgjgdppfnefaaGreatDoorKhRqF
namespace Go.Proofs.YtilgjgdppfnefaaGreatDoor
open Go.RowKit
set_option linter.unusedVariables false
set_option linter.unusedSimpArgs false

/-- A slice of a row of one's own (or nil, of nothing). -/
def OwnS (B : Nat) (w : World) (A : Option Addr) (m cap : Nat) (zs : List Rp) : Prop :=
  m = zs.length ∧ m ≤ cap ∧ ((zs = [] ∧ SlE eRp w A m cap zs ∧ ∀ ad, A = some ad → B ≤ ad.block ∧ ad.block < w.heap.size) ∨ ∃ g n c, A = some ⟨g, 0, none⟩ ∧ OwnR B w g n c zs)
theorem OwnR.lt {B : Nat} {w : World} {g n cap : Nat} {zs : List Rp} (h : OwnR B w g n cap zs) : B ≤ g ∧ g < w.heap.size := by
  obtain ⟨C, h1, h2, h3⟩ := h
  exact World.ownsRow.lt h1 g rfl
theorem OwnS.sl {B : Nat} {w : World} {A : Option Addr} {m cap : Nat} {zs : List Rp} (h : OwnS B w A m cap zs) : SlE eRp w A m cap zs := by
  obtain ⟨h1, h2, ⟨_, h3, _⟩ | ⟨g, n, c, rfl, h3⟩⟩ := h
  · exact h3
  · exact h3.sl m h1 h2
theorem OwnS.lo {B : Nat} {w : World} {A : Option Addr} {m cap : Nat} {zs : List Rp} (h : OwnS B w A m cap zs) : ∀ ad, A = some ad → B ≤ ad.block ∧ ad.block < w.heap.size := by
  obtain ⟨h1, h2, ⟨_, h3, h4⟩ | ⟨g, n, c, rfl, h3⟩⟩ := h
  · exact h4
  · intro ad e
    cases e
    exact h3.lt
theorem OwnR.gb {B : Nat} {w w' : World} {g n cap : Nat} {zs : List Rp} {r : Option Nat} (h : OwnR B w g n cap zs) (hg : w.grownBy w' r) (hr : r ≠ some g) : OwnR B w' g n cap zs := by
  obtain ⟨C, h1, h2, h3⟩ := h
  exact ⟨C, World.ownsRow.kept h1 hg (.inr (fun e => hr e.symm)), h2, h3⟩
/-- A slice stays while something else grows. -/
theorem SlE.gbS {α : Type} {E : Enc α} {w w' : World} {A : Option Addr} {n cap : Nat} {xs : List α} {r : Option Nat} (h : SlE E w A n cap xs) (hg : w.grownBy w' r) (hr : ∀ ad, A = some ad → some ad.block ≠ r) : SlE E w' A n cap xs := by
  obtain ⟨h1, h2, h3, h4⟩ := h
  refine ⟨h1, h2, h3, ?_⟩
  rcases h4 with h4 | ⟨g, off, hA, hlt, hc⟩
  · exact .inl h4
  · exact .inr ⟨g, off, hA, Nat.lt_of_lt_of_le hlt hg.size, fun k x hx i v hv => hg.cell (hc k x hx i v hv) (fun e => hr _ hA e)⟩
theorem OwnS.gb {B : Nat} {w w' : World} {A : Option Addr} {m cap : Nat} {zs : List Rp} {r : Nat} (h : OwnS B w A m cap zs) (hg : w.grownBy w' (some r)) (hr : r < B) : OwnS B w' A m cap zs := by
  obtain ⟨h1, h2, ⟨h0, h3, h4⟩ | ⟨g, n, c, rfl, h3⟩⟩ := h
  · exact ⟨h1, h2, .inl ⟨h0, h3.gbS hg (fun ad e k => by have := (h4 ad e).1; cases k; omega), fun ad e => ⟨(h4 ad e).1, Nat.lt_of_lt_of_le (h4 ad e).2 hg.size⟩⟩⟩
  · exact ⟨h1, h2, .inr ⟨g, n, c, rfl, h3.gb hg (by intro e; cases e; have := h3.lt.1; omega)⟩⟩
theorem OwnS.below {B : Nat} {w w' : World} {A : Option Addr} {m cap : Nat} {zs : List Rp} (h : OwnS B w A m cap zs) (hb : Below w.heap.size w w') : OwnS B w' A m cap zs := by
  have hg : w.grownBy w' none := ⟨hb.os, hb.tape, hb.output, hb.size, fun k hk _ => hb.block k hk⟩
  obtain ⟨h1, h2, ⟨h0, h3, h4⟩ | ⟨g, n, c, rfl, h3⟩⟩ := h
  · exact ⟨h1, h2, .inl ⟨h0, h3.below hb, fun ad e => ⟨(h4 ad e).1, Nat.lt_of_lt_of_le (h4 ad e).2 hg.size⟩⟩⟩
  · exact ⟨h1, h2, .inr ⟨g, n, c, rfl, h3.gb hg (by intro e; cases e)⟩⟩

theorem compactFAll_any (B : Nat) (v : Value) (qs : List Rp) (w : World) (hown : OwnE eRp 37 B w v qs) (hU : ∀ x ∈ qs, x.U) (hn : qs.length ≤ 1000000) (hB : B ≤ w.heap.size) :
    Calls Tryz.prog 28 #[v, .func (.func 29) #[] #[]] w (fun e w' => ∃ A m cap zs, e = .returned (.slice A m cap) ∧ OwnS B w' A m cap zs ∧ zs.length ≤ qs.length ∧ (∀ x ∈ zs, x ∈ qs) ∧ Below B w w') := by
  by_cases h2 : qs.length < 2
  · have hS2 : ∃ A cap, v = .slice A qs.length cap ∧ OwnS B w A qs.length cap qs := by
      by_cases h0 : qs = []
      · obtain ⟨A, cap, rfl, hS⟩ := hown.sl
        refine ⟨A, cap, rfl, rfl, hS.2.1, .inl ⟨h0, hS, fun ad e => ?_⟩⟩
        subst e
        rcases hown.2 with ⟨hv, _⟩ | ⟨g', cap', cur, hv, hB, hh, _⟩
        · cases hv
        · cases hv; exact ⟨hB, (Array.getElem?_eq_some_iff.1 hh).1⟩
      · obtain ⟨g, cap, rfl, hg1, hg2, hcap, _⟩ := hown.form h0
        exact ⟨some ⟨g, 0, none⟩, cap, rfl, rfl, hcap, .inr ⟨g, _, _, rfl, ownR_all hown rfl⟩⟩
    obtain ⟨A, cap, rfl, hS⟩ := hS2
    obtain ⟨m, hm⟩ : ∃ m, m = qs.length := ⟨_, rfl⟩
    rw [← hm] at hS ⊢
    have h2' : (m : Int) < 2 := by omega
    replace hS := Lib.hid hS
    replace hm := Lib.hid hm
    clear h2 hown hn hU
    go_enter Tryz.func28, Tryz.ntmps28
    go_wp2_with fail
    go_ret
    exact ⟨A, m, cap, qs, rfl, hS.out, (by rw [hm.out]; exact Nat.le_refl _), fun _ h => h, Below.refl _ _⟩
  · obtain ⟨g, cap, rfl, hg1, hg2, hcap, _⟩ := hown.form (by intro e; rw [e] at h2; exact h2 (by decide))
    refine (compactF_any B g qs.length cap qs w hown hU rfl (by omega) hn hB).mono ?_
    rintro e w' ⟨m, cap', zs, rfl, hm, hc, hO, hmem, hb⟩
    exact ⟨_, m, cap', zs, rfl, ⟨hm, hc, .inr ⟨g, _, _, rfl, hO⟩⟩, (by obtain ⟨C, _, _, h3⟩ := hO; exact h3), hmem, hb⟩

/-- Cells of a row, report by report. -/
def RowL (C : List Value) (L : List (List Value)) : Prop := ∀ (j : Nat) (l : List Value), L[j]? = some l → l.length = 14 ∧ ∀ (i : Nat) (v : Value), l[i]? = some v → C[j * 14 + i]? = some v
theorem RowL.of {C : List Value} {zs : List Rp} (h : RowR C zs) : RowL C (zs.map rpC) := by
  intro j l hl
  rw [List.getElem?_map] at hl
  cases hx : zs[j]? with
  | none => rw [hx] at hl; cases hl
  | some x =>
    rw [hx] at hl
    obtain rfl := Option.some.inj hl
    exact ⟨rpC_len x, h j x hx⟩
theorem RowL.to {C : List Value} {zs : List Rp} (h : RowL C (zs.map rpC)) : RowR C zs := fun j x hx i v hv => (h j (rpC x) (by rw [List.getElem?_map, hx]; rfl)).2 i v hv
theorem RowL.set {C : List Value} {L : List (List Value)} (h : RowL C L) {j : Nat} {l : List Value} (hl : L[j]? = some l) (i : Nat) (v : Value) (hi : i < 14) : RowL (C.set (j * 14 + i) v) (L.set j (l.set i v)) := by
  have h0 := h j l hl
  have hlen : j * 14 + i < C.length := (List.getElem?_eq_some_iff.1 (h0.2 i _ (List.getElem?_eq_getElem (by omega)))).1
  intro k y hy
  by_cases hk : k = j
  · subst hk
    rw [List.getElem?_set_self (List.getElem?_eq_some_iff.1 hl).1] at hy
    obtain rfl := Option.some.inj hy
    refine ⟨by rw [List.length_set]; exact h0.1, fun n u hu => ?_⟩
    by_cases hni : i = n
    · subst hni
      rw [List.getElem?_set_self (by omega)] at hu
      rw [List.getElem?_set_self hlen]
      exact hu
    · rw [List.getElem?_set_ne hni] at hu
      rw [List.getElem?_set_ne (by omega)]
      exact h0.2 n u hu
  · rw [List.getElem?_set_ne (Ne.symm hk)] at hy
    have h1 := h k y hy
    refine ⟨h1.1, fun n u hu => ?_⟩
    have hn : n < 14 := by have := (List.getElem?_eq_some_iff.1 hu).1; omega
    rw [List.getElem?_set_ne (by omega)]
    exact h1.2 n u hu
theorem RowL.setL {j : Nat} : ∀ (cs : List Value) (o : Nat) (C : List Value) (L : List (List Value)) (l : List Value), RowL C L → L[j]? = some l → o + cs.length ≤ 14 → RowL (setL C (j * 14 + o) cs) (L.set j (setL l o cs))
  | [], o, C, L, l, h, hl, _ => by
    have : L.set j l = L := by
      refine List.ext_getElem? fun k => ?_
      by_cases hk : k = j
      · subst hk; rw [List.getElem?_set_self (List.getElem?_eq_some_iff.1 hl).1, hl]
      · rw [List.getElem?_set_ne (Ne.symm hk)]
    unfold Go.Proofs.YtilgjgdppfnefaaGreatDoor.setL
    rw [this]
    exact h
  | v :: cs, o, C, L, l, h, hl, ho => by
    have h1 := h.set hl o v (by simp at ho; omega)
    have h2 := RowL.setL cs (o + 1) _ _ (l.set o v) h1 (by rw [List.getElem?_set_self (List.getElem?_eq_some_iff.1 hl).1]) (by simp at ho; omega)
    rw [List.set_set] at h2
    exact h2
/-- Cells of one report of a row are written. -/
theorem OwnR.put {B : Nat} {w : World} {g n c : Nat} {zs : List Rp} (h : OwnR B w g n c zs) {j : Nat} {x : Rp} (hx : zs[j]? = some x) (o : Nat) (cs : List Value) (ho : o + cs.length ≤ 14) (x' : Rp) (he : setL (rpC x) o cs = rpC x') : OwnR B (w.setCells g (j * 14 + o) cs) g n c (zs.set j x') := by
  obtain ⟨C, h1, h2, h3⟩ := h
  refine ⟨_, own_setL cs (j * 14 + o) w _ h1, RowL.to ?_, by rw [List.length_set]; exact h3⟩
  rw [List.map_set, ← he]
  exact RowL.setL cs o C _ _ (RowL.of h2) (by rw [List.getElem?_map, hx]; rfl) ho
theorem OwnR.cell {B : Nat} {w : World} {g n c : Nat} {zs : List Rp} (h : OwnR B w g n c zs) {j : Nat} {x : Rp} (hx : zs[j]? = some x) {i : Nat} {v : Value} (hv : (rpC x)[i]? = some v) : w.cell? ⟨g, j * 14 + i, none⟩ = some v := by
  obtain ⟨C, h1, h2, h3⟩ := h
  have := World.ownsRow.cells h1 (g := g) rfl (j * 14 + i) v (h2 j x hx i v hv)
  rw [Addr.add_lit, Nat.zero_add] at this
  exact this
theorem OwnR.free {B : Nat} {w : World} {g n c : Nat} {zs : List Rp} (h : OwnR B w g n c zs) (i : Nat) : w.frozen? ⟨g, i, none⟩ = false := by
  obtain ⟨C, h1, h2, h3⟩ := h
  rcases h1.2 with ⟨hv, _⟩ | ⟨g', cap', cur, hv, hB, hh, _⟩
  · cases hv
  · cases hv; exact frozen_of_row w g _ _ _ hh
theorem OwnR.stFl {B : Nat} {w : World} {g n c : Nat} {zs : List Rp} (h : OwnR B w g n c zs) {j : Nat} {x : Rp} (hx : zs[j]? = some x) (f : Fl) :
    (stT 35 (.pointer (some ⟨g, j * 14 + 3, none⟩)) (.agg (flC f).toArray)).run Tryz.prog w = .ok .skip (w.setCells g (j * 14 + 3) (flC f)) := by
  unfold stT
  have ht : w.there g (j * 14 + 3) (flC f).toArray.size := by
    intro k hk
    have hk' : k < 9 := by simpa [flC_len] using hk
    have hc := h.cell hx (i := 3 + k) (v := (rpC x)[3 + k]'(by rw [rpC_len]; omega)) (List.getElem?_eq_getElem _)
    rw [← Nat.add_assoc] at hc
    exact ⟨by rw [hc]; rfl, h.free _⟩
  have hs := run_storeAt_mid (P := Tryz.prog) w g (j * 14 + 3) 35 (flC f).toArray ht (by rw [rowFl.size]; simp [flC_len]) (all_oneCell_toArray (flC_one f))
  simp only [Sem.run_bind, hs, Result.andThen_ok, Sem.run_pure]
/-- A step of the stream b: a list of reports, in memory of its own. -/
def RpsPost (M b R : Nat) (w : World) (e : Ending) (w' : World) : Prop := ∃ A m cap zs, e = .returned (.slice A m cap) ∧ OwnS w.heap.size w' A m cap zs ∧ (∀ x ∈ zs, x.U) ∧ m ≤ M ∧ Str w' b R ∧ w.grownBy w' (some b)
theorem RpsPost.put {w w' : World} {M b R g n c m cap j : Nat} {zs : List Rp} {x : Rp} (hO : OwnR w.heap.size w' g n c zs) (hm : m = zs.length) (hc : m ≤ cap) (hm10 : m ≤ M) (hU : ∀ x ∈ zs, x.U) (hst : Str w' b R) (hgb : w.grownBy w' (some b)) (hb : b < w.heap.size) (hx : zs[j]? = some x) (o : Nat) (cs : List Value) (ho : o + cs.length ≤ 14) (x' : Rp) (he : setL (rpC x) o cs = rpC x') (hx' : x'.U) :
    RpsPost M b R w (.returned (.slice (some ⟨g, 0, none⟩) m cap)) (w'.setCells g (j * 14 + o) cs) := by
  have hlt := hO.lt
  have hg := gb_cellsN (g := g) cs (j * 14 + o) w'
  refine ⟨_, m, cap, zs.set j x', rfl, ⟨by rw [List.length_set]; exact hm, hc, .inr ⟨g, n, c, rfl, hO.put hx o cs ho x' he⟩⟩, fun y hy => ?_, hm10, hst.grown hg (by omega), gb_over hgb hg hlt.1⟩
  rcases List.mem_or_eq_of_mem_set hy with h | h
  · exact hU y h
  · rw [h]; exact hx'
end Go.Proofs.YtilgjgdppfnefaaGreatDoor
