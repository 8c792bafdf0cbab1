/- Sets: addresses are sorted. -/
import Derived.Test.YthjhokicojgpbaaGreatDoorKdSvF
import Derived.Test.YthjhokicojgpbaaGreatDoorKdStG
namespace Go.Proofs.YthjhokicojgpbaaGreatDoor
open Go.RowKit Go.Shelf
set_option linter.unusedVariables false
set_option linter.unusedSimpArgs false

/-- Addresses, as pairs that begin with them. -/
def eA2 : Enc (Ad × Ad) := ⟨fun x => adC x.1, 3, by decide, fun x => adC_len x.1, fun x => adC_one x.1⟩
theorem eA2_cells : ∀ cs : List Ad, eA2.cells (cs.map fun a => (a, a)) = eAd.cells cs
  | [] => rfl
  | a :: r => by rw [List.map_cons, eA2.cells_cons, eAd.cells_cons, eA2_cells r]; rfl
theorem own_eA2 {t : TypeId} {B : Nat} {w : World} {v : Value} {cs : List Ad} : OwnE eA2 t B w v (cs.map fun a => (a, a)) ↔ OwnE eAd t B w v cs := by
  unfold OwnE
  rw [eA2_cells, List.length_map]
  exact Iff.rfl
theorem eA2_cells1 : ∀ xs : List (Ad × Ad), eA2.cells xs = eAd.cells (xs.map (·.1))
  | [] => rfl
  | a :: r => by rw [List.map_cons, eA2.cells_cons, eAd.cells_cons, eA2_cells1 r]; rfl
theorem own_eA1 {t : TypeId} {B : Nat} {w : World} {v : Value} {xs : List (Ad × Ad)} (h : OwnE eA2 t B w v xs) : OwnE eAd t B w v (xs.map (·.1)) := by
  unfold OwnE at *
  rw [← eA2_cells1, List.length_map]
  exact h
def zAd : Value := .agg #[.bool false, .int .u64 0, .int .u64 0]
theorem infoAd : (Tryz.prog.info? 28).map (fun i => (i.zero, i.size, i.bytes)) = some (some zAd, 3, 24) := by kernel_rfl
theorem tyeAd : Ty eAd 28 198 zAd 24 := ⟨Tryz.underlying198, infoAd, rfl, by decide⟩
@[go_sem ↓ high] theorem execOp_bsAd (ρ : Operand → Value) (dst : Option Tmp) (x : Operand) (ty : TypeId) (pos : String) (after : Array Edge) (guard : Option (Nat × Bool)) : execOp ρ ⟨dst, .buildSlice 198 1 #[(0, x)], ty, pos, after, guard⟩ = bsT 198 (ρ x) := by
  simp only [execOp, bsT, List.map_toArray, List.map_cons, List.map_nil]
@[go_sem high] theorem execOp_bsAd' (ρ : Operand → Value) (dst : Option Tmp) (x : Operand) (ty : TypeId) (pos : String) (after : Array Edge) (guard : Option (Nat × Bool)) : execOp ρ ⟨dst, .buildSlice 198 1 #[(0, x)], ty, pos, after, guard⟩ = bsT 198 (ρ x) := by
  simp only [execOp, bsT, List.map_toArray, List.map_cons, List.map_nil]
@[go_sem] theorem run_bsAd (x : Ad) (w : World) : (bsT 198 (.agg (adC x).toArray)).run Tryz.prog w = .ok (.value (.slice (some ⟨w.heap.size, 0, none⟩) 1 1)) (w.alloc (.cells (adC x).toArray 28)) :=
  bsT_run Tryz.underlying198 infoAd (by decide) (by decide) (by kernel_rfl) w

/-- What is sorted stays one's own row. -/
theorem own_sorted {E : Enc (Ad × Ad)} {t : TypeId} {w : World} {B g n cap : Nat} {ys : List U2} {d' : Array U2} {m : Nat} {os : Array Obj} (h : OwnE E t B w (.slice (some ⟨g, 0, none⟩) n cap) (ys.map (·.1))) (hd : d'.size = ys.length) :
    OwnE E t B (sortWorldK (onU E).enc (onU E).k w g 0 m d' os) (.slice (some ⟨g, 0, none⟩) n cap) (d'.toList.map (·.1)) := by
  obtain ⟨h1, h2⟩ := h
  have hlen : (d'.toList.map (·.1)).length = ys.length := by simp [hd]
  have hcl : (E.cells (d'.toList.map (·.1))).length = ys.length * E.k := by rw [E.cells_len, hlen]
  refine ⟨by rw [hcl, hlen], ?_⟩
  rcases h2 with ⟨hv, _⟩ | ⟨g', cap', cur, hv, hB, hh, hn, hc, hsz, htake⟩
  · cases hv
  · cases hv
    rw [List.length_map] at hn htake
    have hg : g < w.heap.size := (Array.getElem?_eq_some_iff.1 hh).1
    refine .inr ⟨g, cap, Sort.putCells id 0 (Sort.flatK (onU E).enc (onU E).k d') cur, by rw [hlen, List.length_map], hB, ?_, by rw [hlen]; exact hn, hc, ?_, ?_⟩
    · unfold sortWorldK Sort.grow Sort.putRowK Sort.putRow Sort.mapBlock Sort.ahead
      show (w.heap.modify g _ ++ os)[g]? = _
      rw [Array.getElem?_append_left (by simp; omega), Array.getElem?_modify, if_pos rfl, hh]
      rfl
    · unfold Sort.putCells; rw [Array.size_mapIdx]; exact hsz
    · have hfs : (Sort.flatK (onU E).enc (onU E).k d').size = ys.length * E.k := by rw [Sort.size_flatK, hd]; rfl
      have hle : ys.length * E.k ≤ cur.size := by rw [hsz]; exact Nat.mul_le_mul_right _ hn
      rw [hlen]
      apply List.ext_getElem
      · have e3 : (Sort.putCells id 0 (Sort.flatK (onU E).enc (onU E).k d') cur).toList.length = cur.size := by unfold Sort.putCells; simp
        rw [List.length_take, e3, hcl]
        omega
      · intro j j1 j2
        rw [hcl] at j2
        rw [List.getElem_take, Array.getElem_toList]
        unfold Sort.putCells
        rw [Array.getElem_mapIdx, if_pos ⟨Nat.zero_le _, by rw [hfs]; omega⟩, Nat.sub_zero]
        have hj' : j < (Sort.flatK (onU E).enc (onU E).k d').size := by rw [hfs]; exact j2
        have hj2 := hj'
        rw [Sort.size_flatK] at hj2
        rw [Sort.get_flatK _ _ _ _ hj2]
        obtain ⟨u, k1, k2⟩ := flatK_cells E d'.toList j (by rw [Sort.size_flatK] at hj'; simpa [onU] using hj')
        have k3 : (E.cells (d'.toList.map (·.1)))[j]? = some u := by rw [cells_onU]; exact k1
        have e : (E.cells (d'.toList.map (·.1)))[j] = u := by
          have := (List.getElem?_eq_some_iff.1 k3).2
          exact this
        rw [e]
        have e2 : d'.toList.toArray = d' := by simp
        rw [e2] at k2
        show id (((onU E).enc d'[j / E.k]!)[j % E.k]!) = u
        rw [List.getElem!_eq_getElem?_getD, k2]; rfl

theorem lays_sortAd (blk off size : Nat) (w : World) : CmpLays Tryz.prog 126 #[] (onU eA2).enc (onU eA2).k cmpU2 blk off size w :=
  fun _ _ _ _ x y => (spanCmp_d x.1.1 y.1.1 _ x.2.1 y.2.1).mono fun _ _ h => ⟨h.1, h.2.grows⟩

set_option maxHeartbeats 2000000 in
set_option maxRecDepth 100000 in
theorem sortAd_any (B : Nat) (v : Value) (cs : List Ad) (w : World) (hown : OwnE eAd 28 B w v cs) (hU : ∀ x ∈ cs, x.U) (h0 : cs ≠ []) (hb : B ≤ w.heap.size) (hn : cs.length ≤ 1000000) :
    Calls Tryz.prog 227 #[v, .func (.func 126) #[] #[]] w fun e w' => e = .returned (.tuple #[]) ∧ ∃ qs : List Ad, qs.Perm cs ∧ qs.Pairwise (fun x y => x.n ≤ y.n) ∧ OwnE eAd 28 B w' v qs ∧ Below B w w' := by
  obtain ⟨ys, hys⟩ := lift_U (cs.map fun a => (a, a)) (fun x hx => by
    obtain ⟨a, ha, rfl⟩ := List.mem_map.1 hx
    exact ⟨hU a ha, hU a ha⟩)
  have hcs : (ys.map (·.1)).map (·.1) = cs := by
    rw [← hys, List.map_map]
    exact List.map_id _
  have hl : cs.length = ys.length := by rw [← hcs]; simp
  replace hown := own_eA2.2 hown
  rw [hys] at hown
  obtain ⟨g, cap, rfl, hg1, hg2, hcap, _⟩ := hown.form (by intro e; apply h0; rw [← hcs, e]; rfl)
  have hH := holdsK_own (E := eA2) hown
  have eg : ∀ args w, (callFunc 126 args).run Tryz.prog w = .ok (.enter 126 args) w := enters_of Tryz.func126 (by kernel_rfl) rfl
  have hcon := AnyQ.slices_SortFunc Tryz.sortAddr 3 Tryz.isAgg28 Tryz.sizeOf28 (onU eA2).enc (onU eA2).len (onU eA2).one cmpU2 swo_cmpU2 126 #[] g 0 cap ys.toArray w eg (lays_sortAd g 0 ys.toArray.size w) hH hg2 (by simp at hn ⊢; omega)
  change Calls Tryz.prog 227 _ _ _ at hcon
  have e0 : ys.toArray.size = ys.length := by simp
  rw [e0] at hcon
  rw [List.length_map] at hown ⊢
  refine hcon.mono ?_
  rintro e w' ⟨rfl, d', m, os, hp, hs, rfl⟩
  rw [← e0] at hp
  have hsz : d'.size = ys.length := hp.1.trans e0
  refine ⟨rfl, List.map (fun x : Ad × Ad => x.1) (List.map (fun x : U2 => x.1) d'.toList), ?_, ?_, own_eA1 (own_sorted hown hsz), below_sortK hg1 hb⟩
  · have := ((perm_ofU hp).map (·.1)).map (·.1)
    rw [show ys.toArray.toList = ys by simp, hcs] at this
    exact this
  · rw [List.pairwise_map]
    exact pairwise_ofU hsz hs
end Go.Proofs.YthjhokicojgpbaaGreatDoor
