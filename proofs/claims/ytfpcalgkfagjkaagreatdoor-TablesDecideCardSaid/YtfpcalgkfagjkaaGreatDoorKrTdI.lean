/- Tables: one out of the stream, right or not. -/
import Derived.Test.YtfpcalgkfagjkaaGreatDoorKrTdC
import Derived.Test.YtfpcalgkfagjkaaGreatDoorKrTbL
import Derived.Test.YtfpcalgkfagjkaaGreatDoorKrLaneD
import Derived.Test.YtfpcalgkfagjkaaGreatDoorKrTdF
set_option linter.unusedVariables false
set_option linter.unusedSimpArgs false
set_option maxRecDepth 100000
namespace Go.Proofs.YtfpcalgkfagjkaaGreatDoor
open Go.RowKit

def RowLE (C : List Value) (L : List (List Value)) : Prop := ∀ (j : Nat) (l : List Value), L[j]? = some l → l.length = 5 ∧ ∀ (i : Nat) (v : Value), l[i]? = some v → C[j * 5 + i]? = some v
theorem RowLE.of {C : List Value} {zs : List En} (h : RowN C zs) : RowLE C (zs.map enC) := by
  intro j l hl
  rw [List.getElem?_map] at hl
  cases hx : zs[j]? with
  | none => rw [hx] at hl; cases hl
  | some x =>
    rw [hx] at hl
    obtain rfl := Option.some.inj hl
    exact ⟨enC_len x, h j x hx⟩
theorem RowLE.to {C : List Value} {zs : List En} (h : RowLE C (zs.map enC)) : RowN C zs := fun j x hx i v hv => (h j (enC x) (by rw [List.getElem?_map, hx]; rfl)).2 i v hv
theorem RowLE.set {C : List Value} {L : List (List Value)} (h : RowLE C L) {j : Nat} {l : List Value} (hl : L[j]? = some l) (i : Nat) (v : Value) (hi : i < 5) : RowLE (C.set (j * 5 + i) v) (L.set j (l.set i v)) := by
  have h0 := h j l hl
  have hlen : j * 5 + i < C.length := (List.getElem?_eq_some_iff.1 (h0.2 i _ (List.getElem?_eq_getElem (by omega)))).1
  intro k y hy
  by_cases hk : k = j
  · subst hk
    rw [List.getElem?_set_self (List.getElem?_eq_some_iff.1 hl).1] at hy
    obtain rfl := Option.some.inj hy
    refine ⟨by rw [List.length_set]; exact h0.1, fun n u hu => ?_⟩
    by_cases hni : i = n
    · subst hni
      rw [List.getElem?_set_self (by omega)] at hu
      rw [List.getElem?_set_self hlen]
      exact hu
    · rw [List.getElem?_set_ne hni] at hu
      rw [List.getElem?_set_ne (by omega)]
      exact h0.2 n u hu
  · rw [List.getElem?_set_ne (Ne.symm hk)] at hy
    have h1 := h k y hy
    refine ⟨h1.1, fun n u hu => ?_⟩
    have hn : n < 5 := by have := (List.getElem?_eq_some_iff.1 hu).1; omega
    rw [List.getElem?_set_ne (by omega)]
    exact h1.2 n u hu
theorem RowLE.setL {j : Nat} : ∀ (cs : List Value) (o : Nat) (C : List Value) (L : List (List Value)) (l : List Value), RowLE C L → L[j]? = some l → o + cs.length ≤ 5 → RowLE (setL C (j * 5 + o) cs) (L.set j (setL l o cs))
  | [], o, C, L, l, h, hl, _ => by
    have : L.set j l = L := by
      refine List.ext_getElem? fun k => ?_
      by_cases hk : k = j
      · subst hk; rw [List.getElem?_set_self (List.getElem?_eq_some_iff.1 hl).1, hl]
      · rw [List.getElem?_set_ne (Ne.symm hk)]
    unfold Go.Proofs.YtfpcalgkfagjkaaGreatDoor.setL
    rw [this]
    exact h
  | v :: cs, o, C, L, l, h, hl, ho => by
    have h1 := h.set hl o v (by simp at ho; omega)
    have h2 := RowLE.setL cs (o + 1) _ _ (l.set o v) h1 (by rw [List.getElem?_set_self (List.getElem?_eq_some_iff.1 hl).1]) (by simp at ho; omega)
    rw [List.set_set] at h2
    exact h2
theorem OwnN.put {B : Nat} {w : World} {g n c : Nat} {zs : List En} (h : OwnN B w g n c zs) {j : Nat} {x : En} (hx : zs[j]? = some x) (o : Nat) (cs : List Value) (ho : o + cs.length ≤ 5) (x' : En) (he : setL (enC x) o cs = enC x') : OwnN B (w.setCells g (j * 5 + o) cs) g n c (zs.set j x') := by
  obtain ⟨C, h1, h2, h3⟩ := h
  refine ⟨_, own_setL cs (j * 5 + o) w _ h1, RowLE.to ?_, by rw [List.length_set]; exact h3⟩
  rw [List.map_set, ← he]
  exact RowLE.setL cs o C _ _ (RowLE.of h2) (by rw [List.getElem?_map, hx]; rfl) ho
theorem OwnN.cell {B : Nat} {w : World} {g n c : Nat} {zs : List En} (h : OwnN B w g n c zs) {j : Nat} {x : En} (hx : zs[j]? = some x) {i : Nat} {v : Value} (hv : (enC x)[i]? = some v) : w.cell? ⟨g, j * 5 + i, none⟩ = some v := by
  obtain ⟨C, h1, h2, h3⟩ := h
  have := World.ownsRow.cells h1 (g := g) rfl (j * 5 + i) v (h2 j x hx i v hv)
  rw [Addr.add_lit, Nat.zero_add] at this
  exact this
theorem OwnN.free {B : Nat} {w : World} {g n c : Nat} {zs : List En} (h : OwnN B w g n c zs) (i : Nat) : w.frozen? ⟨g, i, none⟩ = false := by
  obtain ⟨C, h1, h2, h3⟩ := h
  rcases h1.2 with ⟨hv, _⟩ | ⟨g', cap', cur, hv, hB, hh, _⟩
  · cases hv
  · cases hv; exact frozen_of_row w g _ _ _ hh

theorem OwnN.gb {B : Nat} {w w' : World} {g n c : Nat} {zs : List En} {r : Option Nat} (h : OwnN B w g n c zs) (hg : w.grownBy w' r) (hr : r ≠ some g) : OwnN B w' g n c zs := by
  obtain ⟨C, h1, h2, h3⟩ := h
  exact ⟨C, World.ownsRow.kept h1 hg (.inr fun e => hr e.symm), h2, h3⟩
theorem OwnN.lt {B : Nat} {w : World} {g n c : Nat} {zs : List En} (h : OwnN B w g n c zs) : B ≤ g ∧ g < w.heap.size := by
  obtain ⟨C, h1, h2, h3⟩ := h
  exact World.ownsRow.lt h1 g rfl
theorem OwnN.stEn {B : Nat} {w : World} {g n c : Nat} {zs : List En} (h : OwnN B w g n c zs) {j : Nat} {x : En} (hx : zs[j]? = some x) (y : En) :
    (stT 37 (.pointer (some ⟨g, j * 5, none⟩)) (enA y)).run Tryz.prog w = .ok .skip (w.setCells g (j * 5) (enC y)) := by
  unfold stT
  have ht : w.there g (j * 5) (enC y).toArray.size := by
    intro k hk
    have hk' : k < 5 := by simpa [enC_len] using hk
    have hc := h.cell hx (i := k) (v := (enC x)[k]'(by rw [enC_len]; omega)) (List.getElem?_eq_getElem _)
    exact ⟨by rw [hc]; rfl, h.free _⟩
  have hs := run_storeAt_mid (P := Tryz.prog) w g (j * 5) 37 (enC y).toArray ht (by rw [rowEn.size]; simp [enC_len]) (all_oneCell_toArray (enC_one y))
  simp only [Sem.run_bind, hs, Result.andThen_ok, Sem.run_pure]
theorem setL_enC (x y : En) : setL (enC x) 0 (enC y) = enC y := rfl
theorem setL_name (x : En) (nm : List UInt8) : setL (enC x) 4 [.string ⟨nm.toArray⟩] = enC ⟨x.p, nm⟩ := rfl
theorem gb_setCellsN {w0 : World} {r : Option Nat} {g : Nat} (hg0 : w0.heap.size ≤ g) : ∀ (vs : List Value) (o : Nat) (w : World), w0.grownBy w r → w0.grownBy (w.setCells g o vs) r
  | [], _, _, h => h
  | v :: vs, o, w, h => by
    unfold World.setCells
    exact gb_setCellsN hg0 vs (o + 1) _ (gb_setNew (p := ⟨g, o, none⟩) h hg0 v)
theorem str_setCellsN {b R g : Nat} (hb : b < g) : ∀ (vs : List Value) (o : Nat) (w : World), Str w b R → Str (w.setCells g o vs) b R
  | [], _, _, h => h
  | v :: vs, o, w, h => by
    unfold World.setCells
    exact str_setCellsN hb vs (o + 1) _ (h.setCell (p := ⟨g, o, none⟩) hb v)
theorem cmpEn_of {x y : En} (h : ¬ cmpPf y.p x.p ≤ 0) : cmpEn x y < 0 := by
  unfold cmpPf at h
  unfold cmpEn
  have ha := cm_n.anti x.p.1.n y.p.1.n
  by_cases h0 : cmpN x.p.1.n y.p.1.n = 0
  · rw [if_pos h0]
    have e : cmpN y.p.1.n x.p.1.n = 0 := by omega
    rw [e] at h
    have h1 : ¬ Lib.compareInt y.p.2 x.p.2 ≤ 0 := by
      intro k
      apply h
      unfold firstZ
      rw [if_pos rfl]
      unfold firstZ
      split
      · exact Int.le_refl _
      · exact k
    unfold Lib.compareInt at h1
    (repeat' split at h1) <;> omega
  · rw [if_neg h0]
    have e : ¬ cmpN y.p.1.n x.p.1.n = 0 := by omega
    unfold firstZ at h
    rw [if_neg e] at h
    omega
theorem tabG_pair : ∀ (l : List En) (p : Option En), tabG p l = 0 → l.Pairwise (fun x y => cmpEn x y < 0) ∧ ∀ y, p = some y → ∀ x ∈ l, cmpEn y x < 0
  | [], _, _ => ⟨.nil, fun _ _ x hx => by cases hx⟩
  | x :: l, p, h => by
    unfold tabG at h
    split at h
    · split at h
      · split at h
        · exact absurd h (by decide)
        · rename_i hb
          obtain ⟨h1, h2⟩ := tabG_pair l _ h
          refine ⟨List.pairwise_cons.2 ⟨fun z hz => h2 x rfl z hz, h1⟩, fun y hy z hz => ?_⟩
          subst hy
          have h3 : cmpEn y x < 0 := cmpEn_of (by unfold badE at hb; simpa using hb)
          rcases List.mem_cons.1 hz with rfl | hz
          · exact h3
          · exact cm_En.lt (Int.le_of_lt h3) (Int.le_of_lt (h2 x rfl z hz)) (.inl h3)
      · exact absurd h (by decide)
    · rename_i hp
      exact absurd h hp
theorem tbG_tab {t : List En} (hU : ∀ x ∈ t, x.p.1.U) (h : tabF t = 0) : TbG t := by
  refine ⟨tabF_good hU h, tabF_len h, ?_⟩
  unfold tabF at h
  split at h
  · exact absurd h (by decide)
  · exact (tabG_pair t none h).1

def isShV : Value → Bool
  | .string b => decide (b.data.size ≤ 100)
  | _ => false
theorem isShV_get {v : Value} (h : isShV v = true) : ∃ l : List UInt8, l.length ≤ 100 ∧ v = .string ⟨l.toArray⟩ := by
  cases v with
  | string b => exact ⟨b.data.toList, by unfold isShV at h; simpa using h, by cases b; rfl⟩
  | _ => cases h
def ShPost (b R : Nat) (w : World) (e : Ending) (w' : World) : Prop :=
  ∃ l : List UInt8, l.length ≤ 100 ∧ e = .returned (.string ⟨l.toArray⟩) ∧ Str w' b R ∧ w.grownBy w' (some b)

set_option maxHeartbeats 400000 in
theorem someSh_any (w : World) (b R p cap n : Nat) (vs : List Value) (t : TypeId) (hs : Str w b (R + 1)) (hb : b < p) (hB : Blk w p vs t) (hn : n = vs.length) (h1 : 1 ≤ vs.length) (h2 : vs.length ≤ 1000) (hP : vs.all isShV = true) :
    Calls Tryz.prog 8 #[.pointer (some ⟨b, 0, none⟩), .slice (some ⟨p, 0, none⟩) n cap] w (ShPost b R w) := by
  subst hn
  go_enter Tryz.func8, Tryz.ntmps8
  go_wp2_with fail
  refine (next_any _ _ _ _ (by omega) (by omega) hs).mono ?_
  rintro e w' ⟨r, ⟨hr1, hr2⟩, rfl, hs', hg⟩
  obtain ⟨i, rfl⟩ := Int.eq_ofNat_of_zero_le hr1
  have hi : i < vs.length := by omega
  have hc := (hB.gb hg hb).cell (i := i) (v := vs[i]) (List.getElem?_eq_getElem hi)
  obtain ⟨l, hl, hv⟩ := isShV_get (List.all_eq_true.1 hP _ (List.getElem_mem hi))
  rw [hv] at hc
  clear hP hB hv
  go_wp2_with fail
  go_ret
  exact ⟨l, hl, rfl, hs', hg⟩

def TblQ (b R : Nat) (w : World) (e : Ending) (w' : World) : Prop :=
  ∃ (A : Option Addr) (n cap : Nat) (t : List En), e = .returned (.slice A n cap) ∧ SlE eEn w' A n cap t ∧ (∀ x ∈ t, x.p.1.U ∧ x.nm.length ≤ 100) ∧ n ≤ 7 ∧ (t = [] ∨ ∃ g, A = some ⟨g, 0, none⟩ ∧ w.heap.size ≤ g) ∧ Str w' b R ∧ w.grownBy w' (some b)
theorem key_short {l : List UInt8} (h : keyB l = true) : l.length ≤ 100 := by
  unfold keyB at h
  split at h
  · cases h
  · rename_i c r
    rw [Bool.and_eq_true, Bool.and_eq_true] at h
    have := of_decide_eq_true h.1.1
    rw [List.length_cons]
    omega

set_option maxHeartbeats 4000000 in
theorem table_any (w : World) (b R : Nat) (hs : Str w b (R + 60)) :
    Calls Tryz.prog 4 #[.pointer (some ⟨b, 0, none⟩)] w (TblQ b R w) := by
  have hbw := hs.lt
  go_enter Tryz.func4, Tryz.ntmps4
  go_wp2_with fail
  refine (rightTable_any w b (R + 17) (hs.le (by omega))).mono ?_
  rintro e w1 ⟨A, n, cap, t, rfl, hS, hG, hn, hO, hs1, hg1⟩
  have hT := Lib.hid (show ∀ x ∈ t, x.p.1.U ∧ x.nm.length ≤ 100 from fun x hx => ⟨(hG.1 x hx).1.1.1, key_short (hG.1 x hx).2⟩)
  clear hG hs
  by_cases h0 : n = 0
  · subst h0
    go_wp2_with fail
    go_ret
    refine ⟨A, 0, cap, t, rfl, hS, hT.out, by omega, ?_, hs1.le (by omega), hg1⟩
    exact .inl (List.eq_nil_of_length_eq_zero hS.1.symm)
  · have hpos : (0 : Int) < n := by omega
    obtain ⟨g, N, rfl, hN⟩ : ∃ g N, A = some ⟨g, 0, none⟩ ∧ OwnN w.heap.size w1 g N cap t := by
      rcases hO with h | ⟨g, N, h1, h2⟩
      · exact absurd (by rw [hS.1, h]; rfl) h0
      · exact ⟨g, N, h1, h2⟩
    have hgl := hN.lt
    have hgb : (some b : Option Nat) ≠ some g := fun e => by injection e with e; omega
    have hnl := Lib.hid hS.1
    have hcap := hS.2.1
    replace hS := Lib.hid hS
    clear hO
    go_wp2_with fail
    refine (flip_any 12 w1 b (R + 16) (by decide) (by decide) (hs1.le (by omega))).mono ?_
    rintro e w2 ⟨fl, rfl, hs2, hg2⟩
    replace hN := hN.gb hg2 hgb
    replace hg1 := gb_trans hg1 hg2
    clear hs1 hg2
    cases fl with
    | false =>
      go_wp2_with fail
      go_ret
      exact ⟨_, n, cap, t, rfl, hN.sl n hnl.out hcap, hT.out, hn, .inr ⟨g, rfl, hgl.1⟩, hs2.le (by omega), hg1⟩
    | true =>
      go_wp2_with fail
      refine (next_any n w2 b (R + 15) (by omega) (by omega) (hs2.le (by omega))).mono ?_
      rintro e w3 ⟨r, ⟨hr1, hr2⟩, rfl, hs3, hg3⟩
      obtain ⟨k, rfl⟩ := Int.eq_ofNat_of_zero_le hr1
      have hkn : k < n := by omega
      obtain ⟨x, hx⟩ : ∃ x, t[k]? = some x := ⟨t[k]'(by have := hnl.out; omega), List.getElem?_eq_getElem _⟩
      replace hx := Lib.hid hx
      replace hN := hN.gb hg3 hgb
      replace hg1 := gb_trans hg1 hg3
      clear hs2 hg3 hr1
      go_wp2_with fail
      refine (prefix_any w3 b (R + 1) (hs3.le (by omega))).mono ?_
      rintro e w4 ⟨s, hi, lo, nb, hA, rfl, hs4, hg4⟩
      obtain ⟨p, hp⟩ : ∃ p : Pf, p = (⟨s, hi, lo⟩, nb) := ⟨_, rfl⟩
      have hpU := Lib.hid (show p.1.U by rw [hp]; exact ⟨hA.1, hA.2.1⟩)
      have hpv : (Value.agg #[.bool s, .int .u64 hi, .int .u64 lo, .int .i64 nb]) = pfA p := by rw [hp]; rfl
      rw [hpv]
      replace hN := hN.gb hg4 hgb
      replace hg1 := gb_trans hg1 hg4
      clear hs3 hg4 hp hpv hA
      have hL := Blk.new w4 [.string ⟨#[97]⟩, .string ⟨#[]⟩, .string ⟨#[65]⟩] 9
      have hga := World.grownBy_alloc w4 (.cells #[.string ⟨#[97]⟩, .string ⟨#[]⟩, .string ⟨#[65]⟩] 9) none
      replace hN := hN.gb hga (by intro e; cases e)
      replace hs4 := hs4.alloc (.cells #[.string ⟨#[97]⟩, .string ⟨#[]⟩, .string ⟨#[65]⟩] 9)
      have hbl := hs4.lt
      have hw4 := hg1.size
      replace hg1 := gb_alloc hg1 (.cells #[.string ⟨#[97]⟩, .string ⟨#[]⟩, .string ⟨#[65]⟩] 9)
      have HK := Lib.hid (someSh_any _ b R w4.heap.size 3 3 _ _ hs4 (by omega) hL rfl (by decide) (by decide) (by decide))
      clear hL hs4 hga
      go_wp2_with fail
      refine HK.out.mono ?_
      rintro e w5 ⟨nm, hnm, rfl, hs5, hg5⟩
      replace hN := hN.gb hg5 hgb
      replace hg1 := gb_trans hg1 hg5
      obtain ⟨y, hy⟩ : ∃ y : En, y = ⟨p, nm⟩ := ⟨_, rfl⟩
      have B1 : ∀ w', (bdEn (pfA p) (.string ⟨nm.toArray⟩)).run Tryz.prog w' = .ok (.value (enA y)) w' := fun w' => by
        rw [hy]
        exact run_bdEn ⟨p, nm⟩ w'
      have hyG := Lib.hid (show y.p.1.U ∧ y.nm.length ≤ 100 by rw [hy]; exact ⟨hpU.out, hnm⟩)
      have S1 := hN.stEn hx.out y
      clear HK hg5 hy hpU hnm
      have hi1 : (k : Int) < n := by omega
      go_wp2_with fail
      go_ret
      have hN2 := hN.put hx.out 0 (enC y) (by rw [enC_len]; omega) y (setL_enC x y)
      refine ⟨_, n, cap, t.set k y, rfl, hN2.sl n (by rw [List.length_set]; exact hnl.out) hcap, fun z hz => ?_, hn, .inr ⟨g, rfl, hgl.1⟩, str_setCellsN (by omega) _ _ _ hs5, gb_setCellsN hgl.1 _ _ _ hg1⟩
      rcases List.mem_or_eq_of_mem_set hz with h | rfl
      · exact hT.out z h
      · exact hyG.out

set_option maxHeartbeats 4000000 in
theorem squeeze_bad (E : Int) (A : Option Addr) (n cap : Nat) (t : List En) (w : World) (hS : SlE eEn w A n cap t) (hn : n ≤ 100000) (hU : ∀ x ∈ t, x.p.1.U) (hE : tabF t = E) (h0 : E ≠ 0) :
    Calls Tryz.prog 11 #[.slice A n cap] w (GivesV (.tuple #[.slice none 0 0, .int .i64 E]) w) := by
  have HC := Lib.hid (checkTable_any E A n cap t w hS hn hU hE.symm)
  have b0 : (E == 0) = false := by simp [h0]
  clear hS hU hE
  go_enter Tryz.func11, Tryz.ntmps11
  go_wp2_with fail
  refine HC.out.mono ?_
  rintro e w0 ⟨rfl, hb0⟩
  clear HC
  go_wp2_with fail
  go_ret2
  exact ⟨rfl, hb0⟩
end Go.Proofs.YtfpcalgkfagjkaaGreatDoor
