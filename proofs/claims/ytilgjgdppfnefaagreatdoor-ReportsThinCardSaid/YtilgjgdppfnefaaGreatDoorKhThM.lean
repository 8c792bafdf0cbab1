/- Reports: the reference sorts them; nothing turns but the row. -/
import Derived.Test.YtilgjgdppfnefaaGreatDoorKhThL
import Derived.Test.YtilgjgdppfnefaaGreatDoorKhShelf
namespace Go.Proofs.YtilgjgdppfnefaaGreatDoor
open Go.RowKit Go.Shelf
set_option linter.unusedVariables false
set_option linter.unusedSimpArgs false

/-- What a sort of one's own reports gives. -/
def SrtG (B : Nat) (w : World) (v : Value) (xs : List Rp) (e : Ending) (w' : World) : Prop :=
  e = .returned (.tuple #[]) ∧ ∃ qs : List Rp, qs.Perm xs ∧ qs.Pairwise (fun x y => cmpRp x y ≤ 0) ∧ OwnE eRp 37 B w' v qs ∧ w.grownBy w' v.ownBlock
theorem gb_sortP {α : Type} {P : α → Prop} [Inhabited {x : α // P x}] {enc : {x : α // P x} → List Value} {k : Nat} {w : World} {g off m : Nat} {d : Array {x : α // P x}} {os : Array Obj} : w.grownBy (sortWorldK enc k w g off m d os) (some g) := by
  refine ⟨rfl, rfl, rfl, size_sortWorldK_c _ _ _ _ _ _ _ _, fun k hk hne => ?_⟩
  unfold sortWorldK Sort.grow Sort.putRowK Sort.putRow Sort.mapBlock Sort.ahead
  show (w.heap.modify g _ ++ os)[k]? = _
  rw [Array.getElem?_append_left (by simp; omega), Array.getElem?_modify, if_neg (by intro e; exact hne (by rw [e]))]

set_option maxHeartbeats 2000000 in
set_option maxRecDepth 100000 in
theorem insRpG_any (B : Nat) (A : Option Addr) (n cap : Nat) (v : Value) (hv : v = .slice A n cap) (xs : List Rp) (w : World) (hown : OwnE eRp 37 B w v xs) (hU : ∀ x ∈ xs, x.U) (hb : B ≤ w.heap.size) (hn : n ≤ 1000000) :
    Calls Tryz.prog 80 #[v, .int .i64 0, .int .i64 n, .func (.func 27) #[] #[]] w (SrtG B w v xs) := by
  by_cases h0 : xs = []
  · subst h0
    obtain ⟨A', cap', hvv, hS⟩ := hown.sl
    rw [hv] at hvv
    injection hvv with e1 e2 e3
    subst hv e1 e2 e3
    refine (noneI_any Tryz.insRep A cap _ w).mono ?_
    rintro e w' ⟨rfl, rfl⟩
    exact ⟨rfl, [], List.Perm.refl _, List.Pairwise.nil, hown, gb_refl _ _⟩
  · obtain ⟨ys, rfl⟩ := lift_P xs hU
    obtain ⟨g, cap', hvv, hg1, hg2, hcap, _⟩ := hown.form h0
    rw [hv] at hvv
    injection hvv with e1 e2 e3
    subst hv e1 e2 e3
    have hH := holdsP_own (E := eRp) hown
    have eg : ∀ args w, (callFunc 27 args).run Tryz.prog w = .ok (.enter 27 args) w := enters_of Tryz.func27 (by kernel_rfl) rfl
    have hcon := AnyQ.insertionSortCmpFunc Tryz.insRep 14 Tryz.isAgg37 Tryz.sizeOf37 (onP Rp.U eRp).enc (onP Rp.U eRp).len (onP Rp.U eRp).one cmpRU 27 #[] g 0 cap 0 ys.toArray.size ys.toArray w eg (lays_insRp g 0 ys.toArray.size w) hH hg2 (Nat.zero_le _) (Nat.le_refl _) (by simp at hn ⊢; omega)
    change Calls Tryz.prog 80 _ _ _ at hcon
    have e0 : ys.toArray.size = ys.length := by simp
    have hI := Sort.insertionSort_holds (lt := ltOf cmpRU) swo_cmpRU ys.toArray 0 ys.toArray.size (Nat.zero_le _) (Nat.le_refl _)
    generalize Sort.insertionSort (ltOf cmpRU) ys.toArray 0 ys.toArray.size = d' at hcon hI
    obtain ⟨hp, hs⟩ := hI
    rw [e0] at hcon hs
    rw [List.length_map] at hown ⊢
    refine hcon.mono ?_
    rintro e w' ⟨rfl, m, os, rfl⟩
    have hsz : d'.size = ys.length := hp.1.trans e0
    refine ⟨rfl, List.map (fun x : RpU => x.1) d'.toList, by simpa using (perm_ofP hp).map (fun x : RpU => x.1), pairwise_ofR hsz hs, ?_, gb_sortP⟩
    exact own_sortedP (E := eRp) hown hsz

set_option maxHeartbeats 2000000 in
set_option maxRecDepth 100000 in
theorem stableRpG_any (B : Nat) (A : Option Addr) (n cap : Nat) (v : Value) (hv : v = .slice A n cap) (xs : List Rp) (w : World) (hown : OwnE eRp 37 B w v xs) (hU : ∀ x ∈ xs, x.U) (hb : B ≤ w.heap.size) (hn : n < 20) :
    Calls Tryz.prog 26 #[v, .func (.func 27) #[] #[]] w (SrtG B w v xs) := by
  have HC := Lib.hid (insRpG_any B A n cap v hv xs w hown hU hb (by omega))
  subst hv
  clear hown hU hb
  have HS : Hid (Calls Tryz.prog 52 #[.slice A n cap, .int .i64 n, .func (.func 27) #[] #[]] w (SrtG B w (.slice A n cap) xs)) := by
    refine Lib.hid ?_
    have h1 : ¬ (20 : Int) ≤ n := by omega
    have h2 : ¬ (20 : Int) < n := by omega
    go_enter Tryz.func52, Tryz.ntmps52
    go_wp2_with fail
    refine wp_loop_rounds 1 ?_
    rw [rounds_succ]
    go_wp2_with fail
    refine HC.out.mono ?_
    intro e w1 hq
    obtain ⟨rfl, hq⟩ := hq
    replace hq := Lib.hid hq
    go_wp2_with fail
    refine wp_loop_rounds 1 ?_
    rw [rounds_succ]
    go_wp2_with fail
    refine bodyPost_ret (v := .tuple #[]) ?_ rfl ⟨rfl, hq.out⟩
    simp [results, Tryz.results52, go_sem]
  clear HC
  go_enter Tryz.func26, Tryz.ntmps26
  go_wp2_with fail
  refine HS.out.mono ?_
  intro e w1 hq
  obtain ⟨rfl, hq⟩ := hq
  replace hq := Lib.hid hq
  go_wp2_with fail
  refine bodyPost_ret (v := .tuple #[]) ?_ rfl ⟨rfl, hq.out⟩
  simp [results, Tryz.results26, go_sem]

set_option maxHeartbeats 2000000 in
set_option maxRecDepth 100000 in
theorem insEndG_any (B : Nat) (A : Option Addr) (n cap : Nat) (v : Value) (hv : v = .slice A n cap) (xs : List Rp) (w : World) (hown : OwnE eRp 37 B w v xs) (hU : ∀ x ∈ xs, x.U) (h0 : xs ≠ []) (hb : B ≤ w.heap.size) (hn : n ≤ 1000000) :
    Calls Tryz.prog 80 #[v, .int .i64 n, .int .i64 n, .func (.func 27) #[] #[]] w fun e w' => e = .returned (.tuple #[]) ∧ OwnE eRp 37 B w' v xs ∧ w.grownBy w' v.ownBlock := by
  obtain ⟨ys, rfl⟩ := lift_P xs hU
  obtain ⟨g, cap', hvv, hg1, hg2, hcap, _⟩ := hown.form h0
  rw [hv] at hvv
  injection hvv with e1 e2 e3
  subst hv e1 e2 e3
  have hH := holdsP_own (E := eRp) hown
  have eg : ∀ args w, (callFunc 27 args).run Tryz.prog w = .ok (.enter 27 args) w := enters_of Tryz.func27 (by kernel_rfl) rfl
  have hcon := AnyQ.insertionSortCmpFunc Tryz.insRep 14 Tryz.isAgg37 Tryz.sizeOf37 (onP Rp.U eRp).enc (onP Rp.U eRp).len (onP Rp.U eRp).one cmpRU 27 #[] g 0 cap ys.toArray.size ys.toArray.size ys.toArray w eg (lays_insRp g 0 ys.toArray.size w) hH hg2 (Nat.le_refl _) (Nat.le_refl _) (by simp at hn ⊢; omega)
  change Calls Tryz.prog 80 _ _ _ at hcon
  have e0 : ys.toArray.size = ys.length := by simp
  have hI := (Sort.insertionSort_holds (lt := ltOf cmpRU) swo_cmpRU ys.toArray ys.toArray.size ys.toArray.size (Nat.le_refl _) (Nat.le_refl _)).1
  generalize Sort.insertionSort (ltOf cmpRU) ys.toArray ys.toArray.size ys.toArray.size = d' at hcon hI
  have hd : d' = ys.toArray := by
    apply Array.ext hI.1
    intro i a b
    have := hI.2.1 i (.inl b)
    rw [getElem!_pos d' i a, getElem!_pos ys.toArray i b] at this
    exact this
  subst hd
  rw [e0] at hcon
  rw [List.length_map] at hown ⊢
  refine hcon.mono ?_
  rintro e w' ⟨rfl, m, os, rfl⟩
  refine ⟨rfl, ?_, gb_sortP⟩
  have := own_sortedP (E := eRp) (d' := ys.toArray) (m := m) (os := os) hown e0
  rw [show ys.toArray.toList = ys by simp] at this
  exact this

set_option maxHeartbeats 2000000 in
set_option maxRecDepth 100000 in
theorem stable20G_any (B : Nat) (A : Option Addr) (cap : Nat) (v : Value) (hv : v = .slice A 20 cap) (xs : List Rp) (w : World) (hown : OwnE eRp 37 B w v xs) (hU : ∀ x ∈ xs, x.U) (h0 : xs ≠ []) (hb : B ≤ w.heap.size) :
    Calls Tryz.prog 26 #[v, .func (.func 27) #[] #[]] w (SrtG B w v xs) := by
  have HC : Hid (Calls Tryz.prog 80 #[v, .int .i64 0, .int .i64 20, .func (.func 27) #[] #[]] w (SrtG B w v xs)) := Lib.hid (insRpG_any B A 20 cap v hv xs w hown hU hb (by decide))
  have HE : Hid (∀ qs w1, OwnE eRp 37 B w1 v qs → (∀ x ∈ qs, x.U) → qs ≠ [] → B ≤ w1.heap.size → Calls Tryz.prog 80 #[v, .int .i64 20, .int .i64 20, .func (.func 27) #[] #[]] w1 fun e w' => e = .returned (.tuple #[]) ∧ OwnE eRp 37 B w' v qs ∧ w1.grownBy w' v.ownBlock) := Lib.hid (fun qs w1 a b c d => insEndG_any B A 20 cap v hv qs w1 a b c d (by decide))
  subst hv
  replace hU := Lib.hid hU
  replace h0 := Lib.hid h0
  clear hown
  have HS : Hid (Calls Tryz.prog 52 #[.slice A 20 cap, .int .i64 20, .func (.func 27) #[] #[]] w (SrtG B w (.slice A 20 cap) xs)) := by
    refine Lib.hid ?_
    go_enter Tryz.func52, Tryz.ntmps52
    go_wp2_with fail
    refine wp_loop_rounds 2 ?_
    rw [rounds_succ]
    go_wp2_with fail
    refine HC.out.mono ?_
    intro e w1 hq
    obtain ⟨rfl, qs, hp, hs, hown, hb1⟩ := hq
    have HE2 := Lib.hid (HE.out qs w1 hown (fun x hx => hU.out x (hp.mem_iff.1 hx)) (fun k => h0.out (by subst k; exact List.length_eq_zero_iff.1 hp.length_eq.symm)) (Nat.le_trans hb hb1.size))
    replace hp := Lib.hid hp
    replace hs := Lib.hid hs
    clear HC HE hown
    go_wp2_with fail
    rw [rounds_succ]
    go_wp2_with fail
    refine HE2.out.mono ?_
    rintro e w2 ⟨rfl, hown, hb2⟩
    replace hown := Lib.hid hown
    go_wp2_with fail
    refine wp_loop_rounds 1 ?_
    rw [rounds_succ]
    go_wp2_with fail
    refine bodyPost_ret (v := .tuple #[]) ?_ rfl ⟨rfl, qs, hp.out, hs.out, hown.out, gb_trans hb1 hb2⟩
    simp [results, Tryz.results52, go_sem]
  clear HC HE hU h0
  go_enter Tryz.func26, Tryz.ntmps26
  go_wp2_with fail
  refine HS.out.mono ?_
  intro e w1 hq
  obtain ⟨rfl, hq⟩ := hq
  replace hq := Lib.hid hq
  go_wp2_with fail
  refine bodyPost_ret (v := .tuple #[]) ?_ rfl ⟨rfl, hq.out⟩
  simp [results, Tryz.results26, go_sem]
theorem stableAllG_any (B : Nat) (A : Option Addr) (n cap : Nat) (v : Value) (hv : v = .slice A n cap) (xs : List Rp) (w : World) (hown : OwnE eRp 37 B w v xs) (hU : ∀ x ∈ xs, x.U) (hb : B ≤ w.heap.size) (hnl : n = xs.length) (hn : n ≤ 20) :
    Calls Tryz.prog 26 #[v, .func (.func 27) #[] #[]] w (SrtG B w v xs) := by
  by_cases h : n < 20
  · exact stableRpG_any B A n cap v hv xs w hown hU hb h
  · have e : n = 20 := by omega
    subst e
    exact stable20G_any B A cap v hv xs w hown hU (by intro k; subst k; exact absurd hnl (by decide)) hb
end Go.Proofs.YtilgjgdppfnefaaGreatDoor
