/- Tables: rows of wide numbers; Concat of entries. -/
import Derived.Test.YtfpcalgkfagjkaaGreatDoorKrTdC
import Derived.Test.YtfpcalgkfagjkaaGreatDoorKrTdF
import Derived.Test.YtfpcalgkfagjkaaGreatDoorKrTbQ
import Derived.Test.YtfpcalgkfagjkaaGreatDoorKrStP
import Derived.Test.YtfpcalgkfagjkaaGreatDoorKrSvB
import Derived.Test.YtfpcalgkfagjkaaGreatDoorKrStG
import Derived.Test.YtfpcalgkfagjkaaGreatDoorKrShelf
import Derived.Lib.AppendZerosOnto
import Derived.Laws.AppendOwnNone
import Derived.Great.BuildSlice
set_option linter.unusedVariables false
set_option linter.unusedSimpArgs false
set_option maxRecDepth 100000
namespace Go.Proofs.YtfpcalgkfagjkaaGreatDoor
open Go.RowKit

theorem bestF_filter (f g : En → Bool) (h : Pf → Bool) (hg : ∀ x, h x.p = g x) : ∀ (t : List En) (s : List UInt8 × Int) (k : Pf → Bool), bestF k (t.filter g) s = bestF (fun p => k p && h p) t s
  | [], _, _ => rfl
  | x :: r, s, k => by
    rw [List.filter_cons]
    by_cases hx : g x = true
    · rw [if_pos hx, bestF, bestF, hg x, hx, Bool.and_true]
      exact bestF_filter f g h hg r _ k
    · rw [if_neg hx, bestF, hg x]
      rw [Bool.not_eq_true] at hx
      rw [hx, Bool.and_false, if_neg (fun k => by cases k.2)]
      exact bestF_filter f g h hg r _ k
def lessT (t : List En) (B : Int) : List En := t.filter fun y => !decide (B ≤ y.p.2)
theorem less_look (t : List En) (m : Nat) (B : Int) : lookT (lessT t B) m = longF (fM m B) t := by
  unfold lookT lessT longF
  rw [bestF_filter (fun _ => true) (fun y => !decide (B ≤ y.p.2)) (fun p => !decide (B ≤ p.2)) (fun _ => rfl)]
  congr 1
  refine bestF_congr t _ fun x _ => ?_
  unfold fM
  congr 1
  rw [Bool.eq_iff_iff]
  simp
theorem less_d {t : List En} (h : TbD t) (B : Int) : TbD (lessT t B) := ⟨fun x hx => h.r x (List.mem_filter.1 hx).1, fun x hx y hy => h.d x (List.mem_filter.1 hx).1 y (List.mem_filter.1 hy).1⟩
def dropB (t : List En) (x : En) : Bool := hasT (lessT t x.p.2) x.p.1.n && (lookT (lessT t x.p.2) x.p.1.n == x.nm)
theorem drop_is {t : List En} (h : TbG t) {x : En} (hx : x ∈ t) : dropB t x = decide (aroT t x = x.nm) := by
  have hd := h.d
  have e1 : lookT (lessT t x.p.2) x.p.1.n = aroT t x := by
    rw [less_look]
    unfold aroT
    exact (aro_fM hd (fun y hy => hy) hx (inQ_self x.p)).symm
  have hne : x.nm ≠ [] := by
    intro e
    have hk := (h.1 x hx).2
    rw [e] at hk
    cases hk
  unfold dropB
  cases hh : hasT (lessT t x.p.2) x.p.1.n with
  | true =>
    rw [e1, Bool.true_and, Bool.eq_iff_iff, beq_iff_eq, decide_eq_true_iff]
  | false =>
    have h0 : lookT (lessT t x.p.2) x.p.1.n = [] := lookT_none (less_d hd _).bits fun y hy => by
      rw [Bool.eq_false_iff]
      intro k
      rw [hasT_iff.2 ⟨y, hy, k⟩] at hh
      cases hh
    rw [Bool.false_and, decide_eq_false]
    rw [← e1, h0]
    exact hne.symm
theorem sqT_drop {t : List En} (h : TbG t) : (t.filter fun x => !dropB t x) = sqT t := by
  unfold sqT
  refine List.filter_congr fun x hx => ?_
  rw [drop_is h hx]
  simp

set_option maxHeartbeats 1000000 in
theorem shorter_any (x y : En) (g : Nat) (w : World) (h : Blk w g (enC x) 37) :
    Calls Tryz.prog 43 #[enA y, .pointer (some ⟨g, 0, none⟩)] w (GivesV (.bool (decide (x.p.2 ≤ y.p.2))) w) := by
  have hC := Blk.new w (enC y) 37
  have hbw : Below w.heap.size w (w.alloc (.cells (enC y).toArray 37)) := (Below.refl _ _).alloc (Nat.le_refl _) _
  replace h := Blk.below h hbw
  have c1 := hC.cell (i := 3) (v := .int .i64 y.p.2) rfl
  have c2 := h.cell (i := 3) (v := .int .i64 x.p.2) rfl
  go_enter Tryz.func43, Tryz.ntmps43
  go_wp2_with fail
  go_ret
  exact ⟨rfl, hbw⟩

set_option maxHeartbeats 4000000 in
theorem drop_any (x : En) (r : Nat) (A : Option Addr) (n cap : Nat) (t : List En) (w : World) (hr : Blk w r [.slice A n cap] 26) (hS : SlE eEn w A n cap t) (hn : n ≤ 100000) (hD : TbD t) (hx : x.p.R) :
    Calls Tryz.prog 42 #[enA x, .pointer (some ⟨r, 0, none⟩)] w (GivesV (.bool (dropB t x)) w) := by
  have hC := Blk.new w (enC x) 37
  have hbw : Below w.heap.size w (w.alloc (.cells (enC x).toArray 37)) := (Below.refl _ _).alloc (Nat.le_refl _) _
  replace hr := Blk.below hr hbw
  have c0 := hr.cell (i := 0) (v := .slice A n cap) rfl
  replace hS := hS.below hbw
  have hl := Lib.hid hS.1
  have HC := Lib.hid (cloneEn_any A n cap t _ hS hn)
  have hD2 := Lib.hid (less_d hD x.p.2)
  have hxa := Lib.hid hx.1
  obtain ⟨D, hDv⟩ : ∃ D, D = dropB t x := ⟨_, rfl⟩
  rw [← hDv]
  unfold dropB at hDv
  replace hDv := Lib.hid hDv
  clear hS hx hD
  go_enter Tryz.func42, Tryz.ntmps42
  go_wp2_with fail
  refine HC.out.mono ?_
  rintro e w1 ⟨v, rfl, hown, hv⟩
  obtain ⟨Ac, cc, rfl, _⟩ := hown.sl
  rw [← hl.out] at hown ⊢
  have hz := hv.size
  have hz0 := hbw.size
  obtain ⟨B, hB⟩ : ∃ B, B = (w.alloc (.cells (enC x).toArray 37)).heap.size := ⟨_, rfl⟩
  have hBq : w.heap.size < B := by rw [hB]; simp
  rw [← hB] at hown hz
  have hC1 := Lib.hid (hC.below hv)
  have hb1 := hbw.trans (hv.mono hz0)
  have hBh := Lib.hid hB
  have HD := Lib.hid (deleteFE_any 43 w.heap.size (fun y => decide (x.p.2 ≤ y.p.2)) B Ac n cc t w1 hown hl.out hn hz
    (fun y _ W hW => shorter_any x y w.heap.size W ((hW.block _ hBq).trans hC1.out)) (fun args w => by rfl))
  replace HD : Hid (Calls Tryz.prog 41 #[.slice Ac n cc, .func (.func 43) #[] #[.pointer (some ⟨w.heap.size, 0, none⟩)]] w1 fun e w' => ∃ A' m cap', e = .returned (.slice A' m cap') ∧ SlE eEn w' A' m cap' (lessT t x.p.2) ∧ Below B w1 w') := HD
  clear hown hC hv HC hr c0
  go_wp2_with fail
  refine HD.out.mono ?_
  rintro e w2 ⟨As, ms, cs, rfl, hSs, hv⟩
  have hX : Blk w2 w.heap.size (enC x) 37 := (hv.block _ hBq).trans hC1.out
  have hb2 := hb1.trans (hv.mono (by omega))
  have hml : ms ≤ 100000 := by
    have h1 := hSs.1
    have h2 : (lessT t x.p.2).length ≤ t.length := List.length_filter_le _ _
    have h3 := hl.out
    omega
  have HL := Lib.hid (lookOf_any As ms cs (lessT t x.p.2) x.p.1 w2 hSs hml hD2.out hxa.out)
  have la := hX.ldAt rowAd 0 (adC x.p.1) [.int .i64 x.p.2, .string ⟨x.nm.toArray⟩] rfl rfl
  have hDw := hDv.out
  obtain ⟨s, hs⟩ : ∃ s, s = lookT (lessT t x.p.2) x.p.1.n := ⟨_, rfl⟩
  obtain ⟨o, ho⟩ : ∃ o, o = hasT (lessT t x.p.2) x.p.1.n := ⟨_, rfl⟩
  rw [← hs, ← ho] at HL hDw
  replace hDw := Lib.hid hDw
  clear hDv hs ho HD hSs hv hC1 hb1
  go_wp2_with fail
  refine HL.out.mono ?_
  rintro e w3 ⟨rfl, hv⟩
  replace hX := hX.below hv
  replace hb2 := hb2.trans (hv.mono hb2.size)
  have c4 := hX.cell (i := 4) (v := .string ⟨x.nm.toArray⟩) rfl
  clear hv la HL
  cases o with
  | true =>
    go_wp2_with fail
    go_ret
    exact ⟨by rw [hDw.out]; simp, hb2⟩
  | false =>
    go_wp2_with fail
    go_ret
    exact ⟨by rw [hDw.out]; simp, hb2⟩

set_option maxHeartbeats 4000000 in
theorem squeezeOf_any (A : Option Addr) (n cap : Nat) (t : List En) (w : World) (hS : SlE eEn w A n cap t) (hG : TbG t) :
    Calls Tryz.prog 18 #[.slice A n cap] w fun e w' => ∃ A' m cap', e = .returned (.slice A' m cap') ∧ SlE eEn w' A' m cap' (sqT t) ∧ Below w.heap.size w w' := by
  have hn : n ≤ 100000 := by have h1 := hS.1; have h2 := hG.2.1; omega
  have hr := Blk.new w [.slice A n cap] 26
  have hbw : Below w.heap.size w (w.alloc (.cells [Value.slice A n cap].toArray 26)) := (Below.refl _ _).alloc (Nat.le_refl _) _
  have c0 := hr.cell (i := 0) (v := .slice A n cap) rfl
  replace hS := hS.below hbw
  have hl := Lib.hid hS.1
  have HC := Lib.hid (cloneEn_any A n cap t _ hS hn)
  replace hS := Lib.hid hS
  have hsq := Lib.hid (sqT_drop hG)
  have hd := Lib.hid hG.d
  go_enter Tryz.func18, Tryz.ntmps18
  go_wp2_with fail
  refine HC.out.mono ?_
  rintro e w1 ⟨v, rfl, hown, hv⟩
  obtain ⟨Ac, cc, rfl, _⟩ := hown.sl
  rw [← hl.out] at hown ⊢
  have hz := hv.size
  have hz0 := hbw.size
  obtain ⟨B, hB⟩ : ∃ B, B = (w.alloc (.cells [Value.slice A n cap].toArray 26)).heap.size := ⟨_, rfl⟩
  have hBq : w.heap.size < B := by rw [hB]; simp
  have hSB := Lib.hid (show ∀ W, Below B w1 W → SlE eEn W A n cap t from fun W hW => by
    obtain ⟨a1, a2, a3, a4⟩ := hS.out
    rcases a4 with h | ⟨g, off, hA, hlt, _⟩
    · exact ⟨a1, a2, a3, .inl h⟩
    · exact (hS.out.below hv).from' (B := B) (fun g' off' e => by rw [hA] at e; cases e; rw [hB]; exact hlt) hW)
  rw [← hB] at hown hz
  have hr1 := Lib.hid (hr.below hv)
  have hb1 := hbw.trans (hv.mono hz0)
  have HD := Lib.hid (deleteFE_any 42 w.heap.size (dropB t) B Ac n cc t w1 hown hl.out hn hz
    (fun y hy W hW => drop_any y w.heap.size A n cap t W ((hW.block _ hBq).trans hr1.out) (hSB.out W hW) hn hd.out (hd.out.r y hy)) (fun args w => by rfl))
  rw [hsq.out] at HD
  replace HD : Hid (Calls Tryz.prog 41 #[.slice Ac n cc, .func (.func 42) #[] #[.pointer (some ⟨w.heap.size, 0, none⟩)]] w1 fun e w' => ∃ A' m cap', e = .returned (.slice A' m cap') ∧ SlE eEn w' A' m cap' (sqT t) ∧ Below B w1 w') := HD
  clear hown hr hv HC c0 hr1 hSB
  go_wp2_with fail
  refine HD.out.mono ?_
  rintro e w2 ⟨As, ms, cs, rfl, hSs, hv⟩
  have hb2 := hb1.trans (hv.mono (by omega))
  replace hSs := Lib.hid hSs
  clear HD hv hb1
  go_wp2_with fail
  go_ret
  exact ⟨As, ms, cs, rfl, hSs.out, hb2⟩

open Go.Shelf
def eW : Enc Nat := ⟨digN, 9, by decide, digN_len, digN_one⟩
def zW : Value := .agg #[.int .i64 0, .int .i64 0, .int .i64 0, .int .i64 0, .int .i64 0, .int .i64 0, .int .i64 0, .int .i64 0, .int .i64 0]
theorem infoW : (Tryz.prog.info? 77).map (fun i => (i.zero, i.size, i.bytes)) = some (some zW, 9, 72) := by kernel_rfl
theorem tyeW : Ty eW 77 79 zW 72 := ⟨Tryz.underlying79, infoW, rfl, by decide⟩
def bsT2 (t : TypeId) (x y : Value) : Sem Next := do
  let v ← Instr.buildSlice t 2 #[(0, x), (1, y)]
  pure (.value v)
section
variable (ρ : Operand → Value) (dst : Option Tmp) (x y : Operand) (ty : TypeId) (pos : String) (after : Array Edge) (guard : Option (Nat × Bool))
@[go_sem ↓ high] theorem execOp_bsW : execOp ρ ⟨dst, .buildSlice 79 1 #[(0, x)], ty, pos, after, guard⟩ = bsT 79 (ρ x) := by
  simp only [execOp, bsT, List.map_toArray, List.map_cons, List.map_nil]
@[go_sem high] theorem execOp_bsW' : execOp ρ ⟨dst, .buildSlice 79 1 #[(0, x)], ty, pos, after, guard⟩ = bsT 79 (ρ x) := by
  simp only [execOp, bsT, List.map_toArray, List.map_cons, List.map_nil]
@[go_sem ↓ high] theorem execOp_bsW2 : execOp ρ ⟨dst, .buildSlice 79 2 #[(0, x), (1, y)], ty, pos, after, guard⟩ = bsT2 79 (ρ x) (ρ y) := by
  simp only [execOp, bsT2, List.map_toArray, List.map_cons, List.map_nil]
@[go_sem high] theorem execOp_bsW2' : execOp ρ ⟨dst, .buildSlice 79 2 #[(0, x), (1, y)], ty, pos, after, guard⟩ = bsT2 79 (ρ x) (ρ y) := by
  simp only [execOp, bsT2, List.map_toArray, List.map_cons, List.map_nil]
end
@[go_sem] theorem run_bsW (W : Nat) (w : World) : (bsT 79 (.agg (digN W).toArray)).run Tryz.prog w = .ok (.value (.slice (some ⟨w.heap.size, 0, none⟩) 1 1)) (w.alloc (.cells (digN W).toArray 77)) :=
  bsT_run Tryz.underlying79 infoW (by decide) (by decide) (by kernel_rfl) w
theorem run_bsW2 (W V : Nat) (w : World) : (bsT2 79 (.agg (digN W).toArray) (.agg (digN V).toArray)).run Tryz.prog w = .ok (.value (.slice (some ⟨w.heap.size, 0, none⟩) 2 2)) (w.alloc (.cells (digN W ++ digN V).toArray 77)) := by
  obtain ⟨i0, hi0, hz0, hz1, hz2⟩ := info_parts infoW
  have hk9 : i0.size = 9 := hz1
  unfold bsT2
  have h := run_buildSlice (P := Tryz.prog) w 79 77 2 #[(0, .agg (digN W).toArray), (1, .agg (digN V).toArray)] (digN W ++ digN V).toArray i0 zW Tryz.underlying79 hi0 hz0 (by rw [hk9]; decide) (by rw [hk9]; decide) (by rw [hk9]; kernel_rfl)
  simp only [Sem.run_bind, h, Result.andThen_ok, Sem.run_pure]
theorem own_twoW {w : World} (W V : Nat) : OwnE eW 77 w.heap.size (w.alloc (.cells (digN W ++ digN V).toArray 77)) (.slice (some ⟨w.heap.size, 0, none⟩) 2 2) [W, V] := by
  refine ⟨rfl, .inr ⟨w.heap.size, 2, (digN W ++ digN V).toArray, rfl, Nat.le_refl _, ?_, Nat.le_refl _, by decide, rfl, ?_⟩⟩
  · simp [World.alloc, -World.alloc_eq]
  · simp [Enc.cells, eW]
    rfl

def W144 (m : Nat) : Prop := m < 2 ^ 144
abbrev WU := {m : Nat // W144 m}
instance : Inhabited WU := ⟨⟨0, Nat.two_pow_pos 144⟩⟩
def cmpWU (x y : WU) : Int := cmpN x.1 y.1
theorem ltWU_iff (x y : WU) : ltOf cmpWU x y = true ↔ x.1 < y.1 := by
  unfold ltOf cmpWU cmpN
  by_cases h : x.1 < y.1
  · rw [if_pos h]; exact ⟨fun _ => h, fun _ => by decide⟩
  · rw [if_neg h]
    refine ⟨fun a => ?_, fun a => absurd a h⟩
    exfalso
    by_cases h2 : x.1 = y.1
    · rw [if_pos h2] at a; cases a
    · rw [if_neg h2] at a; cases a
theorem ltWU_le (x y : WU) (h : ltOf cmpWU x y = false) : y.1 ≤ x.1 := by
  have := mt (ltWU_iff x y).2 (by rw [h]; decide)
  omega
theorem ltWU_not (x y : WU) (h : y.1 ≤ x.1) : ltOf cmpWU x y = false := by
  cases e : ltOf cmpWU x y
  · rfl
  · have := (ltWU_iff x y).1 e; omega
theorem swo_cmpWU : Sort.SWO (ltOf cmpWU) where
  irrefl := fun x => ltWU_not x x (Nat.le_refl _)
  trans := fun x y z a b => (ltWU_iff x z).2 (Nat.lt_trans ((ltWU_iff x y).1 a) ((ltWU_iff y z).1 b))
  ntrans := fun x y z a b => ltWU_not x z (Nat.le_trans (ltWU_le y z b) (ltWU_le x y a))
theorem pairwise_ofW {d : Array WU} {n : Nat} (hn : d.size = n) (h : Sort.SortedIn (ltOf cmpWU) 0 n d) : (d.toList.map (·.1)).Pairwise (fun x y => x ≤ y) := by
  rw [List.pairwise_map, List.pairwise_iff_getElem]
  intro i j hi hj hij
  have := ltWU_le _ _ (h i j (Nat.zero_le _) hij (by rw [← hn]; simpa using hj))
  rw [getElem!_pos d i (by simpa using hi), getElem!_pos d j (by simpa using hj)] at this
  simpa using this
theorem lays_sortW (blk off size : Nat) (w : World) : CmpLays Tryz.prog 49 #[] (onP W144 eW).enc (onP W144 eW).k cmpWU blk off size w :=
  fun _ _ _ _ x y => (wcmp_d x.1 y.1 _ x.2 y.2).mono fun _ _ h => ⟨h.1, h.2.grows⟩

set_option maxHeartbeats 2000000 in
theorem sortW_any (B : Nat) (v : Value) (xs : List Nat) (w : World) (hown : OwnE eW 77 B w v xs) (hU : ∀ x ∈ xs, W144 x) (h0 : xs ≠ []) (hb : B ≤ w.heap.size) (hn : xs.length ≤ 1000000) :
    Calls Tryz.prog 48 #[v, .func (.func 49) #[] #[]] w fun e w' => e = .returned (.tuple #[]) ∧ ∃ qs : List Nat, qs.Perm xs ∧ qs.Pairwise (fun x y => x ≤ y) ∧ OwnE eW 77 B w' v qs ∧ Below B w w' := by
  obtain ⟨ys, rfl⟩ := lift_P xs hU
  obtain ⟨g, cap, rfl, hg1, hg2, hcap, _⟩ := hown.form h0
  have hH := holdsP_own (E := eW) hown
  have eg : ∀ args w, (callFunc 49 args).run Tryz.prog w = .ok (.enter 49 args) w := enters_of Tryz.func49 (by kernel_rfl) rfl
  have hcon := AnyQ.slices_SortFunc Tryz.sortWide 9 Tryz.isAgg77 Tryz.sizeOf77 (onP W144 eW).enc (onP W144 eW).len (onP W144 eW).one cmpWU swo_cmpWU 49 #[] g 0 cap ys.toArray w eg (lays_sortW g 0 ys.toArray.size w) hH hg2 (by simp at hn ⊢; omega)
  change Calls Tryz.prog 48 _ _ _ at hcon
  have e0 : ys.toArray.size = ys.length := by simp
  rw [e0] at hcon
  rw [List.length_map] at hown ⊢
  refine hcon.mono ?_
  rintro e w' ⟨rfl, d', m, os, hp, hs, rfl⟩
  rw [← e0] at hp
  have hsz : d'.size = ys.length := hp.1.trans e0
  refine ⟨rfl, List.map (fun x : WU => x.1) d'.toList, by simpa using (perm_ofP hp).map (fun x : WU => x.1), pairwise_ofW hsz hs, ?_, below_sortP hg1 hb⟩
  exact own_sortedP (E := eW) hown hsz

theorem wpList_appE {ps : List En} {w : World} {ops : Array Oper} {rest : List Oper} {o : Oper} {a : Act} {Q : Exit → Act → World → Prop} (hgd : o.guard = none) (s x : Operand)
    (ho : o.op = .call { callee := .builtin .append, args := #[s, x], argTypes := #[26, 26] })
    (B : Nat) (v : Value) (xs : List En) (hs : a.eval s = v) (hown : OwnE eEn 37 B w v xs)
    (A : Option Addr) (m c : Nat) (hx : a.eval x = .slice A m c) (hS : SlE eEn w A m c ps) (hn : xs.length + ps.length ≤ 1000000) (hbase : B ≤ w.heap.size)
    (h : ∀ v' w', OwnE eEn 37 B w' v' (xs ++ ps) → w.grownBy w' v.ownBlock → wpList Tryz.prog ops Q rest (a.put o.dst v') w') : wpList Tryz.prog ops Q (o :: rest) a w := by
  cases A with
  | none =>
    obtain rfl := hS.2.2.1 rfl
    have hm : m = 0 := by have := hS.2.1; omega
    subst hm
    have hp : ps = [] := List.eq_nil_of_length_eq_zero hS.1.symm
    subst hp
    obtain ⟨i0, hi0, hz0, hz1, hz2⟩ := info_parts infoEn
    have hown' := hown
    unfold OwnE at hown'
    refine wpList_append_own_none hgd s x 26 ho B 37 i0 5 Tryz.underlying26 hi0 v xs.length (eEn.cells xs) hs hown' hx ?_
    refine h v w (by simpa using hown) ?_
    exact World.grownBy.refl _ _
  | some ad =>
    exact wpList_app tyeEn hgd s x ho B v xs ps hs hown ad m c hx hS.1 (fun j u hj => hS.cells j u hj) hn hbase (fun v' w' h1 h2 _ => h v' w' h1 h2)

set_option maxHeartbeats 2000000 in
theorem growEn_any (t : Nat) (w : World) (ht : t ≤ 100000) :
    Calls Tryz.prog 78 #[.slice none 0 0, .int .i64 t] w fun e w' => ∃ v, e = .returned v ∧ OwnE eEn 37 w.heap.size w' v [] ∧ Below w.heap.size w w' := by
  by_cases h0 : t = 0
  · subst h0
    go_enter Tryz.func78, Tryz.ntmps78
    go_wp2_with fail
    go_ret
    exact ⟨_, rfl, OwnE.nil _ _, Below.refl _ _⟩
  · have h1t : 1 ≤ t := by omega
    clear h0
    obtain ⟨i0, hi0, hz0, hz1, hz2⟩ := info_parts infoEn
    have hrz : ∀ ty, (Builtin.append_ #[26, 3] ty #[.slice none 0 0, .int .i64 t]).run Tryz.prog w =
        .ok (.slice (some ⟨w.heap.size, 0, none⟩) (0 + t) (grownCap w (0 + t) 0 37)) (w.drew.alloc (.cells (#[] ++ Builtin.zeroCells zEn.cells t ++ Builtin.zeroCells zEn.cells (grownCap w (0 + t) 0 37 - (0 + t))) 37)) := fun ty => by
      have h := Lib.run_append_grow_zeros w 26 3 ty 37 i0 zEn .i64 .i64 Tryz.underlying26 Tryz.underlying3 hi0 hz0 none 0 0 [] (run_firstCells_none w.drew i0.size 0 0 0) t (by first | omega | (rw [hz2]; omega) | (rw [hz1]; omega)) (by first | omega | (rw [hz2]; omega) | (rw [hz1]; omega)) (by first | omega | (rw [hz2]; omega) | (rw [hz1]; omega)) (by first | omega | (rw [hz2]; omega) | (rw [hz1]; omega)) (by first | omega | (rw [hz2]; omega) | (rw [hz1]; omega)) (growslice_fits (by first | omega | (rw [hz2]; omega)) (by first | omega | (rw [hz2]; omega)))
      exact h
    obtain ⟨G, hG⟩ : ∃ G, G = grownCap w (0 + t) 0 37 := ⟨_, rfl⟩
    have hG8 : t ≤ G := by rw [hG]; have := grownCap_ge w (0 + t) 0 37; omega
    have hG63 : G ≤ maxLen := by rw [hG]; exact grownCap_le_maxLen w (0 + t) 0 37 (by unfold maxLen; omega)
    rw [← hG] at hrz
    have hzc : zEn.cells.size = 5 := rfl
    have hZ : (#[] ++ Builtin.zeroCells zEn.cells t ++ Builtin.zeroCells zEn.cells (G - (0 + t))).size = G * 5 := by
      simp only [Builtin.zeroCells, Array.size_append, Array.size_map, Array.size_range, hzc, List.size_toArray, List.length_nil]
      omega
    obtain ⟨Z, hZ0⟩ : ∃ Z, Z = (#[] ++ Builtin.zeroCells zEn.cells t ++ Builtin.zeroCells zEn.cells (G - (0 + t))) := ⟨_, rfl⟩
    rw [← hZ0] at hrz hZ
    have hW : OwnE eEn 37 w.heap.size (w.drew.alloc (.cells Z 37)) (.slice (some ⟨w.heap.size, 0, none⟩) 0 G) [] := by
      refine ⟨rfl, .inr ⟨w.heap.size, G, Z, rfl, Nat.le_refl _, ?_, Nat.zero_le _, hG63, hZ, by simp [Enc.cells]⟩⟩
      simp [World.alloc, World.drew, -World.alloc_eq, -World.drew_eq]
    have hb : Below w.heap.size w (w.drew.alloc (.cells Z 37)) := (Below.drew (Below.refl _ w)).alloc (Nat.le_refl _) _
    have hG63' : G ≤ 9223372036854775807 := by unfold maxLen at hG63; omega
    clear hZ0 hZ hG hG63
    replace hW := Lib.hid hW
    replace hb := Lib.hid hb
    go_enter Tryz.func78, Tryz.ntmps78
    go_wp2_with (at_builtin; refine Lib.wpList_append_run _ rfl _ _ _ _ rfl _ _ rfl rfl _ _ (hrz _) ?_)
    go_ret
    exact ⟨_, rfl, hW.out, hb.out⟩

set_option maxHeartbeats 4000000 in
theorem concatEn_any (q n1 c1 n2 c2 : Nat) (A1 A2 : Option Addr) (ps qs : List En) (w : World) (hQ : Blk w q [.slice A1 n1 c1, .slice A2 n2 c2] 26) (s1 : SlE eEn w A1 n1 c1 ps) (s2 : SlE eEn w A2 n2 c2 qs) (h1 : n1 ≤ 50000) (h2 : n2 ≤ 50000) :
    Calls Tryz.prog 45 #[.slice (some ⟨q, 0, none⟩) 2 2] w fun e w' => GivesO eEn 37 w.heap.size (ps ++ qs) e w' ∧ Below w.heap.size w w' := by
  have HG := Lib.hid (growEn_any (n1 + n2) w (by omega))
  have m1 := Lib.hid s1.1
  have m2 := Lib.hid s2.1
  have hql := hQ.lt
  have q1 := hQ.cell (i := 0) rfl
  have q2 := hQ.cell (i := 1) rfl
  replace hQ := Lib.hid hQ
  replace s1 := Lib.hid s1
  replace s2 := Lib.hid s2
  have hw0 : ¬ (n1 : Int) < 0 := by omega
  have hw1 : ¬ (n1 : Int) + n2 < 0 := by omega
  have r1 : IntKind.i64.wrap ((n1 : Int) + n2) = (n1 : Int) + n2 := IntWalk.i64_in _ (by omega)
  go_enter Tryz.func45, Tryz.ntmps45
  go_wp2_with fail
  refine wp_loop_rounds 3 ?_
  rw [rounds_succ]
  go_wp2_with fail
  rw [rounds_succ]
  go_wp2_with fail
  rw [rounds_succ]
  go_wp2_with fail
  refine HG.out.mono ?_
  rintro e w1 ⟨v, rfl, hown, hb1⟩
  clear HG q1 q2
  have hQ1 := Blk.below hQ.out hb1
  have q1 := hQ1.cell (i := 0) rfl
  have q2 := hQ1.cell (i := 1) rfl
  have t1 := Lib.hid (s1.out.below hb1)
  have hz1 := hb1.size
  clear hQ1
  go_wp2_with fail
  refine wp_loop_rounds 3 ?_
  rw [rounds_succ]
  go_wp2_with (at_builtin; refine wpList_appE rfl _ _ rfl w.heap.size _ [] rfl hown A1 n1 c1 rfl t1.out ?c1 hz1 ?_)
  case c1 => have := m1.out; simp; omega
  intro v2 w2 hown2 hg2
  have hb2 : Below w.heap.size w w2 := hb1.grown hg2 hz1 (fun k h => (hown.lt k h).1)
  have hQ2 := Blk.below hQ.out hb2
  clear hown hg2 q1 q2
  have q2 := hQ2.cell (i := 1) rfl
  have t2 := Lib.hid (s2.out.below hb2)
  have hz2 := hb2.size
  clear hQ2
  go_wp2_with fail
  rw [rounds_succ]
  go_wp2_with (at_builtin; refine wpList_appE rfl _ _ rfl w.heap.size _ _ rfl hown2 A2 n2 c2 rfl t2.out ?d1 hz2 ?_)
  case d1 => have := m1.out; have := m2.out; simp; omega
  intro v3 w3 hown3 hg3
  have hb3 : Below w.heap.size w w3 := hb2.grown hg3 hz2 (fun k h => (hown2.lt k h).1)
  clear hown2 hg3 q2
  go_wp2_with fail
  rw [rounds_succ]
  go_wp2_with fail
  go_ret
  exact ⟨⟨v3, rfl, by simpa using hown3⟩, hb3⟩
end Go.Proofs.YtfpcalgkfagjkaaGreatDoor
