/- MediansMeet: the law. -/
import Derived.Test.YtfiocnjogbpgoaaGreatDoorKiMmA
import Derived.Test.YtfiocnjogbpgoaaGreatDoorKiRwA
namespace Go.Proofs.YtfiocnjogbpgoaaGreatDoor
open Go.RowKit
set_option linter.unusedVariables false
set_option linter.unusedSimpArgs false

/-- Rows that lie apart. -/
def DjM (a b : Value) : Prop := ∀ q, a.ownBlock = some q → b.ownBlock ≠ some q
theorem DjM.symm {a b : Value} (h : DjM a b) : DjM b a := fun q hb ha => h q ha hb
theorem DjM.gb {a b : Value} (h : DjM a b) : b.ownBlock = none ∨ b.ownBlock ≠ a.ownBlock := by
  cases hb : b.ownBlock with
  | none => exact .inl rfl
  | some k => exact .inr (fun e => h k e.symm hb)
theorem djM_app {a a' b : Value} {N : Nat} (h : DjM a b) (hb : ∀ k, b.ownBlock = some k → k < N) (ha : a'.ownBlock = a.ownBlock ∨ a'.ownBlock = some N) : DjM a' b := by
  intro q h1 h2
  rcases ha with e | e
  · exact h q (e.symm.trans h1) h2
  · rw [e] at h1
    have := hb q h2
    have := Option.some.inj h1
    omega
theorem fr_same (a b : Int) (w : World) : (Op.equalIn 10000 46 (.agg #[.int .i64 a, .int .i64 b]) (.agg #[.int .i64 a, .int .i64 b])).run Tryz.prog w = .ok true w := by
  rw [show (10000 : Nat) = 9999 + 1 from rfl, run_equalIn_agg w 9999 46 _ _ (by kernel_rfl) (by kernel_rfl)]
  simp only [Program.fieldsOf, Tryz.underlying46]
  go_simp
/-- A test of two fractions, as one step. -/
def eqFs (x y : Operand) (a b : Value) : Sem Next := do
  let v ← (do eqGuard .eql 46 x y a b; binOp .eql 46 a b)
  pure (.value v)
@[go_sem ↓ high] theorem execOp_eqFs' (ρ : Operand → Value) (dst : Option Tmp) (x y : Operand) (r ty : TypeId) (pos : String) (after : Array Edge) (guard : Option (Nat × Bool)) :
    execOp ρ ⟨dst, .binOp .eql 46 x y r, ty, pos, after, guard⟩ = eqFs x y (ρ x) (ρ y) := rfl
@[go_sem high] theorem execOp_eqFs (ρ : Operand → Value) (dst : Option Tmp) (x y : Operand) (r ty : TypeId) (pos : String) (after : Array Edge) (guard : Option (Nat × Bool)) :
    execOp ρ ⟨dst, .binOp .eql 46 x y r, ty, pos, after, guard⟩ = eqFs x y (ρ x) (ρ y) := rfl
@[go_sem] theorem run_eqFs (x y : Operand) (a b : Int) (w : World) : (eqFs x y (.agg #[.int .i64 a, .int .i64 b]) (.agg #[.int .i64 a, .int .i64 b])).run Tryz.prog w = .ok (.value (.bool true)) w := by
  unfold eqFs
  simp only [Sem.run_bind, run_eql_struct, fr_same, run_eqGuard_agg _ _ _ _ _ _ _ Tryz.eqGuardType46, Result.andThen_ok, Sem.run_pure]
theorem own_streamM {w w' : World} {B b : Nat} {v : Value} {zs : List Int} (h : OwnE eInt 3 B w v zs) (hg : w.grownBy w' (some b)) (hb : b < B) : OwnE eInt 3 B w' v zs :=
  h.gb hg (by
    cases hv : v.ownBlock with
    | none => exact .inl rfl
    | some k => exact .inr (by intro e; cases e; have := h.lt _ hv; omega))
theorem gb_ownM {w0 w y : World} {B b : Nat} {o : Obj} {v : Value} {zs : List Int} (hw : w0.grownBy w (some b)) (hB : w0.heap.size ≤ B) (hown : OwnE eInt 3 B w v zs) (hg : (w.alloc o).grownBy y v.ownBlock) : w0.grownBy y (some b) := by
  have hs := hg.size
  rw [World.size_alloc] at hs
  have h1 := hw.size
  refine ⟨hg.os.trans hw.os, hg.tape.trans hw.tape, hg.output.trans hw.output, by omega, fun i hi hne => ?_⟩
  rw [hg.block i (by rw [World.size_alloc]; omega) (fun e => by have := hown.lt i e.symm; omega), Below.heap_alloc _ _ _ (by omega)]
  exact hw.block i hi hne
theorem all_snocM {P : Int → Prop} {zs : List Int} {z : Int} (h : ∀ x ∈ zs, P x) (hz : P z) : ∀ x ∈ zs ++ [z], P x := by
  intro x hx
  rcases List.mem_append.1 hx with k | k
  · exact h x k
  · rw [List.mem_singleton.1 k]; exact hz
theorem up_snoc (c z : Int) (zs : List Int) : upI c (zs ++ [z]) = upI c zs ++ [z + c] := by simp [upI]
theorem numsF_ok {zs : List Int} (h1 : zs ≠ []) (h2 : zs.length ≤ 3000) (h3 : ∀ z ∈ zs, 0 ≤ z ∧ z ≤ 2000000000000) : numsF zs = 0 := by
  unfold numsF
  rw [if_neg h1, if_neg (by omega), if_pos (List.all_eq_true.2 fun z hz => okNum_iff.2 (h3 z hz))]
theorem count_take {p : Int → Bool} {l : List Int} {k : Nat} {x : Int} (h : l[k]? = some x) : (l.take (k + 1)).countP p = (l.take k).countP p + if p x then 1 else 0 := by
  rw [List.take_add_one, h, List.countP_append]
  simp [List.countP_cons]

set_option maxHeartbeats 8000000 in
set_option maxRecDepth 100000 in
theorem mediansMeet_walk (a : Option Addr) (len cap : Nat) (w : World) (hY : Rdy w) (hs : Str (w.alloc (.cells #[.slice a len cap, .int .i64 0] 25)) w.heap.size 1000) :
    Calls Tryz.prog 4 #[.slice a len cap] w fun e w' => e = .returned (.bool true) ∧ Below w.heap.size w w' := by
  have HR := Lib.hid (fun W (h : Below w.heap.size w W) => ready_any W (hY.below h))
  clear hY
  obtain ⟨w0, hw0⟩ : ∃ x, x = w.alloc (.cells #[.slice a len cap, .int .i64 0] 25) := ⟨_, rfl⟩
  have hB0 : Below w.heap.size w w0 := by rw [hw0]; exact (Below.refl _ _).alloc (Nat.le_refl _) _
  have hbl : w.heap.size < w0.heap.size := by rw [hw0]; simp
  rw [← hw0] at hs
  go_enter Tryz.func4, Tryz.ntmps4
  go_upto_region 3 with fail
  rw [← hw0]
  clear hw0
  go_wp2_with fail
  refine (range_any 0 1000 _ _ 990 (by decide) (by decide) (by decide) (hs.le (by omega))).mono ?_
  rintro e w1 ⟨c, ⟨hc1, hc2⟩, rfl, hs1, hg1⟩
  clear hs
  go_wp2_with fail
  refine (range_any 1 9 _ _ 980 (by decide) (by decide) (by decide) (hs1.le (by omega))).mono ?_
  rintro e w2 ⟨r, ⟨hr1, hr2⟩, rfl, hs2, hg2⟩
  obtain ⟨m, rfl⟩ := Int.eq_ofNat_of_zero_le (show 0 ≤ r by omega)
  have hm1 : 1 ≤ m := by omega
  have hm : m ≤ 9 := by omega
  replace hg2 := gb_trans hg1 hg2
  clear hr1 hr2 hs1 hg1
  go_wp2_with fail
  go_loopw [4, 5, 27] (fun vx vy vi wr => ∃ (k : Nat) (zs : List Int), k ≤ m ∧ vi = .int .i64 k ∧ OwnE eInt 3 w0.heap.size wr vx zs ∧ OwnE eInt 3 w0.heap.size wr vy (upI c zs) ∧ DjM vx vy ∧ Hid (zs.length = k ∧ ∀ z ∈ zs, 0 ≤ z ∧ z ≤ 50) ∧ Str wr w.heap.size (900 + (9 - k)) ∧ w0.grownBy wr (some w.heap.size)) (fun _ _ vi _ => m - (intOf vi).toNat)
  case atStart => exact ⟨0, [], Nat.zero_le _, rfl, OwnE.nil _ _, OwnE.nil _ _, (fun q h => by cases h), Lib.hid ⟨rfl, by simp⟩, hs2.le (by omega), hg2⟩
  case round =>
    clear hs2 hg2
    obtain ⟨k, zs, hk, rfl, hX, hYY, hD, hzl, hs1, hg1⟩ := hrel
    by_cases hlt : k < m
    · have hlt' : (k : Int) < m := by omega
      have hsz := hg1.size
      go_wp2_with fail
      refine (range_any 0 50 _ _ (900 + (9 - (k + 1))) (by decide) (by decide) (by decide) (hs1.le (by omega))).mono ?_
      rintro e w3 ⟨z, ⟨hz1, hz2⟩, rfl, hs3, hg3⟩
      have hX3 := own_streamM hX hg3 hbl
      have hY3 := own_streamM hYY hg3 hbl
      have hg4 := gb_trans hg1 hg3
      have hsz3 := hg4.size
      clear hX hYY hs1 hg1 hg3
      obtain ⟨A', c', rfl, _⟩ := hX3.sl
      obtain ⟨A2, c2, rfl, _⟩ := hY3.sl
      have hwr : IntKind.i64.wrap (z + c) = z + c := IntWalk.i64_in _ (by omega)
      go_wp2_with (at_builtin; refine wpList_app tyeInt rfl _ _ rfl w0.heap.size _ zs [z] rfl (hX3.below ((Below.refl _ _).alloc (Nat.le_refl _) _)) ⟨_, 0, none⟩ 1 1 rfl rfl ?d1 ?d2 ?d3 ?_)
      case d1 => intro j u hj; first | exact hj | (rw [Enc.cells_single] at hj; rw [Addr.add_lit, Nat.zero_add]; exact (Blk.new w3 [.int .i64 z] 3).cell hj)
      case d2 => have := hzl.out.1; simp only [List.length_singleton]; omega
      case d3 => simp; omega
      intro v' w4 hX4 hga hva
      have hYa := (hY3.below ((Below.refl _ _).alloc (Nat.le_refl _) (.cells #[.int .i64 z] 3))).gb hga hD.gb
      have hDa := djM_app hD (fun q h => by have := (hY3.lt q h).2; simp; omega) hva
      have hg5 := gb_ownM hg4 (Nat.le_refl _) hX3 hga
      have hs5 : Str w4 w.heap.size (900 + (9 - (k + 1))) := hs3.upto fun j hj => (hga.block j (by simp; omega) (fun e => by have := hX3.lt j e.symm; omega)).trans (Below.heap_alloc _ _ _ (by omega))
      have hsz5 := hg5.size
      clear hX3 hY3 hD hga hva hg4 hs3 hsz3
      replace hX4 := Lib.hid hX4
      replace hDa := Lib.hid hDa
      replace hg5 := Lib.hid hg5
      go_wp2_with (at_builtin; refine wpList_app tyeInt rfl _ _ rfl w0.heap.size _ (upI c zs) [z + c] rfl (hYa.below ((Below.refl _ _).alloc (Nat.le_refl _) _)) ⟨_, 0, none⟩ 1 1 rfl rfl ?d4 ?d5 ?d6 ?_)
      case d4 => intro j u hj; first | exact hj | (rw [Enc.cells_single] at hj; rw [Addr.add_lit, Nat.zero_add]; exact (Blk.new w4 [.int .i64 (z + c)] 3).cell hj)
      case d5 => have := hzl.out.1; rw [up_len]; simp only [List.length_singleton]; omega
      case d6 => simp; omega
      intro v2 w5 hY6 hga hva
      have hX6 := (hX4.out.below ((Below.refl _ _).alloc (Nat.le_refl _) (.cells #[.int .i64 (z + c)] 3))).gb hga hDa.out.symm.gb
      have hD6 := (djM_app hDa.out.symm (fun q h => by have := (hX4.out.lt q h).2; simp; omega) hva).symm
      have hg7 := gb_ownM hg5.out (Nat.le_refl _) hYa hga
      have hs7 : Str w5 w.heap.size (900 + (9 - (k + 1))) := hs5.upto fun j hj => (hga.block j (by simp; omega) (fun e => by have := hYa.lt j e.symm; omega)).trans (Below.heap_alloc _ _ _ (by omega))
      rw [← up_snoc] at hY6
      have hzl2 := Lib.hid (show (zs ++ [z]).length = k + 1 ∧ ∀ x ∈ zs ++ [z], 0 ≤ x ∧ x ≤ 50 from ⟨by rw [List.length_append, hzl.out.1]; rfl, all_snocM hzl.out.2 ⟨hz1, hz2⟩⟩)
      replace hX6 := Lib.hid hX6
      replace hY6 := Lib.hid hY6
      replace hD6 := Lib.hid hD6
      replace hg7 := Lib.hid hg7
      clear hX4 hDa hg5 hYa hga hva hs5 hsz5
      go_wp2_with fail
      go_roundw
      case rel => exact ⟨k + 1, zs ++ [z], by omega, by go_num, hX6.out, hY6.out, hD6.out, hzl2, hs7, hg7.out⟩
      case measure => simp [intOf]; omega
    · have hkn : k = m := by omega
      subst hkn
      have hb : Below w.heap.size w wr := hB0.trans (gb_toBelow hg1 (Nat.le_refl _) (by omega))
      obtain ⟨A1, c1, rfl, hS1⟩ := hX.sl
      obtain ⟨A2, c2, hv2, hS2⟩ := hYY.sl
      rw [up_len] at hv2 hS2
      subst hv2
      have hne : zs ≠ [] := by
        intro e
        have := hzl.out.1
        rw [e] at this
        simp at this
        omega
      have hN := numsF_ok hne (by have := hzl.out.1; omega) (fun z hz => by have := hzl.out.2 z hz; omega)
      have hune : upI c zs ≠ [] := by
        intro e
        have := up_len c zs
        rw [e] at this
        exact hne (List.eq_nil_of_length_eq_zero this.symm)
      have hN2 := numsF_ok hune (by rw [up_len]; have := hzl.out.1; omega) (fun z hz => by
        obtain ⟨y, hy, rfl⟩ := List.mem_map.1 hz
        have := hzl.out.2 y hy
        omega)
      have hT := twice_bound hne hzl.out.2
      have hfr1 := frac_two hT.1
      have hfr2 := frac_two (t := twiceI zs + 2 * c) (by omega)
      have h1 := median_any A1 zs.length c1 zs wr hS1 (by have := hzl.out.1; omega)
      have h2 := fun W h => median_any A2 zs.length c2 (upI c zs) W h (by have := hzl.out.1; omega)
      have h3 := fun W h => spread_any A1 zs.length c1 zs W h (by have := hzl.out.1; omega)
      have h4 := fun W h => spread_any A2 zs.length c2 (upI c zs) W h (by have := hzl.out.1; omega)
      rw [twice_up c hne, hN2] at h2
      rw [four_up c hne, hN2] at h4
      rw [hN] at h1 h3
      unfold medV at h1 h2 h3 h4
      rw [if_pos rfl] at h1 h2 h3 h4
      rw [hfr1] at h1
      rw [hfr2, num_up, den_up] at h2
      obtain ⟨x2, y2, hxy2⟩ : ∃ x y, fracV (fourI zs).toNat 4 = .agg #[.int .i64 x, .int .i64 y] := ⟨_, _, rfl⟩
      rw [hxy2] at h3 h4
      have hnb := num_bound hT.1 hT.2
      have hdp := den_pos (twiceI zs)
      have hless := less_num (twiceI zs)
      have hmore := more_num (twiceI zs)
      have hbh := below_half hne
      have hah := above_half hne
      obtain ⟨L, hL⟩ : ∃ L, L = zs.length := ⟨_, rfl⟩
      have hL9 : L ≤ 9 := by have := hzl.out.1; omega
      rw [← hL] at h1 h2 h3 h4 hS1 hS2 hbh hah ⊢
      generalize hTT : twiceI zs = TT at *
      obtain ⟨NN, hNN⟩ : ∃ x, x = numI TT := ⟨_, rfl⟩
      obtain ⟨DD, hDD⟩ : ∃ x, x = denI TT := ⟨_, rfl⟩
      rw [← hNN, ← hDD] at h1 h2
      rw [← hNN] at hnb hless hmore
      rw [← hDD] at hdp hless hmore
      replace h1 := Lib.hid h1
      replace h2 := Lib.hid h2
      replace h3 := Lib.hid h3
      replace h4 := Lib.hid h4
      replace hless := Lib.hid hless
      replace hmore := Lib.hid hmore
      replace hbh := Lib.hid hbh
      replace hah := Lib.hid hah
      replace hL := Lib.hid hL
      clear hN hN2 hne hune hfr1 hfr2 hxy2 hX hYY hD hg1 hs1 hTT hNN hDD hT hm1 hm
      go_wp2_with fail
      refine (h1.out).mono ?_
      rintro e wa ⟨rfl, hv⟩
      replace hS1 := hS1.below hv
      replace hS2 := hS2.below hv
      replace hb := hb.trans (hv.mono hb.size)
      obtain ⟨pa, hpa⟩ : ∃ p, p = wa.heap.size := ⟨_, rfl⟩
      have hXa := Blk.new wa [.int .i64 NN, .int .i64 DD] 46
      have hvA : Below wa.heap.size wa (wa.alloc (.cells [Value.int .i64 NN, .int .i64 DD].toArray 46)) := (Below.refl _ _).alloc (Nat.le_refl _) _
      replace hS1 := hS1.below hvA
      replace hS2 := hS2.below hvA
      replace hb := hb.trans (hvA.mono hb.size)
      rw [← hpa] at hXa
      clear hv hvA
      go_wp2_with fail
      rw [← hpa]
      clear hpa
      refine (h2.out _ hS2).mono ?_
      rintro e wb ⟨rfl, hv⟩
      replace hS1 := hS1.below hv
      replace hS2 := hS2.below hv
      replace hXa := hXa.below hv
      replace hb := hb.trans (hv.mono hb.size)
      obtain ⟨pb, hpb⟩ : ∃ p, p = wb.heap.size := ⟨_, rfl⟩
      have hXb := Blk.new wb [.int .i64 (NN + c * DD), .int .i64 DD] 46
      have hvA : Below wb.heap.size wb (wb.alloc (.cells [Value.int .i64 (NN + c * DD), .int .i64 DD].toArray 46)) := (Below.refl _ _).alloc (Nat.le_refl _) _
      replace hS1 := hS1.below hvA
      replace hS2 := hS2.below hvA
      replace hXa := hXa.below hvA
      replace hb := hb.trans (hvA.mono hb.size)
      rw [← hpb] at hXb
      clear hv hvA
      go_wp2_with fail
      rw [← hpb]
      clear hpb
      refine (h3.out _ hS1).mono ?_
      rintro e wc ⟨rfl, hv⟩
      replace hS1 := hS1.below hv
      replace hS2 := hS2.below hv
      replace hXa := hXa.below hv
      replace hXb := hXb.below hv
      replace hb := hb.trans (hv.mono hb.size)
      obtain ⟨pc, hpc⟩ : ∃ p, p = wc.heap.size := ⟨_, rfl⟩
      have hXc := Blk.new wc [.int .i64 x2, .int .i64 y2] 46
      have hvA : Below wc.heap.size wc (wc.alloc (.cells [Value.int .i64 x2, .int .i64 y2].toArray 46)) := (Below.refl _ _).alloc (Nat.le_refl _) _
      replace hS1 := hS1.below hvA
      replace hS2 := hS2.below hvA
      replace hXa := hXa.below hvA
      replace hXb := hXb.below hvA
      replace hb := hb.trans (hvA.mono hb.size)
      rw [← hpc] at hXc
      clear hv hvA
      go_wp2_with fail
      rw [← hpc]
      clear hpc
      refine (h4.out _ hS2).mono ?_
      rintro e wd ⟨rfl, hv⟩
      replace hS1 := hS1.below hv
      replace hS2 := hS2.below hv
      replace hXa := hXa.below hv
      replace hXb := hXb.below hv
      replace hXc := hXc.below hv
      replace hb := hb.trans (hv.mono hb.size)
      obtain ⟨pd, hpd⟩ : ∃ p, p = wd.heap.size := ⟨_, rfl⟩
      have hXd := Blk.new wd [.int .i64 x2, .int .i64 y2] 46
      have hvA : Below wd.heap.size wd (wd.alloc (.cells [Value.int .i64 x2, .int .i64 y2].toArray 46)) := (Below.refl _ _).alloc (Nat.le_refl _) _
      replace hS1 := hS1.below hvA
      replace hS2 := hS2.below hvA
      replace hXa := hXa.below hvA
      replace hXb := hXb.below hvA
      replace hXc := hXc.below hvA
      replace hb := hb.trans (hvA.mono hb.size)
      rw [← hpd] at hXd
      clear hv hvA
      clear h1 h2 h3 h4 hS2
      have a0 := hXa.cell (i := 0) rfl
      have a1 := hXa.cell (i := 1) rfl
      have hD1 : ¬ DD < 1 := by omega
      have hD2 : decide (DD < 1) = false := decide_eq_false hD1
      go_wp2_with fail
      rw [← hpd]
      clear hpd
      generalize wd.alloc (.cells #[.int .i64 x2, .int .i64 y2] 46) = we at *
      have hmb : ∀ z ∈ zs, (0 ≤ z * DD ∧ z * DD ≤ 100) := fun z hz => by
        have h := hzl.out.2 z hz
        rcases (show DD = 1 ∨ DD = 2 by omega) with e | e <;> rw [e] <;> omega
      replace hmb := Lib.hid hmb
      go_loopw [16, 17, 83] (fun vb va vi wr2 => ∃ (j cb ca : Nat), j ≤ L ∧ vi = .int .i64 j ∧ vb = .int .i64 cb ∧ va = .int .i64 ca ∧ Hid (cb = (zs.take j).countP (lessB TT) ∧ ca = (zs.take j).countP (moreB TT)) ∧ wr2 = we) (fun _ _ vi _ => L - (intOf vi).toNat)
      case atStart => exact ⟨0, 0, 0, Nat.zero_le _, rfl, rfl, rfl, Lib.hid ⟨by simp, by simp⟩, rfl⟩
      case round =>
        obtain ⟨j, cb, ca, hj, rfl, rfl, rfl, hcnt, rfl⟩ := hrel
        have hcb : cb ≤ 9 ∧ ca ≤ 9 := by
          have h1 : (zs.take j).length ≤ 9 := by rw [List.length_take]; have := hL.out; omega
          have h2 := List.countP_le_length (p := lessB TT) (l := zs.take j)
          have h3 := List.countP_le_length (p := moreB TT) (l := zs.take j)
          have := hcnt.out
          omega
        by_cases hlt2 : j < L
        · obtain ⟨z, hzj⟩ : ∃ z, zs[j]? = some z := ⟨zs[j]'(by have := hL.out; omega), List.getElem?_eq_getElem _⟩
          obtain ⟨g, off, rfl, hg, cz⟩ := hS1.num hzj
          have hlt3 : (j : Int) < L := by omega
          have hzd := hmb.out z (List.mem_of_getElem? hzj)
          have hwz : IntKind.i64.wrap (z * DD) = z * DD := IntWalk.i64_in _ (by omega)
          have hwb : IntKind.i64.wrap ((cb : Int) + 1) = (cb : Int) + 1 := IntWalk.i64_in _ (by omega)
          have hwa : IntKind.i64.wrap ((ca : Int) + 1) = (ca : Int) + 1 := IntWalk.i64_in _ (by omega)
          have hk1 := count_take (p := lessB TT) hzj
          have hk2 := count_take (p := moreB TT) hzj
          rw [← hcnt.out.1] at hk1
          rw [← hcnt.out.2] at hk2
          have hl1 := hless.out z
          have hm1 := hmore.out z
          unfold lessB at hk1
          unfold moreB at hk2
          have hcap := hS1.2.1
          by_cases h1 : z * DD < NN
          · have h2 : ¬ NN < z * DD := by omega
            rw [decide_eq_true (hl1.1 h1), if_pos rfl] at hk1
            rw [decide_eq_false (fun h => h2 (hm1.2 h)), if_neg (by decide)] at hk2
            replace hk1 := Lib.hid hk1
            replace hk2 := Lib.hid hk2
            clear hl1 hm1 hzj hzd
            go_wp2_with fail
            go_roundw
            case rel => exact ⟨j + 1, cb + 1, ca, by omega, by go_num, by go_num, rfl, Lib.hid ⟨hk1.out.symm, hk2.out.symm⟩, trivial⟩
            case measure => simp [intOf]; omega
          · by_cases h2 : NN < z * DD
            · rw [decide_eq_false (fun h => h1 (hl1.2 h)), if_neg (by decide)] at hk1
              rw [decide_eq_true (hm1.1 h2), if_pos rfl] at hk2
              replace hk1 := Lib.hid hk1
              replace hk2 := Lib.hid hk2
              clear hl1 hm1 hzj hzd
              go_wp2_with fail
              go_roundw
              case rel => exact ⟨j + 1, cb, ca + 1, by omega, by go_num, rfl, by go_num, Lib.hid ⟨hk1.out.symm, hk2.out.symm⟩, trivial⟩
              case measure => simp [intOf]; omega
            · rw [decide_eq_false (fun h => h1 (hl1.2 h)), if_neg (by decide)] at hk1
              rw [decide_eq_false (fun h => h2 (hm1.2 h)), if_neg (by decide)] at hk2
              replace hk1 := Lib.hid hk1
              replace hk2 := Lib.hid hk2
              clear hl1 hm1 hzj hzd
              go_wp2_with fail
              go_roundw
              case rel => exact ⟨j + 1, cb, ca, by omega, by go_num, rfl, rfl, Lib.hid ⟨hk1.out.symm, hk2.out.symm⟩, trivial⟩
              case measure => simp [intOf]; omega
        · have hjL : j = L := by omega
          subst hjL
          have htk : zs.take j = zs := List.take_of_length_le (by have := hL.out; omega)
          have hc1 : (2 : Int) * cb ≤ j := by have := hcnt.out.1; rw [htk] at this; have := hbh.out; omega
          have hc2 : (2 : Int) * ca ≤ j := by have := hcnt.out.2; rw [htk] at this; have := hah.out; omega
          have hcd : 0 ≤ c * DD ∧ c * DD ≤ 2000 := by
            rcases (show DD = 1 ∨ DD = 2 by omega) with e | e <;> rw [e] <;> omega
          have w1 : IntKind.i64.wrap (2 * (cb : Int)) = 2 * (cb : Int) := IntWalk.i64_in _ (by omega)
          have w2 : IntKind.i64.wrap (2 * (ca : Int)) = 2 * (ca : Int) := IntWalk.i64_in _ (by omega)
          have w3 : IntKind.i64.wrap (c * DD) = c * DD := IntWalk.i64_in _ (by omega)
          have w4 : IntKind.i64.wrap (NN + c * DD) = NN + c * DD := IntWalk.i64_in _ (by omega)
          have b0 := hXb.cell (i := 0) rfl
          have b1 := hXb.cell (i := 1) rfl
          have c0 := hXc.cell (i := 0) rfl
          have c1' := hXc.cell (i := 1) rfl
          have d0 := hXd.cell (i := 0) rfl
          have d1 := hXd.cell (i := 1) rfl
          clear htk hcnt hXa hXb hXc hXd hS1 hcb
          go_wp2_with fail
          refine (HR.out _ hb).mono ?_
          rintro e wf ⟨rfl, hv⟩
          replace hb := hb.trans (hv.mono hb.size)
          clear hv
          go_wp2_with fail
          go_ret
          exact ⟨rfl, hb⟩
end Go.Proofs.YtfiocnjogbpgoaaGreatDoor
