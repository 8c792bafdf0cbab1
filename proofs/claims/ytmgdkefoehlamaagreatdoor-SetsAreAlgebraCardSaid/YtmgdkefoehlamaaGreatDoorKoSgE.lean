/- SetsAreAlgebra: sets that are told by three. -/
import Derived.Test.YtmgdkefoehlamaaGreatDoorKoGzA
import Derived.Test.YtmgdkefoehlamaaGreatDoorKoSwH
import Derived.Test.YtmgdkefoehlamaaGreatDoorKoSgC
import Derived.Test.YtmgdkefoehlamaaGreatDoorKoWaysB
import Derived.Test.YtmgdkefoehlamaaGreatDoorKoStT
import Derived.Test.YtmgdkefoehlamaaGreatDoorKoSvE
import Derived.Test.YtmgdkefoehlamaaGreatDoorKoStY
import Derived.Test.YtmgdkefoehlamaaGreatDoorKoSwC
set_option linter.unusedVariables false
set_option linter.unusedSimpArgs false
set_option maxRecDepth 100000
namespace Go.Proofs.YtmgdkefoehlamaaGreatDoor
open Go.RowKit

section
variable (ρ : Operand → Value) (dst : Option Tmp) (x y : Operand) (ty : TypeId) (pos : String) (after : Array Edge) (guard : Option (Nat × Bool))
@[go_sem ↓ high] theorem execOp_stC : execOp ρ ⟨dst, .store 125 x y, ty, pos, after, guard⟩ = stT 125 (ρ x) (ρ y) := rfl
@[go_sem high] theorem execOp_stC' : execOp ρ ⟨dst, .store 125 x y, ty, pos, after, guard⟩ = stT 125 (ρ x) (ρ y) := rfl
end
theorem cntC_len (C : Nat) : (cntC C).length = 3 := rfl
theorem cntC_one (C : Nat) : ∀ v ∈ cntC C, v.oneCell' = true := by
  intro v hv
  unfold cntC at hv
  simp only [List.mem_cons, List.not_mem_nil, or_false] at hv
  rcases hv with rfl | rfl | rfl <;> rfl
def freeN (p : Pf) : Nat := (lenZ p.1.s - p.2).toNat
def sizeN (ps : List Pf) : Nat := (ps.map fun p => 2 ^ freeN p).sum
theorem freeN_le {p : Pf} (h : p.R) : freeN p ≤ 128 ∧ ((freeN p : Nat) : Int) = lenZ p.1.s - p.2 := by
  obtain ⟨_, h1, h2, _⟩ := h
  unfold freeN
  have : lenZ p.1.s ≤ 128 := by unfold lenZ; split <;> decide
  omega
theorem sizeN_le : ∀ {ps : List Pf}, (∀ p ∈ ps, p.R) → sizeN ps ≤ ps.length * 2 ^ 128
  | [], _ => Nat.le_refl _
  | p :: r, h => by
    have h1 := sizeN_le (ps := r) (fun q hq => h q (List.mem_cons_of_mem _ hq))
    have h2 : 2 ^ freeN p ≤ 2 ^ 128 := Nat.pow_le_pow_right (by decide) (freeN_le (h p List.mem_cons_self)).1
    unfold sizeN at *
    rw [List.map_cons, List.sum_cons, List.length_cons, Nat.add_mul]
    omega
theorem sizeN_step {ps : List Pf} {k : Nat} {p : Pf} (h : ps[k]? = some p) : sizeN (ps.take (k + 1)) = sizeN (ps.take k) + 2 ^ freeN p := by
  unfold sizeN
  rw [List.take_add_one, h, List.map_append, List.sum_append]
  simp
noncomputable def sizeV (ps : List Pf) : Value := if setF ps = 0 then .tuple #[.string (decS (sizeN ps)), .int .i64 0] else .tuple #[.string ByteArray.empty, .int .i64 (setF ps)]
set_option maxHeartbeats 4000000 in
theorem size_any (A : Option Addr) (n cap : Nat) (ps : List Pf) (w : World) (hS : SlE ePf w A n cap ps) (hn : n ≤ 1000) (hU : ∀ p ∈ ps, p.U) :
    Calls Tryz.prog 41 #[.slice A n cap] w (GivesV (sizeV ps) w) := by
  have HC := checkSet_any A n cap ps w hS hn hU
  have hpl := Lib.hid hS.1
  by_cases h0 : setF ps = 0
  · have hV : sizeV ps = .tuple #[.string (decS (sizeN ps)), .int .i64 0] := by unfold sizeV; rw [if_pos h0]
    rw [hV]
    rw [h0] at HC
    have hR := Lib.hid (setF_ok hU h0)
    replace hS := Lib.hid hS
    replace HC := Lib.hid HC
    clear hU h0 hV
    have z0 : cntC 0 = [.int .u64 0, .int .u64 0, .int .u64 0] := rfl
    go_enter Tryz.func41, Tryz.ntmps41
    go_wp2_with fail
    refine HC.out.mono ?_
    rintro e w1 ⟨rfl, hb1⟩
    clear HC
    obtain ⟨c, hc⟩ : ∃ c, c = w1.heap.size := ⟨_, rfl⟩
    have hcw := Lib.hid (show w.heap.size ≤ c by rw [hc]; exact hb1.size)
    have hD := Blk.new w1 (cntC 0) 125
    have hbw := hb1.alloc hb1.size (.cells (cntC 0).toArray 125)
    rw [z0] at hD hbw
    rw [← hc] at hD
    clear hb1 z0
    go_wp2_with fail
    rw [← hc]
    replace hc := Lib.hid hc
    generalize World.alloc w1 _ = W at *
    clear hc
    go_loopw [15] (fun i wr => ∃ (k X : Nat), k ≤ n ∧ i = .int .i64 k ∧ Hid (X = sizeN (ps.take k)) ∧ Blk wr c (cntC X) 125 ∧ Below w.heap.size w wr) (fun i _ => n - (intOf i).toNat)
    case atStart => exact ⟨0, 0, by omega, rfl, Lib.hid rfl, hD, hbw⟩
    case round =>
      clear hD hbw
      obtain ⟨k, X, hk, rfl, hX, hD, hbw⟩ := hrel
      by_cases hlt : k < n
      · obtain ⟨p, hp⟩ : ∃ p, ps[k]? = some p := ⟨ps[k]'(by have := hpl.out; omega), List.getElem?_eq_getElem _⟩
        obtain ⟨g0, off, rfl, hg0, hc0⟩ := hS.out.at' hlt
        have hld := SlE.ld rowPf (hS.out.below hbw) hp
        replace hld : (ldT 40 (.pointer (some ⟨g0, off + k * 4, none⟩))).run Tryz.prog wr = .ok (.value (pfA p)) wr := hld
        have hpR := hR.out p (List.mem_of_getElem? hp)
        have hlt' : (k : Int) < n := by omega
        have hsw := hbw.size
        have S1 := stT_new rowPf (te := 40) wr wr.heap.size rfl [.bool false, .int .u64 0, .int .u64 0, .int .i64 0] (pfC p) rfl rfl (pfC_one p)
        obtain ⟨f1, f2⟩ := freeN_le hpR
        have hXb : X + 2 ^ freeN p < 2 ^ 192 := by
          have h1 : sizeN (ps.take (k + 1)) = X + 2 ^ freeN p := by rw [sizeN_step hp, hX.out]
          have h2 := sizeN_le (ps := ps.take (k + 1)) (fun q hq => hR.out q (List.mem_of_mem_take hq))
          have h3 : (ps.take (k + 1)).length ≤ 1000 := by rw [List.length_take]; have := hpl.out; omega
          have h4 := Nat.mul_le_mul_right (2 ^ 128) h3
          omega
        have hX2 := Lib.hid (show X + 2 ^ freeN p = sizeN (ps.take (k + 1)) by rw [sizeN_step hp, hX.out])
        have HPL := fun w' => Lib.hid (plusC_any X (freeN p) w' f1 hXb)
        rw [f2] at HPL
        have hcD := hD.lt
        have e64 : IntKind.i64.wrap (lenZ p.1.s - p.2) = lenZ p.1.s - p.2 := IntWalk.i64_in _ (by omega)
        replace hX2 : Hid (X + 2 ^ freeN p = _) := hX2
        generalize 2 ^ freeN p = e at *
        clear hc0 hp hX hpR f1 f2 hXb
        have hC := Blk.new wr (pfC p) 40
        replace hD := hD.alloc (.cells (pfC p).toArray 40)
        replace hbw := hbw.alloc hsw (.cells (pfC p).toArray 40)
        go_wp2_with fail
        clear S1 hld
        refine wb_begin ([c, wr.heap.size]) [9] (by kernel_rfl) (fun u0 hb0' hz0' => ?_)
        replace hC := hC.below hb0'
        replace hD := hD.below hb0'
        replace hbw := hbw.trans (hb0'.mono hbw.size)
        clear hb0' hz0'
        refine wb_takeZ 0 (some 19) (v := ?_) ?_ ?_; rotate_left; · (intro u hu; have kc := hC.kb hu (by simp); have kd := hD.kb hu (by simp); have q0 := kc.cell (i := 0) (v := .bool p.1.s) rfl; have q3 := kc.cell (i := 3) (v := .int .i64 p.2) rfl; have q5 := kd.ld rowCnt rfl; clear kc kd; go_simp; try with_reducible rfl)
        try simp only [Act.put, gzD, gzE, gzF]
        refine wb_pureZ 1 (some 20) (v := ?_) ?_ ?_; rotate_left; · (intro u; go_simp; try with_reducible rfl)
        try simp only [Act.put, gzD, gzE, gzF]
        refine wb_pureZ 2 (some 21) (v := ?_) ?_ ?_; rotate_left; · (intro u; go_simp; try with_reducible rfl)
        try simp only [Act.put, gzD, gzE, gzF]
        refine wb_takeZ 3 (some 22) (v := ?_) ?_ ?_; rotate_left; · (intro u hu; have kc := hC.kb hu (by simp); have kd := hD.kb hu (by simp); have q0 := kc.cell (i := 0) (v := .bool p.1.s) rfl; have q3 := kc.cell (i := 3) (v := .int .i64 p.2) rfl; have q5 := kd.ld rowCnt rfl; clear kc kd; go_simp; try with_reducible rfl)
        try simp only [Act.put, gzD, gzE, gzF]
        refine wb_pureZ 5 (some 24) (v := ?_) ?_ ?_; rotate_left; · (intro u; go_simp; try with_reducible rfl)
        try simp only [Act.put, gzD, gzE, gzF]
        refine wb_takeZ 6 (some 25) (v := ?_) ?_ ?_; rotate_left; · (intro u hu; have kc := hC.kb hu (by simp); have kd := hD.kb hu (by simp); have q0 := kc.cell (i := 0) (v := .bool p.1.s) rfl; have q3 := kc.cell (i := 3) (v := .int .i64 p.2) rfl; have q5 := kd.ld rowCnt rfl; clear kc kd; go_simp; try with_reducible rfl)
        try simp only [Act.put, gzD, gzE, gzF]
        refine wb_oneZ 4 (fun K hK => ?_)
        go_simp
        refine (spanLength_any _ _).mono ?_
        rintro e u3 ⟨rfl, rfl⟩
        refine hK _ _ (Kb.refl _ _) ?_
        clear hK K
        try simp only [Act.put, gzD, gzE, gzF]
        refine wb_pureZ 7 (some 26) (v := ?_) ?_ ?_; rotate_left; · (intro u; go_simp; try with_reducible rfl)
        try simp only [Act.put, gzD, gzE, gzF]
        refine wb_oneZ 8 (fun K hK => ?_)
        go_simp
        refine (HPL _).out.mono ?_
        rintro e u4 ⟨rfl, hv1⟩
        refine hK _ _ (Kb.below hv1 (by intro q hq; simp only [List.mem_cons, List.not_mem_nil, or_false] at hq; rcases hq with rfl | rfl <;> first | exact hD.lt | exact hC.lt)) ?_
        replace hC := hC.below hv1
        replace hD := hD.below hv1
        replace hbw := hbw.trans (hv1.mono hbw.size)
        clear hK K hv1
        try simp only [Act.put, gzD, gzE, gzF]
        refine wb_store (i := 9) (by simp only [gzA, gzB, gzC] <;> rfl) (by kernel_rfl) (by rfl) (by kernel_rfl) (fun K hK => ?_)
        go_simp
        have S9 : (stT 125 (.pointer (some ⟨c, 0, none⟩)) (cntA (X + e))).run Tryz.prog _ = _ := stT_row rowCnt hD rfl (cntC_len (X + 2 ^ e)) (cntC_one _)
        go_simp
        refine hK _ _ ?_
        replace hbw := below_row hbw hcw.out (cntC (X + e)).toArray
        replace hD := hD.row (cntC (X + e))
        clear hK K S9 hC
        try simp only [Act.put, gzD, gzE, gzF]
        refine wb_done (by kernel_rfl) ?_ _
        go_wp2_with fail
        go_roundw
        case rel => exact ⟨k + 1, _, by omega, by go_num, hX2, hD, hbw⟩
        case measure => simp [intOf]; omega
      · have hkn : k = n := by omega
        have hl := hD.ld rowCnt rfl
        have hXn : X = sizeN ps := by rw [hX.out, List.take_of_length_le (by have := hpl.out; omega)]
        have hXb : X < 2 ^ 192 := by
          have h2 := sizeN_le hR.out
          have h3 : ps.length ≤ 1000 := by have := hpl.out; omega
          have h4 := Nat.mul_le_mul_right (2 ^ 128) h3
          omega
        have HT := fun w' => Lib.hid (countText_any X w' hXb)
        have hnk : ¬ (k : Int) < n := by omega
        rw [hXn] at HT hl
        clear hX hXb hXn hlt
        go_wp2_with fail
        refine (HT _).out.mono ?_
        rintro e w2 ⟨rfl, hb2⟩
        replace hbw := hbw.trans (hb2.mono hbw.size)
        clear hb2 hl HT hD
        go_wp2_with fail
        go_ret2
        exact ⟨rfl, hbw⟩
  · have hV : sizeV ps = .tuple #[.string ByteArray.empty, .int .i64 (setF ps)] := by unfold sizeV; rw [if_neg h0]
    rw [hV]
    replace HC := Lib.hid HC
    have hb : (setF ps == 0) = false := by simp [h0]
    generalize setF ps = z at *
    clear hV hU hS
    go_enter Tryz.func41, Tryz.ntmps41
    go_wp2_with fail
    refine HC.out.mono ?_
    rintro e w1 ⟨rfl, hb1⟩
    clear HC
    go_wp2_with fail
    go_ret2
    exact ⟨rfl, hb1⟩

structure RtS (ps : List Pf) : Prop where
  f : setF ps = 0
  r : ∀ p ∈ ps, p.R
  t : TlS ps
theorem RtS.u {ps : List Pf} (h : RtS ps) : ∀ p ∈ ps, p.U := fun p hp => (h.r p hp).u
theorem inS_val {ps : List Pf} (hR : ∀ p ∈ ps, p.R) {m : Nat} (h : inS ps m = true) : Val m :=
  inA_val (xs := ps.map rgP) (fun x hx => by obtain ⟨p, hp, rfl⟩ := List.mem_map.1 hx; exact rgP_R (hR p hp)) ((inS_iff hR m).1 h)
theorem RtS.ext {a b : List Pf} (ha : RtS a) (hb : RtS b) (h : ∀ m, Val m → inS a m = inS b m) : a = b := by
  obtain ⟨zs, hz, e1⟩ := ha.t
  obtain ⟨ws, hw, e2⟩ := hb.t
  have hall : ∀ m, inS a m = inS b m := fun m => by
    rw [Bool.eq_iff_iff]
    constructor
    · intro k; rw [← h m (inS_val ha.r k)]; exact k
    · intro k; rw [h m (inS_val hb.r k)]; exact k
  have he : zs = ws := hz.unique hw (fun m => by rw [← inS_iff ha.r, ← inS_iff hb.r, hall m])
  rw [e1, e2, he]
theorem cmb_rt {k : Bool → Bool → Bool} {xs ys ps : List Pf} (h : CmbS k xs ys ps) : RtS ps ∧ ∀ m, Val m → inS ps m = k (inS xs m) (inS ys m) := by
  obtain ⟨g1, g2, g3⟩ := cmb_good h
  exact ⟨⟨g1, g2, cmb_tl h⟩, g3⟩

def cntB (f : Nat → Bool) : Nat → Nat
  | 0 => 0
  | n + 1 => cntB f n + (if f n = true then 1 else 0)
theorem cntB_congr {f g : Nat → Bool} : ∀ N, (∀ m, m < N → f m = g m) → cntB f N = cntB g N
  | 0, _ => rfl
  | n + 1, h => by rw [cntB, cntB, cntB_congr n (fun m hm => h m (by omega)), h n (by omega)]
theorem cntB_two (f g : Nat → Bool) : ∀ N, cntB (fun m => f m || g m) N + cntB (fun m => f m && g m) N = cntB f N + cntB g N
  | 0 => rfl
  | n + 1 => by
    have ih := cntB_two f g n
    rw [cntB, cntB, cntB, cntB]
    cases f n <;> cases g n <;> simp <;> omega
theorem cntB_none : ∀ N, cntB (fun _ => false) N = 0
  | 0 => rfl
  | n + 1 => by rw [cntB, cntB_none n]; rfl
theorem cntB_le (f : Nat → Bool) : ∀ N, cntB f N ≤ N
  | 0 => Nat.le_refl _
  | n + 1 => by have := cntB_le f n; rw [cntB]; split <;> omega
theorem cntB_iv (a s : Nat) : ∀ N, cntB (fun m => decide (a ≤ m ∧ m < a + s)) N = min (N - a) s
  | 0 => by rw [cntB]; omega
  | n + 1 => by
    rw [cntB, cntB_iv a s n]
    by_cases h : a ≤ n ∧ n < a + s
    · rw [if_pos (decide_eq_true h)]; omega
    · rw [if_neg (by rw [decide_eq_false h]; decide)]; omega
theorem cnt_rows (N : Nat) : ∀ l : List (Nat × Nat), l.Pairwise (fun p q => p.1 + p.2 ≤ q.1) → (∀ p ∈ l, p.1 + p.2 ≤ N) → cntB (fun m => l.any fun p => decide (p.1 ≤ m ∧ m < p.1 + p.2)) N = (l.map (·.2)).sum
  | [], _, _ => cntB_none N
  | p :: r, hp, hN => by
    rw [List.pairwise_cons] at hp
    have ih := cnt_rows N r hp.2 (fun q hq => hN q (List.mem_cons_of_mem _ hq))
    have h0 := hN p List.mem_cons_self
    have h2 := cntB_two (fun m => decide (p.1 ≤ m ∧ m < p.1 + p.2)) (fun m => r.any fun p => decide (p.1 ≤ m ∧ m < p.1 + p.2)) N
    have e2 : cntB (fun m => decide (p.1 ≤ m ∧ m < p.1 + p.2) && r.any fun p => decide (p.1 ≤ m ∧ m < p.1 + p.2)) N = 0 := by
      rw [← cntB_none N]
      refine cntB_congr N fun m _ => ?_
      rw [Bool.eq_false_iff]
      intro k
      rw [Bool.and_eq_true] at k
      obtain ⟨k1, k2⟩ := k
      obtain ⟨q, hq, k3⟩ := List.any_eq_true.1 k2
      have h4 := of_decide_eq_true k1
      have h5 := of_decide_eq_true k3
      have h6 := hp.1 q hq
      omega
    have e3 := cntB_iv p.1 p.2 N
    rw [List.map_cons, List.sum_cons]
    have e1 : cntB (fun m => (p :: r).any fun p => decide (p.1 ≤ m ∧ m < p.1 + p.2)) N = cntB (fun m => decide (p.1 ≤ m ∧ m < p.1 + p.2) || r.any fun p => decide (p.1 ≤ m ∧ m < p.1 + p.2)) N := rfl
    rw [e1]
    omega
theorem cnt_size (N : Nat) (ps : List Pf) (hp : (ps.map blk).Pairwise (fun p q => p.1 + 2 ^ p.2 ≤ q.1)) (hN : ∀ p ∈ ps, (blk p).1 + 2 ^ (blk p).2 ≤ N) : cntB (inS ps) N = sizeN ps := by
  have h := cnt_rows N (ps.map fun p => ((blk p).1, 2 ^ (blk p).2)) (by rw [List.pairwise_map] at hp ⊢; exact hp) (by
    intro x hx
    obtain ⟨p, hp, rfl⟩ := List.mem_map.1 hx
    exact hN p hp)
  rw [List.map_map] at h
  have e : (fun m => (ps.map fun p => ((blk p).1, 2 ^ (blk p).2)).any fun p => decide (p.1 ≤ m ∧ m < p.1 + p.2)) = inS ps := by
    funext m
    rw [List.any_map]
    rfl
  rw [e] at h
  rw [h]
  rfl
def Big (N : Nat) : Prop := ∀ b : Bk, OkB b → b.1 + 2 ^ b.2 ≤ N
theorem big_ex : ∃ N, Big N ∧ N < 10 ^ 60 := by
  refine ⟨2 ^ 129, fun b h => ?_, by decide⟩
  have h2 : 2 ^ 32 ≤ 2 ^ 129 := Nat.pow_le_pow_right (by decide) (by decide)
  rcases h with h | h
  · exact Nat.le_trans h h2
  · exact h.2
theorem RtS.cnt {ps : List Pf} (h : RtS ps) {N : Nat} (hN : Big N) : cntB (inS ps) N = sizeN ps :=
  cnt_size N ps (least_pairs _ (setF_lst h.f)) fun p hp => hN _ ((blks_ok h.r).2 (blk p) (List.mem_map_of_mem hp))
theorem sizes_add {a b u v : List Pf} (ha : RtS a) (hb : RtS b) (hu : RtS u) (hv : RtS v) (h1 : ∀ m, Val m → inS u m = (inS a m || inS b m)) (h2 : ∀ m, Val m → inS v m = (inS a m && inS b m)) : sizeN u + sizeN v = sizeN a + sizeN b := by
  obtain ⟨N, hN, _⟩ := big_ex
  rw [← ha.cnt hN, ← hb.cnt hN, ← hu.cnt hN, ← hv.cnt hN, ← cntB_two (inS a) (inS b) N]
  have key : ∀ (m : Nat), ¬ Val m → ∀ x : List Pf, RtS x → inS x m = false := fun m hm x hx => by
    rw [Bool.eq_false_iff]; exact fun k => hm (inS_val hx.r k)
  congr 1
  · refine cntB_congr N fun m _ => ?_
    by_cases hm : Val m
    · exact h1 m hm
    · rw [key m hm u hu, key m hm a ha, key m hm b hb]; rfl
  · refine cntB_congr N fun m _ => ?_
    by_cases hm : Val m
    · exact h2 m hm
    · rw [key m hm v hv, key m hm a ha, key m hm b hb]; rfl
theorem size_small {ps : List Pf} (h : RtS ps) : sizeN ps < 10 ^ 60 := by
  obtain ⟨N, hN, hl⟩ := big_ex
  have h1 := h.cnt hN
  have h2 := cntB_le (inS ps) N
  rw [h1] at h2
  exact Nat.lt_of_le_of_lt h2 hl
theorem RtS.nil {ps : List Pf} (h : RtS ps) (hn : ∀ m, Val m → inS ps m = false) : ps = [] := by
  cases ps with
  | nil => rfl
  | cons p r =>
    have h1 : inS (p :: r) (blk p).1 = true := by
      show (inQ p (blk p).1 || _) = true
      rw [show inQ p (blk p).1 = true from decide_eq_true ⟨Nat.le_refl _, by have := Nat.two_pow_pos (blk p).2; omega⟩]; rfl
    rw [hn _ (inS_val h.r h1)] at h1
    cases h1

def msd (S : Nat) : List Nat := if S = 0 then [] else (decR S).reverse
theorem drop_digits : ∀ l : List Nat, (∀ d ∈ l, d < 10) → l.dropWhile (· == 0) = msd (valR l.reverse)
  | [], _ => rfl
  | d :: r, h => by
    by_cases hd : d = 0
    · subst hd
      rw [List.dropWhile_cons_of_pos (by rfl), drop_digits r (fun x hx => h x (List.mem_cons_of_mem _ hx)), List.reverse_cons, valR_snoc, Nat.zero_mul, Nat.add_zero]
    · have hc : Canon (r.reverse ++ [d]) := ⟨by simp, fun x hx => h x (by
        rcases List.mem_append.1 hx with k | k
        · exact List.mem_cons_of_mem _ (List.mem_reverse.1 k)
        · rw [List.mem_singleton.1 k]; exact List.mem_cons_self), .inr (by rw [List.getLast?_append, List.getLast?_singleton]; intro e; exact hd (by simpa using e))⟩
      have hp : 0 < valR (r.reverse ++ [d]) := valR_pos hc.1 (by rw [List.getLast?_append, List.getLast?_singleton]; intro e; exact hd (by simpa using e))
      rw [List.dropWhile_cons_of_neg (by simpa using hd), List.reverse_cons]
      unfold msd
      rw [if_neg (by omega), hc.dec]
      simp
def SuI (A B : List Nat) (j : Nat) (out : List Nat) (c : Nat) : Prop :=
  out.length = j ∧ valR out + c * 10 ^ j = valR (A.take j) + valR (B.take j) ∧ (∀ d ∈ out, d < 10) ∧ c ≤ 1
theorem SuI.start (A B : List Nat) : SuI A B 0 [] 0 := ⟨rfl, rfl, (fun _ h => by cases h), by decide⟩
theorem valR_take (A : List Nat) (j : Nat) : valR (A.take (j + 1)) = valR (A.take j) + A.getD j 0 * 10 ^ j := by
  by_cases h : j < A.length
  · have hl : (A.take j).length = j := by rw [List.length_take]; omega
    rw [List.take_add_one, List.getElem?_eq_getElem h, Option.toList_some, valR_snoc, hl, List.getD_eq_getElem?_getD, List.getElem?_eq_getElem h]; rfl
  · rw [List.take_of_length_le (by omega), List.take_of_length_le (by omega), List.getD_eq_getElem?_getD, List.getElem?_eq_none (by omega)]
    show _ = _ + 0 * _
    rw [Nat.zero_mul, Nat.add_zero]
theorem SuI.step {A B out : List Nat} {j c n : Nat} (h : SuI A B j out c) (hn : n = A.getD j 0 + B.getD j 0 + c) (ha : A.getD j 0 < 10) (hb : B.getD j 0 < 10) : SuI A B (j + 1) (out ++ [n % 10]) (n / 10) := by
  obtain ⟨h1, h2, h3, h4⟩ := h
  refine ⟨by rw [List.length_append, h1]; rfl, ?_, ?_, by omega⟩
  · rw [valR_take, valR_take, valR_snoc, h1, Nat.pow_succ]
    generalize A.getD j 0 = a at *
    generalize B.getD j 0 = b at *
    generalize 10 ^ j = T at *
    have e : n = 10 * (n / 10) + n % 10 := (Nat.div_add_mod _ _).symm
    have e2 : (a + b + c) * T = (10 * (n / 10) + n % 10) * T := by rw [← e, hn]
    generalize n / 10 = q at *
    generalize n % 10 = r at *
    simp only [Nat.add_mul] at e2
    have e3 : q * (T * 10) = 10 * q * T := by rw [Nat.mul_comm T 10, ← Nat.mul_assoc, Nat.mul_comm q 10]
    omega
  · intro d hd
    rcases List.mem_append.1 hd with k | k
    · exact h3 d k
    · rw [List.mem_singleton.1 k]; exact Nat.mod_lt _ (by decide)
theorem valR_lt : ∀ (ds : List Nat), (∀ d ∈ ds, d < 10) → valR ds < 10 ^ ds.length
  | [], _ => by simp [valR]
  | d :: r, h => by
    have h1 := valR_lt r (fun x hx => h x (List.mem_cons_of_mem _ hx))
    have h2 := h d List.mem_cons_self
    rw [valR, List.length_cons, Nat.pow_succ]
    omega
theorem getD_lt {A : List Nat} (h : ∀ d ∈ A, d < 10) (j : Nat) : A.getD j 0 < 10 := by
  rw [List.getD_eq_getElem?_getD]
  by_cases hj : j < A.length
  · rw [List.getElem?_eq_getElem hj]; exact h _ (List.getElem_mem hj)
  · rw [List.getElem?_eq_none (by omega)]; decide
theorem SuI.done {x y : Nat} {out : List Nat} {c j : Nat} (h : SuI (decR x) (decR y) j out c) (hx : (decR x).length < j) (hy : (decR y).length < j) : valR out = x + y ∧ out.reverse.dropWhile (· == 0) = msd (x + y) := by
  obtain ⟨h1, h2, h3, h4⟩ := h
  rw [List.take_of_length_le (by omega), List.take_of_length_le (by omega), valR_decR, valR_decR] at h2
  have hlx := valR_lt (decR x) (decR_lt x)
  have hly := valR_lt (decR y) (decR_lt y)
  rw [valR_decR] at hlx hly
  have hj : 0 < j := by omega
  obtain ⟨i, rfl⟩ : ∃ i, j = i + 1 := ⟨j - 1, by omega⟩
  have p1 : 10 ^ (decR x).length ≤ 10 ^ i := Nat.pow_le_pow_right (by decide) (by omega)
  have p2 : 10 ^ (decR y).length ≤ 10 ^ i := Nat.pow_le_pow_right (by decide) (by omega)
  rw [Nat.pow_succ] at h2
  have hv : valR out = x + y := by
    generalize 10 ^ (decR x).length = X at *
    generalize 10 ^ (decR y).length = Y at *
    generalize 10 ^ i = T at *
    rcases Nat.eq_zero_or_pos c with e | e
    · rw [e, Nat.zero_mul, Nat.add_zero] at h2; exact h2
    · obtain rfl : c = 1 := by omega
      omega
  refine ⟨hv, ?_⟩
  rw [drop_digits _ (fun d hd => h3 d (List.mem_reverse.1 hd)), List.reverse_reverse, hv]

set_option maxHeartbeats 4000000 in
theorem combined_large (kf : Nat) (k : Bool → Bool → Bool) (HKp : Kp kf k) (A A' : Option Addr) (n cap n' cap' : Nat) (xs ys : List Pf) (w : World)
    (hS : SlE ePf w A n cap xs) (hS' : SlE ePf w A' n' cap' ys) (hn : n ≤ 1000) (hn' : n' ≤ 1000) (hU : ∀ p ∈ xs, p.U) (hU' : ∀ p ∈ ys, p.U) (hT : Tz w)
    (hE : firstZ [setF xs, setF ys] = 0) (hN : ∀ zs, Tells zs (CmbP k xs ys) → 1000 < (pfsOf (zs.map rowA)).length) :
    Calls Tryz.prog 27 #[.slice A n cap, .slice A' n' cap', kpV kf] w (GivesV (.tuple #[.slice none 0 0, .int .i64 2]) w) := by
  have HC := Lib.hid (combine_any kf k HKp A A' n cap n' cap' xs ys w hS hS' hn hn' hU hU')
  replace hN := Lib.hid hN
  have hT1 : Hid (∀ W, Below w.heap.size w W → Tz W) := Lib.hid fun W h => hT.below h
  clear hS hS' hU hU' HKp hT
  rw [hE] at HC
  clear hE
  go_enter Tryz.func27, Tryz.ntmps27
  go_wp2_with fail
  refine HC.out.mono ?_
  rintro e w1 ⟨A2, cap2, zs, rfl, hS2, h1, h2, hlz, b1⟩
  clear HC
  obtain ⟨hRx, hRy, hz⟩ := h1 (by trivial)
  have HO := Lib.hid (setOf_large A2 zs.length cap2 zs w1 hS2 (by omega) hz.2.2 (hT1.out _ b1) (hN.out zs hz))
  clear h1 h2 hS2 hRx hRy hz hlz hN
  generalize zs.length = m at *
  go_wp2_with fail
  refine HO.out.mono ?_
  rintro e w6 ⟨rfl, hv1⟩
  have b6 := b1.trans (hv1.mono b1.size)
  clear HO hv1
  go_wp2_with fail
  go_ret2
  exact ⟨rfl, b6⟩

theorem rest_large (A : Option Addr) (n cap : Nat) (xs : List Pf) (w : World) (hS : SlE ePf w A n cap xs) (hn : n ≤ 1000) (hU : ∀ p ∈ xs, p.U) (hT : Tz w)
    (hE : firstZ [setF xs, setF []] = 0) (hN : ∀ zs, Tells zs (CmbP (fun p q => !p) xs []) → 1000 < (pfsOf (zs.map rowA)).length) :
    Calls Tryz.prog 9 #[.slice A n cap] w (GivesV (.tuple #[.slice none 0 0, .int .i64 2]) w) := by
  have H := Lib.hid (combined_large _ _ kp_rest A none n cap 0 0 xs [] w hS (SlE.nil _) hn (by omega) hU (fun p hp => by cases hp) hT hE hN)
  clear hS hU hN hT hE
  go_enter Tryz.func9, Tryz.ntmps9
  go_wp2_with fail
  refine H.out.mono ?_
  rintro e w1 ⟨rfl, hb⟩
  clear H
  go_wp2_with fail
  go_ret2
  exact ⟨rfl, hb⟩

def GivesOk (P : List Pf → Prop) (w : World) (e : Ending) (w' : World) : Prop := ∃ v ps, e = .returned v ∧ OwnE ePf 40 w.heap.size w' v ps ∧ P ps ∧ Below w.heap.size w w'
set_option maxHeartbeats 2000000 in
theorem do_ok (kf : Nat) (eg : ∀ args w, (callFunc kf args).run Tryz.prog w = .ok (.enter kf args) w) (A A' : Option Addr) (n c n' c' : Nat) (P : List Pf → Prop) (pf : Nat) (w : World) (H : Calls Tryz.prog kf #[.slice A n c, .slice A' n' c'] w (GivesS 0 P w)) :
    Calls Tryz.prog 6 #[.func (.func kf) #[] #[], .slice A n c, .slice A' n' c', .pointer (some ⟨pf, 0, none⟩)] w (GivesOk P w) := by
  replace H := Lib.hid H
  go_enter Tryz.func6, Tryz.ntmps6
  go_wp2_with fail
  refine H.out.mono ?_
  rintro e w1 ⟨v, ps, rfl, ho, hp, _, hb⟩
  have hp' := Lib.hid (hp (by trivial))
  clear H hp
  go_wp2_with fail
  go_ret
  exact ⟨v, ps, rfl, ho, hp'.out, hb⟩
set_option maxHeartbeats 2000000 in
theorem do_bad (kf : Nat) (eg : ∀ args w, (callFunc kf args).run Tryz.prog w = .ok (.enter kf args) w) (A A' : Option Addr) (n c n' c' : Nat) (pf : Nat) (w : World) (hF : Blk w pf [.int .i64 0] 28) (H : Calls Tryz.prog kf #[.slice A n c, .slice A' n' c'] w (GivesV (.tuple #[.slice none 0 0, .int .i64 2]) w)) :
    Calls Tryz.prog 6 #[.func (.func kf) #[] #[], .slice A n c, .slice A' n' c', .pointer (some ⟨pf, 0, none⟩)] w fun e w' => e = .returned (.slice none 0 0) ∧ Blk w' pf [.int .i64 2] 28 ∧ Below pf w w' := by
  replace H := Lib.hid H
  have hlt := hF.lt
  go_enter Tryz.func6, Tryz.ntmps6
  go_wp2_with fail
  refine H.out.mono ?_
  rintro e w1 ⟨rfl, hb⟩
  replace hF := hF.below hb
  have c0 := hF.cell (i := 0) rfl
  have f0 := hF.free 0
  have hF2 := hF.set 0 (.int .i64 2)
  have hb2 := (hb.mono (Nat.le_of_lt hlt)).setCell (p := ⟨pf, 0, none⟩) (Nat.le_refl _) (.int .i64 2)
  clear H hF hb
  go_wp2_with fail
  go_ret
  exact ⟨rfl, hF2, hb2⟩
theorem rest2_ok (A A' : Option Addr) (n c n' c' : Nat) (E : Int) (P : List Pf → Prop) (w : World) (H : Calls Tryz.prog 9 #[.slice A n c] w (GivesS E P w)) :
    Calls Tryz.prog 8 #[.slice A n c, .slice A' n' c'] w (GivesS E P w) := by
  replace H := Lib.hid H
  go_enter Tryz.func8, Tryz.ntmps8
  go_wp2_with fail
  refine H.out.mono ?_
  rintro e w1 ⟨v, ps, rfl, ho, h1, h2, hb⟩
  replace h1 := Lib.hid h1
  replace h2 := Lib.hid h2
  clear H
  go_wp2_with fail
  go_ret2
  exact ⟨v, ps, rfl, ho, h1.out, h2.out, hb⟩
theorem rest2_bad (A A' : Option Addr) (n c n' c' : Nat) (w : World) (H : Calls Tryz.prog 9 #[.slice A n c] w (GivesV (.tuple #[.slice none 0 0, .int .i64 2]) w)) :
    Calls Tryz.prog 8 #[.slice A n c, .slice A' n' c'] w (GivesV (.tuple #[.slice none 0 0, .int .i64 2]) w) := by
  replace H := Lib.hid H
  go_enter Tryz.func8, Tryz.ntmps8
  go_wp2_with fail
  refine H.out.mono ?_
  rintro e w1 ⟨rfl, hb⟩
  clear H
  go_wp2_with fail
  go_ret2
  exact ⟨rfl, hb⟩
abbrev doV (pf : Nat) : Value := .func (.func 6) #[] #[.pointer (some ⟨pf, 0, none⟩)]
set_option maxHeartbeats 2000000 in
theorem restF_ok (A : Option Addr) (n c pf pq : Nat) (t : TypeId) (P : List Pf → Prop) (w : World) (hq : Blk w pq [doV pf] t) (H : Calls Tryz.prog 9 #[.slice A n c] w (GivesS 0 P w)) :
    Calls Tryz.prog 7 #[.slice A n c, .pointer (some ⟨pq, 0, none⟩)] w (GivesOk P w) := by
  have HD := Lib.hid (do_ok 8 (enters_of Tryz.func8 (by kernel_rfl) rfl) A none n c 0 0 P pf w (rest2_ok A none n c 0 0 0 P w H))
  have c0 := hq.cell (i := 0) rfl
  clear H hq
  go_enter Tryz.func7, Tryz.ntmps7
  go_wp2_with fail
  refine HD.out.mono ?_
  rintro e w1 ⟨v, ps, rfl, ho, hp, hb⟩
  replace hp := Lib.hid hp
  clear HD c0
  go_wp2_with fail
  go_ret
  exact ⟨v, ps, rfl, ho, hp.out, hb⟩
set_option maxHeartbeats 2000000 in
theorem restF_bad (A : Option Addr) (n c pf pq : Nat) (t : TypeId) (w : World) (hq : Blk w pq [doV pf] t) (hF : Blk w pf [.int .i64 0] 28) (H : Calls Tryz.prog 9 #[.slice A n c] w (GivesV (.tuple #[.slice none 0 0, .int .i64 2]) w)) :
    Calls Tryz.prog 7 #[.slice A n c, .pointer (some ⟨pq, 0, none⟩)] w fun e w' => e = .returned (.slice none 0 0) ∧ Blk w' pf [.int .i64 2] 28 ∧ Below pf w w' := by
  have HD := Lib.hid (do_bad 8 (enters_of Tryz.func8 (by kernel_rfl) rfl) A none n c 0 0 pf w hF (rest2_bad A none n c 0 0 w H))
  have c0 := hq.cell (i := 0) rfl
  clear H hq hF
  go_enter Tryz.func7, Tryz.ntmps7
  go_wp2_with fail
  refine HD.out.mono ?_
  rintro e w1 ⟨rfl, h1, h2⟩
  clear HD c0
  go_wp2_with fail
  go_ret
  exact ⟨rfl, h1, h2⟩

abbrev B3 := Bool → Bool → Bool → Bool
structure Sg (a b c : List Pf) (F : B3) (W : World) (A : Option Addr) (n cap : Nat) (ps : List Pf) : Prop where
  sl : SlE ePf W A n cap ps
  le : n ≤ 1000
  rt : RtS ps
  is : ∀ m, Val m → inS ps m = F (inS a m) (inS b m) (inS c m)
theorem Sg.below {a b c : List Pf} {F : B3} {W W' : World} {A : Option Addr} {n cap : Nat} {ps : List Pf} (h : Sg a b c F W A n cap ps) (hb : Below W.heap.size W W') : Sg a b c F W' A n cap ps := ⟨h.sl.below hb, h.le, h.rt, h.is⟩
theorem Sg.same {a b c : List Pf} {F G : B3} {W W' : World} {A A' : Option Addr} {n n' cap cap' : Nat} {ps qs : List Pf} (h : Sg a b c F W A n cap ps) (h' : Sg a b c G W' A' n' cap' qs) (he : ∀ x y z, F x y z = G x y z) : ps = qs :=
  h.rt.ext h'.rt fun m hm => by rw [h.is m hm, h'.is m hm, he]
def Bd (a b c : List Pf) (F : B3) : Prop := ∀ zs, Tells zs (fun m => Val m ∧ F (inS a m) (inS b m) (inS c m) = true) → (pfsOf (zs.map rowA)).length ≤ 1000
structure Th (a b c : List Pf) : Prop where
  ra : RtS a
  rb : RtS b
  rc : RtS c
  la : a.length ≤ 5
  lb : b.length ≤ 5
  lc : c.length ≤ 5
theorem inS_blk {ps : List Pf} {m : Nat} (h : inS ps m = true) {m' : Nat} (h' : inS ps m' = false) : ∃ x ∈ ps.map blk, InB x m ∧ ¬ InB x m' := by
  obtain ⟨p, hp, h1⟩ := List.any_eq_true.1 h
  have h2 : (blk p).1 ≤ m ∧ m < (blk p).1 + 2 ^ (blk p).2 := of_decide_eq_true h1
  refine ⟨blk p, List.mem_map_of_mem hp, h2, fun k => ?_⟩
  have k' : (blk p).1 ≤ m' ∧ m' < (blk p).1 + 2 ^ (blk p).2 := k
  have : inS ps m' = true := List.any_eq_true.2 ⟨p, hp, decide_eq_true k'⟩
  rw [h'] at this; cases this
theorem bd_of {a b c q : List Pf} (h : Th a b c) (hq : q.length ≤ 5) (hqR : ∀ p ∈ q, p.R) {F : B3}
    (hk : ∀ m m', F (inS a m) (inS b m) (inS c m) = true → F (inS a m') (inS b m') (inS c m') = false → (inS a m = true ∧ inS a m' = false) ∨ (inS b m = true ∧ inS b m' = false) ∨ (inS c m = true ∧ inS c m' = false) ∨ (inS q m = false ∧ inS q m' = true)) : Bd a b c F := by
  intro zs hz
  refine pfs_blocks hz (a.map blk ++ b.map blk ++ c.map blk) (q.map blk) (alL_app (alL_app (blks_ok h.ra.r).1 (blks_ok h.rb.r).1) (blks_ok h.rc.r).1) (blks_ok hqR).1
    (by rw [List.length_append, List.length_append, List.length_map, List.length_map, List.length_map, List.length_map]; have := h.la; have := h.lb; have := h.lc; omega) (fun m m' h1 hv h2 => ?_)
  have h3 : F (inS a m') (inS b m') (inS c m') = false := by
    rw [Bool.eq_false_iff]; exact fun k => h2 ⟨hv, k⟩
  rcases hk m m' h1.2 h3 with ⟨k1, k2⟩ | ⟨k1, k2⟩ | ⟨k1, k2⟩ | ⟨k1, k2⟩
  · obtain ⟨x, hx, hh⟩ := inS_blk k1 k2
    exact .inl ⟨x, List.mem_append_left _ (List.mem_append_left _ hx), hh⟩
  · obtain ⟨x, hx, hh⟩ := inS_blk k1 k2
    exact .inl ⟨x, List.mem_append_left _ (List.mem_append_right _ hx), hh⟩
  · obtain ⟨x, hx, hh⟩ := inS_blk k1 k2
    exact .inl ⟨x, List.mem_append_right _ hx, hh⟩
  · obtain ⟨x, hx, h1, h2⟩ := inS_blk k2 k1
    exact .inr ⟨x, hx, h2, h1⟩
theorem bd_pos {a b c : List Pf} (h : Th a b c) {F : B3} (hF : ∀ x y z x' y' z', F x y z = true → F x' y' z' = false → (x = true ∧ x' = false) ∨ (y = true ∧ y' = false) ∨ (z = true ∧ z' = false)) : Bd a b c F :=
  bd_of (q := []) h (by simp) (fun p hp => by cases hp) fun m m' h1 h2 => by
    rcases hF _ _ _ _ _ _ h1 h2 with k | k | k
    · exact .inl k
    · exact .inr (.inl k)
    · exact .inr (.inr (.inl k))
theorem bd_nega {a b c : List Pf} (h : Th a b c) {F : B3} (hF : ∀ x y z x' y' z', F x y z = true → F x' y' z' = false → (x = true ∧ x' = false) ∨ (y = true ∧ y' = false) ∨ (z = true ∧ z' = false) ∨ (x = false ∧ x' = true)) : Bd a b c F :=
  bd_of (q := a) h h.la h.ra.r fun m m' h1 h2 => hF _ _ _ _ _ _ h1 h2
theorem bd_negb {a b c : List Pf} (h : Th a b c) {F : B3} (hF : ∀ x y z x' y' z', F x y z = true → F x' y' z' = false → (x = true ∧ x' = false) ∨ (y = true ∧ y' = false) ∨ (z = true ∧ z' = false) ∨ (y = false ∧ y' = true)) : Bd a b c F :=
  bd_of (q := b) h h.lb h.rb.r fun m m' h1 h2 => hF _ _ _ _ _ _ h1 h2
def Op2 (kf : Nat) (k : Bool → Bool → Bool) : Prop := (∀ args w, (callFunc kf args).run Tryz.prog w = .ok (.enter kf args) w) ∧
  ∀ (A A' : Option Addr) (n cap n' cap' : Nat) (xs ys : List Pf) (w : World), SlE ePf w A n cap xs → SlE ePf w A' n' cap' ys → n ≤ 1000 → n' ≤ 1000 → (∀ p ∈ xs, p.U) → (∀ p ∈ ys, p.U) → Tz w →
    ((∀ p ∈ xs, p.R) → (∀ p ∈ ys, p.R) → ∀ zs, Tells zs (CmbP k xs ys) → (pfsOf (zs.map rowA)).length ≤ 1000) →
    Calls Tryz.prog kf #[.slice A n cap, .slice A' n' cap'] w (GivesS (firstZ [setF xs, setF ys]) (CmbS k xs ys) w)
theorem op_union : Op2 10 (fun p q => p || q) := ⟨enters_of Tryz.func10 (by kernel_rfl) rfl, fun A A' n cap n' cap' xs ys w h1 h2 h3 h4 h5 h6 h7 h8 => union_any A A' n cap n' cap' xs ys w h1 h2 h3 h4 h5 h6 h7 h8⟩
theorem op_both : Op2 12 (fun p q => p && q) := ⟨enters_of Tryz.func12 (by kernel_rfl) rfl, fun A A' n cap n' cap' xs ys w h1 h2 h3 h4 h5 h6 h7 h8 => both_any A A' n cap n' cap' xs ys w h1 h2 h3 h4 h5 h6 h7 h8⟩
theorem op_without : Op2 13 (fun p q => p && !q) := ⟨enters_of Tryz.func13 (by kernel_rfl) rfl, fun A A' n cap n' cap' xs ys w h1 h2 h3 h4 h5 h6 h7 h8 => without_any A A' n cap n' cap' xs ys w h1 h2 h3 h4 h5 h6 h7 h8⟩
def GivesG (a b c : List Pf) (F : B3) (w : World) (e : Ending) (w' : World) : Prop := ∃ A n cap ps, e = .returned (.slice A n cap) ∧ Sg a b c F w' A n cap ps ∧ Below w.heap.size w w'
theorem hasB_is {a b c : List Pf} {F : B3} {W : World} {A : Option Addr} {n cap : Nat} {ps : List Pf} (h : Sg a b c F W A n cap ps) {m : Nat} (hm : Val m) : hasB (ps.map rgP) m = F (inS a m) (inS b m) (inS c m) := by
  rw [← inS_has h.rt.r, h.is m hm]
theorem err2 {a b : List Pf} (ha : RtS a) (hb : RtS b) : firstZ [setF a, setF b] = 0 := by rw [ha.f, hb.f]; simp [firstZ]
theorem do_two {a b c : List Pf} {F G : B3} {kf : Nat} {k : Bool → Bool → Bool} (HO : Op2 kf k) (A A' : Option Addr) (n cap n' cap' : Nat) (xs ys : List Pf) (pf : Nat) (w : World) (h1 : Sg a b c F w A n cap xs) (h2 : Sg a b c G w A' n' cap' ys) (hT : Tz w) (hB : Bd a b c (fun x y z => k (F x y z) (G x y z))) :
    Calls Tryz.prog 6 #[.func (.func kf) #[] #[], .slice A n cap, .slice A' n' cap', .pointer (some ⟨pf, 0, none⟩)] w (GivesG a b c (fun x y z => k (F x y z) (G x y z)) w) := by
  have hiff : ∀ m, CmbP k xs ys m ↔ (Val m ∧ k (F (inS a m) (inS b m) (inS c m)) (G (inS a m) (inS b m) (inS c m)) = true) := fun m => by
    unfold CmbP
    constructor
    · rintro ⟨hm, h⟩; rw [hasB_is h1 hm, hasB_is h2 hm] at h; exact ⟨hm, h⟩
    · rintro ⟨hm, h⟩; exact ⟨hm, by rw [hasB_is h1 hm, hasB_is h2 hm]; exact h⟩
  have hN : ∀ zs, Tells zs (CmbP k xs ys) → (pfsOf (zs.map rowA)).length ≤ 1000 := fun zs hz => hB zs (hz.iff hiff)
  have H := HO.2 A A' n cap n' cap' xs ys w h1.sl h2.sl h1.le h2.le h1.rt.u h2.rt.u hT (fun _ _ => hN)
  rw [err2 h1.rt h2.rt] at H
  refine (do_ok kf HO.1 A A' n cap n' cap' _ pf w H).mono ?_
  rintro e w' ⟨v, ps, rfl, ho, hp, hb⟩
  obtain ⟨A2, c2, rfl, hS⟩ := ho.sl
  obtain ⟨r1, r2⟩ := cmb_rt hp
  refine ⟨A2, _, c2, ps, rfl, ⟨hS, ?_, r1, fun m hm => by rw [r2 m hm, h1.is m hm, h2.is m hm]⟩, hb⟩
  obtain ⟨_, _, zs, hz, e⟩ := hp
  rw [e]; exact hN zs hz
theorem rest_of {a b c : List Pf} {F : B3} (A : Option Addr) (n cap : Nat) (xs : List Pf) (pf pq : Nat) (t : TypeId) (w : World) (h1 : Sg a b c F w A n cap xs) (hq : Blk w pq [doV pf] t) (hT : Tz w) (hB : Bd a b c (fun x y z => !F x y z)) :
    Calls Tryz.prog 7 #[.slice A n cap, .pointer (some ⟨pq, 0, none⟩)] w (GivesG a b c (fun x y z => !F x y z) w) := by
  have hiff : ∀ m, CmbP (fun p _ => !p) xs [] m ↔ (Val m ∧ (!F (inS a m) (inS b m) (inS c m)) = true) := fun m => by
    unfold CmbP
    constructor
    · rintro ⟨hm, h⟩; rw [hasB_is h1 hm] at h; exact ⟨hm, h⟩
    · rintro ⟨hm, h⟩; exact ⟨hm, by rw [hasB_is h1 hm]; exact h⟩
  have hN : ∀ zs, Tells zs (CmbP (fun p _ => !p) xs []) → (pfsOf (zs.map rowA)).length ≤ 1000 := fun zs hz => hB zs (hz.iff hiff)
  have H := rest_any A n cap xs w h1.sl h1.le h1.rt.u hT (fun _ => hN)
  rw [show firstZ [setF xs, setF []] = 0 by rw [h1.rt.f, setF_nil]; simp [firstZ]] at H
  refine (restF_ok A n cap pf pq t _ w hq H).mono ?_
  rintro e w' ⟨v, ps, rfl, ho, hp, hb⟩
  obtain ⟨A2, c2, rfl, hS⟩ := ho.sl
  obtain ⟨r1, r2⟩ := cmb_rt hp
  refine ⟨A2, _, c2, ps, rfl, ⟨hS, ?_, r1, fun m hm => by rw [r2 m hm, h1.is m hm]⟩, hb⟩
  obtain ⟨_, _, zs, hz, e⟩ := hp
  rw [e]; exact hN zs hz
theorem rest_too {a b c : List Pf} {F : B3} (A : Option Addr) (n cap : Nat) (xs : List Pf) (pf pq : Nat) (t : TypeId) (w : World) (h1 : Sg a b c F w A n cap xs) (hq : Blk w pq [doV pf] t) (hF : Blk w pf [.int .i64 0] 28) (hT : Tz w) (hB : ¬ Bd a b c (fun x y z => !F x y z)) :
    Calls Tryz.prog 7 #[.slice A n cap, .pointer (some ⟨pq, 0, none⟩)] w fun e w' => e = .returned (.slice none 0 0) ∧ Blk w' pf [.int .i64 2] 28 ∧ Below pf w w' := by
  have hiff : ∀ m, CmbP (fun p _ => !p) xs [] m ↔ (Val m ∧ (!F (inS a m) (inS b m) (inS c m)) = true) := fun m => by
    unfold CmbP
    constructor
    · rintro ⟨hm, h⟩; rw [hasB_is h1 hm] at h; exact ⟨hm, h⟩
    · rintro ⟨hm, h⟩; exact ⟨hm, by rw [hasB_is h1 hm]; exact h⟩
  obtain ⟨zs0, hz0, hl0⟩ : ∃ zs, Tells zs (CmbP (fun p _ => !p) xs []) ∧ 1000 < (pfsOf (zs.map rowA)).length := by
    refine Classical.byContradiction fun hn => hB fun zs hz => ?_
    refine Classical.byContradiction fun hl => hn ⟨zs, hz.iff fun m => (hiff m).symm, by omega⟩
  have hN : ∀ zs, Tells zs (CmbP (fun p _ => !p) xs []) → 1000 < (pfsOf (zs.map rowA)).length := fun zs hz => by
    rw [hz.unique hz0 fun m => Iff.rfl]; exact hl0
  exact restF_bad A n cap pf pq t w hq hF (rest_large A n cap xs w h1.sl h1.le h1.rt.u hT (by rw [h1.rt.f, setF_nil]; simp [firstZ]) hN)
theorem equal_sg {a b c : List Pf} {F G : B3} (A A' : Option Addr) (n cap n' cap' : Nat) (xs ys : List Pf) (w : World) (h1 : Sg a b c F w A n cap xs) (h2 : Sg a b c G w A' n' cap' ys) (he : ∀ x y z, F x y z = G x y z) :
    Calls Tryz.prog 14 #[.slice A n cap, .slice A' n' cap'] w (GivesV (.bool true) w) := by
  have e := h1.same h2 he
  refine (equalPf_any A A' n n' cap cap' xs ys w h1.sl h2.sl (by have := h1.le; omega) (by have := h2.le; omega)).mono ?_
  rintro e' w2 ⟨r, rfl, hr, hb⟩
  exact ⟨by rw [hr.2 e], hb⟩
theorem checkSet_sg {a b c : List Pf} {F : B3} (A : Option Addr) (n cap : Nat) (xs : List Pf) (w : World) (h1 : Sg a b c F w A n cap xs) : Calls Tryz.prog 15 #[.slice A n cap] w (GivesV (.int .i64 0) w) := by
  have h := checkSet_any A n cap xs w h1.sl h1.le h1.rt.u
  rwa [h1.rt.f] at h
end Go.Proofs.YtmgdkefoehlamaaGreatDoor
