/- AddrsComeBack: the law. -/
import Derived.Test.YtfiocnjogbpgoaaGreatDoorKjAcA
import Derived.Test.YtfiocnjogbpgoaaGreatDoorKjRwA
import Derived.Test.YtfiocnjogbpgoaaGreatDoorKjLaneC
import Derived.Test.YtfiocnjogbpgoaaGreatDoorKjLaneD
import Derived.Test.YtfiocnjogbpgoaaGreatDoorKjPtB
namespace Go.Proofs.YtfiocnjogbpgoaaGreatDoor
open Go.RowKit
set_option linter.unusedVariables false
set_option linter.unusedSimpArgs false

theorem ad_sameK (s : Bool) (a b : Int) (w : World) : (Op.equalIn 10000 28 (.agg #[.bool s, .int .u64 a, .int .u64 b]) (.agg #[.bool s, .int .u64 a, .int .u64 b])).run Tryz.prog w = .ok true w := by
  rw [show (10000 : Nat) = 9999 + 1 from rfl, run_equalIn_agg w 9999 28 _ _ (by kernel_rfl) (by kernel_rfl)]
  simp only [Program.fieldsOf, Tryz.underlying28]
  go_simp

theorem pf_sameK (s : Bool) (a b n : Int) (w : World) : (Op.equalIn 10000 31 (.agg #[.bool s, .int .u64 a, .int .u64 b, .int .i64 n]) (.agg #[.bool s, .int .u64 a, .int .u64 b, .int .i64 n])).run Tryz.prog w = .ok true w := by
  rw [show (10000 : Nat) = 9999 + 1 from rfl, run_equalIn_agg w 9999 31 _ _ (by kernel_rfl) (by kernel_rfl)]
  simp only [Program.fieldsOf, Tryz.underlying31]
  go_simp

def neAs (x y : Operand) (a b : Value) : Sem Next := do
  let v ← (do eqGuard .neq 28 x y a b; binOp .neq 28 a b)
  pure (.value v)
@[go_sem ↓ high] theorem execOp_neAs' (ρ : Operand → Value) (dst : Option Tmp) (x y : Operand) (r ty : TypeId) (pos : String) (after : Array Edge) (guard : Option (Nat × Bool)) :
    execOp ρ ⟨dst, .binOp .neq 28 x y r, ty, pos, after, guard⟩ = neAs x y (ρ x) (ρ y) := rfl
@[go_sem high] theorem execOp_neAs (ρ : Operand → Value) (dst : Option Tmp) (x y : Operand) (r ty : TypeId) (pos : String) (after : Array Edge) (guard : Option (Nat × Bool)) :
    execOp ρ ⟨dst, .binOp .neq 28 x y r, ty, pos, after, guard⟩ = neAs x y (ρ x) (ρ y) := rfl
@[go_sem] theorem run_neAs (x y : Operand) (s : Bool) (a b : Int) (w : World) : (neAs x y (.agg #[.bool s, .int .u64 a, .int .u64 b]) (.agg #[.bool s, .int .u64 a, .int .u64 b])).run Tryz.prog w = .ok (.value (.bool false)) w := by
  unfold neAs
  simp only [Sem.run_bind, run_neq_struct, ad_sameK, run_eqGuard_agg _ _ _ _ _ _ _ Tryz.eqGuardType28, Result.andThen_ok, Sem.run_pure]
  rfl

def nePs (x y : Operand) (a b : Value) : Sem Next := do
  let v ← (do eqGuard .neq 31 x y a b; binOp .neq 31 a b)
  pure (.value v)
@[go_sem ↓ high] theorem execOp_nePs' (ρ : Operand → Value) (dst : Option Tmp) (x y : Operand) (r ty : TypeId) (pos : String) (after : Array Edge) (guard : Option (Nat × Bool)) :
    execOp ρ ⟨dst, .binOp .neq 31 x y r, ty, pos, after, guard⟩ = nePs x y (ρ x) (ρ y) := rfl
@[go_sem high] theorem execOp_nePs (ρ : Operand → Value) (dst : Option Tmp) (x y : Operand) (r ty : TypeId) (pos : String) (after : Array Edge) (guard : Option (Nat × Bool)) :
    execOp ρ ⟨dst, .binOp .neq 31 x y r, ty, pos, after, guard⟩ = nePs x y (ρ x) (ρ y) := rfl
@[go_sem] theorem run_nePs (x y : Operand) (s : Bool) (a b n : Int) (w : World) : (nePs x y (.agg #[.bool s, .int .u64 a, .int .u64 b, .int .i64 n]) (.agg #[.bool s, .int .u64 a, .int .u64 b, .int .i64 n])).run Tryz.prog w = .ok (.value (.bool false)) w := by
  unfold nePs
  simp only [Sem.run_bind, run_neq_struct, pf_sameK, run_eqGuard_agg _ _ _ _ _ _ _ Tryz.eqGuardType31, Result.andThen_ok, Sem.run_pure]
  rfl

def eqAk (x y : Operand) (a b : Value) : Sem Next := do
  let v ← (do eqGuard .eql 28 x y a b; binOp .eql 28 a b)
  pure (.value v)
@[go_sem ↓ high] theorem execOp_eqAk' (ρ : Operand → Value) (dst : Option Tmp) (x y : Operand) (r ty : TypeId) (pos : String) (after : Array Edge) (guard : Option (Nat × Bool)) :
    execOp ρ ⟨dst, .binOp .eql 28 x y r, ty, pos, after, guard⟩ = eqAk x y (ρ x) (ρ y) := rfl
@[go_sem high] theorem execOp_eqAk (ρ : Operand → Value) (dst : Option Tmp) (x y : Operand) (r ty : TypeId) (pos : String) (after : Array Edge) (guard : Option (Nat × Bool)) :
    execOp ρ ⟨dst, .binOp .eql 28 x y r, ty, pos, after, guard⟩ = eqAk x y (ρ x) (ρ y) := rfl
@[go_sem] theorem run_eqAk (x y : Operand) (s : Bool) (a b : Int) (w : World) : (eqAk x y (.agg #[.bool s, .int .u64 a, .int .u64 b]) (.agg #[.bool s, .int .u64 a, .int .u64 b])).run Tryz.prog w = .ok (.value (.bool true)) w := by
  unfold eqAk
  simp only [Sem.run_bind, run_eql_struct, ad_sameK, run_eqGuard_agg _ _ _ _ _ _ _ Tryz.eqGuardType28, Result.andThen_ok, Sem.run_pure]

theorem rightP_adK {s : Bool} {hi lo n : Int} (h : RightP s hi lo n) : adF s hi lo = 0 := by
  obtain ⟨a, l, ⟨⟨h1, h2⟩, ⟨h3, h4⟩, h5⟩, _, _, rfl, rfl⟩ := h
  unfold adF
  rw [if_neg]
  rintro ⟨rfl, hx⟩
  obtain ⟨rfl, h6⟩ := h5 rfl
  have hn : num 0 l < 2 ^ 32 := by
    have e : num 0 l = l.toNat := by unfold num; simp
    rw [e]; omega
  have hC : clr (num 0 l) (lenZ false - n).toNat < 2 ^ 32 := clr_lt hn
  generalize clr (num 0 l) (lenZ false - n).toNat = C at *
  have e1 : C / 2 ^ 64 = 0 := Nat.div_eq_of_lt (by omega)
  have e2 : C % 2 ^ 64 = C := Nat.mod_eq_of_lt (by omega)
  rw [e1, e2] at hx
  rcases hx with hx | hx
  · exact hx rfl
  · omega
theorem num_splitK (v : Nat) : num ((v / 2 ^ 64 : Nat) : Int) ((v % 2 ^ 64 : Nat) : Int) = v := by
  unfold num
  rw [Int.toNat_natCast, Int.toNat_natCast, Nat.mul_comm]
  exact Nat.div_add_mod _ _
theorem right_pfK {s : Bool} {hi lo n : Int} (h : RightP s hi lo n) : pfF s hi lo n = 0 := by
  have h0 := rightP_adK h
  obtain ⟨a, l, hA, hn1, hn2, rfl, rfl⟩ := h
  unfold pfF
  rw [num_splitK, clr_idem, if_neg (fun k => k h0), if_neg (by unfold inB; rw [decide_eq_true (show 0 ≤ n ∧ n ≤ lenZ s from ⟨hn1, hn2⟩)]; decide), if_pos rfl]
theorem right_adK {s : Bool} {hi lo : Int} (h : RightA s hi lo) : adF s hi lo = 0 := right_adF h
theorem cells_text (s : Bool) (hi lo : Int) : ((adrText s hi lo).length ≤ 100000) := Nat.le_trans (adrText_len s hi lo) (by decide)
theorem pfx_len (s : Bool) (hi lo n : Int) (h0 : 0 ≤ n) (hn : n ≤ 255) : (pfxText s hi lo n).length ≤ 100000 := by
  have h1 := adrText_len s hi lo
  have h2 := itoa_len n h0 hn
  unfold pfxText
  rw [List.length_append, List.length_cons]
  omega

set_option maxHeartbeats 8000000 in
set_option maxRecDepth 100000 in
theorem addrsComeBack_walk (a : Option Addr) (len cap : Nat) (w : World) (hC : Cons w) (hRd : Rd2 w) (hs : Str (w.alloc (.cells #[.slice a len cap, .int .i64 0] 25)) w.heap.size 1000) :
    Calls Tryz.prog 3 #[.slice a len cap] w fun e w' => e = .returned (.bool true) ∧ Below w.heap.size w w' := by
  have HR := Lib.hid (fun W (h : Below w.heap.size w W) => ready_any W (Rdy.below ⟨hC.tabs, hRd⟩ h))
  have hng := hRd.lt
  clear hRd
  obtain ⟨w0, hw0⟩ : ∃ x, x = w.alloc (.cells #[.slice a len cap, .int .i64 0] 25) := ⟨_, rfl⟩
  have hB0 : Below w.heap.size w w0 := by rw [hw0]; exact (Below.refl _ _).alloc (Nat.le_refl _) _
  have hz0 : w0.heap.size = w.heap.size + 1 := by rw [hw0]; simp
  rw [← hw0] at hs
  go_enter Tryz.func3, Tryz.ntmps3
  go_upto_region 2 with fail
  rw [← hw0]
  clear hw0
  go_wp2_with fail
  refine (addr_any _ _ 990 (hs.le (by omega))).mono ?_
  rintro e w1 ⟨s, hi, lo, hA, rfl, hs1, hg1⟩
  have hA0 := hA
  clear hs
  go_wp2_with fail
  refine (rightPrefix_any _ _ 980 (hs1.le (by omega))).mono ?_
  rintro e w2 ⟨ps, ph, pl, pn, hPp, rfl, hs2, hg2⟩
  replace hg2 := gb_trans hg1 hg2
  have hb : Below w.heap.size w w2 := hB0.trans (gb_toBelow hg2 (Nat.le_refl _) (by omega))
  clear hs1 hg1
  have hAF := right_adK hA
  have hPF := right_pfK hPp
  obtain ⟨⟨pu1, pu2⟩, ⟨pu3, pu4⟩⟩ := hPp.u64
  obtain ⟨pn0, pn1⟩ : 0 ≤ pn ∧ pn ≤ 128 := (pfF_zero hPF).2
  obtain ⟨⟨u1, u2⟩, ⟨u3, u4⟩, _⟩ := hA
  obtain ⟨h, rfl⟩ := Int.eq_ofNat_of_zero_le u1
  obtain ⟨l, rfl⟩ := Int.eq_ofNat_of_zero_le u3
  obtain ⟨g, rfl⟩ := Int.eq_ofNat_of_zero_le pu1
  obtain ⟨q, rfl⟩ := Int.eq_ofNat_of_zero_le pu3
  obtain ⟨n, rfl⟩ := Int.eq_ofNat_of_zero_le pn0
  have HT := Lib.hid (fun W (hW : Below w.heap.size w W) => text_any s (h : Int) (l : Int) W (hC.tabs.below hW) u1 u2 u3 u4)
  have HP := Lib.hid (fun W (hW : Below w.heap.size w W) => parse_any (adrText s (h : Int) (l : Int)) W (hC.below hW) (cells_text _ _ _))
  have HL := Lib.hid (fun W (hW : Below w.heap.size w W) => loose_any (adrText s (h : Int) (l : Int)) W (hC.below hW) (cells_text _ _ _))
  have HPT := Lib.hid (fun W (hW : Below w.heap.size w W) => prefixText_ok ps (g : Int) (q : Int) (n : Int) W (hC.tabs.below hW) pu1 pu2 pu3 pu4 hPF)
  have HPP := Lib.hid (fun W (hW : Below w.heap.size w W) => parsePrefix_any (pfxText ps (g : Int) (q : Int) (n : Int)) W (hC.below hW) (pfx_len _ _ _ _ pn0 (by omega)))
  rw [hAF] at HT
  rw [parse_text s h l (by omega) (by omega) (grps_lt _) hAF] at HP
  rw [loose_text s h l (by omega) (by omega) (grps_lt _) hAF] at HL
  rw [prefix_text ps g q n (by omega) (by omega) (grps_lt _) hPF] at HPP
  have e1 : addrE (some (s, h, l)) = .tuple #[.agg #[.bool s, .int .u64 (h : Int), .int .u64 (l : Int)], .int .i64 0] := rfl
  have e2 : pfEP (some (ps, g, q, n)) = .tuple #[.agg #[.bool ps, .int .u64 (g : Int), .int .u64 (q : Int), .int .i64 (n : Int)], .int .i64 0] := rfl
  rw [e1] at HP HL
  rw [e2] at HPP
  clear e1 e2
  generalize adrText s (h : Int) (l : Int) = tx at HT HP HL
  generalize pfxText ps (g : Int) (q : Int) (n : Int) = px at HPT HPP
  clear hA0 hAF hPF hPp u1 u2 u3 u4 pu1 pu2 pu3 pu4 pn0 pn1
  have k1 := (Blk.new w2 [.bool false, .int .u64 0, .int .u64 0] 28).alloc (.cells ([.bool false, .int .u64 0, .int .u64 0, .int .i64 0]).toArray 31)
  have k2 := Blk.new (w2.alloc (.cells ([.bool false, .int .u64 0, .int .u64 0]).toArray 28)) [.bool false, .int .u64 0, .int .u64 0, .int .i64 0] 31
  rw [World.size_alloc] at k2
  have st1 := stT_row rowAd k1 (cs := [.bool s, .int .u64 (h : Int), .int .u64 (l : Int)]) rfl rfl (oneAll rfl)
  have k3 := k1.rowU [.bool s, .int .u64 (h : Int), .int .u64 (l : Int)]
  have k4 : Blk (((w2.alloc (.cells ([.bool false, .int .u64 0, .int .u64 0]).toArray 28)).alloc (.cells ([.bool false, .int .u64 0, .int .u64 0, .int .i64 0]).toArray 31)).setRow w2.heap.size ([.bool s, .int .u64 (h : Int), .int .u64 (l : Int)]).toArray) (w2.heap.size + 1) [.bool false, .int .u64 0, .int .u64 0, .int .i64 0] 31 := (setRow_other _ _ _ _ (by omega)).trans k2
  have st2 := stT_row rowPf k4 (cs := [.bool ps, .int .u64 (g : Int), .int .u64 (q : Int), .int .i64 (n : Int)]) rfl rfl (oneAll rfl)
  have k5 := k4.rowU [.bool ps, .int .u64 (g : Int), .int .u64 (q : Int), .int .i64 (n : Int)]
  have k6 : Blk ((((w2.alloc (.cells ([.bool false, .int .u64 0, .int .u64 0]).toArray 28)).alloc (.cells ([.bool false, .int .u64 0, .int .u64 0, .int .i64 0]).toArray 31)).setRow w2.heap.size ([.bool s, .int .u64 (h : Int), .int .u64 (l : Int)]).toArray).setRow (w2.heap.size + 1) ([.bool ps, .int .u64 (g : Int), .int .u64 (q : Int), .int .i64 (n : Int)]).toArray) w2.heap.size [.bool s, .int .u64 (h : Int), .int .u64 (l : Int)] 28 := (setRow_other _ _ _ _ (by omega)).trans k3
  have hv : Below w2.heap.size w2 ((((w2.alloc (.cells ([.bool false, .int .u64 0, .int .u64 0]).toArray 28)).alloc (.cells ([.bool false, .int .u64 0, .int .u64 0, .int .i64 0]).toArray 31)).setRow w2.heap.size ([.bool s, .int .u64 (h : Int), .int .u64 (l : Int)]).toArray).setRow (w2.heap.size + 1) ([.bool ps, .int .u64 (g : Int), .int .u64 (q : Int), .int .i64 (n : Int)]).toArray) := below_rowP (below_rowP (((Below.refl _ _).alloc (Nat.le_refl _) _).alloc (by simp) _) (Nat.le_refl _) _) (by omega) _
  have hs3 := hs2.below hv
  have hg3 := gb_trans hg2 (gbB (r := some w.heap.size) hv)
  replace hb := hb.trans (hv.mono hb.size)
  go_upto_region 3 with fail
  generalize ((((w2.alloc (.cells ([.bool false, .int .u64 0, .int .u64 0]).toArray 28)).alloc (.cells ([.bool false, .int .u64 0, .int .u64 0, .int .i64 0]).toArray 31)).setRow w2.heap.size ([.bool s, .int .u64 (h : Int), .int .u64 (l : Int)]).toArray).setRow (w2.heap.size + 1) ([.bool ps, .int .u64 (g : Int), .int .u64 (q : Int), .int .i64 (n : Int)]).toArray) = w3 at *
  obtain ⟨pa, hpa⟩ : ∃ x, x = w2.heap.size := ⟨_, rfl⟩
  rw [← hpa] at k5 k6 ⊢
  clear st1 st2 k1 k2 k3 k4 hs2 hg2 hv hpa
  have la := k6.ld rowAd rfl
  go_wp2_with fail
  refine (HT.out _ hb).mono ?_
  rintro e w4 ⟨rfl, hv⟩
  replace k5 := k5.below hv
  replace k6 := k6.below hv
  replace hs3 := hs3.below hv
  replace hg3 := gb_trans hg3 (gbB (r := some w.heap.size) hv)
  replace hb := hb.trans (hv.mono hb.size)
  clear hv
  clear la
  go_upto_region 4 with fail
  go_wp2_with fail
  refine (HP.out _ hb).mono ?_
  rintro e w5 ⟨rfl, hv⟩
  replace k5 := k5.below hv
  replace k6 := k6.below hv
  replace hs3 := hs3.below hv
  replace hg3 := gb_trans hg3 (gbB (r := some w.heap.size) hv)
  replace hb := hb.trans (hv.mono hb.size)
  clear hv
  have st := stT_new (te := 28) rowAd w5 w5.heap.size rfl [.bool false, .int .u64 0, .int .u64 0] [.bool s, .int .u64 (h : Int), .int .u64 (l : Int)] rfl rfl (oneAll rfl)
  have hv : Below w5.heap.size w5 (w5.alloc (.cells ([.bool s, .int .u64 (h : Int), .int .u64 (l : Int)]).toArray 28)) := (Below.refl _ _).alloc (Nat.le_refl _) _
  have k8 := Blk.new w5 [.bool s, .int .u64 (h : Int), .int .u64 (l : Int)] 28
  replace k5 := k5.below hv
  replace k6 := k6.below hv
  replace hs3 := hs3.below hv
  replace hg3 := gb_trans hg3 (gbB (r := some w.heap.size) hv)
  replace hb := hb.trans (hv.mono hb.size)
  clear hv
  go_upto_region 5 with fail
  obtain ⟨pk8, hpk8⟩ : ∃ x, x = w5.heap.size := ⟨_, rfl⟩
  rw [← hpk8] at k8 ⊢
  generalize w5.alloc (.cells ([.bool s, .int .u64 (h : Int), .int .u64 (l : Int)]).toArray 28) = vk8 at *
  clear st hpk8
  go_wp2_with fail
  refine (HL.out _ hb).mono ?_
  rintro e w6 ⟨rfl, hv⟩
  replace k5 := k5.below hv
  replace k6 := k6.below hv
  replace k8 := k8.below hv
  replace hs3 := hs3.below hv
  replace hg3 := gb_trans hg3 (gbB (r := some w.heap.size) hv)
  replace hb := hb.trans (hv.mono hb.size)
  clear hv
  have st := stT_new (te := 28) rowAd w6 w6.heap.size rfl [.bool false, .int .u64 0, .int .u64 0] [.bool s, .int .u64 (h : Int), .int .u64 (l : Int)] rfl rfl (oneAll rfl)
  have hv : Below w6.heap.size w6 (w6.alloc (.cells ([.bool s, .int .u64 (h : Int), .int .u64 (l : Int)]).toArray 28)) := (Below.refl _ _).alloc (Nat.le_refl _) _
  have k10 := Blk.new w6 [.bool s, .int .u64 (h : Int), .int .u64 (l : Int)] 28
  replace k5 := k5.below hv
  replace k6 := k6.below hv
  replace k8 := k8.below hv
  replace hs3 := hs3.below hv
  replace hg3 := gb_trans hg3 (gbB (r := some w.heap.size) hv)
  replace hb := hb.trans (hv.mono hb.size)
  clear hv
  go_upto_region 6 with fail
  obtain ⟨pk10, hpk10⟩ : ∃ x, x = w6.heap.size := ⟨_, rfl⟩
  rw [← hpk10] at k10 ⊢
  generalize w6.alloc (.cells ([.bool s, .int .u64 (h : Int), .int .u64 (l : Int)]).toArray 28) = vk10 at *
  clear st hpk10
  have lp := k5.ld rowPf rfl
  go_wp2_with fail
  refine (HPT.out _ hb).mono ?_
  rintro e w7 ⟨rfl, hv⟩
  replace k5 := k5.below hv
  replace k6 := k6.below hv
  replace k8 := k8.below hv
  replace k10 := k10.below hv
  replace hs3 := hs3.below hv
  replace hg3 := gb_trans hg3 (gbB (r := some w.heap.size) hv)
  replace hb := hb.trans (hv.mono hb.size)
  clear hv
  clear lp
  go_upto_region 7 with fail
  go_wp2_with fail
  refine (HPP.out _ hb).mono ?_
  rintro e w8 ⟨rfl, hv⟩
  replace k5 := k5.below hv
  replace k6 := k6.below hv
  replace k8 := k8.below hv
  replace k10 := k10.below hv
  replace hs3 := hs3.below hv
  replace hg3 := gb_trans hg3 (gbB (r := some w.heap.size) hv)
  replace hb := hb.trans (hv.mono hb.size)
  clear hv
  have st := stT_new (te := 31) rowPf w8 w8.heap.size rfl [.bool false, .int .u64 0, .int .u64 0, .int .i64 0] [.bool ps, .int .u64 (g : Int), .int .u64 (q : Int), .int .i64 (n : Int)] rfl rfl (oneAll rfl)
  have hv : Below w8.heap.size w8 (w8.alloc (.cells ([.bool ps, .int .u64 (g : Int), .int .u64 (q : Int), .int .i64 (n : Int)]).toArray 31)) := (Below.refl _ _).alloc (Nat.le_refl _) _
  have k14 := Blk.new w8 [.bool ps, .int .u64 (g : Int), .int .u64 (q : Int), .int .i64 (n : Int)] 31
  replace k5 := k5.below hv
  replace k6 := k6.below hv
  replace k8 := k8.below hv
  replace k10 := k10.below hv
  replace hs3 := hs3.below hv
  replace hg3 := gb_trans hg3 (gbB (r := some w.heap.size) hv)
  replace hb := hb.trans (hv.mono hb.size)
  clear hv
  go_upto_region 8 with fail
  obtain ⟨pk14, hpk14⟩ : ∃ x, x = w8.heap.size := ⟨_, rfl⟩
  rw [← hpk14] at k14 ⊢
  generalize w8.alloc (.cells ([.bool ps, .int .u64 (g : Int), .int .u64 (q : Int), .int .i64 (n : Int)]).toArray 31) = vk14 at *
  clear st hpk14
  have l8 := k8.ld rowAd rfl
  have l4 := k6.ld rowAd rfl
  have l10 := k10.ld rowAd rfl
  have l14 := k14.ld rowPf rfl
  have l5 := k5.ld rowPf rfl
  clear HT HP HL HPT HPP
  go_upto_region 10 with fail
  clear l8 l4 l10 l14 l5 k5 k6 k8 k10 k14
  go_wp2_with fail
  refine (addrString_any _ _ 900 (hs3.le (by omega)) (hC.tabs.below hb) hng).mono ?_
  rintro e w9 ⟨tt, htl, rfl, hs9, hg9⟩
  replace hb := hB0.trans (gb_toBelow (gb_trans hg3 hg9) (Nat.le_refl _) (by omega))
  clear hs3 hg3 hs9 hg9 hB0 hz0 hng
  have HP := Lib.hid (fun W (hW : Below w.heap.size w W) => parse_any tt W (hC.below hW) (by omega))
  cases hpl : parseL tt with
  | none =>
    rw [hpl] at HP
    have e1 : addrE none = .tuple #[.agg #[.bool false, .int .u64 0, .int .u64 0], .int .i64 9] := rfl
    rw [e1] at HP
    clear e1 hpl hC
    go_wp2_with fail
    refine (HP.out _ hb).mono ?_
    rintro e wA ⟨rfl, hv⟩
    replace hb := hb.trans (hv.mono hb.size)
    have st := stT_new (te := 28) rowAd wA wA.heap.size rfl [.bool false, .int .u64 0, .int .u64 0] [.bool false, .int .u64 0, .int .u64 0] rfl rfl (oneAll rfl)
    replace hb := hb.alloc hb.size (.cells #[.bool false, .int .u64 0, .int .u64 0] 28)
    clear hv HP
    go_wp2_with fail
    refine (HR.out _ hb).mono ?_
    rintro e wB ⟨rfl, hv⟩
    replace hb := hb.trans (hv.mono hb.size)
    clear hv
    go_wp2_with fail
    go_ret
    exact ⟨rfl, hb⟩
  | some x =>
    obtain ⟨xs, xh, xl⟩ := x
    obtain ⟨hlo, htx⟩ := parseL_some hpl
    obtain ⟨v1, v2⟩ := parseL_lt hpl
    have hAF := looseL_adF hlo
    have HT := Lib.hid (fun W (hW : Below w.heap.size w W) => text_any xs (xh : Int) (xl : Int) W (hC.tabs.below hW) (by omega) (by omega) (by omega) (by omega))
    have HL := Lib.hid (fun W (hW : Below w.heap.size w W) => loose_any tt W (hC.below hW) (by omega))
    rw [hpl] at HP
    rw [hlo] at HL
    rw [hAF, htx] at HT
    have e1 : addrE (some (xs, xh, xl)) = .tuple #[.agg #[.bool xs, .int .u64 (xh : Int), .int .u64 (xl : Int)], .int .i64 0] := rfl
    rw [e1] at HP HL
    clear e1 hpl hlo htx hAF v1 v2 hC htl
    go_wp2_with fail
    refine (HP.out _ hb).mono ?_
    rintro e wA ⟨rfl, hv⟩
    replace hb := hb.trans (hv.mono hb.size)
    have st := stT_new (te := 28) rowAd wA wA.heap.size rfl [.bool false, .int .u64 0, .int .u64 0] [.bool xs, .int .u64 (xh : Int), .int .u64 (xl : Int)] rfl rfl (oneAll rfl)
    have hX := Blk.new wA [.bool xs, .int .u64 (xh : Int), .int .u64 (xl : Int)] 28
    replace hb := hb.alloc hb.size (.cells #[.bool xs, .int .u64 (xh : Int), .int .u64 (xl : Int)] 28)
    clear hv HP
    go_upto_region 12 with fail
    obtain ⟨pX, hpX⟩ : ∃ x, x = wA.heap.size := ⟨_, rfl⟩
    rw [← hpX] at hX ⊢
    generalize wA.alloc (.cells #[.bool xs, .int .u64 (xh : Int), .int .u64 (xl : Int)] 28) = wB at *
    clear st hpX
    have lx := hX.ld rowAd rfl
    go_wp2_with fail
    refine (HT.out _ hb).mono ?_
    rintro e wC ⟨rfl, hv⟩
    replace hb := hb.trans (hv.mono hb.size)
    replace hX := hX.below hv
    clear hv lx HT
    go_wp2_with fail
    refine (HL.out _ hb).mono ?_
    rintro e wD ⟨rfl, hv⟩
    replace hb := hb.trans (hv.mono hb.size)
    replace hX := hX.below hv
    have st := stT_new (te := 28) rowAd wD wD.heap.size rfl [.bool false, .int .u64 0, .int .u64 0] [.bool xs, .int .u64 (xh : Int), .int .u64 (xl : Int)] rfl rfl (oneAll rfl)
    have hY := Blk.new wD [.bool xs, .int .u64 (xh : Int), .int .u64 (xl : Int)] 28
    replace hb := hb.alloc hb.size (.cells #[.bool xs, .int .u64 (xh : Int), .int .u64 (xl : Int)] 28)
    replace hX := hX.alloc (.cells #[.bool xs, .int .u64 (xh : Int), .int .u64 (xl : Int)] 28)
    clear hv HL
    go_upto_region 15 with fail
    obtain ⟨pY, hpY⟩ : ∃ x, x = wD.heap.size := ⟨_, rfl⟩
    rw [← hpY] at hY ⊢
    generalize wD.alloc (.cells #[.bool xs, .int .u64 (xh : Int), .int .u64 (xl : Int)] 28) = wE at *
    clear st hpY
    have lx := hX.ld rowAd rfl
    have ly := hY.ld rowAd rfl
    go_wp2_with fail
    refine (HR.out _ hb).mono ?_
    rintro e wF ⟨rfl, hv⟩
    replace hb := hb.trans (hv.mono hb.size)
    clear hv
    go_wp2_with fail
    go_ret
    exact ⟨rfl, hb⟩
end Go.Proofs.YtfiocnjogbpgoaaGreatDoor
