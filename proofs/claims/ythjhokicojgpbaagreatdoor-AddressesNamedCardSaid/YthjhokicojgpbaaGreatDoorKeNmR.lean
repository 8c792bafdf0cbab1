/- The address of a name, as the reference reads it. -/
import Derived.Test.YthjhokicojgpbaaGreatDoorKeNmQ
import Derived.Test.YthjhokicojgpbaaGreatDoorKeNmK
namespace Go.Proofs.YthjhokicojgpbaaGreatDoor
open Go.RowKit
set_option linter.unusedVariables false
set_option linter.unusedSimpArgs false

/-- The number of digits that labels seem to be, the lowest first. -/
def DigP (s : Bool) (ls : List (List UInt8)) (z : Nat) : Prop :=
  z < baseD s ^ ls.length ∧ ∀ ds : List Nat, (∀ d ∈ ds, d < baseD s) → ls = ds.map (labD s) → z = valB (baseD s) ds
theorem digP_nil (s : Bool) : DigP s [] 0 := ⟨by simp, fun ds _ h => by
  cases ds with
  | nil => rfl
  | cons d r => cases h⟩
theorem digP_snoc {s : Bool} {ls : List (List UInt8)} {p : List UInt8} {z y : Nat} (h : DigP s ls z) (hy : y < baseD s) (hy' : ∀ d, d < baseD s → p = labD s d → y = d) : DigP s (ls ++ [p]) (z ||| (y * baseD s ^ ls.length)) := by
  obtain ⟨hB, i, hi⟩ := base_pow s
  have e : z ||| (y * baseD s ^ ls.length) = y * baseD s ^ ls.length + z := by
    have h1 := h.1
    have hp : baseD s ^ ls.length = 2 ^ (i * ls.length) := by rw [hi, ← Nat.pow_mul]
    rw [hp] at h1 ⊢
    rw [Nat.or_comm]
    exact nat_join _ _ _ (Nat.mul_mod_left _ _) h1
  rw [e]
  refine ⟨?_, fun ds hd he => ?_⟩
  · rw [List.length_append, List.length_singleton, Nat.pow_succ]
    have h1 := h.1
    have h2 : (y + 1) * baseD s ^ ls.length ≤ baseD s * baseD s ^ ls.length := Nat.mul_le_mul_right _ hy
    rw [Nat.add_mul, Nat.one_mul] at h2
    rw [Nat.mul_comm (baseD s ^ ls.length) (baseD s)]
    omega
  · obtain ⟨l1, l2, rfl, h1, h2⟩ := List.map_eq_append_iff.1 he.symm
    cases l2 with
    | nil => cases h2
    | cons d l3 =>
      cases l3 with
      | cons _ _ => cases h2
      | nil =>
        have hp : labD s d = p := (List.cons.inj h2).1
        have hz := h.2 l1 (fun x hx => hd x (List.mem_append_left _ hx)) h1.symm
        have hyd := hy' d (hd d (List.mem_append_right _ List.mem_cons_self)) hp.symm
        have hlen : ls.length = l1.length := by rw [← h1, List.length_map]
        rw [valB_snoc, ← hz, hyd, hlen, Nat.mul_comm d, Nat.add_comm]
theorem and255 (x : Int) : ∃ y : Nat, bits .and .i64 x 255 = (y : Int) ∧ y < 256 ∧ ∀ d : Nat, d < 256 → x = d → y = d := by
  have e : bits .and .i64 x 255 = IntKind.i64.wrap (((BitVec.ofInt 64 x).toNat &&& 255 : Nat) : Int) := by
    show IntKind.i64.wrap ((BitVec.ofInt 64 x &&& BitVec.ofInt 64 255).toNat : Int) = _
    rw [BitVec.toNat_and]; rfl
  have hle : (BitVec.ofInt 64 x).toNat &&& 255 ≤ 255 := Nat.and_le_right
  refine ⟨(BitVec.ofInt 64 x).toNat &&& 255, ?_, by omega, fun d hd hx => ?_⟩
  · rw [e, IntKind.wrap_i64]; omega
  · subst hx
    rw [ofInt_u64 d (by omega), show (255 : Nat) = 2 ^ 8 - 1 from rfl, Nat.and_two_pow_sub_one_eq_mod]
    omega
theorem sh256 {y k : Nat} (hy : y < 256) (hk : k < 4) : IntKind.u64.wrap ((y : Int) * 2 ^ Int.toNat (8 * (k : Int))) = ((y * 256 ^ k : Nat) : Int) := by
  have h : k = 0 ∨ k = 1 ∨ k = 2 ∨ k = 3 := by omega
  rw [IntKind.wrap_u64]
  rcases h with rfl | rfl | rfl | rfl
  · show ((y : Int) * 1) % _ = ((y * 1 : Nat) : Int); omega
  · show ((y : Int) * 256) % _ = ((y * 256 : Nat) : Int); omega
  · show ((y : Int) * 65536) % _ = ((y * 65536 : Nat) : Int); omega
  · show ((y : Int) * 16777216) % _ = ((y * 16777216 : Nat) : Int); omega
/-- What the reference says of a name. -/
def RefP (l : List UInt8) (v : Value) : Prop :=
  (∃ (s : Bool) (hi lo : Nat), RightN s hi lo ∧ l = backL s hi lo ∧ v = .tuple #[adV s (hi : Int) (lo : Int), .bool true]) ∨
  ((∀ (s : Bool) (hi lo : Nat), RightN s hi lo → l ≠ backL s hi lo) ∧ v = .tuple #[adV false 0 0, .bool false])
theorem pieces_backlen (s : Bool) (hi lo : Nat) : (pieces (backL s hi lo) 46).length = if s then 34 else 6 := by
  rw [pieces_back, List.length_append, List.length_map, adDigs_len]; cases s <;> rfl

set_option maxHeartbeats 4000000 in
set_option maxRecDepth 100000 in
theorem ofBack4_any (l : List UInt8) (w : World) (hC : Cons w) (hl : l.length ≤ 1000) (h6 : (pieces l 46).length = 6) :
    Calls Tryz.prog 17 #[.string ⟨l.toArray⟩] w fun e w' => ∃ v, e = .returned v ∧ RefP l v ∧ Below w.heap.size w w' := by
  have hbw : Below w.heap.size w (w.alloc (.cells #[.bool false, .int .u64 0, .int .u64 0] 28)) := (Below.refl _ _).alloc (Nat.le_refl _) _
  have hR := Blk.new w [.bool false, .int .u64 0, .int .u64 0] 28
  have hC' := Lib.hid hC
  have hps := Lib.hid (fun p (hp : p ∈ pieces l 46) => Nat.le_trans (pieces_short l 46 p hp) (Nat.le_trans hl (by decide : 1000 ≤ 100000)))
  have HS := Lib.hid (splitE_any l _ (hC.below hbw) (Nat.le_trans hl (by decide)))
  obtain ⟨ls, hls⟩ : ∃ ls, ls = pieces l 46 := ⟨_, rfl⟩
  rw [← hls] at HS hps h6
  replace hls := Lib.hid hls
  replace h6 := Lib.hid h6
  clear hC hl
  go_enter Tryz.func17, Tryz.ntmps17
  go_wp2_with fail
  refine HS.out.mono ?_
  rintro e w1 ⟨g, off, n, cap, rfl, hS, hn1, hn2, hb3⟩
  replace hR := hR.below hb3
  replace hbw := hbw.trans (hb3.mono hbw.size)
  have hn6 : n = 6 := by rw [hS.1, h6.out]
  subst hn6
  have hg1 := (hS.at' (k := 0) (by omega))
  obtain ⟨g', off', e, hgw, _⟩ := hg1
  cases e
  have hA := Blk.new w1 [.bool false, .int .u64 0, .int .u64 0] 28
  obtain ⟨pa, hpa⟩ : ∃ p, p = w1.heap.size := ⟨_, rfl⟩
  have hb4 : Below w1.heap.size w1 (w1.alloc (.cells [.bool false, .int .u64 0, .int .u64 0].toArray 28)) := (Below.refl _ _).alloc (Nat.le_refl _) _
  have hRw : w.heap.size < pa := by rw [hpa]; exact hR.lt
  replace hR := hR.below hb4
  replace hbw := hbw.trans (hb4.mono hbw.size)
  replace hS := hS.below hb4
  rw [← hpa] at hA hgw
  replace hpa := Lib.hid hpa
  clear hb3 hb4 hn1 hn2 HS
  go_wp2_with fail
  rw [← hpa.out]
  generalize World.alloc w1 _ = w2 at *
  go_loopw [18] (fun i wr => ∃ k z : Nat, k ≤ 4 ∧ i = .int .i64 (k : Int) ∧ Blk wr pa [.bool false, .int .u64 0, .int .u64 (z : Int)] 28 ∧ Blk wr w.heap.size [.bool false, .int .u64 0, .int .u64 0] 28 ∧ SlE eStr wr (some ⟨g, off, none⟩) 6 cap ls ∧ Below w.heap.size w wr ∧ Hid (DigP false (ls.take k) z)) (fun i _ => 4 - (intOf i).toNat)
  case atStart => exact ⟨0, 0, by omega, rfl, hA, hR, hS, hbw, Lib.hid (by rw [List.take_zero]; exact digP_nil false)⟩
  case round =>
    clear hA hR hS hbw
    obtain ⟨k, z, hk, rfl, hA, hR, hS, hbw, hI⟩ := hrel
    by_cases hlt : k < 4
    · have hlt' : (k : Int) < 4 := by omega
      have hk6 : (k : Int) < 6 := by omega
      obtain ⟨p, hp⟩ : ∃ p, ls[k]? = some p := ⟨ls[k]'(by have := hS.1; omega), List.getElem?_eq_getElem _⟩
      obtain ⟨g', off', e, _, hc⟩ := hS.at' (k := k) (by omega)
      cases e
      have hcell := hc k p hp 0 (.string ⟨p.toArray⟩) rfl
      rw [show eStr.k = 1 from rfl, Nat.mul_one, Nat.add_zero] at hcell
      have HN := Lib.hid (numberRef_any p _ (hC'.out.below hbw) (hps.out p (List.mem_of_getElem? hp)))
      have hz64 := Lib.hid (show z < 2 ^ 32 ∧ ls.take (k + 1) = ls.take k ++ [p] ∧ (ls.take k).length = k from ⟨by
        have h1 := hI.out.1
        have h2 : (ls.take k).length = k := by rw [List.length_take]; have := hS.1; omega
        rw [h2] at h1
        have : baseD false ^ k ≤ 256 ^ 4 := Nat.pow_le_pow_right (by decide) hk
        exact Nat.lt_of_lt_of_le h1 this, by
        rw [List.take_add_one, hp]; rfl, by rw [List.length_take]; have := hS.1; omega⟩)
      replace hp := Lib.hid hp
      clear hc
      go_wp2_with fail
      refine HN.out.mono ?_
      rintro e u1 ⟨x, b, rfl, hx, hb⟩
      replace hA := hA.below hb
      replace hR := hR.below hb
      replace hS := hS.below hb
      replace hbw := hbw.trans (hb.mono hbw.size)
      replace hx := Lib.hid hx
      obtain ⟨y, hy, hy256, hyd⟩ := and255 x
      have hsh := sh256 hy256 hlt
      have hy64 : IntKind.u64.wrap (y : Int) = (y : Int) := by rw [IntKind.wrap_u64]; omega
      replace hyd := Lib.hid hyd
      clear hb HN hcell
      obtain ⟨Y, hY⟩ : ∃ Y, Y = y * 256 ^ k := ⟨_, rfl⟩
      rw [← hY] at hsh
      have hY32 : Y < 2 ^ 32 := by
        rw [hY]
        have h1 : (256 : Nat) ^ k ≤ 256 ^ 3 := Nat.pow_le_pow_right (by decide) (by omega)
        have h2 : y * 256 ^ k ≤ 255 * 256 ^ 3 := Nat.mul_le_mul (by omega) h1
        omega
      obtain ⟨Z, hZ⟩ : ∃ Z, Z = z ||| Y := ⟨_, rfl⟩
      have hor : bits .or .u64 (z : Int) (Y : Int) = (Z : Int) := by
        have := hz64.out.1
        rw [hZ, u64_or_nat z Y (by omega) (by omega)]
      have hnew := Lib.hid (show DigP false (ls.take (k + 1)) Z by
        have h2 := digP_snoc hI.out hy256 (fun d hd he => hyd.out d hd (hx.out d hd he))
        rw [hz64.out.2.2] at h2
        rw [hz64.out.2.1, hZ, hY]; exact h2)
      replace hY := Lib.hid hY
      replace hZ := Lib.hid hZ
      replace hY32 := Lib.hid hY32
      have hw8 : IntKind.i64.wrap (8 * (k : Int)) = 8 * (k : Int) := by rw [IntKind.wrap_i64]; omega
      have hk0 := Lib.hid hk
      have hlt0 := Lib.hid hlt
      clear hy256 hlt hk
      go_upto_region 10 with fail
      refine wb_begin ([pa]) [10] (by kernel_rfl) (fun u0 hb0' hz0' => ?_)
      replace hA := hA.below hb0'
      replace hR := hR.below hb0'
      replace hS := hS.below hb0'
      replace hbw := hbw.trans (hb0'.mono hbw.size)
      clear hb0' hz0'
      refine wb_pure (i := 0) (d := some 29) (v := ?_) (by simp only [List.getElem?_toArray, List.getElem?_cons_succ, List.getElem?_cons_zero] <;> rfl) (by rfl) (by kernel_rfl) (by kernel_rfl) (by kernel_rfl) (fun _ _ _ h => h) (by rfl) ?_ ?_
      rotate_left
      · ((intro u); go_simp; try with_reducible rfl)
      try simp only [Act.put, List.setIfInBounds_toArray, List.set_cons_zero, List.set_cons_succ]
      refine wb_take (i := 1) (d := some 30) (v := ?_) (by simp only [List.getElem?_toArray, List.getElem?_cons_succ, List.getElem?_cons_zero] <;> rfl) (by rfl) (by kernel_rfl) (by kernel_rfl) (by kernel_rfl) (fun _ _ _ h => h) (by rfl) (by kernel_rfl) ?_ ?_
      rotate_left
      · ((intro u hu); have kc := hA.kb hu (List.mem_singleton.2 rfl); have q2 := kc.cell (i := 2) (v := .int .u64 (z : Int)) rfl; clear kc; go_simp; try with_reducible rfl)
      try simp only [Act.put, List.setIfInBounds_toArray, List.set_cons_zero, List.set_cons_succ]
      refine wb_pure (i := 2) (d := some 31) (v := ?_) (by simp only [List.getElem?_toArray, List.getElem?_cons_succ, List.getElem?_cons_zero] <;> rfl) (by rfl) (by kernel_rfl) (by kernel_rfl) (by kernel_rfl) (fun _ _ _ h => h) (by rfl) ?_ ?_
      rotate_left
      · ((intro u); go_simp; try with_reducible rfl)
      try simp only [Act.put, List.setIfInBounds_toArray, List.set_cons_zero, List.set_cons_succ]
      refine wb_pure (i := 3) (d := some 32) (v := ?_) (by simp only [List.getElem?_toArray, List.getElem?_cons_succ, List.getElem?_cons_zero] <;> rfl) (by rfl) (by kernel_rfl) (by kernel_rfl) (by kernel_rfl) (fun _ _ _ h => h) (by rfl) ?_ ?_
      rotate_left
      · ((intro u); go_simp; try with_reducible rfl)
      try simp only [Act.put, List.setIfInBounds_toArray, List.set_cons_zero, List.set_cons_succ]
      refine wb_pure (i := 4) (d := some 33) (v := ?_) (by simp only [List.getElem?_toArray, List.getElem?_cons_succ, List.getElem?_cons_zero] <;> rfl) (by rfl) (by kernel_rfl) (by kernel_rfl) (by kernel_rfl) (fun _ _ _ h => h) (by rfl) ?_ ?_
      rotate_left
      · ((intro u); go_simp; try with_reducible rfl)
      try simp only [Act.put, List.setIfInBounds_toArray, List.set_cons_zero, List.set_cons_succ]
      refine wb_pure (i := 5) (d := some 34) (v := ?_) (by simp only [List.getElem?_toArray, List.getElem?_cons_succ, List.getElem?_cons_zero] <;> rfl) (by rfl) (by kernel_rfl) (by kernel_rfl) (by kernel_rfl) (fun _ _ _ h => h) (by rfl) ?_ ?_
      rotate_left
      · ((intro u); go_simp; try with_reducible rfl)
      try simp only [Act.put, List.setIfInBounds_toArray, List.set_cons_zero, List.set_cons_succ]
      refine wb_pure (i := 6) (d := some 35) (v := ?_) (by simp only [List.getElem?_toArray, List.getElem?_cons_succ, List.getElem?_cons_zero] <;> rfl) (by rfl) (by kernel_rfl) (by kernel_rfl) (by kernel_rfl) (fun _ _ _ h => h) (by rfl) ?_ ?_
      rotate_left
      · ((intro u); go_simp; try with_reducible rfl)
      try simp only [Act.put, List.setIfInBounds_toArray, List.set_cons_zero, List.set_cons_succ]
      refine wb_pure (i := 7) (d := some 36) (v := ?_) (by simp only [List.getElem?_toArray, List.getElem?_cons_succ, List.getElem?_cons_zero] <;> rfl) (by rfl) (by kernel_rfl) (by kernel_rfl) (by kernel_rfl) (fun _ _ _ h => h) (by rfl) ?_ ?_
      rotate_left
      · ((intro u); go_simp; try with_reducible rfl)
      try simp only [Act.put, List.setIfInBounds_toArray, List.set_cons_zero, List.set_cons_succ]
      refine wb_pure (i := 8) (d := some 37) (v := ?_) (by simp only [List.getElem?_toArray, List.getElem?_cons_succ, List.getElem?_cons_zero] <;> rfl) (by rfl) (by kernel_rfl) (by kernel_rfl) (by kernel_rfl) (fun _ _ _ h => h) (by rfl) ?_ ?_
      rotate_left
      · ((intro u); go_simp; try with_reducible rfl)
      try simp only [Act.put, List.setIfInBounds_toArray, List.set_cons_zero, List.set_cons_succ]
      refine wb_pure (i := 9) (d := some 38) (v := ?_) (by simp only [List.getElem?_toArray, List.getElem?_cons_succ, List.getElem?_cons_zero] <;> rfl) (by rfl) (by kernel_rfl) (by kernel_rfl) (by kernel_rfl) (fun _ _ _ h => h) (by rfl) ?_ ?_
      rotate_left
      · ((intro u); go_simp; try with_reducible rfl)
      try simp only [Act.put, List.setIfInBounds_toArray, List.set_cons_zero, List.set_cons_succ]
      refine wb_store (i := 10) (by simp only [List.getElem?_toArray, List.getElem?_cons_succ, List.getElem?_cons_zero] <;> rfl) (by kernel_rfl) (by rfl) (by kernel_rfl) (fun K hK => ?_)
      have c2 := hA.cell (i := 2) (v := .int .u64 (z : Int)) rfl
      have f2 := hA.free 2
      go_simp
      refine hK.out _ _ ?_
      clear hK K
      try simp only [Act.put, List.setIfInBounds_toArray, List.set_cons_zero, List.set_cons_succ]
      refine wb_done (by kernel_rfl) ?_ _
      skip
      have hA2 : Blk (u0.setCell ⟨pa, 2, none⟩ (.int .u64 (Z : Int))) pa [.bool false, .int .u64 0, .int .u64 (Z : Int)] 28 := hA.set 2 (.int .u64 (Z : Int))
      have hR2 := hR.other (a := ⟨pa, 2, none⟩) (by show w.heap.size ≠ pa; omega) (.int .u64 (Z : Int))
      have hS2 := hS.from' (B := pa) (fun g' off' e => by cases e; exact hgw) ((Below.refl pa u0).setCell (p := ⟨pa, 2, none⟩) (Nat.le_refl _) (.int .u64 (Z : Int)))
      have hbw2 := hbw.setCell (p := ⟨pa, 2, none⟩) (by show w.heap.size ≤ pa; omega) (.int .u64 (Z : Int))
      clear hA hR hS hbw
      go_wp2_with fail
      go_roundw
      case rel => exact ⟨k + 1, Z, by have := hlt0.out; omega, by go_num, hA2, hR2, hS2, hbw2, hnew⟩
      case measure => have := hlt0.out; simp [intOf]; omega
    · have hk4 : k = 4 := by omega
      subst hk4
      clear hlt hk hgw
      have hz32 : z < 2 ^ 32 := by
        have h1 := hI.out.1
        rw [List.length_take, h6.out] at h1
        exact h1
      have hR0 := Lib.hid (show RightN false 0 z from ⟨by decide, Nat.lt_trans hz32 (by decide), fun _ => ⟨rfl, hz32⟩⟩)
      have HB := Lib.hid (backName4_any 0 z wr (hC'.out.below hbw).tabs hz32)
      obtain ⟨T, hT⟩ : ∃ T, T = backL false 0 z := ⟨_, rfl⟩
      rw [← hT] at HB
      have hno := Lib.hid (show T ≠ l → RefP l (.tuple #[adV false 0 0, .bool false]) from fun hne => .inr ⟨fun t h0 l0 hRt hlt => by
        have hlen := pieces_backlen t h0 l0
        rw [← hlt, ← hls.out, h6.out] at hlen
        cases t with
        | true => cases hlen
        | false =>
          have hp : ls = (digs 256 l0 4).map (labD false) ++ tailD false := by rw [hls.out, hlt, pieces_back]; rfl
          have ht : ls.take 4 = (digs 256 l0 4).map (labD false) := by
            rw [hp]; exact List.take_left' (by rw [List.length_map, digs_len])
          have hz := hI.out.2 (digs 256 l0 4) (fun d hd => digs_lt (by decide) hd) ht
          have hz' : z = l0 := by rw [hz]; exact digs_num4 (hRt.2.2 rfl).2
          exact hne (by rw [hT, hlt, hz', (hRt.2.2 rfl).1]), rfl⟩)
      have hyes := Lib.hid (show T = l → RefP l (.tuple #[adV false ((0 : Nat) : Int) (z : Int), .bool true]) from fun he => .inl ⟨false, 0, z, hR0.out, by rw [← he, hT], rfl⟩)
      clear hT hI hS hz32
      obtain ⟨a0, a1, a2, g0, g1, g2⟩ := hA.three
      by_cases hTl : T = l
      · have hfin := Lib.hid (hyes.out hTl)
        subst hTl
        go_wp2_with fail
        refine HB.out.mono ?_
        rintro e w5 ⟨rfl, hb⟩
        replace hA := hA.below hb
        replace hR := hR.below hb
        replace hbw := hbw.trans (hb.mono hbw.size)
        clear hb HB a0 a1 a2 g0 g1 g2
        obtain ⟨a0, a1, a2, g0, g1, g2⟩ := hA.three
        obtain ⟨u0, u1, u2, f0, f1, f2⟩ := hR.three
        go_wp2_with fail
        refine bodyPost_ret (v := .tuple #[adV false ((0 : Nat) : Int) (z : Int), .bool true]) ?_ rfl ⟨_, rfl, hfin.out, below_3n hbw (Nat.le_refl _) _ _ _⟩
        simp [results, Tryz.results17, go_sem, u0, u1, u2, adV]
      · have hfin := Lib.hid (hno.out hTl)
        have hne : (T == l) = false := beq_eq_false_iff_ne.2 hTl
        go_wp2_with fail
        refine HB.out.mono ?_
        rintro e w5 ⟨rfl, hb⟩
        replace hA := hA.below hb
        replace hR := hR.below hb
        replace hbw := hbw.trans (hb.mono hbw.size)
        clear hb HB a0 a1 a2 g0 g1 g2
        obtain ⟨a0, a1, a2, g0, g1, g2⟩ := hA.three
        obtain ⟨u0, u1, u2, f0, f1, f2⟩ := hR.three
        go_wp2_with fail
        refine bodyPost_ret (v := .tuple #[adV false 0 0, .bool false]) ?_ rfl ⟨_, rfl, hfin.out, below_3n hbw (Nat.le_refl _) _ _ _⟩
        simp [results, Tryz.results17, go_sem, u0, u1, u2, adV]
end Go.Proofs.YthjhokicojgpbaaGreatDoor
