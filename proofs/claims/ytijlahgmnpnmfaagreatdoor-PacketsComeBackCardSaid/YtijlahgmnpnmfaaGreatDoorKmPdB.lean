/- Packets that are read: bytes as numbers. -/
import Derived.Test.YtijlahgmnpnmfaaGreatDoorKmPcD
import Derived.Test.YtijlahgmnpnmfaaGreatDoorKmWaysB
import Derived.Deep.Onto
namespace Go.Proofs.YtijlahgmnpnmfaaGreatDoor
open Go.RowKit
set_option linter.unusedVariables false
set_option linter.unusedSimpArgs false

/-- A slice of bytes in a row of one's own, which lies from block B on. -/
def Own (B : Nat) (w : World) (v : Value) (bs : List Nat) : Prop := w.ownsRow B 5 1 v bs.length (bV bs)
theorem Own.mono {B B' : Nat} {w : World} {v : Value} {bs : List Nat} (h : Own B' w v bs) (hb : B ≤ B') : Own B w v bs := World.ownsRow.mono h hb
theorem Own.below {B : Nat} {w w' : World} {v : Value} {bs : List Nat} (h : Own B w v bs) (hb : Below w.heap.size w w') : Own B w' v bs :=
  World.ownsRow.kept (row := none) h (gbB hb) (by
    cases hv : v.ownBlock with
    | none => exact .inl rfl
    | some k => exact .inr (by intro e; cases e))
theorem Own.nil (B : Nat) (w : World) : Own B w (.slice none 0 0) [] := World.ownsRow_nil _ _ _ _
theorem Own.lt {B : Nat} {w : World} {v : Value} {bs : List Nat} (h : Own B w v bs) : ∀ k, v.ownBlock = some k → B ≤ k ∧ k < w.heap.size := World.ownsRow.lt h
theorem Own.sl {B : Nat} {w : World} {v : Value} {bs : List Nat} (h : Own B w v bs) : ∃ A cap, v = .slice A bs.length cap ∧ SlB w A bs.length cap bs ∧ (A = none → cap = 0) := by
  obtain ⟨A, cap, rfl, hS⟩ := Sl.of_own h
  refine ⟨A, cap, rfl, hS, fun hA => ?_⟩
  rcases h.2 with ⟨hv, _⟩ | ⟨g, c, cur, hv, _⟩
  · injection hv
  · rw [hA] at hv; injection hv with h1; cases h1
theorem Own.lit (w : World) (bs : List Nat) (n : Nat) (hn : n = bs.length) (hm : n ≤ maxLen) : Own w.heap.size (w.alloc (.cells (bV bs).toArray 5)) (.slice (some ⟨w.heap.size, 0, none⟩) n n) bs := by
  subst hn
  have h := World.ownsRow_lit (base := w.heap.size) (e := 5) (size := 1) w (bV bs).toArray bs.length (Nat.le_refl _) hm (by simp [bV])
  exact h
theorem Blk.upB {w w' : World} {p B : Nat} {cs : List Value} {t : TypeId} (h : Blk w p cs t) (hp : p < B) (hb : Below B w w') : Blk w' p cs t := (hb.block p hp).trans h

theorem Blk.gbn {w w' : World} {p : Nat} {o : Option Nat} {cs : List Value} {t : TypeId} (h : Blk w p cs t) (hg : w.grownBy w' o) (hne : o ≠ some p) : Blk w' p cs t := (hg.block p h.lt (fun e => hne e.symm)).trans h

theorem frB {u u0 u' : World} {v v' : Value} (h : Below u.heap.size u u0) (k : Fr u0 u' v v') : Fr u u' v v' :=
  ⟨gb_trans (gbB h) k.gb, fun p hp hne => k.at' p (Nat.lt_of_lt_of_le hp h.size) hne⟩
theorem number_own (B size : Nat) (v : Value) (xs : List Nat) (z : Int) (w : World) (hown : Own B w v xs) (hbase : B ≤ w.heap.size) (hm : xs.length ≤ 100000) (hs : size ≤ 8) (h0 : 0 ≤ z) (h1 : z < 18446744073709551616) :
    Calls Tryz.prog 38 #[v, .int .i64 size, .int .u64 z] w fun e w' => ∃ v', e = .returned v' ∧ Own B w' v' (xs ++ be z.toNat size) ∧ Below B w w' ∧ Fr w w' v v' := by
  refine (numb_any B xs.length size v xs z w hown hbase hm hs h0 h1).mono ?_
  rintro e w' ⟨v', rfl, h, hb⟩
  exact ⟨v', rfl, by unfold Own; rw [List.length_append, be_len]; exact h, hb⟩
/-- append of a slice to one's own row, as one operation. -/
theorem wp_append_slB_fr {w : World} {o : Oper} {a : Act} {K : Act → World → Prop} {Q : Exit → Act → World → Prop} (s x : Operand)
    (ho : o.op = .call { callee := .builtin .append, args := #[s, x], argTypes := #[29, 29] })
    (B : Nat) (v : Value) (xs : List Nat) (hs : a.eval s = v) (hown : Own B w v xs)
    (A : Option Addr) (m c : Nat) (gs : List Nat) (hx : a.eval x = .slice A m c) (hS : SlB w A m c gs) (hA : A = none → c = 0) (hb : xs.length + m ≤ 1000000) (hbase : B ≤ w.heap.size)
    (h : ∀ v' w', Own B w' v' (xs ++ gs) → w.grownBy w' v.ownBlock → Fr w w' v v' → K (a.put o.dst v') w') : Oper.wp Tryz.prog o a w K Q := by
  obtain ⟨i0, hi0, hz0, hz1, hz2⟩ := info_parts8 info_u8
  have hl := hS.len
  cases A with
  | none =>
    obtain rfl := hA rfl
    have hm : m = 0 := by
      rcases hS.2.2 with h0 | ⟨_, _, h0, _⟩
      · exact h0
      · cases h0
    subst hm
    have hg : gs = [] := List.eq_nil_of_length_eq_zero hl.symm
    subst hg
    have hrun := run_append_owned_none (P := Tryz.prog) (w := w) B 29 o.type 5 i0 1 Tryz.underlying29 hi0 v xs.length (bV xs) hown
    unfold Oper.wp
    simp [execOp, ho, resolve, invoke, builtin, hs, hx, hrun, Result.andThen]
    exact h _ _ (by rw [List.append_nil]; exact hown) (World.grownBy.refl _ _) (Fr.refl _ _)
  | some ad =>
    obtain ⟨v', w', hr, h2, h3, h4, h5⟩ := run_append_own_at (P := Tryz.prog) w B 29 o.type 5 i0 (.int .u8 0) 1 1 Tryz.underlying29 hi0 hz0 hz1 hz2 rfl (by decide) v xs.length (bV xs) hown ad m c (bV gs) (by rw [Nat.mul_one]; exact hS.1.symm) (fun j u hj => by
      rcases hS.2.2 with h0 | ⟨g, off, h0, _, h2⟩
      · have h1 : (bV gs).length = 0 := by rw [← hS.1]; exact h0
        rw [List.eq_nil_of_length_eq_zero h1] at hj
        cases hj
      · cases h0
        have e : Addr.add ⟨g, off, none⟩ j = ⟨g, off + j, none⟩ := by
          unfold Addr.add
          split
          · rename_i h; subst h; rfl
          · rfl
        rw [e]
        exact h2 j u hj) (fun u hu => by
      obtain ⟨g, _, rfl⟩ := List.mem_map.1 hu
      rfl) (by unfold maxLen; omega) (by omega) hbase
    unfold Oper.wp execOp
    simp only [ho, resolve, invoke, builtin, Sem.run_bind, Sem.run_pure, Result.andThen_ok, List.map_toArray, List.map_cons, List.map_nil, hs, hx, hr]
    refine h v' w' ?_ h3 (Fr.step h3 h5)
    unfold Own
    rw [List.length_append, bV_app, ← hl]
    exact h2
theorem wp_append_slB {w : World} {o : Oper} {a : Act} {K : Act → World → Prop} {Q : Exit → Act → World → Prop} (s x : Operand)
    (ho : o.op = .call { callee := .builtin .append, args := #[s, x], argTypes := #[29, 29] })
    (B : Nat) (v : Value) (xs : List Nat) (hs : a.eval s = v) (hown : Own B w v xs)
    (A : Option Addr) (m c : Nat) (gs : List Nat) (hx : a.eval x = .slice A m c) (hS : SlB w A m c gs) (hA : A = none → c = 0) (hb : xs.length + m ≤ 1000000) (hbase : B ≤ w.heap.size)
    (h : ∀ v' w', Own B w' v' (xs ++ gs) → w.grownBy w' v.ownBlock → K (a.put o.dst v') w') : Oper.wp Tryz.prog o a w K Q :=
  wp_append_slB_fr s x ho B v xs hs hown A m c gs hx hS hA hb hbase (fun v' w' h1 h2 _ => h v' w' h1 h2)
theorem own_next {B : Nat} {w w' : World} {v : Value} {xs : List Nat} (hg : w.grownBy w' v.ownBlock) (ho : Own B w v xs) (hb : B ≤ w.heap.size) : Below B w w' :=
  (Below.refl _ _).grown hg hb (fun k h => (ho.lt k h).1)

/-- An address as bytes. -/
def adBy (s : Bool) (hi lo : Int) : List Nat := if s then be hi.toNat 8 ++ be lo.toNat 8 else be lo.toNat 4
theorem adB_len (s : Bool) (hi lo : Int) : (adBy s hi lo).length ≤ 16 := by unfold adBy; split <;> simp [be_len]
theorem adB_byt (s : Bool) (hi lo : Int) : Byt (adBy s hi lo) := by
  unfold adBy; split
  · exact Byt.app (be_lt _ _) (be_lt _ _)
  · exact be_lt _ _
def Wd (hi lo : Int) : Prop := 0 ≤ hi ∧ hi < 18446744073709551616 ∧ 0 ≤ lo ∧ lo < 18446744073709551616

set_option maxHeartbeats 2000000 in
set_option maxRecDepth 100000 in
theorem addrBytesP_any (B0 : Nat) (v : Value) (xs : List Nat) (s : Bool) (hi lo : Int) (w : World) (hr : Wd hi lo) (ho0 : Own B0 w v xs) (hB0 : B0 ≤ w.heap.size) (hm : xs.length ≤ 10000) :
    Calls Tryz.prog 39 #[v, .agg #[.bool s, .int .u64 hi, .int .u64 lo]] w fun e w' => ∃ v', e = .returned v' ∧ Own B0 w' v' (xs ++ adBy s hi lo) ∧ Below B0 w w' ∧ Fr w w' v v' := by
  have hP := Blk.new w [.bool s, .int .u64 hi, .int .u64 lo] 28
  have hw : Below w.heap.size w (w.alloc (.cells #[.bool s, .int .u64 hi, .int .u64 lo] 28)) := (Below.refl _ _).alloc (Nat.le_refl _) _
  replace hw := hw.mono hB0
  have ho := ho0.below ((Below.refl _ _).alloc (Nat.le_refl _) (.cells #[.bool s, .int .u64 hi, .int .u64 lo] 28))
  have hne : v.ownBlock ≠ some w.heap.size := fun e => by have := (ho0.lt _ e).2; omega
  obtain ⟨c0, c1, c2, _⟩ := hP.three
  cases s
  · have HB := Lib.hid (number_own B0 4 v xs lo _ ho (by simp; omega) (by omega) (by omega) hr.2.2.1 hr.2.2.2)
    replace ho := Lib.hid ho
    replace ho0 := Lib.hid ho0
    go_enter Tryz.func39, Tryz.ntmps39
    go_wp2_with fail
    refine HB.out.mono ?_
    rintro e u1 ⟨v1, rfl, ho1, hv1, hf1⟩
    replace hw := hw.trans hv1
    replace hf1 := Lib.hid (Fr.alloc _ hf1)
    replace ho1 := Lib.hid ho1
    clear HB hv1
    go_wp2_with fail
    go_ret
    exact ⟨_, rfl, ho1.out, hw, hf1.out⟩
  · replace hr := Lib.hid hr
    replace ho := Lib.hid ho
    replace ho0 := Lib.hid ho0
    go_enter Tryz.func39, Tryz.ntmps39
    go_wp2_with fail
    clear c0 c1 c2
    refine wb_begin ([w.heap.size]) [] (by kernel_rfl) (fun u0 hb0' hz0' => ?_)
    have hb0'' := hb0'
    replace hP := hP.below hb0'
    replace hw := hw.trans (hb0'.mono (by simp; omega))
    have hBz : w.heap.size < u0.heap.size := by rw [hz0']; simp
    clear hz0'
    refine wb_pure (i := 0) (d := some 12) (v := ?_) (by simp only [List.getElem?_toArray, List.getElem?_cons_succ, List.getElem?_cons_zero] <;> rfl) (by rfl) (by kernel_rfl) (by kernel_rfl) (by kernel_rfl) (fun _ _ _ h => h) (by rfl) ?_ ?_
    rotate_left
    · ((intro u); go_simp; try with_reducible rfl)
    try simp only [Act.put, List.setIfInBounds_toArray, List.set_cons_zero, List.set_cons_succ]
    refine wb_pure (i := 1) (d := some 13) (v := ?_) (by simp only [List.getElem?_toArray, List.getElem?_cons_succ, List.getElem?_cons_zero] <;> rfl) (by rfl) (by kernel_rfl) (by kernel_rfl) (by kernel_rfl) (fun _ _ _ h => h) (by rfl) ?_ ?_
    rotate_left
    · ((intro u); go_simp; try with_reducible rfl)
    try simp only [Act.put, List.setIfInBounds_toArray, List.set_cons_zero, List.set_cons_succ]
    refine wb_take (i := 2) (d := some 14) (v := ?_) (by simp only [List.getElem?_toArray, List.getElem?_cons_succ, List.getElem?_cons_zero] <;> rfl) (by rfl) (by kernel_rfl) (by kernel_rfl) (by kernel_rfl) (fun _ _ _ h => h) (by rfl) (by kernel_rfl) ?_ ?_
    rotate_left
    · ((intro u hu); obtain ⟨c0, c1, c2, _⟩ := (hP.kb hu (by simp)).three; go_simp; try with_reducible rfl)
    try simp only [Act.put, List.setIfInBounds_toArray, List.set_cons_zero, List.set_cons_succ]
    refine wb_pure (i := 4) (d := some 16) (v := ?_) (by simp only [List.getElem?_toArray, List.getElem?_cons_succ, List.getElem?_cons_zero] <;> rfl) (by rfl) (by kernel_rfl) (by kernel_rfl) (by kernel_rfl) (fun _ _ _ h => h) (by rfl) ?_ ?_
    rotate_left
    · ((intro u); go_simp; try with_reducible rfl)
    try simp only [Act.put, List.setIfInBounds_toArray, List.set_cons_zero, List.set_cons_succ]
    refine wb_take (i := 5) (d := some 17) (v := ?_) (by simp only [List.getElem?_toArray, List.getElem?_cons_succ, List.getElem?_cons_zero] <;> rfl) (by rfl) (by kernel_rfl) (by kernel_rfl) (by kernel_rfl) (fun _ _ _ h => h) (by rfl) (by kernel_rfl) ?_ ?_
    rotate_left
    · ((intro u hu); obtain ⟨c0, c1, c2, _⟩ := (hP.kb hu (by simp)).three; go_simp; try with_reducible rfl)
    try simp only [Act.put, List.setIfInBounds_toArray, List.set_cons_zero, List.set_cons_succ]
    refine wb_one (i := 3) (by simp only [List.getElem?_toArray, List.getElem?_cons_succ, List.getElem?_cons_zero] <;> rfl) (by kernel_rfl) (by rfl) (fun K hK => ?_)
    go_simp
    refine (number_own B0 8 v xs hi _ (ho.out.below hb0') (by omega) (by omega) (by omega) hr.out.1 hr.out.2.1).mono ?_
    rintro e u2 ⟨v2, rfl, ho2, hv2, hf2⟩
    have hne2 := hf2.at' w.heap.size (by omega) hne
    replace hP := Blk.gbn hP hf2.gb hne
    refine hK.out _ _ (Kb.gb hf2.gb (by simp; exact ⟨by omega, fun e => hne e.symm⟩)) ?_
    replace hw := hw.trans hv2
    have hz2 := hf2.gb.size
    clear hK K hv2 hb0'
    try simp only [Act.put, List.setIfInBounds_toArray, List.set_cons_zero, List.set_cons_succ]
    refine wb_one (i := 6) (by simp only [List.getElem?_toArray, List.getElem?_cons_succ, List.getElem?_cons_zero] <;> rfl) (by kernel_rfl) (by rfl) (fun K hK => ?_)
    go_simp
    refine (number_own B0 8 v2 _ lo _ ho2 (by omega) (by rw [List.length_append, be_len]; omega) (by omega) hr.out.2.2.1 hr.out.2.2.2).mono ?_
    rintro e u5 ⟨v5, rfl, ho5, hv5, hf5⟩
    refine hK.out _ _ (Kb.gb hf5.gb (by simp; exact ⟨by omega, fun e => hne2 e.symm⟩)) ?_
    have hf := Fr.alloc _ (frB hb0'' (hf2.trans hf5))
    replace hw := hw.trans hv5
    clear hK K hv5 ho2 hf5 hf2 hb0''
    try simp only [Act.put, List.setIfInBounds_toArray, List.set_cons_zero, List.set_cons_succ]
    refine wb_pure (i := 7) (d := some 4) (v := ?_) (by simp only [List.getElem?_toArray, List.getElem?_cons_succ, List.getElem?_cons_zero] <;> rfl) (by rfl) (by kernel_rfl) (by kernel_rfl) (by kernel_rfl) (fun _ _ _ h => h) (by rfl) ?_ ?_
    rotate_left
    · ((intro u); go_simp; try with_reducible rfl)
    try simp only [Act.put, List.setIfInBounds_toArray, List.set_cons_zero, List.set_cons_succ]
    refine wb_done (by kernel_rfl) ?_ _
    go_wp2_with fail
    go_ret
    exact ⟨_, rfl, by rw [List.append_assoc] at ho5; exact ho5, hw, hf⟩
end Go.Proofs.YtijlahgmnpnmfaaGreatDoor
namespace Go.Proofs.YtijlahgmnpnmfaaGreatDoor
open Go.RowKit
set_option linter.unusedVariables false
set_option linter.unusedSimpArgs false

theorem num_step {bs : List Nat} {k x : Nat} {z y : Int} (hx : bs[k]? = some x) (h : z = (numF (bs.take k) : Int)) (hy : y = (x : Int)) : z * 256 + y = (numF (bs.take (k + 1)) : Int) := by
  rw [List.take_add_one, hx, h, hy]
  simp only [Option.toList_some, numF_snoc]
  omega
theorem num_take_lt {bs : List Nat} (hb : Byt bs) {k : Nat} (hk : k ≤ 7) : (numF (bs.take k) : Int) < 72057594037927936 := by
  have h := numF_lt (bs.take k) (fun b hb' => hb b (List.mem_of_mem_take hb'))
  have h2 : 256 ^ (bs.take k).length ≤ 256 ^ 7 := Nat.pow_le_pow_right (by decide) (by rw [List.length_take]; omega)
  have h3 : (256 : Nat) ^ 7 = 72057594037927936 := by decide
  omega

theorem or_byte (z y : Int) (h0 : 0 ≤ z) (h1 : z < 72057594037927936) (y0 : 0 ≤ y) (y1 : y < 256) : bits .or .u64 (z * 256) y = z * 256 + y := by
  obtain ⟨a, rfl⟩ := Int.eq_ofNat_of_zero_le h0
  obtain ⟨b, rfl⟩ := Int.eq_ofNat_of_zero_le y0
  have hb : b < 2 ^ 8 := by omega
  have e1 : (BitVec.ofInt 64 ((a : Int) * 256)).toNat = 2 ^ 8 * a := by
    rw [BitVec.toNat_ofInt]; omega
  have e2 : (BitVec.ofInt 64 (b : Int)).toNat = b := by rw [BitVec.toNat_ofInt]; omega
  show IntKind.u64.wrap ((BitVec.ofInt 64 ((a : Int) * 256) ||| BitVec.ofInt 64 (b : Int)).toNat : Nat) = _
  rw [BitVec.toNat_or, e1, e2, ← Nat.two_pow_add_eq_or_of_lt hb, IntKind.wrap_u64]
  omega

set_option maxHeartbeats 2000000 in
theorem numberOf_any (A : Option Addr) (n cap : Nat) (bs : List Nat) (w : World) (hS : SlB w A n cap bs) (hn : n ≤ 8) (hb : Byt bs) :
    Calls Tryz.prog 66 #[.slice A n cap] w fun e w' => e = .returned (.int .u64 (numF bs)) ∧ Below w.heap.size w w' := by
  have hl := Lib.hid hS.len
  have h3 := Lib.hid hS.2.2
  clear hS
  replace hb := Lib.hid hb
  go_enter Tryz.func66, Tryz.ntmps66
  go_wp2_with fail
  go_loop [3, 8] (fun s c => ∃ (k : Nat) (z : Int), k ≤ n ∧ c = .int .i64 k ∧ s = .int .u64 z ∧ 0 ≤ z ∧ Hid (z = (numF (bs.take k) : Int))) (fun _ c => n - (intOf c).toNat)
  case atStart => exact ⟨0, 0, Nat.zero_le _, rfl, rfl, by omega, Lib.hid (by simp [numF])⟩
  case round =>
    obtain ⟨k, z, hk, rfl, rfl, hz0, hG⟩ := hrel
    by_cases hlt : k < n
    · obtain ⟨x, hx⟩ : ∃ x, bs[k]? = some x := ⟨bs[k]'(by have := hl.out; omega), List.getElem?_eq_getElem _⟩
      have hx256 := hb.out x (List.mem_of_getElem? hx)
      obtain ⟨g, off, rfl, hg, hc⟩ : ∃ g off, A = some ⟨g, off, none⟩ ∧ g < w.heap.size ∧ ∀ j u, (bV bs)[j]? = some u → w.cell? ⟨g, off + j, none⟩ = some u := by
        rcases h3.out with h | h
        · omega
        · exact h
      have c0 := hc k _ (bV_get hx)
      clear hc
      obtain ⟨y, hy⟩ : ∃ y : Int, y = (x : Int) := ⟨_, rfl⟩
      rw [← hy] at c0
      have hy0 : 0 ≤ y := by omega
      have hy1 : y < 256 := by omega
      have hz1 : z < 72057594037927936 := by rw [hG.out]; exact num_take_lt hb.out (by omega)
      have hst := Lib.hid (num_step hx hG.out hy)
      have hor := or_byte z y hz0 hz1 hy0 hy1
      clear hx256 hx hy hG
      go_wp2_with fail
      go_round
      case rel => exact ⟨k + 1, z * 256 + y, by omega, by go_num, rfl, by omega, hst⟩
      case measure => simp [intOf]; omega
    · have hkl : k = n := by omega
      have hE := Lib.hid (show z = (numF bs : Int) by have := hG.out; rw [hkl, hl.out, List.take_length] at this; exact this)
      clear hG hl hb h3 hkl
      go_wp2_with fail
      go_ret
      exact ⟨by rw [hE.out]; rfl, Below.refl _ _⟩
theorem numF_lt4 {bs : List Nat} (hb : Byt bs) (hn : bs.length ≤ 4) : (numF bs : Int) < 4294967296 := by
  have h := numF_lt bs hb
  have h2 : 256 ^ bs.length ≤ 256 ^ 4 := Nat.pow_le_pow_right (by decide) hn
  have h3 : (256 : Nat) ^ 4 = 4294967296 := by decide
  omega
set_option maxHeartbeats 2000000 in
theorem intOf_any (A : Option Addr) (n cap : Nat) (bs : List Nat) (w : World) (hS : SlB w A n cap bs) (hn : n ≤ 4) (hb : Byt bs) :
    Calls Tryz.prog 41 #[.slice A n cap] w fun e w' => e = .returned (.int .i64 (numF bs)) ∧ Below w.heap.size w w' := by
  have HN := Lib.hid (numberOf_any A n cap bs w hS (by omega) hb)
  have hlt := numF_lt4 hb (by have := hS.len; omega)
  have hw : IntKind.i64.wrap (numF bs : Int) = (numF bs : Int) := by rw [IntKind.wrap_i64]; omega
  clear hS hb
  generalize (numF bs : Int) = N at HN hlt hw ⊢
  go_enter Tryz.func41, Tryz.ntmps41
  go_wp2_with fail
  refine HN.out.mono ?_
  rintro e w1 ⟨rfl, hb1⟩
  go_wp2_with fail
  go_ret
  exact ⟨rfl, hb1⟩

/-- A part of a slice of bytes. -/
theorem SlB.part {w : World} {g off n cap : Nat} {bs : List Nat} (h : SlB w (some ⟨g, off, none⟩) n cap bs) (i k c : Nat) (hk : i + k ≤ n) (hc : k ≤ c) : SlB w (some ⟨g, off + i, none⟩) k c ((bs.drop i).take k) := by
  have hl := h.len
  refine ⟨by rw [bV_len, List.length_take, List.length_drop]; omega, hc, ?_⟩
  rcases h.2.2 with h0 | ⟨g', off', hA, hg, hcc⟩
  · exact .inl (by omega)
  · cases hA
    refine .inr ⟨g, off + i, rfl, hg, fun j u hu => ?_⟩
    obtain ⟨b, hb, rfl⟩ := bV_at hu
    rw [List.getElem?_take] at hb
    split at hb
    · rw [List.getElem?_drop] at hb
      rw [Nat.add_assoc]
      exact hcc (i + j) _ (bV_get hb)
    · cases hb

set_option maxHeartbeats 2000000 in
theorem isZeroF_any (x : Int) (w : World) : Calls Tryz.prog 68 #[.int .u8 x] w fun e w' => e = .returned (.bool (decide (x ≠ 0))) ∧ w = w' := by
  by_cases h : x = 0
  · subst h
    go_enter Tryz.func68, Tryz.ntmps68
    go_wp2_with fail
    go_ret
    exact ⟨rfl, rfl⟩
  · have hd := Lib.hid (show decide (x ≠ 0) = true from decide_eq_true h)
    go_enter Tryz.func68, Tryz.ntmps68
    go_wp2_with fail
    go_ret
    exact ⟨by rw [hd.out]; simp [h], rfl⟩
theorem cfz (args : Array Value) (w' : World) : (callFunc 68 args).run Tryz.prog w' = .ok (.enter 68 args) w' := by go_simp
theorem zero_cons {bs : List Nat} {k x : Nat} (hx : bs[k]? = some x) (h : numF (bs.take k) = 0) (h0 : x = 0) : numF (bs.take (k + 1)) = 0 := by
  rw [List.take_add_one, hx, h0]; simp only [Option.toList_some, numF_snoc]; omega
theorem zero_not {bs : List Nat} {k x : Nat} (hb : Byt bs) (hx : bs[k]? = some x) (h0 : ¬ x = 0) : ¬ numF bs = 0 := fun h => h0 (numF_pos bs hb h x (List.mem_of_getElem? hx))
set_option maxHeartbeats 2000000 in
theorem indexFunc_any (A : Option Addr) (n cap : Nat) (bs : List Nat) (w : World) (hS : SlB w A n cap bs) (hn : n ≤ 1000) (hb : Byt bs) :
    Calls Tryz.prog 121 #[.slice A n cap, .func (.func 68) #[] #[]] w fun e w' => ∃ z : Int, e = .returned (.int .i64 z) ∧ (numF bs = 0 ∧ z = -1 ∨ ¬ numF bs = 0 ∧ 0 ≤ z ∧ z ≤ 1000) ∧ w = w' := by
  have hl := Lib.hid hS.len
  have h3 := Lib.hid hS.2.2
  clear hS
  replace hb := Lib.hid hb
  have HF := Lib.hid (fun x => isZeroF_any x w)
  have hcf := cfz
  go_enter Tryz.func121, Tryz.ntmps121
  go_wp2_with fail
  go_loop [8] (fun c => ∃ (k : Nat), k ≤ n ∧ c = .int .i64 k ∧ Hid (numF (bs.take k) = 0)) (fun c => n - (intOf c).toNat)
  case atStart => exact ⟨0, Nat.zero_le _, rfl, Lib.hid (by simp [numF])⟩
  case round =>
    obtain ⟨k, hk, rfl, hG⟩ := hrel
    by_cases hlt : k < n
    · obtain ⟨x, hx⟩ : ∃ x, bs[k]? = some x := ⟨bs[k]'(by have := hl.out; omega), List.getElem?_eq_getElem _⟩
      obtain ⟨g, off, rfl, hg, hc⟩ : ∃ g off, A = some ⟨g, off, none⟩ ∧ g < w.heap.size ∧ ∀ j u, (bV bs)[j]? = some u → w.cell? ⟨g, off + j, none⟩ = some u := by
        rcases h3.out with h | h
        · omega
        · exact h
      have c0 := hc k _ (bV_get hx)
      clear hc
      have hkn : (k : Int) ≤ 1000 := by omega
      by_cases h0 : x = 0
      · have hst := Lib.hid (zero_cons hx hG.out h0)
        subst h0
        clear hx hG
        go_wp2_with fail
        refine (HF.out _).mono ?_
        rintro e w1 ⟨rfl, rfl⟩
        go_wp2_with fail
        go_round
        case rel => exact ⟨k + 1, by omega, by go_num, hst⟩
        case measure => simp [intOf]; omega
      · have hst := Lib.hid (zero_not hb.out hx h0)
        have HF1 := Lib.hid (show Calls Tryz.prog 68 #[.int .u8 (x : Int)] w fun e w' => e = .returned (.bool true) ∧ w = w' from by have := isZeroF_any x w; rw [decide_eq_true (show (x : Int) ≠ 0 by omega)] at this; exact this)
        clear hx hG
        replace h0 := Lib.hid h0
        go_wp2_with fail
        refine HF1.out.mono ?_
        rintro e w1 ⟨rfl, rfl⟩
        go_wp2_with fail
        go_ret
        exact ⟨k, rfl, .inr ⟨hst.out, by omega, by omega⟩, rfl⟩
    · have hkl : k = n := by omega
      have hE := Lib.hid (show numF bs = 0 by have := hG.out; rw [hkl, hl.out, List.take_length] at this; exact this)
      clear hG hl hb h3 hkl
      go_wp2_with fail
      go_ret
      exact ⟨-1, rfl, .inl ⟨hE.out, rfl⟩, rfl⟩
set_option maxHeartbeats 2000000 in
theorem isZero_any (A : Option Addr) (n cap : Nat) (bs : List Nat) (w : World) (hS : SlB w A n cap bs) (hn : n ≤ 1000) (hb : Byt bs) :
    Calls Tryz.prog 42 #[.slice A n cap] w fun e w' => e = .returned (.bool (decide (numF bs = 0))) ∧ w = w' := by
  have HI := Lib.hid (indexFunc_any A n cap bs w hS hn hb)
  clear hS hb
  have HC : Hid (Calls Tryz.prog 67 #[.slice A n cap, .func (.func 68) #[] #[]] w fun e w' => e = .returned (.bool (!decide (numF bs = 0))) ∧ w = w') := by
    refine Lib.hid ?_
    go_enter Tryz.func67, Tryz.ntmps67
    go_wp2_with fail
    refine HI.out.mono ?_
    rintro e w1 ⟨z, rfl, h, rfl⟩
    rcases h with ⟨h0, rfl⟩ | ⟨h0, h1, h2⟩
    · have hd := Lib.hid (show (!decide (numF bs = 0)) = false by rw [decide_eq_true h0]; rfl)
      clear h0
      go_wp2_with fail
      go_ret
      exact ⟨by rw [hd.out]; rfl, rfl⟩
    · have hd := Lib.hid (show (!decide (numF bs = 0)) = true by rw [decide_eq_false h0]; rfl)
      clear h0
      go_wp2_with fail
      go_ret
      exact ⟨by rw [hd.out]; simp, rfl⟩
  clear HI
  generalize decide (numF bs = 0) = d at HC ⊢
  go_enter Tryz.func42, Tryz.ntmps42
  go_wp2_with fail
  refine HC.out.mono ?_
  rintro e w1 ⟨rfl, rfl⟩
  cases d
  · go_wp2_with fail
    go_ret
    exact ⟨rfl, rfl⟩
  · go_wp2_with fail
    go_ret
    exact ⟨rfl, rfl⟩
end Go.Proofs.YtijlahgmnpnmfaaGreatDoor
