/- The reference's AddrLoose. -/
import Derived.Test.YtkldcmmlllkhkaaGreatDoorKqPsO
set_option linter.unusedVariables false
set_option linter.unusedSimpArgs false
set_option maxRecDepth 100000
namespace Go.Proofs.YtkldcmmlllkhkaaGreatDoor
open Go.RowKit

def hiAt (gs : List Nat) (k : Nat) : Nat := acc16 ((gs.take k).take 4)
def loAt (gs : List Nat) (k : Nat) : Nat := acc16 ((gs.take k).drop 4)
theorem hiAt_zero (gs : List Nat) : hiAt gs 0 = 0 := by simp [hiAt, acc16]
theorem loAt_zero (gs : List Nat) : loAt gs 0 = 0 := by simp [loAt, acc16]
theorem at_low {gs : List Nat} {k g : Nat} (hk : k < 4) (h : gs[k]? = some g) : hiAt gs (k + 1) = hiAt gs k * 65536 + g ∧ loAt gs (k + 1) = loAt gs k := by
  have hl := (List.getElem?_eq_some_iff.1 h).1
  unfold hiAt loAt
  rw [take_at h]
  have e1 : (gs.take k ++ [g]).take 4 = (gs.take k).take 4 ++ [g] := by
    rw [List.take_of_length_le (i := 4) (l := gs.take k ++ [g]) (by simp; omega), List.take_of_length_le (i := 4) (l := gs.take k) (by simp; omega)]
  have e2 : (gs.take k ++ [g]).drop 4 = [] := List.drop_eq_nil_of_le (by simp; omega)
  have e3 : (gs.take k).drop 4 = [] := List.drop_eq_nil_of_le (by simp; omega)
  rw [e1, e2, e3, acc16_snoc]
  exact ⟨rfl, rfl⟩
theorem at_high {gs : List Nat} {k g : Nat} (hk : 4 ≤ k) (h : gs[k]? = some g) : hiAt gs (k + 1) = hiAt gs k ∧ loAt gs (k + 1) = loAt gs k * 65536 + g := by
  have hl := (List.getElem?_eq_some_iff.1 h).1
  unfold hiAt loAt
  rw [take_at h]
  have e1 : (gs.take k ++ [g]).take 4 = (gs.take k).take 4 := List.take_append_of_le_length (by simp; omega)
  have e2 : (gs.take k ++ [g]).drop 4 = (gs.take k).drop 4 ++ [g] := List.drop_append_of_le_length (by simp; omega)
  rw [e1, e2, acc16_snoc]
  exact ⟨rfl, rfl⟩
theorem at_endP {gs : List Nat} (h : gs.length = 8) : hiAt gs 8 = acc16 (gs.take 4) ∧ loAt gs 8 = acc16 (gs.drop 4) := by
  unfold hiAt loAt
  rw [List.take_of_length_le (i := 8) (l := gs) (by omega)]
  exact ⟨rfl, rfl⟩
theorem acc16_le (gs : List Nat) (n : Nat) (hl : gs.length ≤ n) (hs : ∀ g ∈ gs, g < 65536) : acc16 gs < 65536 ^ n :=
  Nat.lt_of_lt_of_le (acc16_lt gs.length gs rfl hs) (Nat.pow_le_pow_right (by decide) hl)
theorem at_lt {gs : List Nat} (hs : ∀ g ∈ gs, g < 65536) (k : Nat) (hk : k < 8) : (k < 4 → hiAt gs k < 281474976710656) ∧ (hiAt gs k < 18446744073709551616) ∧ loAt gs k < 281474976710656 := by
  refine ⟨fun h => ?_, ?_, ?_⟩
  · exact acc16_le _ 3 (by simp; omega) (fun g h => hs g (List.mem_of_mem_take (List.mem_of_mem_take h)))
  · exact acc16_le _ 4 (by simp; omega) (fun g h => hs g (List.mem_of_mem_take (List.mem_of_mem_take h)))
  · exact acc16_le _ 3 (by simp; omega) (fun g h => hs g (List.mem_of_mem_take (List.mem_of_mem_drop h)))

def From (xs ys gs : List Nat) (s : Bool) (k : Nat) : Prop :=
  (∃ g, xs[k]? = some g ∧ gs[k]? = some g ∧ k < xs.length ∧ k < 8 - ys.length) ∨ (gs[k]? = some 0 ∧ xs.length ≤ k ∧ k < 8 - ys.length) ∨
  (s = true ∧ ∃ g m, ys[m]? = some g ∧ gs[k]? = some g ∧ xs.length ≤ k ∧ k = 8 - ys.length + m)
theorem from_eight {xs : List Nat} (h : xs.length = 8) (s : Bool) (k : Nat) (hk : k < 8) : From xs [] xs s k :=
  .inl ⟨xs[k]'(by omega), List.getElem?_eq_getElem _, List.getElem?_eq_getElem _, by omega, by simpa using hk⟩
theorem from_join {xs ys : List Nat} (h : xs.length + ys.length ≤ 7) (k : Nat) (hk : k < 8) : From xs ys (xs ++ List.replicate (8 - xs.length - ys.length) 0 ++ ys) true k := by
  by_cases h1 : k < xs.length
  · refine .inl ⟨xs[k], List.getElem?_eq_getElem h1, ?_, h1, by omega⟩
    rw [List.append_assoc, List.getElem?_append_left h1, List.getElem?_eq_getElem h1]
  · by_cases h2 : k < 8 - ys.length
    · refine .inr (.inl ⟨?_, by omega, h2⟩)
      rw [List.append_assoc, List.getElem?_append_right (by omega), List.getElem?_append_left (by simp; omega), List.getElem?_replicate, if_pos (by omega)]
    · refine .inr (.inr ⟨rfl, ys[k - (8 - ys.length)]'(by omega), k - (8 - ys.length), List.getElem?_eq_getElem _, ?_, by omega, by omega⟩)
      rw [List.getElem?_append_right (by simp; omega)]
      have e : k - (xs ++ List.replicate (8 - xs.length - ys.length) 0).length = k - (8 - ys.length) := by simp; omega
      rw [e, List.getElem?_eq_getElem]

set_option maxHeartbeats 2000000 in
theorem looseR_four (l : List UInt8) (n : Nat) (w : World) (hC : Cons w) (hl : l.length ≤ 100000) (hf : fourL l = some n) :
    Calls Tryz.prog 90 #[.string ⟨l.toArray⟩] w (GivesV (addrE (looseL l)) w) := by
  have hB := Blk.new w [.bool false, .int .u64 0, .int .u64 0] 39
  have hC1 : Below w.heap.size w (w.alloc (.cells #[.bool false, .int .u64 0, .int .u64 0] 39)) := (Below.refl _ _).alloc (Nat.le_refl _) _
  have HN := Lib.hid (looseL_four hf)
  have HR := Lib.hid (four_any l (w.alloc (.cells #[.bool false, .int .u64 0, .int .u64 0] 39)) (hC.alloc _) hl)
  rw [hf] at HR
  obtain ⟨z, hz⟩ : ∃ z : Int, z = (n : Int) := ⟨_, rfl⟩
  replace HR : Hid (Calls Tryz.prog 111 #[.string ⟨l.toArray⟩] (w.alloc (.cells #[.bool false, .int .u64 0, .int .u64 0] 39)) (GivesV (.tuple #[.int .u64 z, .bool true]) (w.alloc (.cells #[.bool false, .int .u64 0, .int .u64 0] 39)))) := Lib.hid (by rw [hz]; exact HR.out)
  replace hz := Lib.hid hz
  clear hC hf
  go_enter Tryz.func90, Tryz.ntmps90
  go_wp2_with fail
  refine HR.out.mono ?_
  rintro e w1 ⟨rfl, hb1⟩
  obtain ⟨u0, u1, u2, f0, f1, f2⟩ := (hB.below hb1).three
  have hb2 := hC1.trans (hb1.mono (by simp))
  clear hb1 hB HR
  go_wp2_with fail
  refine bodyPost_ret (v := .tuple #[.agg #[.bool false, .int .u64 0, .int .u64 z], .int .i64 0]) ?_ rfl ⟨by rw [hz.out]; exact addrE_some HN.out, below_3 hb2 (Nat.le_refl _) _ _ _⟩
  simp [results, Tryz.results90, go_sem, u0, u1, u2]


set_option maxHeartbeats 4000000 in
theorem looseR_groups (l : List UInt8) (w : World) (hC : Cons w) (hl : l.length ≤ 100000) (hf : fourL l = none) :
    Calls Tryz.prog 90 #[.string ⟨l.toArray⟩] w (GivesV (addrE (looseL l)) w) := by
  have hB := Blk.new w [.bool false, .int .u64 0, .int .u64 0] 39
  have hC1 : Below w.heap.size w (w.alloc (.cells #[.bool false, .int .u64 0, .int .u64 0] 39)) := (Below.refl _ _).alloc (Nat.le_refl _) _
  have HL := Lib.hid (looseL_groups hf)
  have HR : Hid (Calls Tryz.prog 111 #[.string ⟨l.toArray⟩] (w.alloc (.cells #[.bool false, .int .u64 0, .int .u64 0] 39)) (GivesV (.tuple #[.int .u64 0, .bool false]) (w.alloc (.cells #[.bool false, .int .u64 0, .int .u64 0] 39)))) :=
    Lib.hid (by have := four_any l (w.alloc (.cells #[.bool false, .int .u64 0, .int .u64 0] 39)) (hC.alloc _) hl; rw [hf] at this; exact this)
  have HW : ∀ w1, Below w.heap.size w w1 → Hid (Cons w1) := fun w1 h => Lib.hid (hC.below h)
  have HE : Hid (∀ gs, groupsL l = some gs → gs.length = 8 ∧ ∀ g ∈ gs, g < 65536) := Lib.hid fun gs h => groupsL_eight h
  have HK := fun w1 (h : Below w.heap.size w w1) => Lib.hid (cut_any l w1 (HW _ h).out hl)
  obtain ⟨hla, hlb⟩ := cut_short l
  have HM := Lib.hid (cut_miss l)
  have HGL : Hid (groupsL l = if (Lib.cut l [58, 58]).2.2 = true then joinR (rowL false (Lib.cut l [58, 58]).1) (rowL true (Lib.cut l [58, 58]).2.1) else eightR (rowL true l)) := Lib.hid rfl
  generalize Lib.cut l [58, 58] = c at *
  obtain ⟨a, b, s⟩ := c
  have ha : a.length ≤ 100000 := Nat.le_trans hla hl
  have hbl : b.length ≤ 100000 := Nat.le_trans hlb hl
  clear hC hf hla hlb hl
  go_enter Tryz.func90, Tryz.ntmps90
  go_wp2_with fail
  refine HR.out.mono ?_
  rintro e w1 ⟨rfl, hb1⟩
  replace hB := hB.below hb1
  replace hC1 := hC1.trans (hb1.mono (by simp))
  have HK1 := HK w1 hC1
  clear hb1 HR HK
  go_wp2_with fail
  refine HK1.out.mono ?_
  rintro e w2 ⟨rfl, hb2⟩
  replace hB := hB.below hb2
  replace hC1 := hC1.trans (hb2.mono hC1.size)
  clear hb2 HK1
  have hG1 := Lib.hid (groupList_any a (!s) w2 (HW _ hC1).out ha)
  go_wp2_with fail
  refine hG1.out.mono ?_
  rintro e w3 ⟨hr1, hb3⟩
  replace hB := hB.below hb3
  replace hC1 := hC1.trans (hb3.mono hC1.size)
  have hG2 := Lib.hid (groupList_any b true w3 (HW _ hC1).out hbl)
  have hs3 := hC1.size
  replace hC1 := Lib.hid hC1
  clear hb3 hG1 HW
  cases ho1 : rowL (!s) a with
  | none =>
    rw [ho1] at hr1
    obtain rfl := hr1
    have HN : Hid (looseL l = none) := by
      refine Lib.hid ?_
      rw [HL.out, HGL.out]
      cases s
      · have e1 : a = l := (HM.out rfl).1
        have ho1' : rowL true l = none := by rw [← e1]; exact ho1
        simp only [ho1']; rfl
      · have ho1' : rowL false a = none := ho1
        simp only [ho1']; rfl
    clear HL HM HGL HE ho1
    go_wp2_with fail
    refine hG2.out.mono ?_
    rintro e w5 ⟨hr2, hb5⟩
    replace hB := hB.below hb5
    have hb := Lib.hid (hC1.out.trans (hb5.mono hs3))
    obtain ⟨u0, u1, u2, f0, f1, f2⟩ := hB.three
    obtain ⟨v, k, rfl⟩ : ∃ v k, e = .returned (.tuple #[v, .bool k]) := by
      generalize rowL true b = o2 at hr2
      cases o2 with
      | none => exact ⟨_, _, hr2⟩
      | some y => obtain ⟨A, c, he, _⟩ := hr2; exact ⟨_, _, he⟩
    clear hr2 hb5 hG2 hC1 hB
    go_wp2_with fail
    refine bodyPost_ret (v := .tuple #[.agg #[.bool false, .int .u64 0, .int .u64 0], .int .i64 9]) ?_ rfl ⟨addrE_none HN.out, below_3 hb.out (Nat.le_refl _) _ _ _⟩
    simp [results, Tryz.results90, go_sem, u0, u1, u2]
  | some xs =>
    rw [ho1] at hr1
    obtain ⟨A1, c1, rfl, hS1, hA1⟩ := hr1
    clear hA1
    go_wp2_with fail
    refine hG2.out.mono ?_
    rintro e w5 ⟨hr2, hb5⟩
    replace hB := hB.below hb5
    replace hS1 := Lib.hid (hS1.below hb5)
    have hb := Lib.hid (hC1.out.trans (hb5.mono hs3))
    have hs5 := hb.out.size
    clear hb5 hG2 hC1
    cases ho2 : rowL true b with
    | none =>
      rw [ho2] at hr2
      obtain rfl := hr2
      have HN : Hid (looseL l = none) := by
        refine Lib.hid ?_
        rw [HL.out, HGL.out]
        cases s
        · have e2 : b = [] := (HM.out rfl).2
          rw [e2] at ho2
          cases ho2
        · have ho1' : rowL false a = some xs := ho1
          simp only [ho1', ho2]; rfl
      obtain ⟨u0, u1, u2, f0, f1, f2⟩ := hB.three
      clear HL HM HGL HE ho1 ho2 hB
      go_wp2_with fail
      refine bodyPost_ret (v := .tuple #[.agg #[.bool false, .int .u64 0, .int .u64 0], .int .i64 9]) ?_ rfl ⟨addrE_none HN.out, below_3 hb.out (Nat.le_refl _) _ _ _⟩
      simp [results, Tryz.results90, go_sem, u0, u1, u2]
    | some ys =>
      rw [ho2] at hr2
      obtain ⟨A2, c2, rfl, hS2, hA2⟩ := hr2
      clear hA2
      replace hS2 := Lib.hid hS2
      have hlx := hS1.out.2.1
      have hly := hS2.out.2.1
      cases s with
      | true =>
        have HJ : Hid (groupsL l = if xs.length + ys.length ≤ 7 then some (xs ++ List.replicate (8 - xs.length - ys.length) 0 ++ ys) else none) := by
          refine Lib.hid ?_
          have ho1' : rowL false a = some xs := ho1
          rw [HGL.out]
          simp only [ho1', ho2]; rfl
        have ho1x : rowL false a = some xs := ho1
        clear HM HGL ho1
        obtain ⟨nx, hnx⟩ : ∃ n, n = xs.length := ⟨_, rfl⟩
        obtain ⟨ny, hny⟩ : ∃ n, n = ys.length := ⟨_, rfl⟩
        rw [← hnx, ← hny] at HJ
        rw [← hnx] at hS1 ⊢
        rw [← hny] at hS2 ⊢
        by_cases h7 : nx + ny ≤ 7
        · have HQ : groupsL l = some (xs ++ List.replicate (8 - xs.length - ys.length) 0 ++ ys) := by rw [HJ.out, if_pos h7, hnx, hny]
          have HF := Lib.hid (fun k hk => from_join (xs := xs) (ys := ys) (by omega) k hk)
          obtain ⟨gs, hgs⟩ : ∃ gs, gs = xs ++ List.replicate (8 - xs.length - ys.length) 0 ++ ys := ⟨_, rfl⟩
          rw [← hgs] at HQ HF
          have g8 := Lib.hid (HE.out gs HQ).1
          have gl := Lib.hid (HE.out gs HQ).2
          have HG : Hid (looseL l = some (true, acc16 (gs.take 4), acc16 (gs.drop 4))) := Lib.hid (by rw [HL.out, HQ]; rfl)
          have h7' : ¬ (7 < (nx : Int) + ny) := by omega
          clear ho1x ho2 ha hbl
          replace hB := Lib.hid hB
          replace hnx := Lib.hid hnx
          replace hny := Lib.hid hny
          clear HJ HQ HE HL hgs
          go_wp2_with fail
          go_loopw [75] (fun i wr => ∃ (k : Nat) (X Y : Int), k ≤ 8 ∧ i = .int .i64 k ∧ Blk wr w5.heap.size [.bool true, .int .u64 X, .int .u64 Y] 39 ∧ Hid (Below w5.heap.size w5 wr) ∧ Hid (X = (hiAt gs k : Nat) ∧ Y = (loAt gs k : Nat))) (fun i _ => 8 - (intOf i).toNat)
          case atStart => exact ⟨0, 0, 0, by omega, rfl, Blk.new w5 [.bool true, .int .u64 0, .int .u64 0] _, Lib.hid ((Below.refl _ _).alloc (Nat.le_refl _) _), Lib.hid ⟨by rw [hiAt_zero]; rfl, by rw [loAt_zero]; rfl⟩⟩
          case round =>
            obtain ⟨k, X, Y, hk, rfl, hP, hbw, hXY⟩ := hrel
            replace hP := Lib.hid hP
            by_cases hk8 : k < 8
            · have hk8' : (k : Int) < 8 := by omega
              rcases HF.out k hk8 with ⟨g, hx, hg, h1, h2⟩ | ⟨hg, h1, h2⟩ | ⟨h0, g, m, hy, hg, h1, h2⟩
              · have hlx : (k : Int) < nx := by have := hnx.out; omega
                have hly : (k : Int) - (8 - ny) < 0 := by have := hny.out; omega
                have hlc : nx ≤ c1 := hS1.out.2.1
                have glt := Lib.hid (gl.out g (List.mem_of_getElem? hg))
                have hgk := Lib.hid hg
                obtain ⟨G, hG⟩ : ∃ G : Int, G = (g : Int) := ⟨_, rfl⟩
                obtain ⟨b1, o1, rfl, hb1, hc1⟩ : ∃ b off, A1 = some ⟨b, off, none⟩ ∧ b < w5.heap.size ∧ ∀ j u, (xs.map fun (g : Nat) => Value.int .u64 (g : Int))[j]? = some u → w5.cell? ⟨b, off + j, none⟩ = some u := by
                  rcases hS1.out.2.2 with h | h
                  · have := (List.getElem?_eq_some_iff.1 hx).1
                    have := hnx.out; have := hny.out; omega
                  · exact h
                have hcell : wr.cell? ⟨b1, o1 + k, none⟩ = some (.int .u64 G) := by
                  rw [hbw.out.cell (by exact hb1), hG]; exact hc1 k _ (by rw [List.getElem?_map, hx]; rfl)
                replace hG := Lib.hid hG
                clear hx hg h1 h2 hc1
                by_cases h4 : (k : Int) < 4
                · have H1 := at_low (gs := gs) (k := k) (g := g) (by omega) hgk.out
                  have B1 := (at_lt gl.out k (by omega)).1 (by omega)
                  obtain ⟨c0, c1, c2, f0, f1, f2⟩ := Blk.three hP.out
                  have bX : 0 ≤ X ∧ X < 281474976710656 := by have := hXY.out.1; omega
                  have bG : 0 ≤ (G : Int) ∧ (G : Int) < 65536 := by have := hG.out; have := glt.out; omega
                  have oX := or_shift16 X (G) bX.1 bX.2 bG.1 bG.2
                  have wX : IntKind.u64.wrap (X * 65536) = X * 65536 := by rw [IntKind.wrap_u64]; omega
                  obtain ⟨X', hX'⟩ : ∃ z, z = X * 65536 + (G) := ⟨_, rfl⟩
                  rw [← hX'] at oX
                  have HXY : Hid (X' = (hiAt gs (k + 1) : Nat) ∧ Y = (loAt gs (k + 1) : Nat)) := Lib.hid ⟨by rw [hX', H1.1]; have := hXY.out.1; have := hG.out; omega, by rw [H1.2]; exact hXY.out.2⟩
                  clear H1 B1 hX' hXY bG
                  go_wp2_with fail
                  go_roundw
                  case rel => exact ⟨k + 1, X', Y, by omega, by go_num, Blk.set hP.out 1 (.int .u64 X'), Lib.hid (hbw.out.setCell (p := ⟨w5.heap.size, 1, none⟩) (Nat.le_refl _) (.int .u64 X')), HXY⟩
                  case measure => simp [intOf]; omega
                · have H1 := at_high (gs := gs) (k := k) (g := g) (by omega) hgk.out
                  have B1 := (at_lt gl.out k (by omega)).2.2
                  obtain ⟨c0, c1, c2, f0, f1, f2⟩ := Blk.three hP.out
                  have bX : 0 ≤ Y ∧ Y < 281474976710656 := by have := hXY.out.2; omega
                  have bG : 0 ≤ (G : Int) ∧ (G : Int) < 65536 := by have := hG.out; have := glt.out; omega
                  have oX := or_shift16 Y (G) bX.1 bX.2 bG.1 bG.2
                  have wX : IntKind.u64.wrap (Y * 65536) = Y * 65536 := by rw [IntKind.wrap_u64]; omega
                  obtain ⟨Y', hY'⟩ : ∃ z, z = Y * 65536 + (G) := ⟨_, rfl⟩
                  rw [← hY'] at oX
                  have HXY : Hid (X = (hiAt gs (k + 1) : Nat) ∧ Y' = (loAt gs (k + 1) : Nat)) := Lib.hid ⟨by rw [H1.1]; exact hXY.out.1, by rw [hY', H1.2]; have := hXY.out.2; have := hG.out; omega⟩
                  clear H1 B1 hY' hXY bG
                  go_wp2_with fail
                  go_roundw
                  case rel => exact ⟨k + 1, X, Y', by omega, by go_num, Blk.set hP.out 2 (.int .u64 Y'), Lib.hid (hbw.out.setCell (p := ⟨w5.heap.size, 2, none⟩) (Nat.le_refl _) (.int .u64 Y')), HXY⟩
                  case measure => simp [intOf]; omega
              · have glt : Hid (0 < 65536) := Lib.hid (by decide)
                have hgk := Lib.hid hg
                have hG : Hid ((0 : Int) = ((0 : Nat) : Int)) := Lib.hid rfl
                have hlx : ¬ (k : Int) < nx := by have := hnx.out; omega
                have hly : (k : Int) - (8 - ny) < 0 := by have := hny.out; omega
                clear hg h1 h2
                by_cases h4 : (k : Int) < 4
                · have H1 := at_low (gs := gs) (k := k) (g := 0) (by omega) hgk.out
                  have B1 := (at_lt gl.out k (by omega)).1 (by omega)
                  obtain ⟨c0, c1, c2, f0, f1, f2⟩ := Blk.three hP.out
                  have bX : 0 ≤ X ∧ X < 281474976710656 := by have := hXY.out.1; omega
                  have bG : 0 ≤ (0 : Int) ∧ (0 : Int) < 65536 := by have := hG.out; have := glt.out; omega
                  have oX := or_shift16 X (0) bX.1 bX.2 bG.1 bG.2
                  have wX : IntKind.u64.wrap (X * 65536) = X * 65536 := by rw [IntKind.wrap_u64]; omega
                  obtain ⟨X', hX'⟩ : ∃ z, z = X * 65536 + (0) := ⟨_, rfl⟩
                  rw [← hX'] at oX
                  have HXY : Hid (X' = (hiAt gs (k + 1) : Nat) ∧ Y = (loAt gs (k + 1) : Nat)) := Lib.hid ⟨by rw [hX', H1.1]; have := hXY.out.1; have := hG.out; omega, by rw [H1.2]; exact hXY.out.2⟩
                  clear H1 B1 hX' hXY bG
                  go_wp2_with fail
                  go_roundw
                  case rel => exact ⟨k + 1, X', Y, by omega, by go_num, Blk.set hP.out 1 (.int .u64 X'), Lib.hid (hbw.out.setCell (p := ⟨w5.heap.size, 1, none⟩) (Nat.le_refl _) (.int .u64 X')), HXY⟩
                  case measure => simp [intOf]; omega
                · have H1 := at_high (gs := gs) (k := k) (g := 0) (by omega) hgk.out
                  have B1 := (at_lt gl.out k (by omega)).2.2
                  obtain ⟨c0, c1, c2, f0, f1, f2⟩ := Blk.three hP.out
                  have bX : 0 ≤ Y ∧ Y < 281474976710656 := by have := hXY.out.2; omega
                  have bG : 0 ≤ (0 : Int) ∧ (0 : Int) < 65536 := by have := hG.out; have := glt.out; omega
                  have oX := or_shift16 Y (0) bX.1 bX.2 bG.1 bG.2
                  have wX : IntKind.u64.wrap (Y * 65536) = Y * 65536 := by rw [IntKind.wrap_u64]; omega
                  obtain ⟨Y', hY'⟩ : ∃ z, z = Y * 65536 + (0) := ⟨_, rfl⟩
                  rw [← hY'] at oX
                  have HXY : Hid (X = (hiAt gs (k + 1) : Nat) ∧ Y' = (loAt gs (k + 1) : Nat)) := Lib.hid ⟨by rw [H1.1]; exact hXY.out.1, by rw [hY', H1.2]; have := hXY.out.2; have := hG.out; omega⟩
                  clear H1 B1 hY' hXY bG
                  go_wp2_with fail
                  go_roundw
                  case rel => exact ⟨k + 1, X, Y', by omega, by go_num, Blk.set hP.out 2 (.int .u64 Y'), Lib.hid (hbw.out.setCell (p := ⟨w5.heap.size, 2, none⟩) (Nat.le_refl _) (.int .u64 Y')), HXY⟩
                  case measure => simp [intOf]; omega
              · have hlx : ¬ (k : Int) < nx := by have := hnx.out; omega
                have hly : (k : Int) - (8 - ny) = m := by have := hny.out; omega
                have hml : (m : Int) < ny := by have := (List.getElem?_eq_some_iff.1 hy).1; have := hny.out; omega
                have hlc : ny ≤ c2 := hS2.out.2.1
                have glt := Lib.hid (gl.out g (List.mem_of_getElem? hg))
                have hgk := Lib.hid hg
                obtain ⟨G, hG⟩ : ∃ G : Int, G = (g : Int) := ⟨_, rfl⟩
                obtain ⟨b1, o1, rfl, hb1, hc1⟩ : ∃ b off, A2 = some ⟨b, off, none⟩ ∧ b < w5.heap.size ∧ ∀ j u, (ys.map fun (g : Nat) => Value.int .u64 (g : Int))[j]? = some u → w5.cell? ⟨b, off + j, none⟩ = some u := by
                  rcases hS2.out.2.2 with h | h
                  · have := (List.getElem?_eq_some_iff.1 hy).1
                    have := hnx.out; have := hny.out; omega
                  · exact h
                have hcell : wr.cell? ⟨b1, o1 + m, none⟩ = some (.int .u64 G) := by
                  rw [hbw.out.cell (by exact hb1), hG]; exact hc1 m _ (by rw [List.getElem?_map, hy]; rfl)
                replace hG := Lib.hid hG
                clear h0 hy hg h1 h2 hc1
                by_cases h4 : (k : Int) < 4
                · have H1 := at_low (gs := gs) (k := k) (g := g) (by omega) hgk.out
                  have B1 := (at_lt gl.out k (by omega)).1 (by omega)
                  obtain ⟨c0, c1, c2, f0, f1, f2⟩ := Blk.three hP.out
                  have bX : 0 ≤ X ∧ X < 281474976710656 := by have := hXY.out.1; omega
                  have bG : 0 ≤ (G : Int) ∧ (G : Int) < 65536 := by have := hG.out; have := glt.out; omega
                  have oX := or_shift16 X (G) bX.1 bX.2 bG.1 bG.2
                  have wX : IntKind.u64.wrap (X * 65536) = X * 65536 := by rw [IntKind.wrap_u64]; omega
                  obtain ⟨X', hX'⟩ : ∃ z, z = X * 65536 + (G) := ⟨_, rfl⟩
                  rw [← hX'] at oX
                  have HXY : Hid (X' = (hiAt gs (k + 1) : Nat) ∧ Y = (loAt gs (k + 1) : Nat)) := Lib.hid ⟨by rw [hX', H1.1]; have := hXY.out.1; have := hG.out; omega, by rw [H1.2]; exact hXY.out.2⟩
                  clear H1 B1 hX' hXY bG
                  go_wp2_with fail
                  go_roundw
                  case rel => exact ⟨k + 1, X', Y, by omega, by go_num, Blk.set hP.out 1 (.int .u64 X'), Lib.hid (hbw.out.setCell (p := ⟨w5.heap.size, 1, none⟩) (Nat.le_refl _) (.int .u64 X')), HXY⟩
                  case measure => simp [intOf]; omega
                · have H1 := at_high (gs := gs) (k := k) (g := g) (by omega) hgk.out
                  have B1 := (at_lt gl.out k (by omega)).2.2
                  obtain ⟨c0, c1, c2, f0, f1, f2⟩ := Blk.three hP.out
                  have bX : 0 ≤ Y ∧ Y < 281474976710656 := by have := hXY.out.2; omega
                  have bG : 0 ≤ (G : Int) ∧ (G : Int) < 65536 := by have := hG.out; have := glt.out; omega
                  have oX := or_shift16 Y (G) bX.1 bX.2 bG.1 bG.2
                  have wX : IntKind.u64.wrap (Y * 65536) = Y * 65536 := by rw [IntKind.wrap_u64]; omega
                  obtain ⟨Y', hY'⟩ : ∃ z, z = Y * 65536 + (G) := ⟨_, rfl⟩
                  rw [← hY'] at oX
                  have HXY : Hid (X = (hiAt gs (k + 1) : Nat) ∧ Y' = (loAt gs (k + 1) : Nat)) := Lib.hid ⟨by rw [H1.1]; exact hXY.out.1, by rw [hY', H1.2]; have := hXY.out.2; have := hG.out; omega⟩
                  clear H1 B1 hY' hXY bG
                  go_wp2_with fail
                  go_roundw
                  case rel => exact ⟨k + 1, X, Y', by omega, by go_num, Blk.set hP.out 2 (.int .u64 Y'), Lib.hid (hbw.out.setCell (p := ⟨w5.heap.size, 2, none⟩) (Nat.le_refl _) (.int .u64 Y')), HXY⟩
                  case measure => simp [intOf]; omega
            · obtain rfl : k = 8 := by omega
              obtain ⟨c0, c1, c2, f0, f1, f2⟩ := Blk.three hP.out
              obtain ⟨u0, u1, u2, g0, g1, g2⟩ := Blk.three (Blk.below hB.out hbw.out)
              have hE := at_endP g8.out
              have HX : Hid (X = (acc16 (gs.take 4) : Nat) ∧ Y = (acc16 (gs.drop 4) : Nat)) := Lib.hid (by rw [← hE.1, ← hE.2]; exact hXY.out)
              clear hE hXY
              have hq := hs5
              go_wp2_with fail
              refine bodyPost_ret (v := .tuple #[.agg #[.bool true, .int .u64 X, .int .u64 Y], .int .i64 0]) ?_ rfl ⟨by rw [HX.out.1, HX.out.2]; exact addrE_some HG.out, below_3 (hb.out.trans (hbw.out.mono hs5)) (Nat.le_refl _) _ _ _⟩
              simp [results, Tryz.results90, go_sem, u0, u1, u2]
        · have HN : Hid (looseL l = none) := Lib.hid (by rw [HL.out, HJ.out, if_neg h7]; rfl)
          have h7' : 7 < (nx : Int) + ny := by omega
          have bnx : (nx : Int) ≤ 200002 := by have := rowL_len ho1x; omega
          have bny : (ny : Int) ≤ 200002 := by have := rowL_len ho2; omega
          obtain ⟨u0, u1, u2, f0, f1, f2⟩ := hB.three
          clear HL HJ HE hB hnx hny ho1x ho2 ha hbl
          go_wp2_with fail
          refine bodyPost_ret (v := .tuple #[.agg #[.bool false, .int .u64 0, .int .u64 0], .int .i64 9]) ?_ rfl ⟨addrE_none HN.out, below_3 hb.out (Nat.le_refl _) _ _ _⟩
          simp [results, Tryz.results90, go_sem, u0, u1, u2]
      | false =>
        have e2 : b = [] := (HM.out rfl).2
        have e1 : a = l := (HM.out rfl).1
        subst e2
        have hy0 : ys = [] := by cases ho2; rfl
        subst hy0
        have HJ : Hid (groupsL l = if xs.length = 8 then some xs else none) := by
          refine Lib.hid ?_
          have ho1' : rowL true l = some xs := by rw [← e1]; exact ho1
          rw [HGL.out]
          simp only [ho1']; rfl
        have hl0 : xs.length = 8 → (l == ([] : List UInt8)) = false := fun h => by
          rw [beq_eq_false_iff_ne]
          intro h0
          have ho1' : rowL true l = some xs := by rw [← e1]; exact ho1
          rw [h0] at ho1'
          cases ho1'
          cases h
        clear HM HGL ho1 ho2 e1
        obtain ⟨nx, hnx⟩ : ∃ n, n = xs.length := ⟨_, rfl⟩
        obtain ⟨ny, hny⟩ : ∃ n, n = ([] : List Nat).length := ⟨_, rfl⟩
        rw [← hnx] at HJ hl0
        rw [← hnx] at hS1 ⊢
        rw [← hny] at hS2 ⊢
        by_cases h8 : nx = 8
        · have HQ : groupsL l = some xs := by rw [HJ.out, if_pos h8]
          have HF := Lib.hid (fun k hk => from_eight (xs := xs) (by omega) false k hk)
          obtain ⟨gs, hgs⟩ : ∃ gs, gs = xs := ⟨_, rfl⟩
          have HF : Hid (∀ k, k < 8 → From xs [] gs false k) := Lib.hid (by rw [hgs]; exact HF.out)
          rw [← hgs] at HQ
          have g8 := Lib.hid (HE.out gs HQ).1
          have gl := Lib.hid (HE.out gs HQ).2
          have HG : Hid (looseL l = some (true, acc16 (gs.take 4), acc16 (gs.drop 4))) := Lib.hid (by rw [HL.out, HQ]; rfl)
          have b8 : ((nx : Int) == 8) = true := by rw [h8]; rfl
          have bl := hl0 h8
          replace hB := Lib.hid hB
          replace hnx := Lib.hid hnx
          replace hny := Lib.hid hny
          clear HJ HQ HE HL hgs hl0
          go_wp2_with fail
          go_loopw [75] (fun i wr => ∃ (k : Nat) (X Y : Int), k ≤ 8 ∧ i = .int .i64 k ∧ Blk wr w5.heap.size [.bool true, .int .u64 X, .int .u64 Y] 39 ∧ Hid (Below w5.heap.size w5 wr) ∧ Hid (X = (hiAt gs k : Nat) ∧ Y = (loAt gs k : Nat))) (fun i _ => 8 - (intOf i).toNat)
          case atStart => exact ⟨0, 0, 0, by omega, rfl, Blk.new w5 [.bool true, .int .u64 0, .int .u64 0] _, Lib.hid ((Below.refl _ _).alloc (Nat.le_refl _) _), Lib.hid ⟨by rw [hiAt_zero]; rfl, by rw [loAt_zero]; rfl⟩⟩
          case round =>
            obtain ⟨k, X, Y, hk, rfl, hP, hbw, hXY⟩ := hrel
            replace hP := Lib.hid hP
            by_cases hk8 : k < 8
            · have hk8' : (k : Int) < 8 := by omega
              rcases HF.out k hk8 with ⟨g, hx, hg, h1, h2⟩ | ⟨hg, h1, h2⟩ | ⟨h0, g, m, hy, hg, h1, h2⟩
              · have hlx : (k : Int) < nx := by have := hnx.out; omega
                have hly : (k : Int) - (8 - ny) < 0 := by have := hny.out; omega
                have hlc : nx ≤ c1 := hS1.out.2.1
                have glt := Lib.hid (gl.out g (List.mem_of_getElem? hg))
                have hgk := Lib.hid hg
                obtain ⟨G, hG⟩ : ∃ G : Int, G = (g : Int) := ⟨_, rfl⟩
                obtain ⟨b1, o1, rfl, hb1, hc1⟩ : ∃ b off, A1 = some ⟨b, off, none⟩ ∧ b < w5.heap.size ∧ ∀ j u, (xs.map fun (g : Nat) => Value.int .u64 (g : Int))[j]? = some u → w5.cell? ⟨b, off + j, none⟩ = some u := by
                  rcases hS1.out.2.2 with h | h
                  · have := (List.getElem?_eq_some_iff.1 hx).1
                    have := hnx.out; have := hny.out; omega
                  · exact h
                have hcell : wr.cell? ⟨b1, o1 + k, none⟩ = some (.int .u64 G) := by
                  rw [hbw.out.cell (by exact hb1), hG]; exact hc1 k _ (by rw [List.getElem?_map, hx]; rfl)
                replace hG := Lib.hid hG
                clear hx hg h1 h2 hc1
                by_cases h4 : (k : Int) < 4
                · have H1 := at_low (gs := gs) (k := k) (g := g) (by omega) hgk.out
                  have B1 := (at_lt gl.out k (by omega)).1 (by omega)
                  obtain ⟨c0, c1, c2, f0, f1, f2⟩ := Blk.three hP.out
                  have bX : 0 ≤ X ∧ X < 281474976710656 := by have := hXY.out.1; omega
                  have bG : 0 ≤ (G : Int) ∧ (G : Int) < 65536 := by have := hG.out; have := glt.out; omega
                  have oX := or_shift16 X (G) bX.1 bX.2 bG.1 bG.2
                  have wX : IntKind.u64.wrap (X * 65536) = X * 65536 := by rw [IntKind.wrap_u64]; omega
                  obtain ⟨X', hX'⟩ : ∃ z, z = X * 65536 + (G) := ⟨_, rfl⟩
                  rw [← hX'] at oX
                  have HXY : Hid (X' = (hiAt gs (k + 1) : Nat) ∧ Y = (loAt gs (k + 1) : Nat)) := Lib.hid ⟨by rw [hX', H1.1]; have := hXY.out.1; have := hG.out; omega, by rw [H1.2]; exact hXY.out.2⟩
                  clear H1 B1 hX' hXY bG
                  go_wp2_with fail
                  go_roundw
                  case rel => exact ⟨k + 1, X', Y, by omega, by go_num, Blk.set hP.out 1 (.int .u64 X'), Lib.hid (hbw.out.setCell (p := ⟨w5.heap.size, 1, none⟩) (Nat.le_refl _) (.int .u64 X')), HXY⟩
                  case measure => simp [intOf]; omega
                · have H1 := at_high (gs := gs) (k := k) (g := g) (by omega) hgk.out
                  have B1 := (at_lt gl.out k (by omega)).2.2
                  obtain ⟨c0, c1, c2, f0, f1, f2⟩ := Blk.three hP.out
                  have bX : 0 ≤ Y ∧ Y < 281474976710656 := by have := hXY.out.2; omega
                  have bG : 0 ≤ (G : Int) ∧ (G : Int) < 65536 := by have := hG.out; have := glt.out; omega
                  have oX := or_shift16 Y (G) bX.1 bX.2 bG.1 bG.2
                  have wX : IntKind.u64.wrap (Y * 65536) = Y * 65536 := by rw [IntKind.wrap_u64]; omega
                  obtain ⟨Y', hY'⟩ : ∃ z, z = Y * 65536 + (G) := ⟨_, rfl⟩
                  rw [← hY'] at oX
                  have HXY : Hid (X = (hiAt gs (k + 1) : Nat) ∧ Y' = (loAt gs (k + 1) : Nat)) := Lib.hid ⟨by rw [H1.1]; exact hXY.out.1, by rw [hY', H1.2]; have := hXY.out.2; have := hG.out; omega⟩
                  clear H1 B1 hY' hXY bG
                  go_wp2_with fail
                  go_roundw
                  case rel => exact ⟨k + 1, X, Y', by omega, by go_num, Blk.set hP.out 2 (.int .u64 Y'), Lib.hid (hbw.out.setCell (p := ⟨w5.heap.size, 2, none⟩) (Nat.le_refl _) (.int .u64 Y')), HXY⟩
                  case measure => simp [intOf]; omega
              · exfalso
                have := hnx.out
                omega
              · cases h0
            · obtain rfl : k = 8 := by omega
              obtain ⟨c0, c1, c2, f0, f1, f2⟩ := Blk.three hP.out
              obtain ⟨u0, u1, u2, g0, g1, g2⟩ := Blk.three (Blk.below hB.out hbw.out)
              have hE := at_endP g8.out
              have HX : Hid (X = (acc16 (gs.take 4) : Nat) ∧ Y = (acc16 (gs.drop 4) : Nat)) := Lib.hid (by rw [← hE.1, ← hE.2]; exact hXY.out)
              clear hE hXY
              have hq := hs5
              go_wp2_with fail
              refine bodyPost_ret (v := .tuple #[.agg #[.bool true, .int .u64 X, .int .u64 Y], .int .i64 0]) ?_ rfl ⟨by rw [HX.out.1, HX.out.2]; exact addrE_some HG.out, below_3 (hb.out.trans (hbw.out.mono hs5)) (Nat.le_refl _) _ _ _⟩
              simp [results, Tryz.results90, go_sem, u0, u1, u2]
        · have HN : Hid (looseL l = none) := Lib.hid (by rw [HL.out, HJ.out, if_neg h8]; rfl)
          have b8 : ¬ ((nx : Int) = 8) := by omega
          obtain ⟨u0, u1, u2, f0, f1, f2⟩ := hB.three
          clear HL HJ HE hB hnx hny hl0 h8
          go_wp2_with fail
          refine bodyPost_ret (v := .tuple #[.agg #[.bool false, .int .u64 0, .int .u64 0], .int .i64 9]) ?_ rfl ⟨addrE_none HN.out, below_3 hb.out (Nat.le_refl _) _ _ _⟩
          simp [results, Tryz.results90, go_sem, u0, u1, u2]

theorem addrLooseR_any (l : List UInt8) (w : World) (hC : Cons w) (hl : l.length ≤ 100000) :
    Calls Tryz.prog 90 #[.string ⟨l.toArray⟩] w (GivesV (addrE (looseL l)) w) := by
  cases hf : fourL l with
  | none => exact looseR_groups l w hC hl hf
  | some n => exact looseR_four l n w hC hl hf
end Go.Proofs.YtkldcmmlllkhkaaGreatDoor
