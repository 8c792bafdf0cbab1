/- The reference's spread; what the law asks of its own. -/
import Derived.Test.YtmfflcemceonhaaMdH
namespace Go.Proofs.Ytmfflcemceonhaa
open Go.RowKit
set_option linter.unusedVariables false
set_option linter.unusedSimpArgs false

set_option maxHeartbeats 4000000 in
set_option maxRecDepth 100000 in
theorem fourfold_any (A : Option Addr) (n cap : Nat) (zs : List Int) (w : World) (hS : SlE eInt w A n cap zs) (hn : n ≤ 3000) (hx : zs ≠ []) (hz : ∀ z ∈ zs, 0 ≤ z ∧ z ≤ 2000000000000) :
    Calls Try.prog 23 #[.slice A n cap] w fun e w' => e = .returned (.int .i64 (fourI zs)) ∧ Below w.heap.size w w' := by
  have hb1 := twice_bound hx hz
  have HT := Lib.hid (twice_any A n cap zs w hS hn hx (fun z h => by have := hz z h; omega))
  have hdb := diff_bound hb1 hz
  have hnl : zs.length ≤ 3000 := by rw [← hS.1]; exact hn
  have HT2 := Lib.hid (fun A cap W (hS' : SlE eInt W A zs.length cap (zs.map (diffI (twiceI zs)))) => twice_any A zs.length cap _ W hS' hnl (by simpa using hx) (fun z h => by have := hdb z h; omega))
  have hfour : Hid (fourI zs = twiceI (zs.map (diffI (twiceI zs)))) := Lib.hid rfl
  rw [hfour.out]
  clear hfour
  have hl := Lib.hid hS.1
  have hlen := Lib.hid (show (zs.map (diffI (twiceI zs))).length = n by rw [List.length_map]; exact hS.1.symm)
  replace hz := Lib.hid hz
  clear hdb
  generalize twiceI zs = m at *
  generalize twiceI (zs.map (diffI m)) = R at *
  replace hS := Lib.hid hS
  rw [← hl.out] at HT2
  go_enter Try.func23, Try.ntmps23
  go_wp2_with fail
  refine HT.out.mono ?_
  rintro e w1 ⟨rfl, hb2⟩
  clear HT
  have hz1 := hb2.size
  go_wp2_with fail
  go_loopw [4, 11] (fun vo vi wr => ∃ k : Nat, k ≤ n ∧ vi = .int .i64 k ∧ OwnE eInt 3 w.heap.size wr vo ((zs.take k).map (diffI m)) ∧ Below w.heap.size w wr) (fun _ vi _ => n - (intOf vi).toNat)
  case atStart => exact ⟨0, Nat.zero_le _, rfl, OwnE.nil _ _, hb2⟩
  case round =>
    clear hb2
    obtain ⟨k, hk, rfl, hown, hbw⟩ := hrel
    by_cases hlt : k < n
    · obtain ⟨z, hzk⟩ : ∃ z, zs[k]? = some z := ⟨zs[k]'(by have := hl.out; omega), List.getElem?_eq_getElem _⟩
      obtain ⟨g, off, rfl, hgl, hc⟩ := (hS.out.below hbw).num hzk
      have hcap := hS.out.2.1
      have hlt' : (k : Int) < n := by omega
      have hzz := hz.out z (List.mem_of_getElem? hzk)
      have e1 : IntKind.i64.wrap (2 * z) = 2 * z := IntWalk.i64_in _ (by omega)
      have e2 : IntKind.i64.wrap (2 * z - m) = 2 * z - m := IntWalk.i64_in _ (by omega)
      have e3 : IntKind.i64.wrap (m - 2 * z) = m - 2 * z := IntWalk.i64_in _ (by omega)
      have hstep := Lib.hid (show (zs.take (k + 1)).map (diffI m) = (zs.take k).map (diffI m) ++ [max (2 * z - m) (m - 2 * z)] by rw [List.take_add_one, hzk, List.map_append]; rfl)
      have hpl := Lib.hid (show ((zs.take k).map (diffI m)).length = k by rw [List.length_map, List.length_take]; have := hl.out; omega)
      generalize (zs.take k).map (diffI m) = pre at *
      have hbs := hbw.size
      clear hzk hgl hzz
      go_wp2_with (at_builtin; refine wpList_app tyeInt rfl _ _ rfl w.heap.size _ pre [max (2 * z - m) (m - 2 * z)] rfl (hown.below ((Below.refl _ _).alloc (Nat.le_refl _) _)) ⟨_, 0, none⟩ 1 1 rfl rfl ?d1 ?d2 ?d3 ?_)
      case d1 => intro j u hj; first | exact hj | (rw [Enc.cells_single] at hj; rw [Addr.add_lit, Nat.zero_add]; exact (Blk.new wr [.int .i64 (max (2 * z - m) (m - 2 * z))] 3).cell hj)
      case d2 => have := hpl.out; simp only [List.length_singleton]; omega
      case d3 => simp; omega
      intro v' w3 hown3 hg3 hd3
      have hb3 : Below w.heap.size w w3 := (hbw.alloc hbs _).grown hg3 (by simp; omega) (fun k h => (hown.lt k h).1)
      clear hg3 hd3 hown hbw
      replace hown3 := Lib.hid hown3
      replace hb3 := Lib.hid hb3
      go_wp2_with fail
      go_roundw
      case rel => exact ⟨k + 1, by omega, by go_num, by rw [hstep.out]; exact hown3.out, hb3.out⟩
      case measure => simp [intOf]; omega
    · have hkn : k = n := by omega
      subst hkn
      rw [hl.out, List.take_length] at hown
      obtain ⟨A', c', rfl, hsl⟩ := hown.sl
      rw [hlen.out] at hsl ⊢
      have HT3 := Lib.hid (HT2.out A' c' wr hsl)
      clear hown hsl HT2
      go_wp2_with fail
      refine HT3.out.mono ?_
      rintro e w4 ⟨rfl, hb4⟩
      replace hbw := hbw.trans (hb4.mono hbw.size)
      clear hb4 HT3
      go_wp2_with fail
      go_ret
      exact ⟨rfl, hbw⟩

theorem srt129 : srtI [1, 2, 9] = [1, 2, 9] := by
  unfold srtI
  exact List.mergeSort_of_pairwise (by decide)
theorem med129 : medV (numsF [1, 2, 9]) (twiceI [1, 2, 9]).toNat 2 = .tuple #[.agg #[.int .i64 2, .int .i64 1], .int .i64 0] := by
  unfold twiceI
  rw [srt129, show numsF [1, 2, 9] = 0 from by decide, show (midS [1, 2, 9]).toNat = 4 from by decide]
  unfold medV fracV
  rw [if_pos rfl, show Nat.gcd 4 2 = 2 from by decide]
  rfl

set_option maxHeartbeats 1000000 in
theorem flowing_any (w : World) : Calls Try.prog 8 #[] w fun e w' => e = .returned (.bool true) ∧ Below w.heap.size w w' := by
  have hb0 : Below w.heap.size w (w.alloc (.cells #[.int .i64 1, .int .i64 2, .int .i64 9] 3)) := (Below.refl _ _).alloc (Nat.le_refl _) _
  have hS : SlE eInt (w.alloc (.cells #[.int .i64 1, .int .i64 2, .int .i64 9] 3)) (some ⟨w.heap.size, 0, none⟩) 3 3 [1, 2, 9] := by
    refine ⟨rfl, by omega, (fun e => by cases e), .inr ⟨_, 0, rfl, by simp, fun j x hj i v hv => ?_⟩⟩
    have hB := Blk.new w [.int .i64 1, .int .i64 2, .int .i64 9] 3
    rw [show eInt.k = 1 from rfl, Nat.mul_one, Nat.zero_add]
    have hi : i = 0 := by have := (List.getElem?_eq_some_iff.1 hv).1; have e : (eInt.enc x).length = 1 := rfl; omega
    subst hi
    obtain rfl : v = .int .i64 x := (Option.some.inj hv).symm
    refine hB.cell ?_
    have := List.getElem?_map (f := Value.int .i64) (l := [1, 2, 9]) (i := j)
    rw [hj] at this
    exact this
  have HM := median_any _ 3 3 [1, 2, 9] _ hS (by omega)
  rw [med129] at HM
  replace HM := Lib.hid HM
  clear hS
  go_enter Try.func8, Try.ntmps8
  go_wp2_with fail
  refine HM.out.mono ?_
  rintro e w1 ⟨rfl, hb1⟩
  replace hb0 := hb0.trans (hb1.mono (by simp))
  have hB := Blk.new w1 [.int .i64 2, .int .i64 1] 28
  have c0 := hB.cell (i := 0) (v := .int .i64 2) rfl
  have c1 := hB.cell (i := 1) (v := .int .i64 1) rfl
  replace hb0 := hb0.alloc hb0.size (.cells [Value.int .i64 2, .int .i64 1].toArray 28)
  clear hb1 HM hB
  go_wp2_with fail
  go_ret
  exact ⟨rfl, hb0⟩
end Go.Proofs.Ytmfflcemceonhaa
