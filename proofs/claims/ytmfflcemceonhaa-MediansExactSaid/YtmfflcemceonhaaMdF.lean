/- Four times the spread, as the program finds it; Median and Spread. -/
import Derived.Test.YtmfflcemceonhaaMdE
namespace Go.Proofs.Ytmfflcemceonhaa
open Go.RowKit
set_option linter.unusedVariables false
set_option linter.unusedSimpArgs false

set_option maxRecDepth 100000 in
theorem differ_any (b : Nat) (m z : Int) (w : World) (hB : Boxed w b 3 (.int .i64 m)) (hm : 0 ≤ m ∧ m ≤ 8000000000000) (hz : 0 ≤ z ∧ z ≤ 8000000000000) :
    Calls Try.prog 31 #[.int .i64 z, .pointer (some ⟨b, 0, none⟩)] w fun e w' => e = .returned (.int .i64 (diffI m z)) ∧ w' = w := by
  have q1 := hB.cell
  have e1 : IntKind.i64.wrap (2 * z) = 2 * z := IntWalk.i64_in _ (by omega)
  have e2 : IntKind.i64.wrap (2 * z - m) = 2 * z - m := IntWalk.i64_in _ (by omega)
  have e3 : IntKind.i64.wrap (m - 2 * z) = m - 2 * z := IntWalk.i64_in _ (by omega)
  have hd : Hid (diffI m z = max (2 * z - m) (m - 2 * z)) := Lib.hid rfl
  obtain ⟨R, hR⟩ : ∃ R, R = diffI m z := ⟨_, rfl⟩
  rw [← hR] at hd ⊢
  clear hR
  go_enter Try.func31, Try.ntmps31
  go_wp2_with fail
  go_ret
  exact ⟨by rw [hd.out]; rfl, rfl⟩

set_option maxHeartbeats 2000000 in
set_option maxRecDepth 100000 in
theorem mapI_any (b : Nat) (m : Int) (A : Option Addr) (n cap : Nat) (zs : List Int) (w : World) (hB : Boxed w b 3 (.int .i64 m)) (hm : 0 ≤ m ∧ m ≤ 8000000000000) (hS : SlE eInt w A n cap zs) (hn : n ≤ 3000) (hz : ∀ z ∈ zs, 0 ≤ z ∧ z ≤ 8000000000000) :
    Calls Try.prog 30 #[.slice A n cap, .func (.func 31) #[] #[.pointer (some ⟨b, 0, none⟩)]] w fun e w' => (∃ A' cap', e = .returned (.slice A' zs.length cap') ∧ OwnE eInt 3 w.heap.size w' (.slice A' zs.length cap') (zs.map (diffI m))) ∧ Below w.heap.size w w' := by
  obtain ⟨i0, hi0, hz0, hz1, hz2⟩ := info_parts infoInt
  have HD := Lib.hid (fun z (hz : 0 ≤ z ∧ z ≤ 8000000000000) W (hW : Below w.heap.size w W) => differ_any b m z W ((hW.block b hB.lt).trans hB) hm hz)
  have hl := Lib.hid hS.1
  have hlen := Lib.hid (show (zs.map (diffI m)).length = n by rw [List.length_map]; exact hS.1.symm)
  replace hz := Lib.hid hz
  replace hS := Lib.hid hS
  clear hB hm
  rw [← hl.out]
  go_enter Try.func30, Try.ntmps30
  go_wp2_with (at_make; refine wpList_make_own _ rfl _ _ 22 rfl w.heap.size 3 i0 (.int .i64 0) 1 Try.underlying22 hi0 hz0 hz1 .i64 .i64 _ n rfl rfl rfl ?c1 ?c2 (Nat.le_refl _) ?_)
  case c1 => rw [hz2]; omega
  case c2 => unfold maxLen; omega
  intro w1 hown hg1
  have hbw : Below w.heap.size w w1 := (Below.refl _ _).grown hg1 (Nat.le_refl _) (fun k h => by cases h)
  replace hown : OwnE eInt 3 w.heap.size w1 (.slice (some ⟨w.heap.size, 0, none⟩) 0 n) [] := hown
  clear hg1
  go_wp2_with fail
  go_loopw [5, 13] (fun vo vi wr => ∃ k : Nat, k ≤ n ∧ vi = .int .i64 k ∧ OwnE eInt 3 w.heap.size wr vo ((zs.take k).map (diffI m)) ∧ Below w.heap.size w wr) (fun _ vi _ => n - (intOf vi).toNat)
  case atStart => exact ⟨0, Nat.zero_le _, rfl, hown, hbw⟩
  case round =>
    clear hown hbw
    obtain ⟨k, hk, rfl, hown, hbw⟩ := hrel
    by_cases hlt : k < n
    · obtain ⟨z, hzk⟩ : ∃ z, zs[k]? = some z := ⟨zs[k]'(by have := hl.out; omega), List.getElem?_eq_getElem _⟩
      obtain ⟨g, off, rfl, hgl, hc⟩ := (hS.out.below hbw).num hzk
      have hcap := hS.out.2.1
      have hlt' : (k : Int) < n := by omega
      have HD1 := Lib.hid (HD.out z (hz.out z (List.mem_of_getElem? hzk)))
      have hstep := Lib.hid (show (zs.take (k + 1)).map (diffI m) = (zs.take k).map (diffI m) ++ [diffI m z] by rw [List.take_add_one, hzk, List.map_append]; rfl)
      have hpl := Lib.hid (show ((zs.take k).map (diffI m)).length = k by rw [List.length_map, List.length_take]; have := hl.out; omega)
      generalize (zs.take k).map (diffI m) = pre at *
      generalize diffI m z = d at *
      clear hzk hgl HD
      go_wp2_with fail
      refine (HD1.out wr hbw).mono ?_
      rintro e w2 ⟨rfl, rfl⟩
      have hbs := hbw.size
      go_wp2_with (at_builtin; refine wpList_app tyeInt rfl _ _ rfl w.heap.size _ pre [d] rfl (hown.below ((Below.refl _ _).alloc (Nat.le_refl _) _)) ⟨_, 0, none⟩ 1 1 rfl rfl ?d1 ?d2 ?d3 ?_)
      case d1 => intro j u hj; first | exact hj | (rw [Enc.cells_single] at hj; rw [Addr.add_lit, Nat.zero_add]; exact (Blk.new w2 [.int .i64 d] 3).cell hj)
      case d2 => have := hpl.out; simp only [List.length_singleton]; omega
      case d3 => simp; omega
      intro v' w3 hown3 hg3 hd3
      have hb3 : Below w.heap.size w w3 := (hbw.alloc hbs _).grown hg3 (by simp; omega) (fun k h => (hown.lt k h).1)
      clear hg3 hd3 hown hbw HD1
      replace hown3 := Lib.hid hown3
      replace hb3 := Lib.hid hb3
      go_wp2_with fail
      go_roundw
      case rel => exact ⟨k + 1, by omega, by go_num, by rw [hstep.out]; exact hown3.out, hb3.out⟩
      case measure => simp [intOf]; omega
    · have hkn : k = n := by omega
      subst hkn
      rw [hl.out, List.take_length] at hown
      obtain ⟨A', c', rfl, _⟩ := hown.sl
      rw [hlen.out] at hown
      rw [hlen.out]
      go_wp2_with fail
      go_ret
      exact ⟨⟨_, _, rfl, hown⟩, hbw⟩
end Go.Proofs.Ytmfflcemceonhaa
