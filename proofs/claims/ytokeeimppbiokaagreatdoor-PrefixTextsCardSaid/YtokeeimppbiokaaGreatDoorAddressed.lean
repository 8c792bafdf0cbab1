/- Package addr writes addresses: Text of the address 1 is as it must be. -/
import Derived.Test.YtokeeimppbiokaaGreatDoorOwnA
import Derived.Test.YtokeeimppbiokaaGreatDoorShelf
namespace Go.Proofs.YtokeeimppbiokaaGreatDoor
open Go.RowKit

set_option maxHeartbeats 400000 in
theorem formatUint_in (i : Nat) (h : i < 100) (w : World) :
    Calls Tryz.prog 96 #[.int .u64 (i : Int), .int .i64 10] w fun e w' => e = .returned (.string ⟨(Lib.decDigits i).toArray⟩) ∧ w = w' := by
  have h1 : (i : Int) < 100 := by omega
  have HS := fun w' => Lib.hid (Tryz.internal_strconv_small i h w')
  go_enter Tryz.func96, Tryz.ntmps96
  go_wp2_with fail
  refine (HS _).out.mono ?_
  rintro e w' ⟨rfl, rfl⟩
  go_wp2_with fail
  go_ret
  exact ⟨rfl, rfl⟩

set_option maxHeartbeats 400000 in
theorem formatUint_small (i : Nat) (h : i < 100) (w : World) :
    Calls Tryz.prog 75 #[.int .u64 (i : Int), .int .i64 10] w fun e w' => e = .returned (.string ⟨(Lib.decDigits i).toArray⟩) ∧ w = w' := by
  go_enter Tryz.func75, Tryz.ntmps75
  go_wp2_with fail
  refine (formatUint_in i h _).mono ?_
  rintro e w' ⟨rfl, rfl⟩
  go_wp2_with fail
  go_ret
  exact ⟨rfl, rfl⟩

theorem fmt_zero (w : World) : Calls Tryz.prog 75 #[.int .u64 0, .int .i64 10] w fun e w' => e = .returned (.string ⟨#[48]⟩) ∧ w = w' := by
  have := formatUint_small 0 (by decide) w
  rwa [show Lib.decDigits 0 = [48] from by decide +kernel] at this
theorem fmt_one (w : World) : Calls Tryz.prog 75 #[.int .u64 1, .int .i64 10] w fun e w' => e = .returned (.string ⟨#[49]⟩) ∧ w = w' := by
  have := formatUint_small 1 (by decide) w
  rwa [show Lib.decDigits 1 = [49] from by decide +kernel] at this

theorem info_str : (Tryz.prog.info? 9).map (fun i => (i.zero, i.size, i.bytes)) = some (some (.string ⟨#[]⟩), 1, 16) := by kernel_rfl

set_option maxHeartbeats 1000000 in
theorem textOfBytes_one (w : World) :
    Calls Tryz.prog 53 #[.int .u64 1] w (GivesV (.string ⟨#[48, 46, 48, 46, 48, 46, 49]⟩) w) := by
  have e0 : bits BinOp.and IntKind.u64 0 255 = 0 := by decide
  have e1 : bits BinOp.and IntKind.u64 1 255 = 1 := by decide
  obtain ⟨i0, hi, hz0, hz1, hz2⟩ := info_parts info_str
  go_enter Tryz.func53, Tryz.ntmps53
  go_wp2_with fail
  refine wp_loop_rounds 5 ?_
  rw [rounds_succ]
  go_wp2_with fail
  have hown0 := World.ownsRow_nil w w.heap.size 9 1
  refine (fmt_zero _).mono ?_
  rintro e w' ⟨rfl, rfl⟩
  go_wp2_with (at_builtin; refine wpList_append_own _ rfl _ _ 77 rfl w.heap.size 9 i0 (.string ⟨#[]⟩) 1 16 Tryz.underlying77 hi hz0 hz1 hz2 rfl (by decide) _ _ _ rfl (hown0.alloc _) ⟨w.heap.size, 0, none⟩ 1 1 [.string ⟨#[48]⟩] rfl rfl ?c1 ?c2 ?c3 ?c4 ?c5 ?_)
  case c1 => exact (cell_one_new _ _ _)
  case c2 => simp; rfl
  case c3 => unfold maxLen; omega
  case c4 => omega
  case c5 => simp
  intro v1 w1 hown1 hg1 _
  have hb1 : Below w.heap.size w w1 := ((Below.refl _ _).alloc (Nat.le_refl _) _).grown hg1 (by simp) (by intro k h; cases h)
  have hs1 := hb1.size
  clear hg1
  go_wp2_with fail
  rw [rounds_succ]
  go_wp2_with fail
  refine (fmt_zero _).mono ?_
  rintro e w' ⟨rfl, rfl⟩
  go_wp2_with (at_builtin; refine wpList_append_own _ rfl _ _ 77 rfl w.heap.size 9 i0 (.string ⟨#[]⟩) 1 16 Tryz.underlying77 hi hz0 hz1 hz2 rfl (by decide) _ _ _ rfl (hown1.alloc _) ⟨w1.heap.size, 0, none⟩ 1 1 [.string ⟨#[48]⟩] rfl rfl ?c1 ?c2 ?c3 ?c4 ?c5 ?_)
  case c1 => exact (cell_one_new _ _ _)
  case c2 => simp; rfl
  case c3 => unfold maxLen; omega
  case c4 => omega
  case c5 => simp; omega
  intro v2 w2 hown2 hg2 _
  have hb2 : Below w.heap.size w w2 := (hb1.alloc hs1 _).grown hg2 (by simp; omega) (fun k h => (hown1.lt k h).1)
  have hs2 := hb2.size
  clear hg2
  go_wp2_with fail
  rw [rounds_succ]
  go_wp2_with fail
  refine (fmt_zero _).mono ?_
  rintro e w' ⟨rfl, rfl⟩
  go_wp2_with (at_builtin; refine wpList_append_own _ rfl _ _ 77 rfl w.heap.size 9 i0 (.string ⟨#[]⟩) 1 16 Tryz.underlying77 hi hz0 hz1 hz2 rfl (by decide) _ _ _ rfl (hown2.alloc _) ⟨w2.heap.size, 0, none⟩ 1 1 [.string ⟨#[48]⟩] rfl rfl ?c1 ?c2 ?c3 ?c4 ?c5 ?_)
  case c1 => exact (cell_one_new _ _ _)
  case c2 => simp; rfl
  case c3 => unfold maxLen; omega
  case c4 => omega
  case c5 => simp; omega
  intro v3 w3 hown3 hg3 _
  have hb3 : Below w.heap.size w w3 := (hb2.alloc hs2 _).grown hg3 (by simp; omega) (fun k h => (hown2.lt k h).1)
  have hs3 := hb3.size
  clear hg3
  go_wp2_with fail
  rw [rounds_succ]
  go_wp2_with fail
  refine (fmt_one _).mono ?_
  rintro e w' ⟨rfl, rfl⟩
  go_wp2_with (at_builtin; refine wpList_append_own _ rfl _ _ 77 rfl w.heap.size 9 i0 (.string ⟨#[]⟩) 1 16 Tryz.underlying77 hi hz0 hz1 hz2 rfl (by decide) _ _ _ rfl (hown3.alloc _) ⟨w3.heap.size, 0, none⟩ 1 1 [.string ⟨#[49]⟩] rfl rfl ?c1 ?c2 ?c3 ?c4 ?c5 ?_)
  case c1 => exact (cell_one_new _ _ _)
  case c2 => simp; rfl
  case c3 => unfold maxLen; omega
  case c4 => omega
  case c5 => simp; omega
  intro v4 w4 hown4 hg4 _
  have hb4 : Below w.heap.size w w4 := (hb3.alloc hs3 _).grown hg4 (by simp; omega) (fun k h => (hown3.lt k h).1)
  have hs4 := hb4.size
  clear hg4
  go_wp2_with fail
  rw [rounds_succ]
  go_wp2_with fail
  obtain ⟨g, cap, hv, hgb, hcap, hcell⟩ : ∃ g cap, v4 = .slice (some ⟨g, 0, none⟩) 4 cap ∧ g < w4.heap.size ∧ 4 ≤ cap ∧ ∀ j u, [Value.string ⟨#[48]⟩, .string ⟨#[48]⟩, .string ⟨#[48]⟩, .string ⟨#[49]⟩][j]? = some u → w4.cell? ⟨g, j, none⟩ = some u := by
    rcases hown4.2 with ⟨_, h0⟩ | ⟨g, cap, cur, hv, _, hg, hle, _, _, _⟩
    · omega
    · refine ⟨g, cap, hv, (Array.getElem?_eq_some_iff.1 hg).1, hle, fun j u hu => ?_⟩
      have := hown4.cells (g := g) (by rw [hv]; rfl) j u hu
      by_cases hj : j = 0
      · subst hj; simpa [Addr.add] using this
      · simpa [Addr.add, hj] using this
  have HJ := Tryz.strings_Join g 0 cap [⟨#[48]⟩, ⟨#[48]⟩, ⟨#[48]⟩, ⟨#[49]⟩] ⟨#[46]⟩ w4 (fun j x hx => by
    rw [Nat.zero_add]
    apply hcell
    match j, hx with
    | 0, hx => simp at hx; subst hx; rfl
    | 1, hx => simp at hx; subst hx; rfl
    | 2, hx => simp at hx; subst hx; rfl
    | 3, hx => simp at hx; subst hx; rfl) hgb (by simp) (by simpa using hcap) (by decide +kernel)
  rw [show Lib.join (([⟨#[48]⟩, ⟨#[48]⟩, ⟨#[48]⟩, ⟨#[49]⟩] : List ByteArray).map (·.data.toList)) (⟨#[46]⟩ : ByteArray).data.toList = [48, 46, 48, 46, 48, 46, 49] from by decide +kernel] at HJ
  rw [hv]
  clear hown0 hown1 hown2 hown3 hown4 hcell hv
  refine HJ.mono ?_
  rintro e w5 ⟨rfl, hb5⟩
  go_wp2_with fail
  go_ret
  exact ⟨rfl, hb4.trans (hb5.mono hs4)⟩

set_option maxHeartbeats 400000 in
theorem text_one (w : World) :
    Calls Tryz.prog 24 #[.agg #[.bool false, .int .u64 0, .int .u64 1]] w (GivesV (.tuple #[.string ⟨#[48, 46, 48, 46, 48, 46, 49]⟩, .int .i64 0]) w) := by
  have hA := Blk.new w [.bool false, .int .u64 0, .int .u64 1] 29
  have HC := fun w' => Lib.hid (checkAddr_any false 0 1 w')
  rw [show adF false 0 1 = 0 from rfl] at HC
  go_enter Tryz.func24, Tryz.ntmps24
  go_wp2_with fail
  refine (HC _).out.mono ?_
  rintro e w1 ⟨rfl, hb1⟩
  obtain ⟨a0, a1, a2, _⟩ := (hA.below hb1).three
  have hC1 : Below w.heap.size w w1 := ((Below.refl _ _).alloc (Nat.le_refl _) _).trans (hb1.mono (by simp))
  clear hb1 hA
  go_wp2_with fail
  refine (textOfBytes_one _).mono ?_
  rintro e w2 ⟨rfl, hb2⟩
  go_wp2_with fail
  go_ret2
  exact ⟨rfl, hC1.trans (hb2.mono hC1.size)⟩

set_option maxHeartbeats 400000 in
theorem addressed_any (w : World) : Calls Tryz.prog 10 #[] w (GivesV (.bool true) w) := by
  go_enter Tryz.func10, Tryz.ntmps10
  go_wp2_with fail
  refine (text_one _).mono ?_
  rintro e w1 ⟨rfl, hb1⟩
  go_wp2_with fail
  go_ret
  exact ⟨rfl, hb1⟩
end Go.Proofs.YtokeeimppbiokaaGreatDoor
