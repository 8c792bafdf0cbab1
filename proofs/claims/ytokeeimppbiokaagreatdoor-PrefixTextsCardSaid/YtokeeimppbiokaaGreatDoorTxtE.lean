/- Text of the program. -/
import Derived.Test.YtokeeimppbiokaaGreatDoorTxtD
namespace Go.Proofs.YtokeeimppbiokaaGreatDoor
open Go.RowKit

theorem grps_len (V : Nat) : (grps V).length = 8 := rfl
theorem grps_lt (V : Nat) : ∀ g ∈ grps V, g < 65536 := by
  intro g hg
  simp only [grps, List.mem_cons, List.not_mem_nil, or_false] at hg
  rcases hg with rfl | rfl | rfl | rfl | rfl | rfl | rfl | rfl <;> exact dig_lt _ _

/-- The text of an address. -/
def adrText (s : Bool) (hi lo : Int) : List UInt8 :=
  if adF s hi lo = 0 then (if s then sixText (zTwo (lzTo (flagsZ (grps (num hi lo))) 8)) (grps (num hi lo)) else fourText lo.toNat) else []

theorem ret_se {a b : List UInt8} {x y : Int} (h1 : a = b) (h2 : x = y) : Ending.returned (.tuple #[sv a, .int .i64 x]) = Ending.returned (.tuple #[sv b, .int .i64 y]) := by rw [h1, h2]

set_option maxHeartbeats 1000000 in
theorem text_any (s : Bool) (hi lo : Int) (w : World) (htab : Tabs w) (h1 : 0 ≤ hi) (h2 : hi < 18446744073709551616) (h3 : 0 ≤ lo) (h4 : lo < 18446744073709551616) :
    Calls Tryz.prog 24 #[.agg #[.bool s, .int .u64 hi, .int .u64 lo]] w (GivesV (.tuple #[sv (adrText s hi lo), .int .i64 (adF s hi lo)]) w) := by
  have hA := Blk.new w [.bool s, .int .u64 hi, .int .u64 lo] 29
  have hb0 : Below w.heap.size w (w.alloc (.cells #[.bool s, .int .u64 hi, .int .u64 lo] 29)) := (Below.refl _ _).alloc (Nat.le_refl _) _
  have hs0 := hb0.size
  have HC := fun w' => Lib.hid (checkAddr_any s hi lo w')
  rcases adF_two s hi lo with hF | hF
  · have HT : Hid (adrText s hi lo = if s then sixText (zTwo (lzTo (flagsZ (grps (num hi lo))) 8)) (grps (num hi lo)) else fourText lo.toNat) := Lib.hid (if_pos hF)
    rw [hF] at HC
    replace hF := Lib.hid hF
    cases s
    · replace HT : Hid (adrText false hi lo = fourText lo.toNat) := Lib.hid (by rw [HT.out]; exact if_neg (by decide))
      have HB := fun w' h => Lib.hid (textOfBytes_any lo w' h h3 h4)
      go_enter Tryz.func24, Tryz.ntmps24
      go_wp2_with fail
      refine (HC _).out.mono ?_
      rintro e w1 ⟨rfl, hb1⟩
      obtain ⟨a0, a1, a2, _⟩ := (hA.below hb1).three
      have hC1 : Below w.heap.size w w1 := hb0.trans (hb1.mono hs0)
      clear hb1 hA
      go_wp2_with fail
      refine (HB _ (htab.below hC1)).out.mono ?_
      rintro e w2 ⟨rfl, hb2⟩
      go_wp2_with fail
      go_ret2
      exact ⟨ret_se HT.out.symm hF.out.symm, hC1.trans (hb2.mono hC1.size)⟩
    · have HG := fun w' => Lib.hid (groupsP_any true hi lo w' h1 h2 h3 h4)
      obtain ⟨G, hG⟩ : ∃ G, G = grps (num hi lo) := ⟨_, rfl⟩
      have g8 : G.length = 8 := by rw [hG]; exact grps_len _
      have gl : ∀ g ∈ G, g < 65536 := by rw [hG]; exact grps_lt _
      replace HT : Hid (adrText true hi lo = sixText (zTwo (lzTo (flagsZ G) 8)) G) := Lib.hid (by rw [HT.out, hG]; exact if_pos rfl)
      rw [← hG] at HG
      replace hG := Lib.hid hG
      replace g8 := Lib.hid g8
      replace gl := Lib.hid gl
      go_enter Tryz.func24, Tryz.ntmps24
      go_wp2_with fail
      refine (HC _).out.mono ?_
      rintro e w1 ⟨rfl, hb1⟩
      obtain ⟨a0, a1, a2, _⟩ := (hA.below hb1).three
      have hC1 : Below w.heap.size w w1 := hb0.trans (hb1.mono hs0)
      clear hb1 hA
      go_wp2_with fail
      refine (HG _).out.mono ?_
      rintro e w2 ⟨A, cap, rfl, hS, hb2⟩
      have hC2 := hC1.trans (hb2.mono hC1.size)
      rw [g8.out] at hS ⊢
      have HX := Lib.hid (textOfGroups_any A cap G w2 (htab.below hC2) g8.out gl.out hS)
      clear hS hb2
      go_wp2_with fail
      refine HX.out.mono ?_
      rintro e w3 ⟨rfl, hb3⟩
      go_wp2_with fail
      go_ret2
      exact ⟨ret_se HT.out.symm hF.out.symm, hC2.trans (hb3.mono hC2.size)⟩
  · have HT : Hid (adrText s hi lo = []) := Lib.hid (if_neg (by rw [hF]; decide))
    rw [hF] at HC
    replace hF := Lib.hid hF
    go_enter Tryz.func24, Tryz.ntmps24
    go_wp2_with fail
    refine (HC _).out.mono ?_
    rintro e w1 ⟨rfl, hb1⟩
    have hC1 : Below w.heap.size w w1 := hb0.trans (hb1.mono hs0)
    clear hb1 hA
    go_wp2_with fail
    go_ret2
    exact ⟨ret_se HT.out.symm hF.out.symm, hC1⟩
end Go.Proofs.YtokeeimppbiokaaGreatDoor
