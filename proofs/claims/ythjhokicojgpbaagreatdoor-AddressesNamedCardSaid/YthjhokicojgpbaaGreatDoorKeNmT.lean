/- Changed names. -/
import Derived.Test.YthjhokicojgpbaaGreatDoorKeLaneAddr
import Derived.Test.YthjhokicojgpbaaGreatDoorKePsB
namespace Go.Proofs.YthjhokicojgpbaaGreatDoor
open Go.RowKit
set_option linter.unusedVariables false
set_option linter.unusedSimpArgs false

/-- A step of the stream b: a string of at most m bytes. -/
def StNPost (m b R : Nat) (w : World) (e : Ending) (w' : World) : Prop :=
  ∃ l : List UInt8, l.length ≤ m ∧ e = .returned (.string ⟨l.toArray⟩) ∧ Str w' b R ∧ w.grownBy w' (some b)

theorem encN_size (n : Int) : (Utf8.encode n).size ≤ 4 := by
  unfold Utf8.encode
  dsimp only
  (repeat' split) <;> simp [ByteArray.size]

set_option maxHeartbeats 2000000 in
set_option maxRecDepth 100000 in
theorem changedN_any (l : List UInt8) (w : World) (b R : Nat) (hs : Str w b (R + 3)) (hl : l.length ≤ 100000) :
    Calls Tryz.prog 13 #[.pointer (some ⟨b, 0, none⟩), .string ⟨l.toArray⟩, .string ⟨#[48, 49, 50, 51, 52, 53, 54, 55, 56, 57, 97, 102, 46, 122]⟩] w (StNPost (l.length + 16) b R w) := by
  by_cases h0 : l = []
  · subst h0
    go_enter Tryz.func13, Tryz.ntmps13
    go_wp2_with fail
    go_ret
    exact ⟨[48, 49, 50, 51, 52, 53, 54, 55, 56, 57, 97, 102, 46, 122], by decide, rfl, hs.le (by omega), gb_refl _ _⟩
  · have hne : l.isEmpty = false := by simpa using h0
    have hpos : 0 < l.length := List.length_pos_iff.2 h0
    obtain ⟨S, hS⟩ : ∃ S : ByteArray, S = ⟨l.toArray⟩ := ⟨_, rfl⟩
    have hsz : S.size = l.length := by rw [hS]; rfl
    go_enter Tryz.func13, Tryz.ntmps13
    go_wp2_with fail
    refine (next_any _ _ _ (R + 2) (by omega) (by omega) hs).mono ?_
    rintro e w1 ⟨r, ⟨hr1, hr2⟩, rfl, hs1, hg1⟩
    go_wp2_with fail
    refine (next_any _ _ _ (R + 1) (by omega) (by omega) hs1).mono ?_
    rintro e w2 ⟨q, ⟨hq1, hq2⟩, rfl, hs2, hg2⟩
    replace hg2 := gb_trans hg1 hg2
    obtain ⟨c, hc1, hc2, hcx⟩ : ∃ c : Int, 0 ≤ c ∧ c < 256 ∧ ∀ W, (Instr.index 9 (.string ⟨#[48, 49, 50, 51, 52, 53, 54, 55, 56, 57, 97, 102, 46, 122]⟩) (.int .i64 q)).run Tryz.prog W = .ok (.int .u8 c) W :=
      ⟨(((⟨#[48, 49, 50, 51, 52, 53, 54, 55, 56, 57, 97, 102, 46, 122]⟩ : ByteArray)[q.toNat]'(by show q.toNat < 14; omega)).toNat : Int), by omega, by have := UInt8.toNat_lt ((⟨#[48, 49, 50, 51, 52, 53, 54, 55, 56, 57, 97, 102, 46, 122]⟩ : ByteArray)[q.toNat]'(by show q.toNat < 14; omega)); omega, fun W => by
        rw [run_index_string W _ _ _ _ Tryz.underlying9, dif_pos ⟨hq1, hq2⟩]⟩
    have hcv : ∀ W, (convert 5 21 (.int .u8 c)).run Tryz.prog W = .ok (.int .i32 c) W := fun W => by
      have : IntKind.i32.wrap c = c := by rw [IntKind.wrap_i32]; omega
      go_simp
    have hcs : ∀ W, (convert 21 9 (.int .i32 c)).run Tryz.prog W = .ok (.string (Utf8.encode c)) W := fun W => run_convert_int_string W _ _ _ _ (by kernel_rfl) Tryz.underlying9
    have hen := encN_size c
    generalize Utf8.encode c = E at hcs hen
    go_wp2_with fail
    refine (next_any _ _ _ R (by omega) (by omega) hs2).mono ?_
    rintro e w3 ⟨k, ⟨hk1, hk2⟩, rfl, hs3, hg3⟩
    replace hg3 := gb_trans hg2 hg3
    clear hs hs1 hs2 hg1 hg2 hcx
    rcases (show k = 0 ∨ k = 1 ∨ k = 2 by omega) with rfl | rfl | rfl
    all_goals
      go_wp2_with fail
      go_quiet (fail)
      go_wp2_with fail
      go_ret
      refine ⟨_, ?_, congrArg Ending.returned (congrArg Value.string (ba_back _).symm), hs3.drewN, gb_drewN hg3⟩
      simp
      omega


end Go.Proofs.YthjhokicojgpbaaGreatDoor
