/- The strings that a stream makes: some text of at most so many bytes. -/
import Derived.Test.YtkldcmmlllkhkaaGreatDoorKqLaneAddr
import Derived.Test.YtkldcmmlllkhkaaGreatDoorKqPsQ
set_option linter.unusedVariables false
set_option linter.unusedSimpArgs false
namespace Go.Proofs.YtkldcmmlllkhkaaGreatDoor
open Go.RowKit

def StPost (m b R : Nat) (w : World) (e : Ending) (w' : World) : Prop :=
  ∃ l : List UInt8, l.length ≤ m ∧ e = .returned (.string ⟨l.toArray⟩) ∧ Str w' b R ∧ w.grownBy w' (some b)

theorem enc_size (n : Int) : (Utf8.encode n).size ≤ 4 := by
  unfold Utf8.encode
  dsimp only
  (repeat' split) <;> simp [ByteArray.size]

theorem sixText_len (p : Option (Nat × Nat)) (G : List Nat) (hg : G.length = 8) : (sixText p G).length ≤ 200 := by
  cases p with
  | none =>
    have h := join_len [58] 4 (G.map hexL) (by simp only [List.mem_map]; rintro l ⟨g, _, rfl⟩; exact hexL_length g)
    rw [List.length_map, hg] at h
    exact Nat.le_trans h (by decide)
  | some x =>
    obtain ⟨i, n⟩ := x
    have h1 := join_len [58] 4 ((G.take i).map hexL) (by simp only [List.mem_map]; rintro l ⟨g, _, rfl⟩; exact hexL_length g)
    have h2 := join_len [58] 4 ((G.drop (i + n)).map hexL) (by simp only [List.mem_map]; rintro l ⟨g, _, rfl⟩; exact hexL_length g)
    rw [List.length_map, List.length_take, hg] at h1
    rw [List.length_map, List.length_drop, hg] at h2
    show (Lib.join ((G.take i).map hexL) [58] ++ [58, 58] ++ Lib.join ((G.drop (i + n)).map hexL) [58]).length ≤ 200
    rw [List.length_append, List.length_append]
    simp only [List.length_cons, List.length_nil] at h1 h2 ⊢
    omega
theorem fourText_len (n : Nat) : (fourText n).length ≤ 200 := by
  unfold fourText
  have d1 := dec_len (n / 16777216 % 256) (Nat.mod_lt _ (by decide))
  have d2 := dec_len (n / 65536 % 256) (Nat.mod_lt _ (by decide))
  have d3 := dec_len (n / 256 % 256) (Nat.mod_lt _ (by decide))
  have d4 := dec_len (n % 256) (Nat.mod_lt _ (by decide))
  generalize Lib.decDigits (n / 16777216 % 256) = x1 at *
  generalize Lib.decDigits (n / 65536 % 256) = x2 at *
  generalize Lib.decDigits (n / 256 % 256) = x3 at *
  generalize Lib.decDigits (n % 256) = x4 at *
  have h := join_len [46] 3 [x1, x2, x3, x4] (by
    intro l hl
    simp at hl
    rcases hl with rfl | rfl | rfl | rfl <;> assumption)
  exact Nat.le_trans h (by simp)
theorem adrText_len (s : Bool) (hi lo : Int) : (adrText s hi lo).length ≤ 200 := by
  unfold adrText
  by_cases hF : adF s hi lo = 0
  · rw [if_pos hF]
    cases s
    · rw [if_neg (by decide)]; exact fourText_len _
    · rw [if_pos rfl]; exact sixText_len _ _ (grps_len _)
  · rw [if_neg hF]; exact Nat.zero_le _

end Go.Proofs.YtkldcmmlllkhkaaGreatDoor
