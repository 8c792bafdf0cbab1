/- Reports: Merge. -/
import Derived.Test.YtbheigndfhhpcaaGreatDoorKgRqC
namespace Go.Proofs.YtbheigndfhhpcaaGreatDoor
open Go.RowKit
set_option linter.unusedVariables false
set_option linter.unusedSimpArgs false

theorem repsF_len {rs : List Rp} (h : repsF rs = 0) : rs.length ≤ 3000 := by
  unfold repsF at h
  by_cases k : 3000 < rs.length
  · rw [if_pos k] at h; exact absurd h (by decide)
  · omega
/-- What Merge gives. -/
def FmP (w : World) (E : Int) (ms : List Rp) (e : Ending) (w' : World) : Prop := (E ≠ 0 ∧ Below w.heap.size w w' ∧ e = .returned (.tuple #[.slice none 0 0, .int .i64 E])) ∨ (E = 0 ∧ MgP w ms e w')
theorem MgP.ahead {w w1 : World} {ms : List Rp} {e : Ending} {w' : World} (hb : Below w.heap.size w w1) (h : MgP w1 ms e w') : MgP w ms e w' := ⟨hb.trans (h.1.mono hb.size), h.2⟩

set_option maxHeartbeats 4000000 in
set_option maxRecDepth 100000 in
theorem flowMerge_any (A1 A2 : Option Addr) (n1 c1 n2 c2 : Nat) (ps rs : List Rp) (w : World) (s1 : SlE eRp w A1 n1 c1 ps) (s2 : SlE eRp w A2 n2 c2 rs) (hU : ∀ x ∈ ps ++ rs, x.U) (h1 : n1 ≤ 100000) (h2 : n2 ≤ 100000) :
    Calls Tryz.prog 10 #[.slice A1 n1 c1, .slice A2 n2 c2] w (FmP w (firstZ [repsF ps, repsF rs]) (ps ++ rs)) := by
  have HA := Lib.hid (check_any A1 n1 c1 ps w s1 (by omega) (fun x hx => hU x (List.mem_append_left _ hx)))
  have HB := Lib.hid (fun w1 (hb : Below w.heap.size w w1) => check_any A2 n2 c2 rs w1 (s2.below hb) (by omega) (fun x hx => hU x (List.mem_append_right _ hx)))
  have HM := Lib.hid (fun w1 (hb : Below w.heap.size w w1) (k : firstZ [repsF ps, repsF rs] = 0) => mergeL_any A1 A2 n1 c1 n2 c2 ps rs w1 (s1.below hb) (s2.below hb) hU
    (by rw [s1.1]; exact repsF_len ((firstZ_two _ _ ▸ k : (if repsF ps = 0 then repsF rs else repsF ps) = 0) |> fun q => by by_cases h : repsF ps = 0 <;> simp_all))
    (by rw [s2.1]; exact repsF_len ((firstZ_two _ _ ▸ k : (if repsF ps = 0 then repsF rs else repsF ps) = 0) |> fun q => by by_cases h : repsF ps = 0 <;> simp_all)))
  clear s1 s2 hU h1 h2
  generalize repsF ps = z1 at *
  generalize repsF rs = z2 at *
  generalize ps ++ rs = ms at *
  go_enter Tryz.func10, Tryz.ntmps10
  go_wp2_with fail
  refine HA.out.mono ?_
  rintro e w1 ⟨rfl, hb1⟩
  go_wp2_with fail
  refine (HB.out _ hb1).mono ?_
  rintro e w2 ⟨rfl, hb2⟩
  have hb := hb1.trans (hb2.mono hb1.size)
  clear HA HB hb1 hb2
  have hL := Blk.new w2 ([z1, z2].map (Value.int .i64)) 39
  have hvA : Below w.heap.size w (w2.alloc (.cells ([z1, z2].map (Value.int .i64)).toArray 39)) := hb.alloc hb.size _
  go_wp2_with fail
  refine (orF_blk [z1, z2] _ _ _ _ hL (by simp)).mono ?_
  rintro e w3 ⟨rfl, rfl⟩
  have HN := Lib.hid (HM.out _ hvA)
  generalize firstZ [z1, z2] = E at *
  clear HM hL hb
  by_cases hE : E = 0
  · subst hE
    have HN2 := Lib.hid (HN.out rfl)
    clear HN
    go_wp2_with fail
    refine HN2.out.mono ?_
    rintro e w3 ⟨hb3, h⟩
    have hb := hvA.trans (hb3.mono hvA.size)
    clear HN2 hvA hb3
    rcases h with ⟨hc, rfl⟩ | ⟨A, m, cap, zs, hm, hS, hm6, ⟨h3, rfl⟩ | ⟨h3, rfl⟩⟩
    · replace hc := Lib.hid hc
      go_wp2_with fail
      go_ret2
      exact .inr ⟨rfl, hb, .inl ⟨hc.out, rfl⟩⟩
    · replace hS := Lib.hid hS
      replace hm := Lib.hid hm
      replace h3 := Lib.hid h3
      replace hm6 := Lib.hid hm6
      go_wp2_with fail
      go_ret2
      exact .inr ⟨rfl, hb, .inr ⟨A, m, cap, zs, hm.out, hS.out, hm6.out, .inl ⟨h3.out, rfl⟩⟩⟩
    · replace hS := Lib.hid hS
      replace hm := Lib.hid hm
      replace h3 := Lib.hid h3
      replace hm6 := Lib.hid hm6
      go_wp2_with fail
      go_ret2
      exact .inr ⟨rfl, hb, .inr ⟨A, m, cap, zs, hm.out, hS.out, hm6.out, .inr ⟨h3.out, rfl⟩⟩⟩
  · have hEb : (E != 0) = true := by simpa using hE
    clear HN
    go_wp2_with fail
    go_ret2
    exact .inl ⟨hE, hvA, rfl⟩
end Go.Proofs.YtbheigndfhhpcaaGreatDoor
