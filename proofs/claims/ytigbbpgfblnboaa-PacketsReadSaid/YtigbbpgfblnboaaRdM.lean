/- Packets that are read: the reference's head, whatever the bytes. -/
import Derived.Test.YtigbbpgfblnboaaRdL
namespace Go.Proofs.Ytigbbpgfblnboaa
open Go.RowKit
set_option linter.unusedVariables false
set_option linter.unusedSimpArgs false

set_option maxHeartbeats 2000000 in
set_option maxRecDepth 100000 in
theorem headRead_any (A : Option Addr) (n cap : Nat) (bs : List Nat) (w : World) (hS : SlB w A n cap bs) (hn2 : n ≤ 1000) (hb : Byt bs) :
    Calls Try.prog 58 #[.slice A n cap] w fun e w' => ∃ q' k, e = .returned (.tuple #[pkV q' (.slice none 0 0), .int .i64 k, .int .i64 (headE bs)]) ∧ Below w.heap.size w w' ∧ (headE bs = 0 → q' = headQ bs ∧ k = headN bs) := by
  have hl := Lib.hid hS.len
  have Z1 := Blk.new w zeroP 45
  have hw1 : Below w.heap.size w (w.alloc (.cells #[.bool false, .int .u64 0, .int .u64 0, .bool false, .int .u64 0, .int .u64 0, .int .i64 0, .int .i64 0, .int .i64 0, .int .i64 0, .bool false, .bool false, .bool false, .bool false, .int .i64 0, .int .i64 0, .bool false, .int .i64 0, .slice none 0 0] 45)) := (Below.refl _ _).alloc (Nat.le_refl _) _
  have hw2 : Below w.heap.size w ((w.alloc (.cells #[.bool false, .int .u64 0, .int .u64 0, .bool false, .int .u64 0, .int .u64 0, .int .i64 0, .int .i64 0, .int .i64 0, .int .i64 0, .bool false, .bool false, .bool false, .bool false, .int .i64 0, .int .i64 0, .bool false, .int .i64 0, .slice none 0 0] 45)).alloc (.cells #[.bool false, .int .u64 0, .int .u64 0, .bool false, .int .u64 0, .int .u64 0, .int .i64 0, .int .i64 0, .int .i64 0, .int .i64 0, .bool false, .bool false, .bool false, .bool false, .int .i64 0, .int .i64 0, .bool false, .int .i64 0, .slice none 0 0] 45)) := hw1.alloc (by simp) _
  have hQ : AtQ w (w.heap.size + 1) zq (.slice none 0 0) ((w.alloc (.cells #[.bool false, .int .u64 0, .int .u64 0, .bool false, .int .u64 0, .int .u64 0, .int .i64 0, .int .i64 0, .int .i64 0, .int .i64 0, .bool false, .bool false, .bool false, .bool false, .int .i64 0, .int .i64 0, .bool false, .int .i64 0, .slice none 0 0] 45)).alloc (.cells #[.bool false, .int .u64 0, .int .u64 0, .bool false, .int .u64 0, .int .u64 0, .int .i64 0, .int .i64 0, .int .i64 0, .int .i64 0, .bool false, .bool false, .bool false, .bool false, .int .i64 0, .int .i64 0, .bool false, .int .i64 0, .slice none 0 0] 45)) := ⟨by
    have := Blk.new (w.alloc (.cells #[.bool false, .int .u64 0, .int .u64 0, .bool false, .int .u64 0, .int .u64 0, .int .i64 0, .int .i64 0, .int .i64 0, .int .i64 0, .bool false, .bool false, .bool false, .bool false, .int .i64 0, .int .i64 0, .bool false, .int .i64 0, .slice none 0 0] 45)) zeroP 45
    rw [show (w.alloc (.cells #[.bool false, .int .u64 0, .int .u64 0, .bool false, .int .u64 0, .int .u64 0, .int .i64 0, .int .i64 0, .int .i64 0, .int .i64 0, .bool false, .bool false, .bool false, .bool false, .int .i64 0, .int .i64 0, .bool false, .int .i64 0, .slice none 0 0] 45)).heap.size = w.heap.size + 1 by simp] at this
    exact this, Z1.alloc _, hw2, by omega⟩
  by_cases hlt : n < 20
  · have hi : (n : Int) < 20 := by omega
    have hE := Lib.hid (show headE bs = 3 by unfold headE; rw [if_pos (by have := hl.out; omega)])
    replace hQ := Lib.hid hQ
    clear hS hw1 hw2 Z1 hlt
    go_enter Try.func58, Try.ntmps58
    have L := ldPk_run hQ.out.x
    have S := stPk_run (q := zq) (v := .slice none 0 0) hQ.out.r rfl rfl
    go_wp2_with fail
    refine bodyPost_ret (v := .tuple #[pkV (zq) (.slice none 0 0), .int .i64 0, .int .i64 3]) (res_pk3 (fn := Try.f58) rfl _ _ w.heap.size (zq) (.slice none 0 0) rfl (setRow_heap _ _ _ _ _ _ hQ.out.r) (.int .i64 0) rfl (.int .i64 3) rfl) rfl ⟨_, 0, by rw [hE.out], hQ.out.fin _, fun h => by rw [hE.out] at h; cases h⟩
  · have hi : ¬ (n : Int) < 20 := by omega
    have hi0 : (0 : Int) < n := by omega
    have hi0' : 0 < n := by omega
    obtain ⟨g, off, rfl, hgw⟩ : ∃ g off, A = some ⟨g, off, none⟩ ∧ g < w.heap.size := by
      rcases hS.2.2 with h | ⟨g, off, h, h2, _⟩
      · omega
      · exact ⟨g, off, h, h2⟩
    by_cases h69 : bs.getD 0 0 = 69
    · exact headRead_four g off n cap bs w hS (by omega) hn2 hb h69
    · by_cases h96 : bs.getD 0 0 = 96
      · exact headRead_six g off n cap bs w hS (by omega) hn2 hb h96
      · have hE := Lib.hid (show headE bs = 4 by unfold headE; rw [if_neg (by have := hl.out; omega), if_neg h69, if_neg h96])
        obtain ⟨c0, _⟩ := (hS.below hw2).byte 0 (by omega)
        rw [Nat.add_zero] at c0
        obtain ⟨x, hx⟩ : ∃ x : Int, x = (bs.getD 0 0 : Nat) := ⟨_, rfl⟩
        rw [← hx] at c0
        have x69 : (x == 69) = false := by simp; omega
        have x96 : (x == 96) = false := by simp; omega
        have y96 : ¬ x = 96 := by omega
        replace hx := Lib.hid hx
        replace hQ := Lib.hid hQ
        clear hS hw1 hw2 Z1
        go_enter Try.func58, Try.ntmps58
        have L := ldPk_run hQ.out.x
        have S := stPk_run (q := zq) (v := .slice none 0 0) hQ.out.r rfl rfl
        go_wp2_with fail
        refine bodyPost_ret (v := .tuple #[pkV (zq) (.slice none 0 0), .int .i64 0, .int .i64 4]) (res_pk3 (fn := Try.f58) rfl _ _ w.heap.size (zq) (.slice none 0 0) rfl (setRow_heap _ _ _ _ _ _ hQ.out.r) (.int .i64 0) rfl (.int .i64 4) rfl) rfl ⟨_, 0, by rw [hE.out], hQ.out.fin _, fun h => by rw [hE.out] at h; cases h⟩
end Go.Proofs.Ytigbbpgfblnboaa
