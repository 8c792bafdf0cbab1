/- Numerals to base 10: strconv.FormatUint of numbers of 64 bits, Itoa. -/
import Derived.Test.YtkldcmmlllkhkaaGreatDoorKqWideD
import Derived.Test.YtkldcmmlllkhkaaGreatDoorKqShelf
import Derived.Test.YtkldcmmlllkhkaaGreatDoorKqPsF
import Derived.Lib.TrailingZeros
import Derived.Lib.ItoaMem
import Derived.Lib.AppendIntMem
set_option maxRecDepth 100000
namespace Go.Proofs.YtkldcmmlllkhkaaGreatDoor
open Go.RowKit

def Tabs (w : World) : Prop := w.cell? ⟨5, 15, none⟩ = some (.int .u8 4) ∧ Lib.TabIs Tryz.prog w "internal/strconv.uint64pow10" .u64 Lib.pow10Tab ∧ 8 ≤ w.heap.size

set_option maxHeartbeats 400000 in
theorem tz16 (w : World) (h : w.cell? ⟨5, 15, none⟩ = some (.int .u8 4)) : Calls Tryz.prog 144 #[.int .u64 16] w fun e w' => e = .returned (.int .i64 4) ∧ w = w' := by
  have e1 : bits BinOp.and IntKind.u64 16 (IntKind.u64.wrap (-16)) = 16 := by decide +kernel
  go_enter Tryz.func144, Tryz.ntmps144
  go_wp2
  go_ret
  exact ⟨rfl, rfl⟩

set_option maxHeartbeats 400000 in
theorem pow2_16 (w : World) : Calls Tryz.prog 143 #[.int .i64 16] w fun e w' => e = .returned (.bool true) ∧ w = w' := by
  have e1 : bits BinOp.and IntKind.i64 16 15 = 0 := by decide +kernel
  go_enter Tryz.func143, Tryz.ntmps143
  go_wp2
  go_ret
  exact ⟨rfl, rfl⟩

theorem hx0 (w : World) : (Instr.index 9 (.string { data := #[48, 49, 50, 51, 52, 53, 54, 55, 56, 57, 97, 98, 99, 100, 101, 102, 103, 104, 105, 106, 107, 108, 109, 110, 111, 112, 113, 114, 115, 116, 117, 118, 119, 120, 121, 122] }) (.int .u64 0)).run Tryz.prog w = .ok (.int .u8 ((hexc 0).toNat : Int)) w := by kernel_rfl
theorem hx1 (w : World) : (Instr.index 9 (.string { data := #[48, 49, 50, 51, 52, 53, 54, 55, 56, 57, 97, 98, 99, 100, 101, 102, 103, 104, 105, 106, 107, 108, 109, 110, 111, 112, 113, 114, 115, 116, 117, 118, 119, 120, 121, 122] }) (.int .u64 1)).run Tryz.prog w = .ok (.int .u8 ((hexc 1).toNat : Int)) w := by kernel_rfl
theorem hx2 (w : World) : (Instr.index 9 (.string { data := #[48, 49, 50, 51, 52, 53, 54, 55, 56, 57, 97, 98, 99, 100, 101, 102, 103, 104, 105, 106, 107, 108, 109, 110, 111, 112, 113, 114, 115, 116, 117, 118, 119, 120, 121, 122] }) (.int .u64 2)).run Tryz.prog w = .ok (.int .u8 ((hexc 2).toNat : Int)) w := by kernel_rfl
theorem hx3 (w : World) : (Instr.index 9 (.string { data := #[48, 49, 50, 51, 52, 53, 54, 55, 56, 57, 97, 98, 99, 100, 101, 102, 103, 104, 105, 106, 107, 108, 109, 110, 111, 112, 113, 114, 115, 116, 117, 118, 119, 120, 121, 122] }) (.int .u64 3)).run Tryz.prog w = .ok (.int .u8 ((hexc 3).toNat : Int)) w := by kernel_rfl
theorem hx4 (w : World) : (Instr.index 9 (.string { data := #[48, 49, 50, 51, 52, 53, 54, 55, 56, 57, 97, 98, 99, 100, 101, 102, 103, 104, 105, 106, 107, 108, 109, 110, 111, 112, 113, 114, 115, 116, 117, 118, 119, 120, 121, 122] }) (.int .u64 4)).run Tryz.prog w = .ok (.int .u8 ((hexc 4).toNat : Int)) w := by kernel_rfl
theorem hx5 (w : World) : (Instr.index 9 (.string { data := #[48, 49, 50, 51, 52, 53, 54, 55, 56, 57, 97, 98, 99, 100, 101, 102, 103, 104, 105, 106, 107, 108, 109, 110, 111, 112, 113, 114, 115, 116, 117, 118, 119, 120, 121, 122] }) (.int .u64 5)).run Tryz.prog w = .ok (.int .u8 ((hexc 5).toNat : Int)) w := by kernel_rfl
theorem hx6 (w : World) : (Instr.index 9 (.string { data := #[48, 49, 50, 51, 52, 53, 54, 55, 56, 57, 97, 98, 99, 100, 101, 102, 103, 104, 105, 106, 107, 108, 109, 110, 111, 112, 113, 114, 115, 116, 117, 118, 119, 120, 121, 122] }) (.int .u64 6)).run Tryz.prog w = .ok (.int .u8 ((hexc 6).toNat : Int)) w := by kernel_rfl
theorem hx7 (w : World) : (Instr.index 9 (.string { data := #[48, 49, 50, 51, 52, 53, 54, 55, 56, 57, 97, 98, 99, 100, 101, 102, 103, 104, 105, 106, 107, 108, 109, 110, 111, 112, 113, 114, 115, 116, 117, 118, 119, 120, 121, 122] }) (.int .u64 7)).run Tryz.prog w = .ok (.int .u8 ((hexc 7).toNat : Int)) w := by kernel_rfl
theorem hx8 (w : World) : (Instr.index 9 (.string { data := #[48, 49, 50, 51, 52, 53, 54, 55, 56, 57, 97, 98, 99, 100, 101, 102, 103, 104, 105, 106, 107, 108, 109, 110, 111, 112, 113, 114, 115, 116, 117, 118, 119, 120, 121, 122] }) (.int .u64 8)).run Tryz.prog w = .ok (.int .u8 ((hexc 8).toNat : Int)) w := by kernel_rfl
theorem hx9 (w : World) : (Instr.index 9 (.string { data := #[48, 49, 50, 51, 52, 53, 54, 55, 56, 57, 97, 98, 99, 100, 101, 102, 103, 104, 105, 106, 107, 108, 109, 110, 111, 112, 113, 114, 115, 116, 117, 118, 119, 120, 121, 122] }) (.int .u64 9)).run Tryz.prog w = .ok (.int .u8 ((hexc 9).toNat : Int)) w := by kernel_rfl
theorem hx10 (w : World) : (Instr.index 9 (.string { data := #[48, 49, 50, 51, 52, 53, 54, 55, 56, 57, 97, 98, 99, 100, 101, 102, 103, 104, 105, 106, 107, 108, 109, 110, 111, 112, 113, 114, 115, 116, 117, 118, 119, 120, 121, 122] }) (.int .u64 10)).run Tryz.prog w = .ok (.int .u8 ((hexc 10).toNat : Int)) w := by kernel_rfl
theorem hx11 (w : World) : (Instr.index 9 (.string { data := #[48, 49, 50, 51, 52, 53, 54, 55, 56, 57, 97, 98, 99, 100, 101, 102, 103, 104, 105, 106, 107, 108, 109, 110, 111, 112, 113, 114, 115, 116, 117, 118, 119, 120, 121, 122] }) (.int .u64 11)).run Tryz.prog w = .ok (.int .u8 ((hexc 11).toNat : Int)) w := by kernel_rfl
theorem hx12 (w : World) : (Instr.index 9 (.string { data := #[48, 49, 50, 51, 52, 53, 54, 55, 56, 57, 97, 98, 99, 100, 101, 102, 103, 104, 105, 106, 107, 108, 109, 110, 111, 112, 113, 114, 115, 116, 117, 118, 119, 120, 121, 122] }) (.int .u64 12)).run Tryz.prog w = .ok (.int .u8 ((hexc 12).toNat : Int)) w := by kernel_rfl
theorem hx13 (w : World) : (Instr.index 9 (.string { data := #[48, 49, 50, 51, 52, 53, 54, 55, 56, 57, 97, 98, 99, 100, 101, 102, 103, 104, 105, 106, 107, 108, 109, 110, 111, 112, 113, 114, 115, 116, 117, 118, 119, 120, 121, 122] }) (.int .u64 13)).run Tryz.prog w = .ok (.int .u8 ((hexc 13).toNat : Int)) w := by kernel_rfl
theorem hx14 (w : World) : (Instr.index 9 (.string { data := #[48, 49, 50, 51, 52, 53, 54, 55, 56, 57, 97, 98, 99, 100, 101, 102, 103, 104, 105, 106, 107, 108, 109, 110, 111, 112, 113, 114, 115, 116, 117, 118, 119, 120, 121, 122] }) (.int .u64 14)).run Tryz.prog w = .ok (.int .u8 ((hexc 14).toNat : Int)) w := by kernel_rfl
theorem hx15 (w : World) : (Instr.index 9 (.string { data := #[48, 49, 50, 51, 52, 53, 54, 55, 56, 57, 97, 98, 99, 100, 101, 102, 103, 104, 105, 106, 107, 108, 109, 110, 111, 112, 113, 114, 115, 116, 117, 118, 119, 120, 121, 122] }) (.int .u64 15)).run Tryz.prog w = .ok (.int .u8 ((hexc 15).toNat : Int)) w := by kernel_rfl
theorem dig36 (k : Int) (h0 : 0 ≤ k) (h1 : k < 16) (w : World) :
    (Instr.index 9 (.string { data := #[48, 49, 50, 51, 52, 53, 54, 55, 56, 57, 97, 98, 99, 100, 101, 102, 103, 104, 105, 106, 107, 108, 109, 110, 111, 112, 113, 114, 115, 116, 117, 118, 119, 120, 121, 122] }) (.int .u64 k)).run Tryz.prog w = .ok (.int .u8 ((hexc k.toNat).toNat : Int)) w := by
  have h : k = 0 ∨ k = 1 ∨ k = 2 ∨ k = 3 ∨ k = 4 ∨ k = 5 ∨ k = 6 ∨ k = 7 ∨ k = 8 ∨ k = 9 ∨ k = 10 ∨ k = 11 ∨ k = 12 ∨ k = 13 ∨ k = 14 ∨ k = 15 := by omega
  rcases h with rfl | rfl | rfl | rfl | rfl | rfl | rfl | rfl | rfl | rfl | rfl | rfl | rfl | rfl | rfl | rfl
  · exact hx0 w
  · exact hx1 w
  · exact hx2 w
  · exact hx3 w
  · exact hx4 w
  · exact hx5 w
  · exact hx6 w
  · exact hx7 w
  · exact hx8 w
  · exact hx9 w
  · exact hx10 w
  · exact hx11 w
  · exact hx12 w
  · exact hx13 w
  · exact hx14 w
  · exact hx15 w

def zs65 : List Value := List.replicate 65 (.int .u8 0)
theorem z65_new (w : World) : Blk (w.alloc (.cells Tryz.zeroCells164 164)) w.heap.size zs65 164 := Blk.new w zs65 164
theorem var_block {P : Program} {w w' : World} {n : String} {g : Nat} (hg : P.globalNamed n = some g) (hb : w'.heap[g]? = w.heap[g]?) : w'.var? P n = w.var? P n := by
  unfold World.var?
  simp only [hg, Option.bind_some, hb]
theorem Tabs.upto {w w' : World} (h : Tabs w) (hb : ∀ j, j < 8 → w'.heap[j]? = w.heap[j]?) (hs : w.heap.size ≤ w'.heap.size) : Tabs w' := by
  obtain ⟨h1, h2, h3⟩ := h
  have hg : Tryz.prog.globalNamed "internal/strconv.uint64pow10" = some 3 := by kernel_rfl
  refine ⟨by rw [World.cell?_of_block (w := w) (hb _ (by simp))]; exact h1, ?_, by omega⟩
  unfold Lib.TabIs
  rw [var_block hg (hb _ (by omega))]
  exact h2
theorem Tabs.below {w w' : World} (h : Tabs w) (k : Below w.heap.size w w') : Tabs w' :=
  have := h.2.2
  h.upto (fun j hj => k.block j (by omega)) k.size
theorem Tabs.grown {w w' : World} {b : Nat} (h : Tabs w) (k : w.grownBy w' (some b)) (hb : 8 ≤ b) : Tabs w' :=
  have := h.2.2
  h.upto (fun j hj => k.block j (by omega) (by intro e; cases e; omega)) k.size
theorem Tabs.alloc {w : World} (h : Tabs w) (o : Obj) : Tabs (w.alloc o) := h.below (.alloc (.refl _ _) (Nat.le_refl _) _)
theorem Tabs.drew {w : World} (h : Tabs w) : Tabs w.drew := h.upto (fun _ _ => rfl) (Nat.le_refl _)
theorem Tabs.drewN {w : World} (h : Tabs w) (n : Nat) : Tabs (w.drewN n) := h.upto (fun _ _ => rfl) (Nat.le_refl _)
theorem Tabs.setCell {w : World} (h : Tabs w) {p : Addr} (hp : 8 ≤ p.block) (v : Value) : Tabs (w.setCell p v) :=
  h.upto (fun j hj => Below.heap_setCell _ _ _ _ (by omega)) (by simp [World.setCell])

theorem cv_hex (w : World) (cells : Array Value) (l : List UInt8) (o n c : Nat) (t : TypeId) (hn : n = l.length) (h : ∀ j (hj : j < l.length), cells[o + j]? = some (.int .u8 (l[j].toNat : Int))) :
    (convert 68 9 (.slice (some ⟨w.heap.size, o, none⟩) n c)).run Tryz.prog (w.alloc (.cells cells t)) = .ok (.string ⟨l.toArray⟩) (w.alloc (.cells cells t)) := by
  subst hn
  refine run_convert_bytes_back (P := Tryz.prog) _ _ _ 5 _ c l Tryz.underlying68 Tryz.underlying5 Tryz.underlying9 (fun j hj => ?_)
  rw [Lib.add_plain, World.cell?_alloc_new]
  exact h j hj

set_option maxHeartbeats 1000000 in
theorem bits16_1 (u : Int) (l : 0 ≤ u) (m : u < 16) (w : World) (htab : Tabs w) :
    Calls Tryz.prog 123 #[.slice none 0 0, .int .u64 u, .int .i64 16, .bool false, .bool false] w fun e w' => e = .returned (.tuple #[.slice none 0 0, .string ⟨([hexc u.toNat] : List UInt8).toArray⟩]) ∧ Below w.heap.size w w' := by
  have hB := z65_new w
  have ht := htab.alloc (.cells Tryz.zeroCells164 164)
  have d0 := fun W => dig36 u l m W
  have c64 := hB.cell (i := 64) rfl
  have f64 := hB.free 64
  have hcv := cv_hex w (Tryz.zeroCells164.setIfInBounds 64 (.int .u8 ((hexc u.toNat).toNat : Int))) [hexc u.toNat] 64 1 1 164 rfl (fun j hj => by
    match j, hj with
    | 0, _ => rfl)
  clear htab
  go_enter Tryz.func123, Tryz.ntmps123
  go_wp2_with fail
  refine (pow2_16 _).mono ?_
  rintro e w1 ⟨rfl, rfl⟩
  go_wp2_with fail
  refine (tz16 _ ht.1).mono ?_
  rintro e w1 ⟨rfl, rfl⟩
  go_wp2_with fail
  refine wp_loop_rounds 1 ?_
  rw [rounds_succ]
  go_wp2_with fail
  go_ret2
  exact ⟨rfl, (Below.refl _ _).alloc (Nat.le_refl _) _⟩

set_option maxHeartbeats 1000000 in
theorem bits16_2 (u : Int) (u1 a0 : Int) (g0 : 16 ≤ u) (e0 : bits .and .u64 u 15 = a0) (q0 : u / 16 = u1) (l0 : 0 ≤ a0) (m0 : a0 < 16) (l : 0 ≤ u1) (m : u1 < 16) (w : World) (htab : Tabs w) :
    Calls Tryz.prog 123 #[.slice none 0 0, .int .u64 u, .int .i64 16, .bool false, .bool false] w fun e w' => e = .returned (.tuple #[.slice none 0 0, .string ⟨([hexc u1.toNat, hexc a0.toNat] : List UInt8).toArray⟩]) ∧ Below w.heap.size w w' := by
  have hB := z65_new w
  have ht := htab.alloc (.cells Tryz.zeroCells164 164)
  have d0 := fun W => dig36 a0 l0 m0 W
  have c64 := hB.cell (i := 64) rfl
  have f64 := hB.free 64
  have d1 := fun W => dig36 u1 l m W
  have c63 := hB.cell (i := 63) rfl
  have f63 := hB.free 63
  have hcv := cv_hex w ((Tryz.zeroCells164.setIfInBounds 64 (.int .u8 ((hexc a0.toNat).toNat : Int))).setIfInBounds 63 (.int .u8 ((hexc u1.toNat).toNat : Int))) [hexc u1.toNat, hexc a0.toNat] 63 2 2 164 rfl (fun j hj => by
    match j, hj with
    | 0, _ => rfl
    | 1, _ => rfl)
  clear htab
  go_enter Tryz.func123, Tryz.ntmps123
  go_wp2_with fail
  refine (pow2_16 _).mono ?_
  rintro e w1 ⟨rfl, rfl⟩
  go_wp2_with fail
  refine (tz16 _ ht.1).mono ?_
  rintro e w1 ⟨rfl, rfl⟩
  go_wp2_with fail
  refine wp_loop_rounds 2 ?_
  rw [rounds_succ]
  go_wp2_with fail
  rw [rounds_succ]
  go_wp2_with fail
  go_ret2
  exact ⟨rfl, (Below.refl _ _).alloc (Nat.le_refl _) _⟩

set_option maxHeartbeats 1000000 in
theorem bits16_3 (u : Int) (u1 u2 a0 a1 : Int) (g0 : 16 ≤ u) (e0 : bits .and .u64 u 15 = a0) (q0 : u / 16 = u1) (l0 : 0 ≤ a0) (m0 : a0 < 16) (g1 : 16 ≤ u1) (e1 : bits .and .u64 u1 15 = a1) (q1 : u1 / 16 = u2) (l1 : 0 ≤ a1) (m1 : a1 < 16) (l : 0 ≤ u2) (m : u2 < 16) (w : World) (htab : Tabs w) :
    Calls Tryz.prog 123 #[.slice none 0 0, .int .u64 u, .int .i64 16, .bool false, .bool false] w fun e w' => e = .returned (.tuple #[.slice none 0 0, .string ⟨([hexc u2.toNat, hexc a1.toNat, hexc a0.toNat] : List UInt8).toArray⟩]) ∧ Below w.heap.size w w' := by
  have hB := z65_new w
  have ht := htab.alloc (.cells Tryz.zeroCells164 164)
  have d0 := fun W => dig36 a0 l0 m0 W
  have c64 := hB.cell (i := 64) rfl
  have f64 := hB.free 64
  have d1 := fun W => dig36 a1 l1 m1 W
  have c63 := hB.cell (i := 63) rfl
  have f63 := hB.free 63
  have d2 := fun W => dig36 u2 l m W
  have c62 := hB.cell (i := 62) rfl
  have f62 := hB.free 62
  have hcv := cv_hex w (((Tryz.zeroCells164.setIfInBounds 64 (.int .u8 ((hexc a0.toNat).toNat : Int))).setIfInBounds 63 (.int .u8 ((hexc a1.toNat).toNat : Int))).setIfInBounds 62 (.int .u8 ((hexc u2.toNat).toNat : Int))) [hexc u2.toNat, hexc a1.toNat, hexc a0.toNat] 62 3 3 164 rfl (fun j hj => by
    match j, hj with
    | 0, _ => rfl
    | 1, _ => rfl
    | 2, _ => rfl)
  clear htab
  go_enter Tryz.func123, Tryz.ntmps123
  go_wp2_with fail
  refine (pow2_16 _).mono ?_
  rintro e w1 ⟨rfl, rfl⟩
  go_wp2_with fail
  refine (tz16 _ ht.1).mono ?_
  rintro e w1 ⟨rfl, rfl⟩
  go_wp2_with fail
  refine wp_loop_rounds 3 ?_
  rw [rounds_succ]
  go_wp2_with fail
  rw [rounds_succ]
  go_wp2_with fail
  rw [rounds_succ]
  go_wp2_with fail
  go_ret2
  exact ⟨rfl, (Below.refl _ _).alloc (Nat.le_refl _) _⟩

set_option maxHeartbeats 1000000 in
theorem bits16_4 (u : Int) (u1 u2 u3 a0 a1 a2 : Int) (g0 : 16 ≤ u) (e0 : bits .and .u64 u 15 = a0) (q0 : u / 16 = u1) (l0 : 0 ≤ a0) (m0 : a0 < 16) (g1 : 16 ≤ u1) (e1 : bits .and .u64 u1 15 = a1) (q1 : u1 / 16 = u2) (l1 : 0 ≤ a1) (m1 : a1 < 16) (g2 : 16 ≤ u2) (e2 : bits .and .u64 u2 15 = a2) (q2 : u2 / 16 = u3) (l2 : 0 ≤ a2) (m2 : a2 < 16) (l : 0 ≤ u3) (m : u3 < 16) (w : World) (htab : Tabs w) :
    Calls Tryz.prog 123 #[.slice none 0 0, .int .u64 u, .int .i64 16, .bool false, .bool false] w fun e w' => e = .returned (.tuple #[.slice none 0 0, .string ⟨([hexc u3.toNat, hexc a2.toNat, hexc a1.toNat, hexc a0.toNat] : List UInt8).toArray⟩]) ∧ Below w.heap.size w w' := by
  have hB := z65_new w
  have ht := htab.alloc (.cells Tryz.zeroCells164 164)
  have d0 := fun W => dig36 a0 l0 m0 W
  have c64 := hB.cell (i := 64) rfl
  have f64 := hB.free 64
  have d1 := fun W => dig36 a1 l1 m1 W
  have c63 := hB.cell (i := 63) rfl
  have f63 := hB.free 63
  have d2 := fun W => dig36 a2 l2 m2 W
  have c62 := hB.cell (i := 62) rfl
  have f62 := hB.free 62
  have d3 := fun W => dig36 u3 l m W
  have c61 := hB.cell (i := 61) rfl
  have f61 := hB.free 61
  have hcv := cv_hex w ((((Tryz.zeroCells164.setIfInBounds 64 (.int .u8 ((hexc a0.toNat).toNat : Int))).setIfInBounds 63 (.int .u8 ((hexc a1.toNat).toNat : Int))).setIfInBounds 62 (.int .u8 ((hexc a2.toNat).toNat : Int))).setIfInBounds 61 (.int .u8 ((hexc u3.toNat).toNat : Int))) [hexc u3.toNat, hexc a2.toNat, hexc a1.toNat, hexc a0.toNat] 61 4 4 164 rfl (fun j hj => by
    match j, hj with
    | 0, _ => rfl
    | 1, _ => rfl
    | 2, _ => rfl
    | 3, _ => rfl)
  clear htab
  go_enter Tryz.func123, Tryz.ntmps123
  go_wp2_with fail
  refine (pow2_16 _).mono ?_
  rintro e w1 ⟨rfl, rfl⟩
  go_wp2_with fail
  refine (tz16 _ ht.1).mono ?_
  rintro e w1 ⟨rfl, rfl⟩
  go_wp2_with fail
  refine wp_loop_rounds 4 ?_
  rw [rounds_succ]
  go_wp2_with fail
  rw [rounds_succ]
  go_wp2_with fail
  rw [rounds_succ]
  go_wp2_with fail
  rw [rounds_succ]
  go_wp2_with fail
  go_ret2
  exact ⟨rfl, (Below.refl _ _).alloc (Nat.le_refl _) _⟩

theorem and_15 (x : Int) (h1 : 0 ≤ x) (h2 : x < 65536) : bits .and .u64 x 15 = x % 16 := by
  rw [u64_and x 15 h1 (by omega) (by decide) (by decide)]
  have : x.toNat &&& (15 : Int).toNat = x.toNat % 2 ^ 4 := Nat.and_two_pow_sub_one_eq_mod x.toNat 4
  rw [this]
  omega

theorem bits16_any (u : Nat) (hu : u < 65536) (w : World) (htab : Tabs w) :
    Calls Tryz.prog 123 #[.slice none 0 0, .int .u64 (u : Int), .int .i64 16, .bool false, .bool false] w fun e w' => e = .returned (.tuple #[.slice none 0 0, .string ⟨(hexL u).toArray⟩]) ∧ Below w.heap.size w w' := by
  unfold hexL
  by_cases h1 : u < 16
  · rw [if_pos h1]
    exact bits16_1 u (by omega) (by omega) w htab
  rw [if_neg h1]
  have e0 := and_15 (u : Int) (by omega) (by omega)
  by_cases h2 : u < 256
  · rw [if_pos h2]
    exact bits16_2 u ((u / 16 : Nat) : Int) ((u % 16 : Nat) : Int) (by omega) (by rw [e0]; omega) (by omega) (by omega) (by omega) (by omega) (by omega) w htab
  rw [if_neg h2]
  have e1 := and_15 ((u / 16 : Nat) : Int) (by omega) (by omega)
  by_cases h3 : u < 4096
  · rw [if_pos h3]
    exact bits16_3 u ((u / 16 : Nat) : Int) ((u / 256 : Nat) : Int) ((u % 16 : Nat) : Int) ((u / 16 % 16 : Nat) : Int) (by omega) (by rw [e0]; omega) (by omega) (by omega) (by omega) (by omega) (by rw [e1]; omega) (by omega) (by omega) (by omega) (by omega) (by omega) w htab
  rw [if_neg h3]
  have e2 := and_15 ((u / 256 : Nat) : Int) (by omega) (by omega)
  exact bits16_4 u ((u / 16 : Nat) : Int) ((u / 256 : Nat) : Int) ((u / 4096 : Nat) : Int) ((u % 16 : Nat) : Int) ((u / 16 % 16 : Nat) : Int) ((u / 256 % 16 : Nat) : Int) (by omega) (by rw [e0]; omega) (by omega) (by omega) (by omega) (by omega) (by rw [e1]; omega) (by omega) (by omega) (by omega) (by omega) (by rw [e2]; omega) (by omega) (by omega) (by omega) (by omega) (by omega) w htab

set_option maxHeartbeats 400000 in
theorem fmtU16_in (u : Nat) (hu : u < 65536) (w : World) (htab : Tabs w) :
    Calls Tryz.prog 118 #[.int .u64 (u : Int), .int .i64 16] w (GivesV (.string ⟨(hexL u).toArray⟩) w) := by
  have HS := Lib.hid (bits16_any u hu w htab)
  clear htab
  go_enter Tryz.func118, Tryz.ntmps118
  go_wp2_with fail
  refine HS.out.mono ?_
  rintro e w' ⟨rfl, hb⟩
  go_wp2_with fail
  go_ret
  exact ⟨rfl, hb⟩

set_option maxHeartbeats 400000 in
theorem fmtU16 (u : Nat) (hu : u < 65536) (w : World) (htab : Tabs w) :
    Calls Tryz.prog 95 #[.int .u64 (u : Int), .int .i64 16] w (GivesV (.string ⟨(hexL u).toArray⟩) w) := by
  have HS := Lib.hid (fmtU16_in u hu w htab)
  clear htab
  go_enter Tryz.func95, Tryz.ntmps95
  go_wp2_with fail
  refine HS.out.mono ?_
  rintro e w' ⟨rfl, hb⟩
  go_wp2_with fail
  go_ret
  exact ⟨rfl, hb⟩

set_option maxHeartbeats 400000 in
theorem fmtI16_in (u : Nat) (hu : u < 65536) (w : World) (htab : Tabs w) :
    Calls Tryz.prog 101 #[.int .i64 (u : Int), .int .i64 16] w (GivesV (.string ⟨(hexL u).toArray⟩) w) := by
  have HS := Lib.hid (bits16_any u hu w htab)
  have hc : IntKind.u64.wrap (u : Int) = u := by rw [IntKind.wrap_u64]; omega
  clear htab
  go_enter Tryz.func101, Tryz.ntmps101
  go_wp2_with fail
  refine HS.out.mono ?_
  rintro e w' ⟨rfl, hb⟩
  go_wp2_with fail
  go_ret
  exact ⟨rfl, hb⟩

set_option maxHeartbeats 400000 in
theorem fmtI16 (u : Nat) (hu : u < 65536) (w : World) (htab : Tabs w) :
    Calls Tryz.prog 84 #[.int .i64 (u : Int), .int .i64 16] w (GivesV (.string ⟨(hexL u).toArray⟩) w) := by
  have HS := Lib.hid (fmtI16_in u hu w htab)
  clear htab
  go_enter Tryz.func84, Tryz.ntmps84
  go_wp2_with fail
  refine HS.out.mono ?_
  rintro e w' ⟨rfl, hb⟩
  go_wp2_with fail
  go_ret
  exact ⟨rfl, hb⟩
end Go.Proofs.YtkldcmmlllkhkaaGreatDoor
namespace Go.Proofs.YtkldcmmlllkhkaaGreatDoor
open Go.RowKit Go.Sort Go.Lib

theorem itoa_gives (u : Nat) (hu : u < 9223372036854775808) (w : World) (htab : Tabs w) :
    Calls Tryz.prog 46 #[.int .i64 (u : Int)] w (GivesV (.string ⟨(Lib.decDigits u).toArray⟩) w) := by
  refine (Tryz.strconv_Itoa (u : Int) (by omega) (by omega) w htab.2.1).mono ?_
  rintro e w' ⟨rfl, k, os, rfl⟩
  refine ⟨by rw [Lib.itoa_nonneg], Lib.below_grow _ _ (Nat.le_refl _) k os⟩

theorem holds_zero0 (w : World) (T : TypeId) (nd : Nat) (hs : nd ≤ 24) : Holds (fun (b : UInt8) => Value.int .u8 (b.toNat : Int)) (w.alloc (.cells Lib.zeros24 T)) w.heap.size 0 (Array.replicate nd (0 : UInt8)) := fun j hj => by
  have hj' : j < nd := by simpa using hj
  refine ⟨?_, World.frozen?_alloc_new _ _ _ _⟩
  rw [World.cell?_alloc_new, Lib.zeros24_at _ (by omega), getElem!_pos _ j hj]
  simp

set_option maxHeartbeats 1000000 in
theorem fmtU10_in (u : Nat) (hu64 : u < 18446744073709551616) (w : World) (htab : Tabs w) :
    Calls Tryz.prog 118 #[.int .u64 (u : Int), .int .i64 10] w (GivesV (.string ⟨(Lib.decDigits u).toArray⟩) w) := by
  by_cases hs : u < 100
  · have hs' : (u : Int) < 100 := by omega
    have HS := fun w' => Lib.hid (Tryz.internal_strconv_small u hs w')
    go_enter Tryz.func118, Tryz.ntmps118
    go_wp2_with fail
    refine (HS _).out.mono ?_
    rintro e w' ⟨rfl, rfl⟩
    go_wp2_with fail
    go_ret
    exact ⟨rfl, Below.refl _ _⟩
  · have hu1 : 1 ≤ u := by omega
    have hs' : ¬ (u : Int) < 100 := by omega
    have hnd20 : Lib.nDigits u ≤ 20 := by have := Lib.numDigits_eq u hu1 hu64; split at this <;> omega
    have hb3 : Lib.nDigits u ≤ 24 := by omega
    have hal : Tryz.prog.arrayLen 146 = 24 := by simp [Program.arrayLen, Tryz.underlying146]
    have hsl1 : ∀ W, (Instr.sliceAt 146 (.pointer (some ⟨w.heap.size, 0, none⟩)) none (some (.int .i64 (Lib.nDigits u : Int))) none).run Tryz.prog W = .ok (.slice (some ⟨w.heap.size, 0, none⟩) (Lib.nDigits u) 24) W := fun W => by
      rw [run_sliceAt_array_h W 146 ⟨w.heap.size, 0, none⟩ (by simp [Program.arrayLen, Program.elem, Tryz.underlying146]) .i64 (Lib.nDigits u : Int) (by omega) (by rw [hal]; omega)]
      go_simp
    have hH0 := holds_zero0 w 146 (Lib.nDigits u) hb3
    have hfmt := Tryz.internal_strconv_formatBase10 w.heap.size 0 24 u (Array.replicate (Lib.nDigits u) 0) (w.alloc (.cells Lib.zeros24 146)) hH0 (by rw [Array.size_replicate]; exact Lib.lt_pow_nDigits u) hu64 (by rw [Array.size_replicate]; omega)
    rw [Array.size_replicate] at hfmt
    have HH0 := Lib.hid hH0
    have hnd := fun W h => Lib.hid (Tryz.internal_strconv_numDigits u hu1 hu64 W h)
    have ht := (htab.alloc (.cells Lib.zeros24 146)).2.1
    replace hfmt := Lib.hid hfmt
    clear hH0 hal htab
    go_enter Tryz.func118, Tryz.ntmps118
    go_wp2_with fail
    refine (hnd _ ht).out.mono ?_
    rintro e w' ⟨rfl, rfl⟩
    go_wp2_with fail
    refine hfmt.out.mono ?_
    rintro e w' ⟨rfl, k, v', dk, rfl, hF⟩
    have hcv : (convert 68 9 (.slice (some ⟨w.heap.size, 0, none⟩) (Lib.nDigits u) 24)).run Tryz.prog ((putRow (fun (b : UInt8) => Value.int .u8 (b.toNat : Int)) (w.alloc (.cells Lib.zeros24 146)) w.heap.size 0 dk).drewN k) = .ok (.string ⟨(Lib.decDigits u).toArray⟩) ((putRow (fun (b : UInt8) => Value.int .u8 (b.toNat : Int)) (w.alloc (.cells Lib.zeros24 146)) w.heap.size 0 dk).drewN k) := by
      have h := run_convert_bytes_back (P := Tryz.prog) ((putRow (fun (b : UInt8) => Value.int .u8 (b.toNat : Int)) (w.alloc (.cells Lib.zeros24 146)) w.heap.size 0 dk).drewN k) 68 9 5 ⟨w.heap.size, 0, none⟩ 24 (Lib.decDigits u) Tryz.underlying68 Tryz.underlying5 Tryz.underlying9 (fun j hj => by
        rw [Lib.row_is_numeral hF j hj, Lib.add_plain, World.cell?_drewN]
        exact cell?_putRow (fun (b : UInt8) => Value.int .u8 (b.toNat : Int)) _ w.heap.size 0 _ dk HH0.out (by rw [hF.size, Array.size_replicate]) j (by rw [hF.size]; rw [Lib.decDigits_length] at hj; exact hj))
      rw [Lib.decDigits_length] at h
      exact h
    go_wp2_with fail
    go_ret
    obtain ⟨os, eo⟩ := Lib.fin_at w (.cells Lib.zeros24 146) dk k 0
    refine ⟨rfl, ?_⟩
    rw [eo]
    exact Lib.below_grow _ _ (Nat.le_refl _) k os

set_option maxHeartbeats 400000 in
theorem fmtU10 (u : Nat) (hu64 : u < 18446744073709551616) (w : World) (htab : Tabs w) :
    Calls Tryz.prog 95 #[.int .u64 (u : Int), .int .i64 10] w (GivesV (.string ⟨(Lib.decDigits u).toArray⟩) w) := by
  have HS := Lib.hid (fmtU10_in u hu64 w htab)
  clear htab
  go_enter Tryz.func95, Tryz.ntmps95
  go_wp2_with fail
  refine HS.out.mono ?_
  rintro e w' ⟨rfl, hb⟩
  go_wp2_with fail
  go_ret
  exact ⟨rfl, hb⟩
end Go.Proofs.YtkldcmmlllkhkaaGreatDoor
