/- What the calls read of package-level variables: the tables, internal/bytealg.MaxLen, the errors of strconv. -/
import Derived.Test.YtfbggfpihiegpaaGreatDoorKpAddressed
import Derived.Test.YtfbggfpihiegpaaGreatDoorKpShelf
import Derived.Test.YtfbggfpihiegpaaGreatDoorKpNmB
import Derived.Lib.TrailingZeros
import Derived.Lib.ItoaMem
import Derived.Lib.AppendIntMem
set_option maxRecDepth 100000
namespace Go.Proofs.YtfbggfpihiegpaaGreatDoor
open Go.RowKit

def Tabs (w : World) : Prop := w.cell? ⟨4, 15, none⟩ = some (.int .u8 4) ∧ Lib.TabIs Tryz.prog w "internal/strconv.uint64pow10" .u64 Lib.pow10Tab ∧ 9 ≤ w.heap.size

set_option maxHeartbeats 400000 in
theorem tz16 (w : World) (h : w.cell? ⟨4, 15, none⟩ = some (.int .u8 4)) : Calls Tryz.prog 273 #[.int .u64 16] w fun e w' => e = .returned (.int .i64 4) ∧ w = w' := by
  have e1 : bits BinOp.and IntKind.u64 16 (IntKind.u64.wrap (-16)) = 16 := by decide +kernel
  go_enter Tryz.func273, Tryz.ntmps273
  go_wp2
  go_ret
  exact ⟨rfl, rfl⟩

set_option maxHeartbeats 400000 in
theorem pow2_16 (w : World) : Calls Tryz.prog 272 #[.int .i64 16] w fun e w' => e = .returned (.bool true) ∧ w = w' := by
  have e1 : bits BinOp.and IntKind.i64 16 15 = 0 := by decide +kernel
  go_enter Tryz.func272, Tryz.ntmps272
  go_wp2
  go_ret
  exact ⟨rfl, rfl⟩

theorem hx0 (w : World) : (Instr.index 9 (.string { data := #[48, 49, 50, 51, 52, 53, 54, 55, 56, 57, 97, 98, 99, 100, 101, 102, 103, 104, 105, 106, 107, 108, 109, 110, 111, 112, 113, 114, 115, 116, 117, 118, 119, 120, 121, 122] }) (.int .u64 0)).run Tryz.prog w = .ok (.int .u8 ((hexc 0).toNat : Int)) w := by kernel_rfl
theorem hx1 (w : World) : (Instr.index 9 (.string { data := #[48, 49, 50, 51, 52, 53, 54, 55, 56, 57, 97, 98, 99, 100, 101, 102, 103, 104, 105, 106, 107, 108, 109, 110, 111, 112, 113, 114, 115, 116, 117, 118, 119, 120, 121, 122] }) (.int .u64 1)).run Tryz.prog w = .ok (.int .u8 ((hexc 1).toNat : Int)) w := by kernel_rfl
theorem hx2 (w : World) : (Instr.index 9 (.string { data := #[48, 49, 50, 51, 52, 53, 54, 55, 56, 57, 97, 98, 99, 100, 101, 102, 103, 104, 105, 106, 107, 108, 109, 110, 111, 112, 113, 114, 115, 116, 117, 118, 119, 120, 121, 122] }) (.int .u64 2)).run Tryz.prog w = .ok (.int .u8 ((hexc 2).toNat : Int)) w := by kernel_rfl
theorem hx3 (w : World) : (Instr.index 9 (.string { data := #[48, 49, 50, 51, 52, 53, 54, 55, 56, 57, 97, 98, 99, 100, 101, 102, 103, 104, 105, 106, 107, 108, 109, 110, 111, 112, 113, 114, 115, 116, 117, 118, 119, 120, 121, 122] }) (.int .u64 3)).run Tryz.prog w = .ok (.int .u8 ((hexc 3).toNat : Int)) w := by kernel_rfl
theorem hx4 (w : World) : (Instr.index 9 (.string { data := #[48, 49, 50, 51, 52, 53, 54, 55, 56, 57, 97, 98, 99, 100, 101, 102, 103, 104, 105, 106, 107, 108, 109, 110, 111, 112, 113, 114, 115, 116, 117, 118, 119, 120, 121, 122] }) (.int .u64 4)).run Tryz.prog w = .ok (.int .u8 ((hexc 4).toNat : Int)) w := by kernel_rfl
theorem hx5 (w : World) : (Instr.index 9 (.string { data := #[48, 49, 50, 51, 52, 53, 54, 55, 56, 57, 97, 98, 99, 100, 101, 102, 103, 104, 105, 106, 107, 108, 109, 110, 111, 112, 113, 114, 115, 116, 117, 118, 119, 120, 121, 122] }) (.int .u64 5)).run Tryz.prog w = .ok (.int .u8 ((hexc 5).toNat : Int)) w := by kernel_rfl
theorem hx6 (w : World) : (Instr.index 9 (.string { data := #[48, 49, 50, 51, 52, 53, 54, 55, 56, 57, 97, 98, 99, 100, 101, 102, 103, 104, 105, 106, 107, 108, 109, 110, 111, 112, 113, 114, 115, 116, 117, 118, 119, 120, 121, 122] }) (.int .u64 6)).run Tryz.prog w = .ok (.int .u8 ((hexc 6).toNat : Int)) w := by kernel_rfl
theorem hx7 (w : World) : (Instr.index 9 (.string { data := #[48, 49, 50, 51, 52, 53, 54, 55, 56, 57, 97, 98, 99, 100, 101, 102, 103, 104, 105, 106, 107, 108, 109, 110, 111, 112, 113, 114, 115, 116, 117, 118, 119, 120, 121, 122] }) (.int .u64 7)).run Tryz.prog w = .ok (.int .u8 ((hexc 7).toNat : Int)) w := by kernel_rfl
theorem hx8 (w : World) : (Instr.index 9 (.string { data := #[48, 49, 50, 51, 52, 53, 54, 55, 56, 57, 97, 98, 99, 100, 101, 102, 103, 104, 105, 106, 107, 108, 109, 110, 111, 112, 113, 114, 115, 116, 117, 118, 119, 120, 121, 122] }) (.int .u64 8)).run Tryz.prog w = .ok (.int .u8 ((hexc 8).toNat : Int)) w := by kernel_rfl
theorem hx9 (w : World) : (Instr.index 9 (.string { data := #[48, 49, 50, 51, 52, 53, 54, 55, 56, 57, 97, 98, 99, 100, 101, 102, 103, 104, 105, 106, 107, 108, 109, 110, 111, 112, 113, 114, 115, 116, 117, 118, 119, 120, 121, 122] }) (.int .u64 9)).run Tryz.prog w = .ok (.int .u8 ((hexc 9).toNat : Int)) w := by kernel_rfl
theorem hx10 (w : World) : (Instr.index 9 (.string { data := #[48, 49, 50, 51, 52, 53, 54, 55, 56, 57, 97, 98, 99, 100, 101, 102, 103, 104, 105, 106, 107, 108, 109, 110, 111, 112, 113, 114, 115, 116, 117, 118, 119, 120, 121, 122] }) (.int .u64 10)).run Tryz.prog w = .ok (.int .u8 ((hexc 10).toNat : Int)) w := by kernel_rfl
theorem hx11 (w : World) : (Instr.index 9 (.string { data := #[48, 49, 50, 51, 52, 53, 54, 55, 56, 57, 97, 98, 99, 100, 101, 102, 103, 104, 105, 106, 107, 108, 109, 110, 111, 112, 113, 114, 115, 116, 117, 118, 119, 120, 121, 122] }) (.int .u64 11)).run Tryz.prog w = .ok (.int .u8 ((hexc 11).toNat : Int)) w := by kernel_rfl
theorem hx12 (w : World) : (Instr.index 9 (.string { data := #[48, 49, 50, 51, 52, 53, 54, 55, 56, 57, 97, 98, 99, 100, 101, 102, 103, 104, 105, 106, 107, 108, 109, 110, 111, 112, 113, 114, 115, 116, 117, 118, 119, 120, 121, 122] }) (.int .u64 12)).run Tryz.prog w = .ok (.int .u8 ((hexc 12).toNat : Int)) w := by kernel_rfl
theorem hx13 (w : World) : (Instr.index 9 (.string { data := #[48, 49, 50, 51, 52, 53, 54, 55, 56, 57, 97, 98, 99, 100, 101, 102, 103, 104, 105, 106, 107, 108, 109, 110, 111, 112, 113, 114, 115, 116, 117, 118, 119, 120, 121, 122] }) (.int .u64 13)).run Tryz.prog w = .ok (.int .u8 ((hexc 13).toNat : Int)) w := by kernel_rfl
theorem hx14 (w : World) : (Instr.index 9 (.string { data := #[48, 49, 50, 51, 52, 53, 54, 55, 56, 57, 97, 98, 99, 100, 101, 102, 103, 104, 105, 106, 107, 108, 109, 110, 111, 112, 113, 114, 115, 116, 117, 118, 119, 120, 121, 122] }) (.int .u64 14)).run Tryz.prog w = .ok (.int .u8 ((hexc 14).toNat : Int)) w := by kernel_rfl
theorem hx15 (w : World) : (Instr.index 9 (.string { data := #[48, 49, 50, 51, 52, 53, 54, 55, 56, 57, 97, 98, 99, 100, 101, 102, 103, 104, 105, 106, 107, 108, 109, 110, 111, 112, 113, 114, 115, 116, 117, 118, 119, 120, 121, 122] }) (.int .u64 15)).run Tryz.prog w = .ok (.int .u8 ((hexc 15).toNat : Int)) w := by kernel_rfl
theorem dig36 (k : Int) (h0 : 0 ≤ k) (h1 : k < 16) (w : World) :
    (Instr.index 9 (.string { data := #[48, 49, 50, 51, 52, 53, 54, 55, 56, 57, 97, 98, 99, 100, 101, 102, 103, 104, 105, 106, 107, 108, 109, 110, 111, 112, 113, 114, 115, 116, 117, 118, 119, 120, 121, 122] }) (.int .u64 k)).run Tryz.prog w = .ok (.int .u8 ((hexc k.toNat).toNat : Int)) w := by
  have h : k = 0 ∨ k = 1 ∨ k = 2 ∨ k = 3 ∨ k = 4 ∨ k = 5 ∨ k = 6 ∨ k = 7 ∨ k = 8 ∨ k = 9 ∨ k = 10 ∨ k = 11 ∨ k = 12 ∨ k = 13 ∨ k = 14 ∨ k = 15 := by omega
  rcases h with rfl | rfl | rfl | rfl | rfl | rfl | rfl | rfl | rfl | rfl | rfl | rfl | rfl | rfl | rfl | rfl
  · exact hx0 w
  · exact hx1 w
  · exact hx2 w
  · exact hx3 w
  · exact hx4 w
  · exact hx5 w
  · exact hx6 w
  · exact hx7 w
  · exact hx8 w
  · exact hx9 w
  · exact hx10 w
  · exact hx11 w
  · exact hx12 w
  · exact hx13 w
  · exact hx14 w
  · exact hx15 w

def zs65 : List Value := List.replicate 65 (.int .u8 0)
theorem z65_new (w : World) : Blk (w.alloc (.cells Tryz.zeroCells355 355)) w.heap.size zs65 355 := Blk.new w zs65 355
theorem var_block {P : Program} {w w' : World} {n : String} {g : Nat} (hg : P.globalNamed n = some g) (hb : w'.heap[g]? = w.heap[g]?) : w'.var? P n = w.var? P n := by
  unfold World.var?
  simp only [hg, Option.bind_some, hb]
theorem Tabs.upto {w w' : World} (h : Tabs w) (hb : ∀ j, j < 9 → w'.heap[j]? = w.heap[j]?) (hs : w.heap.size ≤ w'.heap.size) : Tabs w' := by
  obtain ⟨h1, h2, h3⟩ := h
  have hg : Tryz.prog.globalNamed "internal/strconv.uint64pow10" = some 2 := by kernel_rfl
  refine ⟨by rw [World.cell?_of_block (w := w) (hb _ (by simp))]; exact h1, ?_, by omega⟩
  unfold Lib.TabIs
  rw [var_block hg (hb _ (by omega))]
  exact h2
theorem Tabs.below {w w' : World} (h : Tabs w) (k : Below w.heap.size w w') : Tabs w' :=
  have := h.2.2
  h.upto (fun j hj => k.block j (by omega)) k.size
theorem Tabs.grown {w w' : World} {b : Nat} (h : Tabs w) (k : w.grownBy w' (some b)) (hb : 9 ≤ b) : Tabs w' :=
  have := h.2.2
  h.upto (fun j hj => k.block j (by omega) (by intro e; cases e; omega)) k.size
theorem Tabs.alloc {w : World} (h : Tabs w) (o : Obj) : Tabs (w.alloc o) := h.below (.alloc (.refl _ _) (Nat.le_refl _) _)
theorem Tabs.drew {w : World} (h : Tabs w) : Tabs w.drew := h.upto (fun _ _ => rfl) (Nat.le_refl _)
theorem Tabs.drewN {w : World} (h : Tabs w) (n : Nat) : Tabs (w.drewN n) := h.upto (fun _ _ => rfl) (Nat.le_refl _)
theorem Tabs.setCell {w : World} (h : Tabs w) {p : Addr} (hp : 9 ≤ p.block) (v : Value) : Tabs (w.setCell p v) :=
  h.upto (fun j hj => Below.heap_setCell _ _ _ _ (by omega)) (by simp [World.setCell])

theorem cv_hex (w : World) (cells : Array Value) (l : List UInt8) (o n c : Nat) (t : TypeId) (hn : n = l.length) (h : ∀ j (hj : j < l.length), cells[o + j]? = some (.int .u8 (l[j].toNat : Int))) :
    (convert 92 9 (.slice (some ⟨w.heap.size, o, none⟩) n c)).run Tryz.prog (w.alloc (.cells cells t)) = .ok (.string ⟨l.toArray⟩) (w.alloc (.cells cells t)) := by
  subst hn
  refine run_convert_bytes_back (P := Tryz.prog) _ _ _ 5 _ c l Tryz.underlying92 Tryz.underlying5 Tryz.underlying9 (fun j hj => ?_)
  rw [Lib.add_plain, World.cell?_alloc_new]
  exact h j hj

set_option maxHeartbeats 1000000 in
theorem bits16_1 (u : Int) (l : 0 ≤ u) (m : u < 16) (w : World) (htab : Tabs w) :
    Calls Tryz.prog 215 #[.slice none 0 0, .int .u64 u, .int .i64 16, .bool false, .bool false] w fun e w' => e = .returned (.tuple #[.slice none 0 0, .string ⟨([hexc u.toNat] : List UInt8).toArray⟩]) ∧ Below w.heap.size w w' := by
  have hB := z65_new w
  have ht := htab.alloc (.cells Tryz.zeroCells355 355)
  have d0 := fun W => dig36 u l m W
  have c64 := hB.cell (i := 64) rfl
  have f64 := hB.free 64
  have hcv := cv_hex w (Tryz.zeroCells355.setIfInBounds 64 (.int .u8 ((hexc u.toNat).toNat : Int))) [hexc u.toNat] 64 1 1 355 rfl (fun j hj => by
    match j, hj with
    | 0, _ => rfl)
  clear htab
  go_enter Tryz.func215, Tryz.ntmps215
  go_wp2_with fail
  refine (pow2_16 _).mono ?_
  rintro e w1 ⟨rfl, rfl⟩
  go_wp2_with fail
  refine (tz16 _ ht.1).mono ?_
  rintro e w1 ⟨rfl, rfl⟩
  go_wp2_with fail
  refine wp_loop_rounds 1 ?_
  rw [rounds_succ]
  go_wp2_with fail
  go_ret2
  exact ⟨rfl, (Below.refl _ _).alloc (Nat.le_refl _) _⟩

set_option maxHeartbeats 1000000 in
theorem bits16_2 (u : Int) (u1 a0 : Int) (g0 : 16 ≤ u) (e0 : bits .and .u64 u 15 = a0) (q0 : u / 16 = u1) (l0 : 0 ≤ a0) (m0 : a0 < 16) (l : 0 ≤ u1) (m : u1 < 16) (w : World) (htab : Tabs w) :
    Calls Tryz.prog 215 #[.slice none 0 0, .int .u64 u, .int .i64 16, .bool false, .bool false] w fun e w' => e = .returned (.tuple #[.slice none 0 0, .string ⟨([hexc u1.toNat, hexc a0.toNat] : List UInt8).toArray⟩]) ∧ Below w.heap.size w w' := by
  have hB := z65_new w
  have ht := htab.alloc (.cells Tryz.zeroCells355 355)
  have d0 := fun W => dig36 a0 l0 m0 W
  have c64 := hB.cell (i := 64) rfl
  have f64 := hB.free 64
  have d1 := fun W => dig36 u1 l m W
  have c63 := hB.cell (i := 63) rfl
  have f63 := hB.free 63
  have hcv := cv_hex w ((Tryz.zeroCells355.setIfInBounds 64 (.int .u8 ((hexc a0.toNat).toNat : Int))).setIfInBounds 63 (.int .u8 ((hexc u1.toNat).toNat : Int))) [hexc u1.toNat, hexc a0.toNat] 63 2 2 355 rfl (fun j hj => by
    match j, hj with
    | 0, _ => rfl
    | 1, _ => rfl)
  clear htab
  go_enter Tryz.func215, Tryz.ntmps215
  go_wp2_with fail
  refine (pow2_16 _).mono ?_
  rintro e w1 ⟨rfl, rfl⟩
  go_wp2_with fail
  refine (tz16 _ ht.1).mono ?_
  rintro e w1 ⟨rfl, rfl⟩
  go_wp2_with fail
  refine wp_loop_rounds 2 ?_
  rw [rounds_succ]
  go_wp2_with fail
  rw [rounds_succ]
  go_wp2_with fail
  go_ret2
  exact ⟨rfl, (Below.refl _ _).alloc (Nat.le_refl _) _⟩

set_option maxHeartbeats 1000000 in
theorem bits16_3 (u : Int) (u1 u2 a0 a1 : Int) (g0 : 16 ≤ u) (e0 : bits .and .u64 u 15 = a0) (q0 : u / 16 = u1) (l0 : 0 ≤ a0) (m0 : a0 < 16) (g1 : 16 ≤ u1) (e1 : bits .and .u64 u1 15 = a1) (q1 : u1 / 16 = u2) (l1 : 0 ≤ a1) (m1 : a1 < 16) (l : 0 ≤ u2) (m : u2 < 16) (w : World) (htab : Tabs w) :
    Calls Tryz.prog 215 #[.slice none 0 0, .int .u64 u, .int .i64 16, .bool false, .bool false] w fun e w' => e = .returned (.tuple #[.slice none 0 0, .string ⟨([hexc u2.toNat, hexc a1.toNat, hexc a0.toNat] : List UInt8).toArray⟩]) ∧ Below w.heap.size w w' := by
  have hB := z65_new w
  have ht := htab.alloc (.cells Tryz.zeroCells355 355)
  have d0 := fun W => dig36 a0 l0 m0 W
  have c64 := hB.cell (i := 64) rfl
  have f64 := hB.free 64
  have d1 := fun W => dig36 a1 l1 m1 W
  have c63 := hB.cell (i := 63) rfl
  have f63 := hB.free 63
  have d2 := fun W => dig36 u2 l m W
  have c62 := hB.cell (i := 62) rfl
  have f62 := hB.free 62
  have hcv := cv_hex w (((Tryz.zeroCells355.setIfInBounds 64 (.int .u8 ((hexc a0.toNat).toNat : Int))).setIfInBounds 63 (.int .u8 ((hexc a1.toNat).toNat : Int))).setIfInBounds 62 (.int .u8 ((hexc u2.toNat).toNat : Int))) [hexc u2.toNat, hexc a1.toNat, hexc a0.toNat] 62 3 3 355 rfl (fun j hj => by
    match j, hj with
    | 0, _ => rfl
    | 1, _ => rfl
    | 2, _ => rfl)
  clear htab
  go_enter Tryz.func215, Tryz.ntmps215
  go_wp2_with fail
  refine (pow2_16 _).mono ?_
  rintro e w1 ⟨rfl, rfl⟩
  go_wp2_with fail
  refine (tz16 _ ht.1).mono ?_
  rintro e w1 ⟨rfl, rfl⟩
  go_wp2_with fail
  refine wp_loop_rounds 3 ?_
  rw [rounds_succ]
  go_wp2_with fail
  rw [rounds_succ]
  go_wp2_with fail
  rw [rounds_succ]
  go_wp2_with fail
  go_ret2
  exact ⟨rfl, (Below.refl _ _).alloc (Nat.le_refl _) _⟩

set_option maxHeartbeats 1000000 in
theorem bits16_4 (u : Int) (u1 u2 u3 a0 a1 a2 : Int) (g0 : 16 ≤ u) (e0 : bits .and .u64 u 15 = a0) (q0 : u / 16 = u1) (l0 : 0 ≤ a0) (m0 : a0 < 16) (g1 : 16 ≤ u1) (e1 : bits .and .u64 u1 15 = a1) (q1 : u1 / 16 = u2) (l1 : 0 ≤ a1) (m1 : a1 < 16) (g2 : 16 ≤ u2) (e2 : bits .and .u64 u2 15 = a2) (q2 : u2 / 16 = u3) (l2 : 0 ≤ a2) (m2 : a2 < 16) (l : 0 ≤ u3) (m : u3 < 16) (w : World) (htab : Tabs w) :
    Calls Tryz.prog 215 #[.slice none 0 0, .int .u64 u, .int .i64 16, .bool false, .bool false] w fun e w' => e = .returned (.tuple #[.slice none 0 0, .string ⟨([hexc u3.toNat, hexc a2.toNat, hexc a1.toNat, hexc a0.toNat] : List UInt8).toArray⟩]) ∧ Below w.heap.size w w' := by
  have hB := z65_new w
  have ht := htab.alloc (.cells Tryz.zeroCells355 355)
  have d0 := fun W => dig36 a0 l0 m0 W
  have c64 := hB.cell (i := 64) rfl
  have f64 := hB.free 64
  have d1 := fun W => dig36 a1 l1 m1 W
  have c63 := hB.cell (i := 63) rfl
  have f63 := hB.free 63
  have d2 := fun W => dig36 a2 l2 m2 W
  have c62 := hB.cell (i := 62) rfl
  have f62 := hB.free 62
  have d3 := fun W => dig36 u3 l m W
  have c61 := hB.cell (i := 61) rfl
  have f61 := hB.free 61
  have hcv := cv_hex w ((((Tryz.zeroCells355.setIfInBounds 64 (.int .u8 ((hexc a0.toNat).toNat : Int))).setIfInBounds 63 (.int .u8 ((hexc a1.toNat).toNat : Int))).setIfInBounds 62 (.int .u8 ((hexc a2.toNat).toNat : Int))).setIfInBounds 61 (.int .u8 ((hexc u3.toNat).toNat : Int))) [hexc u3.toNat, hexc a2.toNat, hexc a1.toNat, hexc a0.toNat] 61 4 4 355 rfl (fun j hj => by
    match j, hj with
    | 0, _ => rfl
    | 1, _ => rfl
    | 2, _ => rfl
    | 3, _ => rfl)
  clear htab
  go_enter Tryz.func215, Tryz.ntmps215
  go_wp2_with fail
  refine (pow2_16 _).mono ?_
  rintro e w1 ⟨rfl, rfl⟩
  go_wp2_with fail
  refine (tz16 _ ht.1).mono ?_
  rintro e w1 ⟨rfl, rfl⟩
  go_wp2_with fail
  refine wp_loop_rounds 4 ?_
  rw [rounds_succ]
  go_wp2_with fail
  rw [rounds_succ]
  go_wp2_with fail
  rw [rounds_succ]
  go_wp2_with fail
  rw [rounds_succ]
  go_wp2_with fail
  go_ret2
  exact ⟨rfl, (Below.refl _ _).alloc (Nat.le_refl _) _⟩

theorem and_15 (x : Int) (h1 : 0 ≤ x) (h2 : x < 65536) : bits .and .u64 x 15 = x % 16 := by
  rw [u64_and x 15 h1 (by omega) (by decide) (by decide)]
  have : x.toNat &&& (15 : Int).toNat = x.toNat % 2 ^ 4 := Nat.and_two_pow_sub_one_eq_mod x.toNat 4
  rw [this]
  omega

theorem bits16_any (u : Nat) (hu : u < 65536) (w : World) (htab : Tabs w) :
    Calls Tryz.prog 215 #[.slice none 0 0, .int .u64 (u : Int), .int .i64 16, .bool false, .bool false] w fun e w' => e = .returned (.tuple #[.slice none 0 0, .string ⟨(hexL u).toArray⟩]) ∧ Below w.heap.size w w' := by
  unfold hexL
  by_cases h1 : u < 16
  · rw [if_pos h1]
    exact bits16_1 u (by omega) (by omega) w htab
  rw [if_neg h1]
  have e0 := and_15 (u : Int) (by omega) (by omega)
  by_cases h2 : u < 256
  · rw [if_pos h2]
    exact bits16_2 u ((u / 16 : Nat) : Int) ((u % 16 : Nat) : Int) (by omega) (by rw [e0]; omega) (by omega) (by omega) (by omega) (by omega) (by omega) w htab
  rw [if_neg h2]
  have e1 := and_15 ((u / 16 : Nat) : Int) (by omega) (by omega)
  by_cases h3 : u < 4096
  · rw [if_pos h3]
    exact bits16_3 u ((u / 16 : Nat) : Int) ((u / 256 : Nat) : Int) ((u % 16 : Nat) : Int) ((u / 16 % 16 : Nat) : Int) (by omega) (by rw [e0]; omega) (by omega) (by omega) (by omega) (by omega) (by rw [e1]; omega) (by omega) (by omega) (by omega) (by omega) (by omega) w htab
  rw [if_neg h3]
  have e2 := and_15 ((u / 256 : Nat) : Int) (by omega) (by omega)
  exact bits16_4 u ((u / 16 : Nat) : Int) ((u / 256 : Nat) : Int) ((u / 4096 : Nat) : Int) ((u % 16 : Nat) : Int) ((u / 16 % 16 : Nat) : Int) ((u / 256 % 16 : Nat) : Int) (by omega) (by rw [e0]; omega) (by omega) (by omega) (by omega) (by omega) (by rw [e1]; omega) (by omega) (by omega) (by omega) (by omega) (by rw [e2]; omega) (by omega) (by omega) (by omega) (by omega) (by omega) w htab

set_option maxHeartbeats 400000 in
theorem fmtU16_in (u : Nat) (hu : u < 65536) (w : World) (htab : Tabs w) :
    Calls Tryz.prog 138 #[.int .u64 (u : Int), .int .i64 16] w (GivesV (.string ⟨(hexL u).toArray⟩) w) := by
  have HS := Lib.hid (bits16_any u hu w htab)
  clear htab
  go_enter Tryz.func138, Tryz.ntmps138
  go_wp2_with fail
  refine HS.out.mono ?_
  rintro e w' ⟨rfl, hb⟩
  go_wp2_with fail
  go_ret
  exact ⟨rfl, hb⟩

set_option maxHeartbeats 400000 in
theorem fmtU16 (u : Nat) (hu : u < 65536) (w : World) (htab : Tabs w) :
    Calls Tryz.prog 80 #[.int .u64 (u : Int), .int .i64 16] w (GivesV (.string ⟨(hexL u).toArray⟩) w) := by
  have HS := Lib.hid (fmtU16_in u hu w htab)
  clear htab
  go_enter Tryz.func80, Tryz.ntmps80
  go_wp2_with fail
  refine HS.out.mono ?_
  rintro e w' ⟨rfl, hb⟩
  go_wp2_with fail
  go_ret
  exact ⟨rfl, hb⟩

end Go.Proofs.YtfbggfpihiegpaaGreatDoor
namespace Go.Proofs.YtfbggfpihiegpaaGreatDoor
open Go.RowKit Go.Sort Go.Lib

theorem holds_zero0 (w : World) (T : TypeId) (nd : Nat) (hs : nd ≤ 24) : Holds (fun (b : UInt8) => Value.int .u8 (b.toNat : Int)) (w.alloc (.cells Lib.zeros24 T)) w.heap.size 0 (Array.replicate nd (0 : UInt8)) := fun j hj => by
  have hj' : j < nd := by simpa using hj
  refine ⟨?_, World.frozen?_alloc_new _ _ _ _⟩
  rw [World.cell?_alloc_new, Lib.zeros24_at _ (by omega), getElem!_pos _ j hj]
  simp

set_option maxHeartbeats 1000000 in
theorem fmtU10_in (u : Nat) (hu64 : u < 18446744073709551616) (w : World) (htab : Tabs w) :
    Calls Tryz.prog 138 #[.int .u64 (u : Int), .int .i64 10] w (GivesV (.string ⟨(Lib.decDigits u).toArray⟩) w) := by
  by_cases hs : u < 100
  · have hs' : (u : Int) < 100 := by omega
    have HS := fun w' => Lib.hid (Tryz.internal_strconv_small u hs w')
    go_enter Tryz.func138, Tryz.ntmps138
    go_wp2_with fail
    refine (HS _).out.mono ?_
    rintro e w' ⟨rfl, rfl⟩
    go_wp2_with fail
    go_ret
    exact ⟨rfl, Below.refl _ _⟩
  · have hu1 : 1 ≤ u := by omega
    have hs' : ¬ (u : Int) < 100 := by omega
    have hnd20 : Lib.nDigits u ≤ 20 := by have := Lib.numDigits_eq u hu1 hu64; split at this <;> omega
    have hb3 : Lib.nDigits u ≤ 24 := by omega
    have hal : Tryz.prog.arrayLen 304 = 24 := by simp [Program.arrayLen, Tryz.underlying304]
    have hsl1 : ∀ W, (Instr.sliceAt 304 (.pointer (some ⟨w.heap.size, 0, none⟩)) none (some (.int .i64 (Lib.nDigits u : Int))) none).run Tryz.prog W = .ok (.slice (some ⟨w.heap.size, 0, none⟩) (Lib.nDigits u) 24) W := fun W => by
      rw [run_sliceAt_array_h W 304 ⟨w.heap.size, 0, none⟩ (by simp [Program.arrayLen, Program.elem, Tryz.underlying304]) .i64 (Lib.nDigits u : Int) (by omega) (by rw [hal]; omega)]
      go_simp
    have hH0 := holds_zero0 w 304 (Lib.nDigits u) hb3
    have hfmt := Tryz.internal_strconv_formatBase10 w.heap.size 0 24 u (Array.replicate (Lib.nDigits u) 0) (w.alloc (.cells Lib.zeros24 304)) hH0 (by rw [Array.size_replicate]; exact Lib.lt_pow_nDigits u) hu64 (by rw [Array.size_replicate]; omega)
    rw [Array.size_replicate] at hfmt
    have HH0 := Lib.hid hH0
    have hnd := fun W h => Lib.hid (Tryz.internal_strconv_numDigits u hu1 hu64 W h)
    have ht := (htab.alloc (.cells Lib.zeros24 304)).2.1
    replace hfmt := Lib.hid hfmt
    clear hH0 hal htab
    go_enter Tryz.func138, Tryz.ntmps138
    go_wp2_with fail
    refine (hnd _ ht).out.mono ?_
    rintro e w' ⟨rfl, rfl⟩
    go_wp2_with fail
    refine hfmt.out.mono ?_
    rintro e w' ⟨rfl, k, v', dk, rfl, hF⟩
    have hcv : (convert 92 9 (.slice (some ⟨w.heap.size, 0, none⟩) (Lib.nDigits u) 24)).run Tryz.prog ((putRow (fun (b : UInt8) => Value.int .u8 (b.toNat : Int)) (w.alloc (.cells Lib.zeros24 304)) w.heap.size 0 dk).drewN k) = .ok (.string ⟨(Lib.decDigits u).toArray⟩) ((putRow (fun (b : UInt8) => Value.int .u8 (b.toNat : Int)) (w.alloc (.cells Lib.zeros24 304)) w.heap.size 0 dk).drewN k) := by
      have h := run_convert_bytes_back (P := Tryz.prog) ((putRow (fun (b : UInt8) => Value.int .u8 (b.toNat : Int)) (w.alloc (.cells Lib.zeros24 304)) w.heap.size 0 dk).drewN k) 92 9 5 ⟨w.heap.size, 0, none⟩ 24 (Lib.decDigits u) Tryz.underlying92 Tryz.underlying5 Tryz.underlying9 (fun j hj => by
        rw [Lib.row_is_numeral hF j hj, Lib.add_plain, World.cell?_drewN]
        exact cell?_putRow (fun (b : UInt8) => Value.int .u8 (b.toNat : Int)) _ w.heap.size 0 _ dk HH0.out (by rw [hF.size, Array.size_replicate]) j (by rw [hF.size]; rw [Lib.decDigits_length] at hj; exact hj))
      rw [Lib.decDigits_length] at h
      exact h
    go_wp2_with fail
    go_ret
    obtain ⟨os, eo⟩ := Lib.fin_at w (.cells Lib.zeros24 304) dk k 0
    refine ⟨rfl, ?_⟩
    rw [eo]
    exact Lib.below_grow _ _ (Nat.le_refl _) k os

set_option maxHeartbeats 400000 in
theorem fmtU10 (u : Nat) (hu64 : u < 18446744073709551616) (w : World) (htab : Tabs w) :
    Calls Tryz.prog 80 #[.int .u64 (u : Int), .int .i64 10] w (GivesV (.string ⟨(Lib.decDigits u).toArray⟩) w) := by
  have HS := Lib.hid (fmtU10_in u hu64 w htab)
  clear htab
  go_enter Tryz.func80, Tryz.ntmps80
  go_wp2_with fail
  refine HS.out.mono ?_
  rintro e w' ⟨rfl, hb⟩
  go_wp2_with fail
  go_ret
  exact ⟨rfl, hb⟩

theorem cell_one_at (w : World) (v : Value) (t : TypeId) (b : Nat) (hb : b = w.heap.size) : ∀ (j : Nat) (u : Value), [v][j]? = some u → (w.alloc (.cells #[v] t)).cell? ((⟨b, 0, none⟩ : Addr).add j) = some u := by
  subst hb; exact cell_one_new _ _ _

def Sl (w : World) (A : Option Addr) (n cap : Nat) (vs : List Value) : Prop :=
  n = vs.length ∧ n ≤ cap ∧ (n = 0 ∨ ∃ g off, A = some ⟨g, off, none⟩ ∧ g < w.heap.size ∧ ∀ j u, vs[j]? = some u → w.cell? ⟨g, off + j, none⟩ = some u)
theorem Sl.keep {w w' : World} {A : Option Addr} {n cap : Nat} {vs : List Value} (h : Sl w A n cap vs) (hs : w.heap.size ≤ w'.heap.size) (hk : ∀ j, j < w.heap.size → w'.heap[j]? = w.heap[j]?) : Sl w' A n cap vs := by
  obtain ⟨h1, h2, h3⟩ := h
  refine ⟨h1, h2, ?_⟩
  rcases h3 with h3 | ⟨g, off, hA, hg, hc⟩
  · exact .inl h3
  · exact .inr ⟨g, off, hA, by omega, fun j u hu => by rw [World.cell?_of_block (w := w) (hk g hg)]; exact hc j u hu⟩
theorem Sl.below {w w' : World} {A : Option Addr} {n cap : Nat} {vs : List Value} (h : Sl w A n cap vs) (hb : Below w.heap.size w w') : Sl w' A n cap vs := h.keep hb.size hb.block
theorem Sl.alloc {w : World} {A : Option Addr} {n cap : Nat} {vs : List Value} (h : Sl w A n cap vs) (o : Obj) : Sl (w.alloc o) A n cap vs := h.below (.alloc (.refl _ _) (Nat.le_refl _) _)
theorem Sl.drew {w : World} {A : Option Addr} {n cap : Nat} {vs : List Value} (h : Sl w A n cap vs) : Sl w.drew A n cap vs := h
theorem Sl.none_ {w : World} {A : Option Addr} {cap : Nat} : Sl w A 0 cap [] := ⟨rfl, Nat.zero_le _, .inl rfl⟩
theorem Sl.of_own {w : World} {base : Nat} {e : TypeId} {v : Value} {n : Nat} {xs : List Value} (h : w.ownsRow base e 1 v n xs) : ∃ A cap, v = .slice A n cap ∧ Sl w A n cap xs := by
  rcases h.2 with ⟨hv, h0⟩ | ⟨g, cap, cur, hv, _, hg, hle, hm, _, _⟩
  · subst h0
    have : xs = [] := List.eq_nil_of_length_eq_zero (by simpa using h.1)
    subst this
    exact ⟨none, 0, hv, Sl.none_⟩
  · refine ⟨some ⟨g, 0, none⟩, cap, hv, by have := h.1; omega, hle, .inr ⟨g, 0, rfl, (Array.getElem?_eq_some_iff.1 hg).1, fun j u hu => ?_⟩⟩
    have := h.cells (g := g) (by rw [hv]; rfl) j u hu
    simp only [Nat.zero_add]
    by_cases hj : j = 0
    · subst hj; simpa [Addr.add] using this
    · simpa [Addr.add, hj] using this
theorem Sl.head {w : World} {A : Option Addr} {n cap k : Nat} {vs : List Value} (h : Sl w A n cap vs) (hk : k ≤ n) : Sl w A k cap (vs.take k) := by
  obtain ⟨h1, h2, h3⟩ := h
  refine ⟨by simp; omega, by omega, ?_⟩
  rcases h3 with h3 | ⟨g, off, hA, hg, hc⟩
  · exact .inl (by omega)
  · refine .inr ⟨g, off, hA, hg, fun j u hu => hc j u ?_⟩
    rw [List.getElem?_take] at hu
    split at hu
    · exact hu
    · cases hu
def tailA (A : Option Addr) (k cap : Nat) : Option Addr := if cap = k then A else A.map (·.add k)
theorem Sl.tail {w : World} {A : Option Addr} {n cap k : Nat} {vs : List Value} (h : Sl w A n cap vs) (hk : k ≤ n) : Sl w (tailA A k cap) (n - k) (cap - k) (vs.drop k) := by
  obtain ⟨h1, h2, h3⟩ := h
  refine ⟨by simp; omega, by omega, ?_⟩
  by_cases hn : n = k
  · exact .inl (by omega)
  · rcases h3 with h3 | ⟨g, off, rfl, hg, hc⟩
    · exact .inl (by omega)
    · refine .inr ⟨g, off + k, ?_, hg, fun j u hu => ?_⟩
      · unfold tailA
        rw [if_neg (by omega), Option.map_some, Lib.add_plain]
      · rw [List.getElem?_drop] at hu
        rw [Nat.add_assoc]
        exact hc (k + j) u hu

theorem info_u64 : (Tryz.prog.info? 28).map (fun i => (i.zero, i.size, i.bytes)) = some (some (.int .u64 0), 1, 8) := by kernel_rfl
theorem and16' (x : Int) (h1 : 0 ≤ x) (h2 : x < 18446744073709551616) : bits .and .u64 x 65535 = ((x.toNat % 2 ^ 16 : Nat) : Int) := by
  rw [u64_and x 65535 h1 h2 (by decide) (by decide)]
  have : x.toNat &&& (65535 : Int).toNat = x.toNat % 2 ^ 16 := Nat.and_two_pow_sub_one_eq_mod x.toNat 16
  rw [this]
theorem and8' (x : Int) (h1 : 0 ≤ x) (h2 : x < 18446744073709551616) : bits .and .u64 x 255 = ((x.toNat % 2 ^ 8 : Nat) : Int) := by
  rw [u64_and x 255 h1 h2 (by decide) (by decide)]
  have : x.toNat &&& (255 : Int).toNat = x.toNat % 2 ^ 8 := Nat.and_two_pow_sub_one_eq_mod x.toNat 8
  rw [this]
theorem dgl (hi lo : Int) (h3 : 0 ≤ lo) (h4 : lo < 18446744073709551616) (j : Nat) (hj : j < 4) (d : Int) (hd : d = 2 ^ (16 * j)) : bits .and .u64 (lo / d) 65535 = (dig (num hi lo) j : Int) := by
  have h := dig_of_lo hi lo h3 h4 j hj d hd
  have hp : (0 : Int) < d := by rw [hd]; exact Int.pow_pos (by decide)
  have a := and16' (lo / d) (Int.ediv_nonneg h3 (Int.le_of_lt hp)) (by have := Int.ediv_le_self d h3; omega)
  rw [a] at h ⊢
  rw [IntWalk.wrap64_in] at h
  · exact h
  · omega
theorem dgh (hi lo : Int) (h1 : 0 ≤ hi) (h2 : hi < 18446744073709551616) (h4 : lo < 18446744073709551616) (j : Nat) (d : Int) (hd : d = 2 ^ (16 * j)) : bits .and .u64 (hi / d) 65535 = (dig (num hi lo) (4 + j) : Int) := by
  have h := dig_of_hi hi lo h1 h2 h4 j d hd
  have hp : (0 : Int) < d := by rw [hd]; exact Int.pow_pos (by decide)
  have a := and16' (hi / d) (Int.ediv_nonneg h1 (Int.le_of_lt hp)) (by have := Int.ediv_le_self d h1; omega)
  rw [a] at h ⊢
  rw [IntWalk.wrap64_in] at h
  · exact h
  · omega

def grps (V : Nat) : List Nat := [dig V 7, dig V 6, dig V 5, dig V 4, dig V 3, dig V 2, dig V 1, dig V 0]

def SlN (k : IntKind) (w : World) (A : Option Addr) (n cap : Nat) (gs : List Nat) : Prop := Sl w A n cap (gs.map fun (g : Nat) => Value.int k (g : Int))
def GivesN (k : IntKind) (gs : List Nat) (w : World) (e : Ending) (w' : World) : Prop := ∃ A cap, e = .returned (.slice A gs.length cap) ∧ SlN k w' A gs.length cap gs ∧ Below w.heap.size w w'

set_option maxHeartbeats 2000000 in
theorem groupsP_any (s : Bool) (hi lo : Int) (w : World) (h1 : 0 ≤ hi) (h2 : hi < 18446744073709551616) (h3 : 0 ≤ lo) (h4 : lo < 18446744073709551616) :
    Calls Tryz.prog 51 #[.agg #[.bool s, .int .u64 hi, .int .u64 lo]] w (GivesN .u64 (grps (num hi lo)) w) := by
  have a0 := dgl hi lo h3 h4 0 (by decide) 1 (by decide)
  have a1 := dgl hi lo h3 h4 1 (by decide) 65536 (by decide)
  have a2 := dgl hi lo h3 h4 2 (by decide) 4294967296 (by decide)
  have a3 := dgl hi lo h3 h4 3 (by decide) 281474976710656 (by decide)
  have b0 : bits .and .u64 (hi / 1) 65535 = (dig (num hi lo) 4 : Int) := dgh hi lo h1 h2 h4 0 1 (by decide)
  have b1 : bits .and .u64 (hi / 65536) 65535 = (dig (num hi lo) 5 : Int) := dgh hi lo h1 h2 h4 1 65536 (by decide)
  have b2 : bits .and .u64 (hi / 4294967296) 65535 = (dig (num hi lo) 6 : Int) := dgh hi lo h1 h2 h4 2 4294967296 (by decide)
  have b3 : bits .and .u64 (hi / 281474976710656) 65535 = (dig (num hi lo) 7 : Int) := dgh hi lo h1 h2 h4 3 281474976710656 (by decide)
  rw [Int.ediv_one] at a0 b0
  generalize num hi lo = V at *
  have hb0 : Below w.heap.size w (w.alloc (.cells #[.bool s, .int .u64 hi, .int .u64 lo] 30)) := (Below.refl _ _).alloc (Nat.le_refl _) _
  have hs0 := hb0.size
  have x0 : ∀ W, (Instr.index 142 (.agg #[.int .u64 hi, .int .u64 lo]) (.int .i64 0)).run Tryz.prog W = .ok (.int .u64 hi) W := fun _ => by kernel_rfl
  have x1 : ∀ W, (Instr.index 142 (.agg #[.int .u64 hi, .int .u64 lo]) (.int .i64 1)).run Tryz.prog W = .ok (.int .u64 lo) W := fun _ => by kernel_rfl
  obtain ⟨i0, hi0, hz0, hz1, hz2⟩ := info_parts info_u64
  go_enter Tryz.func51, Tryz.ntmps51
  go_wp2_with fail
  refine wp_loop_rounds 3 ?_
  rw [rounds_succ]
  go_wp2_with fail
  refine wp_loop_rounds 5 ?_
  rw [rounds_succ]
  go_wp2_with (at_builtin; refine wpList_append_own _ rfl _ _ 55 rfl w.heap.size 28 i0 (.int .u64 0) 1 8 Tryz.underlying55 hi0 hz0 hz1 hz2 rfl (by decide) _ _ _ rfl (World.ownsRow_nil _ _ _ _) ⟨(w.heap.size + 1), 0, none⟩ 1 1 [.int .u64 (dig V 7 : Int)] rfl rfl ?c1 ?c2 ?c3 ?c4 ?c5 ?_)
  case c1 => exact cell_one_at _ _ _ _ (by simp)
  case c2 => simp; rfl
  case c3 => unfold maxLen; omega
  case c4 => omega
  case c5 => (try simp); omega
  intro v1 w1 hown1 hg1 _
  have hb1 : Below w.heap.size w w1 := (hb0.alloc hs0 _).grown hg1 (by simp; omega) (by intro k h; cases h)
  have hs1 := hb1.size
  clear hg1
  go_wp2_with fail
  rw [rounds_succ]
  go_wp2_with (at_builtin; refine wpList_append_own _ rfl _ _ 55 rfl w.heap.size 28 i0 (.int .u64 0) 1 8 Tryz.underlying55 hi0 hz0 hz1 hz2 rfl (by decide) _ _ _ rfl (hown1.alloc _) ⟨w1.heap.size, 0, none⟩ 1 1 [.int .u64 (dig V 6 : Int)] rfl rfl ?c1 ?c2 ?c3 ?c4 ?c5 ?_)
  case c1 => exact cell_one_at _ _ _ _ (by simp)
  case c2 => simp; rfl
  case c3 => unfold maxLen; omega
  case c4 => omega
  case c5 => (try simp); omega
  intro v2 w2 hown2 hg2 _
  have hb2 : Below w.heap.size w w2 := (hb1.alloc hs1 _).grown hg2 (by simp; omega) (fun k h => (hown1.lt k h).1)
  have hs2 := hb2.size
  clear hg2
  go_wp2_with fail
  rw [rounds_succ]
  go_wp2_with (at_builtin; refine wpList_append_own _ rfl _ _ 55 rfl w.heap.size 28 i0 (.int .u64 0) 1 8 Tryz.underlying55 hi0 hz0 hz1 hz2 rfl (by decide) _ _ _ rfl (hown2.alloc _) ⟨w2.heap.size, 0, none⟩ 1 1 [.int .u64 (dig V 5 : Int)] rfl rfl ?c1 ?c2 ?c3 ?c4 ?c5 ?_)
  case c1 => exact cell_one_at _ _ _ _ (by simp)
  case c2 => simp; rfl
  case c3 => unfold maxLen; omega
  case c4 => omega
  case c5 => (try simp); omega
  intro v3 w3 hown3 hg3 _
  have hb3 : Below w.heap.size w w3 := (hb2.alloc hs2 _).grown hg3 (by simp; omega) (fun k h => (hown2.lt k h).1)
  have hs3 := hb3.size
  clear hg3
  go_wp2_with fail
  rw [rounds_succ]
  go_wp2_with (at_builtin; refine wpList_append_own _ rfl _ _ 55 rfl w.heap.size 28 i0 (.int .u64 0) 1 8 Tryz.underlying55 hi0 hz0 hz1 hz2 rfl (by decide) _ _ _ rfl (hown3.alloc _) ⟨w3.heap.size, 0, none⟩ 1 1 [.int .u64 (dig V 4 : Int)] rfl rfl ?c1 ?c2 ?c3 ?c4 ?c5 ?_)
  case c1 => exact cell_one_at _ _ _ _ (by simp)
  case c2 => simp; rfl
  case c3 => unfold maxLen; omega
  case c4 => omega
  case c5 => (try simp); omega
  intro v4 w4 hown4 hg4 _
  have hb4 : Below w.heap.size w w4 := (hb3.alloc hs3 _).grown hg4 (by simp; omega) (fun k h => (hown3.lt k h).1)
  have hs4 := hb4.size
  clear hg4
  go_wp2_with fail
  rw [rounds_succ]
  go_wp2_with fail
  rw [rounds_succ]
  go_wp2_with fail
  refine wp_loop_rounds 5 ?_
  rw [rounds_succ]
  go_wp2_with (at_builtin; refine wpList_append_own _ rfl _ _ 55 rfl w.heap.size 28 i0 (.int .u64 0) 1 8 Tryz.underlying55 hi0 hz0 hz1 hz2 rfl (by decide) _ _ _ rfl (hown4.alloc _) ⟨w4.heap.size, 0, none⟩ 1 1 [.int .u64 (dig V 3 : Int)] rfl rfl ?c1 ?c2 ?c3 ?c4 ?c5 ?_)
  case c1 => exact cell_one_at _ _ _ _ (by simp)
  case c2 => simp; rfl
  case c3 => unfold maxLen; omega
  case c4 => omega
  case c5 => (try simp); omega
  intro v5 w5 hown5 hg5 _
  have hb5 : Below w.heap.size w w5 := (hb4.alloc hs4 _).grown hg5 (by simp; omega) (fun k h => (hown4.lt k h).1)
  have hs5 := hb5.size
  clear hg5
  go_wp2_with fail
  rw [rounds_succ]
  go_wp2_with (at_builtin; refine wpList_append_own _ rfl _ _ 55 rfl w.heap.size 28 i0 (.int .u64 0) 1 8 Tryz.underlying55 hi0 hz0 hz1 hz2 rfl (by decide) _ _ _ rfl (hown5.alloc _) ⟨w5.heap.size, 0, none⟩ 1 1 [.int .u64 (dig V 2 : Int)] rfl rfl ?c1 ?c2 ?c3 ?c4 ?c5 ?_)
  case c1 => exact cell_one_at _ _ _ _ (by simp)
  case c2 => simp; rfl
  case c3 => unfold maxLen; omega
  case c4 => omega
  case c5 => (try simp); omega
  intro v6 w6 hown6 hg6 _
  have hb6 : Below w.heap.size w w6 := (hb5.alloc hs5 _).grown hg6 (by simp; omega) (fun k h => (hown5.lt k h).1)
  have hs6 := hb6.size
  clear hg6
  go_wp2_with fail
  rw [rounds_succ]
  go_wp2_with (at_builtin; refine wpList_append_own _ rfl _ _ 55 rfl w.heap.size 28 i0 (.int .u64 0) 1 8 Tryz.underlying55 hi0 hz0 hz1 hz2 rfl (by decide) _ _ _ rfl (hown6.alloc _) ⟨w6.heap.size, 0, none⟩ 1 1 [.int .u64 (dig V 1 : Int)] rfl rfl ?c1 ?c2 ?c3 ?c4 ?c5 ?_)
  case c1 => exact cell_one_at _ _ _ _ (by simp)
  case c2 => simp; rfl
  case c3 => unfold maxLen; omega
  case c4 => omega
  case c5 => (try simp); omega
  intro v7 w7 hown7 hg7 _
  have hb7 : Below w.heap.size w w7 := (hb6.alloc hs6 _).grown hg7 (by simp; omega) (fun k h => (hown6.lt k h).1)
  have hs7 := hb7.size
  clear hg7
  go_wp2_with fail
  rw [rounds_succ]
  go_wp2_with (at_builtin; refine wpList_append_own _ rfl _ _ 55 rfl w.heap.size 28 i0 (.int .u64 0) 1 8 Tryz.underlying55 hi0 hz0 hz1 hz2 rfl (by decide) _ _ _ rfl (hown7.alloc _) ⟨w7.heap.size, 0, none⟩ 1 1 [.int .u64 (dig V 0 : Int)] rfl rfl ?c1 ?c2 ?c3 ?c4 ?c5 ?_)
  case c1 => exact cell_one_at _ _ _ _ (by simp)
  case c2 => simp; rfl
  case c3 => unfold maxLen; omega
  case c4 => omega
  case c5 => (try simp); omega
  intro v8 w8 hown8 hg8 _
  have hb8 : Below w.heap.size w w8 := (hb7.alloc hs7 _).grown hg8 (by simp; omega) (fun k h => (hown7.lt k h).1)
  have hs8 := hb8.size
  clear hg8
  go_wp2_with fail
  rw [rounds_succ]
  go_wp2_with fail
  rw [rounds_succ]
  go_wp2_with fail
  go_ret
  obtain ⟨A, cap, rfl, hS⟩ := Sl.of_own hown8
  exact ⟨A, cap, rfl, hS, hb8⟩

theorem tw_next : ∀ (l : List Bool) (k : Nat), k ≤ (l.takeWhile id).length → (l[k]? = some true → k + 1 ≤ (l.takeWhile id).length) ∧ (l[k]? ≠ some true → (l.takeWhile id).length = k)
  | [], k, h => by simp at h; subst h; simp
  | true :: r, 0, _ => by simp
  | false :: r, 0, _ => by simp
  | false :: r, k + 1, h => by simp at h
  | true :: r, k + 1, h => by
    have := tw_next r k (by simpa using h)
    simpa using this
theorem run_next (z : List Bool) (i k : Nat) (h : k ≤ runZ z i) : (z[i + k]? = some true → k + 1 ≤ runZ z i) ∧ (z[i + k]? ≠ some true → runZ z i = k) := by
  have := tw_next (z.drop i) k h
  simpa [runZ, List.getElem?_drop] using this
theorem run_le (z : List Bool) (i : Nat) (h : i ≤ z.length) : i + runZ z i ≤ z.length := by
  unfold runZ
  have := (List.takeWhile_prefix id (l := z.drop i)).length_le
  simp at this
  omega
theorem flag_at {gs : List Nat} {j g : Nat} (h : gs[j]? = some g) : (flagsZ gs)[j]? = some (g == 0) := by simp [flagsZ, h]

theorem lz_up {z : List Bool} {i k : Nat} (h : runZ z i = k) (hlt : (lzTo z i).2 < k) : i = (lzTo z (i + 1)).1 ∧ k = (lzTo z (i + 1)).2 := by
  rw [lzTo_succ, lzStep, h, if_pos hlt]; exact ⟨rfl, rfl⟩
theorem lz_stay {z : List Bool} {i k : Nat} (h : runZ z i = k) (hlt : ¬ (lzTo z i).2 < k) : lzTo z i = lzTo z (i + 1) := by
  rw [lzTo_succ, lzStep, h, if_neg hlt]

set_option maxHeartbeats 1000000 in
theorem longest_any (A : Option Addr) (cap : Nat) (gs : List Nat) (w : World) (h8 : gs.length = 8) (hS : SlN .u64 w A 8 cap gs) :
    Calls Tryz.prog 78 #[.slice A 8 cap] w fun e w' => e = .returned (.tuple #[.int .i64 ((lzTo (flagsZ gs) 8).1 : Int), .int .i64 ((lzTo (flagsZ gs) 8).2 : Int)]) ∧ w = w' := by
  obtain ⟨h9, _, h0 | ⟨b, off, rfl, hb, hc⟩⟩ := hS
  · omega
  clear h9
  have hz8 := flagsZ_length gs
  rw [h8] at hz8
  replace h8 := Lib.hid h8
  obtain ⟨z, hz⟩ : ∃ z, z = flagsZ gs := ⟨_, rfl⟩
  rw [← hz] at hz8
  rw [← hz]
  replace hz := Lib.hid hz
  have H8 := Lib.hid hz8
  clear hz8
  go_enter Tryz.func78, Tryz.ntmps78
  go_wp2_with fail
  go_loop [2, 3, 8] (fun a n i => ∃ k : Nat, k ≤ 8 ∧ i = .int .i64 k ∧ a = .int .i64 ((lzTo z k).1 : Int) ∧ n = .int .i64 ((lzTo z k).2 : Int)) (fun _ _ i => 8 - (intOf i).toNat)
  case atStart => exact ⟨0, by omega, rfl, rfl, rfl⟩
  case round =>
    obtain ⟨i, hi, rfl, rfl, rfl⟩ := hrel
    by_cases hlt : i < 8
    · go_wp2_with fail
      go_loop [5] (fun c => ∃ k : Nat, k ≤ runZ z i ∧ c = .int .i64 k) (fun c => 8 - (intOf c).toNat)
      case atStart => exact ⟨0, Nat.zero_le _, rfl⟩
      case round =>
        obtain ⟨k, hk, rfl⟩ := hrel
        have hr8 := run_le z i (by rw [H8.out]; omega)
        rw [H8.out] at hr8
        have HN := Lib.hid (run_next z i k hk)
        by_cases hin : i + k < 8
        · obtain ⟨g, hg⟩ : ∃ g, gs[i + k]? = some g := ⟨gs[i + k]'(by rw [h8.out]; omega), List.getElem?_eq_getElem _⟩
          have hcell := hc (i + k) (.int .u64 (g : Int)) (by rw [List.getElem?_map, hg]; rfl)
          have hfl : z[i + k]? = some (g == 0) := by rw [hz.out]; exact flag_at hg
          have hsum : (i : Int) + (k : Int) < 8 := by omega
          by_cases hg0 : g = 0
          · subst hg0
            have hnext := HN.out.1 (by simpa using hfl)
            clear hfl hg
            go_wp2_with fail
            go_round
            case rel => exact ⟨k + 1, hnext, by go_num⟩
            case measure => simp [intOf]; omega
          · have hb0 : ((g : Int) == 0) = false := by simp; omega
            have hnext := Lib.hid (HN.out.2 (by rw [hfl]; simpa using hg0))
            clear hfl hg hg0
            go_wp2_with fail
            · have hup : (lzTo z i).2 < k := by assumption
              go_round
              case rel => exact ⟨i + 1, by omega, by go_num, by rw [← (lz_up hnext.out hup).1], by rw [← (lz_up hnext.out hup).2]⟩
              case measure => simp [intOf]; omega
            · have hup : ¬ (lzTo z i).2 < k := by assumption
              go_round
              case rel => exact ⟨i + 1, by omega, by go_num, by rw [← lz_stay hnext.out hup], by rw [← lz_stay hnext.out hup]⟩
              case measure => simp [intOf]; omega
        · have hnext := Lib.hid (HN.out.2 (by rw [List.getElem?_eq_none (by rw [H8.out]; omega)]; simp))
          have hsum : ¬ (i : Int) + (k : Int) < 8 := by omega
          go_wp2_with fail
          · have hup : (lzTo z i).2 < k := by assumption
            go_round
            case rel => exact ⟨i + 1, by omega, by go_num, by rw [← (lz_up hnext.out hup).1], by rw [← (lz_up hnext.out hup).2]⟩
            case measure => simp [intOf]; omega
          · have hup : ¬ (lzTo z i).2 < k := by assumption
            go_round
            case rel => exact ⟨i + 1, by omega, by go_num, by rw [← lz_stay hnext.out hup], by rw [← lz_stay hnext.out hup]⟩
            case measure => simp [intOf]; omega
    · obtain rfl : i = 8 := by omega
      go_wp2_with fail
      go_ret2
      exact ⟨rfl, rfl⟩

theorem own_below {w w' : World} {base : Nat} {e : TypeId} {size n : Nat} {v : Value} {xs : List Value} (h : w.ownsRow base e size v n xs) (hb : Below w.heap.size w w') : w'.ownsRow base e size v n xs := by
  refine ⟨h.1, ?_⟩
  rcases h.2 with h2 | ⟨g, cap, cur, hv, hg, hh, h3⟩
  · exact .inl h2
  · exact .inr ⟨g, cap, cur, hv, hg, (hb.block g (Array.getElem?_eq_some_iff.1 hh).1).trans hh, h3⟩

abbrev sv (l : List UInt8) : Value := .string ⟨l.toArray⟩

theorem joinTail_len (sep : List UInt8) (m : Nat) : ∀ r : List (List UInt8), (∀ l ∈ r, l.length ≤ m) → (Lib.joinTail sep r).length ≤ r.length * (m + sep.length)
  | [], _ => by simp [Lib.joinTail]
  | x :: r, h => by
    have h1 := joinTail_len sep m r (fun l hl => h l (List.mem_cons_of_mem _ hl))
    have h2 := h x (List.mem_cons_self ..)
    have e : Lib.joinTail sep (x :: r) = (sep ++ x) ++ Lib.joinTail sep r := by simp [Lib.joinTail]
    rw [e, List.length_append, List.length_append, List.length_cons, Nat.succ_mul]
    omega
theorem join_len (sep : List UInt8) (m : Nat) (ls : List (List UInt8)) (h : ∀ l ∈ ls, l.length ≤ m) : (Lib.join ls sep).length ≤ ls.length * (m + sep.length) := by
  cases ls with
  | nil => simp [Lib.join_nil]
  | cons x r =>
    have h1 := joinTail_len sep m r (fun l hl => h l (List.mem_cons_of_mem _ hl))
    have h2 := h x (List.mem_cons_self ..)
    rw [Lib.join_cons, List.length_append, List.length_cons, Nat.succ_mul]
    omega

theorem join_any (A : Option Addr) (n cap : Nat) (ls : List (List UInt8)) (sep : List UInt8) (w : World) (hS : Sl w A n cap (ls.map sv)) (hn : n ≤ 1000) (hlen : (Lib.join ls sep).length ≤ 100000) :
    Calls Tryz.prog 81 #[.slice A n cap, sv sep] w (GivesV (sv (Lib.join ls sep)) w) := by
  obtain ⟨h1, h2, h3⟩ := hS
  have hl : n = ls.length := by simpa using h1
  rcases h3 with h3 | ⟨g, off, rfl, hg, hc⟩
  · subst h3
    have : ls = [] := List.eq_nil_of_length_eq_zero hl.symm
    subst this
    refine (Tryz.strings_Join_none A cap ⟨sep.toArray⟩ w).mono ?_
    rintro e w' ⟨rfl, rfl⟩
    exact ⟨rfl, Below.refl _ _⟩
  · have e : (ls.map fun l : List UInt8 => (⟨l.toArray⟩ : ByteArray)).map (·.data.toList) = ls := by simp [Function.comp_def]
    have HJ := Tryz.strings_Join g off cap (ls.map fun l => ⟨l.toArray⟩) ⟨sep.toArray⟩ w (fun j x hx => by
      rw [List.getElem?_map] at hx
      obtain ⟨l, hl', rfl⟩ := Option.map_eq_some_iff.1 hx
      exact hc j _ (by rw [List.getElem?_map, hl']; rfl)) hg (by simp; omega) (by simp; omega) (by rw [e]; exact Nat.le_trans hlen (by decide))
    rw [e, List.length_map, ← hl] at HJ
    exact HJ

theorem info_str' : (Tryz.prog.info? 9).map (fun i => (i.zero, i.size, i.bytes)) = some (some (.string ⟨#[]⟩), 1, 16) := by kernel_rfl

theorem take_next {α : Type} {l : List α} {k : Nat} {g : α} (h : l[k]? = some g) : l.take (k + 1) = l.take k ++ [g] := by
  rw [List.take_add_one, h]; rfl

set_option maxHeartbeats 2000000 in
theorem joinGroups_any (A : Option Addr) (n cap : Nat) (gs : List Nat) (w : World) (htab : Tabs w) (hn : n ≤ 8) (hg : ∀ g ∈ gs, g < 65536) (hS : SlN .u64 w A n cap gs) :
    Calls Tryz.prog 79 #[.slice A n cap] w (GivesV (sv (Lib.join (gs.map hexL) [58])) w) := by
  have hlen : n = gs.length := by simpa using hS.1
  have hJ := join_len [58] 4 (gs.map hexL) (fun l hl => by
    obtain ⟨g, _, rfl⟩ := List.mem_map.1 hl
    exact hexL_length g)
  rw [List.length_map] at hJ
  have hJ' : (Lib.join (gs.map hexL) [58]).length ≤ 100000 := by simp at hJ; omega
  clear hJ
  replace hlen := Lib.hid hlen
  obtain ⟨i0, hi0, hz0, hz1, hz2⟩ := info_parts info_str'
  go_enter Tryz.func79, Tryz.ntmps79
  go_wp2_with fail
  go_loopw [3, 8] (fun v i wr => ∃ k : Nat, k ≤ n ∧ i = .int .i64 k ∧ wr.ownsRow w.heap.size 9 1 v k ((gs.take k).map fun g => sv (hexL g)) ∧ Below w.heap.size w wr) (fun _ i _ => n - (intOf i).toNat)
  case atStart => exact ⟨0, Nat.zero_le _, rfl, World.ownsRow_nil _ _ _ _, Below.refl _ _⟩
  case round =>
    obtain ⟨k, hk, rfl, hown, hbw⟩ := hrel
    by_cases hlt : k < n
    · obtain ⟨g, hgk⟩ : ∃ g, gs[k]? = some g := ⟨gs[k]'(by rw [← hlen.out]; omega), List.getElem?_eq_getElem _⟩
      have hg16 := hg g (List.mem_of_getElem? hgk)
      obtain ⟨b, off, rfl, hb, hc⟩ : ∃ b off, A = some ⟨b, off, none⟩ ∧ b < w.heap.size ∧ ∀ j u, (gs.map fun (g : Nat) => Value.int .u64 (g : Int))[j]? = some u → w.cell? ⟨b, off + j, none⟩ = some u := by
        rcases hS.2.2 with h | h
        · omega
        · exact h
      have hcell : wr.cell? ⟨b, off + k, none⟩ = some (.int .u64 (g : Int)) := by
        rw [hbw.cell (by exact hb)]; exact hc k _ (by rw [List.getElem?_map, hgk]; rfl)
      have HF := Lib.hid (fmtU16 g hg16 wr (htab.below hbw))
      have HT := Lib.hid (take_next hgk)
      have hsz := hbw.size
      have hlt' : (k : Int) < (n : Int) := by omega
      clear hc hgk hg htab
      go_wp2_with fail
      refine HF.out.mono ?_
      rintro e w1 ⟨rfl, hb1⟩
      have hown1 := own_below hown hb1
      have hs1 := hb1.size
      have hbw1 := hbw.trans (hb1.mono hsz)
      clear hb1 hcell
      go_wp2_with (at_builtin; refine wpList_append_own _ rfl _ _ 81 rfl w.heap.size 9 i0 (.string ⟨#[]⟩) 1 16 Tryz.underlying81 hi0 hz0 hz1 hz2 rfl (by decide) _ _ _ rfl (hown1.alloc _) ⟨w1.heap.size, 0, none⟩ 1 1 [sv (hexL g)] rfl rfl ?c1 ?c2 ?c3 ?c4 ?c5 ?_)
      case c1 => exact cell_one_new _ _ _
      case c2 => simp; rfl
      case c3 => unfold maxLen; omega
      case c4 => omega
      case c5 => simp; omega
      intro v2 w2 hown2 hg2 _
      have hbw2 : Below w.heap.size w w2 := (hbw1.alloc hbw1.size _).grown hg2 (by simp; omega) (fun k h => (hown1.lt k h).1)
      clear hg2 hown hown1 hbw hbw1 HF
      go_wp2_with fail
      go_roundw
      case rel => exact ⟨k + 1, by omega, by go_num, by rw [← List.map_take] at hown2; rw [HT.out, List.map_append]; exact hown2, hbw2⟩
      case measure => simp [intOf]; omega
    · obtain rfl : k = n := by omega
      obtain ⟨A', cap', rfl, hS'⟩ := Sl.of_own hown
      rw [List.take_of_length_le (by rw [← hlen.out]; omega)] at hS'
      have HJ := Lib.hid (join_any A' k cap' (gs.map hexL) [58] wr (by rw [List.map_map]; exact hS') (by omega) hJ')
      clear hown hS' hS htab
      go_wp2_with fail
      refine HJ.out.mono ?_
      rintro e w1 ⟨rfl, hb1⟩
      go_wp2_with fail
      go_ret
      exact ⟨rfl, hbw.trans (hb1.mono hbw.size)⟩

structure Cons (w : World) : Prop where
  tabs : Tabs w
  maxl : ∃ m, w.cell? ⟨1, 0, none⟩ = some (.int .i64 m)
  esyn : ∃ tp p, w.var? Tryz.prog "strconv.ErrSyntax" = some #[.iface tp p]
  eran : ∃ tp p, w.var? Tryz.prog "strconv.ErrRange" = some #[.iface tp p]

theorem Cons.upto {w w' : World} (h : Cons w) (hb : ∀ j, j < 9 → w'.heap[j]? = w.heap[j]?) (hs : w.heap.size ≤ w'.heap.size) : Cons w' := by
  have g1 : Tryz.prog.globalNamed "strconv.ErrSyntax" = some 7 := by kernel_rfl
  have g2 : Tryz.prog.globalNamed "strconv.ErrRange" = some 8 := by kernel_rfl
  obtain ⟨m, hm⟩ := h.maxl
  obtain ⟨t1, p1, h1⟩ := h.esyn
  obtain ⟨t2, p2, h2⟩ := h.eran
  exact ⟨h.tabs.upto hb hs, ⟨m, by rw [World.cell?_of_block (w := w) (hb _ (by simp))]; exact hm⟩, ⟨t1, p1, by rw [var_block g1 (hb _ (by omega))]; exact h1⟩, ⟨t2, p2, by rw [var_block g2 (hb _ (by omega))]; exact h2⟩⟩
theorem Cons.below {w w' : World} (h : Cons w) (k : Below w.heap.size w w') : Cons w' :=
  have := h.tabs.2.2
  h.upto (fun j hj => k.block j (by omega)) k.size
theorem Cons.grown {w w' : World} {b : Nat} (h : Cons w) (k : w.grownBy w' (some b)) (hb : 9 ≤ b) : Cons w' :=
  have := h.tabs.2.2
  h.upto (fun j hj => k.block j (by omega) (by intro e; cases e; omega)) k.size
theorem Cons.alloc {w : World} (h : Cons w) (o : Obj) : Cons (w.alloc o) := h.below (.alloc (.refl _ _) (Nat.le_refl _) _)
theorem Cons.setCell {w : World} (h : Cons w) {p : Addr} (hp : 9 ≤ p.block) (v : Value) : Cons (w.setCell p v) :=
  h.upto (fun j hj => Below.heap_setCell _ _ _ _ (by omega)) (by simp [World.setCell])
end Go.Proofs.YtfbggfpihiegpaaGreatDoor
