/- Counts: their text. -/
import Derived.Test.YtmgdkefoehlamaaGreatDoorKoSwC
import Derived.Test.YtmgdkefoehlamaaGreatDoorKoShelf
set_option linter.unusedVariables false
set_option linter.unusedSimpArgs false
set_option maxRecDepth 100000
namespace Go.Proofs.YtmgdkefoehlamaaGreatDoor
open Go.RowKit

def eBy : Enc Nat := ⟨fun b => [.int .u8 (b : Int)], 1, by decide, fun _ => rfl, fun x v hv => by rw [List.mem_singleton.1 hv]; rfl⟩
theorem infoBy : (Tryz.prog.info? 5).map (fun i => (i.zero, i.size, i.bytes)) = some (some (.int .u8 0), 1, 1) := by kernel_rfl
theorem tyeBy : Ty eBy 5 85 (.int .u8 0) 1 := ⟨Tryz.underlying85, infoBy, rfl, by decide⟩
def decR (C : Nat) : List Nat := if h : C < 10 then [C] else C % 10 :: decR (C / 10)
termination_by C
decreasing_by omega
theorem decR_small {C : Nat} (h : C < 10) : decR C = [C] := by rw [decR, dif_pos h]
theorem decR_big {C : Nat} (h : ¬ C < 10) : decR C = C % 10 :: decR (C / 10) := by rw [decR, dif_neg h]
def DgI (C X : Nat) (ds : List Nat) : Prop := decR C = ds ++ (if ds = [] ∨ X ≠ 0 then decR X else []) ∧ X * 10 ^ ds.length ≤ C
theorem DgI.start (C : Nat) : DgI C C [] := ⟨by simp, by simp⟩
theorem DgI.step {C X : Nat} {ds : List Nat} (h : DgI C X ds) (hc : ds = [] ∨ X ≠ 0) : DgI C (X / 10) (ds ++ [X % 10]) := by
  obtain ⟨h1, h2⟩ := h
  rw [if_pos hc] at h1
  refine ⟨?_, ?_⟩
  · rw [h1, List.append_assoc]
    congr 1
    by_cases hx : X < 10
    · rw [decR_small hx, if_neg (by
        rintro (e | e)
        · simp at e
        · omega), Nat.mod_eq_of_lt hx]
      rfl
    · rw [decR_big hx, if_pos (.inr (by omega))]
      rfl
  · rw [List.length_append, List.length_singleton, Nat.pow_succ]
    refine Nat.le_trans ?_ h2
    rw [Nat.mul_comm (10 ^ ds.length) 10, ← Nat.mul_assoc]
    exact Nat.mul_le_mul_right _ (by omega)
theorem DgI.done {C X : Nat} {ds : List Nat} (h : DgI C X ds) (hc : ¬ (ds = [] ∨ X ≠ 0)) : decR C = ds := by
  have := h.1
  rwa [if_neg hc, List.append_nil] at this
theorem DgI.len {C X : Nat} {ds : List Nat} (h : DgI C X ds) (hC : C < 2 ^ 192) (hX : X ≠ 0) : ds.length < 58 := by
  rcases Nat.lt_or_ge ds.length 58 with k | k
  · exact k
  · exfalso
    have h1 := Nat.pow_le_pow_right (show 0 < 10 by decide) k
    have h2 : 1 * 10 ^ ds.length ≤ X * 10 ^ ds.length := Nat.mul_le_mul_right _ (by omega)
    have h3 : (2 : Nat) ^ 192 < 10 ^ 58 := by decide
    have := h.2
    omega
theorem dig_three {q2 q1 q0 : Nat} (t1 : q1 < 2 ^ 64) (t0 : q0 < 2 ^ 64) : (q2 * 2 ^ 128 + q1 * 2 ^ 64 + q0) % 2 ^ 64 = q0 ∧ (q2 * 2 ^ 128 + q1 * 2 ^ 64 + q0) / 2 ^ 64 % 2 ^ 64 = q1 ∧ (q2 * 2 ^ 128 + q1 * 2 ^ 64 + q0) / 2 ^ 128 = q2 := by
  have e : (q2 * 2 ^ 128 + q1 * 2 ^ 64 + q0) / 2 ^ 64 = q2 * 2 ^ 64 + q1 := by omega
  exact ⟨by omega, by rw [e]; omega, by omega⟩
theorem cnt_div (X : Nat) (hX : X < 2 ^ 192) : ∃ x0 x1 x2 q0 q1 q2 r1 r2 r0 : Int, cntC X = [.int .u64 x0, .int .u64 x1, .int .u64 x2] ∧ cntC (X / 10) = [.int .u64 q0, .int .u64 q1, .int .u64 q2] ∧
    (0 * 18446744073709551616 + x2) / 10 = q2 ∧ (0 * 18446744073709551616 + x2) % 10 = r2 ∧ (r2 * 18446744073709551616 + x1) / 10 = q1 ∧ (r2 * 18446744073709551616 + x1) % 10 = r1 ∧ (r1 * 18446744073709551616 + x0) / 10 = q0 ∧ (r1 * 18446744073709551616 + x0) % 10 = r0 ∧
    r0 = ((X % 10 : Nat) : Int) ∧ (0 ≤ r1 ∧ r1 < 10) ∧ (0 ≤ r2 ∧ r2 < 10) ∧ (0 ≤ x0 ∧ x0 < 18446744073709551616) ∧ (0 ≤ x1 ∧ x1 < 18446744073709551616) ∧ (0 ≤ x2 ∧ x2 < 18446744073709551616) := by
  obtain ⟨x0, e0⟩ : ∃ x, x = X % 2 ^ 64 := ⟨_, rfl⟩
  obtain ⟨x1, e1⟩ : ∃ x, x = X / 2 ^ 64 % 2 ^ 64 := ⟨_, rfl⟩
  obtain ⟨x2, e2⟩ : ∃ x, x = X / 2 ^ 128 := ⟨_, rfl⟩
  have hX0 : X = x2 * 2 ^ 128 + x1 * 2 ^ 64 + x0 := by omega
  have b0 : x0 < 2 ^ 64 := by omega
  have b1 : x1 < 2 ^ 64 := by omega
  have b2 : x2 < 2 ^ 64 := by omega
  obtain ⟨q2, f2⟩ : ∃ q, q = x2 / 10 := ⟨_, rfl⟩
  obtain ⟨r2, g2⟩ : ∃ q, q = x2 % 10 := ⟨_, rfl⟩
  obtain ⟨q1, f1⟩ : ∃ q, q = (r2 * 2 ^ 64 + x1) / 10 := ⟨_, rfl⟩
  obtain ⟨r1, g1⟩ : ∃ q, q = (r2 * 2 ^ 64 + x1) % 10 := ⟨_, rfl⟩
  obtain ⟨q0, f0⟩ : ∃ q, q = (r1 * 2 ^ 64 + x0) / 10 := ⟨_, rfl⟩
  obtain ⟨r0, g0⟩ : ∃ q, q = (r1 * 2 ^ 64 + x0) % 10 := ⟨_, rfl⟩
  have d2 : x2 = 10 * q2 + r2 := by rw [f2, g2]; exact (Nat.div_add_mod _ _).symm
  have d1 : r2 * 2 ^ 64 + x1 = 10 * q1 + r1 := by rw [f1, g1]; exact (Nat.div_add_mod _ _).symm
  have d0 : r1 * 2 ^ 64 + x0 = 10 * q0 + r0 := by rw [f0, g0]; exact (Nat.div_add_mod _ _).symm
  have s2 : r2 < 10 := by rw [g2]; exact Nat.mod_lt _ (by decide)
  have s1 : r1 < 10 := by rw [g1]; exact Nat.mod_lt _ (by decide)
  have s0 : r0 < 10 := by rw [g0]; exact Nat.mod_lt _ (by decide)
  clear f0 f1 f2 g0 g1 g2
  have t1 : q1 < 2 ^ 64 := by omega
  have t0 : q0 < 2 ^ 64 := by omega
  have hY : X = 10 * (q2 * 2 ^ 128 + q1 * 2 ^ 64 + q0) + r0 := by omega
  have hY1 : X / 10 = q2 * 2 ^ 128 + q1 * 2 ^ 64 + q0 := by omega
  have hY2 : X % 10 = r0 := by omega
  obtain ⟨h1, h2, h3⟩ := dig_three (q2 := q2) t1 t0
  rw [← hY1] at h1 h2 h3
  refine ⟨x0, x1, x2, q0, q1, q2, r1, r2, r0, ?_, ?_, ?_, ?_, ?_, ?_, ?_, ?_, by rw [hY2], ?_, ?_, ?_, ?_, ?_⟩
  · unfold cntC; rw [← e0, ← e1, ← e2]
  · unfold cntC; rw [h1, h2, h3]
  all_goals (clear h1 h2 h3 hY hY1 hX0 hX e0 e1 e2 hY2; omega)

def eqC (A B : Nat) : Bool := A % 2 ^ 64 == B % 2 ^ 64 && (A / 2 ^ 64 % 2 ^ 64 == B / 2 ^ 64 % 2 ^ 64 && A / 2 ^ 128 == B / 2 ^ 128)
set_option maxHeartbeats 1000000 in
theorem cnt_equalN (A B : Nat) (w : World) : (Op.equalIn 10000 125 (.agg (cntC A).toArray) (.agg (cntC B).toArray)).run Tryz.prog w = .ok (eqC A B) w := by
  have u3 := Tryz.underlying36
  have a3 := Tryz.isAgg36
  have z3 := Tryz.sizeOf36
  have ei : ∀ a b : Nat, ((a : Int) = (b : Int)) = (a = b) := fun a b => propext Int.ofNat_inj
  unfold cntC
  rw [show (10000 : Nat) = 9999 + 1 from rfl, Op.equalIn]
  simp only [Sem.run_bind, run_underlying Tryz.underlying125, Result.andThen_ok]
  simp only [Std.Legacy.Range.forIn_eq_forIn_range', Std.Legacy.Range.size, Nat.sub_zero, Nat.add_sub_cancel, Nat.div_one, List.range'_succ, List.range'_zero, List.forIn_cons, List.forIn_nil]
  go_simp
  unfold eqC
  (repeat' split) <;> simp_all <;> omega
def neqCt (x y : Operand) (a b : Value) : Sem Next := do
  let v ← (do eqGuard .neq 125 x y a b; binOp .neq 125 a b)
  pure (.value v)
@[go_sem ↓ high] theorem execOp_neqC (ρ : Operand → Value) (dst : Option Tmp) (x y : Operand) (r ty : TypeId) (pos : String) (after : Array Edge) (guard : Option (Nat × Bool)) :
    execOp ρ ⟨dst, .binOp .neq 125 x y r, ty, pos, after, guard⟩ = neqCt x y (ρ x) (ρ y) := rfl
@[go_sem high] theorem execOp_neqC' (ρ : Operand → Value) (dst : Option Tmp) (x y : Operand) (r ty : TypeId) (pos : String) (after : Array Edge) (guard : Option (Nat × Bool)) :
    execOp ρ ⟨dst, .binOp .neq 125 x y r, ty, pos, after, guard⟩ = neqCt x y (ρ x) (ρ y) := rfl
theorem run_neqC (x y : Operand) (A B : Nat) (w : World) : (neqCt x y (.agg (cntC A).toArray) (.agg (cntC B).toArray)).run Tryz.prog w = .ok (.value (.bool (!eqC A B))) w := by
  have := cnt_equalN A B w
  unfold neqCt
  go_simp
theorem eqC_zero {X : Nat} (hX : X < 2 ^ 192) : eqC X 0 = decide (X = 0) := by
  unfold eqC
  rw [Bool.eq_iff_iff]
  simp only [Bool.and_eq_true, beq_iff_eq, decide_eq_true_eq]
  omega

theorem own_turned {w : World} {B g n cap m : Nat} {ys zs : List Nat} (h : OwnE eBy 5 B w (.slice (some ⟨g, 0, none⟩) n cap) ys) (hd : zs.length = ys.length) :
    OwnE eBy 5 B (Sort.putRow (fun b : Nat => Value.int .u8 (b : Int)) (Sort.ahead w m) g 0 zs.toArray) (.slice (some ⟨g, 0, none⟩) n cap) zs := by
  obtain ⟨h1, h2⟩ := h
  have hcl : (eBy.cells zs).length = ys.length * eBy.k := by rw [eBy.cells_len, hd]
  have e1 : eBy.k = 1 := rfl
  refine ⟨by rw [hcl, hd], ?_⟩
  rcases h2 with ⟨hv, _⟩ | ⟨g', cap', cur, hv, hB, hh, hn, hc, hsz, htake⟩
  · cases hv
  · cases hv
    have hg : g < w.heap.size := (Array.getElem?_eq_some_iff.1 hh).1
    refine .inr ⟨g, cap, Sort.putCells (fun b : Nat => Value.int .u8 (b : Int)) 0 zs.toArray cur, by rw [hd], hB, ?_, by rw [hd]; exact hn, hc, ?_, ?_⟩
    · unfold Sort.putRow Sort.mapBlock Sort.ahead
      show (w.heap.modify g _)[g]? = _
      rw [Array.getElem?_modify, if_pos rfl, hh]
      rfl
    · unfold Sort.putCells; rw [Array.size_mapIdx]; exact hsz
    · have hle : ys.length ≤ cur.size := by rw [hsz, e1, Nat.mul_one]; exact hn
      have hcl1 : (eBy.cells zs).length = zs.length := by rw [eBy.cells_len, e1, Nat.mul_one]
      apply List.ext_getElem
      · have e3 : (Sort.putCells (fun b : Nat => Value.int .u8 (b : Int)) 0 zs.toArray cur).toList.length = cur.size := by unfold Sort.putCells; simp
        rw [List.length_take, e3, hcl, e1, hd]
        omega
      · intro j j1 j2
        rw [hcl1] at j2
        rw [List.getElem_take, Array.getElem_toList]
        unfold Sort.putCells
        rw [Array.getElem_mapIdx, if_pos ⟨Nat.zero_le _, by simpa using j2⟩, Nat.sub_zero]
        have k3 := eBy.cells_get zs j zs[j] (List.getElem?_eq_getElem j2) 0 (.int .u8 (zs[j] : Int)) rfl
        have e : (eBy.cells zs)[j]'(by rw [hcl1]; exact j2) = .int .u8 (zs[j] : Int) := by
          have := (List.getElem?_eq_some_iff.1 k3).2
          simpa [e1] using this
        rw [e]
        show Value.int .u8 ((zs.toArray[j]! : Nat) : Int) = _
        rw [getElem!_pos zs.toArray j (by simpa using j2)]
        simp
theorem turned_grown (w : World) (g m : Nat) (zs : List Nat) : w.grownBy (Sort.putRow (fun b : Nat => Value.int .u8 (b : Int)) (Sort.ahead w m) g 0 zs.toArray) (some g) := by
  refine ⟨rfl, rfl, rfl, ?_, fun j hj hr => ?_⟩
  · show w.heap.size ≤ (w.heap.modify g _).size
    rw [Array.size_modify]; exact Nat.le_refl _
  · show (w.heap.modify g _)[j]? = _
    rw [Array.getElem?_modify, if_neg (fun e => hr (by rw [e]))]
theorem rev_any (B g cap : Nat) (xs : List Nat) (w : World) (hown : OwnE eBy 5 B w (.slice (some ⟨g, 0, none⟩) xs.length cap) xs) (hx : xs ≠ []) (hl : xs.length ≤ 1000000) :
    Calls Tryz.prog 42 #[.slice (some ⟨g, 0, none⟩) xs.length cap] w fun e w' => e = .returned (.tuple #[]) ∧ OwnE eBy 5 B w' (.slice (some ⟨g, 0, none⟩) xs.length cap) xs.reverse ∧ w.grownBy w' (some g) := by
  obtain ⟨g', cap', hv, _, _, _, hc, hf⟩ := hown.form hx
  cases hv
  have hH : Sort.Holds (fun b : Nat => Value.int .u8 (b : Int)) w g 0 xs.toArray := by
    intro j hj
    have hj' : j < xs.length := by simpa using hj
    have := hc j xs[j] (List.getElem?_eq_getElem hj') 0 (.int .u8 (xs[j] : Int)) rfl
    refine ⟨?_, hf _⟩
    rw [getElem!_pos xs.toArray j hj, Nat.zero_add]
    simpa [show eBy.k = 1 from rfl] using this
  have hcon := AnyE.slices_Reverse Tryz.revBytes (fun b : Nat => Value.int .u8 (b : Int)) (fun _ => rfl) g 0 cap xs w hH (by omega)
  change Calls Tryz.prog 42 _ _ _ at hcon
  refine hcon.mono ?_
  rintro e w' ⟨rfl, m, rfl⟩
  exact ⟨rfl, own_turned hown (by simp), turned_grown w g m _⟩

theorem div_is (h l q r : Int) (w : World) (h0 : 0 ≤ h) (h1 : h < 10) (l0 : 0 ≤ l) (l1 : l < 18446744073709551616) (e1 : (h * 18446744073709551616 + l) / 10 = q) (e2 : (h * 18446744073709551616 + l) % 10 = r) :
    Calls Tryz.prog 144 #[.int .u64 h, .int .u64 l, .int .u64 10] w fun e w' => e = .returned (.tuple #[.int .u64 q, .int .u64 r]) ∧ Below w.heap.size w w' := by
  have := div10_any h l w h0 h1 l0 l1
  rwa [e1, e2] at this
def txt (bs : List Nat) : ByteArray := ⟨(bs.map UInt8.ofNat).toArray⟩
theorem conv_eBy {B g n cap : Nat} {bs : List Nat} {w : World} (h : OwnE eBy 5 B w (.slice (some ⟨g, 0, none⟩) n cap) bs) (hn : n = bs.length) (hb : ∀ b ∈ bs, b < 256) :
    (convert 85 9 (.slice (some ⟨g, 0, none⟩) n cap)).run Tryz.prog w = .ok (.string (txt bs)) w := by
  subst hn
  have h0 := run_convert_bytes_back (P := Tryz.prog) w 85 9 5 ⟨g, 0, none⟩ cap (bs.map UInt8.ofNat) Tryz.underlying85 (by kernel_rfl) (by kernel_rfl) (fun j hj => by
    have hj' : j < bs.length := by simpa using hj
    have h1 := World.ownsRow.cells h (g := g) rfl j (.int .u8 ((bs[j] : Nat) : Int)) (by
      have := eBy.cells_get bs j bs[j] (List.getElem?_eq_getElem hj') 0 (.int .u8 ((bs[j] : Nat) : Int)) rfl
      simpa [show eBy.k = 1 from rfl] using this)
    rw [h1, List.getElem_map]
    congr 3
    show bs[j] = (UInt8.ofNat bs[j]).toNat
    rw [UInt8.toNat_ofNat']
    exact (Nat.mod_eq_of_lt (hb _ (List.getElem_mem hj'))).symm)
  rwa [List.length_map] at h0
theorem decR_lt : ∀ (C : Nat), ∀ d ∈ decR C, d < 10 := by
  intro C
  induction C using Nat.strongRecOn with
  | ind C ih =>
    intro d hd
    by_cases h : C < 10
    · rw [decR_small h] at hd; rw [List.mem_singleton.1 hd]; exact h
    · rw [decR_big h] at hd
      rcases List.mem_cons.1 hd with e | e
      · omega
      · exact ih (C / 10) (by omega) d e
def decS (C : Nat) : ByteArray := txt ((decR C).reverse.map (48 + ·))
theorem own_setC {B g : Nat} {w : World} {v : Value} {xs : List Nat} (h : OwnE eBy 5 B w v xs) (hg : g < B) (i : Nat) (u : Value) : OwnE eBy 5 B (w.setCell ⟨g, i, none⟩ u) v xs := by
  refine h.gb (r := some g) ⟨rfl, rfl, rfl, ?_, fun j hj hr => ?_⟩ ?_
  · show w.heap.size ≤ (w.heap.modify g _).size
    rw [Array.size_modify]; exact Nat.le_refl _
  · show (w.heap.modify g _)[j]? = _
    rw [Array.getElem?_modify, if_neg (fun e => hr (by rw [e]))]
  · cases hv : v.ownBlock with
    | none => exact .inl rfl
    | some k => exact .inr (by intro e; cases e; have := (h.lt _ hv).1; omega)

def valR : List Nat → Nat
  | [] => 0
  | d :: r => d + 10 * valR r
theorem valR_snoc : ∀ (ds : List Nat) (d : Nat), valR (ds ++ [d]) = valR ds + d * 10 ^ ds.length
  | [], d => by simp [valR]
  | e :: r, d => by
    rw [List.cons_append, valR, valR, valR_snoc r d, List.length_cons, Nat.pow_succ, Nat.mul_add, ← Nat.add_assoc]
    congr 1
    rw [Nat.mul_comm (10 ^ r.length) 10, ← Nat.mul_assoc, ← Nat.mul_assoc, Nat.mul_comm 10 d]
theorem valR_zeros : ∀ (ds : List Nat) (k : Nat), valR (ds ++ List.replicate k 0) = valR ds
  | [], 0 => rfl
  | [], k + 1 => by
    have h := valR_zeros [] k
    rw [List.nil_append] at h ⊢
    rw [List.replicate_succ]
    show 0 + 10 * valR (List.replicate k 0) = 0
    rw [h]
    rfl
  | e :: r, k => by rw [List.cons_append, valR, valR, valR_zeros r k]
theorem valR_decR (C : Nat) : valR (decR C) = C := by
  induction C using Nat.strongRecOn with
  | ind C ih =>
    by_cases h : C < 10
    · rw [decR_small h]; simp [valR]
    · rw [decR_big h, valR, ih (C / 10) (by omega)]; omega
theorem decR_ne (C : Nat) : decR C ≠ [] := by
  by_cases h : C < 10
  · rw [decR_small h]; simp
  · rw [decR_big h]; simp
def Canon (ds : List Nat) : Prop := ds ≠ [] ∧ (∀ d ∈ ds, d < 10) ∧ (ds.length = 1 ∨ ds.getLast? ≠ some 0)
theorem valR_pos : ∀ {ds : List Nat}, ds ≠ [] → ds.getLast? ≠ some 0 → 0 < valR ds
  | [], h, _ => absurd rfl h
  | [d], _, h => by
    rw [valR, valR]
    rcases Nat.eq_zero_or_pos d with e | e
    · subst e; exact absurd rfl h
    · omega
  | d :: e :: r, _, h => by
    have := valR_pos (ds := e :: r) (by simp) (by rwa [List.getLast?_cons_cons] at h)
    rw [valR]
    omega
theorem Canon.dec : ∀ {ds : List Nat}, Canon ds → decR (valR ds) = ds
  | [], h => absurd rfl h.1
  | [d], h => by
    have := h.2.1 d (by simp)
    have e : valR [d] = d := by simp [valR]
    rw [e]
    exact decR_small this
  | d :: e :: r, h => by
    obtain ⟨h1, h2, h3⟩ := h
    have hl : (d :: e :: r).getLast? ≠ some 0 := by
      rcases h3 with k | k
      · simp at k
      · exact k
    rw [List.getLast?_cons_cons] at hl
    have hp := valR_pos (ds := e :: r) (by simp) hl
    have hd := h2 d (by simp)
    have ih := Canon.dec (ds := e :: r) ⟨by simp, fun x hx => h2 x (List.mem_cons_of_mem _ hx), .inr hl⟩
    have ev : valR (d :: e :: r) = d + 10 * valR (e :: r) := rfl
    rw [ev]
    generalize valR (e :: r) = V at *
    rw [decR_big (by omega), show (d + 10 * V) % 10 = d by omega, show (d + 10 * V) / 10 = V by omega, ih]
theorem decR_canon (C : Nat) : Canon (decR C) := by
  refine ⟨decR_ne C, decR_lt C, ?_⟩
  induction C using Nat.strongRecOn with
  | ind C ih =>
    by_cases h : C < 10
    · rw [decR_small h]; exact .inl rfl
    · right
      rw [decR_big h]
      obtain ⟨x, r, e⟩ := List.exists_cons_of_ne_nil (decR_ne (C / 10))
      rw [e, List.getLast?_cons_cons, ← e]
      rcases ih (C / 10) (by omega) with k | k
      · by_cases h2 : C / 10 < 10
        · rw [decR_small h2]
          intro q
          have : C / 10 = 0 := by simpa using q
          omega
        · rw [decR_big h2] at k
          exfalso
          have := decR_ne (C / 10 / 10)
          rw [List.length_cons] at k
          exact this (List.eq_nil_of_length_eq_zero (by omega))
      · exact k
def AdI (A B : List Nat) (j : Nat) (out : List Nat) (c : Nat) : Prop :=
  out.length = j ∧ valR out + c * 10 ^ j = valR (A.take j) + valR (B.take j) ∧ (∀ d ∈ out, d < 10) ∧ c ≤ 1 ∧ (c = 0 → ∀ o a, out.getLast? = some o → A[j - 1]? = some a → a ≤ o)
theorem AdI.start (A B : List Nat) : AdI A B 0 [] 0 := ⟨rfl, rfl, (fun _ h => by cases h), by decide, fun _ _ _ h => by cases h⟩
theorem AdI.step {A B out : List Nat} {j c a b : Nat} (h : AdI A B j out c) (ha : A[j]? = some a) (hb : B[j]? = some b) (ha' : a < 10) (hb' : b < 10) : AdI A B (j + 1) (out ++ [(a + b + c) % 10]) ((a + b + c) / 10) := by
  obtain ⟨h1, h2, h3, h4, h5⟩ := h
  have hla : (A.take j).length = j := by rw [List.length_take]; have := (List.getElem?_eq_some_iff.1 ha).1; omega
  have hlb : (B.take j).length = j := by rw [List.length_take]; have := (List.getElem?_eq_some_iff.1 hb).1; omega
  refine ⟨by rw [List.length_append, h1]; rfl, ?_, ?_, by omega, ?_⟩
  · rw [List.take_add_one, List.take_add_one, ha, hb, Option.toList_some, Option.toList_some, valR_snoc, valR_snoc, valR_snoc, hla, hlb, h1, Nat.pow_succ]
    generalize 10 ^ j = T at *
    have e : a + b + c = 10 * ((a + b + c) / 10) + (a + b + c) % 10 := (Nat.div_add_mod _ _).symm
    have e2 : (a + b + c) * T = (10 * ((a + b + c) / 10) + (a + b + c) % 10) * T := by rw [← e]
    generalize (a + b + c) / 10 = q at *
    generalize (a + b + c) % 10 = r at *
    simp only [Nat.add_mul] at e2
    have e3 : q * (T * 10) = 10 * q * T := by rw [Nat.mul_comm T 10, ← Nat.mul_assoc, Nat.mul_comm q 10]
    omega
  · intro d hd
    rcases List.mem_append.1 hd with k | k
    · exact h3 d k
    · rw [List.mem_singleton.1 k]; exact Nat.mod_lt _ (by decide)
  · intro hc o x ho hx
    rw [List.getLast?_append, List.getLast?_singleton] at ho
    rw [Nat.add_sub_cancel, ha] at hx
    cases hx
    have : (a + b + c) % 10 = o := by simpa using ho
    omega
theorem AdI.done {x y : Nat} {B out : List Nat} {c : Nat} (h : AdI (decR x) B (decR x).length out c) (hB : B = decR y ++ List.replicate ((decR x).length - (decR y).length) 0) (hl : (decR y).length ≤ (decR x).length) :
    decR (x + y) = if c = 0 then out else out ++ [1] := by
  obtain ⟨h1, h2, h3, h4, h5⟩ := h
  have hBl : B.length = (decR x).length := by rw [hB, List.length_append, List.length_replicate]; omega
  rw [List.take_length, List.take_of_length_le (by omega), valR_decR, hB, valR_zeros, valR_decR] at h2
  have hne : out ≠ [] := by
    intro e
    rw [e] at h1
    exact decR_ne x (List.eq_nil_of_length_eq_zero h1.symm)
  by_cases hc : c = 0
  · rw [if_pos hc, ← h2, hc, Nat.zero_mul, Nat.add_zero]
    refine Canon.dec ⟨hne, h3, ?_⟩
    rcases (decR_canon x).2.2 with k | k
    · left; omega
    · right
      intro e
      have hx : (decR x)[(decR x).length - 1]? = (decR x).getLast? := List.getLast?_eq_getElem?.symm
      obtain ⟨a, ha⟩ : ∃ a, (decR x).getLast? = some a := ⟨_, List.getLast?_eq_some_getLast (decR_ne x)⟩
      have := h5 hc 0 a e (hx.trans ha)
      apply k
      rw [ha, show a = 0 by omega]
  · have hc1 : c = 1 := by omega
    rw [if_neg hc, ← h2, hc1, ← h1, ← valR_snoc]
    refine Canon.dec ⟨by simp, ?_, .inr (by simp)⟩
    intro d hd
    rcases List.mem_append.1 hd with k | k
    · exact h3 d k
    · rw [List.mem_singleton.1 k]; decide

section
variable (ρ : Operand → Value) (dst : Option Tmp) (x : Operand) (ty : TypeId) (pos : String) (after : Array Edge) (guard : Option (Nat × Bool))
@[go_sem ↓ high] theorem execOp_ldC : execOp ρ ⟨dst, .load 125 x, ty, pos, after, guard⟩ = ldT 125 (ρ x) := rfl
@[go_sem high] theorem execOp_ldC' : execOp ρ ⟨dst, .load 125 x, ty, pos, after, guard⟩ = ldT 125 (ρ x) := rfl
def bdC : Sem Next := do
  let v ← Instr.build 125 #[]
  pure (.value v)
@[go_sem ↓ high] theorem execOp_bdC : execOp ρ ⟨dst, .build 125 #[], ty, pos, after, guard⟩ = bdC := by
  simp only [execOp, bdC, List.map_toArray, List.map_nil]
@[go_sem high] theorem execOp_bdC' : execOp ρ ⟨dst, .build 125 #[], ty, pos, after, guard⟩ = bdC := by
  simp only [execOp, bdC, List.map_toArray, List.map_nil]
end
@[go_sem] theorem run_bdC (w : World) : bdC.run Tryz.prog w = .ok (.value (.agg (cntC 0).toArray)) w := by
  kernel_rfl
attribute [local go_sem] run_neqC
set_option maxHeartbeats 4000000 in
theorem countText_any (C : Nat) (w : World) (hC : C < 2 ^ 192) :
    Calls Tryz.prog 74 #[.agg (cntC C).toArray] w fun e w' => e = .returned (.string (decS C)) ∧ Below w.heap.size w w' := by
  replace hC := Lib.hid hC
  have hown : OwnE eBy 5 (w.heap.size + 1) (w.alloc (.cells (cntC C).toArray 125)) (.slice none 0 0) [] := OwnE.nil _ _
  have hbk := Blk.new w (cntC C) 125
  have hbw : Below w.heap.size w (w.alloc (.cells (cntC C).toArray 125)) := (Below.refl _ _).alloc (Nat.le_refl _) _
  go_enter Tryz.func74, Tryz.ntmps74
  go_wp2_with fail
  go_loopw [3] (fun v wr => ∃ (X : Nat) (ds : List Nat), Hid (DgI C X ds ∧ X < 2 ^ 192 ∧ ds.length ≤ 58) ∧ OwnE eBy 5 (w.heap.size + 1) wr v (ds.map (48 + ·)) ∧ Blk wr w.heap.size (cntC X) 125 ∧ Below w.heap.size w wr) (fun v _ => 60 - slLen v)
  case atStart => exact ⟨C, [], Lib.hid ⟨DgI.start C, hC.out, Nat.zero_le _⟩, hown, hbk, hbw⟩
  case round =>
    clear hown hbk hbw
    obtain ⟨X, ds, hI, hown, hbk, hbw⟩ := hrel
    obtain ⟨A, cap, rfl, hS⟩ := hown.sl
    have hlen : (ds.map (48 + ·)).length = ds.length := List.length_map _
    rw [hlen] at hown hS ⊢
    by_cases hc : ds = [] ∨ X ≠ 0
    · obtain ⟨x0, x1, x2, q0, q1, q2, r1, r2, r0, eX, eQ, m1, m2, m3, m4, m5, m6, er, b1, b2, z0, z1, z2⟩ := cnt_div X hI.out.2.1
      have D2 := fun w' => Lib.hid (div_is 0 x2 q2 r2 w' (by omega) (by omega) z2.1 z2.2 m1 m2)
      have D1 := fun w' => Lib.hid (div_is r2 x1 q1 r1 w' b2.1 b2.2 z1.1 z1.2 m3 m4)
      have D0 := fun w' => Lib.hid (div_is r1 x0 q0 r0 w' b1.1 b1.2 z0.1 z0.2 m5 m6)
      clear m1 m2 m3 m4 m5 m6 b1 b2 z0 z1 z2
      obtain ⟨b, hb48⟩ : ∃ b : Nat, b = 48 + X % 10 := ⟨_, rfl⟩
      have u1 : IntKind.u64.wrap (48 + r0) = (b : Int) := by rw [IntKind.wrap_u64]; omega
      have u2 : IntKind.u8.wrap (b : Int) = b := by rw [IntKind.wrap_u8]; omega
      have hI2 := Lib.hid (hI.out.1.step hc)
      have hlt2 := Lib.hid (show X / 10 < 2 ^ 192 from Nat.lt_of_le_of_lt (Nat.div_le_self _ _) hI.out.2.1)
      have hlt58 := Lib.hid (show ds.length < 58 by
        rcases hc with e | e
        · rw [e]; decide
        · exact hI.out.1.len hC.out e)
      have hmap := Lib.hid (show (ds ++ [X % 10]).map (48 + ·) = ds.map (48 + ·) ++ [b] by rw [List.map_append, hb48]; rfl)
      have hq := Lib.hid (show X ≠ 0 → eqC X 0 = false by
        intro e
        rw [eqC_zero hI.out.2.1]
        exact decide_eq_false e)
      clear hI hS er
      replace hb48 := Lib.hid hb48
      have hld := hbk.ld rowCnt rfl
      rw [eX] at hbk
      replace eX := Lib.hid eX
      replace eQ := Lib.hid eQ
      obtain ⟨n, hn⟩ : ∃ n, n = ds.length := ⟨_, rfl⟩
      rw [← hn] at hown ⊢
      replace hn := Lib.hid hn
      rcases Nat.eq_zero_or_pos n with h0 | h0
      · subst h0
        clear hq hc
        go_wp2_with fail
        clear hld
        refine wp_loop_rounds 4 ?_
        rw [rounds_succ]
        have c2 : World.cell? wr ⟨w.heap.size, 2, none⟩ = some (.int .u64 x2) := hbk.cell (i := 2) rfl
        go_wp2_with fail
        refine (D2 _).out.mono ?_
        rintro e w2 ⟨rfl, hb⟩
        replace hbk := hbk.below hb
        replace hown := hown.below hb
        replace hbw := hbw.trans (hb.mono hbw.size)
        clear hb c2
        have c2 : World.cell? w2 ⟨w.heap.size, 2, none⟩ = some (.int .u64 x2) := hbk.cell (i := 2) rfl
        have f2 : World.frozen? w2 ⟨w.heap.size, 2, none⟩ = false := hbk.free 2
        replace hbk := hbk.set 2 (.int .u64 q2)
        replace hown := own_setC hown (Nat.lt_succ_self _) 2 (.int .u64 q2)
        replace hbw := hbw.setCell (p := ⟨w.heap.size, 2, none⟩) (Nat.le_refl _) (.int .u64 q2)
        go_wp2_with fail
        clear c2 f2
        generalize World.setCell w2 _ _ = v2 at *
        rw [rounds_succ]
        have c1 : World.cell? v2 ⟨w.heap.size, 1, none⟩ = some (.int .u64 x1) := hbk.cell (i := 1) rfl
        go_wp2_with fail
        refine (D1 _).out.mono ?_
        rintro e w1 ⟨rfl, hb⟩
        replace hbk := hbk.below hb
        replace hown := hown.below hb
        replace hbw := hbw.trans (hb.mono hbw.size)
        clear hb c1
        have c1 : World.cell? w1 ⟨w.heap.size, 1, none⟩ = some (.int .u64 x1) := hbk.cell (i := 1) rfl
        have f1 : World.frozen? w1 ⟨w.heap.size, 1, none⟩ = false := hbk.free 1
        replace hbk := hbk.set 1 (.int .u64 q1)
        replace hown := own_setC hown (Nat.lt_succ_self _) 1 (.int .u64 q1)
        replace hbw := hbw.setCell (p := ⟨w.heap.size, 1, none⟩) (Nat.le_refl _) (.int .u64 q1)
        go_wp2_with fail
        clear c1 f1
        generalize World.setCell w1 _ _ = v1 at *
        rw [rounds_succ]
        have c0 : World.cell? v1 ⟨w.heap.size, 0, none⟩ = some (.int .u64 x0) := hbk.cell (i := 0) rfl
        go_wp2_with fail
        refine (D0 _).out.mono ?_
        rintro e w0 ⟨rfl, hb⟩
        replace hbk := hbk.below hb
        replace hown := hown.below hb
        replace hbw := hbw.trans (hb.mono hbw.size)
        clear hb c0
        have c0 : World.cell? w0 ⟨w.heap.size, 0, none⟩ = some (.int .u64 x0) := hbk.cell (i := 0) rfl
        have f0 : World.frozen? w0 ⟨w.heap.size, 0, none⟩ = false := hbk.free 0
        replace hbk := hbk.set 0 (.int .u64 q0)
        replace hown := own_setC hown (Nat.lt_succ_self _) 0 (.int .u64 q0)
        replace hbw := hbw.setCell (p := ⟨w.heap.size, 0, none⟩) (Nat.le_refl _) (.int .u64 q0)
        go_wp2_with fail
        clear c0 f0
        generalize World.setCell w0 _ _ = v0 at *
        rw [rounds_succ]
        go_wp2_with (at_builtin; refine wpList_app tyeBy rfl _ _ rfl (w.heap.size + 1) _ _ [b] rfl (hown.alloc' _) ⟨_, 0, none⟩ 1 1 rfl rfl ?c1 ?c2 ?c3 ?_)
        case c1 => exact cell_row_at _ _ _ _ rfl
        case c2 => have := hlt58.out; simp; omega
        case c3 => have := hbk.lt; simp; omega
        intro v8 x8 hown8 hg8 _
        have hb8 : Below w.heap.size w x8 := (hbw.alloc hbw.size _).grown hg8 (by have := hbw.size; simp; omega) (fun k h => by have := (hown.lt k h).1; omega)
        have hbk8 : Blk x8 w.heap.size (cntC (X / 10)) 125 := by
          rw [eQ.out]
          exact (hg8.block _ (hbk.alloc _).lt (fun e => by have := (hown.lt _ e.symm).1; omega)).trans (hbk.alloc _)
        have hown9 : OwnE eBy 5 (w.heap.size + 1) x8 v8 ((ds ++ [X % 10]).map (48 + ·)) := by rw [hmap.out]; exact hown8
        obtain ⟨A8, cap8, rfl, _⟩ := hown9.sl
        have hl8 := Lib.hid (show ((ds ++ [X % 10]).map (48 + ·)).length = ds.length + 1 by simp)
        clear hown hbk hbw hown8 hg8
        go_wp2_with fail
        go_roundw
        case rel => exact ⟨X / 10, ds ++ [X % 10], Lib.hid ⟨hI2.out, hlt2.out, by rw [List.length_append]; exact hlt58.out⟩, hown9, hbk8, hb8⟩
        case measure =>
          have h1 := hn.out
          have h2 := hlt58.out
          have h3 := hl8.out
          simp only [slLen]
          omega

      · have hn0 : ¬ (n : Int) = 0 := by omega
        have hX0 : X ≠ 0 := by
          rcases hc with e | e
          · exfalso; have := hn.out; rw [e] at this; simp at this; omega
          · exact e
        have hq := hq.out hX0
        clear hc h0 hX0
        go_wp2_with fail
        clear hld
        refine wp_loop_rounds 4 ?_
        rw [rounds_succ]
        have c2 : World.cell? wr ⟨w.heap.size, 2, none⟩ = some (.int .u64 x2) := hbk.cell (i := 2) rfl
        go_wp2_with fail
        refine (D2 _).out.mono ?_
        rintro e w2 ⟨rfl, hb⟩
        replace hbk := hbk.below hb
        replace hown := hown.below hb
        replace hbw := hbw.trans (hb.mono hbw.size)
        clear hb c2
        have c2 : World.cell? w2 ⟨w.heap.size, 2, none⟩ = some (.int .u64 x2) := hbk.cell (i := 2) rfl
        have f2 : World.frozen? w2 ⟨w.heap.size, 2, none⟩ = false := hbk.free 2
        replace hbk := hbk.set 2 (.int .u64 q2)
        replace hown := own_setC hown (Nat.lt_succ_self _) 2 (.int .u64 q2)
        replace hbw := hbw.setCell (p := ⟨w.heap.size, 2, none⟩) (Nat.le_refl _) (.int .u64 q2)
        go_wp2_with fail
        clear c2 f2
        generalize World.setCell w2 _ _ = v2 at *
        rw [rounds_succ]
        have c1 : World.cell? v2 ⟨w.heap.size, 1, none⟩ = some (.int .u64 x1) := hbk.cell (i := 1) rfl
        go_wp2_with fail
        refine (D1 _).out.mono ?_
        rintro e w1 ⟨rfl, hb⟩
        replace hbk := hbk.below hb
        replace hown := hown.below hb
        replace hbw := hbw.trans (hb.mono hbw.size)
        clear hb c1
        have c1 : World.cell? w1 ⟨w.heap.size, 1, none⟩ = some (.int .u64 x1) := hbk.cell (i := 1) rfl
        have f1 : World.frozen? w1 ⟨w.heap.size, 1, none⟩ = false := hbk.free 1
        replace hbk := hbk.set 1 (.int .u64 q1)
        replace hown := own_setC hown (Nat.lt_succ_self _) 1 (.int .u64 q1)
        replace hbw := hbw.setCell (p := ⟨w.heap.size, 1, none⟩) (Nat.le_refl _) (.int .u64 q1)
        go_wp2_with fail
        clear c1 f1
        generalize World.setCell w1 _ _ = v1 at *
        rw [rounds_succ]
        have c0 : World.cell? v1 ⟨w.heap.size, 0, none⟩ = some (.int .u64 x0) := hbk.cell (i := 0) rfl
        go_wp2_with fail
        refine (D0 _).out.mono ?_
        rintro e w0 ⟨rfl, hb⟩
        replace hbk := hbk.below hb
        replace hown := hown.below hb
        replace hbw := hbw.trans (hb.mono hbw.size)
        clear hb c0
        have c0 : World.cell? w0 ⟨w.heap.size, 0, none⟩ = some (.int .u64 x0) := hbk.cell (i := 0) rfl
        have f0 : World.frozen? w0 ⟨w.heap.size, 0, none⟩ = false := hbk.free 0
        replace hbk := hbk.set 0 (.int .u64 q0)
        replace hown := own_setC hown (Nat.lt_succ_self _) 0 (.int .u64 q0)
        replace hbw := hbw.setCell (p := ⟨w.heap.size, 0, none⟩) (Nat.le_refl _) (.int .u64 q0)
        go_wp2_with fail
        clear c0 f0
        generalize World.setCell w0 _ _ = v0 at *
        rw [rounds_succ]
        go_wp2_with (at_builtin; refine wpList_app tyeBy rfl _ _ rfl (w.heap.size + 1) _ _ [b] rfl (hown.alloc' _) ⟨_, 0, none⟩ 1 1 rfl rfl ?c1 ?c2 ?c3 ?_)
        case c1 => exact cell_row_at _ _ _ _ rfl
        case c2 => have := hlt58.out; simp; omega
        case c3 => have := hbk.lt; simp; omega
        intro v8 x8 hown8 hg8 _
        have hb8 : Below w.heap.size w x8 := (hbw.alloc hbw.size _).grown hg8 (by have := hbw.size; simp; omega) (fun k h => by have := (hown.lt k h).1; omega)
        have hbk8 : Blk x8 w.heap.size (cntC (X / 10)) 125 := by
          rw [eQ.out]
          exact (hg8.block _ (hbk.alloc _).lt (fun e => by have := (hown.lt _ e.symm).1; omega)).trans (hbk.alloc _)
        have hown9 : OwnE eBy 5 (w.heap.size + 1) x8 v8 ((ds ++ [X % 10]).map (48 + ·)) := by rw [hmap.out]; exact hown8
        obtain ⟨A8, cap8, rfl, _⟩ := hown9.sl
        have hl8 := Lib.hid (show ((ds ++ [X % 10]).map (48 + ·)).length = ds.length + 1 by simp)
        clear hown hbk hbw hown8 hg8
        go_wp2_with fail
        go_roundw
        case rel => exact ⟨X / 10, ds ++ [X % 10], Lib.hid ⟨hI2.out, hlt2.out, by rw [List.length_append]; exact hlt58.out⟩, hown9, hbk8, hb8⟩
        case measure =>
          have h1 := hn.out
          have h2 := hlt58.out
          have h3 := hl8.out
          simp only [slLen]
          omega

    · obtain ⟨hd, hX⟩ : ds ≠ [] ∧ X = 0 := by
        refine ⟨fun e => hc (.inl e), ?_⟩
        rcases Nat.eq_zero_or_pos X with e | e
        · exact e
        · exact absurd (.inr (by omega)) hc
      have hdone := Lib.hid (hI.out.1.done hc)
      subst hX
      have hq : eqC 0 0 = true := by rw [eqC_zero (by decide)]; rfl
      obtain ⟨g, cap', hv, hgB, _⟩ := hown.form (by simpa using hd)
      rw [hlen] at hv
      cases hv
      have hlt58 := Lib.hid (show ds.length ≤ 1000000 from Nat.le_trans hI.out.2.2 (by decide))
      have HR := rev_any (w.heap.size + 1) g cap (ds.map (48 + ·)) wr (by rw [hlen]; exact hown) (by simpa using hd) (by rw [hlen]; exact hlt58.out)
      rw [hlen] at HR
      have hbyte : ∀ b ∈ (ds.map (48 + ·)).reverse, b < 256 := by
        intro b hb
        rw [List.mem_reverse] at hb
        obtain ⟨d, hd, rfl⟩ := List.mem_map.1 hb
        have := decR_lt C d (by rw [hdone.out]; exact hd)
        omega
      have hfin : txt (ds.map (48 + ·)).reverse = decS C := by unfold decS; rw [hdone.out, List.map_reverse]
      have hlr : ds.length = (ds.map (48 + ·)).reverse.length := by simp
      have hn0 : ¬ (ds.length : Int) = 0 := by
        have := List.length_pos_iff.2 hd
        omega
      have hld := hbk.ld rowCnt rfl
      replace hbyte := Lib.hid hbyte
      replace hlr := Lib.hid hlr
      replace hfin := Lib.hid hfin
      replace HR := Lib.hid HR
      clear hI hS hlen hc hd
      generalize ds.length = n at *
      go_wp2_with fail
      refine HR.out.mono ?_
      rintro e w1 ⟨rfl, hown1, hg1⟩
      have cv := conv_eBy hown1 hlr.out hbyte.out
      rw [hfin.out] at cv
      have hb1 : Below w.heap.size w w1 := hbw.grown hg1 hbw.size (fun k h => by cases h; omega)
      clear hown hbk hld HR hg1 hown1
      go_wp2_with fail
      go_ret
      exact ⟨rfl, hb1⟩
end Go.Proofs.YtmgdkefoehlamaaGreatDoor
