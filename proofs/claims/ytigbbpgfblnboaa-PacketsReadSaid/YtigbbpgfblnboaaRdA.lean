/- Packets that are read: bytes as a number (pure). -/
import Derived.Test.YtigbbpgfblnboaaPkB
import Derived.Laws.CopyOwn
namespace Go.Proofs.Ytigbbpgfblnboaa
/-- Bytes as a number, the highest one first. -/
def numF : List Nat → Nat
  | [] => 0
  | x :: r => x * 256 ^ r.length + numF r
theorem Byt.tail {x : Nat} {r : List Nat} (h : Byt (x :: r)) : x < 256 ∧ Byt r := ⟨h x (List.mem_cons_self ..), fun b hb => h b (List.mem_cons_of_mem _ hb)⟩
theorem numF_lt : ∀ l, Byt l → numF l < 256 ^ l.length
  | [], _ => by simp [numF]
  | x :: r, h => by
    have h1 := numF_lt r h.tail.2
    have h2 := h.tail.1
    rw [numF, List.length_cons, Nat.pow_succ]
    have : x * 256 ^ r.length ≤ 255 * 256 ^ r.length := Nat.mul_le_mul_right _ (by omega)
    omega
theorem numF_snoc : ∀ (l : List Nat) (x : Nat), numF (l ++ [x]) = numF l * 256 + x
  | [], x => by simp [numF]
  | y :: r, x => by
    rw [List.cons_append, numF, numF_snoc r x, numF, List.length_append, List.length_singleton, Nat.pow_succ, Nat.add_mul, Nat.mul_assoc]
    omega
theorem be_add (a m j : Nat) : ∀ k, k ≤ j → be (a * 256 ^ j + m) k = be m k
  | 0, _ => rfl
  | k + 1, h => by
    rw [be, be, be_add a m j k (by omega)]
    congr 1
    obtain ⟨d, rfl⟩ : ∃ d, j = d + 1 + k := ⟨j - k - 1, by omega⟩
    have e : a * 256 ^ (d + 1 + k) = (a * 256 ^ d * 256) * 256 ^ k := by rw [Nat.pow_add, Nat.pow_succ]; simp only [Nat.mul_assoc]
    rw [e, Nat.mul_comm _ (256 ^ k), Nat.mul_add_div (Nat.pow_pos (by decide))]
    omega
theorem be_numF : ∀ l, Byt l → be (numF l) l.length = l
  | [], _ => rfl
  | x :: r, h => by
    have h1 := numF_lt r h.tail.2
    have h2 := h.tail.1
    rw [List.length_cons, be, numF, be_add _ _ _ _ (Nat.le_refl _), be_numF r h.tail.2]
    congr 1
    rw [Nat.mul_comm, Nat.mul_add_div (Nat.pow_pos (by decide)), Nat.div_eq_of_lt h1]
    omega
theorem numF_inj {a b : List Nat} (ha : Byt a) (hb : Byt b) (hl : a.length = b.length) (h : numF a = numF b) : a = b := by
  rw [← be_numF a ha, ← be_numF b hb, h, hl]
theorem numF_be (n : Nat) : ∀ k, numF (be n k) = n % 256 ^ k
  | 0 => by simp [be, numF, Nat.mod_one]
  | k + 1 => by
    have hl : ∀ k, (be n k).length = k := by intro k; induction k with | zero => rfl | succ k ih => rw [be, List.length_cons, ih]
    rw [be, numF, numF_be n k, hl, Nat.pow_succ, Nat.mod_mul, Nat.mul_comm, Nat.add_comm]
theorem numF_zeros : ∀ (l : List Nat), (∀ x ∈ l, x = 0) → numF l = 0
  | [], _ => rfl
  | x :: r, h => by rw [numF, h x (List.mem_cons_self ..), numF_zeros r (fun y hy => h y (List.mem_cons_of_mem _ hy))]; simp
theorem numF_pos : ∀ (l : List Nat), Byt l → numF l = 0 → ∀ x ∈ l, x = 0
  | [], _, _ => by simp
  | y :: r, hb, h => by
    rw [numF] at h
    have hp : 0 < 256 ^ r.length := Nat.pow_pos (by decide)
    have h1 : y * 256 ^ r.length = 0 := by omega
    have h2 : numF r = 0 := by omega
    intro x hx
    rcases List.mem_cons.1 hx with rfl | hx
    · rcases Nat.mul_eq_zero.1 h1 with h | h
      · exact h
      · omega
    · exact numF_pos r hb.tail.2 h2 x hx
/-- So many bytes as a number. -/
def nb (bs : List Nat) (i k : Nat) : Nat := numF ((bs.drop i).take k)
theorem Byt.sub {bs : List Nat} (h : Byt bs) (i k : Nat) : Byt ((bs.drop i).take k) := fun b hb => h b (List.mem_of_mem_drop (List.mem_of_mem_take hb))
theorem Byt.getD {bs : List Nat} (h : Byt bs) (i : Nat) : bs.getD i 0 < 256 := by
  rw [List.getD_eq_getElem?_getD]
  cases hc : bs[i]? with
  | none => simp
  | some x => exact h x (List.mem_of_getElem? hc)
theorem nb_lt {bs : List Nat} (h : Byt bs) (i k : Nat) : nb bs i k < 256 ^ k := by
  unfold nb
  refine Nat.lt_of_lt_of_le (numF_lt _ (h.sub i k)) (Nat.pow_le_pow_right (by decide) ?_)
  rw [List.length_take]; omega
theorem be_nb {bs : List Nat} (h : Byt bs) (i k : Nat) (hl : i + k ≤ bs.length) : be (nb bs i k) k = (bs.drop i).take k := by
  have e : ((bs.drop i).take k).length = k := by rw [List.length_take, List.length_drop]; omega
  have := be_numF _ (h.sub i k)
  rw [e] at this
  exact this
theorem splice_app {α : Type} (x y g : List α) (k : Nat) (h : k + g.length ≤ x.length) : splice (x ++ y) k g = splice x k g ++ y := by
  unfold splice
  rw [List.take_append_of_le_length (by omega), List.drop_append_of_le_length (by omega)]
  simp only [List.append_assoc]
theorem splice_twice {α : Type} (x g g' : List α) (k : Nat) (h : k + g.length ≤ x.length) (he : g'.length = g.length) : splice (splice x k g) k g' = splice x k g' := by
  have e : (x.take k).length = k := by rw [List.length_take]; omega
  unfold splice
  rw [he, List.take_append_of_le_length (by omega), List.take_of_length_le (by omega : (x.take k).length ≤ k), List.drop_append, e, List.drop_of_length_le (by omega : (x.take k).length ≤ k + g.length)]
  rw [show k + g.length - k = g.length by omega, List.drop_append_of_le_length (Nat.le_refl _), List.drop_of_length_le (Nat.le_refl _)]
  rfl
theorem splice_self {α : Type} (x : List α) (k n : Nat) (h : k + n ≤ x.length) : splice x k ((x.drop k).take n) = x := by
  have e : ((x.drop k).take n).length = n := by rw [List.length_take, List.length_drop]; omega
  unfold splice
  rw [e, ← List.drop_drop, List.take_append_drop, List.take_append_drop]
theorem splice_inj {α : Type} {x g g' : List α} {k : Nat} (h : splice x k g = splice x k g') (he : g'.length = g.length) : g = g' := by
  unfold splice at h
  have h1 := List.append_cancel_left h
  exact List.append_inj_left h1 he.symm
theorem splice_len' {α : Type} (x g : List α) (k : Nat) (h : k + g.length ≤ x.length) : (splice x k g).length = x.length := by
  unfold splice; simp; omega
/-- The protocol that a number tells; 0 if none. -/
def protoN (six : Bool) (c : Nat) : Int :=
  if six then (if c = 58 then 1 else if c = 6 then 6 else if c = 17 then 17 else 0) else (if c = 1 then 1 else if c = 6 then 6 else if c = 17 then 17 else 0)
end Go.Proofs.Ytigbbpgfblnboaa
