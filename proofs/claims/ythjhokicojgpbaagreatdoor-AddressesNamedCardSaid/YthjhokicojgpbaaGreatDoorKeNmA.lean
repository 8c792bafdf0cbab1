/- Names of addresses (pure). -/
import Derived.Test.YthjhokicojgpbaaGreatDoorKePsF
import Derived.Test.YthjhokicojgpbaaGreatDoorKeTxtPl
import Derived.Lib.SplitLaws
import Derived.Lib.Join
namespace Go.Proofs.YthjhokicojgpbaaGreatDoor

/-- What stands between the bytes c. -/
def pieces (l : List UInt8) (c : UInt8) : List (List UInt8) := Lib.splitK [c] 0 (l.count c) l
theorem pieces_one {l : List UInt8} {c : UInt8} (h : c ∉ l) : pieces l c = [l] := by
  unfold pieces; rw [List.count_eq_zero.2 h]; rfl
theorem index_mid {c : UInt8} (b : List UInt8) : ∀ {a : List UInt8}, c ∉ a → Lib.index (a ++ c :: b) [c] = a.length
  | [], _ => by rw [List.nil_append, Lib.index]; simp [List.isPrefixOf]
  | x :: t, h => by
    have hx : x ≠ c := fun e => h (by rw [e]; exact List.mem_cons_self)
    have ih := index_mid b (a := t) (fun e => h (List.mem_cons_of_mem _ e))
    have hp : ([c] : List UInt8).isPrefixOf (x :: (t ++ c :: b)) = false := by simp [List.isPrefixOf, Ne.symm hx]
    rw [List.cons_append, Lib.index, hp, ih]
    have : ((t.length : Int) == -1) = false := by rw [beq_eq_false_iff_ne]; omega
    rw [this]
    simp
theorem pieces_cons {a b : List UInt8} {c : UInt8} (h : c ∉ a) : pieces (a ++ c :: b) c = a :: pieces b c := by
  unfold pieces
  have hc : (a ++ c :: b).count c = b.count c + 1 := by rw [List.count_append, List.count_eq_zero.2 h, List.count_cons_self]; omega
  rw [hc, Lib.splitK, index_mid b h, if_neg (by rw [beq_iff_eq]; omega)]
  simp
theorem pieces_join {c : UInt8} : ∀ (x : List UInt8) (r : List (List UInt8)), c ∉ x → (∀ y ∈ r, c ∉ y) → pieces (Lib.join (x :: r) [c]) c = x :: r
  | x, [], h, _ => by rw [Lib.join_one, pieces_one h]
  | x, y :: r, h, hr => by
    have ih := pieces_join y r (hr y List.mem_cons_self) (fun z hz => hr z (List.mem_cons_of_mem _ hz))
    have e : Lib.join (x :: y :: r) [c] = x ++ c :: Lib.join (y :: r) [c] := by
      rw [Lib.join_cons, Lib.join_cons]
      show x ++ ([c] ++ y ++ Lib.joinTail [c] r) = _
      simp
    rw [e, pieces_cons h, ih]
theorem join_tail (x : List UInt8) (r : List (List UInt8)) (ms : List (List UInt8)) (sep : List UInt8) : Lib.join ((x :: r) ++ ms) sep = Lib.join (x :: r) sep ++ Lib.joinTail sep ms := by
  rw [List.cons_append, Lib.join_cons, Lib.join_cons]
  unfold Lib.joinTail
  simp

/-- k digits of n to base B, the lowest one first. -/
def digs (B n k : Nat) : List Nat := (List.range k).map fun i => n / B ^ i % B
theorem digs_len (B n k : Nat) : (digs B n k).length = k := by unfold digs; simp
theorem digs_succ (B n k : Nat) : digs B n (k + 1) = digs B n k ++ [n / B ^ k % B] := by unfold digs; rw [List.range_succ, List.map_append]; rfl
theorem digs_lt {B n k d : Nat} (hB : 0 < B) (h : d ∈ digs B n k) : d < B := by
  obtain ⟨i, _, rfl⟩ := List.mem_map.1 h
  exact Nat.mod_lt _ hB
/-- The number of digits. -/
def valB (B : Nat) : List Nat → Nat
  | [] => 0
  | d :: r => d + B * valB B r
theorem valB_snoc (B : Nat) : ∀ (l : List Nat) (d : Nat), valB B (l ++ [d]) = valB B l + B ^ l.length * d
  | [], d => by show d + B * 0 = 0 + B ^ 0 * d; simp
  | x :: l, d => by
    rw [List.cons_append]
    show x + B * valB B (l ++ [d]) = x + B * valB B l + B ^ (l.length + 1) * d
    rw [valB_snoc B l d, Nat.mul_add, Nat.pow_succ, Nat.mul_comm (B ^ l.length) B, Nat.mul_assoc]
    omega
theorem valB_digs (B n : Nat) : ∀ k, valB B (digs B n k) = n % B ^ k
  | 0 => by unfold digs valB; simp [Nat.mod_one]
  | k + 1 => by
    rw [digs_succ, valB_snoc, valB_digs B n k, digs_len, Nat.pow_succ, Nat.mod_mul]
theorem valB_lt {B : Nat} (hB : 0 < B) : ∀ {l : List Nat}, (∀ d ∈ l, d < B) → valB B l < B ^ l.length
  | [], _ => by show 0 < B ^ 0; simp
  | d :: l, h => by
    have ih := valB_lt hB (l := l) (fun x hx => h x (List.mem_cons_of_mem _ hx))
    have hd := h d List.mem_cons_self
    show d + B * valB B l < B ^ (l.length + 1)
    rw [Nat.pow_succ, Nat.mul_comm (B ^ l.length) B]
    have : B * (valB B l + 1) ≤ B * B ^ l.length := Nat.mul_le_mul_left _ ih
    rw [Nat.mul_add] at this
    omega

/-- A label of a digit. -/
def labD (s : Bool) (d : Nat) : List UInt8 := if s then [hexc d] else dec3 d
def baseD (s : Bool) : Nat := if s then 16 else 256
def hexcOk (d : Nat) : Bool := (hexD (hexc d) == some d) && decide (hexc d ≠ 46)
theorem hexc_all : ∀ d, d < 16 → hexcOk d = true := by decide
theorem hexD_hexc {d : Nat} (h : d < 16) : hexD (hexc d) = some d ∧ hexc d ≠ 46 := by
  have := hexc_all d h
  unfold hexcOk at this
  rw [Bool.and_eq_true, beq_iff_eq, decide_eq_true_iff] at this
  exact this
def decOk (d : Nat) : Bool := (dec3 d).all fun c => decide (c ≠ 46)
set_option maxRecDepth 100000 in
theorem dec_all : ∀ d, d < 256 → decOk d = true := by decide
theorem labD_dot {s : Bool} {d : Nat} (h : d < baseD s) : (46 : UInt8) ∉ labD s d := by
  cases s
  · intro hm
    have := List.all_eq_true.1 (dec_all d h) 46 hm
    exact absurd rfl (of_decide_eq_true this)
  · intro hm
    rw [show labD true d = [hexc d] from rfl, List.mem_singleton] at hm
    exact (hexD_hexc h).2 hm.symm
theorem labD_inj {s : Bool} {d e : Nat} (h : d < baseD s) (h' : e < baseD s) (he : labD s d = labD s e) : d = e := by
  cases s
  · have h1 := byte_dec3 d h
    have h2 := byte_dec3 e h'
    rw [show dec3 d = dec3 e from he, h2] at h1
    exact (Option.some.inj h1).symm
  · have h1 := (hexD_hexc h).1
    have h2 := (hexD_hexc h').1
    have he' : hexc d = hexc e := (List.cons.inj he).1
    rw [he', h2] at h1
    exact (Option.some.inj h1).symm
/-- The digits of an address. -/
def adDigs (s : Bool) (hi lo : Nat) : List Nat := if s then digs 16 lo 16 ++ digs 16 hi 16 else digs 256 lo 4
def tailD (s : Bool) : List (List UInt8) := if s then [[105, 112, 54], [97, 114, 112, 97]] else [[105, 110, 45, 97, 100, 100, 114], [97, 114, 112, 97]]
def end4 : List UInt8 := [46, 105, 110, 45, 97, 100, 100, 114, 46, 97, 114, 112, 97]
def end6 : List UInt8 := [46, 105, 112, 54, 46, 97, 114, 112, 97]
def endD (s : Bool) : List UInt8 := if s then end6 else end4
/-- The name of an address. -/
def backL (s : Bool) (hi lo : Nat) : List UInt8 := Lib.join ((adDigs s hi lo).map (labD s)) [46] ++ endD s
theorem adDigs_len (s : Bool) (hi lo : Nat) : (adDigs s hi lo).length = if s then 32 else 4 := by
  cases s
  · exact digs_len 256 lo 4
  · show (digs 16 lo 16 ++ digs 16 hi 16).length = 32
    rw [List.length_append, digs_len, digs_len]
theorem adDigs_lt {s : Bool} {hi lo d : Nat} (h : d ∈ adDigs s hi lo) : d < baseD s := by
  cases s
  · exact digs_lt (by decide) h
  · rcases List.mem_append.1 h with g | g
    · exact digs_lt (by decide) g
    · exact digs_lt (by decide) g
theorem adDigs_cons (s : Bool) (hi lo : Nat) : ∃ d r, adDigs s hi lo = d :: r := by
  have := adDigs_len s hi lo
  cases h : adDigs s hi lo with
  | nil => rw [h] at this; cases s <;> simp at this
  | cons d r => exact ⟨d, r, rfl⟩
theorem labs_dot {s : Bool} {hi lo : Nat} : ∀ x ∈ (adDigs s hi lo).map (labD s), (46 : UInt8) ∉ x := by
  intro x hx
  obtain ⟨d, hd, rfl⟩ := List.mem_map.1 hx
  exact labD_dot (adDigs_lt hd)
/-- The labels of the part ahead of the end. -/
theorem pieces_front (s : Bool) (hi lo : Nat) : pieces (Lib.join ((adDigs s hi lo).map (labD s)) [46]) 46 = (adDigs s hi lo).map (labD s) := by
  have hd := labs_dot (s := s) (hi := hi) (lo := lo)
  obtain ⟨d, r, h⟩ := adDigs_cons s hi lo
  rw [h, List.map_cons] at hd ⊢
  exact pieces_join _ _ (hd _ List.mem_cons_self) (fun y hy => hd y (List.mem_cons_of_mem _ hy))
theorem pieces_back (s : Bool) (hi lo : Nat) : pieces (backL s hi lo) 46 = (adDigs s hi lo).map (labD s) ++ tailD s := by
  have hd := labs_dot (s := s) (hi := hi) (lo := lo)
  obtain ⟨d, r, h⟩ := adDigs_cons s hi lo
  have e : backL s hi lo = Lib.join ((adDigs s hi lo).map (labD s) ++ tailD s) [46] := by
    unfold backL
    rw [h, List.map_cons, join_tail]
    cases s <;> rfl
  rw [e]
  rw [h, List.map_cons] at hd ⊢
  rw [List.cons_append]
  refine pieces_join _ _ (hd _ List.mem_cons_self) (fun y hy => ?_)
  rcases List.mem_append.1 hy with hy | hy
  · exact hd y (List.mem_cons_of_mem _ hy)
  · cases s
    · rcases List.mem_cons.1 hy with rfl | hy
      · decide
      · rw [List.mem_singleton.1 hy]; decide
    · rcases List.mem_cons.1 hy with rfl | hy
      · decide
      · rw [List.mem_singleton.1 hy]; decide
/-- An address that is right, as numbers. -/
def RightN (s : Bool) (hi lo : Nat) : Prop := hi < 2 ^ 64 ∧ lo < 2 ^ 64 ∧ (s = false → hi = 0 ∧ lo < 2 ^ 32)
theorem digs_num {n : Nat} (h : n < 2 ^ 64) : valB 16 (digs 16 n 16) = n := by
  rw [valB_digs]; exact Nat.mod_eq_of_lt (Nat.lt_of_lt_of_le h (by decide))
theorem digs_num4 {n : Nat} (h : n < 2 ^ 32) : valB 256 (digs 256 n 4) = n := by
  rw [valB_digs]; exact Nat.mod_eq_of_lt (Nat.lt_of_lt_of_le h (by decide))
theorem end_ne (X Y : List UInt8) : X ++ end4 ≠ Y ++ end6 := by
  intro e
  have h1 := congrArg List.reverse e
  rw [List.reverse_append, List.reverse_append] at h1
  have h2 := congrArg (fun l => l.take 9) h1
  rw [show (end4.reverse ++ X.reverse).take 9 = end4.reverse.take 9 from List.take_append_of_le_length (by decide), show (end6.reverse ++ Y.reverse).take 9 = end6.reverse.take 9 from List.take_append_of_le_length (by decide)] at h2
  exact absurd h2 (by decide)
/-- No two addresses have one name. -/
theorem backL_inj {s t : Bool} {hi lo hi' lo' : Nat} (h : RightN s hi lo) (h' : RightN t hi' lo') (e : backL s hi lo = backL t hi' lo') : s = t ∧ hi = hi' ∧ lo = lo' := by
  have hst : s = t := by
    cases s <;> cases t
    · rfl
    · exact absurd e (end_ne _ _)
    · exact absurd e.symm (end_ne _ _)
    · rfl
  subst hst
  have hp := congrArg (pieces · 46) e
  simp only [pieces_back] at hp
  have hm := List.append_cancel_right hp
  have hd : adDigs s hi lo = adDigs s hi' lo' := by
    have : ∀ (l m : List Nat), (∀ d ∈ l, d < baseD s) → (∀ d ∈ m, d < baseD s) → l.map (labD s) = m.map (labD s) → l = m := by
      intro l
      induction l with
      | nil => intro m _ _ hh; cases m with
        | nil => rfl
        | cons y m => cases hh
      | cons x l ih => intro m h1 h2 hh; cases m with
        | nil => cases hh
        | cons y m =>
          rw [List.map_cons, List.map_cons] at hh
          have hh' := List.cons.inj hh
          rw [labD_inj (h1 x List.mem_cons_self) (h2 y List.mem_cons_self) hh'.1, ih m (fun d hd => h1 d (List.mem_cons_of_mem _ hd)) (fun d hd => h2 d (List.mem_cons_of_mem _ hd)) hh'.2]
    exact this _ _ (fun d hd => adDigs_lt hd) (fun d hd => adDigs_lt hd) hm
  cases s
  · have h1 := congrArg (valB 256) (show digs 256 lo 4 = digs 256 lo' 4 from hd)
    rw [digs_num4 (h.2.2 rfl).2, digs_num4 (h'.2.2 rfl).2] at h1
    exact ⟨rfl, by rw [(h.2.2 rfl).1, (h'.2.2 rfl).1], h1⟩
  · have hd' : digs 16 lo 16 ++ digs 16 hi 16 = digs 16 lo' 16 ++ digs 16 hi' 16 := hd
    obtain ⟨h1, h2⟩ := List.append_inj hd' (by rw [digs_len, digs_len])
    have g1 := congrArg (valB 16) h1
    have g2 := congrArg (valB 16) h2
    rw [digs_num h.2.1, digs_num h'.2.1] at g1
    rw [digs_num h.1, digs_num h'.1] at g2
    exact ⟨rfl, g2, g1⟩
end Go.Proofs.YthjhokicojgpbaaGreatDoor
