/- Texts of addresses and prefixes are read as they were written (pure). -/
import Derived.Test.YtfiocnjogbpgoaaGreatDoorKjPtB
namespace Go.Proofs.YtfiocnjogbpgoaaGreatDoor
open Go.RowKit
set_option linter.unusedVariables false
set_option linter.unusedSimpArgs false

/-- Where a byte first stands. -/
theorem index_front {c : UInt8} : ∀ (p t : List UInt8), c ∉ p → Lib.index (p ++ c :: t) [c] = (p.length : Int)
  | [], t, _ => by simp [Lib.index, List.isPrefixOf]
  | b :: p, t, h => by
    have hb : b ≠ c := fun e => h (e ▸ List.mem_cons_self)
    have ih := index_front p t (fun m => h (List.mem_cons_of_mem _ m))
    rw [List.cons_append, Lib.index, ih]
    have hp : ([c] : List UInt8).isPrefixOf (b :: (p ++ c :: t)) = false := by simp [List.isPrefixOf, Ne.symm hb]
    rw [hp]
    have : ((p.length : Int) == -1) = false := by rw [beq_eq_false_iff_ne]; omega
    simp [this]
theorem joinTail_cons (c : UInt8) (q : List UInt8) (r : List (List UInt8)) : Lib.joinTail [c] (q :: r) = c :: Lib.join (q :: r) [c] := by
  rw [Lib.join_cons]; simp [Lib.joinTail]
theorem join_two (c : UInt8) (p q : List UInt8) (r : List (List UInt8)) : Lib.join (p :: q :: r) [c] = p ++ c :: Lib.join (q :: r) [c] := by
  rw [Lib.join_cons, joinTail_cons]
theorem count_join {c : UInt8} : ∀ (p : List UInt8) (r : List (List UInt8)), (∀ q ∈ p :: r, c ∉ q) → (Lib.join (p :: r) [c]).count c = r.length
  | p, [], h => by rw [Lib.join_one]; simpa using List.count_eq_zero.2 (h p List.mem_cons_self)
  | p, q :: r, h => by
    rw [join_two, List.count_append, List.count_cons_self, count_join q r (fun x hx => h x (List.mem_cons_of_mem _ hx)), List.count_eq_zero.2 (h p List.mem_cons_self)]
    simp
theorem split_join {c : UInt8} : ∀ (p : List UInt8) (r : List (List UInt8)), (∀ q ∈ p :: r, c ∉ q) → Lib.splitK [c] 0 r.length (Lib.join (p :: r) [c]) = p :: r
  | p, [], _ => by rw [Lib.join_one]; rfl
  | p, q :: r, h => by
    rw [join_two, List.length_cons, Lib.splitK, index_front p _ (h p List.mem_cons_self)]
    have : ((p.length : Int) == -1) = false := by rw [beq_eq_false_iff_ne]; omega
    rw [this]
    have e1 : (p ++ c :: Lib.join (q :: r) [c]).take ((p.length : Int).toNat + 0) = p := by simp
    have e2 : (p ++ c :: Lib.join (q :: r) [c]).drop ((p.length : Int).toNat + [c].length) = Lib.join (q :: r) [c] := by
      rw [show (p.length : Int).toNat + [c].length = p.length + 1 by simp, List.drop_append]
      simp
    rw [e1, e2, split_join q r (fun x hx => h x (List.mem_cons_of_mem _ hx))]
    simp
/-- What is joined is parted. -/
theorem parts_join {c : UInt8} {ls : List (List UInt8)} (hn : ls ≠ []) (h : ∀ q ∈ ls, c ∉ q) : parts (Lib.join ls [c]) c = ls := by
  obtain ⟨p, r, rfl⟩ : ∃ p r, ls = p :: r := by cases ls with
    | nil => exact absurd rfl hn
    | cons p r => exact ⟨p, r, rfl⟩
  rw [parts_eq, count_join p r h, split_join p r h]

theorem dec256 : ∀ n, n < 256 → byteL (Lib.decDigits n) = some n ∧ (46 : UInt8) ∉ Lib.decDigits n ∧ (58 : UInt8) ∉ Lib.decDigits n ∧ (47 : UInt8) ∉ Lib.decDigits n := by decide +kernel
/-- Four bytes that are written are read. -/
theorem four_back (n : Nat) (h : n < 4294967296) : fourL (fourText n) = some n := by
  have ha := dec256 (n / 16777216 % 256) (by omega)
  have hb := dec256 (n / 65536 % 256) (by omega)
  have hc := dec256 (n / 256 % 256) (by omega)
  have hd := dec256 (n % 256) (by omega)
  unfold fourL fourText
  rw [parts_join (by simp) (by
    intro q hq
    simp only [List.mem_cons, List.not_mem_nil, or_false] at hq
    rcases hq with rfl | rfl | rfl | rfl
    · exact ha.2.1
    · exact hb.2.1
    · exact hc.2.1
    · exact hd.2.1)]
  unfold fourP
  show goB _ 0 = _
  rw [goB, ha.1]
  show goB _ _ = _
  rw [goB, hb.1]
  show goB _ _ = _
  rw [goB, hc.1]
  show goB _ _ = _
  rw [goB, hd.1]
  show goB _ _ = _
  rw [goB]
  congr 1
  omega
theorem join_free {c d : UInt8} (hcd : d ≠ c) : ∀ ls : List (List UInt8), (∀ q ∈ ls, d ∉ q) → d ∉ Lib.join ls [c]
  | [], _ => by rw [Lib.join_nil]; simp
  | [p], h => by rw [Lib.join_one]; exact h p List.mem_cons_self
  | p :: q :: r, h => by
    rw [join_two]
    intro m
    rcases List.mem_append.1 m with m | m
    · exact h p List.mem_cons_self m
    · rcases List.mem_cons.1 m with m | m
      · exact hcd m
      · exact join_free hcd (q :: r) (fun x hx => h x (List.mem_cons_of_mem _ hx)) m
theorem fourText_free {d : UInt8} (hd : d = 58 ∨ d = 47) (n : Nat) : d ∉ fourText n := by
  have H := fun m => dec256 (m % 256) (by omega)
  unfold fourText
  refine join_free (by rcases hd with rfl | rfl <;> decide) _ ?_
  intro q hq
  simp only [List.mem_cons, List.not_mem_nil, or_false] at hq
  rcases hd with rfl | rfl
  · rcases hq with rfl | rfl | rfl | rfl
    · exact (H _).2.2.1
    · exact (H _).2.2.1
    · exact (H _).2.2.1
    · exact (H _).2.2.1
  · rcases hq with rfl | rfl | rfl | rfl
    · exact (H _).2.2.2
    · exact (H _).2.2.2
    · exact (H _).2.2.2
    · exact (H _).2.2.2

theorem hexc_back : ∀ k, k < 16 → hexD (hexc k) = some k ∧ hexc k ≠ 58 ∧ hexc k ≠ 46 ∧ hexc k ≠ 47 := by decide
theorem hexL_ne (u : Nat) : hexL u ≠ [] := by
  unfold hexL
  split
  · simp
  · split
    · simp
    · split <;> simp
theorem hexL_free (u : Nat) (h : u < 65536) {d : UInt8} (hd : d = 58 ∨ d = 46 ∨ d = 47) : d ∉ hexL u := by
  have H : ∀ k, k < 16 → d ≠ hexc k := fun k hk e => by
    have := hexc_back k hk
    rcases hd with rfl | rfl | rfl
    · exact this.2.1 e.symm
    · exact this.2.2.1 e.symm
    · exact this.2.2.2 e.symm
  have h0 := H (u % 16) (by omega)
  have h1 := H (u / 16 % 16) (by omega)
  have h2 := H (u / 256 % 16) (by omega)
  unfold hexL
  split
  · have := H u (by omega); simp [this]
  · split
    · have := H (u / 16) (by omega); simp [this, h0]
    · split
      · have := H (u / 256) (by omega); simp [this, h0, h1]
      · have := H (u / 4096) (by omega); simp [this, h0, h1, h2]
theorem hexL_all (u : Nat) (h : u < 65536) : (hexL u).all isHex = true ∧ hexVal (hexL u) = u := by
  have H : ∀ k, k < 16 → isHex (hexc k) = true ∧ (hexD (hexc k)).getD 0 = k := fun k hk => by
    have := (hexc_back k hk).1
    unfold isHex
    rw [this]; exact ⟨rfl, rfl⟩
  have h0 := H (u % 16) (by omega)
  have h1 := H (u / 16 % 16) (by omega)
  have h2 := H (u / 256 % 16) (by omega)
  unfold hexL
  split
  · have a := H u (by omega)
    simp [a, hexVal]
  · split
    · have a := H (u / 16) (by omega)
      simp [a, h0, hexVal]; omega
    · split
      · have a := H (u / 256) (by omega)
        simp [a, h0, h1, hexVal]; omega
      · have a := H (u / 4096) (by omega)
        simp [a, h0, h1, h2, hexVal]; omega
theorem group_back (u : Nat) (h : u < 65536) : groupL (hexL u) = some u := by
  have ⟨h1, h2⟩ := hexL_all u h
  unfold groupL hexB
  rw [if_pos (hexL_length u), if_pos ⟨hexL_ne u, h1, by omega⟩, h2]
theorem four_hex (u : Nat) (h : u < 65536) : fourL (hexL u) = none := by
  have : parts (hexL u) 46 = [hexL u] := by
    have := parts_join (c := 46) (ls := [hexL u]) (by simp) (by intro q hq; rw [List.mem_singleton.1 hq]; exact hexL_free u h (.inr (.inl rfl)))
    rwa [Lib.join_one] at this
  unfold fourL fourP
  rw [this]
  rfl
theorem rowA_back (tail : Bool) : ∀ (gs acc : List Nat), (∀ g ∈ gs, g < 65536) → rowA tail acc (gs.map hexL) = some (acc ++ gs)
  | [], acc, _ => by simp [rowA]
  | g :: r, acc, h => by
    have hg := h g List.mem_cons_self
    rw [List.map_cons, rowA_group (by split <;> first | exact four_hex g hg | rfl) (group_back g hg), rowA_back tail r _ (fun x hx => h x (List.mem_cons_of_mem _ hx))]
    simp
theorem joinHex_ne {gs : List Nat} (h : gs ≠ []) : Lib.join (gs.map hexL) [58] ≠ [] := by
  cases gs with
  | nil => exact absurd rfl h
  | cons g r =>
    rw [List.map_cons, Lib.join_cons]
    intro e
    exact hexL_ne g (List.append_eq_nil_iff.1 e).1
theorem row_back (tail : Bool) (gs : List Nat) (h : ∀ g ∈ gs, g < 65536) : rowL tail (Lib.join (gs.map hexL) [58]) = some gs := by
  unfold rowL
  by_cases hn : gs = []
  · subst hn; rfl
  · rw [if_neg (joinHex_ne hn), parts_join (by simpa using hn) (by
      intro q hq
      obtain ⟨g, hg, rfl⟩ := List.mem_map.1 hq
      exact hexL_free g (h g hg) (.inl rfl)), rowA_back tail gs [] h]
    rfl

/-- No two colons stand side by side. -/
def noCC : List UInt8 → Bool
  | a :: b :: r => !(a == 58 && b == 58) && noCC (b :: r)
  | _ => true
theorem noCC_app : ∀ (p t : List UInt8), (58 : UInt8) ∉ p → noCC t = true → noCC (p ++ t) = true
  | [], t, _, h => h
  | a :: p, t, hp, h => by
    have ha : a ≠ 58 := fun e => hp (e ▸ List.mem_cons_self)
    have ih := noCC_app p t (fun m => hp (List.mem_cons_of_mem _ m)) h
    rw [List.cons_append]
    cases hq : p ++ t with
    | nil => rfl
    | cons b r => rw [hq] at ih; simp [noCC, ha, ih]
theorem noCC_join : ∀ (gs : List Nat) (t : List UInt8), (∀ g ∈ gs, g < 65536) → noCC t = true → gs ≠ [] → noCC (Lib.join (gs.map hexL) [58] ++ t) = true
  | [], _, _, _, hn => absurd rfl hn
  | [g], t, h, ht, _ => by
    rw [List.map_cons, List.map_nil, Lib.join_one]
    exact noCC_app _ _ (hexL_free g (h g List.mem_cons_self) (.inl rfl)) ht
  | g :: k :: r, t, h, ht, _ => by
    have ih := noCC_join (k :: r) t (fun x hx => h x (List.mem_cons_of_mem _ hx)) ht (by simp)
    rw [List.map_cons, List.map_cons, join_two, ← List.map_cons, List.append_assoc]
    refine noCC_app _ _ (hexL_free g (h g List.mem_cons_self) (.inl rfl)) ?_
    rw [List.cons_append]
    have hk := hexL_free k (h k (List.mem_cons_of_mem _ List.mem_cons_self)) (d := 58) (.inl rfl)
    cases hq : Lib.join ((k :: r).map hexL) [58] ++ t with
    | nil => rfl
    | cons b s =>
      rw [hq] at ih
      have hb : b ≠ 58 := by
        rintro rfl
        rw [List.map_cons, Lib.join_cons, List.append_assoc] at hq
        cases hx : hexL k with
        | nil => exact hexL_ne k hx
        | cons y z =>
          rw [hx, List.cons_append] at hq
          cases hq
          rw [hx] at hk
          exact hk List.mem_cons_self
      simp [noCC, hb, ih]
theorem index_cc : ∀ (p t : List UInt8), noCC (p ++ [58]) = true → Lib.index (p ++ 58 :: 58 :: t) [58, 58] = (p.length : Int)
  | [], t, _ => by simp [Lib.index, List.isPrefixOf]
  | a :: p, t, h => by
    have h' : noCC (p ++ [58]) = true ∧ ([58, 58] : List UInt8).isPrefixOf (a :: (p ++ 58 :: 58 :: t)) = false := by
      cases p with
      | nil =>
        simp [noCC] at h
        simp [noCC, List.isPrefixOf, Ne.symm h]
      | cons b r =>
        simp only [List.cons_append, noCC, Bool.and_eq_true] at h
        refine ⟨h.2, ?_⟩
        simp only [List.cons_append, List.isPrefixOf]
        have h1 := h.1
        by_cases e1 : a = 58
        · subst e1
          have : b ≠ 58 := by intro e; subst e; simp at h1
          simp [Ne.symm this]
        · simp [Ne.symm e1]
    rw [List.cons_append, Lib.index, index_cc p t h'.1, h'.2]
    have : ((p.length : Int) == -1) = false := by rw [beq_eq_false_iff_ne]; omega
    simp [this]
theorem index_nocc : ∀ (l : List UInt8), noCC l = true → Lib.index l [58, 58] = -1
  | [], _ => rfl
  | [a], _ => by simp [Lib.index, List.isPrefixOf]
  | a :: b :: r, h => by
    simp only [noCC, Bool.and_eq_true] at h
    have hp : ([58, 58] : List UInt8).isPrefixOf (a :: b :: r) = false := by
      simp only [List.isPrefixOf]
      have h1 := h.1
      by_cases e1 : a = 58
      · subst e1
        have : b ≠ 58 := by intro e; subst e; simp at h1
        simp [Ne.symm this]
      · simp [Ne.symm e1]
    rw [Lib.index, index_nocc (b :: r) h.2, hp]
    rfl
def zOk (z : List Bool) : Bool := match zTwo (lzTo z 8) with
  | some (i, n) => decide (2 ≤ n) && decide (i + n ≤ 8) && ((z.drop i).take n).all id
  | none => true
theorem zero_run8 : ∀ a b c d e f g h : Bool, zOk [a, b, c, d, e, f, g, h] = true := by decide +kernel
theorem zero_run (z : List Bool) (hz : z.length = 8) {i n : Nat} (h : zTwo (lzTo z 8) = some (i, n)) : 2 ≤ n ∧ i + n ≤ 8 ∧ ((z.drop i).take n).all id = true := by
  have : zOk z = true := by
    obtain ⟨a, b, c, d, e, f, g, j, rfl⟩ := list8 z hz
    exact zero_run8 a b c d e f g j
  unfold zOk at this
  rw [h] at this
  simp only [Bool.and_eq_true, decide_eq_true_iff] at this
  exact ⟨this.1.1, this.1.2, this.2⟩
theorem flags_zero {gs : List Nat} (h : (flagsZ gs).all id = true) : gs = List.replicate gs.length 0 := by
  refine List.eq_replicate_iff.2 ⟨rfl, fun g hg => ?_⟩
  have := List.all_eq_true.1 h (g == 0) (List.mem_map.2 ⟨g, hg, rfl⟩)
  simpa using this
/-- Eight groups that are written are read. -/
theorem six_back (gs : List Nat) (h8 : gs.length = 8) (h : ∀ g ∈ gs, g < 65536) : groupsL (sixText (zTwo (lzTo (flagsZ gs) 8)) gs) = some gs := by
  cases hz : zTwo (lzTo (flagsZ gs) 8) with
  | none =>
    have hc : noCC (Lib.join (gs.map hexL) [58]) = true := by
      have := noCC_join gs [] h rfl (by intro e; rw [e] at h8; cases h8)
      rwa [List.append_nil] at this
    unfold groupsL sixText
    have hcut : Lib.cut (Lib.join (gs.map hexL) [58]) [58, 58] = (Lib.join (gs.map hexL) [58], [], false) := by
      unfold Lib.cut
      rw [index_nocc _ hc]
      rfl
    simp only [hcut]
    rw [if_neg (by decide), row_back true gs h]
    show (if gs.length = 8 then some gs else none) = some gs
    rw [if_pos h8]
  | some p =>
    obtain ⟨i, n⟩ := p
    obtain ⟨h2, hin, ha⟩ := zero_run (flagsZ gs) (by simp [flagsZ, h8]) hz
    have hl : ∀ g ∈ gs.take i, g < 65536 := fun g hg => h g (List.mem_of_mem_take hg)
    have hr : ∀ g ∈ gs.drop (i + n), g < 65536 := fun g hg => h g (List.mem_of_mem_drop hg)
    have hc : noCC (Lib.join ((gs.take i).map hexL) [58] ++ [58]) = true := by
      by_cases hi : gs.take i = []
      · rw [hi]; rfl
      · exact noCC_join _ _ hl rfl hi
    unfold groupsL sixText
    have hcut : Lib.cut (Lib.join ((gs.take i).map hexL) [58] ++ [58, 58] ++ Lib.join ((gs.drop (i + n)).map hexL) [58]) [58, 58] = (Lib.join ((gs.take i).map hexL) [58], Lib.join ((gs.drop (i + n)).map hexL) [58], true) := by
      have hi := index_cc _ (Lib.join ((gs.drop (i + n)).map hexL) [58]) hc
      have e : Lib.join ((gs.take i).map hexL) [58] ++ [58, 58] ++ Lib.join ((gs.drop (i + n)).map hexL) [58] = Lib.join ((gs.take i).map hexL) [58] ++ 58 :: 58 :: Lib.join ((gs.drop (i + n)).map hexL) [58] := by simp
      rw [e]
      generalize Lib.join ((gs.take i).map hexL) [58] = A at hi ⊢
      generalize Lib.join ((gs.drop (i + n)).map hexL) [58] = B at hi ⊢
      unfold Lib.cut
      rw [hi, if_pos (by omega)]
      have e1 : (A ++ 58 :: 58 :: B).take (A.length : Int).toNat = A := by simp
      have e2 : (A ++ 58 :: 58 :: B).drop ((A.length : Int).toNat + [(58 : UInt8), 58].length) = B := by
        rw [Int.toNat_natCast, ← List.drop_drop, List.drop_left]
        rfl
      rw [e1, e2]
    simp only [hcut]
    rw [if_pos trivial, row_back false _ hl, row_back true _ hr]
    unfold joinR
    have l1 : (gs.take i).length = i := by rw [List.length_take]; omega
    have l2 : (gs.drop (i + n)).length = 8 - (i + n) := by rw [List.length_drop, h8]
    have hmid : (gs.drop i).take n = List.replicate n 0 := by
      have e : ((flagsZ gs).drop i).take n = flagsZ ((gs.drop i).take n) := by simp [flagsZ, List.map_take, List.map_drop]
      rw [e] at ha
      have := flags_zero ha
      rwa [show ((gs.drop i).take n).length = n by rw [List.length_take, List.length_drop]; omega] at this
    simp only [l1, l2]
    rw [if_pos (by omega), show 8 - i - (8 - (i + n)) = n by omega, ← hmid]
    congr 1
    rw [← List.drop_drop, List.append_assoc, List.take_append_drop, List.take_append_drop]
theorem six_colon (gs : List Nat) (h8 : gs.length = 8) : (58 : UInt8) ∈ sixText (zTwo (lzTo (flagsZ gs) 8)) gs := by
  unfold sixText
  split
  · obtain ⟨a, b, c, d, e, f, g, j, rfl⟩ := list8 gs h8
    simp only [List.map_cons]
    rw [join_two]
    simp
  · simp
theorem six_free (gs : List Nat) (h : ∀ g ∈ gs, g < 65536) (p : Option (Nat × Nat)) : (47 : UInt8) ∉ sixText p gs := by
  have H : ∀ r : List Nat, (∀ g ∈ r, g < 65536) → (47 : UInt8) ∉ Lib.join (r.map hexL) [58] := fun r hr => by
    refine join_free (by decide) _ ?_
    intro q hq
    obtain ⟨g, hg, rfl⟩ := List.mem_map.1 hq
    exact hexL_free g (hr g hg) (.inr (.inr rfl))
  unfold sixText
  split
  · exact H gs h
  · rename_i i n
    have h1 := H (gs.take i) (fun g hg => h g (List.mem_of_mem_take hg))
    have h2 := H (gs.drop (i + n)) (fun g hg => h g (List.mem_of_mem_drop hg))
    rw [List.map_take] at h1
    rw [List.map_drop] at h2
    simp [h1, h2]
theorem acc_grps (hi lo : Nat) (h1 : hi < 18446744073709551616) (h2 : lo < 18446744073709551616) : acc16 ((grps (num hi lo)).take 4) = hi ∧ acc16 ((grps (num hi lo)).drop 4) = lo := by
  obtain ⟨V, hV⟩ : ∃ V, num (hi : Int) (lo : Int) = V := ⟨_, rfl⟩
  have hV' : V = hi * 18446744073709551616 + lo := by rw [← hV]; unfold num; rw [Int.toNat_natCast, Int.toNat_natCast]
  rw [hV]
  constructor
  · simp only [grps, acc16, List.take, List.foldl, dig]
    omega
  · simp only [grps, acc16, List.drop, List.foldl, dig]
    omega
/-- An address that is written is read. -/
theorem loose_text (s : Bool) (hi lo : Nat) (h1 : hi < 18446744073709551616) (h2 : lo < 18446744073709551616) (hg : ∀ g ∈ grps (num hi lo), g < 65536) (hF : adF s hi lo = 0) : looseL (adrText s hi lo) = some (s, hi, lo) := by
  unfold adrText
  rw [if_pos hF]
  cases s with
  | true =>
    rw [if_pos rfl]
    unfold looseL
    rw [if_pos (six_colon _ rfl), six_back _ rfl hg]
    have := acc_grps hi lo h1 h2
    rw [Option.map_some, this.1, this.2]
  | false =>
    have h3 : hi = 0 ∧ lo < 4294967296 := by
      unfold adF at hF
      split at hF
      · cases hF
      · rename_i hc
        have : ¬ ((hi : Int) ≠ 0 ∨ 4294967296 ≤ (lo : Int)) := fun h => hc ⟨rfl, h⟩
        omega
    rw [if_neg (by decide), Int.toNat_natCast]
    unfold looseL
    rw [if_neg (fourText_free (.inl rfl) lo), four_back lo h3.2, h3.1]
    rfl
theorem parse_text (s : Bool) (hi lo : Nat) (h1 : hi < 18446744073709551616) (h2 : lo < 18446744073709551616) (hg : ∀ g ∈ grps (num hi lo), g < 65536) (hF : adF s hi lo = 0) : parseL (adrText s hi lo) = some (s, hi, lo) := by
  unfold parseL
  rw [loose_text s hi lo h1 h2 hg hF]
  show (if _ then _ else _) = _
  rw [if_pos rfl]
theorem text_free (s : Bool) (hi lo : Int) (hg : ∀ g ∈ grps (num hi lo), g < 65536) : (47 : UInt8) ∉ adrText s hi lo := by
  unfold adrText
  split
  · split
    · exact six_free _ hg _
    · exact fourText_free (.inr rfl) _
  · simp
theorem itoa_byte : ∀ n : Nat, n < 256 → byteL (Lib.itoa (n : Int)) = some n := fun n hn => by
  unfold Lib.itoa
  rw [if_neg (by omega), Int.toNat_natCast]
  exact (dec256 n hn).1
/-- A prefix that is written is read. -/
theorem prefix_text (s : Bool) (hi lo n : Nat) (h1 : hi < 18446744073709551616) (h2 : lo < 18446744073709551616) (hg : ∀ g ∈ grps (num hi lo), g < 65536) (hP : pfF s hi lo n = 0) : prefixL (pfxText s hi lo n) = some (s, hi, lo, n) := by
  obtain ⟨hF, _, hn⟩ := pfF_zero hP
  have hcut : Lib.cut (pfxText s hi lo n) [47] = (adrText s hi lo, Lib.itoa n, true) := by
    unfold pfxText Lib.cut
    rw [index_front _ _ (text_free s hi lo hg), if_pos (by omega)]
    rw [Int.toNat_natCast, List.take_left, ← List.drop_drop, List.drop_left]
    rfl
  unfold prefixL
  rw [hcut]
  show (match parseL (adrText s hi lo) with
    | some (s, h, lo) => match byteL (Lib.itoa n) with
      | some n => if pfF s (h : Int) (lo : Int) (n : Int) = 0 then some (s, h, lo, n) else none
      | none => none
    | none => none) = _
  rw [parse_text s hi lo h1 h2 hg hF, itoa_byte n (by omega)]
  show (if _ then _ else _) = _
  rw [if_pos hP]
end Go.Proofs.YtfiocnjogbpgoaaGreatDoor
