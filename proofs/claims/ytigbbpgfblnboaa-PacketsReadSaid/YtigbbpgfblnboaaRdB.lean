/- Packets that are read: bytes as numbers. -/
import Derived.Test.YtigbbpgfblnboaaRdA
import Derived.Test.YtigbbpgfblnboaaPkE
namespace Go.Proofs.Ytigbbpgfblnboaa
open Go.RowKit
set_option linter.unusedVariables false
set_option linter.unusedSimpArgs false

theorem num_step {bs : List Nat} {k x : Nat} {z y : Int} (hx : bs[k]? = some x) (h : z = (numF (bs.take k) : Int)) (hy : y = (x : Int)) : z * 256 + y = (numF (bs.take (k + 1)) : Int) := by
  rw [List.take_add_one, hx, h, hy]
  simp only [Option.toList_some, numF_snoc]
  omega
theorem num_take_lt {bs : List Nat} (hb : Byt bs) {k : Nat} (hk : k ≤ 7) : (numF (bs.take k) : Int) < 72057594037927936 := by
  have h := numF_lt (bs.take k) (fun b hb' => hb b (List.mem_of_mem_take hb'))
  have h2 : 256 ^ (bs.take k).length ≤ 256 ^ 7 := Nat.pow_le_pow_right (by decide) (by rw [List.length_take]; omega)
  have h3 : (256 : Nat) ^ 7 = 72057594037927936 := by decide
  omega

theorem or_byte (z y : Int) (h0 : 0 ≤ z) (h1 : z < 72057594037927936) (y0 : 0 ≤ y) (y1 : y < 256) : bits .or .u64 (z * 256) y = z * 256 + y := by
  obtain ⟨a, rfl⟩ := Int.eq_ofNat_of_zero_le h0
  obtain ⟨b, rfl⟩ := Int.eq_ofNat_of_zero_le y0
  have hb : b < 2 ^ 8 := by omega
  have e1 : (BitVec.ofInt 64 ((a : Int) * 256)).toNat = 2 ^ 8 * a := by
    rw [BitVec.toNat_ofInt]; omega
  have e2 : (BitVec.ofInt 64 (b : Int)).toNat = b := by rw [BitVec.toNat_ofInt]; omega
  show IntKind.u64.wrap ((BitVec.ofInt 64 ((a : Int) * 256) ||| BitVec.ofInt 64 (b : Int)).toNat : Nat) = _
  rw [BitVec.toNat_or, e1, e2, ← Nat.two_pow_add_eq_or_of_lt hb, IntKind.wrap_u64]
  omega

set_option maxHeartbeats 2000000 in
theorem numberOf_any (A : Option Addr) (n cap : Nat) (bs : List Nat) (w : World) (hS : SlB w A n cap bs) (hn : n ≤ 8) (hb : Byt bs) :
    Calls Try.prog 97 #[.slice A n cap] w fun e w' => e = .returned (.int .u64 (numF bs)) ∧ Below w.heap.size w w' := by
  have hl := Lib.hid hS.len
  have h3 := Lib.hid hS.2.2
  clear hS
  replace hb := Lib.hid hb
  go_enter Try.func97, Try.ntmps97
  go_wp2_with fail
  go_loop [3, 8] (fun s c => ∃ (k : Nat) (z : Int), k ≤ n ∧ c = .int .i64 k ∧ s = .int .u64 z ∧ 0 ≤ z ∧ Hid (z = (numF (bs.take k) : Int))) (fun _ c => n - (intOf c).toNat)
  case atStart => exact ⟨0, 0, Nat.zero_le _, rfl, rfl, by omega, Lib.hid (by simp [numF])⟩
  case round =>
    obtain ⟨k, z, hk, rfl, rfl, hz0, hG⟩ := hrel
    by_cases hlt : k < n
    · obtain ⟨x, hx⟩ : ∃ x, bs[k]? = some x := ⟨bs[k]'(by have := hl.out; omega), List.getElem?_eq_getElem _⟩
      have hx256 := hb.out x (List.mem_of_getElem? hx)
      obtain ⟨g, off, rfl, hg, hc⟩ : ∃ g off, A = some ⟨g, off, none⟩ ∧ g < w.heap.size ∧ ∀ j u, (bV bs)[j]? = some u → w.cell? ⟨g, off + j, none⟩ = some u := by
        rcases h3.out with h | h
        · omega
        · exact h
      have c0 := hc k _ (bV_get hx)
      clear hc
      obtain ⟨y, hy⟩ : ∃ y : Int, y = (x : Int) := ⟨_, rfl⟩
      rw [← hy] at c0
      have hy0 : 0 ≤ y := by omega
      have hy1 : y < 256 := by omega
      have hz1 : z < 72057594037927936 := by rw [hG.out]; exact num_take_lt hb.out (by omega)
      have hst := Lib.hid (num_step hx hG.out hy)
      have hor := or_byte z y hz0 hz1 hy0 hy1
      clear hx256 hx hy hG
      go_wp2_with fail
      go_round
      case rel => exact ⟨k + 1, z * 256 + y, by omega, by go_num, rfl, by omega, hst⟩
      case measure => simp [intOf]; omega
    · have hkl : k = n := by omega
      have hE := Lib.hid (show z = (numF bs : Int) by have := hG.out; rw [hkl, hl.out, List.take_length] at this; exact this)
      clear hG hl hb h3 hkl
      go_wp2_with fail
      go_ret
      exact ⟨by rw [hE.out]; rfl, Below.refl _ _⟩
set_option maxHeartbeats 2000000 in
theorem numberR_any (A : Option Addr) (n cap : Nat) (bs : List Nat) (w : World) (hS : SlB w A n cap bs) (hn : n ≤ 8) (hb : Byt bs) :
    Calls Try.prog 59 #[.slice A n cap] w fun e w' => e = .returned (.int .u64 (numF bs)) ∧ Below w.heap.size w w' := by
  have hl := Lib.hid hS.len
  have h3 := Lib.hid hS.2.2
  clear hS
  replace hb := Lib.hid hb
  go_enter Try.func59, Try.ntmps59
  go_wp2_with fail
  go_loop [3, 8] (fun s c => ∃ (k : Nat) (z : Int), k ≤ n ∧ c = .int .i64 k ∧ s = .int .u64 z ∧ 0 ≤ z ∧ Hid (z = (numF (bs.take k) : Int))) (fun _ c => n - (intOf c).toNat)
  case atStart => exact ⟨0, 0, Nat.zero_le _, rfl, rfl, by omega, Lib.hid (by simp [numF])⟩
  case round =>
    obtain ⟨k, z, hk, rfl, rfl, hz0, hG⟩ := hrel
    by_cases hlt : k < n
    · obtain ⟨x, hx⟩ : ∃ x, bs[k]? = some x := ⟨bs[k]'(by have := hl.out; omega), List.getElem?_eq_getElem _⟩
      have hx256 := hb.out x (List.mem_of_getElem? hx)
      obtain ⟨g, off, rfl, hg, hc⟩ : ∃ g off, A = some ⟨g, off, none⟩ ∧ g < w.heap.size ∧ ∀ j u, (bV bs)[j]? = some u → w.cell? ⟨g, off + j, none⟩ = some u := by
        rcases h3.out with h | h
        · omega
        · exact h
      have c0 := hc k _ (bV_get hx)
      clear hc
      obtain ⟨y, hy⟩ : ∃ y : Int, y = (x : Int) := ⟨_, rfl⟩
      rw [← hy] at c0
      have hy0 : 0 ≤ y := by omega
      have hy1 : y < 256 := by omega
      have hz1 : z < 72057594037927936 := by rw [hG.out]; exact num_take_lt hb.out (by omega)
      have hst := Lib.hid (num_step hx hG.out hy)
      clear hx256 hx hy hG
      go_wp2_with fail
      go_round
      case rel => exact ⟨k + 1, z * 256 + y, by omega, by go_num, rfl, by omega, hst⟩
      case measure => simp [intOf]; omega
    · have hkl : k = n := by omega
      have hE := Lib.hid (show z = (numF bs : Int) by have := hG.out; rw [hkl, hl.out, List.take_length] at this; exact this)
      clear hG hl hb h3 hkl
      go_wp2_with fail
      go_ret
      exact ⟨by rw [hE.out]; rfl, Below.refl _ _⟩

theorem numF_lt4 {bs : List Nat} (hb : Byt bs) (hn : bs.length ≤ 4) : (numF bs : Int) < 4294967296 := by
  have h := numF_lt bs hb
  have h2 : 256 ^ bs.length ≤ 256 ^ 4 := Nat.pow_le_pow_right (by decide) hn
  have h3 : (256 : Nat) ^ 4 = 4294967296 := by decide
  omega
set_option maxHeartbeats 2000000 in
theorem intOf_any (A : Option Addr) (n cap : Nat) (bs : List Nat) (w : World) (hS : SlB w A n cap bs) (hn : n ≤ 4) (hb : Byt bs) :
    Calls Try.prog 78 #[.slice A n cap] w fun e w' => e = .returned (.int .i64 (numF bs)) ∧ Below w.heap.size w w' := by
  have HN := Lib.hid (numberOf_any A n cap bs w hS (by omega) hb)
  have hlt := numF_lt4 hb (by have := hS.len; omega)
  have hw : IntKind.i64.wrap (numF bs : Int) = (numF bs : Int) := by rw [IntKind.wrap_i64]; omega
  clear hS hb
  generalize (numF bs : Int) = N at HN hlt hw ⊢
  go_enter Try.func78, Try.ntmps78
  go_wp2_with fail
  refine HN.out.mono ?_
  rintro e w1 ⟨rfl, hb1⟩
  go_wp2_with fail
  go_ret
  exact ⟨rfl, hb1⟩

/-- A part of a slice of bytes. -/
theorem SlB.part {w : World} {g off n cap : Nat} {bs : List Nat} (h : SlB w (some ⟨g, off, none⟩) n cap bs) (i k c : Nat) (hk : i + k ≤ n) (hc : k ≤ c) : SlB w (some ⟨g, off + i, none⟩) k c ((bs.drop i).take k) := by
  have hl := h.len
  refine ⟨by rw [bV_len, List.length_take, List.length_drop]; omega, hc, ?_⟩
  rcases h.2.2 with h0 | ⟨g', off', hA, hg, hcc⟩
  · exact .inl (by omega)
  · cases hA
    refine .inr ⟨g, off + i, rfl, hg, fun j u hu => ?_⟩
    obtain ⟨b, hb, rfl⟩ := bV_at hu
    rw [List.getElem?_take] at hb
    split at hb
    · rw [List.getElem?_drop] at hb
      rw [Nat.add_assoc]
      exact hcc (i + j) _ (bV_get hb)
    · cases hb

set_option maxHeartbeats 2000000 in
theorem isZeroF_any (x : Int) (w : World) : Calls Try.prog 99 #[.int .u8 x] w fun e w' => e = .returned (.bool (decide (x ≠ 0))) ∧ w = w' := by
  by_cases h : x = 0
  · subst h
    go_enter Try.func99, Try.ntmps99
    go_wp2_with fail
    go_ret
    exact ⟨rfl, rfl⟩
  · have hd := Lib.hid (show decide (x ≠ 0) = true from decide_eq_true h)
    go_enter Try.func99, Try.ntmps99
    go_wp2_with fail
    go_ret
    exact ⟨by rw [hd.out]; simp [h], rfl⟩
theorem cfz (args : Array Value) (w' : World) : (callFunc 99 args).run Try.prog w' = .ok (.enter 99 args) w' := by go_simp
theorem zero_cons {bs : List Nat} {k x : Nat} (hx : bs[k]? = some x) (h : numF (bs.take k) = 0) (h0 : x = 0) : numF (bs.take (k + 1)) = 0 := by
  rw [List.take_add_one, hx, h0]; simp only [Option.toList_some, numF_snoc]; omega
theorem zero_not {bs : List Nat} {k x : Nat} (hb : Byt bs) (hx : bs[k]? = some x) (h0 : ¬ x = 0) : ¬ numF bs = 0 := fun h => h0 (numF_pos bs hb h x (List.mem_of_getElem? hx))
set_option maxHeartbeats 2000000 in
theorem indexFunc_any (A : Option Addr) (n cap : Nat) (bs : List Nat) (w : World) (hS : SlB w A n cap bs) (hn : n ≤ 1000) (hb : Byt bs) :
    Calls Try.prog 116 #[.slice A n cap, .func (.func 99) #[] #[]] w fun e w' => ∃ z : Int, e = .returned (.int .i64 z) ∧ (numF bs = 0 ∧ z = -1 ∨ ¬ numF bs = 0 ∧ 0 ≤ z ∧ z ≤ 1000) ∧ w = w' := by
  have hl := Lib.hid hS.len
  have h3 := Lib.hid hS.2.2
  clear hS
  replace hb := Lib.hid hb
  have HF := Lib.hid (fun x => isZeroF_any x w)
  have hcf := cfz
  go_enter Try.func116, Try.ntmps116
  go_wp2_with fail
  go_loop [8] (fun c => ∃ (k : Nat), k ≤ n ∧ c = .int .i64 k ∧ Hid (numF (bs.take k) = 0)) (fun c => n - (intOf c).toNat)
  case atStart => exact ⟨0, Nat.zero_le _, rfl, Lib.hid (by simp [numF])⟩
  case round =>
    obtain ⟨k, hk, rfl, hG⟩ := hrel
    by_cases hlt : k < n
    · obtain ⟨x, hx⟩ : ∃ x, bs[k]? = some x := ⟨bs[k]'(by have := hl.out; omega), List.getElem?_eq_getElem _⟩
      obtain ⟨g, off, rfl, hg, hc⟩ : ∃ g off, A = some ⟨g, off, none⟩ ∧ g < w.heap.size ∧ ∀ j u, (bV bs)[j]? = some u → w.cell? ⟨g, off + j, none⟩ = some u := by
        rcases h3.out with h | h
        · omega
        · exact h
      have c0 := hc k _ (bV_get hx)
      clear hc
      have hkn : (k : Int) ≤ 1000 := by omega
      by_cases h0 : x = 0
      · have hst := Lib.hid (zero_cons hx hG.out h0)
        subst h0
        clear hx hG
        go_wp2_with fail
        refine (HF.out _).mono ?_
        rintro e w1 ⟨rfl, rfl⟩
        go_wp2_with fail
        go_round
        case rel => exact ⟨k + 1, by omega, by go_num, hst⟩
        case measure => simp [intOf]; omega
      · have hst := Lib.hid (zero_not hb.out hx h0)
        have HF1 := Lib.hid (show Calls Try.prog 99 #[.int .u8 (x : Int)] w fun e w' => e = .returned (.bool true) ∧ w = w' from by have := isZeroF_any x w; rw [decide_eq_true (show (x : Int) ≠ 0 by omega)] at this; exact this)
        clear hx hG
        replace h0 := Lib.hid h0
        go_wp2_with fail
        refine HF1.out.mono ?_
        rintro e w1 ⟨rfl, rfl⟩
        go_wp2_with fail
        go_ret
        exact ⟨k, rfl, .inr ⟨hst.out, by omega, by omega⟩, rfl⟩
    · have hkl : k = n := by omega
      have hE := Lib.hid (show numF bs = 0 by have := hG.out; rw [hkl, hl.out, List.take_length] at this; exact this)
      clear hG hl hb h3 hkl
      go_wp2_with fail
      go_ret
      exact ⟨-1, rfl, .inl ⟨hE.out, rfl⟩, rfl⟩
set_option maxHeartbeats 2000000 in
theorem isZero_any (A : Option Addr) (n cap : Nat) (bs : List Nat) (w : World) (hS : SlB w A n cap bs) (hn : n ≤ 1000) (hb : Byt bs) :
    Calls Try.prog 79 #[.slice A n cap] w fun e w' => e = .returned (.bool (decide (numF bs = 0))) ∧ w = w' := by
  have HI := Lib.hid (indexFunc_any A n cap bs w hS hn hb)
  clear hS hb
  have HC : Hid (Calls Try.prog 98 #[.slice A n cap, .func (.func 99) #[] #[]] w fun e w' => e = .returned (.bool (!decide (numF bs = 0))) ∧ w = w') := by
    refine Lib.hid ?_
    go_enter Try.func98, Try.ntmps98
    go_wp2_with fail
    refine HI.out.mono ?_
    rintro e w1 ⟨z, rfl, h, rfl⟩
    rcases h with ⟨h0, rfl⟩ | ⟨h0, h1, h2⟩
    · have hd := Lib.hid (show (!decide (numF bs = 0)) = false by rw [decide_eq_true h0]; rfl)
      clear h0
      go_wp2_with fail
      go_ret
      exact ⟨by rw [hd.out]; rfl, rfl⟩
    · have hd := Lib.hid (show (!decide (numF bs = 0)) = true by rw [decide_eq_false h0]; rfl)
      clear h0
      go_wp2_with fail
      go_ret
      exact ⟨by rw [hd.out]; simp, rfl⟩
  clear HI
  generalize decide (numF bs = 0) = d at HC ⊢
  go_enter Try.func79, Try.ntmps79
  go_wp2_with fail
  refine HC.out.mono ?_
  rintro e w1 ⟨rfl, rfl⟩
  cases d
  · go_wp2_with fail
    go_ret
    exact ⟨rfl, rfl⟩
  · go_wp2_with fail
    go_ret
    exact ⟨rfl, rfl⟩
end Go.Proofs.Ytigbbpgfblnboaa
