/- strings.Split at one byte; four numbers with points between. -/
import Derived.Test.YtkldcmmlllkhkaaGreatDoorKqTxtG
import Derived.Test.YtkldcmmlllkhkaaGreatDoorKqPsA
set_option maxRecDepth 100000
namespace Go.Proofs.YtkldcmmlllkhkaaGreatDoor
open Go.RowKit

def parts (l : List UInt8) (c : UInt8) : List (List UInt8) := (Lib.splitB ⟨#[c]⟩ 0 (Lib.countB ⟨l.toArray⟩ ⟨#[c]⟩) ⟨l.toArray⟩).map (·.data.toList)
def GivesSp (ls : List (List UInt8)) (w : World) (e : Ending) (w' : World) : Prop := ∃ A cap, e = .returned (.slice A ls.length cap) ∧ Sl w' A ls.length cap (ls.map sv) ∧ Below w.heap.size w w'

theorem splitB_short (sep : ByteArray) : ∀ (k : Nat) (s : ByteArray), ∀ p ∈ Lib.splitB sep 0 k s, p.size ≤ s.size
  | 0, s => by intro p hp; rw [Lib.splitB_zero] at hp; rw [List.mem_singleton.1 hp]; exact Nat.le_refl _
  | k + 1, s => by
    intro p hp
    unfold Lib.splitB at hp
    split at hp
    · rw [List.mem_singleton.1 hp]; exact Nat.le_refl _
    · rcases List.mem_cons.1 hp with rfl | hp
      · rw [ByteArray.size_extract]; omega
      · have := splitB_short sep k _ p hp
        rw [ByteArray.size_extract] at this; omega
theorem parts_short (l : List UInt8) (c : UInt8) : ∀ p ∈ parts l c, p.length ≤ l.length := by
  intro p hp
  obtain ⟨x, hx, rfl⟩ := List.mem_map.1 hp
  have h := splitB_short _ _ _ x hx
  rw [Lib.size_eq, Lib.size_eq] at h
  simpa using h

theorem ba_back (x : ByteArray) : (⟨x.data.toList.toArray⟩ : ByteArray) = x := by cases x; simp

theorem split_any (l : List UInt8) (c : UInt8) (w : World) (hC : Cons w) (hl : l.length ≤ 100000) :
    Calls Tryz.prog 132 #[.string ⟨l.toArray⟩, .string ⟨#[c]⟩] w (GivesSp (parts l c) w) := by
  obtain ⟨m, hm⟩ := hC.maxl
  have hlen := Lib.splitB_all ⟨#[c]⟩ (by show 1 ≤ 1; omega) 0 _ (⟨l.toArray⟩ : ByteArray) rfl
  refine (Tryz.strings_Split ⟨l.toArray⟩ ⟨#[c]⟩ m w (by rw [Lib.size_eq]; exact Nat.lt_of_le_of_lt hl (by decide)) hm (by show 1 ≤ 1; omega)).mono ?_
  rintro e w' ⟨rfl, rfl⟩
  have hn : (parts l c).length = Lib.countB ⟨l.toArray⟩ ⟨#[c]⟩ + 1 := by unfold parts; rw [List.length_map, hlen]
  refine ⟨_, _, by rw [hn], ?_, (Below.refl _ _).alloc (Nat.le_refl _) _⟩
  refine ⟨by simp, by rw [hn]; exact Nat.le_refl _, .inr ⟨w.heap.size, 0, rfl, by simp, fun j u hu => ?_⟩⟩
  rw [Nat.zero_add, World.cell?_alloc_at _ _ _ _ rfl]
  unfold parts at hu
  rw [List.map_map, List.getElem?_map] at hu
  obtain ⟨x, hx, rfl⟩ := Option.map_eq_some_iff.1 hu
  simp only [List.getElem?_toArray, List.getElem?_map, hx, Option.map_some, Function.comp, sv, ba_back]

def goB : List (List UInt8) → Nat → Option Nat
  | [], n => some n
  | p :: r, n => match byteL p with
    | some b => goB r (n * 256 + b)
    | none => none
def fourP (ps : List (List UInt8)) : Option Nat := if ps.length = 4 then goB ps 0 else none
def fourL (l : List UInt8) : Option Nat := fourP (parts l 46)

def numU : Option Nat → Value
  | some n => .tuple #[.int .u64 (n : Int), .bool true]
  | none => .tuple #[.int .u64 0, .bool false]

theorem or_shift (n b : Nat) (hn : n < 16777216) (hb : b < 256) : bits .or .u64 ((n : Int) * 256) (b : Int) = ((n * 256 + b : Nat) : Int) := by
  have e : ((n : Int) * 256) = ((n * 256 : Nat) : Int) := by omega
  rw [e, u64_or_nat (n * 256) b (by omega) (by omega)]
  congr 1
  exact nat_join 8 _ _ (by omega) (by omega)

theorem goB_none {p : List UInt8} {r : List (List UInt8)} {n : Nat} (h : byteL p = none) : goB (p :: r) n = none := by rw [goB, h]
theorem goB_some {p : List UInt8} {r : List (List UInt8)} {n b : Nat} (h : byteL p = some b) : goB (p :: r) n = goB r (n * 256 + b) := by rw [goB, h]

theorem drop_at {α : Type} {l : List α} {k : Nat} {g : α} (h : l[k]? = some g) : l.drop k = g :: l.drop (k + 1) := by
  have hk : k < l.length := (List.getElem?_eq_some_iff.1 h).1
  rw [List.drop_eq_getElem_cons hk]
  rw [List.getElem?_eq_getElem hk] at h
  cases h; rfl

theorem numU_none {o : Option Nat} (h : o = none) : Ending.returned (.tuple #[.int .u64 0, .bool false]) = Ending.returned (numU o) := by rw [h]; rfl
theorem numU_some {o : Option Nat} {n : Nat} (h : o = some n) : Ending.returned (.tuple #[.int .u64 (n : Int), .bool true]) = Ending.returned (numU o) := by rw [h]; rfl

set_option maxHeartbeats 2000000 in
theorem readBytes_any (l : List UInt8) (w : World) (hC : Cons w) (hl : l.length ≤ 100000) :
    Calls Tryz.prog 109 #[.string ⟨l.toArray⟩] w (GivesV (numU (fourL l)) w) := by
  have HS := Lib.hid (split_any l 46 w hC hl)
  obtain ⟨ps, hps⟩ : ∃ ps, ps = parts l 46 := ⟨_, rfl⟩
  rw [← hps] at HS
  have HF : Hid (fourL l = fourP ps) := Lib.hid (by rw [hps]; rfl)
  have hpl : ∀ p ∈ ps, p.length ≤ 100000 := by
    rw [hps]; exact fun p hp => Nat.le_trans (parts_short l 46 p hp) hl
  replace hpl := Lib.hid hpl
  clear hps hC hl
  go_enter Tryz.func109, Tryz.ntmps109
  go_wp2_with fail
  refine HS.out.mono ?_
  rintro e w1 ⟨A, cap, rfl, hS, hb1⟩
  by_cases h4 : ps.length = 4
  · have HF' : Hid (goB (ps.drop 0) 0 = fourL l) := Lib.hid (by rw [HF.out, fourP, if_pos h4]; rfl)
    rw [h4] at hS ⊢
    replace h4 := Lib.hid h4
    go_wp2_with fail
    go_loop [5, 17] (fun o i => ∃ k n : Nat, k ≤ 4 ∧ n < 256 ^ k ∧ i = .int .i64 k ∧ o = .int .u64 n ∧ Hid (goB (ps.drop k) n = fourL l)) (fun _ i => 4 - (intOf i).toNat)
    case atStart => exact ⟨0, 0, by omega, by omega, rfl, rfl, HF'⟩
    case round =>
      obtain ⟨k, n, hk, hn, rfl, rfl, hG⟩ := hrel
      by_cases hlt : k < 4
      · obtain ⟨p, hp⟩ : ∃ p, ps[k]? = some p := ⟨ps[k]'(by rw [h4.out]; omega), List.getElem?_eq_getElem _⟩
        obtain ⟨b, off, rfl, hb, hc⟩ : ∃ b off, A = some ⟨b, off, none⟩ ∧ b < w1.heap.size ∧ ∀ j u, (ps.map sv)[j]? = some u → w1.cell? ⟨b, off + j, none⟩ = some u := by
          rcases hS.2.2 with h | h
          · omega
          · exact h
        have hcell : w1.cell? ⟨b, off + k, none⟩ = some (sv p) := hc k _ (by rw [List.getElem?_map, hp]; rfl)
        have hlt' : (k : Int) < 4 := by omega
        have hN := number_any p w1 (hpl.out p (List.mem_of_getElem? hp))
        have HD := Lib.hid (drop_at hp)
        have hn24 : n < 16777216 := by
          have : (256 : Nat) ^ k ≤ 256 ^ 3 := Nat.pow_le_pow_right (by decide) (by omega)
          omega
        clear hc hp
        cases hq : numL p with
        | none =>
          rw [hq] at hN
          have HB := Lib.hid (show fourL l = none by rw [← hG.out, HD.out, goB_none (by unfold byteL; rw [hq])])
          replace hN := Lib.hid hN
          clear hq
          go_wp2_with fail
          refine hN.out.mono ?_
          rintro e w2 ⟨rfl, rfl⟩
          unfold numV
          go_wp2_with fail
          go_ret2
          exact ⟨numU_none HB.out, hb1⟩
        | some m =>
          rw [hq] at hN
          by_cases hm : m ≤ 255
          · have HB := Lib.hid (show goB (ps.drop (k + 1)) (n * 256 + m) = fourL l by rw [← hG.out, HD.out, goB_some (b := m) (by unfold byteL; rw [hq]; exact if_pos hm)])
            have hor := or_shift n m hn24 (by omega)
            replace hN := Lib.hid hN
            have hm' : (m : Int) ≤ 255 := by omega
            have hpw : n * 256 + m < 256 ^ (k + 1) := by rw [Nat.pow_succ]; omega
            clear hq hm
            go_wp2_with fail
            refine hN.out.mono ?_
            rintro e w2 ⟨rfl, rfl⟩
            unfold numV
            go_wp2_with fail
            go_round
            case rel => exact ⟨k + 1, n * 256 + m, by omega, hpw, by go_num, by go_num, HB⟩
            case measure => simp [intOf]; omega
          · have HB := Lib.hid (show fourL l = none by rw [← hG.out, HD.out, goB_none (by unfold byteL; rw [hq]; exact if_neg hm)])
            replace hN := Lib.hid hN
            have hm' : ¬ (m : Int) ≤ 255 := by omega
            clear hq hm
            go_wp2_with fail
            refine hN.out.mono ?_
            rintro e w2 ⟨rfl, rfl⟩
            unfold numV
            go_wp2_with fail
            go_ret2
            exact ⟨numU_none HB.out, hb1⟩
      · obtain rfl : k = 4 := by omega
        have HB := Lib.hid (show fourL l = some n by rw [← hG.out, List.drop_of_length_le (by rw [h4.out]; omega)]; rfl)
        go_wp2_with fail
        go_ret2
        exact ⟨numU_some HB.out, hb1⟩
  · have HB := Lib.hid (show fourL l = none by rw [HF.out]; exact if_neg h4)
    have b0 : ((ps.length : Int) == 4) = false := by rw [beq_eq_false_iff_ne]; omega
    clear h4
    go_wp2_with fail
    go_ret2
    exact ⟨numU_none HB.out, hb1⟩
end Go.Proofs.YtkldcmmlllkhkaaGreatDoor
