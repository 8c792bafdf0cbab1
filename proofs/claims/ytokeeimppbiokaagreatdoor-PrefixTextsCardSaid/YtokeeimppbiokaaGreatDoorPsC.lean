/- strconv.ParseUint to base 16. -/
import Derived.Test.YtokeeimppbiokaaGreatDoorCons
import Derived.Test.YtokeeimppbiokaaGreatDoorPsPl
import Derived.Lib.ParseIntBMem
namespace Go.Proofs.YtokeeimppbiokaaGreatDoor
open Go.RowKit

/-- A number to base 16 of at most M, read behind acc. -/
def hexP (M : Nat) : Nat → List UInt8 → Lib.NumEnd Nat
  | acc, [] => .ok acc
  | acc, c :: r => match hexD c with
    | none => Lib.NumEnd.syntax
    | some d => if M < acc * 16 + d then .range else hexP M (acc * 16 + d) r

/-- What the lower letter of a byte is, against its digit. -/
def lowOk (n : Nat) (x : Int) : Bool := match hexD (UInt8.ofNat n) with
  | none => (decide (n < 48) || decide (57 < n)) && (decide (x < 97) || decide (103 ≤ x))
  | some d => decide (d < 16) && ((decide (48 ≤ n) && decide (n ≤ 57) && decide (n = 48 + d)) || ((decide (n < 48) || decide (57 < n)) && !decide (n = 95) && decide (97 ≤ x) && decide (x ≤ 122) && decide (x = 87 + (d : Int))))
set_option maxRecDepth 100000 in
theorem low_all : ∀ n, n < 256 → lowOk n (bits .or .u8 (n : Int) 32) = true := by decide
theorem low_none {c : UInt8} (h : hexD c = none) : ¬ (48 ≤ c.toNat ∧ c.toNat ≤ 57) ∧ (bits .or .u8 (c.toNat : Int) 32 < 97 ∨ 103 ≤ bits .or .u8 (c.toNat : Int) 32) := by
  have k := low_all c.toNat c.toNat_lt
  unfold lowOk at k
  rw [show UInt8.ofNat c.toNat = c by simp, h] at k
  simp only [Bool.and_eq_true, Bool.or_eq_true, decide_eq_true_eq] at k
  exact ⟨by omega, k.2⟩
theorem low_some {c : UInt8} {d : Nat} (h : hexD c = some d) : (48 ≤ c.toNat ∧ c.toNat ≤ 57 ∧ c.toNat = 48 + d) ∨ ((c.toNat < 48 ∨ 57 < c.toNat) ∧ c.toNat ≠ 95 ∧ 97 ≤ bits .or .u8 (c.toNat : Int) 32 ∧ bits .or .u8 (c.toNat : Int) 32 ≤ 122 ∧ bits .or .u8 (c.toNat : Int) 32 = 87 + (d : Int)) := by
  have k := low_all c.toNat c.toNat_lt
  unfold lowOk at k
  rw [show UInt8.ofNat c.toNat = c by simp, h] at k
  simp only [Bool.and_eq_true, Bool.or_eq_true, decide_eq_true_eq, Bool.not_eq_true', decide_eq_false_iff_not] at k
  rcases k.2 with k | k
  · exact .inl ⟨k.1.1, k.1.2, k.2⟩
  · exact .inr ⟨k.1.1.1.1, k.1.1.1.2, k.1.1.2, k.1.2, k.2⟩

theorem hexP_none {M acc : Nat} {c : UInt8} {r : List UInt8} (h : hexD c = none) : hexP M acc (c :: r) = Lib.NumEnd.syntax := by rw [hexP, h]
theorem hexP_some {M acc d : Nat} {c : UInt8} {r : List UInt8} (h : hexD c = some d) : hexP M acc (c :: r) = if M < acc * 16 + d then .range else hexP M (acc * 16 + d) r := by rw [hexP, h]

theorem syn_ret {T : TypeId} {M : Int} {e : Lib.NumEnd Nat} (h : e = Lib.NumEnd.syntax) : Ending.returned (.tuple #[.int .u64 0, .iface T (.int .i64 2)]) = .returned (Lib.uintTupleM T M e) := by rw [h]; rfl
theorem rng_ret {T : TypeId} {M : Int} {e : Lib.NumEnd Nat} (h : e = .range) : Ending.returned (.tuple #[.int .u64 M, .iface T (.int .i64 1)]) = .returned (Lib.uintTupleM T M e) := by rw [h]; rfl
theorem ok_ret {T : TypeId} {M : Int} {n : Nat} {e : Lib.NumEnd Nat} (h : e = .ok n) : Ending.returned (.tuple #[.int .u64 (n : Int), .nilIface]) = .returned (Lib.uintTupleM T M e) := by rw [h]; rfl
theorem lower_any (c : Int) (w : World) : Calls Tryz.prog 110 #[.int .u8 c] w fun e w' => e = .returned (.int .u8 (bits .or .u8 c 32)) ∧ w' = w := Tryz.internal_strconv_lower c w
theorem conv_str (w : World) (l : List UInt8) : (convert 9 96 (.string ⟨l.toArray⟩)).run Tryz.prog w = .ok (.slice (some ⟨w.heap.size, 0, none⟩) l.length (grownCap w l.length 0 5)) (Lib.bytesWorld w 5 ⟨l.toArray⟩) := by
  have h := Lib.run_convert_string_bytes (P := Tryz.prog) w 9 96 5 ⟨l.toArray⟩ (u := .string) (by kernel_rfl) (by kernel_rfl) (by kernel_rfl)
  rw [Lib.size_eq] at h
  exact h

set_option maxHeartbeats 8000000 in
set_option maxRecDepth 100000 in
theorem parse16_16 (l : List UInt8) (w : World) (hne : l ≠ []) (hmax : l.length ≤ 100000) :
    Calls Tryz.prog 81 #[.string ⟨l.toArray⟩, .int .i64 16, .int .i64 16] w fun e w' => e = .returned (Lib.uintTupleM 109 65535 (hexP 65535 0 l)) ∧ w' = Lib.bytesWorld w 5 ⟨l.toArray⟩ := by
  obtain ⟨t, ht⟩ : ∃ t : ByteArray, t = ⟨l.toArray⟩ := ⟨_, rfl⟩
  have hcv := conv_str w l
  have htl : t.size = l.length := by rw [ht, Lib.size_eq]
  have hB : ∀ j, j < l.length → (Lib.bytesWorld w 5 t).cell? ⟨w.heap.size, j, none⟩ = some (.int .u8 (l.getD j 0).toNat) := fun j hj => by
    have := Lib.bytesWorld_cell w 5 t j (by rw [htl]; exact hj)
    rw [ht] at this ⊢
    exact this
  rw [← ht] at hcv ⊢
  have hemp : t.toList.isEmpty = false := by
    rw [← decide_eq_emptyBytes]
    refine decide_eq_false (fun h => hne ?_)
    have : l.length = 0 := by rw [← htl, h]; rfl
    exact List.length_eq_zero_iff.1 this
  obtain ⟨W1, hW1⟩ : ∃ W1, W1 = Lib.bytesWorld w 5 t := ⟨_, rfl⟩
  rw [← hW1] at hcv hB ⊢
  clear hW1 ht
  go_enter Tryz.func81, Tryz.ntmps81
  go_wp2_with fail
  go_loop [12, 13, 101] (fun vu vn vi => ∃ (k acc : Nat) (a : Int), vu = .bool false ∧ vn = .int .u64 a ∧ vi = .int .i64 k ∧ k ≤ l.length ∧ 0 ≤ a ∧ a ≤ 65535 ∧ Hid (a = (acc : Int) ∧ hexP 65535 0 l = hexP 65535 acc (l.drop k)))
    (fun _ _ vi => l.length - (intOf vi).toNat)
  case atStart => exact ⟨0, 0, 0, rfl, rfl, rfl, by omega, by omega, by omega, Lib.hid ⟨rfl, rfl⟩⟩
  case round =>
    obtain ⟨k, acc, a, rfl, rfl, rfl, hk, ha0, ha1, hh⟩ := hrel
    by_cases hkn : k < l.length
    · have hc := hB k hkn
      obtain ⟨ha, hdec⟩ := hh.out
      clear hh
      have hdrop : l.drop k = l[k]'hkn :: l.drop (k + 1) := List.drop_eq_getElem_cons hkn
      have hget : l.getD k 0 = l[k]'hkn := by simp [List.getD, List.getElem?_eq_getElem hkn]
      rw [hdrop] at hdec
      rw [hget] at hc
      generalize l[k]'hkn = c at hc hdec
      have hc256 : c.toNat < 256 := c.toNat_lt
      clear hB hdrop hget
      cases hd : hexD c with
      | none =>
        obtain ⟨hn, hv⟩ := low_none hd
        have hv0 := bits_lo_u8 .or (c.toNat : Int) 32
        have hv1 := bits_hi_u8 .or (c.toNat : Int) 32
        have HR := Lib.hid (show hexP 65535 0 l = Lib.NumEnd.syntax by rw [hdec, hexP_none hd])
        clear hd hdec ha
        by_cases h95 : c.toNat = 95
        · rw [h95] at hc
          have hL : ∀ w, Hid (Calls Tryz.prog 110 #[.int .u8 95] w fun e w' => e = .returned (.int .u8 127) ∧ w' = w) := fun w => Lib.hid (lower_any 95 w)
          clear hn hv hv0 hv1 h95
          go_wp2_with fail
          repeat (refine (hL _).out.mono ?_; rintro e w' ⟨rfl, rfl⟩; go_wp2_with fail)
          go_ret2
          exact ⟨syn_ret HR.out, rfl⟩
        · have hL := fun w => Lib.hid (lower_any (c.toNat : Int) w)
          generalize bits .or .u8 (c.toNat : Int) 32 = v at hv hv0 hv1 hL
          rcases hv with hv | hv
          all_goals
            by_cases hlo : c.toNat < 48
            all_goals
              try replace hlo : 57 < c.toNat := by omega
              try replace hlo : (c.toNat : Int) < 48 := by omega
              try replace hlo : 57 < (c.toNat : Int) := by omega
              have h95' : ¬ (c.toNat : Int) = 95 := by omega
              have b95 : ((c.toNat : Int) == 95) = false := by rw [beq_eq_false_iff_ne]; exact h95'
              clear hn h95
              by_cases hhi : v ≤ 122
              all_goals
                go_wp2_with fail
                repeat (refine (hL _).out.mono ?_; rintro e w' ⟨rfl, rfl⟩; go_wp2_with fail)
                all_goals go_ret2
                all_goals exact ⟨syn_ret HR.out, rfl⟩
      | some d =>
        have hd16 := hexD_lt hd
        have HS := Lib.hid (show hexP 65535 0 l = if 65535 < acc * 16 + d then .range else hexP 65535 (acc * 16 + d) (l.drop (k + 1)) by rw [hdec, hexP_some hd])
        have hL := fun w => Lib.hid (lower_any (c.toNat : Int) w)
        have hv1 := bits_hi_u8 .or (c.toNat : Int) 32
        have hs := low_some hd
        clear hd hdec
        generalize bits .or .u8 (c.toNat : Int) 32 = v at hs hL hv1
        by_cases hov : 65535 < acc * 16 + d
        · have HR := Lib.hid (show hexP 65535 0 l = .range by rw [HS.out, if_pos hov])
          clear HS
          rcases hs with ⟨h1, h2, h3⟩ | ⟨h1, h2, h3, h4, h5⟩
          · have i1 : 48 ≤ (c.toNat : Int) := by omega
            have i2 : (c.toNat : Int) ≤ 57 := by omega
            have i3 : 65535 < a * 16 + ((c.toNat : Int) - 48) := by omega
            clear hL hv1 h1 h2 h3 hov ha
            go_wp2_with fail
            go_ret2
            exact ⟨rng_ret HR.out, rfl⟩
          · have i0 : 65535 < a * 16 + (v - 97 + 10) := by omega
            have i9 : v - 97 + 10 < 16 := by omega
            have h95' : ¬ (c.toNat : Int) = 95 := by omega
            have b95 : ((c.toNat : Int) == 95) = false := by rw [beq_eq_false_iff_ne]; exact h95'
            rcases h1 with h1 | h1
            all_goals
              try replace h1 : (c.toNat : Int) < 48 := by omega
              try replace h1 : 57 < (c.toNat : Int) := by omega
              clear h2 h5 hov ha hd16
              go_wp2_with fail
              repeat (refine (hL _).out.mono ?_; rintro e w' ⟨rfl, rfl⟩; go_wp2_with fail)
              go_ret2
              exact ⟨rng_ret HR.out, rfl⟩
        · have HR := Lib.hid (show hexP 65535 0 l = hexP 65535 (acc * 16 + d) (l.drop (k + 1)) by rw [HS.out, if_neg hov])
          clear HS
          rcases hs with ⟨h1, h2, h3⟩ | ⟨h1, h2, h3, h4, h5⟩
          · have i1 : 48 ≤ (c.toNat : Int) := by omega
            have i2 : (c.toNat : Int) ≤ 57 := by omega
            have i3 : a * 16 + ((c.toNat : Int) - 48) ≤ 65535 := by omega
            have HN : Hid (a * 16 + ((c.toNat : Int) - 48) = ((acc * 16 + d : Nat) : Int) ∧ hexP 65535 0 l = hexP 65535 (acc * 16 + d) (l.drop (k + 1))) := Lib.hid ⟨by omega, HR.out⟩
            clear hL hv1 h1 h2 h3 hov ha HR
            go_wp2_with fail
            go_round
            case rel => exact ⟨k + 1, acc * 16 + d, a * 16 + ((c.toNat : Int) - 48), by first | rfl | go_num, by first | rfl | go_num, by first | rfl | go_num, by omega, by omega, i3, HN⟩
            case measure => simp [intOf]; omega
          · have i0 : a * 16 + (v - 97 + 10) ≤ 65535 := by omega
            have i9 : v - 97 + 10 < 16 := by omega
            have h95' : ¬ (c.toNat : Int) = 95 := by omega
            have b95 : ((c.toNat : Int) == 95) = false := by rw [beq_eq_false_iff_ne]; exact h95'
            have HN : Hid (a * 16 + (v - 97 + 10) = ((acc * 16 + d : Nat) : Int) ∧ hexP 65535 0 l = hexP 65535 (acc * 16 + d) (l.drop (k + 1))) := Lib.hid ⟨by omega, HR.out⟩
            rcases h1 with h1 | h1
            all_goals
              try replace h1 : (c.toNat : Int) < 48 := by omega
              try replace h1 : 57 < (c.toNat : Int) := by omega
              clear h2 h5 hov ha hd16
              go_wp2_with fail
              repeat (refine (hL _).out.mono ?_; rintro e w' ⟨rfl, rfl⟩; go_wp2_with fail)
              go_round
              case rel => exact ⟨k + 1, acc * 16 + d, a * 16 + (v - 97 + 10), by first | rfl | go_num, by first | rfl | go_num, by first | rfl | go_num, by omega, by omega, i0, HN⟩
              case measure => simp [intOf]; omega
    · obtain rfl : k = l.length := by omega
      obtain ⟨ha, hdec⟩ := hh.out
      have HR := Lib.hid (show hexP 65535 0 l = .ok acc by rw [hdec, List.drop_length]; rfl)
      subst ha
      clear hdec hh hB
      go_wp2_with fail
      go_ret2
      exact ⟨ok_ret HR.out, rfl⟩

set_option maxHeartbeats 8000000 in
set_option maxRecDepth 100000 in
theorem parse16_32 (l : List UInt8) (w : World) (hne : l ≠ []) (hmax : l.length ≤ 100000) :
    Calls Tryz.prog 81 #[.string ⟨l.toArray⟩, .int .i64 16, .int .i64 32] w fun e w' => e = .returned (Lib.uintTupleM 109 4294967295 (hexP 4294967295 0 l)) ∧ w' = Lib.bytesWorld w 5 ⟨l.toArray⟩ := by
  obtain ⟨t, ht⟩ : ∃ t : ByteArray, t = ⟨l.toArray⟩ := ⟨_, rfl⟩
  have hcv := conv_str w l
  have htl : t.size = l.length := by rw [ht, Lib.size_eq]
  have hB : ∀ j, j < l.length → (Lib.bytesWorld w 5 t).cell? ⟨w.heap.size, j, none⟩ = some (.int .u8 (l.getD j 0).toNat) := fun j hj => by
    have := Lib.bytesWorld_cell w 5 t j (by rw [htl]; exact hj)
    rw [ht] at this ⊢
    exact this
  rw [← ht] at hcv ⊢
  have hemp : t.toList.isEmpty = false := by
    rw [← decide_eq_emptyBytes]
    refine decide_eq_false (fun h => hne ?_)
    have : l.length = 0 := by rw [← htl, h]; rfl
    exact List.length_eq_zero_iff.1 this
  obtain ⟨W1, hW1⟩ : ∃ W1, W1 = Lib.bytesWorld w 5 t := ⟨_, rfl⟩
  rw [← hW1] at hcv hB ⊢
  clear hW1 ht
  go_enter Tryz.func81, Tryz.ntmps81
  go_wp2_with fail
  go_loop [12, 13, 101] (fun vu vn vi => ∃ (k acc : Nat) (a : Int), vu = .bool false ∧ vn = .int .u64 a ∧ vi = .int .i64 k ∧ k ≤ l.length ∧ 0 ≤ a ∧ a ≤ 4294967295 ∧ Hid (a = (acc : Int) ∧ hexP 4294967295 0 l = hexP 4294967295 acc (l.drop k)))
    (fun _ _ vi => l.length - (intOf vi).toNat)
  case atStart => exact ⟨0, 0, 0, rfl, rfl, rfl, by omega, by omega, by omega, Lib.hid ⟨rfl, rfl⟩⟩
  case round =>
    obtain ⟨k, acc, a, rfl, rfl, rfl, hk, ha0, ha1, hh⟩ := hrel
    by_cases hkn : k < l.length
    · have hc := hB k hkn
      obtain ⟨ha, hdec⟩ := hh.out
      clear hh
      have hdrop : l.drop k = l[k]'hkn :: l.drop (k + 1) := List.drop_eq_getElem_cons hkn
      have hget : l.getD k 0 = l[k]'hkn := by simp [List.getD, List.getElem?_eq_getElem hkn]
      rw [hdrop] at hdec
      rw [hget] at hc
      generalize l[k]'hkn = c at hc hdec
      have hc256 : c.toNat < 256 := c.toNat_lt
      clear hB hdrop hget
      cases hd : hexD c with
      | none =>
        obtain ⟨hn, hv⟩ := low_none hd
        have hv0 := bits_lo_u8 .or (c.toNat : Int) 32
        have hv1 := bits_hi_u8 .or (c.toNat : Int) 32
        have HR := Lib.hid (show hexP 4294967295 0 l = Lib.NumEnd.syntax by rw [hdec, hexP_none hd])
        clear hd hdec ha
        by_cases h95 : c.toNat = 95
        · rw [h95] at hc
          have hL : ∀ w, Hid (Calls Tryz.prog 110 #[.int .u8 95] w fun e w' => e = .returned (.int .u8 127) ∧ w' = w) := fun w => Lib.hid (lower_any 95 w)
          clear hn hv hv0 hv1 h95
          go_wp2_with fail
          repeat (refine (hL _).out.mono ?_; rintro e w' ⟨rfl, rfl⟩; go_wp2_with fail)
          go_ret2
          exact ⟨syn_ret HR.out, rfl⟩
        · have hL := fun w => Lib.hid (lower_any (c.toNat : Int) w)
          generalize bits .or .u8 (c.toNat : Int) 32 = v at hv hv0 hv1 hL
          rcases hv with hv | hv
          all_goals
            by_cases hlo : c.toNat < 48
            all_goals
              try replace hlo : 57 < c.toNat := by omega
              try replace hlo : (c.toNat : Int) < 48 := by omega
              try replace hlo : 57 < (c.toNat : Int) := by omega
              have h95' : ¬ (c.toNat : Int) = 95 := by omega
              have b95 : ((c.toNat : Int) == 95) = false := by rw [beq_eq_false_iff_ne]; exact h95'
              clear hn h95
              by_cases hhi : v ≤ 122
              all_goals
                go_wp2_with fail
                repeat (refine (hL _).out.mono ?_; rintro e w' ⟨rfl, rfl⟩; go_wp2_with fail)
                all_goals go_ret2
                all_goals exact ⟨syn_ret HR.out, rfl⟩
      | some d =>
        have hd16 := hexD_lt hd
        have HS := Lib.hid (show hexP 4294967295 0 l = if 4294967295 < acc * 16 + d then .range else hexP 4294967295 (acc * 16 + d) (l.drop (k + 1)) by rw [hdec, hexP_some hd])
        have hL := fun w => Lib.hid (lower_any (c.toNat : Int) w)
        have hv1 := bits_hi_u8 .or (c.toNat : Int) 32
        have hs := low_some hd
        clear hd hdec
        generalize bits .or .u8 (c.toNat : Int) 32 = v at hs hL hv1
        by_cases hov : 4294967295 < acc * 16 + d
        · have HR := Lib.hid (show hexP 4294967295 0 l = .range by rw [HS.out, if_pos hov])
          clear HS
          rcases hs with ⟨h1, h2, h3⟩ | ⟨h1, h2, h3, h4, h5⟩
          · have i1 : 48 ≤ (c.toNat : Int) := by omega
            have i2 : (c.toNat : Int) ≤ 57 := by omega
            have i3 : 4294967295 < a * 16 + ((c.toNat : Int) - 48) := by omega
            clear hL hv1 h1 h2 h3 hov ha
            go_wp2_with fail
            go_ret2
            exact ⟨rng_ret HR.out, rfl⟩
          · have i0 : 4294967295 < a * 16 + (v - 97 + 10) := by omega
            have i9 : v - 97 + 10 < 16 := by omega
            have h95' : ¬ (c.toNat : Int) = 95 := by omega
            have b95 : ((c.toNat : Int) == 95) = false := by rw [beq_eq_false_iff_ne]; exact h95'
            rcases h1 with h1 | h1
            all_goals
              try replace h1 : (c.toNat : Int) < 48 := by omega
              try replace h1 : 57 < (c.toNat : Int) := by omega
              clear h2 h5 hov ha hd16
              go_wp2_with fail
              repeat (refine (hL _).out.mono ?_; rintro e w' ⟨rfl, rfl⟩; go_wp2_with fail)
              go_ret2
              exact ⟨rng_ret HR.out, rfl⟩
        · have HR := Lib.hid (show hexP 4294967295 0 l = hexP 4294967295 (acc * 16 + d) (l.drop (k + 1)) by rw [HS.out, if_neg hov])
          clear HS
          rcases hs with ⟨h1, h2, h3⟩ | ⟨h1, h2, h3, h4, h5⟩
          · have i1 : 48 ≤ (c.toNat : Int) := by omega
            have i2 : (c.toNat : Int) ≤ 57 := by omega
            have i3 : a * 16 + ((c.toNat : Int) - 48) ≤ 4294967295 := by omega
            have HN : Hid (a * 16 + ((c.toNat : Int) - 48) = ((acc * 16 + d : Nat) : Int) ∧ hexP 4294967295 0 l = hexP 4294967295 (acc * 16 + d) (l.drop (k + 1))) := Lib.hid ⟨by omega, HR.out⟩
            clear hL hv1 h1 h2 h3 hov ha HR
            go_wp2_with fail
            go_round
            case rel => exact ⟨k + 1, acc * 16 + d, a * 16 + ((c.toNat : Int) - 48), by first | rfl | go_num, by first | rfl | go_num, by first | rfl | go_num, by omega, by omega, i3, HN⟩
            case measure => simp [intOf]; omega
          · have i0 : a * 16 + (v - 97 + 10) ≤ 4294967295 := by omega
            have i9 : v - 97 + 10 < 16 := by omega
            have h95' : ¬ (c.toNat : Int) = 95 := by omega
            have b95 : ((c.toNat : Int) == 95) = false := by rw [beq_eq_false_iff_ne]; exact h95'
            have HN : Hid (a * 16 + (v - 97 + 10) = ((acc * 16 + d : Nat) : Int) ∧ hexP 4294967295 0 l = hexP 4294967295 (acc * 16 + d) (l.drop (k + 1))) := Lib.hid ⟨by omega, HR.out⟩
            rcases h1 with h1 | h1
            all_goals
              try replace h1 : (c.toNat : Int) < 48 := by omega
              try replace h1 : 57 < (c.toNat : Int) := by omega
              clear h2 h5 hov ha hd16
              go_wp2_with fail
              repeat (refine (hL _).out.mono ?_; rintro e w' ⟨rfl, rfl⟩; go_wp2_with fail)
              go_round
              case rel => exact ⟨k + 1, acc * 16 + d, a * 16 + (v - 97 + 10), by first | rfl | go_num, by first | rfl | go_num, by first | rfl | go_num, by omega, by omega, i0, HN⟩
              case measure => simp [intOf]; omega
    · obtain rfl : k = l.length := by omega
      obtain ⟨ha, hdec⟩ := hh.out
      have HR := Lib.hid (show hexP 4294967295 0 l = .ok acc by rw [hdec, List.drop_length]; rfl)
      subst ha
      clear hdec hh hB
      go_wp2_with fail
      go_ret2
      exact ⟨ok_ret HR.out, rfl⟩

end Go.Proofs.YtokeeimppbiokaaGreatDoor
