/- strconv.ParseUint to base 16: a group, or an error. -/
import Derived.Test.YtkldcmmlllkhkaaGreatDoorKqTxtG
import Derived.Test.YtkldcmmlllkhkaaGreatDoorKqPsF
import Derived.Lib.ParseIntBMem
import Derived.Test.YtkldcmmlllkhkaaGreatDoorKqShelf
import Derived.Lib.AtoiErrMem
set_option maxRecDepth 100000
namespace Go.Proofs.YtkldcmmlllkhkaaGreatDoor
open Go.RowKit

def hexP (M : Nat) : Nat → List UInt8 → Lib.NumEnd Nat
  | acc, [] => .ok acc
  | acc, c :: r => match hexD c with
    | none => Lib.NumEnd.syntax
    | some d => if M < acc * 16 + d then .range else hexP M (acc * 16 + d) r

def lowOk (n : Nat) (x : Int) : Bool := match hexD (UInt8.ofNat n) with
  | none => (decide (n < 48) || decide (57 < n)) && (decide (x < 97) || decide (103 ≤ x))
  | some d => decide (d < 16) && ((decide (48 ≤ n) && decide (n ≤ 57) && decide (n = 48 + d)) || ((decide (n < 48) || decide (57 < n)) && !decide (n = 95) && decide (97 ≤ x) && decide (x ≤ 122) && decide (x = 87 + (d : Int))))
theorem low_all : ∀ n, n < 256 → lowOk n (bits .or .u8 (n : Int) 32) = true := by decide
theorem low_none {c : UInt8} (h : hexD c = none) : ¬ (48 ≤ c.toNat ∧ c.toNat ≤ 57) ∧ (bits .or .u8 (c.toNat : Int) 32 < 97 ∨ 103 ≤ bits .or .u8 (c.toNat : Int) 32) := by
  have k := low_all c.toNat c.toNat_lt
  unfold lowOk at k
  rw [show UInt8.ofNat c.toNat = c by simp, h] at k
  simp only [Bool.and_eq_true, Bool.or_eq_true, decide_eq_true_eq] at k
  exact ⟨by omega, k.2⟩
theorem low_some {c : UInt8} {d : Nat} (h : hexD c = some d) : (48 ≤ c.toNat ∧ c.toNat ≤ 57 ∧ c.toNat = 48 + d) ∨ ((c.toNat < 48 ∨ 57 < c.toNat) ∧ c.toNat ≠ 95 ∧ 97 ≤ bits .or .u8 (c.toNat : Int) 32 ∧ bits .or .u8 (c.toNat : Int) 32 ≤ 122 ∧ bits .or .u8 (c.toNat : Int) 32 = 87 + (d : Int)) := by
  have k := low_all c.toNat c.toNat_lt
  unfold lowOk at k
  rw [show UInt8.ofNat c.toNat = c by simp, h] at k
  simp only [Bool.and_eq_true, Bool.or_eq_true, decide_eq_true_eq, Bool.not_eq_true', decide_eq_false_iff_not] at k
  rcases k.2 with k | k
  · exact .inl ⟨k.1.1, k.1.2, k.2⟩
  · exact .inr ⟨k.1.1.1.1, k.1.1.1.2, k.1.1.2, k.1.2, k.2⟩

theorem hexP_none {M acc : Nat} {c : UInt8} {r : List UInt8} (h : hexD c = none) : hexP M acc (c :: r) = Lib.NumEnd.syntax := by rw [hexP, h]
theorem hexP_some {M acc d : Nat} {c : UInt8} {r : List UInt8} (h : hexD c = some d) : hexP M acc (c :: r) = if M < acc * 16 + d then .range else hexP M (acc * 16 + d) r := by rw [hexP, h]

theorem syn_ret {T : TypeId} {M : Int} {e : Lib.NumEnd Nat} (h : e = Lib.NumEnd.syntax) : Ending.returned (.tuple #[.int .u64 0, .iface T (.int .i64 2)]) = .returned (Lib.uintTupleM T M e) := by rw [h]; rfl
theorem rng_ret {T : TypeId} {M : Int} {e : Lib.NumEnd Nat} (h : e = .range) : Ending.returned (.tuple #[.int .u64 M, .iface T (.int .i64 1)]) = .returned (Lib.uintTupleM T M e) := by rw [h]; rfl
theorem ok_ret {T : TypeId} {M : Int} {n : Nat} {e : Lib.NumEnd Nat} (h : e = .ok n) : Ending.returned (.tuple #[.int .u64 (n : Int), .nilIface]) = .returned (Lib.uintTupleM T M e) := by rw [h]; rfl
theorem lower_any (c : Int) (w : World) : Calls Tryz.prog 161 #[.int .u8 c] w fun e w' => e = .returned (.int .u8 (bits .or .u8 c 32)) ∧ w' = w := Tryz.internal_strconv_lower c w
theorem conv_str (w : World) (l : List UInt8) : (convert 9 68 (.string ⟨l.toArray⟩)).run Tryz.prog w = .ok (.slice (some ⟨w.heap.size, 0, none⟩) l.length (grownCap w l.length 0 5)) (Lib.bytesWorld w 5 ⟨l.toArray⟩) := by
  have h := Lib.run_convert_string_bytes (P := Tryz.prog) w 9 68 5 ⟨l.toArray⟩ (u := .string) (by kernel_rfl) (by kernel_rfl) (by kernel_rfl)
  rw [Lib.size_eq] at h
  exact h

set_option maxHeartbeats 8000000 in
theorem parse16_16 (l : List UInt8) (w : World) (hne : l ≠ []) (hmax : l.length ≤ 100000) :
    Calls Tryz.prog 137 #[.string ⟨l.toArray⟩, .int .i64 16, .int .i64 16] w fun e w' => e = .returned (Lib.uintTupleM 139 65535 (hexP 65535 0 l)) ∧ w' = Lib.bytesWorld w 5 ⟨l.toArray⟩ := by
  obtain ⟨t, ht⟩ : ∃ t : ByteArray, t = ⟨l.toArray⟩ := ⟨_, rfl⟩
  have hcv := conv_str w l
  have htl : t.size = l.length := by rw [ht, Lib.size_eq]
  have hB : ∀ j, j < l.length → (Lib.bytesWorld w 5 t).cell? ⟨w.heap.size, j, none⟩ = some (.int .u8 (l.getD j 0).toNat) := fun j hj => by
    have := Lib.bytesWorld_cell w 5 t j (by rw [htl]; exact hj)
    rw [ht] at this ⊢
    exact this
  rw [← ht] at hcv ⊢
  have hemp : t.toList.isEmpty = false := by
    rw [← decide_eq_emptyBytes]
    refine decide_eq_false (fun h => hne ?_)
    have : l.length = 0 := by rw [← htl, h]; rfl
    exact List.length_eq_zero_iff.1 this
  obtain ⟨W1, hW1⟩ : ∃ W1, W1 = Lib.bytesWorld w 5 t := ⟨_, rfl⟩
  rw [← hW1] at hcv hB ⊢
  clear hW1 ht
  go_enter Tryz.func137, Tryz.ntmps137
  go_wp2_with fail
  go_loop [12, 13, 101] (fun vu vn vi => ∃ (k acc : Nat) (a : Int), vu = .bool false ∧ vn = .int .u64 a ∧ vi = .int .i64 k ∧ k ≤ l.length ∧ 0 ≤ a ∧ a ≤ 65535 ∧ Hid (a = (acc : Int) ∧ hexP 65535 0 l = hexP 65535 acc (l.drop k)))
    (fun _ _ vi => l.length - (intOf vi).toNat)
  case atStart => exact ⟨0, 0, 0, rfl, rfl, rfl, by omega, by omega, by omega, Lib.hid ⟨rfl, rfl⟩⟩
  case round =>
    obtain ⟨k, acc, a, rfl, rfl, rfl, hk, ha0, ha1, hh⟩ := hrel
    by_cases hkn : k < l.length
    · have hc := hB k hkn
      obtain ⟨ha, hdec⟩ := hh.out
      clear hh
      have hdrop : l.drop k = l[k]'hkn :: l.drop (k + 1) := List.drop_eq_getElem_cons hkn
      have hget : l.getD k 0 = l[k]'hkn := by simp [List.getD, List.getElem?_eq_getElem hkn]
      rw [hdrop] at hdec
      rw [hget] at hc
      generalize l[k]'hkn = c at hc hdec
      have hc256 : c.toNat < 256 := c.toNat_lt
      clear hB hdrop hget
      cases hd : hexD c with
      | none =>
        obtain ⟨hn, hv⟩ := low_none hd
        have hv0 := bits_lo_u8 .or (c.toNat : Int) 32
        have hv1 := bits_hi_u8 .or (c.toNat : Int) 32
        have HR := Lib.hid (show hexP 65535 0 l = Lib.NumEnd.syntax by rw [hdec, hexP_none hd])
        clear hd hdec ha
        by_cases h95 : c.toNat = 95
        · rw [h95] at hc
          have hL : ∀ w, Hid (Calls Tryz.prog 161 #[.int .u8 95] w fun e w' => e = .returned (.int .u8 127) ∧ w' = w) := fun w => Lib.hid (lower_any 95 w)
          clear hn hv hv0 hv1 h95
          go_wp2_with fail
          repeat (refine (hL _).out.mono ?_; rintro e w' ⟨rfl, rfl⟩; go_wp2_with fail)
          go_ret2
          exact ⟨syn_ret HR.out, rfl⟩
        · have hL := fun w => Lib.hid (lower_any (c.toNat : Int) w)
          generalize bits .or .u8 (c.toNat : Int) 32 = v at hv hv0 hv1 hL
          rcases hv with hv | hv
          all_goals
            by_cases hlo : c.toNat < 48
            all_goals
              try replace hlo : 57 < c.toNat := by omega
              try replace hlo : (c.toNat : Int) < 48 := by omega
              try replace hlo : 57 < (c.toNat : Int) := by omega
              have h95' : ¬ (c.toNat : Int) = 95 := by omega
              have b95 : ((c.toNat : Int) == 95) = false := by rw [beq_eq_false_iff_ne]; exact h95'
              clear hn h95
              by_cases hhi : v ≤ 122
              all_goals
                go_wp2_with fail
                repeat (refine (hL _).out.mono ?_; rintro e w' ⟨rfl, rfl⟩; go_wp2_with fail)
                all_goals go_ret2
                all_goals exact ⟨syn_ret HR.out, rfl⟩
      | some d =>
        have hd16 := hexD_lt hd
        have HS := Lib.hid (show hexP 65535 0 l = if 65535 < acc * 16 + d then .range else hexP 65535 (acc * 16 + d) (l.drop (k + 1)) by rw [hdec, hexP_some hd])
        have hL := fun w => Lib.hid (lower_any (c.toNat : Int) w)
        have hv1 := bits_hi_u8 .or (c.toNat : Int) 32
        have hs := low_some hd
        clear hd hdec
        generalize bits .or .u8 (c.toNat : Int) 32 = v at hs hL hv1
        by_cases hov : 65535 < acc * 16 + d
        · have HR := Lib.hid (show hexP 65535 0 l = .range by rw [HS.out, if_pos hov])
          clear HS
          rcases hs with ⟨h1, h2, h3⟩ | ⟨h1, h2, h3, h4, h5⟩
          · have i1 : 48 ≤ (c.toNat : Int) := by omega
            have i2 : (c.toNat : Int) ≤ 57 := by omega
            have i3 : 65535 < a * 16 + ((c.toNat : Int) - 48) := by omega
            clear hL hv1 h1 h2 h3 hov ha
            go_wp2_with fail
            go_ret2
            exact ⟨rng_ret HR.out, rfl⟩
          · have i0 : 65535 < a * 16 + (v - 97 + 10) := by omega
            have i9 : v - 97 + 10 < 16 := by omega
            have h95' : ¬ (c.toNat : Int) = 95 := by omega
            have b95 : ((c.toNat : Int) == 95) = false := by rw [beq_eq_false_iff_ne]; exact h95'
            rcases h1 with h1 | h1
            all_goals
              try replace h1 : (c.toNat : Int) < 48 := by omega
              try replace h1 : 57 < (c.toNat : Int) := by omega
              clear h2 h5 hov ha hd16
              go_wp2_with fail
              repeat (refine (hL _).out.mono ?_; rintro e w' ⟨rfl, rfl⟩; go_wp2_with fail)
              go_ret2
              exact ⟨rng_ret HR.out, rfl⟩
        · have HR := Lib.hid (show hexP 65535 0 l = hexP 65535 (acc * 16 + d) (l.drop (k + 1)) by rw [HS.out, if_neg hov])
          clear HS
          rcases hs with ⟨h1, h2, h3⟩ | ⟨h1, h2, h3, h4, h5⟩
          · have i1 : 48 ≤ (c.toNat : Int) := by omega
            have i2 : (c.toNat : Int) ≤ 57 := by omega
            have i3 : a * 16 + ((c.toNat : Int) - 48) ≤ 65535 := by omega
            have HN : Hid (a * 16 + ((c.toNat : Int) - 48) = ((acc * 16 + d : Nat) : Int) ∧ hexP 65535 0 l = hexP 65535 (acc * 16 + d) (l.drop (k + 1))) := Lib.hid ⟨by omega, HR.out⟩
            clear hL hv1 h1 h2 h3 hov ha HR
            go_wp2_with fail
            go_round
            case rel => exact ⟨k + 1, acc * 16 + d, a * 16 + ((c.toNat : Int) - 48), by first | rfl | go_num, by first | rfl | go_num, by first | rfl | go_num, by omega, by omega, i3, HN⟩
            case measure => simp [intOf]; omega
          · have i0 : a * 16 + (v - 97 + 10) ≤ 65535 := by omega
            have i9 : v - 97 + 10 < 16 := by omega
            have h95' : ¬ (c.toNat : Int) = 95 := by omega
            have b95 : ((c.toNat : Int) == 95) = false := by rw [beq_eq_false_iff_ne]; exact h95'
            have HN : Hid (a * 16 + (v - 97 + 10) = ((acc * 16 + d : Nat) : Int) ∧ hexP 65535 0 l = hexP 65535 (acc * 16 + d) (l.drop (k + 1))) := Lib.hid ⟨by omega, HR.out⟩
            rcases h1 with h1 | h1
            all_goals
              try replace h1 : (c.toNat : Int) < 48 := by omega
              try replace h1 : 57 < (c.toNat : Int) := by omega
              clear h2 h5 hov ha hd16
              go_wp2_with fail
              repeat (refine (hL _).out.mono ?_; rintro e w' ⟨rfl, rfl⟩; go_wp2_with fail)
              go_round
              case rel => exact ⟨k + 1, acc * 16 + d, a * 16 + (v - 97 + 10), by first | rfl | go_num, by first | rfl | go_num, by first | rfl | go_num, by omega, by omega, i0, HN⟩
              case measure => simp [intOf]; omega
    · obtain rfl : k = l.length := by omega
      obtain ⟨ha, hdec⟩ := hh.out
      have HR := Lib.hid (show hexP 65535 0 l = .ok acc by rw [hdec, List.drop_length]; rfl)
      subst ha
      clear hdec hh hB
      go_wp2_with fail
      go_ret2
      exact ⟨ok_ret HR.out, rfl⟩

set_option maxHeartbeats 8000000 in
theorem parse16_32 (l : List UInt8) (w : World) (hne : l ≠ []) (hmax : l.length ≤ 100000) :
    Calls Tryz.prog 137 #[.string ⟨l.toArray⟩, .int .i64 16, .int .i64 32] w fun e w' => e = .returned (Lib.uintTupleM 139 4294967295 (hexP 4294967295 0 l)) ∧ w' = Lib.bytesWorld w 5 ⟨l.toArray⟩ := by
  obtain ⟨t, ht⟩ : ∃ t : ByteArray, t = ⟨l.toArray⟩ := ⟨_, rfl⟩
  have hcv := conv_str w l
  have htl : t.size = l.length := by rw [ht, Lib.size_eq]
  have hB : ∀ j, j < l.length → (Lib.bytesWorld w 5 t).cell? ⟨w.heap.size, j, none⟩ = some (.int .u8 (l.getD j 0).toNat) := fun j hj => by
    have := Lib.bytesWorld_cell w 5 t j (by rw [htl]; exact hj)
    rw [ht] at this ⊢
    exact this
  rw [← ht] at hcv ⊢
  have hemp : t.toList.isEmpty = false := by
    rw [← decide_eq_emptyBytes]
    refine decide_eq_false (fun h => hne ?_)
    have : l.length = 0 := by rw [← htl, h]; rfl
    exact List.length_eq_zero_iff.1 this
  obtain ⟨W1, hW1⟩ : ∃ W1, W1 = Lib.bytesWorld w 5 t := ⟨_, rfl⟩
  rw [← hW1] at hcv hB ⊢
  clear hW1 ht
  go_enter Tryz.func137, Tryz.ntmps137
  go_wp2_with fail
  go_loop [12, 13, 101] (fun vu vn vi => ∃ (k acc : Nat) (a : Int), vu = .bool false ∧ vn = .int .u64 a ∧ vi = .int .i64 k ∧ k ≤ l.length ∧ 0 ≤ a ∧ a ≤ 4294967295 ∧ Hid (a = (acc : Int) ∧ hexP 4294967295 0 l = hexP 4294967295 acc (l.drop k)))
    (fun _ _ vi => l.length - (intOf vi).toNat)
  case atStart => exact ⟨0, 0, 0, rfl, rfl, rfl, by omega, by omega, by omega, Lib.hid ⟨rfl, rfl⟩⟩
  case round =>
    obtain ⟨k, acc, a, rfl, rfl, rfl, hk, ha0, ha1, hh⟩ := hrel
    by_cases hkn : k < l.length
    · have hc := hB k hkn
      obtain ⟨ha, hdec⟩ := hh.out
      clear hh
      have hdrop : l.drop k = l[k]'hkn :: l.drop (k + 1) := List.drop_eq_getElem_cons hkn
      have hget : l.getD k 0 = l[k]'hkn := by simp [List.getD, List.getElem?_eq_getElem hkn]
      rw [hdrop] at hdec
      rw [hget] at hc
      generalize l[k]'hkn = c at hc hdec
      have hc256 : c.toNat < 256 := c.toNat_lt
      clear hB hdrop hget
      cases hd : hexD c with
      | none =>
        obtain ⟨hn, hv⟩ := low_none hd
        have hv0 := bits_lo_u8 .or (c.toNat : Int) 32
        have hv1 := bits_hi_u8 .or (c.toNat : Int) 32
        have HR := Lib.hid (show hexP 4294967295 0 l = Lib.NumEnd.syntax by rw [hdec, hexP_none hd])
        clear hd hdec ha
        by_cases h95 : c.toNat = 95
        · rw [h95] at hc
          have hL : ∀ w, Hid (Calls Tryz.prog 161 #[.int .u8 95] w fun e w' => e = .returned (.int .u8 127) ∧ w' = w) := fun w => Lib.hid (lower_any 95 w)
          clear hn hv hv0 hv1 h95
          go_wp2_with fail
          repeat (refine (hL _).out.mono ?_; rintro e w' ⟨rfl, rfl⟩; go_wp2_with fail)
          go_ret2
          exact ⟨syn_ret HR.out, rfl⟩
        · have hL := fun w => Lib.hid (lower_any (c.toNat : Int) w)
          generalize bits .or .u8 (c.toNat : Int) 32 = v at hv hv0 hv1 hL
          rcases hv with hv | hv
          all_goals
            by_cases hlo : c.toNat < 48
            all_goals
              try replace hlo : 57 < c.toNat := by omega
              try replace hlo : (c.toNat : Int) < 48 := by omega
              try replace hlo : 57 < (c.toNat : Int) := by omega
              have h95' : ¬ (c.toNat : Int) = 95 := by omega
              have b95 : ((c.toNat : Int) == 95) = false := by rw [beq_eq_false_iff_ne]; exact h95'
              clear hn h95
              by_cases hhi : v ≤ 122
              all_goals
                go_wp2_with fail
                repeat (refine (hL _).out.mono ?_; rintro e w' ⟨rfl, rfl⟩; go_wp2_with fail)
                all_goals go_ret2
                all_goals exact ⟨syn_ret HR.out, rfl⟩
      | some d =>
        have hd16 := hexD_lt hd
        have HS := Lib.hid (show hexP 4294967295 0 l = if 4294967295 < acc * 16 + d then .range else hexP 4294967295 (acc * 16 + d) (l.drop (k + 1)) by rw [hdec, hexP_some hd])
        have hL := fun w => Lib.hid (lower_any (c.toNat : Int) w)
        have hv1 := bits_hi_u8 .or (c.toNat : Int) 32
        have hs := low_some hd
        clear hd hdec
        generalize bits .or .u8 (c.toNat : Int) 32 = v at hs hL hv1
        by_cases hov : 4294967295 < acc * 16 + d
        · have HR := Lib.hid (show hexP 4294967295 0 l = .range by rw [HS.out, if_pos hov])
          clear HS
          rcases hs with ⟨h1, h2, h3⟩ | ⟨h1, h2, h3, h4, h5⟩
          · have i1 : 48 ≤ (c.toNat : Int) := by omega
            have i2 : (c.toNat : Int) ≤ 57 := by omega
            have i3 : 4294967295 < a * 16 + ((c.toNat : Int) - 48) := by omega
            clear hL hv1 h1 h2 h3 hov ha
            go_wp2_with fail
            go_ret2
            exact ⟨rng_ret HR.out, rfl⟩
          · have i0 : 4294967295 < a * 16 + (v - 97 + 10) := by omega
            have i9 : v - 97 + 10 < 16 := by omega
            have h95' : ¬ (c.toNat : Int) = 95 := by omega
            have b95 : ((c.toNat : Int) == 95) = false := by rw [beq_eq_false_iff_ne]; exact h95'
            rcases h1 with h1 | h1
            all_goals
              try replace h1 : (c.toNat : Int) < 48 := by omega
              try replace h1 : 57 < (c.toNat : Int) := by omega
              clear h2 h5 hov ha hd16
              go_wp2_with fail
              repeat (refine (hL _).out.mono ?_; rintro e w' ⟨rfl, rfl⟩; go_wp2_with fail)
              go_ret2
              exact ⟨rng_ret HR.out, rfl⟩
        · have HR := Lib.hid (show hexP 4294967295 0 l = hexP 4294967295 (acc * 16 + d) (l.drop (k + 1)) by rw [HS.out, if_neg hov])
          clear HS
          rcases hs with ⟨h1, h2, h3⟩ | ⟨h1, h2, h3, h4, h5⟩
          · have i1 : 48 ≤ (c.toNat : Int) := by omega
            have i2 : (c.toNat : Int) ≤ 57 := by omega
            have i3 : a * 16 + ((c.toNat : Int) - 48) ≤ 4294967295 := by omega
            have HN : Hid (a * 16 + ((c.toNat : Int) - 48) = ((acc * 16 + d : Nat) : Int) ∧ hexP 4294967295 0 l = hexP 4294967295 (acc * 16 + d) (l.drop (k + 1))) := Lib.hid ⟨by omega, HR.out⟩
            clear hL hv1 h1 h2 h3 hov ha HR
            go_wp2_with fail
            go_round
            case rel => exact ⟨k + 1, acc * 16 + d, a * 16 + ((c.toNat : Int) - 48), by first | rfl | go_num, by first | rfl | go_num, by first | rfl | go_num, by omega, by omega, i3, HN⟩
            case measure => simp [intOf]; omega
          · have i0 : a * 16 + (v - 97 + 10) ≤ 4294967295 := by omega
            have i9 : v - 97 + 10 < 16 := by omega
            have h95' : ¬ (c.toNat : Int) = 95 := by omega
            have b95 : ((c.toNat : Int) == 95) = false := by rw [beq_eq_false_iff_ne]; exact h95'
            have HN : Hid (a * 16 + (v - 97 + 10) = ((acc * 16 + d : Nat) : Int) ∧ hexP 4294967295 0 l = hexP 4294967295 (acc * 16 + d) (l.drop (k + 1))) := Lib.hid ⟨by omega, HR.out⟩
            rcases h1 with h1 | h1
            all_goals
              try replace h1 : (c.toNat : Int) < 48 := by omega
              try replace h1 : 57 < (c.toNat : Int) := by omega
              clear h2 h5 hov ha hd16
              go_wp2_with fail
              repeat (refine (hL _).out.mono ?_; rintro e w' ⟨rfl, rfl⟩; go_wp2_with fail)
              go_round
              case rel => exact ⟨k + 1, acc * 16 + d, a * 16 + (v - 97 + 10), by first | rfl | go_num, by first | rfl | go_num, by first | rfl | go_num, by omega, by omega, i0, HN⟩
              case measure => simp [intOf]; omega
    · obtain rfl : k = l.length := by omega
      obtain ⟨ha, hdec⟩ := hh.out
      have HR := Lib.hid (show hexP 4294967295 0 l = .ok acc by rw [hdec, List.drop_length]; rfl)
      subst ha
      clear hdec hh hB
      go_wp2_with fail
      go_ret2
      exact ⟨ok_ret HR.out, rfl⟩


def hexF (acc : Nat) (l : List UInt8) : Nat := l.foldl (fun n c => n * 16 + (hexD c).getD 0) acc
theorem hexF_ge : ∀ (l : List UInt8) (acc : Nat), acc ≤ hexF acc l
  | [], acc => Nat.le_refl _
  | c :: r, acc => by
    have := hexF_ge r (acc * 16 + (hexD c).getD 0)
    show acc ≤ hexF (acc * 16 + (hexD c).getD 0) r
    omega
theorem hexP_eq (M : Nat) : ∀ (l : List UInt8) (acc : Nat), acc ≤ M →
    (l.all isHex = true → hexF acc l ≤ M → hexP M acc l = .ok (hexF acc l)) ∧ (¬ (l.all isHex = true ∧ hexF acc l ≤ M) → hexP M acc l = Lib.NumEnd.syntax ∨ hexP M acc l = .range)
  | [], acc, h => ⟨fun _ _ => rfl, fun k => absurd ⟨rfl, h⟩ k⟩
  | c :: r, acc, h => by
    cases hd : hexD c with
    | none =>
      rw [hexP_none hd]
      refine ⟨fun k => ?_, fun _ => .inl rfl⟩
      rw [List.all_cons, Bool.and_eq_true] at k
      unfold isHex at k; rw [hd] at k
      cases k.1
    | some d =>
      rw [hexP_some hd]
      have e : hexF acc (c :: r) = hexF (acc * 16 + d) r := by show hexF (acc * 16 + (hexD c).getD 0) r = _; rw [hd]; rfl
      have e2 : (c :: r).all isHex = r.all isHex := by rw [List.all_cons]; unfold isHex; rw [hd]; rfl
      rw [e, e2]
      have hg := hexF_ge r (acc * 16 + d)
      by_cases hM : M < acc * 16 + d
      · rw [if_pos hM]
        exact ⟨fun _ k => by omega, fun _ => .inr rfl⟩
      · rw [if_neg hM]
        exact hexP_eq M r _ (by omega)
theorem hexP_ok {M n : Nat} {l : List UInt8} (h : hexB (M + 1) l = some n) : hexP M 0 l = .ok n := by
  unfold hexB at h
  split at h
  · rename_i k
    cases h
    exact (hexP_eq M l 0 (by omega)).1 k.2.1 (by have := k.2.2; show hexVal l ≤ M; omega)
  · cases h
theorem hexP_not {M : Nat} {l : List UInt8} (hne : l ≠ []) (h : hexB (M + 1) l = none) : hexP M 0 l = Lib.NumEnd.syntax ∨ hexP M 0 l = .range := by
  refine (hexP_eq M l 0 (by omega)).2 fun k => ?_
  unfold hexB at h
  rw [if_pos ⟨hne, k.1, by have : hexVal l ≤ M := k.2; omega⟩] at h
  cases h

def isU : Option Nat → Ending → Prop
  | some n, e => e = .returned (.tuple #[.int .u64 (n : Int), .nilIface])
  | none, e => ∃ x T p, e = .returned (.tuple #[.int .u64 x, .iface T p])
def GivesU (o : Option Nat) (w : World) (e : Ending) (w' : World) : Prop := isU o e ∧ Below w.heap.size w w'

theorem isU_none {o : Option Nat} {x : Int} {T : TypeId} {p : Value} (h : o = none) : isU o (.returned (.tuple #[.int .u64 x, .iface T p])) := by rw [h]; exact ⟨x, T, p, rfl⟩
theorem isU_some {o : Option Nat} {n : Nat} (h : o = some n) : isU o (.returned (.tuple #[.int .u64 (n : Int), .nilIface])) := by rw [h]; rfl
theorem hexB_nil (m : Nat) : hexB m [] = none := by unfold hexB; rw [if_neg]; exact fun h => h.1 rfl

theorem esyn_cell {w : World} (hC : Cons w) : ∃ ev, w.cell? ⟨1, 0, none⟩ = some ev ∧ (ev = .nilIface ∨ ∃ te pe, ev = .iface te pe) := by
  have g1 : Tryz.prog.globalNamed "strconv.ErrSyntax" = some 1 := by kernel_rfl
  obtain ⟨tp, p, h⟩ := hC.esyn
  exact ⟨_, (World.var?_cell g1 h 0).trans rfl, .inr ⟨tp, p, rfl⟩⟩
theorem eran_cell {w : World} (hC : Cons w) : ∃ ev, w.cell? ⟨2, 0, none⟩ = some ev ∧ (ev = .nilIface ∨ ∃ te pe, ev = .iface te pe) := by
  have g1 : Tryz.prog.globalNamed "strconv.ErrRange" = some 2 := by kernel_rfl
  obtain ⟨tp, p, h⟩ := hC.eran
  exact ⟨_, (World.var?_cell g1 h 0).trans rfl, .inr ⟨tp, p, rfl⟩⟩

set_option maxHeartbeats 400000 in
theorem parse16e_16 (w : World) :
    Calls Tryz.prog 137 #[.string ⟨([] : List UInt8).toArray⟩, .int .i64 16, .int .i64 16] w fun e w' => e = .returned (.tuple #[.int .u64 0, .iface 139 (.int .i64 2)]) ∧ w' = w := by
  go_enter Tryz.func137, Tryz.ntmps137
  go_wp2_with fail
  go_ret2
  exact ⟨rfl, rfl⟩

theorem inner_16 (l : List UInt8) (w : World) (hl : l.length ≤ 100000) :
    Calls Tryz.prog 137 #[.string ⟨l.toArray⟩, .int .i64 16, .int .i64 16] w fun e w' => Below w.heap.size w w' ∧ ((∃ n, hexB 65536 l = some n ∧ e = .returned (.tuple #[.int .u64 (n : Int), .nilIface])) ∨ (hexB 65536 l = none ∧ (e = .returned (.tuple #[.int .u64 0, .iface 139 (.int .i64 2)]) ∨ e = .returned (.tuple #[.int .u64 65535, .iface 139 (.int .i64 1)])))) := by
  by_cases hne : l = []
  · subst hne
    refine (parse16e_16 w).mono ?_
    rintro e w' ⟨rfl, rfl⟩
    exact ⟨Below.refl _ _, .inr ⟨hexB_nil _, .inl rfl⟩⟩
  · refine (parse16_16 l w hne hl).mono ?_
    rintro e w' ⟨rfl, rfl⟩
    refine ⟨Lib.bytesWorld_below _ _ _, ?_⟩
    cases h : hexB 65536 l with
    | some n => exact .inl ⟨n, rfl, by rw [hexP_ok h]; rfl⟩
    | none =>
      refine .inr ⟨rfl, ?_⟩
      rcases hexP_not hne h with k | k
      · rw [k]; exact .inl rfl
      · rw [k]; exact .inr rfl

set_option maxHeartbeats 1000000 in
theorem parseU_16 (l : List UInt8) (w : World) (hC : Cons w) (hl : l.length ≤ 100000) :
    Calls Tryz.prog 136 #[.string ⟨l.toArray⟩, .int .i64 16, .int .i64 16] w (GivesU (hexB 65536 l) w) := by
  have HI := Lib.hid (inner_16 l w hl)
  have hsz : (⟨l.toArray⟩ : ByteArray).size ≤ 281474976710656 := by rw [Lib.size_eq]; exact Nat.le_trans hl (by decide)
  have HT : ∀ w1, Below w.heap.size w w1 → Hid ((∀ fn : ByteArray, Calls Tryz.prog 92 #[.string fn, .string ⟨l.toArray⟩, .int .i64 16, .int .i64 16, .iface 139 (.int .i64 2)] w1 fun e w' => ∃ T p, e = .returned (.iface T p) ∧ Below w.heap.size w w') ∧ (∀ fn : ByteArray, Calls Tryz.prog 92 #[.string fn, .string ⟨l.toArray⟩, .int .i64 16, .int .i64 16, .iface 139 (.int .i64 1)] w1 fun e w' => ∃ T p, e = .returned (.iface T p) ∧ Below w.heap.size w w')) := fun w1 hb => by
    obtain ⟨ev, h1, h2⟩ := esyn_cell (hC.below hb)
    obtain ⟨er, h3, h4⟩ := eran_cell (hC.below hb)
    refine Lib.hid ⟨fun fn => ?_, fun fn => ?_⟩
    · refine (Tryz.strconv_toError_syntax fn _ 16 16 ev w1 hsz h1 h2).mono ?_
      rintro e w' ⟨N, rfl, _, _, hb'⟩
      exact ⟨_, _, rfl, hb.trans (hb'.mono hb.size)⟩
    · refine (Tryz.strconv_toError_range fn _ 16 16 er w1 hsz h3 h4).mono ?_
      rintro e w' ⟨N, rfl, _, _, hb'⟩
      exact ⟨_, _, rfl, hb.trans (hb'.mono hb.size)⟩
  clear hC hsz hl
  generalize hexB 65536 l = o at HI ⊢
  go_enter Tryz.func136, Tryz.ntmps136
  go_wp2_with fail
  refine HI.out.mono ?_
  rintro e w1 ⟨hb, ⟨n, hn, rfl⟩ | ⟨hn, rfl | rfl⟩⟩
  · have HN := Lib.hid hn
    clear hn HT
    go_wp2_with fail
    go_ret2
    exact ⟨isU_some HN.out, hb⟩
  · have HN := Lib.hid hn
    have HT1 := HT _ hb
    clear hn HT
    go_wp2_with fail
    refine (HT1.out.1 _).mono ?_
    rintro e w2 ⟨T, p, rfl, hb2⟩
    go_wp2_with fail
    go_ret2
    exact ⟨isU_none HN.out, hb2⟩
  · have HN := Lib.hid hn
    have HT1 := HT _ hb
    clear hn HT
    go_wp2_with fail
    refine (HT1.out.2 _).mono ?_
    rintro e w2 ⟨T, p, rfl, hb2⟩
    go_wp2_with fail
    go_ret2
    exact ⟨isU_none HN.out, hb2⟩

set_option maxHeartbeats 400000 in
theorem parse16e_32 (w : World) :
    Calls Tryz.prog 137 #[.string ⟨([] : List UInt8).toArray⟩, .int .i64 16, .int .i64 32] w fun e w' => e = .returned (.tuple #[.int .u64 0, .iface 139 (.int .i64 2)]) ∧ w' = w := by
  go_enter Tryz.func137, Tryz.ntmps137
  go_wp2_with fail
  go_ret2
  exact ⟨rfl, rfl⟩

theorem inner_32 (l : List UInt8) (w : World) (hl : l.length ≤ 100000) :
    Calls Tryz.prog 137 #[.string ⟨l.toArray⟩, .int .i64 16, .int .i64 32] w fun e w' => Below w.heap.size w w' ∧ ((∃ n, hexB 4294967296 l = some n ∧ e = .returned (.tuple #[.int .u64 (n : Int), .nilIface])) ∨ (hexB 4294967296 l = none ∧ (e = .returned (.tuple #[.int .u64 0, .iface 139 (.int .i64 2)]) ∨ e = .returned (.tuple #[.int .u64 4294967295, .iface 139 (.int .i64 1)])))) := by
  by_cases hne : l = []
  · subst hne
    refine (parse16e_32 w).mono ?_
    rintro e w' ⟨rfl, rfl⟩
    exact ⟨Below.refl _ _, .inr ⟨hexB_nil _, .inl rfl⟩⟩
  · refine (parse16_32 l w hne hl).mono ?_
    rintro e w' ⟨rfl, rfl⟩
    refine ⟨Lib.bytesWorld_below _ _ _, ?_⟩
    cases h : hexB 4294967296 l with
    | some n => exact .inl ⟨n, rfl, by rw [hexP_ok h]; rfl⟩
    | none =>
      refine .inr ⟨rfl, ?_⟩
      rcases hexP_not hne h with k | k
      · rw [k]; exact .inl rfl
      · rw [k]; exact .inr rfl

set_option maxHeartbeats 1000000 in
theorem parseU_32 (l : List UInt8) (w : World) (hC : Cons w) (hl : l.length ≤ 100000) :
    Calls Tryz.prog 136 #[.string ⟨l.toArray⟩, .int .i64 16, .int .i64 32] w (GivesU (hexB 4294967296 l) w) := by
  have HI := Lib.hid (inner_32 l w hl)
  have hsz : (⟨l.toArray⟩ : ByteArray).size ≤ 281474976710656 := by rw [Lib.size_eq]; exact Nat.le_trans hl (by decide)
  have HT : ∀ w1, Below w.heap.size w w1 → Hid ((∀ fn : ByteArray, Calls Tryz.prog 92 #[.string fn, .string ⟨l.toArray⟩, .int .i64 16, .int .i64 32, .iface 139 (.int .i64 2)] w1 fun e w' => ∃ T p, e = .returned (.iface T p) ∧ Below w.heap.size w w') ∧ (∀ fn : ByteArray, Calls Tryz.prog 92 #[.string fn, .string ⟨l.toArray⟩, .int .i64 16, .int .i64 32, .iface 139 (.int .i64 1)] w1 fun e w' => ∃ T p, e = .returned (.iface T p) ∧ Below w.heap.size w w')) := fun w1 hb => by
    obtain ⟨ev, h1, h2⟩ := esyn_cell (hC.below hb)
    obtain ⟨er, h3, h4⟩ := eran_cell (hC.below hb)
    refine Lib.hid ⟨fun fn => ?_, fun fn => ?_⟩
    · refine (Tryz.strconv_toError_syntax fn _ 16 32 ev w1 hsz h1 h2).mono ?_
      rintro e w' ⟨N, rfl, _, _, hb'⟩
      exact ⟨_, _, rfl, hb.trans (hb'.mono hb.size)⟩
    · refine (Tryz.strconv_toError_range fn _ 16 32 er w1 hsz h3 h4).mono ?_
      rintro e w' ⟨N, rfl, _, _, hb'⟩
      exact ⟨_, _, rfl, hb.trans (hb'.mono hb.size)⟩
  clear hC hsz hl
  generalize hexB 4294967296 l = o at HI ⊢
  go_enter Tryz.func136, Tryz.ntmps136
  go_wp2_with fail
  refine HI.out.mono ?_
  rintro e w1 ⟨hb, ⟨n, hn, rfl⟩ | ⟨hn, rfl | rfl⟩⟩
  · have HN := Lib.hid hn
    clear hn HT
    go_wp2_with fail
    go_ret2
    exact ⟨isU_some HN.out, hb⟩
  · have HN := Lib.hid hn
    have HT1 := HT _ hb
    clear hn HT
    go_wp2_with fail
    refine (HT1.out.1 _).mono ?_
    rintro e w2 ⟨T, p, rfl, hb2⟩
    go_wp2_with fail
    go_ret2
    exact ⟨isU_none HN.out, hb2⟩
  · have HN := Lib.hid hn
    have HT1 := HT _ hb
    clear hn HT
    go_wp2_with fail
    refine (HT1.out.2 _).mono ?_
    rintro e w2 ⟨T, p, rfl, hb2⟩
    go_wp2_with fail
    go_ret2
    exact ⟨isU_none HN.out, hb2⟩

def isG : Option Nat → Ending → Prop
  | some n, e => e = .returned (.tuple #[.int .u64 (n : Int), .bool true])
  | none, e => ∃ x, e = .returned (.tuple #[.int .u64 x, .bool false])
def GivesG (o : Option Nat) (w : World) (e : Ending) (w' : World) : Prop := isG o e ∧ Below w.heap.size w w'
theorem isG_none {o : Option Nat} {x : Int} {b : Bool} (h : o = none) (hb : b = false) : isG o (.returned (.tuple #[.int .u64 x, .bool b])) := by rw [h, hb]; exact ⟨x, rfl⟩
theorem isG_some {o : Option Nat} {n : Nat} {b : Bool} (h : o = some n) (hb : b = true) : isG o (.returned (.tuple #[.int .u64 (n : Int), .bool b])) := by rw [h, hb]; rfl

set_option maxHeartbeats 1000000 in
theorem readGroup_any (l : List UInt8) (w : World) (hC : Cons w) (hl : l.length ≤ 100000) :
    Calls Tryz.prog 158 #[.string ⟨l.toArray⟩] w (GivesG (groupL l) w) := by
  have HP := Lib.hid (parseU_16 l w hC hl)
  clear hC hl
  cases h : hexB 65536 l with
  | none =>
    rw [h] at HP
    have HN : Hid (groupL l = none) := Lib.hid (by unfold groupL; rw [h]; split <;> rfl)
    clear h
    go_enter Tryz.func158, Tryz.ntmps158
    go_wp2_with fail
    refine HP.out.mono ?_
    rintro e w1 ⟨⟨x, T, p, rfl⟩, hb⟩
    go_wp2_with fail
    go_ret2
    exact ⟨isG_none HN.out rfl, hb⟩
  | some n =>
    rw [h] at HP
    by_cases h4 : l.length ≤ 4
    · have h4' : (l.length : Int) ≤ 4 := by omega
      have HN : Hid (groupL l = some n) := Lib.hid (by unfold groupL; rw [h, if_pos h4])
      clear h h4
      replace h4' := Lib.hid h4'
      go_enter Tryz.func158, Tryz.ntmps158
      go_wp2_with fail
      refine HP.out.mono ?_
      rintro e w1 ⟨rfl, hb⟩
      go_wp2_with fail
      go_ret2
      exact ⟨isG_some HN.out (decide_eq_true (by have := h4'.out; omega)), hb⟩
    · have h4' : ¬ (l.length : Int) ≤ 4 := by omega
      have HN : Hid (groupL l = none) := Lib.hid (by unfold groupL; rw [if_neg h4])
      clear h h4
      replace h4' := Lib.hid h4'
      go_enter Tryz.func158, Tryz.ntmps158
      go_wp2_with fail
      refine HP.out.mono ?_
      rintro e w1 ⟨rfl, hb⟩
      go_wp2_with fail
      go_ret2
      exact ⟨isG_none HN.out (decide_eq_false (by have := h4'.out; omega)), hb⟩
end Go.Proofs.YtkldcmmlllkhkaaGreatDoor
