/- Four numbers with points between, as the reference reads them. -/
import Derived.Test.YtokeeimppbiokaaGreatDoorPsE
import Derived.Test.YtokeeimppbiokaaGreatDoorPsF
import Derived.Test.YtokeeimppbiokaaGreatDoorDec
import Derived.Test.YtokeeimppbiokaaGreatDoorWideB
namespace Go.Proofs.YtokeeimppbiokaaGreatDoor
open Go.RowKit

theorem atoi_some {p : List UInt8} {n : Nat} (h : byteL p = some n) (w : World) (hl : p.length ≤ 100000) :
    Calls Tryz.prog 42 #[.string ⟨p.toArray⟩] w (GivesV (.tuple #[.int .i64 (n : Int), .nilIface]) w) := by
  refine (Tryz.strconv_Atoi_ok ⟨p.toArray⟩ (by rw [Lib.size_eq]; exact Nat.le_trans hl (by decide)) (n : Int) (by simpa using (byte_atoi h).2.1) w).mono ?_
  rintro e w' ⟨rfl, hw⟩
  refine ⟨rfl, ?_⟩
  rcases hw with rfl | ⟨t, rfl⟩
  · exact Below.refl _ _
  · exact Lib.bytesWorld_below _ _ _

theorem atoi_none {p : List UInt8} (h : byteL p = none) (w : World) (hC : Cons w) (hl : p.length ≤ 100000) :
    Calls Tryz.prog 42 #[.string ⟨p.toArray⟩] w fun e w' => ((∃ x T q, e = .returned (.tuple #[.int .i64 x, .iface T q])) ∨ (∃ v : Int, e = .returned (.tuple #[.int .i64 v, .nilIface]) ∧ (0 ≤ v → v ≤ 255 → Lib.itoa v ≠ p))) ∧ Below w.heap.size w w' := by
  have hsz : (⟨p.toArray⟩ : ByteArray).size ≤ 281474976710656 := by rw [Lib.size_eq]; exact Nat.le_trans hl (by decide)
  cases ha : Lib.atoiAll p with
  | ok v =>
    refine (Tryz.strconv_Atoi_ok ⟨p.toArray⟩ (by rw [Lib.size_eq]; exact Nat.le_trans hl (by decide)) v (by simpa using ha) w).mono ?_
    rintro e w' ⟨rfl, hw⟩
    refine ⟨.inr ⟨v, rfl, fun h0 h1 => byte_none h h0 h1⟩, ?_⟩
    rcases hw with rfl | ⟨t, rfl⟩
    · exact Below.refl _ _
    · exact Lib.bytesWorld_below _ _ _
  | range =>
    obtain ⟨ev, h1, h2⟩ := eran_cell hC
    refine (Tryz.strconv_Atoi_range ⟨p.toArray⟩ hsz (by simpa using ha) ev w h1 h2).mono ?_
    rintro e w' ⟨N, rfl, _, _, hb⟩
    exact ⟨.inl ⟨_, _, _, rfl⟩, hb⟩
  | _ =>
    obtain ⟨ev, h1, h2⟩ := esyn_cell hC
    refine (Any.strconv_Atoi_syntax Tryz.laysC172 ⟨p.toArray⟩ hsz (by simpa using ha) ev w h1 h2).mono ?_
    rintro e w' ⟨N, rfl, _, _, hb⟩
    exact ⟨.inl ⟨_, _, _, rfl⟩, hb⟩

theorem itoa_small (v : Int) (h0 : 0 ≤ v) (h1 : v ≤ 255) (w : World) (htab : Tabs w) :
    Calls Tryz.prog 35 #[.int .i64 v] w (GivesV (.string ⟨(Lib.itoa v).toArray⟩) w) := by
  refine (Tryz.strconv_Itoa v (by omega) (by omega) w htab.2.1).mono ?_
  rintro e w' ⟨rfl, k, os, rfl⟩
  exact ⟨rfl, Lib.below_grow _ _ (Nat.le_refl _) k os⟩

theorem inB_true {v : Int} (h0 : 0 ≤ v) (h1 : v ≤ 255) : inB v 0 255 = true := by unfold inB; simp; omega
theorem inB_false {v : Int} (h : ¬ (0 ≤ v ∧ v ≤ 255)) : inB v 0 255 = false := by unfold inB; simp; omega

set_option maxHeartbeats 2000000 in
set_option maxRecDepth 100000 in
theorem four_any (l : List UInt8) (w : World) (hC : Cons w) (hl : l.length ≤ 100000) :
    Calls Tryz.prog 28 #[.string ⟨l.toArray⟩] w (GivesV (numU (fourL l)) w) := by
  have HS := Lib.hid (split_any l 46 w hC hl)
  obtain ⟨ps, hps⟩ : ∃ ps, ps = parts l 46 := ⟨_, rfl⟩
  rw [← hps] at HS
  have HF : Hid (fourL l = fourP ps) := Lib.hid (by rw [hps]; rfl)
  have hpl : ∀ p ∈ ps, p.length ≤ 100000 := by
    rw [hps]; exact fun p hp => Nat.le_trans (parts_short l 46 p hp) hl
  replace hpl := Lib.hid hpl
  clear hps hl
  replace hC := Lib.hid hC
  go_enter Tryz.func28, Tryz.ntmps28
  go_wp2_with fail
  refine HS.out.mono ?_
  rintro e w1 ⟨A, cap, rfl, hS, hb1⟩
  replace hC := Lib.hid (hC.out.below hb1)
  have hs1 := hb1.size
  clear HS
  by_cases h4 : ps.length = 4
  · have HF' : Hid (goB (ps.drop 0) 0 = fourL l) := Lib.hid (by rw [HF.out, fourP, if_pos h4]; rfl)
    rw [h4] at hS ⊢
    replace h4 := Lib.hid h4
    go_wp2_with fail
    go_loopw [5, 17] (fun o i wr => ∃ k n : Nat, k ≤ 4 ∧ n < 256 ^ k ∧ i = .int .i64 k ∧ o = .int .u64 n ∧ Below w1.heap.size w1 wr ∧ Hid (goB (ps.drop k) n = fourL l)) (fun _ i _ => 4 - (intOf i).toNat)
    case atStart => exact ⟨0, 0, by omega, by omega, rfl, rfl, Below.refl _ _, HF'⟩
    case round =>
      obtain ⟨k, n, hk, hn, rfl, rfl, hbw, hG⟩ := hrel
      have hsw := hbw.size
      by_cases hlt : k < 4
      · obtain ⟨p, hp⟩ : ∃ p, ps[k]? = some p := ⟨ps[k]'(by rw [h4.out]; omega), List.getElem?_eq_getElem _⟩
        obtain ⟨b, off, rfl, hb, hc⟩ : ∃ b off, A = some ⟨b, off, none⟩ ∧ b < w1.heap.size ∧ ∀ j u, (ps.map sv)[j]? = some u → w1.cell? ⟨b, off + j, none⟩ = some u := by
          rcases hS.2.2 with h | h
          · omega
          · exact h
        have hcell : wr.cell? ⟨b, off + k, none⟩ = some (sv p) := by
          rw [hbw.cell (by exact hb)]; exact hc k _ (by rw [List.getElem?_map, hp]; rfl)
        have hlt' : (k : Int) < 4 := by omega
        have hCr := hC.out.below hbw
        have hpl1 := hpl.out p (List.mem_of_getElem? hp)
        have HD := Lib.hid (drop_at hp)
        have hn24 : n < 16777216 := by
          have : (256 : Nat) ^ k ≤ 256 ^ 3 := Nat.pow_le_pow_right (by decide) (by omega)
          omega
        clear hc hp
        cases hq : byteL p with
        | none =>
          have HB := Lib.hid (show fourL l = none by rw [← hG.out, HD.out, goB_none hq])
          have HA := Lib.hid (atoi_none hq wr hCr hpl1)
          have HT : Hid (Tabs wr) := Lib.hid hCr.tabs
          clear hq HD hG hpl1 hCr
          go_wp2_with fail
          refine HA.out.mono ?_
          rintro e w2 ⟨⟨x, T, q, rfl⟩ | ⟨v, rfl, hv⟩, hb2⟩
          · go_wp2_with fail
            go_ret2
            exact ⟨numU_none HB.out, hb1.trans ((hbw.trans (hb2.mono hsw)).mono hs1)⟩
          · by_cases hin : 0 ≤ v ∧ v ≤ 255
            · obtain ⟨h0, h1⟩ := hin
              have hne := hv h0 h1
              have HI : Hid (Calls Tryz.prog 37 #[.int .i64 v, .int .i64 0, .int .i64 255] w2 fun e w' => e = .returned (.bool true) ∧ w2 = w') := Lib.hid (by have := in_any v 0 255 w2; rw [inB_true h0 h1] at this; exact this)
              have HO := Lib.hid (itoa_small v h0 h1 w2 (HT.out.below hb2))
              have hbf : (Lib.itoa v == p) = false := beq_eq_false_iff_ne.2 hne
              clear hv hne HA HT
              go_wp2_with fail
              refine HI.out.mono ?_
              rintro e w3 ⟨rfl, rfl⟩
              go_wp2_with fail
              refine HO.out.mono ?_
              rintro e w3 ⟨rfl, hb3⟩
              go_wp2_with fail
              go_ret2
              exact ⟨numU_none HB.out, hb1.trans ((hbw.trans ((hb2.trans (hb3.mono hb2.size)).mono hsw)).mono hs1)⟩
            · have HI : Hid (Calls Tryz.prog 37 #[.int .i64 v, .int .i64 0, .int .i64 255] w2 fun e w' => e = .returned (.bool false) ∧ w2 = w') := Lib.hid (by have := in_any v 0 255 w2; rw [inB_false hin] at this; exact this)
              clear hv hin HA HT
              go_wp2_with fail
              refine HI.out.mono ?_
              rintro e w3 ⟨rfl, rfl⟩
              go_wp2_with fail
              go_ret2
              exact ⟨numU_none HB.out, hb1.trans ((hbw.trans (hb2.mono hsw)).mono hs1)⟩
        | some m =>
          have hB := byte_atoi hq
          have hm := hB.1
          have HB := Lib.hid (show goB (ps.drop (k + 1)) (n * 256 + m) = fourL l by rw [← hG.out, HD.out, goB_some hq])
          have HA := Lib.hid (atoi_some hq wr hpl1)
          have HI : ∀ w2, Hid (Calls Tryz.prog 37 #[.int .i64 (m : Int), .int .i64 0, .int .i64 255] w2 fun e w' => e = .returned (.bool true) ∧ w2 = w') := fun w2 => Lib.hid (by have := in_any (m : Int) 0 255 w2; rw [inB_true (by omega) (by omega)] at this; exact this)
          have HO : ∀ w2, Below wr.heap.size wr w2 → Hid (Calls Tryz.prog 35 #[.int .i64 (m : Int)] w2 (GivesV (.string ⟨p.toArray⟩) w2)) := fun w2 h2 => Lib.hid (by have := itoa_small (m : Int) (by omega) (by omega) w2 (hCr.tabs.below h2); rw [hB.2.2] at this; exact this)
          have hpw : n * 256 + m < 256 ^ (k + 1) := by rw [Nat.pow_succ]; omega
          clear hq HD hG hpl1 hCr hB
          go_wp2_with fail
          refine HA.out.mono ?_
          rintro e w2 ⟨rfl, hb2⟩
          have HI' := HI w2
          have HO' := HO w2 hb2
          clear HI HO HA
          go_wp2_with fail
          refine HI'.out.mono ?_
          rintro e w3 ⟨rfl, rfl⟩
          go_wp2_with fail
          refine HO'.out.mono ?_
          rintro e w3 ⟨rfl, hb3⟩
          have hbw3 := hbw.trans ((hb2.trans (hb3.mono hb2.size)).mono hsw)
          go_wp2_with fail
          go_roundw
          case rel => exact ⟨k + 1, n * 256 + m, by omega, hpw, by go_num, by go_num, hbw3, HB⟩
          case measure => simp [intOf]; omega
      · obtain rfl : k = 4 := by omega
        have HB := Lib.hid (show fourL l = some n by rw [← hG.out, List.drop_of_length_le (by rw [h4.out]; omega)]; rfl)
        clear hG
        go_wp2_with fail
        go_ret2
        exact ⟨numU_some HB.out, hb1.trans (hbw.mono hs1)⟩
  · have HB := Lib.hid (show fourL l = none by rw [HF.out]; exact if_neg h4)
    have b0 : ((ps.length : Int) == 4) = false := by rw [beq_eq_false_iff_ne]; omega
    clear h4
    go_wp2_with fail
    go_ret2
    exact ⟨numU_none HB.out, hb1⟩
end Go.Proofs.YtokeeimppbiokaaGreatDoor
