/- A row of groups as the reference reads it. -/
import Derived.Test.YtkldcmmlllkhkaaGreatDoorKqPsH
set_option maxRecDepth 100000
namespace Go.Proofs.YtkldcmmlllkhkaaGreatDoor
open Go.RowKit

theorem inB_len {n : Nat} (h : 1 ≤ n ∧ n ≤ 4) : inB (n : Int) 1 4 = true := by unfold inB; simp; omega
theorem inB_len' {n : Nat} (h : ¬ (1 ≤ n ∧ n ≤ 4)) : inB (n : Int) 1 4 = false := by unfold inB; simp; omega

theorem rowR_nil (t : Bool) (w : World) :
    Calls Tryz.prog 112 #[.string ⟨([] : List UInt8).toArray⟩, .bool t] w (GivesRow (some []) w) := by
  go_enter Tryz.func112, Tryz.ntmps112
  go_wp2_with fail
  go_ret2
  exact ⟨isRow_some rfl rfl Sl.none_ (fun _ => rfl), Below.refl _ _⟩

set_option maxHeartbeats 4000000 in
theorem rowR_some (l : List UInt8) (t : Bool) (w : World) (hC : Cons w) (hne : l ≠ []) (hl : l.length ≤ 100000) :
    Calls Tryz.prog 112 #[.string ⟨l.toArray⟩, .bool t] w (GivesRow (rowAP t [] (parts l 58)) w) := by
  have hemp : l.isEmpty = false := by
    cases l with
    | nil => exact absurd rfl hne
    | cons _ _ => rfl
  have HS := Lib.hid (split_any l 58 w hC hl)
  have hpn := parts_len l 58
  have hpl : ∀ p ∈ parts l 58, p.length ≤ 100000 := fun p hp => Nat.le_trans (parts_short l 58 p hp) hl
  obtain ⟨ps, hps⟩ : ∃ ps, ps = parts l 58 := ⟨_, rfl⟩
  rw [← hps] at HS hpn hpl ⊢
  replace hpl := Lib.hid hpl
  obtain ⟨i0, hi0, hz0, hz1, hz2⟩ := info_parts info_u64
  have hpn' : ps.length ≤ 100001 := by omega
  clear hps hl hne hpn
  replace hC := Lib.hid hC
  go_enter Tryz.func112, Tryz.ntmps112
  go_wp2_with fail
  refine HS.out.mono ?_
  rintro e w1 ⟨A, cap, rfl, hS, hb1⟩
  replace hC := Lib.hid (hC.out.below hb1)
  clear HS hemp
  have hz1' := hb1.size
  obtain ⟨m, hm⟩ : ∃ m, m = ps.length := ⟨_, rfl⟩
  rw [← hm] at hS hpn' ⊢
  replace hm := Lib.hid hm
  go_wp2_with fail
  go_loopw [7, 20] (fun v i wr => ∃ (k : Nat) (acc : List Nat), k ≤ m ∧ acc.length ≤ 2 * k ∧ i = .int .i64 k ∧ wr.ownsRow w1.heap.size 37 1 v acc.length (acc.map fun (g : Nat) => Value.int .u64 (g : Int)) ∧ Below w1.heap.size w1 wr ∧ Hid (rowAP t acc (ps.drop k) = rowAP t [] ps)) (fun _ i _ => m - (intOf i).toNat)
  case atStart => exact ⟨0, [], Nat.zero_le _, Nat.zero_le _, rfl, World.ownsRow_nil _ _ _ _, Below.refl _ _, Lib.hid rfl⟩
  case round =>
    obtain ⟨k, acc, hk, hacc, rfl, hown, hbw, hG⟩ := hrel
    by_cases hlt : k < m
    · obtain ⟨p, hp⟩ : ∃ p, ps[k]? = some p := ⟨ps[k]'(by rw [← hm.out]; exact hlt), List.getElem?_eq_getElem _⟩
      obtain ⟨b, off, rfl, hb, hc⟩ : ∃ b off, A = some ⟨b, off, none⟩ ∧ b < w1.heap.size ∧ ∀ j u, (ps.map sv)[j]? = some u → w1.cell? ⟨b, off + j, none⟩ = some u := by
        rcases hS.2.2 with h | h
        · omega
        · exact h
      have hcell : wr.cell? ⟨b, off + k, none⟩ = some (sv p) := by
        rw [hbw.cell (by exact hb)]; exact hc k _ (by rw [List.getElem?_map, hp]; rfl)
      have hlt' : (k : Int) < (m : Int) := by omega
      have hpl1 := hpl.out p (List.mem_of_getElem? hp)
      have hCr := hC.out.below hbw
      have HB := Lib.hid (four_any p wr hCr hpl1)
      have HD := Lib.hid (drop_at hp)
      have hr : Hid (ps.drop (k + 1) = [] ↔ k + 1 = m) := Lib.hid (by rw [List.drop_eq_nil_iff, hm.out]; have := hm.out; omega)
      have hsw := hbw.size
      have HQ : ∀ x2, Below wr.heap.size wr x2 → Hid ((Calls Tryz.prog 48 #[.int .i64 (p.length : Int), .int .i64 1, .int .i64 4] x2 fun e w' => e = .returned (.bool (inB (p.length : Int) 1 4)) ∧ x2 = w') ∧ Calls Tryz.prog 135 #[.string ⟨p.toArray⟩, .string ⟨#[48, 49, 50, 51, 52, 53, 54, 55, 56, 57, 97, 98, 99, 100, 101, 102, 65, 66, 67, 68, 69, 70]⟩] x2 (GivesV (.bool (p.all isHex)) x2)) := fun x2 hx => Lib.hid ⟨in_any _ _ _ _, only_any p x2 hpl1⟩
      have HU : ∀ x2, Below wr.heap.size wr x2 → Hid (Calls Tryz.prog 136 #[.string ⟨p.toArray⟩, .int .i64 16, .int .i64 32] x2 (GivesU (hexB 4294967296 p) x2)) := fun x2 hx => Lib.hid (parseU_32 p x2 (hCr.below hx) hpl1)
      clear hc hp hpl1 hCr
      by_cases hF : ∃ n, fourL p = some n ∧ t = true ∧ k + 1 = m
      · obtain ⟨n, hn, rfl, hk1⟩ := hF
        have hn32 := fourL_lt hn
        have HN : Hid (rowAP true (acc ++ [n / 65536, n % 65536]) (ps.drop (k + 1)) = rowAP true [] ps) := Lib.hid (by
          rw [← hG.out, HD.out, rowA_four (n := n)]
          rw [if_pos ⟨rfl, hr.out.2 hk1⟩]; exact hn)
        rw [hn] at HB
        have hk2 : (m : Int) - 1 = (k : Int) := by omega
        obtain ⟨x, hx⟩ : ∃ x, x = n / 65536 := ⟨_, rfl⟩
        obtain ⟨y, hy⟩ : ∃ y, y = n % 65536 := ⟨_, rfl⟩
        rw [← hx, ← hy] at HN
        obtain ⟨z, hz⟩ : ∃ z : Int, z = (n : Int) := ⟨_, rfl⟩
        have hand : bits .and .u64 z 65535 = (y : Int) := by rw [hz, and16' (n : Int) (by omega) (by omega), hy]; rfl
        have hdiv : z / 65536 = (x : Int) := by omega
        have hz0' : 0 ≤ z := by omega
        have hz1'' : z < 4294967296 := by omega
        have HB : Hid (Calls Tryz.prog 111 #[.string ⟨p.toArray⟩] wr (GivesV (.tuple #[.int .u64 z, .bool true]) wr)) := Lib.hid (by rw [hz]; exact HB.out)
        clear hx hy hz hn32 hn hG HD hr HQ
        go_wp2_with fail
        refine HB.out.mono ?_
        rintro e x2 ⟨rfl, hx2⟩
        have hown2 := own_below hown hx2
        have hbw2 := hbw.trans (hx2.mono hsw)
        have hs2 := hbw2.size
        clear hx2 hcell HB
        go_wp2_with (at_builtin; refine wpList_append_own _ rfl _ _ 98 rfl w1.heap.size 37 i0 (.int .u64 0) 1 8 Tryz.underlying98 hi0 hz0 hz1 hz2 rfl (by decide) _ _ _ rfl (hown2.alloc _) ⟨x2.heap.size, 0, none⟩ 2 2 [.int .u64 (x : Int), .int .u64 (y : Int)] rfl rfl ?c1 ?c2 ?c3 ?c4 ?c5 ?_)
        case c1 => exact cell_two_at _ _ _ _ _ (by simp)
        case c2 => intro u hu; simp at hu; rcases hu with rfl | rfl <;> rfl
        case c3 => unfold maxLen; omega
        case c4 => omega
        case c5 => first | omega | (simp; done) | (simp; omega)
        intro v3 x3 hown3 hg3 _
        have hbw3 : Below w1.heap.size w1 x3 := (hbw2.alloc hs2 _).grown hg3 (by first | omega | (simp; done) | (simp; omega)) (fun k h => (hown2.lt k h).1)
        clear hg3 hown2 hbw2 hbw hown
        go_wp2_with fail
        go_roundw
        case rel => exact ⟨k + 1, acc ++ [x, y], by omega, by simp; omega, by go_num, by rw [List.length_append, List.map_append]; exact hown3, hbw3, HN⟩
        case measure => simp [intOf]; omega
      · have hFn : ∀ n, fourL p = some n → t = true → k + 1 = m → False := fun n h1 h2 h3 => hF ⟨n, h1, h2, h3⟩
        clear hF
        cases hn : fourL p with
        | none =>
          have HI0 : (if t = true ∧ ps.drop (k + 1) = [] then fourL p else none) = none := (by rw [hn]; split <;> rfl)
          have HX : Hid ((groupL p = none → rowAP t [] ps = none) ∧ ∀ g, groupL p = some g → rowAP t (acc ++ [g]) (ps.drop (k + 1)) = rowAP t [] ps) := Lib.hid ⟨fun hg => by rw [← hG.out, HD.out, rowA_none HI0 hg], fun g hg => by rw [← hG.out, HD.out, rowA_group HI0 hg]⟩
          clear HI0
          rw [hn] at HB
          replace HB : Hid (Calls Tryz.prog 111 #[.string ⟨p.toArray⟩] wr (GivesV (.tuple #[.int .u64 0, .bool false]) wr)) := HB
          clear hn hFn hr hG HD
          go_wp2_with fail
          refine HB.out.mono ?_
          rintro e x1 ⟨rfl, hx1⟩
          obtain ⟨HI, HO⟩ := (HQ _ hx1).out
          have HU' := HU _ hx1
          have hown1 := own_below hown hx1
          have hbw1 := hbw.trans (hx1.mono hsw)
          have hs1 := hbw1.size
          replace HI := Lib.hid HI
          replace HO := Lib.hid HO
          clear hcell HB HQ hown hbw
          cases hg : groupL p with
          | none =>
            have HN : Hid (rowAP t [] ps = none) := Lib.hid (HX.out.1 hg)
            by_cases hin : 1 ≤ p.length ∧ p.length ≤ 4
            · have hh : p.all isHex = false := by
                rcases groupL_not hg with h | h
                · exact absurd hin h
                · exact h
              rw [hh] at HO
              rw [inB_len hin] at HI
              clear hg HX hh hin HU HU'
              go_wp2_with fail
              refine HI.out.mono ?_
              rintro e x2 ⟨rfl, rfl⟩
              go_wp2_with fail
              refine HO.out.mono ?_
              rintro e x2 ⟨rfl, hx2⟩
              have hbw2 := hbw1.trans (hx2.mono hs1)
              go_wp2_with fail
              go_ret2
              exact ⟨isRow_none HN.out, hb1.trans (hbw2.mono hz1')⟩
            · rw [inB_len' hin] at HI
              clear hg HX hin HU HU' HO
              go_wp2_with fail
              refine HI.out.mono ?_
              rintro e x2 ⟨rfl, rfl⟩
              go_wp2_with fail
              go_ret2
              exact ⟨isRow_none HN.out, hb1.trans (hbw1.mono hz1')⟩
          | some g =>
            have HN : Hid (rowAP t (acc ++ [g]) (ps.drop (k + 1)) = rowAP t [] ps) := Lib.hid (HX.out.2 g hg)
            obtain ⟨p1, p2, p3, p4⟩ := groupL_some hg
            rw [inB_len ⟨p1, p2⟩] at HI
            rw [p3] at HO
            have HU1 : ∀ x3, Below x1.heap.size x1 x3 → Hid (Calls Tryz.prog 136 #[.string ⟨p.toArray⟩, .int .i64 16, .int .i64 32] x3 (GivesU (some g) x3)) := fun x3 h3 => Lib.hid (by have := (HU x3 (hx1.trans (h3.mono hx1.size))).out; rw [p4] at this; exact this)
            clear hg HX p1 p2 p3 p4 HU HU' hx1
            go_wp2_with fail
            refine HI.out.mono ?_
            rintro e x1' ⟨rfl, rfl⟩
            go_wp2_with fail
            refine HO.out.mono ?_
            rintro e x3 ⟨rfl, hx3⟩
            have HU2 := HU1 _ hx3
            have hown3' := own_below hown1 hx3
            have hbw3' := hbw1.trans (hx3.mono hs1)
            have hs3 := hbw3'.size
            clear HU1 hx3 hown1 hbw1
            go_wp2_with fail
            refine HU2.out.mono ?_
            rintro e x2 ⟨rfl, hx2⟩
            have hown2 := own_below hown3' hx2
            have hbw2 := hbw3'.trans (hx2.mono hs3)
            have hs2 := hbw2.size
            clear hx2 HU2 hown3' hbw3'
            go_wp2_with (at_builtin; refine wpList_append_own _ rfl _ _ 98 rfl w1.heap.size 37 i0 (.int .u64 0) 1 8 Tryz.underlying98 hi0 hz0 hz1 hz2 rfl (by decide) _ _ _ rfl (hown2.alloc _) ⟨x2.heap.size, 0, none⟩ 1 1 [.int .u64 (g : Int)] rfl rfl ?c1 ?c2 ?c3 ?c4 ?c5 ?_)
            case c1 => exact cell_one_at _ _ _ _ (by simp)
            case c2 => simp; rfl
            case c3 => unfold maxLen; omega
            case c4 => omega
            case c5 => first | omega | (simp; done) | (simp; omega)
            intro v3 x3 hown3 hg3 _
            have hbw3 : Below w1.heap.size w1 x3 := (hbw2.alloc hs2 _).grown hg3 (by first | omega | (simp; done) | (simp; omega)) (fun k h => (hown2.lt k h).1)
            clear hg3 hown2 hbw2
            go_wp2_with fail
            go_roundw
            case rel => exact ⟨k + 1, acc ++ [g], by omega, by simp; omega, by go_num, by rw [List.length_append, List.map_append]; exact hown3, hbw3, HN⟩
            case measure => simp [intOf]; omega
        | some n =>
          rw [hn] at HB
          obtain ⟨z, hz⟩ : ∃ z : Int, z = (n : Int) := ⟨_, rfl⟩
          replace HB : Hid (Calls Tryz.prog 111 #[.string ⟨p.toArray⟩] wr (GivesV (.tuple #[.int .u64 z, .bool true]) wr)) := Lib.hid (by rw [hz]; exact HB.out)
          cases t with
          | false =>
            have HI0 : (if false = true ∧ ps.drop (k + 1) = [] then fourL p else none) = none := (if_neg (fun h => by cases h.1))
            have HX : Hid ((groupL p = none → rowAP false [] ps = none) ∧ ∀ g, groupL p = some g → rowAP false (acc ++ [g]) (ps.drop (k + 1)) = rowAP false [] ps) := Lib.hid ⟨fun hg => by rw [← hG.out, HD.out, rowA_none HI0 hg], fun g hg => by rw [← hG.out, HD.out, rowA_group HI0 hg]⟩
            clear HI0
            clear hn hFn hr hz hG HD
            go_wp2_with fail
            refine HB.out.mono ?_
            rintro e x1 ⟨rfl, hx1⟩
            obtain ⟨HI, HO⟩ := (HQ _ hx1).out
            have HU' := HU _ hx1
            have hown1 := own_below hown hx1
            have hbw1 := hbw.trans (hx1.mono hsw)
            have hs1 := hbw1.size
            replace HI := Lib.hid HI
            replace HO := Lib.hid HO
            clear hcell HB HQ hown hbw
            cases hg : groupL p with
            | none =>
              have HN : Hid (rowAP false [] ps = none) := Lib.hid (HX.out.1 hg)
              by_cases hin : 1 ≤ p.length ∧ p.length ≤ 4
              · have hh : p.all isHex = false := by
                  rcases groupL_not hg with h | h
                  · exact absurd hin h
                  · exact h
                rw [hh] at HO
                rw [inB_len hin] at HI
                clear hg HX hh hin HU HU'
                go_wp2_with fail
                refine HI.out.mono ?_
                rintro e x2 ⟨rfl, rfl⟩
                go_wp2_with fail
                refine HO.out.mono ?_
                rintro e x2 ⟨rfl, hx2⟩
                have hbw2 := hbw1.trans (hx2.mono hs1)
                go_wp2_with fail
                go_ret2
                exact ⟨isRow_none HN.out, hb1.trans (hbw2.mono hz1')⟩
              · rw [inB_len' hin] at HI
                clear hg HX hin HU HU' HO
                go_wp2_with fail
                refine HI.out.mono ?_
                rintro e x2 ⟨rfl, rfl⟩
                go_wp2_with fail
                go_ret2
                exact ⟨isRow_none HN.out, hb1.trans (hbw1.mono hz1')⟩
            | some g =>
              have HN : Hid (rowAP false (acc ++ [g]) (ps.drop (k + 1)) = rowAP false [] ps) := Lib.hid (HX.out.2 g hg)
              obtain ⟨p1, p2, p3, p4⟩ := groupL_some hg
              rw [inB_len ⟨p1, p2⟩] at HI
              rw [p3] at HO
              have HU1 : ∀ x3, Below x1.heap.size x1 x3 → Hid (Calls Tryz.prog 136 #[.string ⟨p.toArray⟩, .int .i64 16, .int .i64 32] x3 (GivesU (some g) x3)) := fun x3 h3 => Lib.hid (by have := (HU x3 (hx1.trans (h3.mono hx1.size))).out; rw [p4] at this; exact this)
              clear hg HX p1 p2 p3 p4 HU HU' hx1
              go_wp2_with fail
              refine HI.out.mono ?_
              rintro e x1' ⟨rfl, rfl⟩
              go_wp2_with fail
              refine HO.out.mono ?_
              rintro e x3 ⟨rfl, hx3⟩
              have HU2 := HU1 _ hx3
              have hown3' := own_below hown1 hx3
              have hbw3' := hbw1.trans (hx3.mono hs1)
              have hs3 := hbw3'.size
              clear HU1 hx3 hown1 hbw1
              go_wp2_with fail
              refine HU2.out.mono ?_
              rintro e x2 ⟨rfl, hx2⟩
              have hown2 := own_below hown3' hx2
              have hbw2 := hbw3'.trans (hx2.mono hs3)
              have hs2 := hbw2.size
              clear hx2 HU2 hown3' hbw3'
              go_wp2_with (at_builtin; refine wpList_append_own _ rfl _ _ 98 rfl w1.heap.size 37 i0 (.int .u64 0) 1 8 Tryz.underlying98 hi0 hz0 hz1 hz2 rfl (by decide) _ _ _ rfl (hown2.alloc _) ⟨x2.heap.size, 0, none⟩ 1 1 [.int .u64 (g : Int)] rfl rfl ?c1 ?c2 ?c3 ?c4 ?c5 ?_)
              case c1 => exact cell_one_at _ _ _ _ (by simp)
              case c2 => simp; rfl
              case c3 => unfold maxLen; omega
              case c4 => omega
              case c5 => first | omega | (simp; done) | (simp; omega)
              intro v3 x3 hown3 hg3 _
              have hbw3 : Below w1.heap.size w1 x3 := (hbw2.alloc hs2 _).grown hg3 (by first | omega | (simp; done) | (simp; omega)) (fun k h => (hown2.lt k h).1)
              clear hg3 hown2 hbw2
              go_wp2_with fail
              go_roundw
              case rel => exact ⟨k + 1, acc ++ [g], by omega, by simp; omega, by go_num, by rw [List.length_append, List.map_append]; exact hown3, hbw3, HN⟩
              case measure => simp [intOf]; omega
          | true =>
            have hk1 : ¬ k + 1 = m := fun h => hFn n hn rfl h
            have HI0 : (if true = true ∧ ps.drop (k + 1) = [] then fourL p else none) = none := (if_neg (fun h => hk1 (hr.out.1 h.2)))
            have HX : Hid ((groupL p = none → rowAP true [] ps = none) ∧ ∀ g, groupL p = some g → rowAP true (acc ++ [g]) (ps.drop (k + 1)) = rowAP true [] ps) := Lib.hid ⟨fun hg => by rw [← hG.out, HD.out, rowA_none HI0 hg], fun g hg => by rw [← hG.out, HD.out, rowA_group HI0 hg]⟩
            clear HI0
            have hkm : ((k : Int) == (m : Int) - 1) = false := by rw [beq_eq_false_iff_ne]; omega
            clear hn hFn hr hz hk1 hG HD
            go_wp2_with fail
            refine HB.out.mono ?_
            rintro e x1 ⟨rfl, hx1⟩
            obtain ⟨HI, HO⟩ := (HQ _ hx1).out
            have HU' := HU _ hx1
            have hown1 := own_below hown hx1
            have hbw1 := hbw.trans (hx1.mono hsw)
            have hs1 := hbw1.size
            replace HI := Lib.hid HI
            replace HO := Lib.hid HO
            clear hcell HB HQ hown hbw
            cases hg : groupL p with
            | none =>
              have HN : Hid (rowAP true [] ps = none) := Lib.hid (HX.out.1 hg)
              by_cases hin : 1 ≤ p.length ∧ p.length ≤ 4
              · have hh : p.all isHex = false := by
                  rcases groupL_not hg with h | h
                  · exact absurd hin h
                  · exact h
                rw [hh] at HO
                rw [inB_len hin] at HI
                clear hg HX hh hin HU HU'
                go_wp2_with fail
                refine HI.out.mono ?_
                rintro e x2 ⟨rfl, rfl⟩
                go_wp2_with fail
                refine HO.out.mono ?_
                rintro e x2 ⟨rfl, hx2⟩
                have hbw2 := hbw1.trans (hx2.mono hs1)
                go_wp2_with fail
                go_ret2
                exact ⟨isRow_none HN.out, hb1.trans (hbw2.mono hz1')⟩
              · rw [inB_len' hin] at HI
                clear hg HX hin HU HU' HO
                go_wp2_with fail
                refine HI.out.mono ?_
                rintro e x2 ⟨rfl, rfl⟩
                go_wp2_with fail
                go_ret2
                exact ⟨isRow_none HN.out, hb1.trans (hbw1.mono hz1')⟩
            | some g =>
              have HN : Hid (rowAP true (acc ++ [g]) (ps.drop (k + 1)) = rowAP true [] ps) := Lib.hid (HX.out.2 g hg)
              obtain ⟨p1, p2, p3, p4⟩ := groupL_some hg
              rw [inB_len ⟨p1, p2⟩] at HI
              rw [p3] at HO
              have HU1 : ∀ x3, Below x1.heap.size x1 x3 → Hid (Calls Tryz.prog 136 #[.string ⟨p.toArray⟩, .int .i64 16, .int .i64 32] x3 (GivesU (some g) x3)) := fun x3 h3 => Lib.hid (by have := (HU x3 (hx1.trans (h3.mono hx1.size))).out; rw [p4] at this; exact this)
              clear hg HX p1 p2 p3 p4 HU HU' hx1
              go_wp2_with fail
              refine HI.out.mono ?_
              rintro e x1' ⟨rfl, rfl⟩
              go_wp2_with fail
              refine HO.out.mono ?_
              rintro e x3 ⟨rfl, hx3⟩
              have HU2 := HU1 _ hx3
              have hown3' := own_below hown1 hx3
              have hbw3' := hbw1.trans (hx3.mono hs1)
              have hs3 := hbw3'.size
              clear HU1 hx3 hown1 hbw1
              go_wp2_with fail
              refine HU2.out.mono ?_
              rintro e x2 ⟨rfl, hx2⟩
              have hown2 := own_below hown3' hx2
              have hbw2 := hbw3'.trans (hx2.mono hs3)
              have hs2 := hbw2.size
              clear hx2 HU2 hown3' hbw3'
              go_wp2_with (at_builtin; refine wpList_append_own _ rfl _ _ 98 rfl w1.heap.size 37 i0 (.int .u64 0) 1 8 Tryz.underlying98 hi0 hz0 hz1 hz2 rfl (by decide) _ _ _ rfl (hown2.alloc _) ⟨x2.heap.size, 0, none⟩ 1 1 [.int .u64 (g : Int)] rfl rfl ?c1 ?c2 ?c3 ?c4 ?c5 ?_)
              case c1 => exact cell_one_at _ _ _ _ (by simp)
              case c2 => simp; rfl
              case c3 => unfold maxLen; omega
              case c4 => omega
              case c5 => first | omega | (simp; done) | (simp; omega)
              intro v3 x3 hown3 hg3 _
              have hbw3 : Below w1.heap.size w1 x3 := (hbw2.alloc hs2 _).grown hg3 (by first | omega | (simp; done) | (simp; omega)) (fun k h => (hown2.lt k h).1)
              clear hg3 hown2 hbw2
              go_wp2_with fail
              go_roundw
              case rel => exact ⟨k + 1, acc ++ [g], by omega, by simp; omega, by go_num, by rw [List.length_append, List.map_append]; exact hown3, hbw3, HN⟩
              case measure => simp [intOf]; omega
    · obtain rfl : k = m := by omega
      have HN : Hid (rowAP t [] ps = some acc) := Lib.hid (by rw [← hG.out, hm.out, List.drop_length]; rfl)
      obtain ⟨A', cap', rfl, hS', hA'⟩ := own_sl hown
      clear hown hG
      go_wp2_with fail
      go_ret2
      exact ⟨isRow_some HN.out rfl hS' hA', hb1.trans (hbw.mono hz1')⟩

theorem groupList_any (l : List UInt8) (t : Bool) (w : World) (hC : Cons w) (hl : l.length ≤ 100000) :
    Calls Tryz.prog 112 #[.string ⟨l.toArray⟩, .bool t] w (GivesRow (rowL t l) w) := by
  unfold rowL
  by_cases h : l = []
  · rw [if_pos h, h]; exact rowR_nil t w
  · rw [if_neg h]; exact rowR_some l t w hC h hl
end Go.Proofs.YtkldcmmlllkhkaaGreatDoor
