/- The reference: what is wrong with numbers; twice their median; four times their spread. -/
import Derived.Test.YtmfflcemceonhaaMdG
namespace Go.Proofs.Ytmfflcemceonhaa
open Go.RowKit
set_option linter.unusedVariables false
set_option linter.unusedSimpArgs false

theorem numsF_three {zs : List Int} (hx : zs ≠ []) (hl : zs.length ≤ 3000) : numsF zs = if Lib.minOf zs < 0 then 1 else if 2000000000000 < Lib.maxOf zs then 1 else 0 := by
  unfold numsF
  rw [if_neg hx, if_neg (by omega)]
  have hh : ∃ z r, zs = z :: r := by
    cases zs with
    | nil => exact absurd rfl hx
    | cons z r => exact ⟨z, r, rfl⟩
  obtain ⟨z, r, rfl⟩ := hh
  have mx : Lib.maxOf (z :: r) ∈ z :: r := by
    unfold Lib.maxOf
    rcases maxOf_mem (z :: r) ((z :: r).headD 0) with h | h
    · rw [h]; exact List.mem_cons_self
    · exact h
  have mn : Lib.minOf (z :: r) ∈ z :: r := by
    unfold Lib.minOf
    rcases minOf_mem (z :: r) ((z :: r).headD 0) with h | h
    · rw [h]; exact List.mem_cons_self
    · exact h
  have gx := (maxOf_ge (z :: r) ((z :: r).headD 0)).2
  have gn := (minOf_le (z :: r) ((z :: r).headD 0)).2
  change ∀ y ∈ z :: r, y ≤ Lib.maxOf (z :: r) at gx
  change ∀ y ∈ z :: r, Lib.minOf (z :: r) ≤ y at gn
  generalize Lib.maxOf (z :: r) = M at *
  generalize Lib.minOf (z :: r) = m at *
  generalize z :: r = l at *
  by_cases hm : m < 0
  · rw [if_pos hm, if_neg]
    intro h
    have := okNum_iff.1 (List.all_eq_true.1 h m mn)
    omega
  · rw [if_neg hm]
    by_cases hM : 2000000000000 < M
    · rw [if_pos hM, if_neg]
      intro h
      have := okNum_iff.1 (List.all_eq_true.1 h M mx)
      omega
    · rw [if_neg hM, if_pos]
      exact List.all_eq_true.2 fun y hy => okNum_iff.2 (by have := gx y hy; have := gn y hy; omega)

set_option maxHeartbeats 1000000 in
theorem numbersFault_any (A : Option Addr) (n cap : Nat) (zs : List Int) (w : World) (hS : SlE eInt w A n cap zs) (hn : n ≤ 1000000) :
    Calls Try.prog 7 #[.slice A n cap] w fun e w' => e = .returned (.int .i64 (numsF zs)) ∧ w' = w := by
  have hl := hS.1
  obtain ⟨r, hr⟩ : ∃ r, r = numsF zs := ⟨_, rfl⟩
  rw [← hr]
  by_cases h0 : n = 0
  · have hV := Lib.hid (show r = 8 by rw [hr]; unfold numsF; rw [if_pos (List.eq_nil_of_length_eq_zero (by omega))])
    subst h0
    clear hS hl hn hr
    go_enter Try.func7, Try.ntmps7
    go_wp2_with fail
    go_ret
    exact ⟨by rw [hV.out]; rfl, rfl⟩
  · have h0' : ((n : Int) == 0) = false := by simpa using h0
    have hx : zs ≠ [] := by rintro rfl; exact h0 hl
    by_cases h3 : 3000 < n
    · have hV := Lib.hid (show r = 2 by rw [hr]; unfold numsF; rw [if_neg hx, if_pos (by omega)])
      have h3' : (3000 : Int) < n := by omega
      clear hS hl hn hr hx h3 h0
      go_enter Try.func7, Try.ntmps7
      go_wp2_with fail
      go_ret
      exact ⟨by rw [hV.out]; rfl, rfl⟩
    · have h3' : ¬ (3000 : Int) < n := by omega
      have hV := numsF_three hx (by omega)
      rw [← hr] at hV
      obtain ⟨b, off, rfl, hb, hc⟩ := hS.at' (k := 0) (by omega)
      have hcz : ∀ j, j < zs.length → w.cell? ⟨b, off + j, none⟩ = some (.int .i64 (zs.getD j 0)) := by
        intro j hj
        have := hc j zs[j] (List.getElem?_eq_getElem hj) 0 (.int .i64 zs[j]) rfl
        rw [show eInt.k = 1 from rfl, Nat.mul_one, Nat.add_zero] at this
        rw [this, List.getD_eq_getElem?_getD, List.getElem?_eq_getElem hj]
        rfl
      have HX := Try.slices_Max_int b off n cap zs w (by omega) (by omega) (by omega) hcz
      have HM := Try.slices_Min_int b off n cap zs w (by omega) (by omega) (by omega) hcz
      rw [hl, List.take_length] at HX HM
      rw [← hl] at HX HM
      generalize Lib.maxOf zs = M at *
      generalize Lib.minOf zs = m at *
      replace HX := Lib.hid HX
      replace HM := Lib.hid HM
      clear hS hl hn hr hx h3 h0 hc hcz hb
      by_cases hm : m < 0
      · rw [if_pos hm] at hV
        replace hV := Lib.hid hV
        clear HX
        go_enter Try.func7, Try.ntmps7
        go_wp2_with fail
        refine HM.out.mono ?_
        rintro e w1 ⟨rfl, rfl⟩
        go_wp2_with fail
        go_ret
        exact ⟨by rw [hV.out]; rfl, rfl⟩
      · rw [if_neg hm] at hV
        by_cases hM : 2000000000000 < M
        · rw [if_pos hM] at hV
          replace hV := Lib.hid hV
          go_enter Try.func7, Try.ntmps7
          go_wp2_with fail
          refine HM.out.mono ?_
          rintro e w1 ⟨rfl, rfl⟩
          go_wp2_with fail
          refine HX.out.mono ?_
          rintro e w1 ⟨rfl, rfl⟩
          go_wp2_with fail
          go_ret
          exact ⟨by rw [hV.out]; rfl, rfl⟩
        · rw [if_neg hM] at hV
          replace hV := Lib.hid hV
          go_enter Try.func7, Try.ntmps7
          go_wp2_with fail
          refine HM.out.mono ?_
          rintro e w1 ⟨rfl, rfl⟩
          go_wp2_with fail
          refine HX.out.mono ?_
          rintro e w1 ⟨rfl, rfl⟩
          go_wp2_with fail
          go_ret
          exact ⟨by rw [hV.out]; rfl, rfl⟩

set_option maxHeartbeats 4000000 in
set_option maxRecDepth 100000 in
theorem cloneI_any (A : Option Addr) (n cap : Nat) (xs : List Int) (w : World) (hS : SlE eInt w A n cap xs) (hn : n ≤ 100000) :
    Calls Try.prog 32 #[.slice A n cap] w fun e w' => ∃ v', e = .returned v' ∧ OwnE eInt 3 w.heap.size w' v' xs ∧ Below w.heap.size w w' := by
  have q22 : ∀ (w : World) (a : Option Addr) (n c n' c' : Nat), (binOp .eql 22 (.slice a n c) (.slice none n' c')).run Try.prog w = .ok (.bool a.isNone) w := fun w a n c n' c' => Lib.run_eql_slice_nil w _ _ a n c n' c' Try.underlying22
  have hlen := Lib.hid hS.1
  have hS := Lib.hid hS
  cases A with
  | none =>
    have hxs : xs = [] := by
      rcases hS.out.2.2.2 with h | ⟨g, off, h, _⟩
      · exact List.length_eq_zero_iff.1 (by have := hlen.out; omega)
      · cases h
    subst hxs
    obtain rfl : n = 0 := by simpa using hlen.out
    clear hlen
    go_enter Try.func32, Try.ntmps32
    go_wp2_with fail
    go_ret
    exact ⟨_, rfl, OwnE.nil _ _, Below.refl _ _⟩
  | some a =>
    have hc := Lib.hid (fun j u (hj : (Enc.cells eInt xs)[j]? = some u) => hS.out.cells j u hj)
    go_enter Try.func32, Try.ntmps32
    go_wp2_with (at_builtin; refine wpList_app tyeInt rfl _ _ rfl w.heap.size _ [] xs rfl (World.ownsRow_made w #[] 0 (Nat.le_refl _) (Nat.zero_le _) (by simp)) a n cap rfl ?c1 ?c2 ?c3 ?c4 ?_)
    case c1 => exact hlen.out
    case c2 =>
      intro j u hj
      exact Lib.cell?_alloc_some _ (hc.out j u hj)
    case c3 => rw [← hlen.out]; simp; omega
    case c4 => simp
    intro v' w1 hown hgrow _
    have hB := ((Below.refl _ w).alloc (Nat.le_refl _) _).grown hgrow (by simp) (by intro k hk; simp [Value.ownBlock] at hk; omega)
    clear hgrow
    go_wp2_with fail
    go_ret
    exact ⟨v', rfl, by simpa using hown, hB⟩

/-- The length of a slice. -/
def lenS : Value → Nat
  | .slice _ n _ => n
  | _ => 0
set_option maxHeartbeats 4000000 in
set_option maxRecDepth 100000 in
theorem twice_any (A : Option Addr) (n cap : Nat) (zs : List Int) (w : World) (hS : SlE eInt w A n cap zs) (hn : n ≤ 3000) (hx : zs ≠ []) (hz : ∀ z ∈ zs, 0 ≤ z ∧ z ≤ 8000000000000) :
    Calls Try.prog 22 #[.slice A n cap] w fun e w' => e = .returned (.int .i64 (twiceI zs)) ∧ Below w.heap.size w w' := by
  have HC := Lib.hid (cloneI_any A n cap zs w hS (by omega))
  have hsl := srt_len zs
  have hne := srt_ne hx
  have hb := Lib.hid (twice_bound hx hz)
  have htw : Hid (twiceI zs = midS (srtI zs)) := Lib.hid rfl
  obtain ⟨R, hR⟩ : ∃ R, R = twiceI zs := ⟨_, rfl⟩
  rw [← hR] at htw hb ⊢
  obtain ⟨L, hL⟩ : ∃ L, L = zs.length := ⟨_, rfl⟩
  rw [← hL] at hsl
  have hLn : L ≤ 3000 := by rw [hL, ← hS.1]; exact hn
  have hL0 : 0 < L := by rw [hL]; exact List.length_pos_iff.2 hx
  have HS := Lib.hid (fun A cap W (hown : OwnE eInt 3 w.heap.size W (.slice A zs.length cap) zs) hB => sortI_any w.heap.size A cap zs W hown hB (by omega))
  rw [← hL] at HS
  replace hsl := Lib.hid hsl
  replace hne := Lib.hid hne
  replace hL := Lib.hid hL
  clear hS hx hz hR
  go_enter Try.func22, Try.ntmps22
  go_wp2_with fail
  refine HC.out.mono ?_
  rintro e w1 ⟨v, rfl, hown, hb1⟩
  obtain ⟨A', cp, rfl, _⟩ := hown.sl
  rw [← hL.out] at hown ⊢
  have hz1 := hb1.size
  go_wp2_with fail
  refine (HS.out A' cp w1 hown hz1).mono ?_
  rintro e w2 ⟨rfl, hown2, hb2⟩
  have hbw := hb1.trans hb2
  generalize srtI zs = s at *
  obtain ⟨g, cap', hv, _⟩ := hown2.form hne.out
  rw [hsl.out] at hv
  cases hv
  have hk := Lib.hid (fun j (hj : j < L) => own_mid hown2 hne.out (j := j) (by rw [hsl.out]; exact hj))
  have hcap : L ≤ cp := by rw [← hsl.out]; exact (hown2.sl).elim fun _ h => h.elim fun _ h => by cases h.1; exact h.2.2.1
  clear hown hown2 hb1 hb2 HC HS hz1
  go_wp2_with fail
  go_loopw [0] (fun vl wr => ∃ o m c : Nat, vl = .slice (some ⟨g, o, none⟩) m c ∧ Hid (o * 2 + m = L) ∧ 0 < m ∧ m ≤ c ∧ m ≤ 3000 ∧ wr = w2) (fun vl _ => lenS vl)
  case atStart => exact ⟨0, L, cp, rfl, Lib.hid (by omega), hL0, hcap, hLn, rfl⟩
  case round =>
    obtain ⟨o, m, c, rfl, ho, hm0, hmc, hm3, rfl⟩ := hrel
    by_cases h2 : 2 < m
    · have h2' : (2 : Int) < m := by omega
      have e1 : IntKind.i64.wrap ((m : Int) - 1) = (m : Int) - 1 := IntWalk.i64_in _ (by omega)
      have e2 : (1 : Int) ≤ (m : Int) - 1 := by omega
      have e3 : (m : Int) - 1 ≤ c := by omega
      have e4 : ¬ c = 1 := by omega
      have ho' := ho.out
      clear hLn hL0 hcap
      go_wp2_with fail
      go_roundw
      case rel => exact ⟨o + 1, m - 2, c - 1, by first | rfl | (congr 1; omega), Lib.hid (by omega), by omega, by omega, by omega, trivial⟩
      case measure => simp [lenS]; omega
    · have h2' : ¬ (2 : Int) < m := by omega
      have e1 : IntKind.i64.wrap ((m : Int) - 1) = (m : Int) - 1 := IntWalk.i64_in _ (by omega)
      have k1 := hk.out o (by have := ho.out; omega)
      have k2 := hk.out (o + (m - 1)) (by have := ho.out; omega)
      have hsum := Lib.hid (show s.getD o 0 + s.getD (o + (m - 1)) 0 = R by
        have := ho.out
        rw [htw.out]; unfold midS; rw [hsl.out, show (L - 1) / 2 = o by omega, show L / 2 = o + (m - 1) by omega])
      generalize s.getD o 0 = x1 at k1 hsum
      generalize s.getD (o + (m - 1)) 0 = x2 at k2 hsum
      have hxs : IntKind.i64.wrap (x1 + x2) = x1 + x2 := by have := hb.out; have := hsum.out; exact IntWalk.i64_in _ (by omega)
      have hm1 : (0 : Int) < m := by omega
      clear hLn hL0 hcap
      go_wp2_with fail
      go_quiet (fail)
      go_wp2_with fail
      go_ret
      exact ⟨by rw [← hsum.out]; rfl, ⟨hbw.os, hbw.tape, hbw.output, hbw.size, hbw.block⟩⟩
end Go.Proofs.Ytmfflcemceonhaa
