/- Sets: the reference: prefixes of spans. -/
import Derived.Test.YtkldcmmlllkhkaaGreatDoorKqGzA
import Derived.Test.YtkldcmmlllkhkaaGreatDoorKqStS
import Derived.Deep.CutBlock
import Derived.Deep.DeepCutAuto
set_option linter.unusedVariables false
set_option linter.unusedSimpArgs false
set_option maxRecDepth 100000
namespace Go.Proofs.YtkldcmmlllkhkaaGreatDoor
open Go.RowKit

def GivesO {α : Type} (E : Enc α) (t : TypeId) (B : Nat) (ys : List α) (e : Ending) (w' : World) : Prop := ∃ v, e = .returned v ∧ OwnE E t B w' v ys

theorem gbo_setRow {w : World} {p q : Nat} {cs ds : List Value} {t t' : TypeId} (h : Blk w p cs t) (k : Blk w q ds t') (hne : q ≠ p) (es : Array Value) : Blk (w.setRow q es) p cs t := (setRow_other _ _ _ _ (fun e => hne e.symm)).trans h
theorem own_setRow {α : Type} {E : Enc α} {t t' : TypeId} {B q : Nat} {w : World} {v : Value} {xs : List α} {ds : List Value} (h : OwnE E t B w v xs) (k : Blk w q ds t') (hne : v.ownBlock ≠ some q) (es : Array Value) : OwnE E t B (w.setRow q es) v xs := h.gb (gb_setRow es) (.inr hne)
theorem nb_step {u v : Value} {p q s : Nat} (h : Hid (u.ownBlock ≠ some p ∧ u.ownBlock ≠ some q)) (ho : v.ownBlock = u.ownBlock ∨ v.ownBlock = some s) (hp : p < s) (hq : q < s) : Hid (v.ownBlock ≠ some p ∧ v.ownBlock ≠ some q) := Lib.hid (by
  rcases ho with e | e
  · rw [e]; exact h.out
  · rw [e]
    refine ⟨fun e => ?_, fun e => ?_⟩ <;> (have := Option.some.inj e; omega))
theorem Blk.gbo {w w' : World} {p : Nat} {o : Option Nat} {cs : List Value} {t : TypeId} (h : Blk w p cs t) (hg : w.grownBy w' o) (hne : o ≠ some p) : Blk w' p cs t := (hg.block p h.lt (fun e => hne e.symm)).trans h

set_option maxHeartbeats 8000000 in
theorem prefixesR_any (A : Option Addr) (n cap : Nat) (xs : List (Ad × Ad)) (w : World) (hS : SlE eSp w A n cap xs) (hn : n ≤ 1000) (hR : ∀ x ∈ xs, RgR x) :
    Calls Tryz.prog 53 #[.slice A n cap] w fun e w' => GivesO ePf 41 w.heap.size (pfsOf (xs.map rowA)) e w' ∧ Below w.heap.size w w' := by
  have hpl := Lib.hid hS.1
  replace hS := Lib.hid hS
  replace hR := Lib.hid hR
  go_enter Tryz.func53, Tryz.ntmps53
  go_wp2_with fail
  go_loopw [3, 13] (fun o i wr => ∃ k : Nat, k ≤ n ∧ i = .int .i64 k ∧ OwnE ePf 41 w.heap.size wr o (pfsOf ((xs.map rowA).take k)) ∧ Below w.heap.size w wr) (fun _ i _ => n - (intOf i).toNat)
  case atStart => exact ⟨0, by omega, rfl, OwnE.nil _ _, Below.refl _ _⟩
  case round =>
    obtain ⟨k, hk, rfl, hown, hbw⟩ := hrel
    by_cases hlt : k < n
    · obtain ⟨x, hx⟩ : ∃ x, xs[k]? = some x := ⟨xs[k]'(by have := hpl.out; omega), List.getElem?_eq_getElem _⟩
      obtain ⟨g0, off, rfl, hg0, hc0⟩ := hS.out.at' hlt
      have hld := SlE.ld rowSp (hS.out.below hbw) hx
      replace hld : (ldT 106 (.pointer (some ⟨g0, off + k * 18, none⟩))).run Tryz.prog wr = .ok (.value (spA x)) wr := hld
      have hxR := hR.out x (List.mem_of_getElem? hx)
      have hlt' : (k : Int) < n := by omega
      have hsw := hbw.size
      have htk := Lib.hid (show pfsOf ((xs.map rowA).take (k + 1)) = pfsOf ((xs.map rowA).take k) ++ (cutN x.1.n (x.2.n + 1)).map pfOf by
        rw [List.take_add_one, List.getElem?_map, hx]
        show (cuts (_ ++ [rowA x])).map pfOf = _
        rw [cuts_app, cuts_one, List.map_append]; rfl)
      have hT := Lib.hid (show (pfsOf ((xs.map rowA).take k)).length + (cutN x.1.n (x.2.n + 1)).length ≤ 258000 by
        have h1 := cuts_len ((xs.map rowA).take k) (fun y hy => by
          obtain ⟨z, hz, rfl⟩ := List.mem_map.1 (List.mem_of_mem_take hy)
          exact rowA_row (hR.out z hz))
        have h2 : (cutN x.1.n (x.2.n + 1)).length ≤ 258 := cut_len_le (rowA_row hxR).2.small
        rw [List.length_take] at h1
        have h3 : min k (xs.map rowA).length ≤ k := Nat.min_le_left _ _
        have h4 := Nat.mul_le_mul_right 258 h3
        show ((cuts _).map pfOf).length + _ ≤ _
        rw [List.length_map]
        omega)
      have hRow := rowA_row hxR
      have hN0 := Lib.hid (show x.1.n < x.2.n + 1 ∧ OkX x.1.n (x.2.n + 1) from hRow)
      have hxn := hxR.n_lt
      have S1 := stT_new rowSp (te := 106) wr wr.heap.size rfl [.int .i64 0, .int .i64 0, .int .i64 0, .int .i64 0, .int .i64 0, .int .i64 0, .int .i64 0, .int .i64 0, .int .i64 0, .int .i64 0, .int .i64 0, .int .i64 0, .int .i64 0, .int .i64 0, .int .i64 0, .int .i64 0, .int .i64 0, .int .i64 0] (spC x) rfl rfl (spC_one x)
      have S5 := stT_new rowW (te := 81) (wr.alloc (.cells (spC x).toArray 106)) (wr.heap.size + 1) (by simp) [.int .i64 0, .int .i64 0, .int .i64 0, .int .i64 0, .int .i64 0, .int .i64 0, .int .i64 0, .int .i64 0, .int .i64 0] (digN x.1.n) rfl rfl (digN_one _)
      clear hc0 hx hRow
      obtain ⟨h5, h6⟩ := two_new wr (spC x) (digN x.1.n) 106 81
      have k5 := (Blk.new wr (spC x) 106).ldAt rowW 0 (digN x.1.n) (digN x.2.n) rfl rfl
      have hnb : Hid (u3.ownBlock ≠ some wr.heap.size ∧ u3.ownBlock ≠ some (wr.heap.size + 1)) := Lib.hid ⟨fun e => by have := hown.lt _ e; omega, fun e => by have := hown.lt _ e; omega⟩
      replace hown := (hown.alloc' (.cells (spC x).toArray 106)).alloc' (.cells (digN x.1.n).toArray 81)
      replace hbw := (hbw.alloc hsw (.cells (spC x).toArray 106)).alloc (by simp; omega) (.cells (digN x.1.n).toArray 81)
      obtain ⟨p5, hp5⟩ : ∃ p, Hid (p = wr.heap.size) := ⟨_, Lib.hid rfl⟩
      generalize hTT : pfsOf ((xs.map rowA).take k) = T at *
      clear hTT
      have hp6 : Hid (w.heap.size ≤ wr.heap.size + 1) := Lib.hid (by omega)
      clear hsw
      go_wp2_with fail
      go_loopw [3] (fun o wm => ∃ (N : Nat) (L : List Pf), Hid (N < x.2.n + 1 ∧ OkX N (x.2.n + 1) ∧ L ++ (cutN N (x.2.n + 1)).map pfOf = T ++ (cutN x.1.n (x.2.n + 1)).map pfOf) ∧ OwnE ePf 41 w.heap.size wm o L ∧ Hid (o.ownBlock ≠ some wr.heap.size ∧ o.ownBlock ≠ some (wr.heap.size + 1)) ∧ Blk wm wr.heap.size (spC x) 106 ∧ Blk wm (wr.heap.size + 1) (digN N) 81 ∧ Below w.heap.size w wm) (fun o _ => (T ++ (cutN x.1.n (x.2.n + 1)).map pfOf).length - slLen o)
      case atStart => exact ⟨x.1.n, T, Lib.hid ⟨hN0.out.1, hN0.out.2, rfl⟩, hown, hnb, h5, h6, hbw⟩
      case round =>
        clear hown hnb h5 h6 hbw S1 S5 k5 hld
        obtain ⟨N, L, hI, hown, hnb, h5, h6, hbw⟩ := hrel
        obtain ⟨hI1, hI2⟩ := (okX_ad hI.out.2.1 hI.out.1)
        have hNe := hI.out.1
        have HA := fun w' => Lib.hid (addr_w N w' (by omega))
        have HLn := fun w' => Lib.hid (length_w (adOf N) w')
        have k6 := h6.ld rowW rfl
        have haR := Lib.hid hI1
        have hlen : 0 ≤ lenZ (adOf N).s ∧ lenZ (adOf N).s ≤ 128 := by rcases lenZ_le (adOf N).s with h | h <;> omega
        clear hI1 hI2 hNe
        obtain ⟨a, ha⟩ : ∃ a, Hid (adOf N = a) := ⟨_, Lib.hid rfl⟩
        rw [ha.out] at HA HLn haR hlen
        obtain ⟨l, hl⟩ : ∃ l, lenZ a.s = l := ⟨_, rfl⟩
        rw [hl] at HLn hlen
        go_wp2_with fail
        refine (HA _).out.mono ?_
        rintro e w1 ⟨rfl, hv1⟩
        replace h5 := h5.below hv1
        replace h6 := h6.below hv1
        replace hown := hown.below hv1
        replace hbw := hbw.trans (hv1.mono hbw.size)
        clear hv1 k6
        have S6 := stT_new rowAd (te := 39) w1 w1.heap.size rfl [.bool false, .int .u64 0, .int .u64 0] (adC a) rfl rfl (adC_one _)
        have h7 := Blk.new w1 (adC a) 39
        have hsz := hbw.size
        replace h5 := h5.alloc (.cells (adC a).toArray 39)
        replace h6 := h6.alloc (.cells (adC a).toArray 39)
        replace hown := hown.alloc' (.cells (adC a).toArray 39)
        replace hbw := hbw.alloc hsz (.cells (adC a).toArray 39)
        have k7 := h7.ld rowAd rfl
        go_wp2_with fail
        refine (HLn _).out.mono ?_
        rintro e W ⟨rfl, hv1⟩
        replace h5 := h5.below hv1
        replace h6 := h6.below hv1
        replace h7 := h7.below hv1
        replace hown := hown.below hv1
        replace hbw := hbw.trans (hv1.mono hbw.size)
        clear hv1 k7 S6 HA HLn hsz
        go_upto_block 4 with fail
        go_cut [8] (fun b wx => ∃ j : Nat, b = .int .i64 (l - j) ∧ Hid (Fits N (x.2.n + 1) j ∧ ¬ Fits N (x.2.n + 1) (j + 1)) ∧ Below W.heap.size W wx)
        case first =>
          clear hown hbw
          as_aux_lemma =>
          go_wp2_with fail
          go_loopw [8] (fun b wx => ∃ (z : Int) (j : Nat), b = .int .i64 z ∧ 0 ≤ z ∧ z ≤ 128 ∧ Hid (z = l - j ∧ Fits N (x.2.n + 1) j) ∧ Below W.heap.size W wx) (fun b _ => (intOf b).toNat)
          case atStart => exact ⟨l, 0, rfl, hlen.1, hlen.2, Lib.hid ⟨by simp, fits_zero hI.out.1⟩, Below.refl _ _⟩
          case round =>
            obtain ⟨z, j, rfl, hz0, hz1, hz, hbx⟩ := hrel
            by_cases hz2 : 0 < z
            · have hW : IntKind.i64.wrap (z - 1) = z - 1 := IntWalk.i64_in _ (by omega)
              replace h5 := h5.below hbx
              replace h6 := h6.below hbx
              replace h7 := h7.below hbx
              have k7 := h7.ld rowAd rfl
              have S9 := stT_new rowPf (te := 41) wr wr.heap.size rfl [.bool false, .int .u64 0, .int .u64 0, .int .i64 0] (pfC (a, z - 1)) rfl rfl (pfC_one _)
              have HF := fun w' => Lib.hid (firstOf_w a (z - 1) w' haR.out.1 (by omega) (by rw [hl]; have := hz.out.1; omega))
              have hj : (lenZ a.s - (z - 1)).toNat = j + 1 ∧ j + 1 ≤ 128 := by have := hz.out.1; rw [hl]; omega
              rw [hj.1] at HF
              have hfi := first_iff hI.out.2.1 hI.out.1 hj.2
              rw [ha.out] at hfi
              have hFl : s2n a.s + clr a.v (j + 1) < 2 ^ 144 := by
                have h1 := clr_le a.v (j + 1)
                have h2 := haR.out.1.v_lt
                have h3 : s2n a.s ≤ 2 ^ 128 := by cases a.s <;> decide
                omega
              have hNl : N < 2 ^ 144 := by have := hI.out.1; omega
              have hq := eqN_iff hFl hNl
              have h9 := Blk.new wr (pfC (a, z - 1)) 41
              have hsz := hbx.size
              replace h5 := h5.alloc (.cells (pfC (a, z - 1)).toArray 41)
              replace h6 := h6.alloc (.cells (pfC (a, z - 1)).toArray 41)
              replace h7 := h7.alloc (.cells (pfC (a, z - 1)).toArray 41)
              replace hbx := hbx.alloc hsz (.cells (pfC (a, z - 1)).toArray 41)
              by_cases hd : 2 ^ (j + 1) ∣ N
              · have hFN := hfi.2 hd
                rw [hFN] at HF hq
                have hq1 : eqN N N = true := by rw [hq]; exact decide_eq_true rfl
                have hclr : clr a.v (j + 1) = a.v := dvd_clr (by
                  have := (dvd_num (N := N) hj.2).2 hd
                  rwa [ha.out] at this)
                have hqR : Pf.R (a, z - 1) := ⟨haR.out, by show 0 ≤ z - 1; omega, by show z - 1 ≤ lenZ a.s; rw [hl]; have := hz.out.1; omega, by show clr a.v (lenZ a.s - (z - 1)).toNat = a.v; rw [hj.1]; exact hclr⟩
                have HL := fun w' => Lib.hid (lastOf_w (a, z - 1) w' hqR)
                have hfr : freeB (a, z - 1) = j + 1 := hj.1
                have han : a.n = N := by rw [← ha.out]; exact (okX_ad hI.out.2.1 hI.out.1).2
                rw [hfr] at HL
                rw [show ((a, z - 1) : Pf).1.n = N from han] at HL
                have hP := Nat.two_pow_pos (j + 1)
                have htop : 2 ^ (j + 1) ≤ 2 ^ 128 := Nat.pow_le_pow_right (by decide) hj.2
                have HC := fun w' => Lib.hid (wcmp_d (N + 2 ^ (j + 1) - 1) x.2.n w' (by have := hI.out.1; omega) (by omega))
                have hcg := cmpN_gt (N + 2 ^ (j + 1) - 1) x.2.n
                have hlen9 := hl
                by_cases hE : N + 2 ^ (j + 1) ≤ x.2.n + 1
                · have HV : ¬ 0 < cmpN (N + 2 ^ (j + 1) - 1) x.2.n := by
                    rw [decide_eq_false (show ¬ x.2.n < N + 2 ^ (j + 1) - 1 by omega)] at hcg
                    exact of_decide_eq_false hcg
                  have hres := Lib.hid (show z - 1 = l - ((j + 1 : Nat) : Int) ∧ Fits N (x.2.n + 1) (j + 1) from ⟨by have := hz.out.1; omega, hd, hE⟩)
                  clear hcg htop hP hclr hqR hFN hd hE hfi hFl hNl hq hj hfr han
                  generalize cmpN (N + 2 ^ (j + 1) - 1) x.2.n = c at *
                  generalize N + 2 ^ (j + 1) - 1 = Y at *
                  go_wp2_with fail
                  refine wx_begin (none) [] (by kernel_rfl) (fun u0 hb0' hz0' => ?_)
                  replace h5 := h5.below hb0'
                  replace h6 := h6.below hb0'
                  replace h7 := h7.below hb0'
                  replace h9 := h9.below hb0'
                  replace hbx := hbx.trans (hb0'.mono hbx.size)
                  clear hb0' hz0'
                  refine wx_takeZ 0 (some 29) (v := ?_) ?_ ?_; rotate_left; · (intro u hu; have k7 := (h7.gn hu).ld rowAd rfl; have k6 := (h6.gn hu).ld rowW rfl; have k9 := (h9.gn hu).ld rowPf rfl; have k5 := (h5.gn hu).ldAt rowW 9 (digN x.2.n) [] rfl rfl; go_simp; try with_reducible rfl)
                  try simp only [Act.put, gzD, gzE, gzF]
                  refine wx_pureZ 1 (some 30) (v := ?_) ?_ ?_; rotate_left; · (intro u; go_simp; try with_reducible rfl)
                  try simp only [Act.put, gzD, gzE, gzF]
                  refine wx_pureZ 2 (some 31) (v := ?_) ?_ ?_; rotate_left; · (intro u; go_simp; try with_reducible rfl)
                  try simp only [Act.put, gzD, gzE, gzF]
                  refine wx_takeZ 4 (some 33) (v := ?_) ?_ ?_; rotate_left; · (intro u hu; have k7 := (h7.gn hu).ld rowAd rfl; have k6 := (h6.gn hu).ld rowW rfl; have k9 := (h9.gn hu).ld rowPf rfl; have k5 := (h5.gn hu).ldAt rowW 9 (digN x.2.n) [] rfl rfl; go_simp; try with_reducible rfl)
                  try simp only [Act.put, gzD, gzE, gzF]
                  refine wx_oneZ 3 (fun K hK => ?_)
                  go_simp
                  refine (HF _).out.mono ?_
                  rintro e u1 ⟨rfl, hv1⟩
                  refine hK _ _ (gbB hv1) ?_
                  replace h5 := h5.below hv1
                  replace h6 := h6.below hv1
                  replace h7 := h7.below hv1
                  replace h9 := h9.below hv1
                  replace hbx := hbx.trans (hv1.mono hbx.size)
                  clear hK K hv1
                  try simp only [Act.put, gzD, gzE, gzF]
                  refine wx_pureZ 5 (some 34) (v := ?_) ?_ ?_; rotate_left; · (intro u; go_simp; try with_reducible rfl)
                  try simp only [Act.put, gzD, gzE, gzF]
                  refine wx_pureZ 6 (some 35) (v := ?_) ?_ ?_; rotate_left; · (intro u; go_simp; try with_reducible rfl)
                  try simp only [Act.put, gzD, gzE, gzF]
                  refine wx_takeZ 7 (some 36) (v := ?_) ?_ ?_; rotate_left; · (intro u hu; have k7 := (h7.gn hu).ld rowAd rfl; have k6 := (h6.gn hu).ld rowW rfl; have k9 := (h9.gn hu).ld rowPf rfl; have k5 := (h5.gn hu).ldAt rowW 9 (digN x.2.n) [] rfl rfl; go_simp; try with_reducible rfl)
                  try simp only [Act.put, gzD, gzE, gzF]
                  refine wx_pureZ 9 (some 38) (v := ?_) ?_ ?_; rotate_left; · (intro u; go_simp; try with_reducible rfl)
                  try simp only [Act.put, gzD, gzE, gzF]
                  refine wx_takeZ 10 (some 39) (v := ?_) ?_ ?_; rotate_left; · (intro u hu; have k7 := (h7.gn hu).ld rowAd rfl; have k6 := (h6.gn hu).ld rowW rfl; have k9 := (h9.gn hu).ld rowPf rfl; have k5 := (h5.gn hu).ldAt rowW 9 (digN x.2.n) [] rfl rfl; go_simp; try with_reducible rfl)
                  try simp only [Act.put, gzD, gzE, gzF]
                  refine wx_oneZ 8 (fun K hK => ?_)
                  go_simp
                  refine (HL _).out.mono ?_
                  rintro e u2 ⟨rfl, hv1⟩
                  refine hK _ _ (gbB hv1) ?_
                  replace h5 := h5.below hv1
                  replace h6 := h6.below hv1
                  replace h7 := h7.below hv1
                  replace h9 := h9.below hv1
                  replace hbx := hbx.trans (hv1.mono hbx.size)
                  clear hK K hv1
                  try simp only [Act.put, gzD, gzE, gzF]
                  refine wx_oneZ 11 (fun K hK => ?_)
                  go_simp
                  refine (HC _).out.mono ?_
                  rintro e u3 ⟨rfl, hg3'⟩
                  have hv1 := hg3'.below
                  refine hK _ _ hg3'.1 ?_
                  replace h5 := h5.below hv1
                  replace h6 := h6.below hv1
                  replace h7 := h7.below hv1
                  replace h9 := h9.below hv1
                  replace hbx := hbx.trans (hv1.mono hbx.size)
                  clear hK K hv1 hg3'
                  try simp only [Act.put, gzD, gzE, gzF]
                  refine wx_pureZ 12 (some 41) (v := ?_) ?_ ?_; rotate_left; · (intro u; go_simp; try with_reducible rfl)
                  try simp only [Act.put, gzD, gzE, gzF]
                  refine wx_pureZ 13 (some 42) (v := ?_) ?_ ?_; rotate_left; · (intro u; go_simp; try with_reducible rfl)
                  try simp only [Act.put, gzD, gzE, gzF]
                  refine wx_done (by kernel_rfl) ?_ _
                  skip
                  go_wp2_with fail
                  go_roundw
                  case rel => exact ⟨z - 1, j + 1, rfl, by omega, by omega, hres, hbx⟩
                  case measure => simp [intOf]; omega
                · have HV : 0 < cmpN (N + 2 ^ (j + 1) - 1) x.2.n := by
                    rw [decide_eq_true (show x.2.n < N + 2 ^ (j + 1) - 1 by omega)] at hcg
                    exact of_decide_eq_true hcg
                  have hres := Lib.hid (show z = l - ((j : Nat) : Int) ∧ Fits N (x.2.n + 1) j ∧ ¬ Fits N (x.2.n + 1) (j + 1) from ⟨hz.out.1, hz.out.2, fun h => hE h.2⟩)
                  clear hcg htop hP hclr hqR hFN hd hE hfi hFl hNl hq hj hfr han
                  generalize cmpN (N + 2 ^ (j + 1) - 1) x.2.n = c at *
                  generalize N + 2 ^ (j + 1) - 1 = Y at *
                  go_wp2_with fail
                  refine wx_begin (none) [] (by kernel_rfl) (fun u0 hb0' hz0' => ?_)
                  replace h5 := h5.below hb0'
                  replace h6 := h6.below hb0'
                  replace h7 := h7.below hb0'
                  replace h9 := h9.below hb0'
                  replace hbx := hbx.trans (hb0'.mono hbx.size)
                  clear hb0' hz0'
                  refine wx_takeZ 0 (some 29) (v := ?_) ?_ ?_; rotate_left; · (intro u hu; have k7 := (h7.gn hu).ld rowAd rfl; have k6 := (h6.gn hu).ld rowW rfl; have k9 := (h9.gn hu).ld rowPf rfl; have k5 := (h5.gn hu).ldAt rowW 9 (digN x.2.n) [] rfl rfl; go_simp; try with_reducible rfl)
                  try simp only [Act.put, gzD, gzE, gzF]
                  refine wx_pureZ 1 (some 30) (v := ?_) ?_ ?_; rotate_left; · (intro u; go_simp; try with_reducible rfl)
                  try simp only [Act.put, gzD, gzE, gzF]
                  refine wx_pureZ 2 (some 31) (v := ?_) ?_ ?_; rotate_left; · (intro u; go_simp; try with_reducible rfl)
                  try simp only [Act.put, gzD, gzE, gzF]
                  refine wx_takeZ 4 (some 33) (v := ?_) ?_ ?_; rotate_left; · (intro u hu; have k7 := (h7.gn hu).ld rowAd rfl; have k6 := (h6.gn hu).ld rowW rfl; have k9 := (h9.gn hu).ld rowPf rfl; have k5 := (h5.gn hu).ldAt rowW 9 (digN x.2.n) [] rfl rfl; go_simp; try with_reducible rfl)
                  try simp only [Act.put, gzD, gzE, gzF]
                  refine wx_oneZ 3 (fun K hK => ?_)
                  go_simp
                  refine (HF _).out.mono ?_
                  rintro e u1 ⟨rfl, hv1⟩
                  refine hK _ _ (gbB hv1) ?_
                  replace h5 := h5.below hv1
                  replace h6 := h6.below hv1
                  replace h7 := h7.below hv1
                  replace h9 := h9.below hv1
                  replace hbx := hbx.trans (hv1.mono hbx.size)
                  clear hK K hv1
                  try simp only [Act.put, gzD, gzE, gzF]
                  refine wx_pureZ 5 (some 34) (v := ?_) ?_ ?_; rotate_left; · (intro u; go_simp; try with_reducible rfl)
                  try simp only [Act.put, gzD, gzE, gzF]
                  refine wx_pureZ 6 (some 35) (v := ?_) ?_ ?_; rotate_left; · (intro u; go_simp; try with_reducible rfl)
                  try simp only [Act.put, gzD, gzE, gzF]
                  refine wx_takeZ 7 (some 36) (v := ?_) ?_ ?_; rotate_left; · (intro u hu; have k7 := (h7.gn hu).ld rowAd rfl; have k6 := (h6.gn hu).ld rowW rfl; have k9 := (h9.gn hu).ld rowPf rfl; have k5 := (h5.gn hu).ldAt rowW 9 (digN x.2.n) [] rfl rfl; go_simp; try with_reducible rfl)
                  try simp only [Act.put, gzD, gzE, gzF]
                  refine wx_pureZ 9 (some 38) (v := ?_) ?_ ?_; rotate_left; · (intro u; go_simp; try with_reducible rfl)
                  try simp only [Act.put, gzD, gzE, gzF]
                  refine wx_takeZ 10 (some 39) (v := ?_) ?_ ?_; rotate_left; · (intro u hu; have k7 := (h7.gn hu).ld rowAd rfl; have k6 := (h6.gn hu).ld rowW rfl; have k9 := (h9.gn hu).ld rowPf rfl; have k5 := (h5.gn hu).ldAt rowW 9 (digN x.2.n) [] rfl rfl; go_simp; try with_reducible rfl)
                  try simp only [Act.put, gzD, gzE, gzF]
                  refine wx_oneZ 8 (fun K hK => ?_)
                  go_simp
                  refine (HL _).out.mono ?_
                  rintro e u2 ⟨rfl, hv1⟩
                  refine hK _ _ (gbB hv1) ?_
                  replace h5 := h5.below hv1
                  replace h6 := h6.below hv1
                  replace h7 := h7.below hv1
                  replace h9 := h9.below hv1
                  replace hbx := hbx.trans (hv1.mono hbx.size)
                  clear hK K hv1
                  try simp only [Act.put, gzD, gzE, gzF]
                  refine wx_oneZ 11 (fun K hK => ?_)
                  go_simp
                  refine (HC _).out.mono ?_
                  rintro e u3 ⟨rfl, hg3'⟩
                  have hv1 := hg3'.below
                  refine hK _ _ hg3'.1 ?_
                  replace h5 := h5.below hv1
                  replace h6 := h6.below hv1
                  replace h7 := h7.below hv1
                  replace h9 := h9.below hv1
                  replace hbx := hbx.trans (hv1.mono hbx.size)
                  clear hK K hv1 hg3'
                  try simp only [Act.put, gzD, gzE, gzF]
                  refine wx_pureZ 12 (some 41) (v := ?_) ?_ ?_; rotate_left; · (intro u; go_simp; try with_reducible rfl)
                  try simp only [Act.put, gzD, gzE, gzF]
                  refine wx_pureZ 13 (some 42) (v := ?_) ?_ ?_; rotate_left; · (intro u; go_simp; try with_reducible rfl)
                  try simp only [Act.put, gzD, gzE, gzF]
                  refine wx_done (by kernel_rfl) ?_ _
                  skip
                  go_wp2_with fail
                  go_meet
                  exact ⟨j, by rw [hres.out.1], Lib.hid hres.out.2, hbx⟩
              · have hq1 : eqN (s2n a.s + clr a.v (j + 1)) N = false := by rw [hq]; exact decide_eq_false (fun h => hd (hfi.1 h))
                have hres := Lib.hid (show z = l - ((j : Nat) : Int) ∧ Fits N (x.2.n + 1) j ∧ ¬ Fits N (x.2.n + 1) (j + 1) from ⟨hz.out.1, hz.out.2, fun h => hd h.1⟩)
                clear hd hfi hFl hNl hq hj
                generalize s2n a.s + clr a.v (j + 1) = F at *
                go_wp2_with fail
                refine wx_begin (none) [] (by kernel_rfl) (fun u0 hb0' hz0' => ?_)
                replace h5 := h5.below hb0'
                replace h6 := h6.below hb0'
                replace h7 := h7.below hb0'
                replace h9 := h9.below hb0'
                replace hbx := hbx.trans (hb0'.mono hbx.size)
                clear hb0' hz0'
                refine wx_takeZ 0 (some 29) (v := ?_) ?_ ?_; rotate_left; · (intro u hu; have k7 := (h7.gn hu).ld rowAd rfl; have k6 := (h6.gn hu).ld rowW rfl; have k9 := (h9.gn hu).ld rowPf rfl; have k5 := (h5.gn hu).ldAt rowW 9 (digN x.2.n) [] rfl rfl; go_simp; try with_reducible rfl)
                try simp only [Act.put, gzD, gzE, gzF]
                refine wx_pureZ 1 (some 30) (v := ?_) ?_ ?_; rotate_left; · (intro u; go_simp; try with_reducible rfl)
                try simp only [Act.put, gzD, gzE, gzF]
                refine wx_pureZ 2 (some 31) (v := ?_) ?_ ?_; rotate_left; · (intro u; go_simp; try with_reducible rfl)
                try simp only [Act.put, gzD, gzE, gzF]
                refine wx_takeZ 4 (some 33) (v := ?_) ?_ ?_; rotate_left; · (intro u hu; have k7 := (h7.gn hu).ld rowAd rfl; have k6 := (h6.gn hu).ld rowW rfl; have k9 := (h9.gn hu).ld rowPf rfl; have k5 := (h5.gn hu).ldAt rowW 9 (digN x.2.n) [] rfl rfl; go_simp; try with_reducible rfl)
                try simp only [Act.put, gzD, gzE, gzF]
                refine wx_oneZ 3 (fun K hK => ?_)
                go_simp
                refine (HF _).out.mono ?_
                rintro e u1 ⟨rfl, hv1⟩
                refine hK _ _ (gbB hv1) ?_
                replace h5 := h5.below hv1
                replace h6 := h6.below hv1
                replace h7 := h7.below hv1
                replace h9 := h9.below hv1
                replace hbx := hbx.trans (hv1.mono hbx.size)
                clear hK K hv1
                try simp only [Act.put, gzD, gzE, gzF]
                refine wx_pureZ 5 (some 34) (v := ?_) ?_ ?_; rotate_left; · (intro u; go_simp; try with_reducible rfl)
                try simp only [Act.put, gzD, gzE, gzF]
                refine wx_pureZ 6 (some 35) (v := ?_) ?_ ?_; rotate_left; · (intro u; go_simp; try with_reducible rfl)
                try simp only [Act.put, gzD, gzE, gzF]
                refine wx_skipZ 7 (some 36) ?_
                try simp only [Act.put, gzD, gzE, gzF]
                refine wx_skipZ 8 (some 37) ?_
                try simp only [Act.put, gzD, gzE, gzF]
                refine wx_skipZ 9 (some 38) ?_
                try simp only [Act.put, gzD, gzE, gzF]
                refine wx_skipZ 10 (some 39) ?_
                try simp only [Act.put, gzD, gzE, gzF]
                refine wx_skipZ 11 (some 40) ?_
                try simp only [Act.put, gzD, gzE, gzF]
                refine wx_skipZ 12 (some 41) ?_
                try simp only [Act.put, gzD, gzE, gzF]
                refine wx_pureZ 13 (some 42) (v := ?_) ?_ ?_; rotate_left; · (intro u; go_simp; try with_reducible rfl)
                try simp only [Act.put, gzD, gzE, gzF]
                refine wx_done (by kernel_rfl) ?_ _
                skip
                go_wp2_with fail
                go_meet
                exact ⟨j, by rw [hres.out.1], Lib.hid hres.out.2, hbx⟩
            · have hres := Lib.hid (show z = l - ((j : Nat) : Int) ∧ Fits N (x.2.n + 1) j ∧ ¬ Fits N (x.2.n + 1) (j + 1) from ⟨hz.out.1, hz.out.2, at_len hI.out.2.1 hI.out.1 (by rw [ha.out, hl]; have := hz.out.1; omega)⟩)
              go_wp2_with fail
              go_meet
              exact ⟨j, by rw [hres.out.1], Lib.hid hres.out.2, hbx⟩
        case rest =>
          obtain ⟨j, rfl, hj, hbx⟩ := hcut
          replace h5 := h5.below hbx
          replace h6 := h6.below hbx
          replace h7 := h7.below hbx
          replace hown := hown.below hbx
          replace hbw := hbw.trans (hbx.mono hbw.size)
          clear hbx
          obtain ⟨hp1, hp2, hp3⟩ := pf_at hI.out.2.1 hI.out.1 hj.out.1
          have hcut := Lib.hid (cutN_big (e := x.2.n + 1) (a := N) (k := j) ⟨hj.out.1.1, hj.out.1.2, hj.out.2⟩ hI.out.2.1.small)
          have han : a.n = N := by rw [← ha.out]; exact (okX_ad hI.out.2.1 hI.out.1).2
          rw [ha.out, hl] at hp1 hp2 hp3
          obtain ⟨p, hp⟩ : ∃ p : Pf, p = (a, l - (j : Int)) := ⟨_, rfl⟩
          rw [← hp] at hp1 hp2 hp3
          have HL := fun w' => Lib.hid (lastOf_w p w' hp1)
          rw [hp2, show p.1.n = N by rw [hp]; exact han] at HL
          have hpos := Nat.two_pow_pos j
          have hle := hj.out.1.2
          have HP := fun w' => Lib.hid (plus_any (N + 2 ^ j - 1) (N + 2 ^ j) 1 w' (by decide) (by decide) (by omega))
          have hq := eqN_iff (A := N + 2 ^ j - 1) (B := x.2.n) (by omega) (by omega)
          have hLl := Lib.hid (show L.length + (cutN N (x.2.n + 1)).length = T.length + (cutN x.1.n (x.2.n + 1)).length by
            have := congrArg List.length hI.out.2.2
            simpa using this)
          replace hp1 := Lib.hid hp1
          replace hp3 := Lib.hid hp3
          clear hp2
          have B12 := fun w' => run_bdPf a (l - (j : Int)) w'
          rw [← hp] at B12
          have k7 := h7.ld rowAd rfl
          have S10 := stT_new rowPf (te := 41) wc wc.heap.size rfl [.bool false, .int .u64 0, .int .u64 0, .int .i64 0] (pfC p) rfl rfl (pfC_one _)
          have h10 := Blk.new wc (pfC p) 41
          have k10 := h10.ld rowPf rfl
          have hsz := hbw.size
          have hn10 := Lib.hid (show u3.ownBlock ≠ some wc.heap.size from fun e => by have := hown.lt _ e; omega)
          obtain ⟨A3, c3, hu3, hsl3⟩ := hown.sl
          subst hu3
          clear hsl3
          replace hsl3 := Lib.hid hown.sl
          replace h5 := (h5.alloc (.cells (pfC p).toArray 41)).alloc (.cells (pfC p).toArray 41)
          replace h6 := (h6.alloc (.cells (pfC p).toArray 41)).alloc (.cells (pfC p).toArray 41)
          replace h10 := h10.alloc (.cells (pfC p).toArray 41)
          replace hown := (hown.alloc' (.cells (pfC p).toArray 41)).alloc' (.cells (pfC p).toArray 41)
          replace hbw := (hbw.alloc hsz (.cells (pfC p).toArray 41)).alloc (by simp; omega) (.cells (pfC p).toArray 41)
          clear hp han hpos hle h7
          as_aux_lemma =>
          go_wp2_with (at_builtin; refine wpList_app tyePf rfl _ _ rfl w.heap.size _ _ [p] rfl hown ⟨_, 0, none⟩ 1 1 rfl rfl ?c1 ?c2 ?c3 ?_)
          case c1 => exact cell_row_at _ _ _ _ (by simp)
          case c2 => have h1 := hLl.out; have h2 := hT.out; simp only [List.length_singleton]; omega
          case c3 => exact hbw.size
          intro v3 x3 hown3 hg3 ho3
          have hb3 : Below w.heap.size w x3 := hbw.grown hg3 hbw.size (fun k h => (hown.lt k h).1)
          have hnb3 := nb_step hnb ho3 (by have := h5.lt; simpa using this) (by have := h6.lt; simpa using this)
          replace h5 := h5.gbo hg3 hnb.out.1
          replace h6 := h6.gbo hg3 hnb.out.2
          replace h10 := h10.gbo hg3 hn10.out
          clear ho3 hg3 hown hbw hnb hn10
          replace hq := Lib.hid hq
          obtain ⟨A5, c5, hv3, _⟩ := hown3.sl
          subst hv3
          obtain ⟨L3, hL3⟩ : ∃ m, m = (L ++ [p]).length := ⟨_, rfl⟩
          rw [← hL3] at hown3 hnb3 ⊢
          replace hL3 := Lib.hid hL3
          go_wp2_with fail
          refine wx_begin (none) [] (by kernel_rfl) (fun u0 hb0' hz0' => ?_)
          replace h5 := h5.below hb0'
          replace h6 := h6.below hb0'
          replace h10 := h10.below hb0'
          replace hown3 := hown3.below hb0'
          replace hb3 := hb3.trans (hb0'.mono hb3.size)
          clear hb0' hz0'
          refine wx_takeZ 0 (some 52) (v := ?_) ?_ ?_; rotate_left; · (intro u hu; have k10 := (h10.gn hu).ld rowPf rfl; have k5 := (h5.gn hu).ldAt rowW 9 (digN x.2.n) [] rfl rfl; go_simp; try with_reducible rfl)
          try simp only [Act.put, gzD, gzE, gzF]
          refine wx_pureZ 2 (some 54) (v := ?_) ?_ ?_; rotate_left; · (intro u; go_simp; try with_reducible rfl)
          try simp only [Act.put, gzD, gzE, gzF]
          refine wx_takeZ 3 (some 55) (v := ?_) ?_ ?_; rotate_left; · (intro u hu; have k10 := (h10.gn hu).ld rowPf rfl; have k5 := (h5.gn hu).ldAt rowW 9 (digN x.2.n) [] rfl rfl; go_simp; try with_reducible rfl)
          try simp only [Act.put, gzD, gzE, gzF]
          refine wx_oneZ 1 (fun K hK => ?_)
          go_simp
          refine (HL _).out.mono ?_
          rintro e u1 ⟨rfl, hv1⟩
          refine hK _ _ (gbB hv1) ?_
          replace h5 := h5.below hv1
          replace h6 := h6.below hv1
          replace h10 := h10.below hv1
          replace hown3 := hown3.below hv1
          replace hb3 := hb3.trans (hv1.mono hb3.size)
          clear hK K hv1
          try simp only [Act.put, gzD, gzE, gzF]
          refine wx_pureZ 4 (some 56) (v := ?_) ?_ ?_; rotate_left; · (intro u; go_simp; try with_reducible rfl)
          try simp only [Act.put, gzD, gzE, gzF]
          refine wx_done (by kernel_rfl) ?_ _
          skip
          generalize eqN (N + 2 ^ j - 1) x.2.n = q at *
          cases q
          rotate_left
          · have hend : N + 2 ^ j - 1 = x.2.n := of_decide_eq_true hq.out.symm
            have hfin := Lib.hid (show L ++ [p] = pfsOf ((xs.map rowA).take (k + 1)) by
              have h1 := hI.out.2.2
              have h2 := Nat.two_pow_pos j
              rw [hcut.out, cutN_nil (by omega), List.map_cons, List.map_nil, ← hp3.out] at h1
              rw [htk.out]; exact h1)
            clear hq hend
            go_wp2_with fail
            go_roundw
            case rel => exact ⟨k + 1, by omega, by go_num, by rw [← hfin.out]; exact hown3, hb3⟩
            case measure => simp [intOf]; omega
          · have hend : ¬ N + 2 ^ j - 1 = x.2.n := of_decide_eq_false hq.out.symm
            have hI2 := Lib.hid (show N + 2 ^ j < x.2.n + 1 ∧ OkX (N + 2 ^ j) (x.2.n + 1) ∧ (L ++ [p]) ++ (cutN (N + 2 ^ j) (x.2.n + 1)).map pfOf = T ++ (cutN x.1.n (x.2.n + 1)).map pfOf by
              have h1 := hI.out.2.2
              have h2 := hj.out.1.2
              have h3 := Nat.two_pow_pos j
              rw [hcut.out, List.map_cons, ← hp3.out] at h1
              exact ⟨by omega, okX_next hI.out.2.1, by rw [List.append_assoc]; exact h1⟩)
            have hm := Lib.hid (show (T ++ (cutN x.1.n (x.2.n + 1)).map pfOf).length - L3 < (T ++ (cutN x.1.n (x.2.n + 1)).map pfOf).length - L.length by
              have h1 := congrArg List.length hI2.out.2.2
              have h2 := cutN_len_pos hI2.out.1
              have h3 := hL3.out
              simp only [List.length_append, List.length_map, List.length_singleton] at h1 h3 ⊢
              omega)
            have k10 := h10.ld rowPf rfl
            clear hq hend
            obtain ⟨Y, hY⟩ : ∃ Y, Y = N + 2 ^ j - 1 := ⟨_, rfl⟩
            obtain ⟨M, hM⟩ : ∃ Y, Y = N + 2 ^ j := ⟨_, rfl⟩
            rw [← hY] at HP HL
            rw [← hM] at HP hI2
            clear hY hM
            go_wp2_with fail
            refine (HL _).out.mono ?_
            rintro e w6 ⟨rfl, hv1⟩
            replace h5 := h5.below hv1
            replace h6 := h6.below hv1
            replace hown3 := hown3.below hv1
            replace hb3 := hb3.trans (hv1.mono hb3.size)
            clear hv1 k10
            go_wp2_with fail
            refine (HP _).out.mono ?_
            rintro e w7 ⟨rfl, hv1⟩
            replace h5 := h5.below hv1
            replace h6 := h6.below hv1
            replace hown3 := hown3.below hv1
            replace hb3 := hb3.trans (hv1.mono hb3.size)
            clear hv1
            have S15 := stT_row rowW h6 rfl (digN_len M) (digN_one M)
            replace h5 := gbo_setRow h5 h6 (by omega) (digN M).toArray
            replace hown3 := own_setRow hown3 h6 hnb3.out.2 (digN M).toArray
            replace hb3 := below_row hb3 hp6.out (digN M).toArray
            replace h6 := h6.row (digN M)
            go_wp2_with fail
            go_roundw
            case rel => exact ⟨M, L ++ [p], hI2, hown3, hnb3, h5, h6, hb3⟩
            case measure => exact hm.out
    · have hkn : k = n := by omega
      have htk := List.take_of_length_le (show (xs.map rowA).length ≤ k by rw [List.length_map]; have := hpl.out; omega)
      rw [htk] at hown
      clear htk hkn
      go_wp2_with fail
      go_ret
      exact ⟨⟨u3, rfl, hown⟩, hbw⟩
end Go.Proofs.YtkldcmmlllkhkaaGreatDoor
