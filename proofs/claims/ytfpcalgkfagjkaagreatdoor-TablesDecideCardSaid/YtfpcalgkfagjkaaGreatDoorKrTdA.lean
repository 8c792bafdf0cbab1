/- Tables: how the reference checks a table. -/
import Derived.Test.YtfpcalgkfagjkaaGreatDoorKrGzA
import Derived.Test.YtfpcalgkfagjkaaGreatDoorKrTbD
import Derived.Test.YtfpcalgkfagjkaaGreatDoorKrTdK
import Derived.Test.YtfpcalgkfagjkaaGreatDoorKrSvB
import Derived.Test.YtfpcalgkfagjkaaGreatDoorKrPfxE
import Derived.Test.YtfpcalgkfagjkaaGreatDoorKrWideD
set_option linter.unusedVariables false
set_option linter.unusedSimpArgs false
set_option maxRecDepth 100000
namespace Go.Proofs.YtfpcalgkfagjkaaGreatDoor
open Go.RowKit

def ordP (p q : Pf) : Int := if cmpN p.1.n q.1.n = 0 then sgn (p.2 - q.2) else cmpN p.1.n q.1.n
theorem ordP_iff {p q : Pf} : 0 ≤ ordP p q ↔ cmpPf q p ≤ 0 := by
  have ha : cmpN q.1.n p.1.n = - cmpN p.1.n q.1.n := by
    unfold cmpN; (repeat' split) <;> omega
  unfold ordP cmpPf sgn firstZ firstZ firstZ Lib.compareInt
  (repeat' split) <;> omega
theorem prefFault_any (p : Pf) (w : World) (hp : p.1.U) : Calls Tryz.prog 34 #[pfA p] w (GivesV (.int .i64 (pfE p)) w) :=
  prefixFault_any p.1.s p.1.hi p.1.lo p.2 w hp.1.1 hp.1.2 hp.2.1 hp.2.2

set_option maxHeartbeats 1000000 in
theorem pfOrd_any (p q : Pf) (w : World) (hp : p.R) (hq : q.R) :
    Calls Tryz.prog 36 #[pfA p, pfA q] w (GivesV (.int .i64 (ordP p q)) w) := by
  have HO := fun w' => Lib.hid (order_n p.1 q.1 w' hp.1.1 hq.1.1)
  obtain ⟨h1, h2⟩ := two_new w (pfC p) (pfC q) 35 35
  have hbw := below_two w (.cells (pfC p).toArray 35) (.cells (pfC q).toArray 35)
  have l1 := h1.ldAt rowAd 0 (adC p.1) [.int .i64 p.2] rfl rfl
  have l2 := h2.ldAt rowAd 0 (adC q.1) [.int .i64 q.2] rfl rfl
  have b1 := hp.2.1
  have b2 : p.2 ≤ 128 := by have h := hp.2.2.1; rcases lenZ_le p.1.s with k | k <;> omega
  have b3 := hq.2.1
  have b4 : q.2 ≤ 128 := by have h := hq.2.2.1; rcases lenZ_le q.1.s with k | k <;> omega
  have e1 : IntKind.i64.wrap (p.2 - q.2) = p.2 - q.2 := IntWalk.i64_in _ (by omega)
  obtain ⟨R, hR⟩ : ∃ R, R = ordP p q := ⟨_, rfl⟩
  rw [← hR]
  unfold ordP at hR
  obtain ⟨C, hC⟩ : ∃ C, C = cmpN p.1.n q.1.n := ⟨_, rfl⟩
  rw [← hC] at HO hR
  replace hR := Lib.hid hR
  clear hC hp hq b1 b2 b3 b4
  go_enter Tryz.func36, Tryz.ntmps36
  go_wp2_with fail
  refine (HO _).out.mono ?_
  rintro e w1 ⟨rfl, hv1⟩
  replace h1 := h1.below hv1
  replace h2 := h2.below hv1
  replace hbw := hbw.trans (hv1.mono hbw.size)
  have c1 := h1.cell (i := 3) (v := .int .i64 p.2) rfl
  have c2 := h2.cell (i := 3) (v := .int .i64 q.2) rfl
  clear l1 l2 hv1
  by_cases h0 : C = 0
  · have b0 : (C == 0) = true := by simp [h0]
    have hR2 := Lib.hid (show R = sgn (p.2 - q.2) by rw [hR.out, if_pos h0])
    clear h0 hR
    go_wp2_with fail
    refine (sign_any _ _).mono ?_
    rintro e w2 ⟨rfl, rfl⟩
    go_wp2_with fail
    go_ret
    exact ⟨by rw [hR2.out]; rfl, hbw⟩
  · have b0 : (C == 0) = false := by simp [h0]
    have hR2 := Lib.hid (show R = C by rw [hR.out, if_neg h0])
    clear h0 hR
    go_wp2_with fail
    go_ret
    exact ⟨by rw [hR2.out]; rfl, hbw⟩

set_option maxHeartbeats 4000000 in
theorem tableFault_any (R : Int) (A : Option Addr) (n cap : Nat) (t : List En) (w : World) (hS : SlE eEn w A n cap t) (hn : n ≤ 100000) (hU : ∀ x ∈ t, x.p.1.U) (hM : ∀ x ∈ t, x.nm.length ≤ 1000) (hR : R = tabF t) :
    Calls Tryz.prog 13 #[.slice A n cap] w (GivesV (.int .i64 R) w) := by
  have hl := hS.1
  unfold tabF at hR
  by_cases h3 : 500 < n
  · have hV := Lib.hid (show R = 2 by rw [hR, if_pos (by omega)])
    have h3' : (500 : Int) < n := by omega
    clear h3 hS hl hn hR hU hM
    go_enter Tryz.func13, Tryz.ntmps13
    go_wp2_with fail
    go_ret
    exact ⟨by rw [hV.out]; rfl, Below.refl _ _⟩
  · have h3' : ¬ (500 : Int) < n := by omega
    rw [if_neg (by omega)] at hR
    replace hR := Lib.hid hR
    replace hl := Lib.hid hl
    replace hS := Lib.hid hS
    replace hU := Lib.hid hU
    replace hM := Lib.hid hM
    clear h3
    go_enter Tryz.func13, Tryz.ntmps13
    go_wp2_with fail
    go_loopw [11] (fun vi wr => ∃ k : Nat, k ≤ n ∧ vi = .int .i64 k ∧ Below w.heap.size w wr ∧ Hid (R = tabG (prevE t k) (t.drop k)) ∧ Hid (∀ j z, j < k → t[j]? = some z → z.p.R)) (fun vi _ => n - (intOf vi).toNat)
    case atStart => exact ⟨0, Nat.zero_le _, rfl, Below.refl _ _, Lib.hid hR.out, Lib.hid (fun j z h => absurd h (Nat.not_lt_zero _))⟩
    case round =>
      obtain ⟨k, hk, rfl, hbw, hI, hJ⟩ := hrel
      by_cases hlt : k < n
      · obtain ⟨x, hx⟩ : ∃ x, t[k]? = some x := ⟨t[k]'(by have := hl.out; omega), List.getElem?_eq_getElem _⟩
        have hS1 := hS.out.below hbw
        obtain ⟨g, off, rfl, hgl, _⟩ := hS1.at' hlt
        have k1 : (ldT 37 (.pointer (some ⟨g, off + k * 5, none⟩))).run Tryz.prog wr = .ok (.value (enA x)) wr := hS1.ld rowEn hx
        have hcap := hS1.2.1
        have hlt' : (k : Int) < n := by omega
        have S1 := stT_new rowEn (te := 37) wr wr.heap.size rfl [.bool false, .int .u64 0, .int .u64 0, .int .i64 0, .string ⟨#[]⟩] (enC x) rfl rfl (enC_one x)
        have hX := Blk.new wr (enC x) 37
        have hvA : Below wr.heap.size wr (wr.alloc (.cells (enC x).toArray 37)) := (Below.refl _ _).alloc (Nat.le_refl _) _
        have HK := Lib.hid (fun W => prefFault_any x.p W (hU.out x (List.mem_of_getElem? hx)))
        have HY := Lib.hid (fun W => refKeyT_any x.nm W (hM.out x (List.mem_of_getElem? hx)))
        have hst := tabG_step hx
        rw [← hI.out] at hst
        have kx := hX.ldAt rowPf 0 (pfC x.p) [.string ⟨x.nm.toArray⟩] rfl rfl
        have hxR := Lib.hid (fun h => (pfE_iff (hU.out x (List.mem_of_getElem? hx))).1 h)
        obtain ⟨F, hF⟩ : ∃ F, F = pfE x.p := ⟨_, rfl⟩
        rw [← hF] at hxR
        rw [← hF] at HK hst
        obtain ⟨Q, hQ⟩ : ∃ Q, Q = keyB x.nm := ⟨_, rfl⟩
        rw [← hQ] at HY hst
        clear hI hF hQ
        by_cases h0 : F = 0
        · rw [if_pos h0] at hst
          subst h0
          replace hxR := Lib.hid (hxR.out (by trivial))
          have hJ2 : Hid (∀ j z, j < k + 1 → t[j]? = some z → z.p.R) := Lib.hid fun j z hj hz => by
            rcases Nat.lt_succ_iff_lt_or_eq.1 hj with h | rfl
            · exact hJ.out j z h hz
            · rw [hx] at hz; obtain rfl := Option.some.inj hz; exact hxR.out
          replace hbw := hbw.trans (hvA.mono hbw.size)
          cases Q with
          | false =>
            have hst2 := Lib.hid (show R = 5 by rw [hst]; rfl)
            clear hst hS1 hx hJ hJ2
            go_wp2_with fail
            refine (HK.out _).mono ?_
            rintro e w3 ⟨rfl, hv1⟩
            replace hX := hX.below hv1
            replace hbw := hbw.trans (hv1.mono hbw.size)
            have k4 := hX.cell (i := 4) (v := .string ⟨x.nm.toArray⟩) rfl
            clear hv1 HK k1 S1 kx
            go_wp2_with fail
            refine (HY.out _).mono ?_
            rintro e w4 ⟨rfl, hv1⟩
            replace hbw := hbw.trans (hv1.mono hbw.size)
            clear HY k4 hv1
            go_wp2_with fail
            go_ret
            exact ⟨by rw [hst2.out]; rfl, hbw⟩
          | true =>
          rw [if_pos rfl] at hst
          by_cases hk0 : k = 0
          · subst hk0
            have hst2 := Lib.hid (show R = tabG (prevE t (0 + 1)) (t.drop (0 + 1)) by rw [hst, if_neg]; simp [prevE, badE])
            rw [Nat.zero_mul, Nat.add_zero] at k1
            clear hst hS1 hvA hx hJ
            go_wp2_with fail
            refine (HK.out _).mono ?_
            rintro e w3 ⟨rfl, hv1⟩
            replace hX := hX.below hv1
            replace hbw := hbw.trans (hv1.mono hbw.size)
            have k4 := hX.cell (i := 4) (v := .string ⟨x.nm.toArray⟩) rfl
            clear hv1 HK k1 S1 kx
            go_wp2_with fail
            refine (HY.out _).mono ?_
            rintro e w4 ⟨rfl, hv1⟩
            replace hX := hX.below hv1
            replace hbw := hbw.trans (hv1.mono hbw.size)
            clear HY k4 hv1
            go_upto_region 11 with fail
            refine wb_begin ([wr.heap.size]) [] (by kernel_rfl) (fun u0 hb0' hz0' => ?_)
            replace hX := hX.below hb0'
            replace hbw := hbw.trans (hb0'.mono hbw.size)
            clear hb0' hz0'
            refine wb_pureZ 0 (some 28) (v := ?_) ?_ ?_; rotate_left; · (intro u; go_simp; try with_reducible rfl)
            try simp only [Act.put, gzD, gzE, gzF]
            refine wb_pureZ 1 (some 29) (v := ?_) ?_ ?_; rotate_left; · (intro u; go_simp; try with_reducible rfl)
            try simp only [Act.put, gzD, gzE, gzF]
            refine wb_pureZ 2 (some 30) (v := ?_) ?_ ?_; rotate_left; · (intro u; go_simp; try with_reducible rfl)
            try simp only [Act.put, gzD, gzE, gzF]
            refine wb_skipZ 3 (some 31) ?_
            try simp only [Act.put, gzD, gzE, gzF]
            refine wb_skipZ 4 (some 32) ?_
            try simp only [Act.put, gzD, gzE, gzF]
            refine wb_skipZ 5 (some 33) ?_
            try simp only [Act.put, gzD, gzE, gzF]
            refine wb_skipZ 6 (some 34) ?_
            try simp only [Act.put, gzD, gzE, gzF]
            refine wb_skipZ 7 (some 35) ?_
            try simp only [Act.put, gzD, gzE, gzF]
            refine wb_skipZ 8 (some 36) ?_
            try simp only [Act.put, gzD, gzE, gzF]
            refine wb_skipZ 9 (some 37) ?_
            try simp only [Act.put, gzD, gzE, gzF]
            refine wb_skipZ 10 (some 38) ?_
            try simp only [Act.put, gzD, gzE, gzF]
            refine wb_skipZ 11 (some 39) ?_
            try simp only [Act.put, gzD, gzE, gzF]
            refine wb_skipZ 12 (some 40) ?_
            try simp only [Act.put, gzD, gzE, gzF]
            refine wb_pureZ 13 (some 41) (v := ?_) ?_ ?_; rotate_left; · (intro u; go_simp; try with_reducible rfl)
            try simp only [Act.put, gzD, gzE, gzF]
            refine wb_pureZ 14 (some 27) (v := ?_) ?_ ?_; rotate_left; · (intro u; go_simp; try with_reducible rfl)
            try simp only [Act.put, gzD, gzE, gzF]
            refine wb_done (by kernel_rfl) ?_ _
            skip
            go_wp2_with fail
            go_roundw
            case rel => exact ⟨0 + 1, by omega, by go_num, hbw, hst2, hJ2⟩
            case measure => simp [intOf]; omega
          · obtain ⟨p, hp⟩ : ∃ p, t[k - 1]? = some p := ⟨t[k - 1]'(by have := hl.out; omega), List.getElem?_eq_getElem _⟩
            have hpr : prevE t k = some p := by
              obtain ⟨j, rfl⟩ : ∃ j, k = j + 1 := ⟨k - 1, by omega⟩
              exact hp
            rw [hpr] at hst
            have hbd : badE (some p) x = decide (cmpPf x.p p.p ≤ 0) := rfl
            rw [hbd] at hst
            have hRg : wr.rangeAt g (off + (k - 1) * 5) (pfC p.p) := rangeAt_left (b := [.string ⟨p.nm.toArray⟩]) (hS1.range hp)
            replace hRg := rangeAt_kbT hRg (hvA.block g hgl)
            replace hgl := Nat.lt_of_lt_of_le hgl hvA.size
            have HC := Lib.hid (fun W => pfOrd_any p.p x.p W (hJ.out (k - 1) p (by omega) hp) hxR.out)
            have hoi := ordP_iff (p := p.p) (q := x.p)
            generalize cmpPf x.p p.p = C at hoi hst
            generalize ordP p.p x.p = O at HC hoi
            have hkz : (0 : Int) < k := by omega
            have hkN : 0 < k := by omega
            have hi1 : (1 : Int) ≤ k := by omega
            have hi2 : (k : Int) - 1 < n := by omega
            have hkD : decide (0 < k) = true := decide_eq_true hkN
            have e1 : IntKind.i64.wrap ((k : Int) - 1) = (k : Int) - 1 := IntWalk.i64_in _ (by omega)
            have hsplit : (0 ≤ O ∧ R = 7) ∨ (¬ 0 ≤ O ∧ R = tabG (prevE t (k + 1)) (t.drop (k + 1))) := by
              rw [hoi]
              by_cases hc : C ≤ 0
              · rw [decide_eq_true hc, if_pos rfl] at hst; exact .inl ⟨hc, hst⟩
              · rw [decide_eq_false hc] at hst; exact .inr ⟨hc, hst⟩
            clear hst hbd hpr hS1 hvA hx hp hoi hJ
            rcases hsplit with ⟨hc, hst⟩ | ⟨hc, hst⟩
            · subst hst
              go_wp2_with fail
              refine (HK.out _).mono ?_
              rintro e w3 ⟨rfl, hv1⟩
              replace hX := hX.below hv1
              replace hRg := rangeAt_kbT hRg (hv1.block g hgl)
              replace hgl := Nat.lt_of_lt_of_le hgl hv1.size
              replace hbw := hbw.trans (hv1.mono hbw.size)
              have k4 := hX.cell (i := 4) (v := .string ⟨x.nm.toArray⟩) rfl
              clear hv1 HK k1 S1 kx
              go_wp2_with fail
              refine (HY.out _).mono ?_
              rintro e w4 ⟨rfl, hv1⟩
              replace hX := hX.below hv1
              replace hRg := rangeAt_kbT hRg (hv1.block g hgl)
              replace hgl := Nat.lt_of_lt_of_le hgl hv1.size
              replace hbw := hbw.trans (hv1.mono hbw.size)
              clear HY k4 hv1
              go_upto_region 11 with fail
              refine wb_begin ([wr.heap.size, g]) [] (by kernel_rfl) (fun u0 hb0' hz0' => ?_)
              replace hX := hX.below hb0'
              replace hRg := rangeAt_kbT hRg (hb0'.block _ hgl)
              replace hgl := Nat.lt_of_lt_of_le hgl hb0'.size
              replace hbw := hbw.trans (hb0'.mono hbw.size)
              clear hb0' hz0'
              refine wb_pureZ 0 (some 28) (v := ?_) ?_ ?_; rotate_left; · (intro u; go_simp; try with_reducible rfl)
              try simp only [Act.put, gzD, gzE, gzF]
              refine wb_pureZ 1 (some 29) (v := ?_) ?_ ?_; rotate_left; · (intro u; go_simp; try with_reducible rfl)
              try simp only [Act.put, gzD, gzE, gzF]
              refine wb_pureZ 2 (some 30) (v := ?_) ?_ ?_; rotate_left; · (intro u; go_simp; try with_reducible rfl)
              try simp only [Act.put, gzD, gzE, gzF]
              refine wb_pureZ 3 (some 31) (v := ?_) ?_ ?_; rotate_left; · (intro u; go_simp; try with_reducible rfl)
              try simp only [Act.put, gzD, gzE, gzF]
              refine wb_pureZ 4 (some 32) (v := ?_) ?_ ?_; rotate_left; · (intro u; go_simp; try with_reducible rfl)
              try simp only [Act.put, gzD, gzE, gzF]
              refine wb_pureZ 5 (some 33) (v := ?_) ?_ ?_; rotate_left; · (intro u; go_simp; try with_reducible rfl)
              try simp only [Act.put, gzD, gzE, gzF]
              refine wb_pureZ 6 (some 34) (v := ?_) ?_ ?_; rotate_left; · (intro u; go_simp; try with_reducible rfl)
              try simp only [Act.put, gzD, gzE, gzF]
              refine wb_pureZ 7 (some 35) (v := ?_) ?_ ?_; rotate_left; · (intro u; go_simp; try with_reducible rfl)
              try simp only [Act.put, gzD, gzE, gzF]
              refine wb_takeZ 8 (some 36) (v := ?_) ?_ ?_; rotate_left; · (intro u hu; have kx := hX.kb hu (by simp); have k1 := kx.ldAt rowPf 0 (pfC x.p) [.string ⟨x.nm.toArray⟩] rfl rfl; have k2 := ldT_run rowPf (pfC_len p.p) (rangeAt_kbT hRg (hu g (by simp))); clear kx; go_simp; try with_reducible rfl)
              try simp only [Act.put, gzD, gzE, gzF]
              refine wb_pureZ 9 (some 37) (v := ?_) ?_ ?_; rotate_left; · (intro u; go_simp; try with_reducible rfl)
              try simp only [Act.put, gzD, gzE, gzF]
              refine wb_takeZ 10 (some 38) (v := ?_) ?_ ?_; rotate_left; · (intro u hu; have kx := hX.kb hu (by simp); have k1 := kx.ldAt rowPf 0 (pfC x.p) [.string ⟨x.nm.toArray⟩] rfl rfl; have k2 := ldT_run rowPf (pfC_len p.p) (rangeAt_kbT hRg (hu g (by simp))); clear kx; go_simp; try with_reducible rfl)
              try simp only [Act.put, gzD, gzE, gzF]
              refine wb_oneZ 11 (fun K hK => ?_)
              go_simp
              refine (HC.out _).mono ?_
              rintro e u11 ⟨rfl, hv1⟩
              refine hK _ _ (Kb.below hv1 (by intro q hq; simp only [List.mem_cons, List.not_mem_nil, or_false] at hq; rcases hq with rfl | rfl <;> first | exact hX.lt | exact hgl)) ?_
              replace hX := hX.below hv1
              replace hRg := rangeAt_kbT hRg (hv1.block _ hgl)
              replace hgl := Nat.lt_of_lt_of_le hgl hv1.size
              replace hbw := hbw.trans (hv1.mono hbw.size)
              clear hK K hv1
              try simp only [Act.put, gzD, gzE, gzF]
              refine wb_pureZ 12 (some 40) (v := ?_) ?_ ?_; rotate_left; · (intro u; go_simp; try with_reducible rfl)
              try simp only [Act.put, gzD, gzE, gzF]
              refine wb_pureZ 13 (some 41) (v := ?_) ?_ ?_; rotate_left; · (intro u; go_simp; try with_reducible rfl)
              try simp only [Act.put, gzD, gzE, gzF]
              refine wb_pureZ 14 (some 27) (v := ?_) ?_ ?_; rotate_left; · (intro u; go_simp; try with_reducible rfl)
              try simp only [Act.put, gzD, gzE, gzF]
              refine wb_done (by kernel_rfl) ?_ _
              skip
              go_wp2_with fail
              go_ret
              exact ⟨rfl, hbw⟩
            · replace hst := Lib.hid hst
              go_wp2_with fail
              refine (HK.out _).mono ?_
              rintro e w3 ⟨rfl, hv1⟩
              replace hX := hX.below hv1
              replace hRg := rangeAt_kbT hRg (hv1.block g hgl)
              replace hgl := Nat.lt_of_lt_of_le hgl hv1.size
              replace hbw := hbw.trans (hv1.mono hbw.size)
              have k4 := hX.cell (i := 4) (v := .string ⟨x.nm.toArray⟩) rfl
              clear hv1 HK k1 S1 kx
              go_wp2_with fail
              refine (HY.out _).mono ?_
              rintro e w4 ⟨rfl, hv1⟩
              replace hX := hX.below hv1
              replace hRg := rangeAt_kbT hRg (hv1.block g hgl)
              replace hgl := Nat.lt_of_lt_of_le hgl hv1.size
              replace hbw := hbw.trans (hv1.mono hbw.size)
              clear HY k4 hv1
              go_upto_region 11 with fail
              refine wb_begin ([wr.heap.size, g]) [] (by kernel_rfl) (fun u0 hb0' hz0' => ?_)
              replace hX := hX.below hb0'
              replace hRg := rangeAt_kbT hRg (hb0'.block _ hgl)
              replace hgl := Nat.lt_of_lt_of_le hgl hb0'.size
              replace hbw := hbw.trans (hb0'.mono hbw.size)
              clear hb0' hz0'
              refine wb_pureZ 0 (some 28) (v := ?_) ?_ ?_; rotate_left; · (intro u; go_simp; try with_reducible rfl)
              try simp only [Act.put, gzD, gzE, gzF]
              refine wb_pureZ 1 (some 29) (v := ?_) ?_ ?_; rotate_left; · (intro u; go_simp; try with_reducible rfl)
              try simp only [Act.put, gzD, gzE, gzF]
              refine wb_pureZ 2 (some 30) (v := ?_) ?_ ?_; rotate_left; · (intro u; go_simp; try with_reducible rfl)
              try simp only [Act.put, gzD, gzE, gzF]
              refine wb_pureZ 3 (some 31) (v := ?_) ?_ ?_; rotate_left; · (intro u; go_simp; try with_reducible rfl)
              try simp only [Act.put, gzD, gzE, gzF]
              refine wb_pureZ 4 (some 32) (v := ?_) ?_ ?_; rotate_left; · (intro u; go_simp; try with_reducible rfl)
              try simp only [Act.put, gzD, gzE, gzF]
              refine wb_pureZ 5 (some 33) (v := ?_) ?_ ?_; rotate_left; · (intro u; go_simp; try with_reducible rfl)
              try simp only [Act.put, gzD, gzE, gzF]
              refine wb_pureZ 6 (some 34) (v := ?_) ?_ ?_; rotate_left; · (intro u; go_simp; try with_reducible rfl)
              try simp only [Act.put, gzD, gzE, gzF]
              refine wb_pureZ 7 (some 35) (v := ?_) ?_ ?_; rotate_left; · (intro u; go_simp; try with_reducible rfl)
              try simp only [Act.put, gzD, gzE, gzF]
              refine wb_takeZ 8 (some 36) (v := ?_) ?_ ?_; rotate_left; · (intro u hu; have kx := hX.kb hu (by simp); have k1 := kx.ldAt rowPf 0 (pfC x.p) [.string ⟨x.nm.toArray⟩] rfl rfl; have k2 := ldT_run rowPf (pfC_len p.p) (rangeAt_kbT hRg (hu g (by simp))); clear kx; go_simp; try with_reducible rfl)
              try simp only [Act.put, gzD, gzE, gzF]
              refine wb_pureZ 9 (some 37) (v := ?_) ?_ ?_; rotate_left; · (intro u; go_simp; try with_reducible rfl)
              try simp only [Act.put, gzD, gzE, gzF]
              refine wb_takeZ 10 (some 38) (v := ?_) ?_ ?_; rotate_left; · (intro u hu; have kx := hX.kb hu (by simp); have k1 := kx.ldAt rowPf 0 (pfC x.p) [.string ⟨x.nm.toArray⟩] rfl rfl; have k2 := ldT_run rowPf (pfC_len p.p) (rangeAt_kbT hRg (hu g (by simp))); clear kx; go_simp; try with_reducible rfl)
              try simp only [Act.put, gzD, gzE, gzF]
              refine wb_oneZ 11 (fun K hK => ?_)
              go_simp
              refine (HC.out _).mono ?_
              rintro e u11 ⟨rfl, hv1⟩
              refine hK _ _ (Kb.below hv1 (by intro q hq; simp only [List.mem_cons, List.not_mem_nil, or_false] at hq; rcases hq with rfl | rfl <;> first | exact hX.lt | exact hgl)) ?_
              replace hX := hX.below hv1
              replace hRg := rangeAt_kbT hRg (hv1.block _ hgl)
              replace hgl := Nat.lt_of_lt_of_le hgl hv1.size
              replace hbw := hbw.trans (hv1.mono hbw.size)
              clear hK K hv1
              try simp only [Act.put, gzD, gzE, gzF]
              refine wb_pureZ 12 (some 40) (v := ?_) ?_ ?_; rotate_left; · (intro u; go_simp; try with_reducible rfl)
              try simp only [Act.put, gzD, gzE, gzF]
              refine wb_pureZ 13 (some 41) (v := ?_) ?_ ?_; rotate_left; · (intro u; go_simp; try with_reducible rfl)
              try simp only [Act.put, gzD, gzE, gzF]
              refine wb_pureZ 14 (some 27) (v := ?_) ?_ ?_; rotate_left; · (intro u; go_simp; try with_reducible rfl)
              try simp only [Act.put, gzD, gzE, gzF]
              refine wb_done (by kernel_rfl) ?_ _
              skip
              go_wp2_with fail
              go_roundw
              case rel => exact ⟨k + 1, by omega, by go_num, hbw, hst, hJ2⟩
              case measure => simp [intOf]; omega
        · rw [if_neg h0] at hst
          subst hst
          clear hS1
          go_wp2_with fail
          refine (HK.out _).mono ?_
          rintro e w3 ⟨rfl, hv1⟩
          replace hbw := (hbw.trans (hvA.mono hbw.size)).trans (hv1.mono (by have := hbw.size; have := hvA.size; omega))
          go_wp2_with fail
          go_ret
          exact ⟨rfl, hbw⟩
      · have hV := Lib.hid (show R = 0 by rw [hI.out, tabG_end (by have := hl.out; omega)])
        have hnlt : ¬ (k : Int) < n := by omega
        go_wp2_with fail
        go_ret
        exact ⟨by rw [hV.out]; rfl, hbw⟩
end Go.Proofs.YtfpcalgkfagjkaaGreatDoor
