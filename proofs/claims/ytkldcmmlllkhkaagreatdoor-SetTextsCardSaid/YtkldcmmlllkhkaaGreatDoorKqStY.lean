/- Sets: CheckSet. -/
import Derived.Test.YtkldcmmlllkhkaaGreatDoorKqGzA
import Derived.Test.YtkldcmmlllkhkaaGreatDoorKqStX
import Derived.Test.YtkldcmmlllkhkaaGreatDoorKqStH
set_option linter.unusedVariables false
set_option linter.unusedSimpArgs false
set_option maxRecDepth 100000
namespace Go.Proofs.YtkldcmmlllkhkaaGreatDoor
open Go.RowKit

def NearP (ps : List Pf) (k : Nat) : Prop := ∀ j p q, j + 1 < k → ps[j]? = some p → ps[j + 1]? = some q → Apart (blk p) (blk q)

set_option maxHeartbeats 4000000 in
theorem checkSet_any (A : Option Addr) (n cap : Nat) (ps : List Pf) (w : World) (hS : SlE ePf w A n cap ps) (hn : n ≤ 1000) (hU : ∀ p ∈ ps, p.U) :
    Calls Tryz.prog 16 #[.slice A n cap] w (GivesV (.int .i64 (setF ps)) w) := by
  have hpl := Lib.hid hS.1
  replace hS := Lib.hid hS
  replace hU := Lib.hid hU
  have hn' : ¬ (1000 : Int) < n := by omega
  go_enter Tryz.func16, Tryz.ntmps16
  go_wp2_with fail
  go_loopw [12] (fun i wr => ∃ k : Nat, k ≤ n ∧ i = .int .i64 k ∧ Hid (ScanP ps k) ∧ Below w.heap.size w wr) (fun i _ => n - (intOf i).toNat)
  case atStart => exact ⟨0, by omega, rfl, Lib.hid (scan_start ps), Below.refl _ _⟩
  case round =>
    obtain ⟨k, hk, rfl, hI, hbw⟩ := hrel
    by_cases hlt : k < n
    · obtain ⟨p, hp⟩ : ∃ p, ps[k]? = some p := ⟨ps[k]'(by have := hpl.out; omega), List.getElem?_eq_getElem _⟩
      obtain ⟨g0, off, rfl, _, _⟩ := hS.out.at' hlt
      have hld := SlE.ld rowPf (hS.out.below hbw) hp
      replace hld : (ldT 41 (.pointer (some ⟨g0, off + k * 4, none⟩))).run Tryz.prog wr = .ok (.value (pfA p)) wr := hld
      have hpU := hU.out p (List.mem_of_getElem? hp)
      have hlt' : (k : Int) < n := by omega
      have hsw := hbw.size
      have S1 := stT_new rowPf (te := 41) wr wr.heap.size rfl [.bool false, .int .u64 0, .int .u64 0, .int .i64 0] (pfC p) rfl rfl (pfC_one p)
      have hsc := scan_at hI.out hp
      have hC := Blk.new wr (pfC p) 41
      replace hbw := hbw.alloc hsw (.cells (pfC p).toArray 41)
      have HF0 := fun w' => Lib.hid (checkPrefix_any p.1.s p.1.hi p.1.lo p.2 w' hpU.1.1.1 hpU.1.1.2 hpU.1.2.1 hpU.1.2.2)
      have k1 := hC.ld rowPf rfl
      have hp0 := hp
      replace hp := Lib.hid hp
      obtain ⟨E, hE⟩ : ∃ E, E = pfE p := ⟨_, rfl⟩
      have HF : ∀ w', Hid (Calls Tryz.prog 39 #[pfA p] w' (GivesV (.int .i64 E) w')) := fun w' => by rw [hE]; exact HF0 w'
      rw [← hE] at hsc
      replace hE := Lib.hid hE
      replace hsc := Lib.hid hsc
      clear HF0 hp0
      go_wp2_with fail
      refine (HF _).out.mono ?_
      rintro e w2 ⟨rfl, hb2⟩
      replace hC := hC.below hb2
      replace hbw := hbw.trans (hb2.mono hbw.size)
      clear hb2 k1 S1 HF hld
      by_cases hE0 : E = 0
      · have hpR : p.R := (pfE_iff hpU.1).1 (by rw [← hE.out]; exact hE0)
        subst hE0
        cases k with
        | zero =>
          have hI2 := Lib.hid (scanP_zero hI.out hp.out hpR)
          clear hsc hpR
          go_wp2_with fail
          refine wx_begin (none) [] (by kernel_rfl) (fun u0 hb0' hz0' => ?_)
          replace hC := hC.below hb0'
          replace hbw := hbw.trans (hb0'.mono hbw.size)
          clear hb0' hz0'
          refine wx_pureZ 0 (some 22) (v := ?_) ?_ ?_; rotate_left; · (intro u; go_simp; try with_reducible rfl)
          try simp only [Act.put, gzD, gzE, gzF]
          refine wx_pureZ 1 (some 23) (v := ?_) ?_ ?_; rotate_left; · (intro u; go_simp; try with_reducible rfl)
          try simp only [Act.put, gzD, gzE, gzF]
          refine wx_pureZ 2 (some 24) (v := ?_) ?_ ?_; rotate_left; · (intro u; go_simp; try with_reducible rfl)
          try simp only [Act.put, gzD, gzE, gzF]
          refine wx_skipZ 3 (some 25) ?_
          try simp only [Act.put, gzD, gzE, gzF]
          refine wx_skipZ 4 (some 26) ?_
          try simp only [Act.put, gzD, gzE, gzF]
          refine wx_skipZ 5 (some 27) ?_
          try simp only [Act.put, gzD, gzE, gzF]
          refine wx_skipZ 6 (some 28) ?_
          try simp only [Act.put, gzD, gzE, gzF]
          refine wx_skipZ 7 (some 29) ?_
          try simp only [Act.put, gzD, gzE, gzF]
          refine wx_skipZ 8 (some 30) ?_
          try simp only [Act.put, gzD, gzE, gzF]
          refine wx_skipZ 9 (some 31) ?_
          try simp only [Act.put, gzD, gzE, gzF]
          refine wx_skipZ 10 (some 32) ?_
          try simp only [Act.put, gzD, gzE, gzF]
          refine wx_skipZ 11 (some 33) ?_
          try simp only [Act.put, gzD, gzE, gzF]
          refine wx_skipZ 12 (some 34) ?_
          try simp only [Act.put, gzD, gzE, gzF]
          refine wx_pureZ 13 (some 35) (v := ?_) ?_ ?_; rotate_left; · (intro u; go_simp; try with_reducible rfl)
          try simp only [Act.put, gzD, gzE, gzF]
          refine wx_done (by kernel_rfl) ?_ _
          skip
          go_wp2_with fail
          go_roundw
          case rel => exact ⟨1, by omega, by go_num, hI2, hbw⟩
          case measure => simp [intOf]; omega
        | succ k =>
          obtain ⟨q, hq⟩ : ∃ q, ps[k]? = some q := ⟨ps[k]'(by have := hpl.out; omega), List.getElem?_eq_getElem _⟩
          have hqU := hU.out q (List.mem_of_getElem? hq)
          have HO := fun w' => Lib.hid (compare_n p.1 q.1 w' hpU.1 hqU.1)
          obtain ⟨hn1, hn2⟩ := scan_next hI.out hq hp.out hpR
          replace hq := Lib.hid hq
          have hk0 : (0 : Int) < (k : Int) + 1 := by omega
          have hwk : IntKind.i64.wrap (k : Int) = (k : Int) := IntWalk.i64_in _ (by omega)
          have hk2 : (k : Int) < n := by omega
          have hcl := cmpN_le p.1.n q.1.n
          obtain ⟨c, hc⟩ : ∃ c, c = cmpN p.1.n q.1.n := ⟨_, rfl⟩
          rw [← hc] at HO hcl
          clear hc hsc hpR
          replace hcl := Lib.hid hcl
          replace hn1 := Lib.hid hn1
          replace hn2 := Lib.hid hn2
          go_wp2_with fail
          refine wx_begin (none) [] (by kernel_rfl) (fun u0 hb0' hz0' => ?_)
          replace hC := hC.below hb0'
          replace hbw := hbw.trans (hb0'.mono hbw.size)
          clear hb0' hz0'
          refine wx_pureZ 0 (some 22) (v := ?_) ?_ ?_; rotate_left; · (intro u; go_simp; try with_reducible rfl)
          try simp only [Act.put, gzD, gzE, gzF]
          refine wx_pureZ 1 (some 23) (v := ?_) ?_ ?_; rotate_left; · (intro u; go_simp; try with_reducible rfl)
          try simp only [Act.put, gzD, gzE, gzF]
          refine wx_pureZ 2 (some 24) (v := ?_) ?_ ?_; rotate_left; · (intro u; go_simp; try with_reducible rfl)
          try simp only [Act.put, gzD, gzE, gzF]
          refine wx_pureZ 3 (some 25) (v := ?_) ?_ ?_; rotate_left; · (intro u; go_simp; try with_reducible rfl)
          try simp only [Act.put, gzD, gzE, gzF]
          refine wx_takeZ 4 (some 26) (v := ?_) ?_ ?_; rotate_left; · (intro u hu; have k1 := (hC.gn hu).ldAt rowAd 0 (adC p.1) [.int .i64 p.2] rfl rfl; have k2 := SlE.ldAt rowAd ((hS.out.below hbw).keepG hu) hq.out 0 (adC q.1) [.int .i64 q.2] rfl rfl; replace k2 : (ldT 39 (.pointer (some ⟨g0, off + k * 4, none⟩))).run Tryz.prog u = .ok (.value (adA q.1)) u := k2; go_simp; try with_reducible rfl)
          try simp only [Act.put, gzD, gzE, gzF]
          refine wx_pureZ 5 (some 27) (v := ?_) ?_ ?_; rotate_left; · (intro u; go_simp; try with_reducible rfl)
          try simp only [Act.put, gzD, gzE, gzF]
          refine wx_pureZ 6 (some 28) (v := ?_) ?_ ?_; rotate_left; · (intro u; go_simp; try with_reducible rfl)
          try simp only [Act.put, gzD, gzE, gzF]
          refine wx_pureZ 7 (some 29) (v := ?_) ?_ ?_; rotate_left; · (intro u; go_simp; try with_reducible rfl)
          try simp only [Act.put, gzD, gzE, gzF]
          refine wx_pureZ 8 (some 30) (v := ?_) ?_ ?_; rotate_left; · (intro u; go_simp; try with_reducible rfl)
          try simp only [Act.put, gzD, gzE, gzF]
          refine wx_pureZ 9 (some 31) (v := ?_) ?_ ?_; rotate_left; · (intro u; go_simp; try with_reducible rfl)
          try simp only [Act.put, gzD, gzE, gzF]
          refine wx_takeZ 10 (some 32) (v := ?_) ?_ ?_; rotate_left; · (intro u hu; have k1 := (hC.gn hu).ldAt rowAd 0 (adC p.1) [.int .i64 p.2] rfl rfl; have k2 := SlE.ldAt rowAd ((hS.out.below hbw).keepG hu) hq.out 0 (adC q.1) [.int .i64 q.2] rfl rfl; replace k2 : (ldT 39 (.pointer (some ⟨g0, off + k * 4, none⟩))).run Tryz.prog u = .ok (.value (adA q.1)) u := k2; go_simp; try with_reducible rfl)
          try simp only [Act.put, gzD, gzE, gzF]
          refine wx_oneZ 11 (fun K hK => ?_)
          go_simp
          refine (HO _).out.mono ?_
          rintro e u1 ⟨rfl, hv1⟩
          refine hK _ _ (gbB hv1) ?_
          replace hC := hC.below hv1
          replace hbw := hbw.trans (hv1.mono hbw.size)
          clear hK K hv1
          try simp only [Act.put, gzD, gzE, gzF]
          refine wx_pureZ 12 (some 34) (v := ?_) ?_ ?_; rotate_left; · (intro u; go_simp; try with_reducible rfl)
          try simp only [Act.put, gzD, gzE, gzF]
          refine wx_pureZ 13 (some 35) (v := ?_) ?_ ?_; rotate_left; · (intro u; go_simp; try with_reducible rfl)
          try simp only [Act.put, gzD, gzE, gzF]
          refine wx_done (by kernel_rfl) ?_ _
          skip
          by_cases hqp : q.1.n < p.1.n
          · have HV : ¬ c ≤ 0 := by
              have h := hcl.out
              rw [decide_eq_false (show ¬ p.1.n ≤ q.1.n by omega)] at h
              exact of_decide_eq_false h
            have hI2 := Lib.hid (hn1.out hqp)
            clear hcl hn1 hn2 hqp
            go_wp2_with fail
            go_roundw
            case rel => exact ⟨k + 2, by omega, by go_num, hI2, hbw⟩
            case measure => simp [intOf]; omega
          · have HV : c ≤ 0 := by
              have h := hcl.out
              rw [decide_eq_true (show p.1.n ≤ q.1.n by omega)] at h
              exact of_decide_eq_true h
            have hfin := Lib.hid (show setF ps = 7 from by
              have h := hn2.out hqp
              unfold setF
              rw [if_pos (by rw [h]; decide), h])
            clear hcl hn1 hn2 hqp
            go_wp2_with fail
            go_ret
            exact ⟨by rw [hfin.out]; rfl, hbw⟩
      · have b0 : (E == 0) = false := by simp [hE0]
        have hfin := Lib.hid (show setF ps = E from by
          have h := hsc.out (by rw [hE.out] at hE0 ⊢; exact hE0)
          unfold setF
          rw [if_pos (by rw [h]; exact hE0), h])
        clear hE0 hsc
        go_wp2_with fail
        go_ret
        exact ⟨by rw [hfin.out]; rfl, hbw⟩

    · obtain ⟨hR, hup, hz⟩ := scan_end hI.out (by have := hpl.out; omega)
      replace hR := Lib.hid hR
      replace hz := Lib.hid hz
      replace hup := Lib.hid hup
      have hb0 := hbw
      clear hI
      go_wp2_with fail
      go_loopw [39] (fun i wq => ∃ k : Nat, k ≤ n ∧ i = .int .i64 k ∧ Hid (NearP ps k) ∧ Below w.heap.size w wq) (fun i _ => n - (intOf i).toNat)
      case atStart => exact ⟨0, by omega, rfl, Lib.hid (fun j p q h => by omega), hbw⟩
      case round =>
        clear hbw hb0
        obtain ⟨k, hk, rfl, hI, hbw⟩ := hrel
        by_cases hlt : k < n
        · have hlt' : (k : Int) < n := by omega
          cases k with
          | zero =>
            have hI2 : Hid (NearP ps 1) := Lib.hid (fun j p q h => by omega)
            go_wp2_with fail
            refine wx_begin (none) [] (by kernel_rfl) (fun u0 hb0' hz0' => ?_)
            replace hbw := hbw.trans (hb0'.mono hbw.size)
            clear hb0' hz0'
            refine wx_pureZ 0 (some 42) (v := ?_) ?_ ?_; rotate_left; · (intro u; go_simp; try with_reducible rfl)
            try simp only [Act.put, gzD, gzE, gzF]
            refine wx_pureZ 1 (some 43) (v := ?_) ?_ ?_; rotate_left; · (intro u; go_simp; try with_reducible rfl)
            try simp only [Act.put, gzD, gzE, gzF]
            refine wx_pureZ 2 (some 44) (v := ?_) ?_ ?_; rotate_left; · (intro u; go_simp; try with_reducible rfl)
            try simp only [Act.put, gzD, gzE, gzF]
            refine wx_skipZ 3 (some 45) ?_
            try simp only [Act.put, gzD, gzE, gzF]
            refine wx_skipZ 4 (some 46) ?_
            try simp only [Act.put, gzD, gzE, gzF]
            refine wx_skipZ 5 (some 47) ?_
            try simp only [Act.put, gzD, gzE, gzF]
            refine wx_skipZ 6 (some 48) ?_
            try simp only [Act.put, gzD, gzE, gzF]
            refine wx_skipZ 7 (some 49) ?_
            try simp only [Act.put, gzD, gzE, gzF]
            refine wx_skipZ 8 (some 50) ?_
            try simp only [Act.put, gzD, gzE, gzF]
            refine wx_skipZ 9 (some 51) ?_
            try simp only [Act.put, gzD, gzE, gzF]
            refine wx_skipZ 10 (some 52) ?_
            try simp only [Act.put, gzD, gzE, gzF]
            refine wx_skipZ 11 (some 53) ?_
            try simp only [Act.put, gzD, gzE, gzF]
            refine wx_skipZ 12 (some 54) ?_
            try simp only [Act.put, gzD, gzE, gzF]
            refine wx_skipZ 13 (some 55) ?_
            try simp only [Act.put, gzD, gzE, gzF]
            refine wx_skipZ 14 (some 56) ?_
            try simp only [Act.put, gzD, gzE, gzF]
            refine wx_skipZ 15 (some 57) ?_
            try simp only [Act.put, gzD, gzE, gzF]
            refine wx_skipZ 16 (some 58) ?_
            try simp only [Act.put, gzD, gzE, gzF]
            refine wx_skipZ 17 (some 59) ?_
            try simp only [Act.put, gzD, gzE, gzF]
            refine wx_skipZ 18 (some 60) ?_
            try simp only [Act.put, gzD, gzE, gzF]
            refine wx_skipZ 19 (some 61) ?_
            try simp only [Act.put, gzD, gzE, gzF]
            refine wx_skipZ 20 (some 62) ?_
            try simp only [Act.put, gzD, gzE, gzF]
            refine wx_skipZ 21 (some 63) ?_
            try simp only [Act.put, gzD, gzE, gzF]
            refine wx_skipZ 22 (some 64) ?_
            try simp only [Act.put, gzD, gzE, gzF]
            refine wx_skipZ 23 (some 65) ?_
            try simp only [Act.put, gzD, gzE, gzF]
            refine wx_skipZ 24 (some 66) ?_
            try simp only [Act.put, gzD, gzE, gzF]
            refine wx_pureZ 25 (some 67) (v := ?_) ?_ ?_; rotate_left; · (intro u; go_simp; try with_reducible rfl)
            try simp only [Act.put, gzD, gzE, gzF]
            refine wx_done (by kernel_rfl) ?_ _
            skip
            go_wp2_with fail
            go_roundw
            case rel => exact ⟨1, by omega, by go_num, hI2, hbw⟩
            case measure => simp [intOf]; omega
          | succ k =>
            obtain ⟨p, hp⟩ : ∃ p, ps[k]? = some p := ⟨ps[k]'(by have := hpl.out; omega), List.getElem?_eq_getElem _⟩
            obtain ⟨q, hq⟩ : ∃ q, ps[k + 1]? = some q := ⟨ps[k + 1]'(by have := hpl.out; omega), List.getElem?_eq_getElem _⟩
            obtain ⟨g0, off, rfl, _, _⟩ := hS.out.at' hlt
            have hpR := hR.out p (List.mem_of_getElem? hp)
            have hqR := hR.out q (List.mem_of_getElem? hq)
            have hnr := near_eq hpR hqR (hup.out k p q hp hq)
            have HV1 := fun w' => Lib.hid (overlap_any p q w' hpR hqR)
            have HV2 := fun w' => Lib.hid (halves_any p q w' hpR hqR)
            replace hp := Lib.hid hp
            replace hq := Lib.hid hq
            have hk0 : (0 : Int) < (k : Int) + 1 := by omega
            have hk4 : (0 : Int) ≤ (k : Int) + 1 := by omega
            have hwk : IntKind.i64.wrap (k : Int) = (k : Int) := IntWalk.i64_in _ (by omega)
            have hk2 : (k : Int) < n := by omega
            have hap : Hid (Apart (blk p) (blk q) → NearP ps (k + 2)) := Lib.hid (fun h j x y hj hx hy => by
              by_cases hjk : j + 1 < k + 1
              · exact hI.out j x y hjk hx hy
              · have : j = k := by omega
                subst this
                rw [hp.out] at hx; rw [hq.out] at hy
                cases hx; cases hy; exact h)
            have hna : Hid (¬ Apart (blk p) (blk q) → setF ps = 16) := Lib.hid (fun h => by
              unfold setF
              rw [if_neg (by rw [hz.out]; decide), if_neg]
              rw [least_get]
              intro hl
              exact h (hl k (blk p) (blk q) (by rw [List.getElem?_map, hp.out]; rfl) (by rw [List.getElem?_map, hq.out]; rfl)))
            replace hnr := Lib.hid hnr
            generalize (insP p q || insP q p) = b1 at *
            generalize hvP p q = b2 at *
            clear hpR hqR hI
            cases b1
            · go_wp2_with fail
              refine wx_begin (none) [] (by kernel_rfl) (fun u0 hb0' hz0' => ?_)
              replace hbw := hbw.trans (hb0'.mono hbw.size)
              clear hb0' hz0'
              refine wx_pureZ 0 (some 42) (v := ?_) ?_ ?_; rotate_left; · (intro u; go_simp; try with_reducible rfl)
              try simp only [Act.put, gzD, gzE, gzF]
              refine wx_pureZ 1 (some 43) (v := ?_) ?_ ?_; rotate_left; · (intro u; go_simp; try with_reducible rfl)
              try simp only [Act.put, gzD, gzE, gzF]
              refine wx_pureZ 2 (some 44) (v := ?_) ?_ ?_; rotate_left; · (intro u; go_simp; try with_reducible rfl)
              try simp only [Act.put, gzD, gzE, gzF]
              refine wx_pureZ 3 (some 45) (v := ?_) ?_ ?_; rotate_left; · (intro u; go_simp; try with_reducible rfl)
              try simp only [Act.put, gzD, gzE, gzF]
              refine wx_pureZ 4 (some 46) (v := ?_) ?_ ?_; rotate_left; · (intro u; go_simp; try with_reducible rfl)
              try simp only [Act.put, gzD, gzE, gzF]
              refine wx_pureZ 5 (some 47) (v := ?_) ?_ ?_; rotate_left; · (intro u; go_simp; try with_reducible rfl)
              try simp only [Act.put, gzD, gzE, gzF]
              refine wx_pureZ 6 (some 48) (v := ?_) ?_ ?_; rotate_left; · (intro u; go_simp; try with_reducible rfl)
              try simp only [Act.put, gzD, gzE, gzF]
              refine wx_takeZ 7 (some 49) (v := ?_) ?_ ?_; rotate_left; · (intro u hu; have k1 := SlE.ld rowPf ((hS.out.below hbw).keepG hu) hp.out; have k2 := SlE.ld rowPf ((hS.out.below hbw).keepG hu) hq.out; replace k1 : (ldT 41 (.pointer (some ⟨g0, off + k * 4, none⟩))).run Tryz.prog u = .ok (.value (pfA p)) u := k1; replace k2 : (ldT 41 (.pointer (some ⟨g0, off + (k + 1) * 4, none⟩))).run Tryz.prog u = .ok (.value (pfA q)) u := k2; go_simp; try with_reducible rfl)
              try simp only [Act.put, gzD, gzE, gzF]
              refine wx_pureZ 8 (some 50) (v := ?_) ?_ ?_; rotate_left; · (intro u; go_simp; try with_reducible rfl)
              try simp only [Act.put, gzD, gzE, gzF]
              refine wx_pureZ 9 (some 51) (v := ?_) ?_ ?_; rotate_left; · (intro u; go_simp; try with_reducible rfl)
              try simp only [Act.put, gzD, gzE, gzF]
              refine wx_pureZ 10 (some 52) (v := ?_) ?_ ?_; rotate_left; · (intro u; go_simp; try with_reducible rfl)
              try simp only [Act.put, gzD, gzE, gzF]
              refine wx_takeZ 11 (some 53) (v := ?_) ?_ ?_; rotate_left; · (intro u hu; have k1 := SlE.ld rowPf ((hS.out.below hbw).keepG hu) hp.out; have k2 := SlE.ld rowPf ((hS.out.below hbw).keepG hu) hq.out; replace k1 : (ldT 41 (.pointer (some ⟨g0, off + k * 4, none⟩))).run Tryz.prog u = .ok (.value (pfA p)) u := k1; replace k2 : (ldT 41 (.pointer (some ⟨g0, off + (k + 1) * 4, none⟩))).run Tryz.prog u = .ok (.value (pfA q)) u := k2; go_simp; try with_reducible rfl)
              try simp only [Act.put, gzD, gzE, gzF]
              refine wx_oneZ 12 (fun K hK => ?_)
              go_simp
              refine (HV1 _).out.mono ?_
              rintro e u1 ⟨rfl, hv1⟩
              refine hK _ _ (gbB hv1) ?_
              replace hbw := hbw.trans (hv1.mono hbw.size)
              clear hK K hv1
              try simp only [Act.put, gzD, gzE, gzF]
              refine wx_pureZ 13 (some 55) (v := ?_) ?_ ?_; rotate_left; · (intro u; go_simp; try with_reducible rfl)
              try simp only [Act.put, gzD, gzE, gzF]
              refine wx_pureZ 14 (some 56) (v := ?_) ?_ ?_; rotate_left; · (intro u; go_simp; try with_reducible rfl)
              try simp only [Act.put, gzD, gzE, gzF]
              refine wx_pureZ 15 (some 57) (v := ?_) ?_ ?_; rotate_left; · (intro u; go_simp; try with_reducible rfl)
              try simp only [Act.put, gzD, gzE, gzF]
              refine wx_pureZ 16 (some 58) (v := ?_) ?_ ?_; rotate_left; · (intro u; go_simp; try with_reducible rfl)
              try simp only [Act.put, gzD, gzE, gzF]
              refine wx_pureZ 17 (some 59) (v := ?_) ?_ ?_; rotate_left; · (intro u; go_simp; try with_reducible rfl)
              try simp only [Act.put, gzD, gzE, gzF]
              refine wx_takeZ 18 (some 60) (v := ?_) ?_ ?_; rotate_left; · (intro u hu; have k1 := SlE.ld rowPf ((hS.out.below hbw).keepG hu) hp.out; have k2 := SlE.ld rowPf ((hS.out.below hbw).keepG hu) hq.out; replace k1 : (ldT 41 (.pointer (some ⟨g0, off + k * 4, none⟩))).run Tryz.prog u = .ok (.value (pfA p)) u := k1; replace k2 : (ldT 41 (.pointer (some ⟨g0, off + (k + 1) * 4, none⟩))).run Tryz.prog u = .ok (.value (pfA q)) u := k2; go_simp; try with_reducible rfl)
              try simp only [Act.put, gzD, gzE, gzF]
              refine wx_pureZ 19 (some 61) (v := ?_) ?_ ?_; rotate_left; · (intro u; go_simp; try with_reducible rfl)
              try simp only [Act.put, gzD, gzE, gzF]
              refine wx_pureZ 20 (some 62) (v := ?_) ?_ ?_; rotate_left; · (intro u; go_simp; try with_reducible rfl)
              try simp only [Act.put, gzD, gzE, gzF]
              refine wx_pureZ 21 (some 63) (v := ?_) ?_ ?_; rotate_left; · (intro u; go_simp; try with_reducible rfl)
              try simp only [Act.put, gzD, gzE, gzF]
              refine wx_takeZ 22 (some 64) (v := ?_) ?_ ?_; rotate_left; · (intro u hu; have k1 := SlE.ld rowPf ((hS.out.below hbw).keepG hu) hp.out; have k2 := SlE.ld rowPf ((hS.out.below hbw).keepG hu) hq.out; replace k1 : (ldT 41 (.pointer (some ⟨g0, off + k * 4, none⟩))).run Tryz.prog u = .ok (.value (pfA p)) u := k1; replace k2 : (ldT 41 (.pointer (some ⟨g0, off + (k + 1) * 4, none⟩))).run Tryz.prog u = .ok (.value (pfA q)) u := k2; go_simp; try with_reducible rfl)
              try simp only [Act.put, gzD, gzE, gzF]
              refine wx_oneZ 23 (fun K hK => ?_)
              go_simp
              refine (HV2 _).out.mono ?_
              rintro e u2 ⟨rfl, hv1⟩
              refine hK _ _ (gbB hv1) ?_
              replace hbw := hbw.trans (hv1.mono hbw.size)
              clear hK K hv1
              try simp only [Act.put, gzD, gzE, gzF]
              refine wx_pureZ 24 (some 66) (v := ?_) ?_ ?_; rotate_left; · (intro u; go_simp; try with_reducible rfl)
              try simp only [Act.put, gzD, gzE, gzF]
              refine wx_pureZ 25 (some 67) (v := ?_) ?_ ?_; rotate_left; · (intro u; go_simp; try with_reducible rfl)
              try simp only [Act.put, gzD, gzE, gzF]
              refine wx_done (by kernel_rfl) ?_ _
              skip
              cases b2
              · have hI2 := Lib.hid (hap.out (by have h := hnr.out; simpa using h))
                clear hnr hap hna
                go_wp2_with fail
                go_roundw
                case rel => exact ⟨k + 2, by omega, by go_num, hI2, hbw⟩
                case measure => simp [intOf]; omega
              · have hfin := Lib.hid (hna.out (by have h := hnr.out; simpa using h))
                clear hnr hap hna
                go_wp2_with fail
                go_ret
                exact ⟨by rw [hfin.out]; rfl, hbw⟩
            · have hfin := Lib.hid (hna.out (by have h := hnr.out; simpa using h))
              clear hnr hap hna
              go_wp2_with fail
              refine wx_begin (none) [] (by kernel_rfl) (fun u0 hb0' hz0' => ?_)
              replace hbw := hbw.trans (hb0'.mono hbw.size)
              clear hb0' hz0'
              refine wx_pureZ 0 (some 42) (v := ?_) ?_ ?_; rotate_left; · (intro u; go_simp; try with_reducible rfl)
              try simp only [Act.put, gzD, gzE, gzF]
              refine wx_pureZ 1 (some 43) (v := ?_) ?_ ?_; rotate_left; · (intro u; go_simp; try with_reducible rfl)
              try simp only [Act.put, gzD, gzE, gzF]
              refine wx_pureZ 2 (some 44) (v := ?_) ?_ ?_; rotate_left; · (intro u; go_simp; try with_reducible rfl)
              try simp only [Act.put, gzD, gzE, gzF]
              refine wx_pureZ 3 (some 45) (v := ?_) ?_ ?_; rotate_left; · (intro u; go_simp; try with_reducible rfl)
              try simp only [Act.put, gzD, gzE, gzF]
              refine wx_pureZ 4 (some 46) (v := ?_) ?_ ?_; rotate_left; · (intro u; go_simp; try with_reducible rfl)
              try simp only [Act.put, gzD, gzE, gzF]
              refine wx_pureZ 5 (some 47) (v := ?_) ?_ ?_; rotate_left; · (intro u; go_simp; try with_reducible rfl)
              try simp only [Act.put, gzD, gzE, gzF]
              refine wx_pureZ 6 (some 48) (v := ?_) ?_ ?_; rotate_left; · (intro u; go_simp; try with_reducible rfl)
              try simp only [Act.put, gzD, gzE, gzF]
              refine wx_takeZ 7 (some 49) (v := ?_) ?_ ?_; rotate_left; · (intro u hu; have k1 := SlE.ld rowPf ((hS.out.below hbw).keepG hu) hp.out; have k2 := SlE.ld rowPf ((hS.out.below hbw).keepG hu) hq.out; replace k1 : (ldT 41 (.pointer (some ⟨g0, off + k * 4, none⟩))).run Tryz.prog u = .ok (.value (pfA p)) u := k1; replace k2 : (ldT 41 (.pointer (some ⟨g0, off + (k + 1) * 4, none⟩))).run Tryz.prog u = .ok (.value (pfA q)) u := k2; go_simp; try with_reducible rfl)
              try simp only [Act.put, gzD, gzE, gzF]
              refine wx_pureZ 8 (some 50) (v := ?_) ?_ ?_; rotate_left; · (intro u; go_simp; try with_reducible rfl)
              try simp only [Act.put, gzD, gzE, gzF]
              refine wx_pureZ 9 (some 51) (v := ?_) ?_ ?_; rotate_left; · (intro u; go_simp; try with_reducible rfl)
              try simp only [Act.put, gzD, gzE, gzF]
              refine wx_pureZ 10 (some 52) (v := ?_) ?_ ?_; rotate_left; · (intro u; go_simp; try with_reducible rfl)
              try simp only [Act.put, gzD, gzE, gzF]
              refine wx_takeZ 11 (some 53) (v := ?_) ?_ ?_; rotate_left; · (intro u hu; have k1 := SlE.ld rowPf ((hS.out.below hbw).keepG hu) hp.out; have k2 := SlE.ld rowPf ((hS.out.below hbw).keepG hu) hq.out; replace k1 : (ldT 41 (.pointer (some ⟨g0, off + k * 4, none⟩))).run Tryz.prog u = .ok (.value (pfA p)) u := k1; replace k2 : (ldT 41 (.pointer (some ⟨g0, off + (k + 1) * 4, none⟩))).run Tryz.prog u = .ok (.value (pfA q)) u := k2; go_simp; try with_reducible rfl)
              try simp only [Act.put, gzD, gzE, gzF]
              refine wx_oneZ 12 (fun K hK => ?_)
              go_simp
              refine (HV1 _).out.mono ?_
              rintro e u1 ⟨rfl, hv1⟩
              refine hK _ _ (gbB hv1) ?_
              replace hbw := hbw.trans (hv1.mono hbw.size)
              clear hK K hv1
              try simp only [Act.put, gzD, gzE, gzF]
              refine wx_pureZ 13 (some 55) (v := ?_) ?_ ?_; rotate_left; · (intro u; go_simp; try with_reducible rfl)
              try simp only [Act.put, gzD, gzE, gzF]
              refine wx_skipZ 14 (some 56) ?_
              try simp only [Act.put, gzD, gzE, gzF]
              refine wx_skipZ 15 (some 57) ?_
              try simp only [Act.put, gzD, gzE, gzF]
              refine wx_skipZ 16 (some 58) ?_
              try simp only [Act.put, gzD, gzE, gzF]
              refine wx_skipZ 17 (some 59) ?_
              try simp only [Act.put, gzD, gzE, gzF]
              refine wx_skipZ 18 (some 60) ?_
              try simp only [Act.put, gzD, gzE, gzF]
              refine wx_skipZ 19 (some 61) ?_
              try simp only [Act.put, gzD, gzE, gzF]
              refine wx_skipZ 20 (some 62) ?_
              try simp only [Act.put, gzD, gzE, gzF]
              refine wx_skipZ 21 (some 63) ?_
              try simp only [Act.put, gzD, gzE, gzF]
              refine wx_skipZ 22 (some 64) ?_
              try simp only [Act.put, gzD, gzE, gzF]
              refine wx_skipZ 23 (some 65) ?_
              try simp only [Act.put, gzD, gzE, gzF]
              refine wx_pureZ 24 (some 66) (v := ?_) ?_ ?_; rotate_left; · (intro u; go_simp; try with_reducible rfl)
              try simp only [Act.put, gzD, gzE, gzF]
              refine wx_pureZ 25 (some 67) (v := ?_) ?_ ?_; rotate_left; · (intro u; go_simp; try with_reducible rfl)
              try simp only [Act.put, gzD, gzE, gzF]
              refine wx_done (by kernel_rfl) ?_ _
              skip
              go_wp2_with fail
              go_ret
              exact ⟨by rw [hfin.out]; rfl, hbw⟩
        · have hfin : Hid (setF ps = 0) := Lib.hid (by
            unfold setF
            rw [if_neg (by rw [hz.out]; decide), if_pos]
            rw [least_get]
            intro j x y hx hy
            rw [List.getElem?_map] at hx hy
            obtain ⟨p, hp, rfl⟩ := Option.map_eq_some_iff.1 hx
            obtain ⟨q, hq, rfl⟩ := Option.map_eq_some_iff.1 hy
            have := (List.getElem?_eq_some_iff.1 hq).1
            have := hpl.out
            exact hI.out j p q (by omega) hp hq)
          go_wp2_with fail
          go_ret
          exact ⟨by rw [hfin.out]; rfl, hbw⟩
end Go.Proofs.YtkldcmmlllkhkaaGreatDoor
