/- Tables: how the program checks a table. -/
import Derived.Test.YtfpcalgkfagjkaaGreatDoorKrGzA
import Derived.Test.YtfpcalgkfagjkaaGreatDoorKrTbB
import Derived.Test.YtfpcalgkfagjkaaGreatDoorKrStG
import Derived.Test.YtfpcalgkfagjkaaGreatDoorKrTdK
set_option linter.unusedVariables false
set_option linter.unusedSimpArgs false
set_option maxRecDepth 100000
namespace Go.Proofs.YtfpcalgkfagjkaaGreatDoor
open Go.RowKit

def cmpPf (p q : Pf) : Int := firstZ [cmpN p.1.n q.1.n, Lib.compareInt p.2 q.2]

set_option maxHeartbeats 4000000 in
theorem pfCmp_d (p q : Pf) (w : World) (hp : p.1.U) (hq : q.1.U) :
    Calls Tryz.prog 39 #[pfA p, pfA q] w (GivesD (.int .i64 (cmpPf p q)) w) := by
  obtain ⟨z1, hz1⟩ : ∃ z, z = cmpN p.1.n q.1.n := ⟨_, rfl⟩
  obtain ⟨z2, hz2⟩ : ∃ z, z = Lib.compareInt p.2 q.2 := ⟨_, rfl⟩
  have C1 := Lib.hid (fun w' => spanCmp_d p.1 q.1 w' hp hq)
  have C2 := Lib.hid (fun w' => intCmp_d p.2 q.2 w')
  have HR : Hid (firstZ [z1, z2] = cmpPf p q) := Lib.hid (by rw [hz1, hz2]; rfl)
  rw [← hz1] at C1
  rw [← hz2] at C2
  obtain ⟨R, hR⟩ : ∃ R, R = cmpPf p q := ⟨_, rfl⟩
  rw [← hR] at HR ⊢
  clear hz1 hz2 hR hp hq
  obtain ⟨hA, hD⟩ := two_new w (pfC p) (pfC q) 35 35
  have hG : Gd w ((w.alloc (.cells (pfC p).toArray 35)).alloc (.cells (pfC q).toArray 35)) := ((Gd.refl w).alloc _).alloc _
  have hB := Gd.refl ((w.alloc (.cells (pfC p).toArray 35)).alloc (.cells (pfC q).toArray 35))
  go_enter Tryz.func39, Tryz.ntmps39
  go_upto_region 1 with fail
  refine wd_begin [] (by kernel_rfl) (fun u0 hb0' hz0' => ?_)
  replace hB := hB.trans hb0'
  clear hb0' hz0'
  refine wd_pureZ 0 (some 5) (v := ?_) ?_ ?_; rotate_left; · (intro u; go_simp; try with_reducible rfl)
  try simp only [Act.put, gzD, gzE, gzF]
  refine wd_takeZ 1 (some 6) (v := ?_) ?_ ?_; rotate_left; · (intro u hu; have ka := hA.gn (hB.trans hu).1; have kb := hD.gn (hB.trans hu).1; have a3 := ka.cell (i := 3) (v := .int .i64 p.2) rfl; have b3 := kb.cell (i := 3) (v := .int .i64 q.2) rfl; have l1 := ka.ldAt rowAd 0 (adC p.1) [.int .i64 p.2] rfl rfl; have l2 := kb.ldAt rowAd 0 (adC q.1) [.int .i64 q.2] rfl rfl; clear ka kb; go_simp; try with_reducible rfl)
  try simp only [Act.put, gzD, gzE, gzF]
  refine wd_pureZ 2 (some 7) (v := ?_) ?_ ?_; rotate_left; · (intro u; go_simp; try with_reducible rfl)
  try simp only [Act.put, gzD, gzE, gzF]
  refine wd_takeZ 3 (some 8) (v := ?_) ?_ ?_; rotate_left; · (intro u hu; have ka := hA.gn (hB.trans hu).1; have kb := hD.gn (hB.trans hu).1; have a3 := ka.cell (i := 3) (v := .int .i64 p.2) rfl; have b3 := kb.cell (i := 3) (v := .int .i64 q.2) rfl; have l1 := ka.ldAt rowAd 0 (adC p.1) [.int .i64 p.2] rfl rfl; have l2 := kb.ldAt rowAd 0 (adC q.1) [.int .i64 q.2] rfl rfl; clear ka kb; go_simp; try with_reducible rfl)
  try simp only [Act.put, gzD, gzE, gzF]
  refine wd_pureZ 5 (some 10) (v := ?_) ?_ ?_; rotate_left; · (intro u; go_simp; try with_reducible rfl)
  try simp only [Act.put, gzD, gzE, gzF]
  refine wd_takeZ 6 (some 11) (v := ?_) ?_ ?_; rotate_left; · (intro u hu; have ka := hA.gn (hB.trans hu).1; have kb := hD.gn (hB.trans hu).1; have a3 := ka.cell (i := 3) (v := .int .i64 p.2) rfl; have b3 := kb.cell (i := 3) (v := .int .i64 q.2) rfl; have l1 := ka.ldAt rowAd 0 (adC p.1) [.int .i64 p.2] rfl rfl; have l2 := kb.ldAt rowAd 0 (adC q.1) [.int .i64 q.2] rfl rfl; clear ka kb; go_simp; try with_reducible rfl)
  try simp only [Act.put, gzD, gzE, gzF]
  refine wd_pureZ 7 (some 12) (v := ?_) ?_ ?_; rotate_left; · (intro u; go_simp; try with_reducible rfl)
  try simp only [Act.put, gzD, gzE, gzF]
  refine wd_takeZ 8 (some 13) (v := ?_) ?_ ?_; rotate_left; · (intro u hu; have ka := hA.gn (hB.trans hu).1; have kb := hD.gn (hB.trans hu).1; have a3 := ka.cell (i := 3) (v := .int .i64 p.2) rfl; have b3 := kb.cell (i := 3) (v := .int .i64 q.2) rfl; have l1 := ka.ldAt rowAd 0 (adC p.1) [.int .i64 p.2] rfl rfl; have l2 := kb.ldAt rowAd 0 (adC q.1) [.int .i64 q.2] rfl rfl; clear ka kb; go_simp; try with_reducible rfl)
  try simp only [Act.put, gzD, gzE, gzF]
  refine wd_oneZ 4 (fun K hK => ?_)
  go_simp
  refine (C1.out _).mono ?_
  rintro e u4 ⟨rfl, hv1⟩
  refine hK _ _ hv1 ?_
  replace hB := hB.trans hv1
  clear hv1 hK K
  try simp only [Act.put, gzD, gzE, gzF]
  refine wd_oneZ 9 (fun K hK => ?_)
  go_simp
  refine (C2.out _).mono ?_
  rintro e u9 ⟨rfl, rfl⟩
  refine hK _ _ (Gd.refl _) ?_
  clear hK K
  try simp only [Act.put, gzD, gzE, gzF]
  refine wd_oneZ 10 (fun K hK => ?_)
  go_simp
  refine hK _ _ ((Gd.refl _).alloc _) ?_
  clear hK K
  refine wd_new (cs := [z1, z2].map (Value.int .i64)) (fun u91 hd1 hq1 hz1 => ?_)
  replace hB := hB.trans hd1
  try simp only [Act.put, gzD, gzE, gzF]
  refine wd_oneZ 11 (fun K hK => ?_)
  go_simp
  refine (orI_blk [z1, z2] _ _ _ _ hq1 (by simp)).mono ?_
  rintro e w' ⟨rfl, rfl⟩
  refine hK _ _ (Gd.refl _) ?_
  clear hK K
  try simp only [Act.put, gzD, gzE, gzF]
  refine wd_pureZ 12 (some 4) (v := ?_) ?_ ?_; rotate_left; · (intro u; go_simp; try with_reducible rfl)
  try simp only [Act.put, gzD, gzE, gzF]
  refine wd_done (by kernel_rfl) ?_ _
  go_wp2_with fail
  go_ret
  exact ⟨ret_i64 HR.out, hG.trans hB⟩

theorem rangeAt_kbT {w u : World} {g o : Nat} {cs : List Value} (h : w.rangeAt g o cs) (hb : u.heap[g]? = w.heap[g]?) : u.rangeAt g o cs := fun j v hv => by
  rw [World.cell?_of_block (w := w) hb]; exact h j v hv
theorem rangeAt_left {w : World} {g o : Nat} {a b : List Value} (h : w.rangeAt g o (a ++ b)) : w.rangeAt g o a := fun j v hv =>
  h j v (by rw [List.getElem?_append_left (List.getElem?_eq_some_iff.1 hv).1]; exact hv)
def badE (prev : Option En) (x : En) : Bool := match prev with
  | none => false
  | some p => decide (cmpPf x.p p.p ≤ 0)
def tabG (prev : Option En) : List En → Int
  | [] => 0
  | x :: l => if pfE x.p = 0 then (if keyB x.nm = true then (if badE prev x then 7 else tabG (some x) l) else 5) else pfE x.p
def prevE (t : List En) : Nat → Option En
  | 0 => none
  | k + 1 => t[k]?
def tabF (t : List En) : Int := if 500 < t.length then 2 else tabG none t
theorem tabG_step {t : List En} {k : Nat} {x : En} (hx : t[k]? = some x) : tabG (prevE t k) (t.drop k) = if pfE x.p = 0 then (if keyB x.nm = true then (if badE (prevE t k) x then 7 else tabG (prevE t (k + 1)) (t.drop (k + 1))) else 5) else pfE x.p := by
  rw [List.drop_eq_getElem_cons (List.getElem?_eq_some_iff.1 hx).1, (List.getElem?_eq_some_iff.1 hx).2]
  show _ = if pfE x.p = 0 then (if keyB x.nm = true then (if badE (prevE t k) x then 7 else tabG (t[k]?) (t.drop (k + 1))) else 5) else pfE x.p
  rw [hx]
  rfl
theorem tabG_end {t : List En} {k : Nat} (h : t.length ≤ k) (p : Option En) : tabG p (t.drop k) = 0 := by
  rw [List.drop_eq_nil_of_le h]; rfl
theorem checkPf_any (p : Pf) (w : World) (hp : p.1.U) : Calls Tryz.prog 37 #[pfA p] w (GivesV (.int .i64 (pfE p)) w) :=
  checkPrefix_any p.1.s p.1.hi p.1.lo p.2 w hp.1.1 hp.1.2 hp.2.1 hp.2.2

set_option maxHeartbeats 4000000 in
theorem checkTable_any (R : Int) (A : Option Addr) (n cap : Nat) (t : List En) (w : World) (hS : SlE eEn w A n cap t) (hn : n ≤ 100000) (hU : ∀ x ∈ t, x.p.1.U) (hR : R = tabF t) :
    Calls Tryz.prog 16 #[.slice A n cap] w (GivesV (.int .i64 R) w) := by
  have hl := hS.1
  unfold tabF at hR
  by_cases h3 : 500 < n
  · have hV := Lib.hid (show R = 2 by rw [hR, if_pos (by omega)])
    have h3' : (500 : Int) < n := by omega
    clear h3 hS hl hn hR hU
    go_enter Tryz.func16, Tryz.ntmps16
    go_wp2_with fail
    go_ret
    exact ⟨by rw [hV.out]; rfl, Below.refl _ _⟩
  · have h3' : ¬ (500 : Int) < n := by omega
    rw [if_neg (by omega)] at hR
    replace hR := Lib.hid hR
    replace hl := Lib.hid hl
    replace hS := Lib.hid hS
    replace hU := Lib.hid hU
    clear h3
    go_enter Tryz.func16, Tryz.ntmps16
    go_wp2_with fail
    go_loopw [11] (fun vi wr => ∃ k : Nat, k ≤ n ∧ vi = .int .i64 k ∧ Below w.heap.size w wr ∧ Hid (R = tabG (prevE t k) (t.drop k))) (fun vi _ => n - (intOf vi).toNat)
    case atStart => exact ⟨0, Nat.zero_le _, rfl, Below.refl _ _, Lib.hid hR.out⟩
    case round =>
      obtain ⟨k, hk, rfl, hbw, hI⟩ := hrel
      by_cases hlt : k < n
      · obtain ⟨x, hx⟩ : ∃ x, t[k]? = some x := ⟨t[k]'(by have := hl.out; omega), List.getElem?_eq_getElem _⟩
        have hS1 := hS.out.below hbw
        obtain ⟨g, off, rfl, hgl, _⟩ := hS1.at' hlt
        have k1 : (ldT 37 (.pointer (some ⟨g, off + k * 5, none⟩))).run Tryz.prog wr = .ok (.value (enA x)) wr := hS1.ld rowEn hx
        have hcap := hS1.2.1
        have hlt' : (k : Int) < n := by omega
        have S1 := stT_new rowEn (te := 37) wr wr.heap.size rfl [.bool false, .int .u64 0, .int .u64 0, .int .i64 0, .string ⟨#[]⟩] (enC x) rfl rfl (enC_one x)
        have hX := Blk.new wr (enC x) 37
        have hvA : Below wr.heap.size wr (wr.alloc (.cells (enC x).toArray 37)) := (Below.refl _ _).alloc (Nat.le_refl _) _
        have HK := Lib.hid (fun W => checkPf_any x.p W (hU.out x (List.mem_of_getElem? hx)))
        have HY := Lib.hid (fun W => isKey_any x.nm W)
        have hst := tabG_step hx
        rw [← hI.out] at hst
        have kx := hX.ldAt rowPf 0 (pfC x.p) [.string ⟨x.nm.toArray⟩] rfl rfl
        obtain ⟨F, hF⟩ : ∃ F, F = pfE x.p := ⟨_, rfl⟩
        rw [← hF] at HK hst
        obtain ⟨Q, hQ⟩ : ∃ Q, Q = keyB x.nm := ⟨_, rfl⟩
        rw [← hQ] at HY hst
        clear hI hF hQ
        by_cases h0 : F = 0
        · rw [if_pos h0] at hst
          subst h0
          replace hbw := hbw.trans (hvA.mono hbw.size)
          cases Q with
          | false =>
            have hst2 := Lib.hid (show R = 5 by rw [hst]; rfl)
            clear hst hS1 hx
            go_wp2_with fail
            refine (HK.out _).mono ?_
            rintro e w3 ⟨rfl, hv1⟩
            replace hX := hX.below hv1
            replace hbw := hbw.trans (hv1.mono hbw.size)
            have k4 := hX.cell (i := 4) (v := .string ⟨x.nm.toArray⟩) rfl
            clear hv1 HK k1 S1 kx
            go_wp2_with fail
            refine (HY.out _).mono ?_
            rintro e w4 ⟨rfl, rfl⟩
            clear HY k4
            go_wp2_with fail
            go_ret
            exact ⟨by rw [hst2.out]; rfl, hbw⟩
          | true =>
          rw [if_pos rfl] at hst
          by_cases hk0 : k = 0
          · subst hk0
            have hst2 := Lib.hid (show R = tabG (prevE t (0 + 1)) (t.drop (0 + 1)) by rw [hst, if_neg]; simp [prevE, badE])
            rw [Nat.zero_mul, Nat.add_zero] at k1
            clear hst hS1 hvA hx
            go_wp2_with fail
            refine (HK.out _).mono ?_
            rintro e w3 ⟨rfl, hv1⟩
            replace hX := hX.below hv1
            replace hbw := hbw.trans (hv1.mono hbw.size)
            have k4 := hX.cell (i := 4) (v := .string ⟨x.nm.toArray⟩) rfl
            clear hv1 HK k1 S1 kx
            go_wp2_with fail
            refine (HY.out _).mono ?_
            rintro e w4 ⟨rfl, rfl⟩
            clear HY k4
            go_upto_region 11 with fail
            refine wb_begin ([wr.heap.size]) [] (by kernel_rfl) (fun u0 hb0' hz0' => ?_)
            replace hX := hX.below hb0'
            replace hbw := hbw.trans (hb0'.mono hbw.size)
            clear hb0' hz0'
            refine wb_pureZ 0 (some 26) (v := ?_) ?_ ?_; rotate_left; · (intro u; go_simp; try with_reducible rfl)
            try simp only [Act.put, gzD, gzE, gzF]
            refine wb_pureZ 1 (some 27) (v := ?_) ?_ ?_; rotate_left; · (intro u; go_simp; try with_reducible rfl)
            try simp only [Act.put, gzD, gzE, gzF]
            refine wb_pureZ 2 (some 28) (v := ?_) ?_ ?_; rotate_left; · (intro u; go_simp; try with_reducible rfl)
            try simp only [Act.put, gzD, gzE, gzF]
            refine wb_skipZ 3 (some 29) ?_
            try simp only [Act.put, gzD, gzE, gzF]
            refine wb_skipZ 4 (some 30) ?_
            try simp only [Act.put, gzD, gzE, gzF]
            refine wb_skipZ 5 (some 31) ?_
            try simp only [Act.put, gzD, gzE, gzF]
            refine wb_skipZ 6 (some 32) ?_
            try simp only [Act.put, gzD, gzE, gzF]
            refine wb_skipZ 7 (some 33) ?_
            try simp only [Act.put, gzD, gzE, gzF]
            refine wb_skipZ 8 (some 34) ?_
            try simp only [Act.put, gzD, gzE, gzF]
            refine wb_skipZ 9 (some 35) ?_
            try simp only [Act.put, gzD, gzE, gzF]
            refine wb_skipZ 10 (some 36) ?_
            try simp only [Act.put, gzD, gzE, gzF]
            refine wb_skipZ 11 (some 37) ?_
            try simp only [Act.put, gzD, gzE, gzF]
            refine wb_skipZ 12 (some 38) ?_
            try simp only [Act.put, gzD, gzE, gzF]
            refine wb_pureZ 13 (some 39) (v := ?_) ?_ ?_; rotate_left; · (intro u; go_simp; try with_reducible rfl)
            try simp only [Act.put, gzD, gzE, gzF]
            refine wb_done (by kernel_rfl) ?_ _
            skip
            go_wp2_with fail
            go_roundw
            case rel => exact ⟨0 + 1, by omega, by go_num, hbw, hst2⟩
            case measure => simp [intOf]; omega
          · obtain ⟨p, hp⟩ : ∃ p, t[k - 1]? = some p := ⟨t[k - 1]'(by have := hl.out; omega), List.getElem?_eq_getElem _⟩
            have hpr : prevE t k = some p := by
              obtain ⟨j, rfl⟩ : ∃ j, k = j + 1 := ⟨k - 1, by omega⟩
              exact hp
            rw [hpr] at hst
            have hbd : badE (some p) x = decide (cmpPf x.p p.p ≤ 0) := rfl
            rw [hbd] at hst
            have hRg : wr.rangeAt g (off + (k - 1) * 5) (pfC p.p) := rangeAt_left (b := [.string ⟨p.nm.toArray⟩]) (hS1.range hp)
            replace hRg := rangeAt_kbT hRg (hvA.block g hgl)
            replace hgl := Nat.lt_of_lt_of_le hgl hvA.size
            have HC := Lib.hid (fun W => pfCmp_d x.p p.p W (hU.out x (List.mem_of_getElem? hx)) (hU.out p (List.mem_of_getElem? hp)))
            generalize cmpPf x.p p.p = C at HC hst
            have hkz : (0 : Int) < k := by omega
            have hkN : 0 < k := by omega
            have hi1 : (1 : Int) ≤ k := by omega
            have hi2 : (k : Int) - 1 < n := by omega
            have hkD : decide (0 < k) = true := decide_eq_true hkN
            have e1 : IntKind.i64.wrap ((k : Int) - 1) = (k : Int) - 1 := IntWalk.i64_in _ (by omega)
            have hsplit : (C ≤ 0 ∧ R = 7) ∨ (¬ C ≤ 0 ∧ R = tabG (prevE t (k + 1)) (t.drop (k + 1))) := by
              by_cases hc : C ≤ 0
              · rw [decide_eq_true hc, if_pos rfl] at hst; exact .inl ⟨hc, hst⟩
              · rw [decide_eq_false hc] at hst; exact .inr ⟨hc, hst⟩
            clear hst hbd hpr hS1 hvA hx hp
            rcases hsplit with ⟨hc, hst⟩ | ⟨hc, hst⟩
            · subst hst
              go_wp2_with fail
              refine (HK.out _).mono ?_
              rintro e w3 ⟨rfl, hv1⟩
              replace hX := hX.below hv1
              replace hRg := rangeAt_kbT hRg (hv1.block g hgl)
              replace hgl := Nat.lt_of_lt_of_le hgl hv1.size
              replace hbw := hbw.trans (hv1.mono hbw.size)
              have k4 := hX.cell (i := 4) (v := .string ⟨x.nm.toArray⟩) rfl
              clear hv1 HK k1 S1 kx
              go_wp2_with fail
              refine (HY.out _).mono ?_
              rintro e w4 ⟨rfl, rfl⟩
              clear HY k4
              go_upto_region 11 with fail
              refine wb_begin ([wr.heap.size, g]) [] (by kernel_rfl) (fun u0 hb0' hz0' => ?_)
              replace hX := hX.below hb0'
              replace hRg := rangeAt_kbT hRg (hb0'.block _ hgl)
              replace hgl := Nat.lt_of_lt_of_le hgl hb0'.size
              replace hbw := hbw.trans (hb0'.mono hbw.size)
              clear hb0' hz0'
              refine wb_pureZ 0 (some 26) (v := ?_) ?_ ?_; rotate_left; · (intro u; go_simp; try with_reducible rfl)
              try simp only [Act.put, gzD, gzE, gzF]
              refine wb_pureZ 1 (some 27) (v := ?_) ?_ ?_; rotate_left; · (intro u; go_simp; try with_reducible rfl)
              try simp only [Act.put, gzD, gzE, gzF]
              refine wb_pureZ 2 (some 28) (v := ?_) ?_ ?_; rotate_left; · (intro u; go_simp; try with_reducible rfl)
              try simp only [Act.put, gzD, gzE, gzF]
              refine wb_pureZ 3 (some 29) (v := ?_) ?_ ?_; rotate_left; · (intro u; go_simp; try with_reducible rfl)
              try simp only [Act.put, gzD, gzE, gzF]
              refine wb_takeZ 4 (some 30) (v := ?_) ?_ ?_; rotate_left; · (intro u hu; have kx := hX.kb hu (by simp); have k1 := kx.ldAt rowPf 0 (pfC x.p) [.string ⟨x.nm.toArray⟩] rfl rfl; have k2 := ldT_run rowPf (pfC_len p.p) (rangeAt_kbT hRg (hu g (by simp))); clear kx; go_simp; try with_reducible rfl)
              try simp only [Act.put, gzD, gzE, gzF]
              refine wb_pureZ 5 (some 31) (v := ?_) ?_ ?_; rotate_left; · (intro u; go_simp; try with_reducible rfl)
              try simp only [Act.put, gzD, gzE, gzF]
              refine wb_pureZ 6 (some 32) (v := ?_) ?_ ?_; rotate_left; · (intro u; go_simp; try with_reducible rfl)
              try simp only [Act.put, gzD, gzE, gzF]
              refine wb_pureZ 7 (some 33) (v := ?_) ?_ ?_; rotate_left; · (intro u; go_simp; try with_reducible rfl)
              try simp only [Act.put, gzD, gzE, gzF]
              refine wb_pureZ 8 (some 34) (v := ?_) ?_ ?_; rotate_left; · (intro u; go_simp; try with_reducible rfl)
              try simp only [Act.put, gzD, gzE, gzF]
              refine wb_pureZ 9 (some 35) (v := ?_) ?_ ?_; rotate_left; · (intro u; go_simp; try with_reducible rfl)
              try simp only [Act.put, gzD, gzE, gzF]
              refine wb_takeZ 10 (some 36) (v := ?_) ?_ ?_; rotate_left; · (intro u hu; have kx := hX.kb hu (by simp); have k1 := kx.ldAt rowPf 0 (pfC x.p) [.string ⟨x.nm.toArray⟩] rfl rfl; have k2 := ldT_run rowPf (pfC_len p.p) (rangeAt_kbT hRg (hu g (by simp))); clear kx; go_simp; try with_reducible rfl)
              try simp only [Act.put, gzD, gzE, gzF]
              refine wb_oneZ 11 (fun K hK => ?_)
              go_simp
              refine (HC.out _).mono ?_
              rintro e u11 ⟨rfl, hg1⟩
              have hv1 := hg1.below
              refine hK _ _ (Kb.below hv1 (by intro q hq; simp only [List.mem_cons, List.not_mem_nil, or_false] at hq; rcases hq with rfl | rfl <;> first | exact hX.lt | exact hgl)) ?_
              replace hX := hX.below hv1
              replace hRg := rangeAt_kbT hRg (hv1.block _ hgl)
              replace hgl := Nat.lt_of_lt_of_le hgl hv1.size
              replace hbw := hbw.trans (hv1.mono hbw.size)
              clear hK K hv1 hg1
              try simp only [Act.put, gzD, gzE, gzF]
              refine wb_pureZ 12 (some 38) (v := ?_) ?_ ?_; rotate_left; · (intro u; go_simp; try with_reducible rfl)
              try simp only [Act.put, gzD, gzE, gzF]
              refine wb_pureZ 13 (some 39) (v := ?_) ?_ ?_; rotate_left; · (intro u; go_simp; try with_reducible rfl)
              try simp only [Act.put, gzD, gzE, gzF]
              refine wb_done (by kernel_rfl) ?_ _
              skip
              go_wp2_with fail
              go_ret
              exact ⟨rfl, hbw⟩
            · replace hst := Lib.hid hst
              go_wp2_with fail
              refine (HK.out _).mono ?_
              rintro e w3 ⟨rfl, hv1⟩
              replace hX := hX.below hv1
              replace hRg := rangeAt_kbT hRg (hv1.block g hgl)
              replace hgl := Nat.lt_of_lt_of_le hgl hv1.size
              replace hbw := hbw.trans (hv1.mono hbw.size)
              have k4 := hX.cell (i := 4) (v := .string ⟨x.nm.toArray⟩) rfl
              clear hv1 HK k1 S1 kx
              go_wp2_with fail
              refine (HY.out _).mono ?_
              rintro e w4 ⟨rfl, rfl⟩
              clear HY k4
              go_upto_region 11 with fail
              refine wb_begin ([wr.heap.size, g]) [] (by kernel_rfl) (fun u0 hb0' hz0' => ?_)
              replace hX := hX.below hb0'
              replace hRg := rangeAt_kbT hRg (hb0'.block _ hgl)
              replace hgl := Nat.lt_of_lt_of_le hgl hb0'.size
              replace hbw := hbw.trans (hb0'.mono hbw.size)
              clear hb0' hz0'
              refine wb_pureZ 0 (some 26) (v := ?_) ?_ ?_; rotate_left; · (intro u; go_simp; try with_reducible rfl)
              try simp only [Act.put, gzD, gzE, gzF]
              refine wb_pureZ 1 (some 27) (v := ?_) ?_ ?_; rotate_left; · (intro u; go_simp; try with_reducible rfl)
              try simp only [Act.put, gzD, gzE, gzF]
              refine wb_pureZ 2 (some 28) (v := ?_) ?_ ?_; rotate_left; · (intro u; go_simp; try with_reducible rfl)
              try simp only [Act.put, gzD, gzE, gzF]
              refine wb_pureZ 3 (some 29) (v := ?_) ?_ ?_; rotate_left; · (intro u; go_simp; try with_reducible rfl)
              try simp only [Act.put, gzD, gzE, gzF]
              refine wb_takeZ 4 (some 30) (v := ?_) ?_ ?_; rotate_left; · (intro u hu; have kx := hX.kb hu (by simp); have k1 := kx.ldAt rowPf 0 (pfC x.p) [.string ⟨x.nm.toArray⟩] rfl rfl; have k2 := ldT_run rowPf (pfC_len p.p) (rangeAt_kbT hRg (hu g (by simp))); clear kx; go_simp; try with_reducible rfl)
              try simp only [Act.put, gzD, gzE, gzF]
              refine wb_pureZ 5 (some 31) (v := ?_) ?_ ?_; rotate_left; · (intro u; go_simp; try with_reducible rfl)
              try simp only [Act.put, gzD, gzE, gzF]
              refine wb_pureZ 6 (some 32) (v := ?_) ?_ ?_; rotate_left; · (intro u; go_simp; try with_reducible rfl)
              try simp only [Act.put, gzD, gzE, gzF]
              refine wb_pureZ 7 (some 33) (v := ?_) ?_ ?_; rotate_left; · (intro u; go_simp; try with_reducible rfl)
              try simp only [Act.put, gzD, gzE, gzF]
              refine wb_pureZ 8 (some 34) (v := ?_) ?_ ?_; rotate_left; · (intro u; go_simp; try with_reducible rfl)
              try simp only [Act.put, gzD, gzE, gzF]
              refine wb_pureZ 9 (some 35) (v := ?_) ?_ ?_; rotate_left; · (intro u; go_simp; try with_reducible rfl)
              try simp only [Act.put, gzD, gzE, gzF]
              refine wb_takeZ 10 (some 36) (v := ?_) ?_ ?_; rotate_left; · (intro u hu; have kx := hX.kb hu (by simp); have k1 := kx.ldAt rowPf 0 (pfC x.p) [.string ⟨x.nm.toArray⟩] rfl rfl; have k2 := ldT_run rowPf (pfC_len p.p) (rangeAt_kbT hRg (hu g (by simp))); clear kx; go_simp; try with_reducible rfl)
              try simp only [Act.put, gzD, gzE, gzF]
              refine wb_oneZ 11 (fun K hK => ?_)
              go_simp
              refine (HC.out _).mono ?_
              rintro e u11 ⟨rfl, hg1⟩
              have hv1 := hg1.below
              refine hK _ _ (Kb.below hv1 (by intro q hq; simp only [List.mem_cons, List.not_mem_nil, or_false] at hq; rcases hq with rfl | rfl <;> first | exact hX.lt | exact hgl)) ?_
              replace hX := hX.below hv1
              replace hRg := rangeAt_kbT hRg (hv1.block _ hgl)
              replace hgl := Nat.lt_of_lt_of_le hgl hv1.size
              replace hbw := hbw.trans (hv1.mono hbw.size)
              clear hK K hv1 hg1
              try simp only [Act.put, gzD, gzE, gzF]
              refine wb_pureZ 12 (some 38) (v := ?_) ?_ ?_; rotate_left; · (intro u; go_simp; try with_reducible rfl)
              try simp only [Act.put, gzD, gzE, gzF]
              refine wb_pureZ 13 (some 39) (v := ?_) ?_ ?_; rotate_left; · (intro u; go_simp; try with_reducible rfl)
              try simp only [Act.put, gzD, gzE, gzF]
              refine wb_done (by kernel_rfl) ?_ _
              skip
              go_wp2_with fail
              go_roundw
              case rel => exact ⟨k + 1, by omega, by go_num, hbw, hst⟩
              case measure => simp [intOf]; omega
        · rw [if_neg h0] at hst
          subst hst
          clear hS1
          go_wp2_with fail
          refine (HK.out _).mono ?_
          rintro e w3 ⟨rfl, hv1⟩
          replace hbw := (hbw.trans (hvA.mono hbw.size)).trans (hv1.mono (by have := hbw.size; have := hvA.size; omega))
          go_wp2_with fail
          go_ret
          exact ⟨rfl, hbw⟩
      · have hV := Lib.hid (show R = 0 by rw [hI.out, tabG_end (by have := hl.out; omega)])
        have hnlt : ¬ (k : Int) < n := by omega
        go_wp2_with fail
        go_ret
        exact ⟨by rw [hV.out]; rfl, hbw⟩
end Go.Proofs.YtfpcalgkfagjkaaGreatDoor
