/- Sets: blocks as prefixes (pure). -/
import Derived.Test.YtkldcmmlllkhkaaGreatDoorKqGzA
import Derived.Test.YtkldcmmlllkhkaaGreatDoorKqStP
import Derived.Test.YtkldcmmlllkhkaaGreatDoorKqStH
import Derived.Test.YtkldcmmlllkhkaaGreatDoorKqWaysB
set_option linter.unusedVariables false
set_option linter.unusedSimpArgs false
set_option maxRecDepth 100000
namespace Go.Proofs.YtkldcmmlllkhkaaGreatDoor
open Go.RowKit

theorem rgP_R {p : Pf} (h : p.R) : RgR (rgP p) := by
  have hpos := Nat.two_pow_pos (freeB p)
  obtain ⟨_, hok⟩ := h.blk_ok
  unfold OkB OkX blk at hok
  simp only at hok
  have hR : (adOf (p.1.n + 2 ^ freeB p - 1)).R := adOf_R (by rcases hok with g | g <;> omega)
  have hn : (adOf (p.1.n + 2 ^ freeB p - 1)).n = p.1.n + 2 ^ freeB p - 1 := adOf_n (by rcases hok with g | g <;> omega)
  refine ⟨h.1, hR, ?_, by show p.1.n ≤ (adOf (p.1.n + 2 ^ freeB p - 1)).n; omega⟩
  refine h.1.s_of hR ?_
  show p.1.n < 2 ^ 128 ↔ (adOf (p.1.n + 2 ^ freeB p - 1)).n < 2 ^ 128
  rcases hok with g | g <;> omega
theorem rgP_n {p : Pf} (h : p.R) : (rgP p).2.n = p.1.n + 2 ^ freeB p - 1 := by
  have hpos := Nat.two_pow_pos (freeB p)
  obtain ⟨_, hok⟩ := h.blk_ok
  unfold OkB OkX blk at hok
  simp only at hok
  exact adOf_n (by rcases hok with g | g <;> omega)
theorem iv_rgP {p : Pf} (h : p.R) : iv (rgP p) = ivB (blk p) := by
  have hpos := Nat.two_pow_pos (freeB p)
  unfold iv ivB blk
  rw [rgP_n h]
  apply Prod.ext
  · rfl
  · show ((p.1.n + 2 ^ freeB p - 1 : Nat) : Int) = ((p.1.n + 2 ^ freeB p : Nat) : Int) - 1
    omega
theorem map_iv_rgP : ∀ (ps : List Pf), (∀ p ∈ ps, p.R) → (ps.map rgP).map iv = (ps.map blk).map ivB
  | [], _ => rfl
  | p :: r, h => by
    rw [List.map_cons, List.map_cons, List.map_cons, List.map_cons, iv_rgP (h p List.mem_cons_self), map_iv_rgP r (fun q hq => h q (List.mem_cons_of_mem _ hq))]

set_option maxHeartbeats 4000000 in
theorem ofS_any (A : Option Addr) (n cap : Nat) (ps : List Pf) (w : World) (hS : SlE ePf w A n cap ps) (hn : n ≤ 100000) (hR : ∀ p ∈ ps, p.R) :
    Calls Tryz.prog 54 #[.slice A n cap] w fun e w' => ∃ ys, Joined ys (ps.map rgP) ∧ ys.length ≤ n ∧ GivesL eSp w.heap.size ys e w' ∧ Below w.heap.size w w' := by
  have hpl := Lib.hid hS.1
  replace hS := Lib.hid hS
  replace hR := Lib.hid hR
  go_enter Tryz.func54, Tryz.ntmps54
  go_wp2_with fail
  go_loopw [3, 8] (fun o i wr => ∃ k : Nat, k ≤ n ∧ i = .int .i64 k ∧ OwnE eSp 106 w.heap.size wr o ((ps.map rgP).take k) ∧ Below w.heap.size w wr) (fun _ i _ => n - (intOf i).toNat)
  case atStart => exact ⟨0, by omega, rfl, OwnE.nil _ _, Below.refl _ _⟩
  case round =>
    obtain ⟨k, hk, rfl, hown, hbw⟩ := hrel
    have hne : Hid (some wr.heap.size ≠ u3.ownBlock) := Lib.hid (fun e => by have := hown.lt _ e.symm; omega)
    by_cases hlt : k < n
    · skip
      obtain ⟨p, hp⟩ : ∃ p, ps[k]? = some p := ⟨ps[k]'(by have := hpl.out; omega), List.getElem?_eq_getElem _⟩
      obtain ⟨g0, off, rfl, hg0, hc0⟩ := hS.out.at' hlt
      have hld := SlE.ld rowPf (hS.out.below hbw) hp
      replace hld : (ldT 41 (.pointer (some ⟨g0, off + k * 4, none⟩))).run Tryz.prog wr = .ok (.value (pfA p)) wr := hld
      have hpR := hR.out p (List.mem_of_getElem? hp)
      have hlt' : (k : Int) < n := by omega
      have hsw := hbw.size
      have hl2 := Lib.hid (show ((ps.map rgP).take k).length ≤ n by rw [List.length_take]; omega)
      have htk := Lib.hid (show (ps.map rgP).take (k + 1) = (ps.map rgP).take k ++ [rgP p] by rw [List.take_add_one, List.getElem?_map, hp]; rfl)
      have S1 := stT_new rowPf (te := 41) wr wr.heap.size rfl [.bool false, .int .u64 0, .int .u64 0, .int .i64 0] (pfC p) rfl rfl (pfC_one p)
      clear hc0 hp
      have hC := Blk.new wr (pfC p) 41
      replace hown := hown.alloc' (.cells (pfC p).toArray 41)
      replace hbw := hbw.alloc hsw (.cells (pfC p).toArray 41)
      have HO := fun w' => Lib.hid (of_w p.1 w' hpR.1.1)
      have HL := fun w' => Lib.hid (lastOf_w p w' hpR)
      rw [← rgP_n hpR] at HL
      have k1 := hC.ld rowPf rfl
      go_wp2_with fail
      clear k1 S1
      refine wb_begin ([wr.heap.size]) [] (by kernel_rfl) (fun u0 hb0' hz0' => ?_)
      replace hC := hC.below hb0'
      replace hown := hown.below hb0'
      replace hbw := hbw.trans (hb0'.mono hbw.size)
      clear hb0' hz0'
      refine wb_pureZ 0 (some 12) (v := ?_) ?_ ?_; rotate_left; · (intro u; go_simp; try with_reducible rfl)
      try simp only [Act.put, gzD, gzE, gzF]
      refine wb_pureZ 1 (some 13) (v := ?_) ?_ ?_; rotate_left; · (intro u; go_simp; try with_reducible rfl)
      try simp only [Act.put, gzD, gzE, gzF]
      refine wb_takeZ 2 (some 14) (v := ?_) ?_ ?_; rotate_left; · (intro u hu; have kc := hC.kb hu (List.mem_singleton.2 rfl); have k1 := kc.ld rowPf rfl; have k2 := kc.ldAt rowAd 0 (adC p.1) [.int .i64 p.2] rfl rfl; clear kc; go_simp; try with_reducible rfl)
      try simp only [Act.put, gzD, gzE, gzF]
      refine wb_takeZ 4 (some 16) (v := ?_) ?_ ?_; rotate_left; · (intro u hu; have kc := hC.kb hu (List.mem_singleton.2 rfl); have k1 := kc.ld rowPf rfl; have k2 := kc.ldAt rowAd 0 (adC p.1) [.int .i64 p.2] rfl rfl; clear kc; go_simp; try with_reducible rfl)
      try simp only [Act.put, gzD, gzE, gzF]
      refine wb_oneZ 3 (fun K hK => ?_)
      go_simp
      refine (HO _).out.mono ?_
      rintro e u1 ⟨rfl, hv1⟩
      refine hK _ _ (Kb.below hv1 (by intro q hq; rw [List.mem_singleton.1 hq]; exact hC.lt)) ?_
      replace hC := hC.below hv1
      replace hown := hown.below hv1
      replace hbw := hbw.trans (hv1.mono hbw.size)
      clear hK K hv1
      try simp only [Act.put, gzD, gzE, gzF]
      refine wb_oneZ 5 (fun K hK => ?_)
      go_simp
      refine (HL _).out.mono ?_
      rintro e u2 ⟨rfl, hv1⟩
      refine hK _ _ (Kb.below hv1 (by intro q hq; rw [List.mem_singleton.1 hq]; exact hC.lt)) ?_
      replace hC := hC.below hv1
      replace hown := hown.below hv1
      replace hbw := hbw.trans (hv1.mono hbw.size)
      clear hK K hv1
      try simp only [Act.put, gzD, gzE, gzF]
      refine wb_pureZ 6 (some 18) (v := ?_) ?_ ?_; rotate_left; · (intro u; go_simp; try with_reducible rfl)
      try simp only [Act.put, gzD, gzE, gzF]
      refine wb_oneZ 7 (fun K hK => ?_)
      go_simp
      refine hK _ _ (Kb.gb (World.grownBy_alloc _ _ none) (by intro q hq; rw [List.mem_singleton.1 hq]; exact ⟨hC.lt, by simp⟩)) ?_
      refine wb_new (cs := spC (rgP p)) (t := 106) (fun u3 hv3 hL3 hz3 => ?_)
      replace hC := hC.below hv3
      replace hown := hown.below hv3
      replace hbw := hbw.trans (hv3.mono hbw.size)
      clear hK K hv3 hz3
      try simp only [Act.put, gzD, gzE, gzF]
      refine wb_oneZ 8 (fun K hK => ?_)
      refine wp_app tyeSp _ _ rfl w.heap.size _ _ [rgP p] rfl hown ⟨_, 0, none⟩ 1 1 rfl rfl ?c1 ?c2 ?c3 ?_
      case c1 =>
        intro j u hj
        rw [Enc.cells_single] at hj
        rw [Addr.add_lit, Nat.zero_add]
        exact hL3.cell hj
      case c2 => have := hl2.out; simp only [List.length_singleton]; omega
      case c3 => exact hbw.size
      intro v3 x3 hown3 hg3 _
      refine hK _ _ (Kb.gb hg3 (by intro q hq; rw [List.mem_singleton.1 hq]; exact ⟨hC.lt, hne.out⟩)) ?_
      have hb3 : Below w.heap.size w x3 := hbw.grown hg3 hbw.size (fun k h => (hown.lt k h).1)
      clear hK K hg3 hown hbw hL3
      try simp only [Act.put, gzD, gzE, gzF]
      refine wb_pureZ 9 (some 3) (v := ?_) ?_ ?_; rotate_left; · (intro u; go_simp; try with_reducible rfl)
      try simp only [Act.put, gzD, gzE, gzF]
      refine wb_done (by kernel_rfl) ?_ _
      go_wp2_with fail
      go_roundw
      case rel => exact ⟨k + 1, by omega, by go_num, by rw [htk.out]; exact hown3, hb3⟩
      case measure => simp [intOf]; omega
    · have hkn : k = n := by omega
      obtain ⟨A', cap', rfl, hSr⟩ := hown.sl
      have htk := List.take_of_length_le (show (ps.map rgP).length ≤ k by rw [List.length_map]; have := hpl.out; omega)
      rw [htk] at hSr ⊢
      have hYR : ∀ x ∈ ps.map rgP, RgR x := fun x hx => by
        obtain ⟨p, hp, rfl⟩ := List.mem_map.1 hx
        exact rgP_R (hR.out p hp)
      rw [show (ps.map rgP).length = n by rw [List.length_map]; exact hpl.out.symm] at hSr ⊢
      have HJ := Lib.hid (joinSp_any A' n cap' (ps.map rgP) wr hSr hn hYR)
      clear hown hSr hYR htk hkn
      go_wp2_with fail
      refine HJ.out.mono ?_
      rintro e w2 ⟨ys, hy1, hy2, ⟨A2, cap2, rfl, hy3, hy4⟩, hb2⟩
      have hy5 := Lib.hid hy4
      replace hy3 := Lib.hid hy3
      clear HJ hy4
      obtain ⟨L, hL⟩ : ∃ L, L = ys.length := ⟨_, rfl⟩
      rw [← hL] at hy2 hy3 ⊢
      replace hL := Lib.hid hL
      go_wp2_with fail
      go_ret
      exact ⟨ys, hy1, by rw [← hL.out]; exact hy2, ⟨A2, cap2, by rw [← hL.out]; rfl, by rw [← hL.out]; exact hy3.out, fun g off h => ⟨Nat.le_trans hbw.size (hy5.out g off h).1, (hy5.out g off h).2⟩⟩, hbw.trans (hb2.mono hbw.size)⟩


def rowA (x : Ad × Ad) : Nat × Nat := (x.1.n, x.2.n + 1)
theorem rowA_row {x : Ad × Ad} (h : RgR x) : Row (rowA x) := by
  obtain ⟨h1, h2, h3, h4⟩ := h
  refine ⟨by show x.1.n < x.2.n + 1; omega, ?_⟩
  unfold OkX rowA
  rcases h1.six with ⟨a1, a2, a3⟩ | ⟨a1, a2, a3⟩ <;> rcases h2.six with ⟨b1, b2, b3⟩ | ⟨b1, b2, b3⟩
  · left; show x.2.n + 1 ≤ 2 ^ 32; omega
  · rw [h3, b1] at a1; cases a1
  · rw [h3, b1] at a1; cases a1
  · right; exact ⟨by show 2 ^ 128 ≤ x.1.n; omega, by show x.2.n + 1 ≤ 2 ^ 129; omega⟩
theorem okX_next {a e k : Nat} (h : OkX a e) : OkX (a + 2 ^ k) e := by
  have := Nat.two_pow_pos k
  generalize 2 ^ k = m at *
  unfold OkX at *
  omega
theorem okX_ad {N e : Nat} (h : OkX N e) (hl : N < e) : (adOf N).R ∧ (adOf N).n = N := by
  unfold OkX at h
  exact ⟨adOf_R (by omega), adOf_n (by omega)⟩
theorem okX_fits {N e j : Nat} (h : OkX N e) (hl : N < e) (hf : Fits N e j) : j ≤ (lenZ (adOf N).s).toNat := by
  have hs : (adOf N).s = decide (2 ^ 128 ≤ N) := rfl
  have := hf.2
  unfold OkX at h
  rcases h with h | ⟨h1, h2⟩
  · rw [hs, decide_eq_false (by omega)]
    show j ≤ 32
    rcases Nat.lt_or_ge 32 j with g | g
    · have := Nat.pow_le_pow_right (show 0 < 2 by decide) (show 33 ≤ j by omega); omega
    · exact g
  · rw [hs, decide_eq_true h1]
    show j ≤ 128
    rcases Nat.lt_or_ge 128 j with g | g
    · have := Nat.pow_le_pow_right (show 0 < 2 by decide) (show 129 ≤ j by omega); omega
    · exact g
theorem dvd_num {N j : Nat} (hj : j ≤ 128) : 2 ^ j ∣ (adOf N).v ↔ 2 ^ j ∣ N := by
  rw [adOf_v]
  exact Nat.dvd_mod_iff (Nat.pow_dvd_pow 2 hj)
theorem first_iff {N e j : Nat} (h : OkX N e) (hl : N < e) (hj : j ≤ 128) : (s2n (adOf N).s + clr (adOf N).v j = N) ↔ 2 ^ j ∣ N := by
  have hn := (okX_ad h hl).2
  rw [← dvd_num hj]
  have e1 : (adOf N).n = s2n (adOf N).s + (adOf N).v := rfl
  constructor
  · intro g
    exact clr_dvd (by omega)
  · intro g
    rw [dvd_clr g]; omega
theorem at_len {N e j : Nat} (h : OkX N e) (hl : N < e) (hj : (lenZ (adOf N).s).toNat ≤ j) : ¬ Fits N e (j + 1) := fun hf => by
  have := okX_fits h hl hf
  omega
theorem pf_at {N e j : Nat} (h : OkX N e) (hl : N < e) (hf : Fits N e j) : Pf.R (adOf N, lenZ (adOf N).s - (j : Int)) ∧ freeB (adOf N, lenZ (adOf N).s - (j : Int)) = j ∧ (adOf N, lenZ (adOf N).s - (j : Int)) = pfOf (N, j) := by
  have hok : OkB (N, j) := by
    have := hf.2
    unfold OkB
    unfold OkX at *
    simp only
    omega
  exact ⟨pfOf_R (b := (N, j)) hf.1 hok, pfOf_free hok, rfl⟩
theorem cuts_app (l m : List (Nat × Nat)) : cuts (l ++ m) = cuts l ++ cuts m := List.flatMap_append
theorem cuts_one (x : Nat × Nat) : cuts [x] = cutN x.1 x.2 := List.append_nil _
theorem cuts_len : ∀ (l : List (Nat × Nat)), (∀ x ∈ l, Row x) → (cuts l).length ≤ l.length * 258
  | [], _ => Nat.zero_le _
  | x :: r, h => by
    have h1 : (cutN x.1 x.2).length ≤ 258 := cut_len_le (h x List.mem_cons_self).2.small
    have h2 := cuts_len r (fun y hy => h y (List.mem_cons_of_mem _ hy))
    show (cutN x.1 x.2 ++ cuts r).length ≤ _
    rw [List.length_append, List.length_cons, Nat.succ_mul]
    omega
theorem cutN_len_pos {a e : Nat} (h : a < e) : 0 < (cutN a e).length := by rw [cutN_cons h]; simp
theorem gb_setRow {w : World} {p : Nat} (cs : Array Value) : w.grownBy (w.setRow p cs) (some p) :=
  ⟨rfl, rfl, rfl, by simp, fun k hk hne => setRow_other _ _ _ _ (fun e => hne (by rw [e]))⟩
def slLen : Value → Nat
  | .slice _ n _ => n
  | _ => 0
def pfsOf (l : List (Nat × Nat)) : List Pf := (cuts l).map pfOf
end Go.Proofs.YtkldcmmlllkhkaaGreatDoor
