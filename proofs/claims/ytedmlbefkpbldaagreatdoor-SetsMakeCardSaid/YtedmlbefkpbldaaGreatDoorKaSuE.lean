/- Sets: what SetsMake compares. -/
import Derived.Test.YtedmlbefkpbldaaGreatDoorKaOwnA
import Derived.Test.YtedmlbefkpbldaaGreatDoorShelf
import Derived.Test.YtedmlbefkpbldaaGreatDoorKaSuD
import Derived.Deep.CutBlock
import Derived.Deep.DeepCutAuto
namespace Go.Proofs.YtedmlbefkpbldaaGreatDoor
open Go.RowKit

set_option maxHeartbeats 400000 in
theorem formatUint_in (i : Nat) (h : i < 100) (w : World) :
    Calls Tryz.prog 196 #[.int .u64 (i : Int), .int .i64 10] w fun e w' => e = .returned (.string ⟨(Lib.decDigits i).toArray⟩) ∧ w = w' := by
  have h1 : (i : Int) < 100 := by omega
  have HS := fun w' => Lib.hid (Tryz.internal_strconv_small i h w')
  go_enter Tryz.func196, Tryz.ntmps196
  go_wp2_with fail
  refine (HS _).out.mono ?_
  rintro e w' ⟨rfl, rfl⟩
  go_wp2_with fail
  go_ret
  exact ⟨rfl, rfl⟩

set_option maxHeartbeats 400000 in
theorem formatUint_small (i : Nat) (h : i < 100) (w : World) :
    Calls Tryz.prog 145 #[.int .u64 (i : Int), .int .i64 10] w fun e w' => e = .returned (.string ⟨(Lib.decDigits i).toArray⟩) ∧ w = w' := by
  go_enter Tryz.func145, Tryz.ntmps145
  go_wp2_with fail
  refine (formatUint_in i h _).mono ?_
  rintro e w' ⟨rfl, rfl⟩
  go_wp2_with fail
  go_ret
  exact ⟨rfl, rfl⟩

theorem fmt_zero (w : World) : Calls Tryz.prog 145 #[.int .u64 0, .int .i64 10] w fun e w' => e = .returned (.string ⟨#[48]⟩) ∧ w = w' := by
  have := formatUint_small 0 (by decide) w
  rwa [show Lib.decDigits 0 = [48] from by decide +kernel] at this
theorem fmt_one (w : World) : Calls Tryz.prog 145 #[.int .u64 1, .int .i64 10] w fun e w' => e = .returned (.string ⟨#[49]⟩) ∧ w = w' := by
  have := formatUint_small 1 (by decide) w
  rwa [show Lib.decDigits 1 = [49] from by decide +kernel] at this

theorem info_str : (Tryz.prog.info? 9).map (fun i => (i.zero, i.size, i.bytes)) = some (some (.string ⟨#[]⟩), 1, 16) := by kernel_rfl

set_option maxHeartbeats 1000000 in
theorem textOfBytes_one (w : World) :
    Calls Tryz.prog 134 #[.int .u64 1] w (GivesV (.string ⟨#[48, 46, 48, 46, 48, 46, 49]⟩) w) := by
  have e0 : bits BinOp.and IntKind.u64 0 255 = 0 := by decide
  have e1 : bits BinOp.and IntKind.u64 1 255 = 1 := by decide
  obtain ⟨i0, hi, hz0, hz1, hz2⟩ := info_parts info_str
  go_enter Tryz.func134, Tryz.ntmps134
  go_wp2_with fail
  refine wp_loop_rounds 5 ?_
  rw [rounds_succ]
  go_wp2_with fail
  have hown0 := World.ownsRow_nil w w.heap.size 9 1
  refine (fmt_zero _).mono ?_
  rintro e w' ⟨rfl, rfl⟩
  go_wp2_with (at_builtin; refine wpList_append_own _ rfl _ _ 82 rfl w.heap.size 9 i0 (.string ⟨#[]⟩) 1 16 Tryz.underlying82 hi hz0 hz1 hz2 rfl (by decide) _ _ _ rfl (hown0.alloc _) ⟨w.heap.size, 0, none⟩ 1 1 [.string ⟨#[48]⟩] rfl rfl ?c1 ?c2 ?c3 ?c4 ?c5 ?_)
  case c1 => exact (cell_one_new _ _ _)
  case c2 => simp; rfl
  case c3 => unfold maxLen; omega
  case c4 => omega
  case c5 => simp
  intro v1 w1 hown1 hg1 _
  have hb1 : Below w.heap.size w w1 := ((Below.refl _ _).alloc (Nat.le_refl _) _).grown hg1 (by simp) (by intro k h; cases h)
  have hs1 := hb1.size
  clear hg1
  go_wp2_with fail
  rw [rounds_succ]
  go_wp2_with fail
  refine (fmt_zero _).mono ?_
  rintro e w' ⟨rfl, rfl⟩
  go_wp2_with (at_builtin; refine wpList_append_own _ rfl _ _ 82 rfl w.heap.size 9 i0 (.string ⟨#[]⟩) 1 16 Tryz.underlying82 hi hz0 hz1 hz2 rfl (by decide) _ _ _ rfl (hown1.alloc _) ⟨w1.heap.size, 0, none⟩ 1 1 [.string ⟨#[48]⟩] rfl rfl ?c1 ?c2 ?c3 ?c4 ?c5 ?_)
  case c1 => exact (cell_one_new _ _ _)
  case c2 => simp; rfl
  case c3 => unfold maxLen; omega
  case c4 => omega
  case c5 => simp; omega
  intro v2 w2 hown2 hg2 _
  have hb2 : Below w.heap.size w w2 := (hb1.alloc hs1 _).grown hg2 (by simp; omega) (fun k h => (hown1.lt k h).1)
  have hs2 := hb2.size
  clear hg2
  go_wp2_with fail
  rw [rounds_succ]
  go_wp2_with fail
  refine (fmt_zero _).mono ?_
  rintro e w' ⟨rfl, rfl⟩
  go_wp2_with (at_builtin; refine wpList_append_own _ rfl _ _ 82 rfl w.heap.size 9 i0 (.string ⟨#[]⟩) 1 16 Tryz.underlying82 hi hz0 hz1 hz2 rfl (by decide) _ _ _ rfl (hown2.alloc _) ⟨w2.heap.size, 0, none⟩ 1 1 [.string ⟨#[48]⟩] rfl rfl ?c1 ?c2 ?c3 ?c4 ?c5 ?_)
  case c1 => exact (cell_one_new _ _ _)
  case c2 => simp; rfl
  case c3 => unfold maxLen; omega
  case c4 => omega
  case c5 => simp; omega
  intro v3 w3 hown3 hg3 _
  have hb3 : Below w.heap.size w w3 := (hb2.alloc hs2 _).grown hg3 (by simp; omega) (fun k h => (hown2.lt k h).1)
  have hs3 := hb3.size
  clear hg3
  go_wp2_with fail
  rw [rounds_succ]
  go_wp2_with fail
  refine (fmt_one _).mono ?_
  rintro e w' ⟨rfl, rfl⟩
  go_wp2_with (at_builtin; refine wpList_append_own _ rfl _ _ 82 rfl w.heap.size 9 i0 (.string ⟨#[]⟩) 1 16 Tryz.underlying82 hi hz0 hz1 hz2 rfl (by decide) _ _ _ rfl (hown3.alloc _) ⟨w3.heap.size, 0, none⟩ 1 1 [.string ⟨#[49]⟩] rfl rfl ?c1 ?c2 ?c3 ?c4 ?c5 ?_)
  case c1 => exact (cell_one_new _ _ _)
  case c2 => simp; rfl
  case c3 => unfold maxLen; omega
  case c4 => omega
  case c5 => simp; omega
  intro v4 w4 hown4 hg4 _
  have hb4 : Below w.heap.size w w4 := (hb3.alloc hs3 _).grown hg4 (by simp; omega) (fun k h => (hown3.lt k h).1)
  have hs4 := hb4.size
  clear hg4
  go_wp2_with fail
  rw [rounds_succ]
  go_wp2_with fail
  obtain ⟨g, cap, hv, hgb, hcap, hcell⟩ : ∃ g cap, v4 = .slice (some ⟨g, 0, none⟩) 4 cap ∧ g < w4.heap.size ∧ 4 ≤ cap ∧ ∀ j u, [Value.string ⟨#[48]⟩, .string ⟨#[48]⟩, .string ⟨#[48]⟩, .string ⟨#[49]⟩][j]? = some u → w4.cell? ⟨g, j, none⟩ = some u := by
    rcases hown4.2 with ⟨_, h0⟩ | ⟨g, cap, cur, hv, _, hg, hle, _, _, _⟩
    · omega
    · refine ⟨g, cap, hv, (Array.getElem?_eq_some_iff.1 hg).1, hle, fun j u hu => ?_⟩
      have := hown4.cells (g := g) (by rw [hv]; rfl) j u hu
      by_cases hj : j = 0
      · subst hj; simpa [Addr.add] using this
      · simpa [Addr.add, hj] using this
  have HJ := Tryz.strings_Join g 0 cap [⟨#[48]⟩, ⟨#[48]⟩, ⟨#[48]⟩, ⟨#[49]⟩] ⟨#[46]⟩ w4 (fun j x hx => by
    rw [Nat.zero_add]
    apply hcell
    match j, hx with
    | 0, hx => simp at hx; subst hx; rfl
    | 1, hx => simp at hx; subst hx; rfl
    | 2, hx => simp at hx; subst hx; rfl
    | 3, hx => simp at hx; subst hx; rfl) hgb (by simp) (by simpa using hcap) (by decide +kernel)
  rw [show Lib.join (([⟨#[48]⟩, ⟨#[48]⟩, ⟨#[48]⟩, ⟨#[49]⟩] : List ByteArray).map (·.data.toList)) (⟨#[46]⟩ : ByteArray).data.toList = [48, 46, 48, 46, 48, 46, 49] from by decide +kernel] at HJ
  rw [hv]
  clear hown0 hown1 hown2 hown3 hown4 hcell hv
  refine HJ.mono ?_
  rintro e w5 ⟨rfl, hb5⟩
  go_wp2_with fail
  go_ret
  exact ⟨rfl, hb4.trans (hb5.mono hs4)⟩

set_option maxHeartbeats 400000 in
theorem text_one (w : World) :
    Calls Tryz.prog 80 #[.agg #[.bool false, .int .u64 0, .int .u64 1]] w (GivesV (.tuple #[.string ⟨#[48, 46, 48, 46, 48, 46, 49]⟩, .int .i64 0]) w) := by
  have hA := Blk.new w [.bool false, .int .u64 0, .int .u64 1] 28
  have HC := fun w' => Lib.hid (checkAddr_any false 0 1 w')
  rw [show adF false 0 1 = 0 from rfl] at HC
  go_enter Tryz.func80, Tryz.ntmps80
  go_wp2_with fail
  refine (HC _).out.mono ?_
  rintro e w1 ⟨rfl, hb1⟩
  obtain ⟨a0, a1, a2, _⟩ := (hA.below hb1).three
  have hC1 : Below w.heap.size w w1 := ((Below.refl _ _).alloc (Nat.le_refl _) _).trans (hb1.mono (by simp))
  clear hb1 hA
  go_wp2_with fail
  refine (textOfBytes_one _).mono ?_
  rintro e w2 ⟨rfl, hb2⟩
  go_wp2_with fail
  go_ret2
  exact ⟨rfl, hC1.trans (hb2.mono hC1.size)⟩

set_option maxHeartbeats 400000 in
theorem addressed_any (w : World) : Calls Tryz.prog 36 #[] w (GivesV (.bool true) w) := by
  go_enter Tryz.func36, Tryz.ntmps36
  go_wp2_with fail
  refine (text_one _).mono ?_
  rintro e w1 ⟨rfl, hb1⟩
  go_wp2_with fail
  go_ret
  exact ⟨rfl, hb1⟩
end Go.Proofs.YtedmlbefkpbldaaGreatDoor
namespace Go.Proofs.YtedmlbefkpbldaaGreatDoor
open Go.RowKit
set_option linter.unusedVariables false
set_option linter.unusedSimpArgs false

theorem gb_cell1 (w : World) (g o : Nat) (v : Value) : w.grownBy (w.setCell ⟨g, o, none⟩ v) (some g) :=
  ⟨rfl, rfl, rfl, by simp [World.setCell], fun i hi hne => Below.heap_setCell _ _ _ _ (by intro e; simp at e; exact hne (by rw [e]))⟩
theorem gb_cells {g : Nat} : ∀ (vs : List Value) (o : Nat) (w : World), w.grownBy (w.setCells g o vs) (some g)
  | [], _, w => gb_refl w (some g)
  | v :: r, o, w => by
    unfold World.setCells
    exact gb_trans (gb_cell1 w g o v) (gb_cells r (o + 1) _)
theorem blk_cells {p : Nat} {t : TypeId} : ∀ (vs : List Value) (o : Nat) (w : World) (xs : List Value), Blk w p xs t → Blk (w.setCells p o vs) p (setL xs o vs) t
  | [], _, _, _, h => h
  | v :: r, o, w, xs, h => by
    unfold World.setCells setL
    exact blk_cells r (o + 1) _ _ (h.set o v)
theorem rg_swap (p q : Ad) : setL (setL (rgC (p, q)) 0 (adC q)) 3 (adC p) = rgC (q, p) := rfl
theorem rowsA_row {zs : List (Ad × Ad)} (h : ∀ z ∈ zs, RgR z) : ∀ x ∈ zs.map rowA, Row x := by
  intro x hx
  obtain ⟨z, hz, rfl⟩ := List.mem_map.1 hx
  exact rowA_row (h z hz)

/-- LeastOf and what Least gave are equal. -/
theorem stepA (Aa Ay : Option Addr) (La ca n cap : Nat) (qs ys : List Pf) (W0 W : World) (hy : SlE ePf W0 Ay n cap ys) (ha : SlE ePf W0 Aa La ca qs) (hb : Below W0.heap.size W0 W) (hn : n ≤ 1000) (hP : (∀ p ∈ ys, p.R) ∧ ∃ zs, Joined zs (ys.map rgP) ∧ qs = pfsOf (zs.map rowA)) :
    Calls Tryz.prog 32 #[.slice Ay n cap] W fun e w' => ∃ A m c, e = .returned (.slice A m c) ∧ Below W.heap.size W w' ∧ Calls Tryz.prog 31 #[.slice Aa La ca, .slice A m c] w' (GivesV (.bool true) w') := by
  obtain ⟨hR, zs, hz, rfl⟩ := hP
  refine (leastOf_any Ay n cap ys W (hy.below hb) hn hR).mono ?_
  rintro e w' ⟨xs, h1, h2, ⟨v, rfl, ho⟩, hb1⟩
  obtain ⟨A, c, rfl, hS⟩ := ho.sl
  have he : zs = xs := Joined.unique hz h1 (fun _ => Iff.rfl)
  subst he
  refine ⟨A, _, c, rfl, hb1, ?_⟩
  have hl : (pfsOf (zs.map rowA)).length ≤ 1000000 := by
    have := pfsOf_len (l := zs.map rowA) (n := n) (rowsA_row h1.2.2) (by rw [List.length_map]; exact h2)
    omega
  refine (equalPf_any Aa A La _ ca c _ _ w' (ha.below (hb.trans (hb1.mono hb.size))) hS (by rw [ha.len]; exact hl) hl).mono ?_
  rintro e w2 ⟨b, rfl, hbe, hb2⟩
  exact ⟨by rw [hbe.2 rfl], hb2⟩
theorem stepB (Aa : Option Addr) (La ca : Nat) (qs : List Pf) (x : Ad × Ad) (W0 W : World) (ha : SlE ePf W0 Aa La ca qs) (hb : Below W0.heap.size W0 W) (hP : RgR x ∧ qs = pfsOf [rowA x]) :
    Calls Tryz.prog 33 #[rgA x] W fun e w' => ∃ A m c, e = .returned (.slice A m c) ∧ Below W.heap.size W w' ∧ Calls Tryz.prog 31 #[.slice Aa La ca, .slice A m c] w' (GivesV (.bool true) w') := by
  obtain ⟨hR, rfl⟩ := hP
  refine (spanOf_any x W hR).mono ?_
  rintro e w' ⟨⟨v, rfl, ho⟩, hb1⟩
  obtain ⟨A, c, rfl, hS⟩ := ho.sl
  refine ⟨A, _, c, rfl, hb1, ?_⟩
  have hl : (pfsOf [rowA x]).length ≤ 1000000 := by
    have := pfsOf_len (l := [rowA x]) (n := 1) (by intro y hy; rw [List.mem_singleton.1 hy]; exact rowA_row hR) (by simp)
    omega
  refine (equalPf_any Aa A La _ ca c _ _ w' (ha.below (hb.trans (hb1.mono hb.size))) hS (by rw [ha.len]; exact hl) hl).mono ?_
  rintro e w2 ⟨b, rfl, hbe, hb2⟩
  exact ⟨by rw [hbe.2 rfl], hb2⟩
theorem stepC (Aa Ay : Option Addr) (La ca n cap : Nat) (qs : List (Ad × Ad)) (ys : List Pf) (W0 W : World) (hy : SlE ePf W0 Ay n cap ys) (ha : SlE eRg W0 Aa La ca qs) (hb : Below W0.heap.size W0 W) (hn : n ≤ 1000) (hP : (∀ p ∈ ys, p.R) ∧ Joined qs (ys.map rgP)) :
    Calls Tryz.prog 35 #[.slice Ay n cap] W fun e w' => ∃ A m c, e = .returned (.slice A m c) ∧ Below W.heap.size W w' ∧ Calls Tryz.prog 34 #[.slice Aa La ca, .slice A m c] w' (GivesV (.bool true) w') := by
  obtain ⟨hR, hz⟩ := hP
  refine (rangesOf_any Ay n cap ys W (hy.below hb) (by omega) hR).mono ?_
  rintro e w' ⟨xs, h1, h2, ⟨A, c, rfl, hS, _⟩, hb1⟩
  have he : qs = xs := Joined.unique hz h1 (fun _ => Iff.rfl)
  subst he
  refine ⟨A, _, c, rfl, hb1, ?_⟩
  refine (equalRg_any Aa A La _ ca c _ _ w' (ha.below (hb.trans (hb1.mono hb.size))) hS (by rw [ha.len]; omega) (by omega)).mono ?_
  rintro e w2 ⟨b, rfl, hbe, hb2⟩
  exact ⟨by rw [hbe.2 rfl], hb2⟩

/-- Of no errors but the first four. -/
theorem firstZ_cons (a : Int) (l : List Int) : firstZ (a :: l) = if a = 0 then firstZ l else a := rfl
theorem spanE_four (x : Ad × Ad) (b c : Bool) (hb : b = true ↔ x.1.s ≠ x.2.s) (hc : c = true ↔ x.2.n < x.1.n) : firstZ [adEr x.1, adEr x.2, whenZ b 10, whenZ c 7] = spanE x := by
  unfold spanE
  simp only [firstZ_cons]
  by_cases h1 : adEr x.1 = 0
  · by_cases h2 : adEr x.2 = 0
    · simp only [if_pos h1, if_pos h2]
      by_cases h3 : x.1.s ≠ x.2.s
      · rw [hb.2 h3]; simp [whenZ, firstZ, h3]
      · have : b = false := by cases b with | false => rfl | true => exact absurd (hb.1 rfl) h3
        subst this
        by_cases h4 : x.2.n < x.1.n
        · rw [hc.2 h4]; simp [whenZ, firstZ, h3, h4]
        · have : c = false := by cases c with | false => rfl | true => exact absurd (hc.1 rfl) h4
          subst this
          simp [whenZ, firstZ, h3, h4]
    · simp only [if_pos h1, if_neg h2]
      rw [if_pos h2]
  · simp only [if_neg h1]
    rw [if_pos h1]
/-- A further error is joined to the first. -/
theorem firstE_snoc (ps : List Pf) (p : Pf) : firstZ (ps.map pfE ++ [pfE p]) = firstZ [firstZ (ps.map pfE), pfE p] := by
  induction ps with
  | nil => simp [firstZ]
  | cons q r ih =>
    rw [List.map_cons, List.cons_append, firstZ_cons, ih, firstZ_cons (pfE q) (r.map pfE)]
    by_cases h : pfE q = 0
    · rw [if_pos h, if_pos h]
    · rw [if_neg h, if_neg h, firstZ_cons, if_neg h]
theorem firstE_take {ps : List Pf} {k : Nat} {p : Pf} (hp : ps[k]? = some p) : firstE (ps.take (k + 1)) = firstZ [firstE (ps.take k), pfE p] := by
  have e : ps.take (k + 1) = ps.take k ++ [p] := by
    obtain ⟨hk, hpe⟩ := List.getElem?_eq_some_iff.1 hp
    rw [← hpe, List.take_append_getElem]
  unfold firstE
  rw [e, List.map_append]
  exact firstE_snoc _ p
end Go.Proofs.YtedmlbefkpbldaaGreatDoor
