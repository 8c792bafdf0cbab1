/- The law's own two names. -/
import Derived.Test.YtmfflcemceonhaaDoorKfNmF
import Derived.Test.YtmfflcemceonhaaDoorKfPsA
import Derived.Shelf.Strings.SlTrimAscii
namespace Go.Proofs.YtmfflcemceonhaaDoor
open Go.RowKit
set_option linter.unusedVariables false
set_option linter.unusedSimpArgs false

theorem infoN_u8 : (Tryd.prog.info? 5).map (fun i => (i.zero, i.size, i.bytes)) = some (some (.int .u8 0), 1, 1) := by kernel_rfl
theorem info_partsN {o : Option TypeInfo} {z : Option Value} {s b : Nat} (h : o.map (fun i => (i.zero, i.size, i.bytes)) = some (z, s, b)) : ∃ i, o = some i ∧ i.zero = z ∧ i.size = s ∧ i.bytes = b := by
  cases o with
  | none => cases h
  | some i =>
    have h' := Option.some.inj h
    exact ⟨i, rfl, congrArg (·.1) h', congrArg (·.2.1) h', congrArg (·.2.2) h'⟩
theorem oneN (x : Int) : ∀ u ∈ [Value.int .u8 x], u.oneCell' = true := by intro u hu; rw [List.mem_singleton.1 hu]; rfl

theorem own_form {w : World} {base : Nat} {v : Value} {n : Nat} {xs : List Value} (h : w.ownsRow base 5 1 v n xs) (hn : 0 < n) : ∃ g cap, v = .slice (some ⟨g, 0, none⟩) n cap ∧ n ≤ cap ∧ (∀ j u, xs[j]? = some u → w.cell? ⟨g, j, none⟩ = some u) := by
  rcases h.2 with ⟨_, h0⟩ | ⟨g, cap, cur, rfl, hb, hg, hc, _⟩
  · omega
  · refine ⟨g, cap, rfl, hc, fun j u hu => ?_⟩
    have hj := (List.getElem?_eq_some_iff.1 hu).1
    rw [World.ownsRow.cellAt h j (by rw [← h.1]; exact hj)]
    exact hu
theorem cell_oneN (w : World) (x y : Int) (h : x = y) : ∀ j u, [Value.int .u8 x][j]? = some u → (w.alloc (.cells #[.int .u8 y] 5)).cell? ((⟨w.heap.size, 0, none⟩ : Addr).add j) = some u := by
  intro j u hu
  subst h
  rw [Addr.add_lit, Nat.zero_add]
  exact (Blk.new w [.int .u8 x] 5).cell hu

set_option maxHeartbeats 1000000 in
set_option maxRecDepth 100000 in
theorem orAB_any (b : Nat) (w : World) (h : w.cell? ⟨b, 0, none⟩ = some (.string ⟨#[97, 45, 98]⟩)) : Calls Tryd.prog 40 #[.slice (some ⟨b, 0, none⟩) 2 2] w (GivesV (.string ⟨#[97, 45, 98]⟩) w) := by
  go_enter Tryd.func40, Tryd.ntmps40
  go_wp2_with fail
  refine wp_loop_rounds 2 ?_
  rw [rounds_succ]
  go_wp2_with fail
  go_ret
  exact ⟨rfl, Below.refl _ _⟩

set_option maxHeartbeats 4000000 in
set_option maxRecDepth 100000 in
theorem labelAB_any (w : World) : Calls Tryd.prog 23 #[.string ⟨#[65, 32, 98]⟩] w (GivesV (.string ⟨#[97, 45, 98]⟩) w) := by
  obtain ⟨i0, hi0, hz0, hz1, hz2⟩ := info_partsN infoN_u8
  have H97 := fun W => Lib.hid (show Calls Tryd.prog 38 #[.int .u8 97] W fun e w' => e = .returned (.bool true) ∧ W = w' from isInner_any 97 W)
  have H32 := fun W => Lib.hid (show Calls Tryd.prog 38 #[.int .u8 32] W fun e w' => e = .returned (.bool false) ∧ W = w' from isInner_any 32 W)
  have H98 := fun W => Lib.hid (show Calls Tryd.prog 38 #[.int .u8 98] W fun e w' => e = .returned (.bool true) ∧ W = w' from isInner_any 98 W)
  have HT := fun W => Lib.hid (show Calls Tryd.prog 37 #[.string ⟨#[97, 45, 98]⟩, .string ⟨#[45]⟩] W fun e w' => e = .returned (.string ⟨#[97, 45, 98]⟩) ∧ Below W.heap.size W w' from
    Any.strings_Trim_laid Tryd.lays160 (by kernel_rfl) ⟨#[97, 45, 98]⟩ ⟨#[45]⟩ W (by decide) (by decide) (ascii_of_all (by decide)))
  have hbw : Below w.heap.size w w := Below.refl _ _
  have own0 := World.ownsRow_nil w w.heap.size 5 1
  go_enter Tryd.func23, Tryd.ntmps23
  go_wp2_with fail
  refine wp_loop_rounds 4 ?_
  rw [rounds_succ]
  go_wp2_with fail
  refine (H97 _).out.mono ?_
  rintro e w1 ⟨rfl, rfl⟩
  go_wp2_with (at_builtin; refine wpList_append_own _ rfl _ _ 57 rfl w.heap.size 5 i0 (.int .u8 0) 1 1 Tryd.underlying57 hi0 hz0 hz1 hz2 rfl (by decide) _ _ _ rfl (own0.alloc _) ⟨_, 0, none⟩ 1 1 [.int .u8 97] rfl ?c1 ?c2 ?c3 ?c4 ?c5 ?c6 ?_)
  try case c1 => rfl
  case c2 => exact cell_oneN _ _ _ rfl
  case c3 => exact oneN _
  case c4 => unfold maxLen; omega
  case c5 => omega
  case c6 => (have := hbw.size; first | omega | (simp; done) | (simp; omega))
  intro v1 x1 own1 hg1 _
  replace hbw := (hbw.alloc hbw.size _).grown hg1 (by have := hbw.size; first | (simp; done) | (simp; omega)) (fun k h => (own0.lt k h).1)
  obtain ⟨g1, c1, rfl, hc1, hl1⟩ := own_form own1 (by decide)
  clear hg1
  have k1 := hl1 0 _ rfl
  go_wp2_with fail
  rw [rounds_succ]
  go_wp2_with fail
  refine (H32 _).out.mono ?_
  rintro e w1 ⟨rfl, rfl⟩
  go_wp2_with (at_builtin; refine wpList_append_own _ rfl _ _ 57 rfl w.heap.size 5 i0 (.int .u8 0) 1 1 Tryd.underlying57 hi0 hz0 hz1 hz2 rfl (by decide) _ _ _ rfl (own1.alloc _) ⟨_, 0, none⟩ 1 1 [.int .u8 45] rfl ?c1 ?c2 ?c3 ?c4 ?c5 ?c6 ?_)
  try case c1 => rfl
  case c2 => exact cell_oneN _ _ _ rfl
  case c3 => exact oneN _
  case c4 => unfold maxLen; omega
  case c5 => omega
  case c6 => (have := hbw.size; first | omega | (simp; done) | (simp; omega))
  intro v2 x2 own2 hg2 _
  replace hbw := (hbw.alloc hbw.size _).grown hg2 (by have := hbw.size; first | (simp; done) | (simp; omega)) (fun k h => (own1.lt k h).1)
  obtain ⟨g2, c2, rfl, hc2, hl2⟩ := own_form own2 (by decide)
  clear hg2
  clear k1
  go_wp2_with fail
  rw [rounds_succ]
  go_wp2_with fail
  refine (H98 _).out.mono ?_
  rintro e w1 ⟨rfl, rfl⟩
  go_wp2_with (at_builtin; refine wpList_append_own _ rfl _ _ 57 rfl w.heap.size 5 i0 (.int .u8 0) 1 1 Tryd.underlying57 hi0 hz0 hz1 hz2 rfl (by decide) _ _ _ rfl (own2.alloc _) ⟨_, 0, none⟩ 1 1 [.int .u8 98] rfl ?c1 ?c2 ?c3 ?c4 ?c5 ?c6 ?_)
  try case c1 => rfl
  case c2 => exact cell_oneN _ _ _ rfl
  case c3 => exact oneN _
  case c4 => unfold maxLen; omega
  case c5 => omega
  case c6 => (have := hbw.size; first | omega | (simp; done) | (simp; omega))
  intro v3 x3 own3 hg3 _
  replace hbw := (hbw.alloc hbw.size _).grown hg3 (by have := hbw.size; first | (simp; done) | (simp; omega)) (fun k h => (own2.lt k h).1)
  obtain ⟨g3, c3, rfl, hc3, hl3⟩ := own_form own3 (by decide)
  clear hg3
  go_wp2_with fail
  rw [rounds_succ]
  have hcv : (convert 57 9 (.slice (some ⟨g3, 0, none⟩) (min (3 : Int) 63).toNat c3)).run Tryd.prog x3 = .ok (.string ⟨#[97, 45, 98]⟩) x3 := by
    rw [show (min (3 : Int) 63).toNat = 3 from by decide]
    exact run_convert_bytes_back (P := Tryd.prog) x3 57 9 5 ⟨g3, 0, none⟩ c3 [97, 45, 98] Tryd.underlying57 Tryd.underlying5 Tryd.underlying9 (fun j hj => by
      rw [Addr.add_lit, Nat.zero_add]
      have h3 : j = 0 ∨ j = 1 ∨ j = 2 := by have : j < 3 := hj; omega
      rcases h3 with rfl | rfl | rfl
      · exact hl3 0 _ rfl
      · exact hl3 1 _ rfl
      · exact hl3 2 _ rfl)
  clear hl3 own3 own2 own1 own0
  go_wp2_with fail
  refine (HT _).out.mono ?_
  rintro e x4 ⟨rfl, hb⟩
  replace hbw := hbw.trans (hb.mono hbw.size)
  clear hb
  have cN := (Blk.new x4 [.string ⟨#[97, 45, 98]⟩, .string ⟨#[110, 111, 100, 101]⟩] 9).cell (i := 0) (v := .string ⟨#[97, 45, 98]⟩) rfl
  replace hbw := hbw.alloc hbw.size (.cells #[.string ⟨#[97, 45, 98]⟩, .string ⟨#[110, 111, 100, 101]⟩] 9)
  go_wp2_with fail
  refine (orAB_any _ _ cN).mono ?_
  rintro e x5 ⟨rfl, hb⟩
  replace hbw := hbw.trans (hb.mono hbw.size)
  clear hb
  go_wp2_with fail
  go_ret
  exact ⟨rfl, hbw⟩

theorem dom_ab : domF [97, 46, 46, 98] = 5 := by decide
set_option maxRecDepth 100000 in
/-- The law's own two names are as they should be. -/
theorem named_any (w : World) : Calls Tryd.prog 10 #[] w (GivesV (.bool true) w) := by
  have HD := fun W => Lib.hid (show Calls Tryd.prog 7 #[.string ⟨#[97, 46, 46, 98]⟩] W (GivesV (.int .i64 5) W) from by
    have := checkDomain_any [97, 46, 46, 98] W (by decide)
    rw [dom_ab] at this
    exact this)
  go_enter Tryd.func10, Tryd.ntmps10
  go_wp2_with fail
  refine (labelAB_any _).mono ?_
  rintro e w1 ⟨rfl, hb1⟩
  go_wp2_with fail
  refine (HD _).out.mono ?_
  rintro e w2 ⟨rfl, hb2⟩
  replace hb2 := hb1.trans (hb2.mono hb1.size)
  go_wp2_with fail
  go_ret
  exact ⟨rfl, hb2⟩
end Go.Proofs.YtmfflcemceonhaaDoor
