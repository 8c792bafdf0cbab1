/- ReportsThin: the law. -/
import Derived.Test.YtilgjgdppfnefaaGreatDoorKhThS
import Derived.Test.YtilgjgdppfnefaaGreatDoorKhMdI
namespace Go.Proofs.YtilgjgdppfnefaaGreatDoor
open Go.RowKit
set_option linter.unusedVariables false
set_option linter.unusedSimpArgs false

theorem strict_filter (x : Rp) : ∀ {zs : List Rp}, zs.Pairwise LtR → zs.length ≤ (zs.filter (fun z => !decide (cmpRp x z = 0))).length + 1
  | [], _ => by simp
  | z :: r, h => by
    rw [List.pairwise_cons] at h
    by_cases e : cmpRp x z = 0
    · have hr : r.filter (fun z => !decide (cmpRp x z = 0)) = r := by
        rw [List.filter_eq_self]
        intro y hy
        have h1 : cmpRp z y < 0 := h.1 y hy
        have h2 := cm_rp.lt (x := x) (y := z) (z := y) (by omega) (by omega) (.inr h1)
        have h3 : cmpRp x y ≠ 0 := by omega
        simp [h3]
      have : (z :: r).filter (fun z => !decide (cmpRp x z = 0)) = r := by rw [List.filter_cons, hr]; simp [e]
      rw [this]
      simp
    · have := strict_filter x h.2
      rw [List.filter_cons]
      simp [e]
      simpa using this
theorem strict_len : ∀ (ts : List Rp) {zs : List Rp}, zs.Pairwise LtR → (∀ z ∈ zs, ∃ x ∈ ts, cmpRp x z = 0) → zs.length ≤ ts.length
  | [], zs, _, h => by
    cases zs with
    | nil => simp
    | cons z r => obtain ⟨x, hx, _⟩ := h z (List.mem_cons_self ..); cases hx
  | x :: ts, zs, hs, h => by
    have h1 := strict_filter x hs
    have h2 := strict_len ts (zs := zs.filter (fun z => !decide (cmpRp x z = 0))) (hs.filter _) (fun z hz => by
      obtain ⟨hm, hne⟩ := List.mem_filter.1 hz
      obtain ⟨y, hy, h0⟩ := h z hm
      rcases List.mem_cons.1 hy with e | e
      · subst e; simp [h0] at hne
      · exact ⟨y, e, h0⟩)
    simp only [List.length_cons]
    omega
theorem Tog.len {ts zs : List Rp} (h : Tog ts zs) : zs.length ≤ ts.length :=
  strict_len ts h.srt (fun z hz => by
    obtain ⟨x, hx, hk⟩ := h.key z hz
    exact ⟨x, hx, by rw [← hk.cmp x]; exact cm_rp.self x⟩)
theorem slE_nil (w : World) : SlE eRp w none 0 0 [] := ⟨rfl, Nat.le_refl _, fun _ => rfl, .inl rfl⟩
theorem errs_blkR (l : List Int) (p cap : Nat) (w : World) (t : TypeId) (h : Blk w p (l.map (Value.int .i64)) t) (hl : l.length ≤ 100) :
    Calls Tryz.prog 13 #[.slice (some ⟨p, 0, none⟩) l.length cap] w fun e w' => e = .returned (.int .i64 (firstZ l)) ∧ w = w' :=
  errs_any l p cap w (fun i hi => h.cell (by rw [List.getElem?_map, List.getElem?_eq_getElem hi, List.getD_eq_getElem?_getD, List.getElem?_eq_getElem hi]; rfl)) hl
/-- What a call gives: nothing and an error, or a list. -/
def Res2 (ts : List Rp) (E : Int) (m : Nat) (zs : List Rp) : Prop := m ≤ 1000000 ∧ (E ≠ 0 → m = 0) ∧ (E = 0 → Tog ts zs)
theorem ThP.res {w w' : World} {ts : List Rp} {e : Ending} {E : Int} (h : ThP w E ts e w') (hl : ts.length ≤ 1000000) : Below w.heap.size w w' ∧ ∃ A m cap zs, e = .returned (.tuple #[.slice A m cap, .int .i64 E]) ∧ SlE eRp w' A m cap zs ∧ Res2 ts E m zs := by
  obtain ⟨hb, ⟨h0, rfl⟩ | ⟨h0, A, m, cap, zs, rfl, hS, hT⟩⟩ := h
  · exact ⟨hb, none, 0, 0, [], rfl, slE_nil _, by omega, fun _ => rfl, fun k => absurd k h0⟩
  · subst h0
    exact ⟨hb, A, m, cap, zs, rfl, hS, by have := hT.len; have := hS.1; omega, fun k => absurd rfl k, fun _ => hT⟩
/-- What holds while errors are told. -/
structure Two2 (w0 : World) (A1 : Option Addr) (n1 c1 : Nat) (xs : List Rp) (A2 : Option Addr) (n2 c2 : Nat) (ys : List Rp) (w : World) : Prop where
  b : Below w0.heap.size w0 w
  x : SlE eRp w A1 n1 c1 xs
  y : SlE eRp w A2 n2 c2 ys
theorem Two2.below {w0 w w' : World} {A1 A2 : Option Addr} {n1 c1 n2 c2 : Nat} {xs ys : List Rp} (h : Two2 w0 A1 n1 c1 xs A2 n2 c2 ys w) (hb : Below w.heap.size w w') : Two2 w0 A1 n1 c1 xs A2 n2 c2 ys w' :=
  ⟨h.b.trans (hb.mono h.b.size), h.x.below hb, h.y.below hb⟩
theorem whenN_t {b : Bool} {z a c : Int} (hb : b = true) (h : ¬ (a ≤ z ∧ z ≤ c)) : whenZ b 1 = numE z a c := by rw [hb]; unfold numE; rw [if_neg h]; rfl
theorem whenN_f {b : Bool} {z a c : Int} (hb : b = false) (h : a ≤ z ∧ z ≤ c) : whenZ b 1 = numE z a c := by rw [hb]; unfold numE; rw [if_pos h]; rfl
theorem firstZ_two' (a b : Int) : firstZ [a, b] = if a = 0 then b else a := by
  rw [firstZ_thn]
  by_cases h : a = 0
  · rw [if_pos h, if_pos h, firstZ_thn]
    by_cases k : b = 0
    · rw [if_pos k, k]; rfl
    · rw [if_neg k]
  · rw [if_neg h, if_neg h]
theorem when3 {a x y z : Int} (h : z = firstZ [x, y]) : firstZ [a, z] = firstZ [a, x, y] := by
  subst h
  rw [firstZ_two', firstZ_thn a]
theorem whenA {b4 b6 : Int} (h : ¬ (0 ≤ b4 ∧ b4 ≤ 32)) : whenZ true 1 = firstZ [numE b4 0 32, numE b6 0 128] := by
  rw [firstZ_two']
  unfold numE
  rw [if_neg h]
  rfl
theorem whenB {b4 b6 : Int} (h : 0 ≤ b4 ∧ b4 ≤ 32) (k : ¬ (0 ≤ b6 ∧ b6 ≤ 128)) : whenZ true 1 = firstZ [numE b4 0 32, numE b6 0 128] := by
  rw [firstZ_two']
  unfold numE
  rw [if_pos h, if_neg k]
  rfl
theorem whenC {b4 b6 : Int} (h : 0 ≤ b4 ∧ b4 ≤ 32) (k : 0 ≤ b6 ∧ b6 ≤ 128) : whenZ false 1 = firstZ [numE b4 0 32, numE b6 0 128] := by
  rw [firstZ_two']
  unfold numE
  rw [if_pos h, if_pos k]
  rfl
theorem two_zero {a b : Int} (h : firstZ [a, b] = 0) : a = 0 ∧ b = 0 := ⟨firstZ_zero_all h _ (by simp), firstZ_zero_all h _ (by simp)⟩
set_option maxHeartbeats 8000000 in
set_option maxRecDepth 100000 in
theorem reportsThin_walk (a : Option Addr) (len cap : Nat) (w : World) (hs : Str (w.alloc (.cells #[.slice a len cap, .int .i64 0] 25)) w.heap.size 1000) :
    Calls Tryz.prog 4 #[.slice a len cap] w fun e w' => e = .returned (.bool true) ∧ Below w.heap.size w w' := by
  have hB0 : Below w.heap.size w (w.alloc (.cells #[.slice a len cap, .int .i64 0] 25)) := (Below.refl _ _).alloc (Nat.le_refl _) _
  go_enter Tryz.func4, Tryz.ntmps4
  go_wp2_with fail
  refine (range_any 0 10 _ _ 999 (by decide) (by decide) (by decide) hs).mono ?_
  rintro e w1 ⟨r1, ⟨x0, x1⟩, rfl, hs1, hg1⟩
  obtain ⟨m1, rfl⟩ := Int.eq_ofNat_of_zero_le x0
  have hb : Below w.heap.size w w1 := hB0.trans (gb_toBelow hg1 (Nat.le_refl _) (by simp))
  have hlt1 := hs1.lt
  clear hs hB0 hg1 x0
  go_wp2_with fail
  refine (reports_any m1 w1 _ 818 (by omega) hs1).mono ?_
  rintro e w2 ⟨A1, n1, c1, ms, rfl, hO1, hU1, h101, hs2, hg2⟩
  replace hb : Below w.heap.size w w2 := hb.trans (gb_toBelow hg2 (Nat.le_refl _) (by omega))
  have hlt2 := hs2.lt
  replace h101 : n1 ≤ 20 := by omega
  clear hs1 hg2 x1
  replace hU1 := Lib.hid hU1
  go_wp2_with fail
  refine (odd_any 0 3 _ _ 816 (by decide) (by decide) (by decide) hs2).mono ?_
  rintro e w3 ⟨d, _, rfl, hs3, hg3⟩
  replace hb : Below w.heap.size w w3 := hb.trans (gb_toBelow hg3 (Nat.le_refl _) (by omega))
  replace hO1 := hO1.gb hg3 (by omega)
  have hlt3 := hs3.lt
  clear hs2 hg3
  go_wp2_with fail
  refine (odd_any 0 32 _ _ 814 (by decide) (by decide) (by decide) hs3).mono ?_
  rintro e w4 ⟨b40, _, rfl, hs4, hg4⟩
  replace hb : Below w.heap.size w w4 := hb.trans (gb_toBelow hg4 (Nat.le_refl _) (by omega))
  replace hO1 := hO1.gb hg4 (by omega)
  have hlt4 := hs4.lt
  clear hs3 hg4
  go_wp2_with fail
  refine (odd_any 0 128 _ _ 812 (by decide) (by decide) (by decide) hs4).mono ?_
  rintro e w5 ⟨b6, _, rfl, hs5, hg5⟩
  replace hb : Below w.heap.size w w5 := hb.trans (gb_toBelow hg5 (Nat.le_refl _) (by omega))
  replace hO1 := hO1.gb hg5 (by omega)
  have hlt5 := hs5.lt
  clear hs4 hg5
  go_wp2_with fail
  refine (flip_any _ _ _ 811 (by omega) (by omega) hs5).mono ?_
  rintro e w6 ⟨r9, rfl, hs6, hg6⟩
  replace hb : Below w.heap.size w w6 := hb.trans (gb_toBelow hg6 (Nat.le_refl _) (by omega))
  replace hO1 := hO1.gb hg6 (by omega)
  have hlt6 := hs6.lt
  clear hs5 hg6
  go_upto_if 29 with fail
  go_cut [6] (fun v6 wx => ∃ b4 : Int, v6 = .int .i64 b4 ∧ OwnS w1.heap.size wx A1 n1 c1 ms ∧ Below w.heap.size w wx)
  case first =>
    cases r9
    · replace hO1 := Lib.hid hO1
      go_wp2_with fail
      go_meet
      exact ⟨b40, rfl, hO1.out, hb⟩
    · have hL := Blk.new w6 (([24, 30, 31] : List Int).map (Value.int .i64)) 3
      have hO2 := Lib.hid hO1
      clear hO1
      go_wp2_with fail
      refine (pick_blk _ _ 810 _ 3 _ [24, 30, 31] 3 (hs6.alloc _) hlt6 hL rfl (by decide) (by decide) (fun _ => True) (fun _ _ => trivial)).mono ?_
      rintro e w7 ⟨z, _, rfl, hs7, hg7⟩
      have hb7 : Below w.heap.size w w7 := (hb.alloc hb.size _).trans (gb_toBelow hg7 (Nat.le_refl _) (by have := hb.size; simp; omega))
      have hO3 := Lib.hid ((hO2.out.below ((Below.refl _ _).alloc (Nat.le_refl _) _)).gb hg7 (by omega))
      clear hO2 hs6 hg7 hL hb
      go_wp2_with fail
      go_meet
      exact ⟨z, rfl, hO3.out, hb7⟩
  case rest =>
  clear hO1 hs6 hb
  obtain ⟨b4, rfl, hO1, hb⟩ := hcut
  generalize wc = wS at *
  have hS := hO1.sl
  have hHi := Lib.hid (fun W (hW : Below wS.heap.size wS W) => flowHide_any b4 b6 A1 n1 c1 ms W (hS.below hW) h101 hU1.out)
  have hTh := Lib.hid (flowThin_any d A1 n1 c1 ms wS hS h101 hU1.out)
  have hRF := Lib.hid (fun W (hW : Below wS.heap.size wS W) => repsFault_any _ A1 n1 c1 ms W (hS.below hW) (by omega) hU1.out rfl)
  have hTO := Lib.hid (fun W (hW : Below wS.heap.size wS W) (h1 : repsF ms = 0) (h2 : numE d 0 4001 = 0) => thinOf_any d (numE_zero h2) A1 n1 c1 ms W (hS.below hW) h101 (repsF_zero hU1.out h1).1 (repsF_zero hU1.out h1).2)
  have hHO := Lib.hid (fun W (hW : Below wS.heap.size wS W) (h1 : repsF ms = 0) (h2 : numE b4 0 32 = 0) (h3 : numE b6 0 128 = 0) => hideOf_any b4 b6 ⟨numE_zero h2, numE_zero h3⟩ A1 n1 c1 ms W (hS.below hW) h101 (repsF_zero hU1.out h1).1)
  have hTU := Lib.hid (fun (h1 : repsF ms = 0) => show ∀ x ∈ ms.map (thinR d), x.U from fun x hx => by
    obtain ⟨y, hy, rfl⟩ := List.mem_map.1 hx
    exact (thinR_U ((repsF_zero hU1.out h1).1 y hy)).1)
  have hHU := Lib.hid (fun (h1 : repsF ms = 0) => show ∀ x ∈ ms.map (hidR b4 b6), x.U from fun x hx => by
    obtain ⟨y, hy, rfl⟩ := List.mem_map.1 hx
    exact (hidR_U ((repsF_zero hU1.out h1).1 y hy)).1)
  have htl := Lib.hid (show (ms.map (thinR d)).length ≤ 1000000 by rw [List.length_map]; have := hS.1; omega)
  have hhl := Lib.hid (show (ms.map (hidR b4 b6)).length ≤ 1000000 by rw [List.length_map]; have := hS.1; omega)
  clear hS hO1 hU1 h101
  generalize ms.map (thinR d) = ts at *
  generalize ms.map (hidR b4 b6) = hs at *
  generalize repsF ms = z1 at *
  have hwb := hb.size
  replace hb := Lib.hid hb
  go_wp2_with fail
  refine hTh.out.mono ?_
  intro e w8 hq
  obtain ⟨hb8, Aa, na, ca, xs, rfl, hX, hRx⟩ := hq.res htl.out
  replace hX := Lib.hid hX
  replace hRx := Lib.hid hRx
  have hHi2 := Lib.hid (hHi.out _ hb8)
  clear hTh hHi hq
  go_wp2_with fail
  refine hHi2.out.mono ?_
  intro e w9 hq
  obtain ⟨hb9, Ab, nb, cb, ys, rfl, hY, hRy⟩ := hq.res hhl.out
  have hT2 : Two2 wS Aa na ca xs Ab nb cb ys w9 := ⟨hb8.trans (hb9.mono hb8.size), hX.out.below hb9, hY⟩
  replace hRy := Lib.hid hRy
  clear hHi2 hq hX hY hb8 hb9
  go_wp2_with fail
  refine (hRF.out _ hT2.b).mono ?_
  rintro e w10 ⟨rfl, hb10⟩
  replace hT2 := hT2.below hb10
  clear hRF hb10
  go_upto_region 8 with fail
  obtain ⟨Z1, hZ1⟩ : ∃ Z, Z = firstZ [z1, numE d 0 4001] := ⟨_, rfl⟩
  obtain ⟨Z2, hZ2⟩ : ∃ Z, Z = firstZ [z1, numE b4 0 32, numE b6 0 128] := ⟨_, rfl⟩
  rw [← hZ1] at hRx
  rw [← hZ2] at hRy
  try rw [← hZ1]
  try rw [← hZ2]
  replace hZ1 := Lib.hid hZ1
  replace hZ2 := Lib.hid hZ2
  go_cut [13] (fun v wx => v = .int .i64 Z1 ∧ Two2 wS Aa na ca xs Ab nb cb ys wx)
  case first =>
    have hL := fun E => Blk.new w10 ([z1, E].map (Value.int .i64)) 39
    have hT3 := fun E => hT2.below ((Below.refl w10.heap.size w10).alloc (Nat.le_refl _) (.cells ([z1, E].map (Value.int .i64)).toArray 39))
    have HE := fun E => Lib.hid (errs_blkR [z1, E] _ 2 _ _ (hL E) (by simp))
    clear hL
    by_cases h1 : d < 0
    · have dh1 : decide (d < 0) = true := decide_eq_true h1
      have hw := Lib.hid (whenN_t (z := d) (a := 0) (c := 4001) (b := true) rfl (by omega))
      go_wp2_with fail
      refine (when_any _ _ _).mono ?_
      rintro e wv ⟨rfl, rfl⟩
      go_wp2_with fail
      refine (HE _).out.mono ?_
      rintro e wv ⟨rfl, rfl⟩
      have hTF := hT3 (whenZ true 1)
      clear hT3 hT2 HE
      go_wp2_with fail
      go_meet
      exact ⟨by rw [hZ1.out, ← hw.out], hTF⟩
    · have dh1 : decide (d < 0) = false := decide_eq_false h1
      by_cases h2 : 4001 < d
      · have dh2 : decide (4001 < d) = true := decide_eq_true h2
        have hw := Lib.hid (whenN_t (z := d) (a := 0) (c := 4001) (b := true) rfl (by omega))
        go_wp2_with fail
        refine (when_any _ _ _).mono ?_
        rintro e wv ⟨rfl, rfl⟩
        go_wp2_with fail
        refine (HE _).out.mono ?_
        rintro e wv ⟨rfl, rfl⟩
        have hTF := hT3 (whenZ true 1)
        clear hT3 hT2 HE
        go_wp2_with fail
        go_meet
        exact ⟨by rw [hZ1.out, ← hw.out], hTF⟩
      · have dh2 : decide (4001 < d) = false := decide_eq_false h2
        have hw := Lib.hid (whenN_f (z := d) (a := 0) (c := 4001) (b := false) rfl (by omega))
        go_wp2_with fail
        refine (when_any _ _ _).mono ?_
        rintro e wv ⟨rfl, rfl⟩
        go_wp2_with fail
        refine (HE _).out.mono ?_
        rintro e wv ⟨rfl, rfl⟩
        have hTF := hT3 (whenZ false 1)
        clear hT3 hT2 HE
        go_wp2_with fail
        go_meet
        exact ⟨by rw [hZ1.out, ← hw.out], hTF⟩
  case rest =>
  clear hT2
  obtain ⟨rfl, hT2⟩ := hcut
  go_upto_region 9 with fail
  go_cut [14] (fun v wx => v = .int .i64 Z2 ∧ Two2 wS Aa na ca xs Ab nb cb ys wx)
  case first =>
    have hL := fun E => Blk.new wc ([z1, E].map (Value.int .i64)) 39
    have hT3 := fun E => hT2.below ((Below.refl wc.heap.size wc).alloc (Nat.le_refl _) (.cells ([z1, E].map (Value.int .i64)).toArray 39))
    have HE := fun E => Lib.hid (errs_blkR [z1, E] _ 2 _ _ (hL E) (by simp))
    clear hL
    by_cases h1 : b4 < 0
    · have dh1 : decide (b4 < 0) = true := decide_eq_true h1
      have hw := Lib.hid (whenA (b4 := b4) (b6 := b6) (by omega))
      go_wp2_with fail
      refine (when_any _ _ _).mono ?_
      rintro e wv ⟨rfl, rfl⟩
      go_wp2_with fail
      refine (HE _).out.mono ?_
      rintro e wv ⟨rfl, rfl⟩
      have hTF := hT3 (whenZ true 1)
      clear hT3 hT2 HE
      go_wp2_with fail
      go_meet
      exact ⟨by rw [hZ2.out, ← when3 hw.out], hTF⟩
    · have dh1 : decide (b4 < 0) = false := decide_eq_false h1
      by_cases h2 : 32 < b4
      · have dh2 : decide (32 < b4) = true := decide_eq_true h2
        have hw := Lib.hid (whenA (b4 := b4) (b6 := b6) (by omega))
        go_wp2_with fail
        refine (when_any _ _ _).mono ?_
        rintro e wv ⟨rfl, rfl⟩
        go_wp2_with fail
        refine (HE _).out.mono ?_
        rintro e wv ⟨rfl, rfl⟩
        have hTF := hT3 (whenZ true 1)
        clear hT3 hT2 HE
        go_wp2_with fail
        go_meet
        exact ⟨by rw [hZ2.out, ← when3 hw.out], hTF⟩
      · have dh2 : decide (32 < b4) = false := decide_eq_false h2
        by_cases h3 : b6 < 0
        · have dh3 : decide (b6 < 0) = true := decide_eq_true h3
          have hw := Lib.hid (whenB (b4 := b4) (b6 := b6) (by omega) (by omega))
          go_wp2_with fail
          refine (when_any _ _ _).mono ?_
          rintro e wv ⟨rfl, rfl⟩
          go_wp2_with fail
          refine (HE _).out.mono ?_
          rintro e wv ⟨rfl, rfl⟩
          have hTF := hT3 (whenZ true 1)
          clear hT3 hT2 HE
          go_wp2_with fail
          go_meet
          exact ⟨by rw [hZ2.out, ← when3 hw.out], hTF⟩
        · have dh3 : decide (b6 < 0) = false := decide_eq_false h3
          by_cases h4 : 128 < b6
          · have dh4 : decide (128 < b6) = true := decide_eq_true h4
            have hw := Lib.hid (whenB (b4 := b4) (b6 := b6) (by omega) (by omega))
            go_wp2_with fail
            refine (when_any _ _ _).mono ?_
            rintro e wv ⟨rfl, rfl⟩
            go_wp2_with fail
            refine (HE _).out.mono ?_
            rintro e wv ⟨rfl, rfl⟩
            have hTF := hT3 (whenZ true 1)
            clear hT3 hT2 HE
            go_wp2_with fail
            go_meet
            exact ⟨by rw [hZ2.out, ← when3 hw.out], hTF⟩
          · have dh4 : decide (128 < b6) = false := decide_eq_false h4
            have hw := Lib.hid (whenC (b4 := b4) (b6 := b6) (by omega) (by omega))
            go_wp2_with fail
            refine (when_any _ _ _).mono ?_
            rintro e wv ⟨rfl, rfl⟩
            go_wp2_with fail
            refine (HE _).out.mono ?_
            rintro e wv ⟨rfl, rfl⟩
            have hTF := hT3 (whenZ false 1)
            clear hT3 hT2 HE
            go_wp2_with fail
            go_meet
            exact ⟨by rw [hZ2.out, ← when3 hw.out], hTF⟩
  case rest =>
  clear hT2
  obtain ⟨rfl, hT2⟩ := hcut
  have hF := Lib.hid (fun W => flowing_any W)
  have n1 : (Z1 != Z1) = false := by simp
  have n2 : (Z2 != Z2) = false := by simp
  by_cases k1 : Z1 = 0
  · obtain ⟨q1, q2⟩ := two_zero (hZ1.out.symm.trans k1)
    have hHT1 := Lib.hid (hTO.out _ hT2.b q1 q2)
    have hTx := hRx.out.2.2 k1
    have hnm := hRx.out.1
    have hUx := hTU.out q1
    clear hRx hTO
    have z10 : (Z1 != 0) = false := by simp [k1]
    by_cases k2 : Z2 = 0
    · have q3 := firstZ_zero_all (hZ2.out.symm.trans k2)
      have hHO2 := Lib.hid (fun W hW => hHO.out W hW q1 (q3 _ (by simp)) (q3 _ (by simp)))
      have hTy := hRy.out.2.2 k2
      have hnm2 := hRy.out.1
      have hUy := hHU.out q1
      have z20 : (Z2 != 0) = false := by simp [k2]
      clear hRy hHO hTU hHU hZ1 hZ2 q3
      go_wp2_with fail
      refine hHT1.out.mono ?_
      intro e w11 hq
      obtain ⟨A', m', c', zs, rfl, hS', hT', hb11⟩ := hq
      obtain rfl := hTx.unique hUx hT'
      have hl' := Lib.hid (show m' ≤ 1000000 by rw [hS'.1]; exact Nat.le_trans hT'.len htl.out)
      replace hT2 := hT2.below hb11
      clear hHT1 hb11
      go_wp2_with fail
      refine (equalRp_any _ _ _ _ _ _ _ _ _ hT2.x hS' hnm hl'.out).mono ?_
      rintro e w12 ⟨bb, rfl, hbb, hb12⟩
      obtain rfl : bb = true := hbb.2 rfl
      replace hT2 := hT2.below hb12
      have hHO3 := Lib.hid (hHO2.out _ hT2.b)
      clear hS' hbb hb12 hHO2
      go_wp2_with fail
      refine hHO3.out.mono ?_
      intro e w13 hq
      obtain ⟨A'', m'', c'', zs'', rfl, hS'', hT'', hb13⟩ := hq
      obtain rfl := hTy.unique hUy hT''
      have hl'' := Lib.hid (show m'' ≤ 1000000 by rw [hS''.1]; exact Nat.le_trans hT''.len hhl.out)
      replace hT2 := hT2.below hb13
      clear hHO3 hb13
      go_wp2_with fail
      refine (equalRp_any _ _ _ _ _ _ _ _ _ hT2.y hS'' hnm2 hl''.out).mono ?_
      rintro e w14 ⟨bb, rfl, hbb, hb14⟩
      obtain rfl : bb = true := hbb.2 rfl
      replace hT2 := hT2.below hb14
      clear hS'' hbb hb14
      go_wp2_with fail
      refine (hF.out _).mono ?_
      rintro e w15 ⟨rfl, hb15⟩
      replace hb := hb.out.trans ((hT2.below hb15).b.mono hwb)
      clear hb15 hT2
      go_wp2_with fail
      go_ret
      exact ⟨rfl, hb⟩
    · have hn2 := hRy.out.2.1 k2
      have z20 : (Z2 != 0) = true := by simpa using k2
      subst hn2
      clear hRy hHO hTU hHU hZ1 hZ2
      go_wp2_with fail
      refine hHT1.out.mono ?_
      intro e w11 hq
      obtain ⟨A', m', c', zs, rfl, hS', hT', hb11⟩ := hq
      obtain rfl := hTx.unique hUx hT'
      have hl' := Lib.hid (show m' ≤ 1000000 by rw [hS'.1]; exact Nat.le_trans hT'.len htl.out)
      replace hT2 := hT2.below hb11
      clear hHT1 hb11
      go_wp2_with fail
      refine (equalRp_any _ _ _ _ _ _ _ _ _ hT2.x hS' hnm hl'.out).mono ?_
      rintro e w12 ⟨bb, rfl, hbb, hb12⟩
      obtain rfl : bb = true := hbb.2 rfl
      replace hT2 := hT2.below hb12
      clear hS' hbb hb12
      go_wp2_with fail
      refine (hF.out _).mono ?_
      rintro e w15 ⟨rfl, hb15⟩
      replace hb := hb.out.trans ((hT2.below hb15).b.mono hwb)
      clear hb15 hT2
      go_wp2_with fail
      go_ret
      exact ⟨rfl, hb⟩
  · have hn1 := hRx.out.2.1 k1
    have z10 : (Z1 != 0) = true := by simpa using k1
    subst hn1
    clear hRx hTO hTU
    by_cases k2 : Z2 = 0
    · have q3 := firstZ_zero_all (hZ2.out.symm.trans k2)
      have hHO3 := Lib.hid (hHO.out _ hT2.b (q3 _ (by simp)) (q3 _ (by simp)) (q3 _ (by simp)))
      have hTy := hRy.out.2.2 k2
      have hnm2 := hRy.out.1
      have hUy := hHU.out (q3 _ (by simp))
      have z20 : (Z2 != 0) = false := by simp [k2]
      clear hRy hHO hZ1 hZ2 q3 hHU
      go_wp2_with fail
      refine hHO3.out.mono ?_
      intro e w13 hq
      obtain ⟨A'', m'', c'', zs'', rfl, hS'', hT'', hb13⟩ := hq
      obtain rfl := hTy.unique hUy hT''
      have hl'' := Lib.hid (show m'' ≤ 1000000 by rw [hS''.1]; exact Nat.le_trans hT''.len hhl.out)
      replace hT2 := hT2.below hb13
      clear hHO3 hb13
      go_wp2_with fail
      refine (equalRp_any _ _ _ _ _ _ _ _ _ hT2.y hS'' hnm2 hl''.out).mono ?_
      rintro e w14 ⟨bb, rfl, hbb, hb14⟩
      obtain rfl : bb = true := hbb.2 rfl
      replace hT2 := hT2.below hb14
      clear hS'' hbb hb14
      go_wp2_with fail
      refine (hF.out _).mono ?_
      rintro e w15 ⟨rfl, hb15⟩
      replace hb := hb.out.trans ((hT2.below hb15).b.mono hwb)
      clear hb15 hT2
      go_wp2_with fail
      go_ret
      exact ⟨rfl, hb⟩
    · have hn2 := hRy.out.2.1 k2
      have z20 : (Z2 != 0) = true := by simpa using k2
      subst hn2
      clear hRy hHO hZ1 hZ2
      go_wp2_with fail
      refine (hF.out _).mono ?_
      rintro e w15 ⟨rfl, hb15⟩
      replace hb := hb.out.trans ((hT2.below hb15).b.mono hwb)
      clear hb15 hT2
      go_wp2_with fail
      go_ret
      exact ⟨rfl, hb⟩
end Go.Proofs.YtilgjgdppfnefaaGreatDoor
