/- LessIsKept: the law. -/
import Derived.Test.YtfiocnjogbpgoaaGreatDoorKkLsB
import Derived.Test.YtfiocnjogbpgoaaGreatDoorKkRwA
import Derived.Test.YtfiocnjogbpgoaaGreatDoorKkRpT
import Derived.Test.YtfiocnjogbpgoaaGreatDoorKkRqG
namespace Go.Proofs.YtfiocnjogbpgoaaGreatDoor
open Go.RowKit
set_option linter.unusedVariables false
set_option linter.unusedSimpArgs false

theorem strict_filterK (x : Rp) : ∀ {zs : List Rp}, zs.Pairwise LtR → zs.length ≤ (zs.filter (fun z => !decide (cmpRp x z = 0))).length + 1
  | [], _ => by simp
  | z :: r, h => by
    rw [List.pairwise_cons] at h
    by_cases e : cmpRp x z = 0
    · have hr : r.filter (fun z => !decide (cmpRp x z = 0)) = r := by
        rw [List.filter_eq_self]
        intro y hy
        have h1 : cmpRp z y < 0 := h.1 y hy
        have h2 := cm_rp.lt (x := x) (y := z) (z := y) (by omega) (by omega) (.inr h1)
        have h3 : cmpRp x y ≠ 0 := by omega
        simp [h3]
      have : (z :: r).filter (fun z => !decide (cmpRp x z = 0)) = r := by rw [List.filter_cons, hr]; simp [e]
      rw [this]
      simp
    · have := strict_filterK x h.2
      rw [List.filter_cons]
      simp [e]
      simpa using this
theorem strict_lenK : ∀ (ts : List Rp) {zs : List Rp}, zs.Pairwise LtR → (∀ z ∈ zs, ∃ x ∈ ts, cmpRp x z = 0) → zs.length ≤ ts.length
  | [], zs, _, h => by
    cases zs with
    | nil => simp
    | cons z r => obtain ⟨x, hx, _⟩ := h z (List.mem_cons_self ..); cases hx
  | x :: ts, zs, hs, h => by
    have h1 := strict_filterK x hs
    have h2 := strict_lenK ts (zs := zs.filter (fun z => !decide (cmpRp x z = 0))) (hs.filter _) (fun z hz => by
      obtain ⟨hm, hne⟩ := List.mem_filter.1 hz
      obtain ⟨y, hy, h0⟩ := h z hm
      rcases List.mem_cons.1 hy with e | e
      · subst e; simp [h0] at hne
      · exact ⟨y, e, h0⟩)
    simp only [List.length_cons]
    omega
theorem Tog.lenK {ts zs : List Rp} (h : Tog ts zs) : zs.length ≤ ts.length :=
  strict_lenK ts h.srt (fun z hz => by
    obtain ⟨x, hx, hk⟩ := h.key z hz
    exact ⟨x, hx, by rw [← hk.cmp x]; exact cm_rp.self x⟩)

set_option maxHeartbeats 1000000 in
theorem two_sameK (a b : Int) (w : World) : (Op.equalIn 10000 52 (.agg #[.int .i64 a, .int .i64 b]) (.agg #[.int .i64 a, .int .i64 b])).run Tryz.prog w = .ok true w := by
  have u3 := Tryz.underlying3
  have a3 := Tryz.isAgg3
  have z3 := Tryz.sizeOf3
  rw [show (10000 : Nat) = 9999 + 1 from rfl, Op.equalIn]
  simp only [Sem.run_bind, run_underlying Tryz.underlying52, Result.andThen_ok]
  simp only [Std.Legacy.Range.forIn_eq_forIn_range', Std.Legacy.Range.size, Nat.sub_zero, Nat.add_sub_cancel, Nat.div_one, List.range'_succ, List.range'_zero, List.forIn_cons, List.forIn_nil]
  go_simp
def eqTs (x y : Operand) (a b : Value) : Sem Next := do
  let v ← (do eqGuard .eql 52 x y a b; binOp .eql 52 a b)
  pure (.value v)
@[go_sem ↓ high] theorem execOp_eqTs (ρ : Operand → Value) (dst : Option Tmp) (x y : Operand) (r ty : TypeId) (pos : String) (after : Array Edge) (guard : Option (Nat × Bool)) :
    execOp ρ ⟨dst, .binOp .eql 52 x y r, ty, pos, after, guard⟩ = eqTs x y (ρ x) (ρ y) := rfl
@[go_sem high] theorem execOp_eqTs' (ρ : Operand → Value) (dst : Option Tmp) (x y : Operand) (r ty : TypeId) (pos : String) (after : Array Edge) (guard : Option (Nat × Bool)) :
    execOp ρ ⟨dst, .binOp .eql 52 x y r, ty, pos, after, guard⟩ = eqTs x y (ρ x) (ρ y) := rfl
@[go_sem] theorem run_eqTs (x y : Operand) (a b : Int) (w : World) : (eqTs x y (.agg #[.int .i64 a, .int .i64 b]) (.agg #[.int .i64 a, .int .i64 b])).run Tryz.prog w = .ok (.value (.bool true)) w := by
  have := two_sameK a b w
  unfold eqTs
  go_simp
theorem repsF_reps {rs : List Rp} (h : repsF rs = 0) : (∀ x ∈ rs, repF x = 0) ∧ rs.Pairwise LtR := by
  unfold repsF at h
  by_cases k : 3000 < rs.length
  · rw [if_pos k] at h; cases h
  · rw [if_neg k] at h
    obtain ⟨h1, h2, _⟩ := risL_zero h
    exact ⟨h1, h2⟩
theorem firstZ_zeros : ∀ {l : List Int}, (∀ z ∈ l, z = 0) → firstZ l = 0
  | [], _ => rfl
  | a :: l, h => by
    rw [firstZ_thn, if_pos (h a List.mem_cons_self)]
    exact firstZ_zeros (fun z hz => h z (List.mem_cons_of_mem _ hz))
/-- What is made of right reports, and made again. -/
structure Less (f : Rp → Rp) (xs zs : List Rp) : Prop where
  len : zs.length ≤ 20
  ok : repsF zs = 0
  u : ∀ z ∈ zs, z.U
  n : ∀ z ∈ zs, z.N
  sums : xs.any hugeB = false → tot Rp.pk zs = tot Rp.pk xs ∧ tot Rp.by_ zs = tot Rp.by_ xs
  again : ∀ ws, Tog (zs.map f) ws → ws = zs
theorem less_of {f : Rp → Rp} {xs zs : List Rp} (hq : Quiet f) (h20 : xs.length ≤ 20) (hU : ∀ x ∈ xs, x.U) (h0 : repsF xs = 0) (hr : ∀ x ∈ xs, repF (f x) = 0) (hG : ∀ x ∈ xs, (f x).G) (h : Tog (xs.map f) zs) : Less f xs zs := by
  have hgood := h.good (fun m hm => by obtain ⟨x, hx, rfl⟩ := List.mem_map.1 hm; exact hr x hx) (fun m hm => by obtain ⟨x, hx, rfl⟩ := List.mem_map.1 hm; exact hG x hx)
  have hl := h.lenK
  rw [List.length_map] at hl
  exact ⟨by omega, repsF_good (by omega) (fun z hz => (hgood z hz).1) h.srt, fun z hz => (hgood z hz).2.1, fun z hz => (hgood z hz).2.2.1,
    fun hh => h.sums hq h20 (fun x hx => ((repsF_zero hU h0).1 x hx).2.1) hh, fun ws hw => h.twice hq (fun z hz => ⟨(hgood z hz).2.1, (hgood z hz).2.2.1⟩) hw⟩
theorem repF_back {x : Rp} (hU : x.U) (h : repF x = 0) : x.G := repF_G hU h

set_option maxHeartbeats 8000000 in
set_option maxRecDepth 100000 in
theorem lessIsKept_walk (a : Option Addr) (len cap : Nat) (w : World) (hY : Rdy w) (hs : Str (w.alloc (.cells #[.slice a len cap, .int .i64 0] 25)) w.heap.size 1000) :
    Calls Tryz.prog 5 #[.slice a len cap] w fun e w' => e = .returned (.bool true) ∧ Below w.heap.size w w' := by
  have HR := Lib.hid (fun W (h : Below w.heap.size w W) => ready_any W (hY.below h))
  clear hY
  have hB0 : Below w.heap.size w (w.alloc (.cells #[.slice a len cap, .int .i64 0] 25)) := (Below.refl _ _).alloc (Nat.le_refl _) _
  go_enter Tryz.func5, Tryz.ntmps5
  go_wp2_with fail
  refine (range_any 0 10 _ _ 999 (by decide) (by decide) (by decide) hs).mono ?_
  rintro e w1 ⟨r1, ⟨x0, x1⟩, rfl, hs1, hg1⟩
  obtain ⟨m1, rfl⟩ := Int.eq_ofNat_of_zero_le x0
  have hb : Below w.heap.size w w1 := hB0.trans (gb_toBelow hg1 (Nat.le_refl _) (by simp))
  have hlt1 := hs1.lt
  clear hs hB0 hg1 x0
  go_wp2_with fail
  refine (reports_any m1 w1 _ 818 (by omega) hs1).mono ?_
  rintro e w2 ⟨A1, n1, c1, xs, rfl, hO1, hU1, h101, hs2, hg2⟩
  replace hb : Below w.heap.size w w2 := hb.trans (gb_toBelow hg2 (Nat.le_refl _) (by omega))
  have hlt2 := hs2.lt
  replace h101 : n1 ≤ 20 := by omega
  clear hs1 hg2 x1
  replace hU1 := Lib.hid hU1
  go_wp2_with fail
  refine (range_any 0 3 _ _ 816 (by decide) (by decide) (by decide) (hs2.le (by omega))).mono ?_
  rintro e w3 ⟨d, ⟨hd0, hd3⟩, rfl, hs3, hg3⟩
  replace hb : Below w.heap.size w w3 := hb.trans (gb_toBelow hg3 (Nat.le_refl _) (by omega))
  replace hO1 := hO1.gb hg3 (by omega)
  have hX := hO1.sl
  have hn20 := Lib.hid (show xs.length ≤ 20 by have := hX.1; omega)
  clear hs2 hg3 hs3 hO1 hlt1 hlt2
  have HC := Lib.hid (fun W (h : SlE eRp W A1 n1 c1 xs) => check_any A1 n1 c1 xs W h (by omega) hU1.out)
  by_cases h0 : repsF xs = 0
  · rw [h0] at HC
    have hr := repsF_reps h0
    have hG := (repsF_zero hU1.out h0).1
    have HT := Lib.hid (fun W (h : SlE eRp W A1 n1 c1 xs) => flowThin_any d A1 n1 c1 xs W h h101 hU1.out)
    have HH := Lib.hid (fun W (h : SlE eRp W A1 n1 c1 xs) => flowHide_any 24 64 A1 n1 c1 xs W h h101 hU1.out)
    have hE1 : firstZ [repsF xs, numE d 0 4001] = 0 := firstZ_zeros (by
      intro z hz
      simp only [List.mem_cons, List.not_mem_nil, or_false] at hz
      rcases hz with rfl | rfl
      · exact h0
      · exact if_pos (by omega))
    have hE2 : firstZ [repsF xs, numE 24 0 32, numE 64 0 128] = 0 := firstZ_zeros (by
      intro z hz
      simp only [List.mem_cons, List.not_mem_nil, or_false] at hz
      rcases hz with rfl | rfl | rfl
      · exact h0
      · exact if_pos (by omega)
      · exact if_pos (by omega))
    rw [hE1] at HT
    rw [hE2] at HH
    have hL1 := Lib.hid (fun zs (h : Tog (xs.map (thinR d)) zs) => less_of (thin_quiet d) hn20.out hU1.out h0 (fun x hx => thin_rep (hr.1 x hx)) (fun x hx => repF_back (thinR_U (hG x hx)).1 (thin_rep (hr.1 x hx))) h)
    have hL2 := Lib.hid (fun zs (h : Tog (xs.map (hidR 24 64)) zs) => less_of (hid_quiet 24 64) hn20.out hU1.out h0 (fun x hx => hid_rep ⟨by omega, by omega⟩ (hU1.out x hx) (hr.1 x hx)) (fun x hx => repF_back (hidR_U (hG x hx)).1 (hid_rep ⟨by omega, by omega⟩ (hU1.out x hx) (hr.1 x hx))) h)
    have HS := Lib.hid (fun W (h : SlE eRp W A1 n1 c1 xs) => sums_any A1 n1 c1 xs W h101 h (fun x hx => (hG x hx).2.1))
    have HB := Lib.hid (fun W (h : SlE eRp W A1 n1 c1 xs) => containsHuge_any A1 n1 c1 xs W (by omega) h)
    clear hr hG hE1 hE2 h0 hU1
    go_wp2_with fail
    refine (HC.out _ hX).mono ?_
    rintro e w4 ⟨rfl, hv⟩
    replace hX := hX.below hv
    replace hb := hb.trans (hv.mono hb.size)
    clear hv HC
    go_wp2_with fail
    refine (HT.out _ hX).mono ?_
    rintro e w5 ⟨hv, ⟨hne, _⟩ | ⟨_, A2, n2, c2, zs, rfl, hZ, hTz⟩⟩
    · exact absurd rfl hne
    have hLz := Lib.hid (hL1.out zs hTz)
    replace hX := hX.below hv
    replace hb := hb.trans (hv.mono hb.size)
    clear hv HT hTz hL1
    have hn2 : n2 ≤ 20 := by have := hZ.1; have := hLz.out.len; omega
    have hd4 := Lib.hid (show numE d 0 4001 = 0 from if_pos (by omega))
    have HT2 := Lib.hid (show Calls Tryz.prog 21 #[.slice A2 n2 c2, .int .i64 d] w5 (ThP w5 0 (zs.map (thinR d))) from by
      have h := flowThin_any d A2 n2 c2 zs w5 hZ hn2 hLz.out.u
      rw [firstZ_zeros (l := [repsF zs, numE d 0 4001]) (by
        intro z hz
        simp only [List.mem_cons, List.not_mem_nil, or_false] at hz
        rcases hz with rfl | rfl
        · exact hLz.out.ok
        · exact hd4.out)] at h
      exact h)
    go_wp2_with fail
    refine (HT2.out).mono ?_
    rintro e w6 ⟨hv, ⟨hne, _⟩ | ⟨_, A3, n3, c3, ws, rfl, hW, hTw⟩⟩
    · exact absurd rfl hne
    obtain rfl := hLz.out.again ws hTw
    replace hX := hX.below hv
    replace hZ := hZ.below hv
    replace hb := hb.trans (hv.mono hb.size)
    clear hv HT2 hTw hd4
    go_wp2_with fail
    refine (HH.out _ hX).mono ?_
    rintro e w7 ⟨hv, ⟨hne, _⟩ | ⟨_, A4, n4, c4, ys, rfl, hV, hTy⟩⟩
    · exact absurd rfl hne
    have hLy := Lib.hid (hL2.out ys hTy)
    replace hX := hX.below hv
    replace hZ := hZ.below hv
    replace hW := hW.below hv
    replace hb := hb.trans (hv.mono hb.size)
    clear hv HH hTy hL2
    have hn4 : n4 ≤ 20 := by have := hV.1; have := hLy.out.len; omega
    have HH2 := Lib.hid (show Calls Tryz.prog 22 #[.slice A4 n4 c4, .int .i64 24, .int .i64 64] w7 (ThP w7 0 (ys.map (hidR 24 64))) from by
      have h := flowHide_any 24 64 A4 n4 c4 ys w7 hV hn4 hLy.out.u
      rw [firstZ_zeros (l := [repsF ys, numE 24 0 32, numE 64 0 128]) (by
        intro z hz
        simp only [List.mem_cons, List.not_mem_nil, or_false] at hz
        rcases hz with rfl | rfl | rfl
        · exact hLy.out.ok
        · exact if_pos (by omega)
        · exact if_pos (by omega))] at h
      exact h)
    go_wp2_with fail
    refine (HH2.out).mono ?_
    rintro e w8 ⟨hv, ⟨hne, _⟩ | ⟨_, A5, n5, c5, us, rfl, hT, hTu⟩⟩
    · exact absurd rfl hne
    obtain rfl := hLy.out.again us hTu
    replace hX := hX.below hv
    replace hZ := hZ.below hv
    replace hW := hW.below hv
    replace hV := hV.below hv
    replace hb := hb.trans (hv.mono hb.size)
    clear hv HH2 hTu
    have hn3 : n3 ≤ 20 := by have := hW.1; have := hZ.1; omega
    have hn5 : n5 ≤ 20 := by have := hT.1; have := hV.1; omega
    have HCz := Lib.hid (fun W (h : SlE eRp W A2 n2 c2 ws) => (hLz.out.ok ▸ check_any A2 n2 c2 ws W h (by omega) hLz.out.u))
    have HCy := Lib.hid (fun W (h : SlE eRp W A4 n4 c4 us) => (hLy.out.ok ▸ check_any A4 n4 c4 us W h (by omega) hLy.out.u))
    have HSz := Lib.hid (fun W (h : SlE eRp W A2 n2 c2 ws) => sums_any A2 n2 c2 ws W hn2 h hLz.out.n)
    have HSy := Lib.hid (fun W (h : SlE eRp W A4 n4 c4 us) => sums_any A4 n4 c4 us W hn4 h hLy.out.n)
    have HEz := Lib.hid (fun W (h : SlE eRp W A2 n2 c2 ws) (k : SlE eRp W A3 n3 c3 ws) => equalRp_any A2 A3 n2 n3 c2 c3 ws ws W h k (by omega) (by omega))
    have HEy := Lib.hid (fun W (h : SlE eRp W A4 n4 c4 us) (k : SlE eRp W A5 n5 c5 us) => equalRp_any A4 A5 n4 n5 c4 c5 us us W h k (by omega) (by omega))
    go_wp2_with fail
    refine (HCz.out _ hZ).mono ?_
    rintro e w9 ⟨rfl, hv⟩
    replace hX := hX.below hv
    replace hZ := hZ.below hv
    replace hW := hW.below hv
    replace hV := hV.below hv
    replace hT := hT.below hv
    replace hb := hb.trans (hv.mono hb.size)
    clear hv
    go_wp2_with fail
    refine (HCy.out _ hV).mono ?_
    rintro e wA ⟨rfl, hv⟩
    replace hX := hX.below hv
    replace hZ := hZ.below hv
    replace hW := hW.below hv
    replace hV := hV.below hv
    replace hT := hT.below hv
    replace hb := hb.trans (hv.mono hb.size)
    clear hv
    obtain ⟨B, hB⟩ : ∃ B, B = xs.any hugeB := ⟨_, rfl⟩
    rw [← hB] at HB
    clear HCz HCy
    go_wp2_with fail
    refine (HB.out _ hX).mono ?_
    rintro e wB ⟨rfl, hv⟩
    replace hX := hX.below hv
    replace hZ := hZ.below hv
    replace hW := hW.below hv
    replace hV := hV.below hv
    replace hT := hT.below hv
    replace hb := hb.trans (hv.mono hb.size)
    clear hv
    clear HB
    cases B
    · have s1 := hLz.out.sums hB.symm
      have s2 := hLy.out.sums hB.symm
      replace HSz := HSz.out
      replace HSy := HSy.out
      replace HS := HS.out
      rw [s1.1, s1.2] at HSz
      rw [s2.1, s2.2] at HSy
      clear s1 s2 hB hLz hLy
      generalize tot Rp.pk xs = T1 at *
      generalize tot Rp.by_ xs = T2 at *
      replace HSz := Lib.hid HSz
      replace HSy := Lib.hid HSy
      replace HS := Lib.hid HS
      go_wp2_with fail
      refine (HSz.out _ hZ).mono ?_
      rintro e wC0 ⟨rfl, hv⟩
      replace hX := hX.below hv
      replace hZ := hZ.below hv
      replace hW := hW.below hv
      replace hV := hV.below hv
      replace hT := hT.below hv
      replace hb := hb.trans (hv.mono hb.size)
      clear hv
      go_wp2_with fail
      refine (HS.out _ hX).mono ?_
      rintro e wC1 ⟨rfl, hv⟩
      replace hX := hX.below hv
      replace hZ := hZ.below hv
      replace hW := hW.below hv
      replace hV := hV.below hv
      replace hT := hT.below hv
      replace hb := hb.trans (hv.mono hb.size)
      clear hv
      go_wp2_with fail
      refine (HSy.out _ hV).mono ?_
      rintro e wC2 ⟨rfl, hv⟩
      replace hX := hX.below hv
      replace hZ := hZ.below hv
      replace hW := hW.below hv
      replace hV := hV.below hv
      replace hT := hT.below hv
      replace hb := hb.trans (hv.mono hb.size)
      clear hv
      go_wp2_with fail
      refine (HS.out _ hX).mono ?_
      rintro e wC3 ⟨rfl, hv⟩
      replace hX := hX.below hv
      replace hZ := hZ.below hv
      replace hW := hW.below hv
      replace hV := hV.below hv
      replace hT := hT.below hv
      replace hb := hb.trans (hv.mono hb.size)
      clear hv
      go_wp2_with fail
      refine (HEz.out _ hZ hW).mono ?_
      rintro e wE ⟨b1, rfl, hb1, hv⟩
      obtain rfl : b1 = true := by simpa using hb1
      clear hb1
      replace hX := hX.below hv
      replace hZ := hZ.below hv
      replace hW := hW.below hv
      replace hV := hV.below hv
      replace hT := hT.below hv
      replace hb := hb.trans (hv.mono hb.size)
      clear hv
      go_wp2_with fail
      refine (HEy.out _ hV hT).mono ?_
      rintro e wF ⟨b2, rfl, hb2, hv⟩
      obtain rfl : b2 = true := by simpa using hb2
      clear hb2
      replace hX := hX.below hv
      replace hZ := hZ.below hv
      replace hW := hW.below hv
      replace hV := hV.below hv
      replace hT := hT.below hv
      replace hb := hb.trans (hv.mono hb.size)
      clear hv
      go_wp2_with fail
      refine (HR.out _ hb).mono ?_
      rintro e wG ⟨rfl, hv⟩
      replace hb := hb.trans (hv.mono hb.size)
      clear hv
      go_wp2_with fail
      go_ret
      exact ⟨rfl, hb⟩
    · clear hB hLz hLy HSz HSy HS
      go_wp2_with fail
      refine (HEz.out _ hZ hW).mono ?_
      rintro e wE ⟨b1, rfl, hb1, hv⟩
      obtain rfl : b1 = true := by simpa using hb1
      clear hb1
      replace hX := hX.below hv
      replace hZ := hZ.below hv
      replace hW := hW.below hv
      replace hV := hV.below hv
      replace hT := hT.below hv
      replace hb := hb.trans (hv.mono hb.size)
      clear hv
      go_wp2_with fail
      refine (HEy.out _ hV hT).mono ?_
      rintro e wF ⟨b2, rfl, hb2, hv⟩
      obtain rfl : b2 = true := by simpa using hb2
      clear hb2
      replace hX := hX.below hv
      replace hZ := hZ.below hv
      replace hW := hW.below hv
      replace hV := hV.below hv
      replace hT := hT.below hv
      replace hb := hb.trans (hv.mono hb.size)
      clear hv
      go_wp2_with fail
      refine (HR.out _ hb).mono ?_
      rintro e wG ⟨rfl, hv⟩
      replace hb := hb.trans (hv.mono hb.size)
      clear hv
      go_wp2_with fail
      go_ret
      exact ⟨rfl, hb⟩
  · obtain ⟨z, hz⟩ : ∃ z, z = repsF xs := ⟨_, rfl⟩
    rw [← hz] at HC h0
    have hz1 : (z == 0) = false := by simpa using h0
    have hz2 : (z != 0) = true := by simpa using h0
    clear hz
    go_wp2_with fail
    refine (HC.out _ hX).mono ?_
    rintro e w4 ⟨rfl, hv⟩
    replace hb := hb.trans (hv.mono hb.size)
    clear hv HC hX
    go_wp2_with fail
    refine (HR.out _ hb).mono ?_
    rintro e w5 ⟨rfl, hv⟩
    replace hb := hb.trans (hv.mono hb.size)
    clear hv
    go_wp2_with fail
    go_ret
    exact ⟨rfl, hb⟩
end Go.Proofs.YtfiocnjogbpgoaaGreatDoor
