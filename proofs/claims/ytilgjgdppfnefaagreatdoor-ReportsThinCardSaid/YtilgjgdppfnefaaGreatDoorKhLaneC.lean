/- What a stream makes: raw addresses. -/
import Derived.Test.YtilgjgdppfnefaaGreatDoorKhStB
import Derived.Deep.RegionWith
namespace Go.Proofs.YtilgjgdppfnefaaGreatDoor
open Go.RowKit

theorem cells_lit (w : World) (zs : List Int) (k : IntKind) (t : TypeId) (i : Nat) (hi : i < zs.length) :
    (w.alloc (.cells (zs.map (Value.int k)).toArray t)).cell? ⟨w.heap.size, i, none⟩ = some (.int k (zs.getD i 0)) := by
  rw [World.cell?_alloc_at _ _ _ _ rfl]
  simp [hi, List.getD_eq_getElem?_getD]

theorem pick_lit (w : World) (b R : Nat) (zs : List Int) (t : TypeId) (cap : Nat) (hs : Str w b (R + 1)) (h1 : 1 ≤ zs.length) (h2 : zs.length ≤ 1000)
    (P : Int → Prop) (hP : ∀ z ∈ zs, P z) :
    Calls Tryz.prog 18 #[.pointer (some ⟨b, 0, none⟩), .slice (some ⟨w.heap.size, 0, none⟩) zs.length cap] (w.alloc (.cells (zs.map (Value.int .i64)).toArray t))
      (NumPost P b R (w.alloc (.cells (zs.map (Value.int .i64)).toArray t))) :=
  pick_any _ b R w.heap.size zs.length cap zs (hs.alloc _) hs.lt h1 h2 (fun i hi => cells_lit w zs .i64 t i hi) P
    (fun i hi => hP _ (by rw [List.getD_eq_getElem?_getD, List.getElem?_eq_getElem hi]; exact List.getElem_mem hi))

set_option maxHeartbeats 400000 in
theorem odd_any (lo hi : Int) (w : World) (b R : Nat) (h1 : lo ≤ hi) (h2 : -1099511627776 ≤ lo) (h3 : hi ≤ 1099511627775) (hs : Str w b (R + 2)) :
    Calls Tryz.prog 17 #[.pointer (some ⟨b, 0, none⟩), .int .i64 lo, .int .i64 hi] w (NumPost (fun r => -1099511627777 ≤ r ∧ r ≤ 1099511627776) b R w) := by
  go_enter Tryz.func17, Tryz.ntmps17
  go_wp2_with fail
  refine (flip_any _ _ _ _ (by omega) (by omega) hs).mono ?_
  rintro e w1 ⟨r, rfl, hs1, hg1⟩
  cases r
  · go_wp2_with fail
    refine (range_any _ _ _ _ _ h1 (by omega) (by omega) hs1).mono ?_
    rintro e w2 ⟨r, ⟨hr1, hr2⟩, rfl, hs2, hg2⟩
    go_wp2_with fail
    go_ret
    exact ⟨_, ⟨by omega, by omega⟩, rfl, hs2, gb_trans hg1 hg2⟩
  · go_wp2_with fail
    refine (pick_lit w1 b _ [lo - 1, hi + 1, lo, hi, -1099511627776, 1099511627776] _ _ hs1 (by simp) (by simp) (fun r => -1099511627777 ≤ r ∧ r ≤ 1099511627776) (by simp; omega)).mono ?_
    rintro e w2 ⟨r, ⟨hr1, hr2⟩, rfl, hs2, hg2⟩
    go_wp2_with fail
    go_ret
    exact ⟨_, ⟨by omega, by omega⟩, rfl, hs2, gb_trans (gb_alloc hg1 _) hg2⟩

/-- A number of 64 bits. -/
def U64 (x : Int) : Prop := 0 ≤ x ∧ x < 18446744073709551616
/-- The halves of a right address. -/
def RightA (s : Bool) (hi lo : Int) : Prop := U64 hi ∧ U64 lo ∧ (s = false → hi = 0 ∧ lo < 4294967296)

abbrev adV (s : Bool) (hi lo : Int) : Value := .agg #[.bool s, .int .u64 hi, .int .u64 lo]

/-- A step of the stream b: an address for which P holds. -/
def AdrPost (P : Bool → Int → Int → Prop) (b R : Nat) (w : World) (e : Ending) (w' : World) : Prop :=
  ∃ s hi lo, P s hi lo ∧ e = .returned (adV s hi lo) ∧ Str w' b R ∧ w.grownBy w' (some b)

/-- An element of a list of numbers, as the walk writes it. -/
theorem lit_at (zs : List Int) (k : IntKind) (r : Int) (h1 : 0 ≤ r) (h2 : r < zs.length) : ∃ v, v ∈ zs ∧ ∀ h : r.toNat < (zs.map (Value.int k)).length, (zs.map (Value.int k))[r.toNat]'h = .int k v := by
  have hi : r.toNat < zs.length := by omega
  exact ⟨zs[r.toNat], List.getElem_mem hi, by intro h; simp⟩

theorem lits_ok {v : Int} {zs : List Int} (h : v ∈ zs) (hz : zs.all (fun z => decide (0 ≤ z ∧ z < 18446744073709551616)) = true) : U64 v := by
  have := List.all_eq_true.1 hz v h
  simpa [U64] using this

/-- A stream b and a younger block p of three cells; since w0 nothing old but the stream has turned. -/
structure Pre (w0 : World) (b R p : Nat) (x y z : Value) (t : TypeId) (w : World) : Prop where
  str : Str w b R
  blk : Blk w p [x, y, z] t
  base : w0.grownBy w (some b)
theorem Pre.alloc {w0 : World} {b R p : Nat} {x y z : Value} {t : TypeId} {w : World} (h : Pre w0 b R p x y z t w) (o : Obj) : Pre w0 b R p x y z t (w.alloc o) := ⟨h.str.alloc o, h.blk.alloc o, gb_alloc h.base o⟩
theorem Pre.drew {w0 : World} {b R p : Nat} {x y z : Value} {t : TypeId} {w : World} (h : Pre w0 b R p x y z t w) : Pre w0 b R p x y z t w.drew := ⟨h.str.drew, h.blk.drew, gb_drew h.base⟩
theorem Pre.start {w0 : World} {b R : Nat} (hs : Str w0 b R) (x y z : Value) (t : TypeId) : Pre w0 b R w0.heap.size x y z t (w0.alloc (.cells #[x, y, z] t)) := ⟨hs.alloc _, Blk.new w0 [x, y, z] t, World.grownBy_alloc _ _ _⟩
/-- Behind three stores into the block p. -/
theorem Pre.fin3 {w0 : World} {b R p : Nat} {x y z : Value} {t : TypeId} {w : World} (h : Pre w0 b R p x y z t w) (hb : b < p) (hp : w0.heap.size ≤ p) (u v s : Value) :
    Str (((w.setCell ⟨p, 0, none⟩ u).setCell ⟨p, 1, none⟩ v).setCell ⟨p, 2, none⟩ s) b R ∧ w0.grownBy (((w.setCell ⟨p, 0, none⟩ u).setCell ⟨p, 1, none⟩ v).setCell ⟨p, 2, none⟩ s) (some b) :=
  ⟨((h.str.setCell (p := ⟨p, 0, none⟩) hb u).setCell (p := ⟨p, 1, none⟩) hb v).setCell (p := ⟨p, 2, none⟩) hb s, gb_setNew (p := ⟨p, 2, none⟩) (gb_setNew (p := ⟨p, 1, none⟩) (gb_setNew (p := ⟨p, 0, none⟩) h.base hp u) hp v) hp s⟩

/-- What Next leaves, at a stream and a younger block of three cells. -/
def KeepPost (n : Int) (w0 : World) (b R p : Nat) (x y z : Value) (t : TypeId) (w : World) (e : Ending) (w' : World) : Prop :=
  ∃ r : Int, 0 ≤ r ∧ r < n ∧ e = .returned (.int .i64 r) ∧ Pre w0 b R p x y z t w' ∧ (∀ j o, b < j → j < w.heap.size → w'.cell? ⟨j, o, none⟩ = w.cell? ⟨j, o, none⟩) ∧ w.heap.size ≤ w'.heap.size ∧ w.grownBy w' (some b) ∧ b < w'.heap.size ∧ b ≤ w'.heap.size ∧
   (w'.cell? ⟨p, 0, none⟩ = some x ∧ w'.cell? ⟨p, 1, none⟩ = some y ∧ w'.cell? ⟨p, 2, none⟩ = some z ∧ w'.frozen? ⟨p, 0, none⟩ = false ∧ w'.frozen? ⟨p, 1, none⟩ = false ∧ w'.frozen? ⟨p, 2, none⟩ = false)

theorem next_keep (n : Int) (w w0 : World) (b R p : Nat) (x y z : Value) (t : TypeId) (h1 : 1 ≤ n) (h2 : n ≤ 4611686018427387904) (hbp : b < p) (hp : Pre w0 b (R + 1) p x y z t w) :
    Calls Tryz.prog 9 #[.pointer (some ⟨b, 0, none⟩), .int .i64 n] w (KeepPost n w0 b R p x y z t w) := by
  refine (next_any n w b R h1 h2 hp.str).mono ?_
  rintro e w' ⟨r, ⟨hr1, hr2⟩, rfl, hs, hg⟩
  obtain ⟨hc, _, hz⟩ := gb_rules hg
  have hb := hs.lt
  have hB := hp.blk.gb hg hbp
  exact ⟨r, hr1, hr2, rfl, ⟨hs, hB, gb_trans hp.base hg⟩, hc, hz, hg, hb, by omega, hB.three⟩

end Go.Proofs.YtilgjgdppfnefaaGreatDoor
namespace Go.Proofs.YtilgjgdppfnefaaGreatDoor
open Go.RowKit

theorem adr_close {w W : World} {b R : Nat} {s : Bool} {hi lo : Int} (hP : RightA s hi lo) (h : Str W b R ∧ w.grownBy W (some b)) : AdrPost RightA b R w (.returned (adV s hi lo)) W := ⟨s, hi, lo, hP, rfl, h.1, h.2⟩

set_option maxHeartbeats 20000000 in
theorem addr_any (w : World) (b R : Nat) (hs : Str w b (R + 3)) :
    Calls Tryz.prog 86 #[.pointer (some ⟨b, 0, none⟩)] w (AdrPost RightA b R w) := by
  have hbw := hs.lt
  have hP := Pre.start hs (.bool false) (.int .u64 0) (.int .u64 0) 33
  go_enter Tryz.func86, Tryz.ntmps86
  go_wp2_with fail
  refine (next_keep _ _ _ _ _ _ _ _ _ _ (by omega) (by omega) hbw hP).mono ?_
  rintro e w1 ⟨r, hr1, hr2, rfl, hP1, hc1, hz1, hg1, hb1, hb1', q0, q1, q2, f0, f1, f2⟩
  simp at hz1
  have hx1 : w.heap.size < w1.heap.size := by omega
  clear hP hs hc1
  by_cases h0 : r = 0
  · subst h0
    have tok1 : True := trivial
    go_wp2_with fail
    go_region_with (first
      | (go_at_call 9; have _t := tok1; refine (next_keep _ _ w b (R + 1) w.heap.size (.bool false) (.int .u64 0) (.int .u64 0) 33 (by omega) (by omega) hbw ?_).mono ?_; exact (by with_reducible first | exact hP1.drew | exact (hP1.alloc _).drew | exact ((hP1.alloc _).alloc _).drew); rintro e w2 ⟨r2, hr3, hr4, rfl, hP2, hc2, hx2, hg2, hb2, hb2', u0, u1, u2, f3, f4, f5⟩; clear tok1; obtain ⟨v2, hv2, hl2⟩ := lit_at [0, 18230571291595767808, 2306139568115548160, 9223372036854775808, 18446744073709551615] .u64 r2 hr3 hr4; simp only [List.map] at hl2; (try simp at hx2); have g0 : w.heap.size < w2.heap.size := (by omega); (try have g1 : w1.heap.size < w2.heap.size := by omega); (try have g2 : w1.heap.size + 1 < w2.heap.size := by omega))
      | (go_at_call 9; refine (next_keep _ _ w b R w.heap.size (.bool false) (.int .u64 0) (.int .u64 0) 33 (by omega) (by omega) hbw ?_).mono ?_; exact (by with_reducible first | exact hP2 | exact hP2.alloc _ | exact (hP2.alloc _).alloc _); rintro e w3 ⟨r3, hr5, hr6, rfl, hP3, hc3, hx3, hg3, hb3, hb3', t0, t1, t2, f6, f7, f8⟩; obtain ⟨v3, hv3, hl3⟩ := lit_at [0, 1, 2, 4294967296, 18446744073709551615] .u64 r3 hr5 hr6; simp only [List.map] at hl3; (try simp at hx3); have g7 : w.heap.size < w3.heap.size := (by omega); (try have g3 : w2.heap.size < w3.heap.size := by omega); (try have g4 : w2.heap.size + 1 < w3.heap.size := by omega); (try have g5 : w1.heap.size < w3.heap.size := by omega); (try have g6 : w1.heap.size + 1 < w3.heap.size := by omega)))
    all_goals go_wp2_with fail
    all_goals refine bodyPost_ret (v := adV true v2 v3) ?_ rfl (adr_close ⟨lits_ok hv2 (by decide), lits_ok hv3 (by decide), fun h => by cases h⟩ ?_)
    all_goals first
      | (with_reducible exact Pre.fin3 hP3 hbw (Nat.le_refl _) (.bool true) (.int .u64 v2) (.int .u64 v3))
      | (with_reducible exact ⟨(Pre.fin3 hP3 hbw (Nat.le_refl _) (.bool true) (.int .u64 v2) (.int .u64 v3)).1.alloc _, gb_alloc (Pre.fin3 hP3 hbw (Nat.le_refl _) (.bool true) (.int .u64 v2) (.int .u64 v3)).2 _⟩)
      | (with_reducible exact ⟨((Pre.fin3 hP3 hbw (Nat.le_refl _) (.bool true) (.int .u64 v2) (.int .u64 v3)).1.alloc _).alloc _, gb_alloc (gb_alloc (Pre.fin3 hP3 hbw (Nat.le_refl _) (.bool true) (.int .u64 v2) (.int .u64 v3)).2 _) _⟩)
      | (simp [results, Tryz.results86, go_sem, t0, t1, t2, g7]; done)
  have b0 : (r == 0) = false := by simp; omega
  by_cases h1 : r = 1
  · subst h1
    have hL := Blk.new w1 (([0, 1, 4294967295, 2130706433, 3232235521] : List Int).map (Value.int .u64)) 31
    go_wp2_with fail
    refine (next_keep _ _ _ _ (R + 1) _ _ _ _ _ (by omega) (by omega) hbw (hP1.alloc _)).mono ?_
    rintro e w2 ⟨r2, hr3, hr4, rfl, hP2, hc2, hx2, hg2, hb2, hb2', u0, u1, u2, f3, f4, f5⟩
    obtain ⟨v, hv, hl⟩ := (hL.gb hg2 hb1).at r2 hr3 (by simpa using hr4)
    clear hc2 hL
    go_wp2_with fail
    refine bodyPost_ret (v := adV false 0 v) ?_ rfl (adr_close ⟨⟨by omega, by omega⟩, lits_ok hv (by decide), fun _ => ⟨rfl, ?_⟩⟩ ?_)
    · simp [results, Tryz.results86, go_sem, u0, u1, u2]
    · simp at hv; omega
    · have := (Pre.fin3 hP2 hbw (Nat.le_refl _) (.bool false) (.int .u64 0) (.int .u64 v)); exact ⟨this.1.le (by omega), this.2⟩
  have b1 : (r == 1) = false := by simp; omega
  by_cases h2 : r = 2
  · subst h2
    go_wp2_with fail
    refine (range_any _ _ _ _ (R + 1) (by omega) (by omega) (by omega) hP1.str).mono ?_
    rintro e w2 ⟨r2, ⟨hr3, hr4⟩, rfl, hs2, hg2⟩
    have hB2 := hP1.blk.gb hg2 hbw
    obtain ⟨u0, u1, u2, f3, f4, f5⟩ := hB2.three
    have hP2 : Pre w b (R + 1) w.heap.size _ _ _ _ w2 := ⟨hs2, hB2, gb_trans hP1.base hg2⟩
    go_wp2_with fail
    refine bodyPost_ret (v := adV false 0 (r2 * 251 % 4294967296)) ?_ rfl (adr_close ⟨⟨by omega, by omega⟩, ⟨by omega, by omega⟩, fun _ => ⟨rfl, by omega⟩⟩ ?_)
    · simp [results, Tryz.results86, go_sem, u0, u1, u2]
    · have := (Pre.fin3 hP2 hbw (Nat.le_refl _) (.bool false) (.int .u64 0) (.int .u64 (r2 * 251 % 4294967296))); exact ⟨this.1.le (by omega), this.2⟩
  have b2 : (r == 2) = false := by simp; omega
  go_wp2_with fail
  refine (range_any _ _ _ _ (R + 1) (by omega) (by omega) (by omega) hP1.str).mono ?_
  rintro e w2 ⟨r2, ⟨hr3, hr4⟩, rfl, hs2, hg2⟩
  have hB2 := hP1.blk.gb hg2 hbw
  obtain ⟨u0, u1, u2, f3, f4, f5⟩ := hB2.three
  have hP2 : Pre w b (R + 1) w.heap.size _ _ _ _ w2 := ⟨hs2, hB2, gb_trans hP1.base hg2⟩
  go_wp2_with fail
  refine bodyPost_ret (v := adV false 0 (167772160 + r2)) ?_ rfl (adr_close ⟨⟨by omega, by omega⟩, ⟨by omega, by omega⟩, fun _ => ⟨rfl, by omega⟩⟩ ?_)
  · simp [results, Tryz.results86, go_sem, u0, u1, u2]
  · have := (Pre.fin3 hP2 hbw (Nat.le_refl _) (.bool false) (.int .u64 0) (.int .u64 (167772160 + r2))); exact ⟨this.1.le (by omega), this.2⟩
end Go.Proofs.YtilgjgdppfnefaaGreatDoor
namespace Go.Proofs.YtilgjgdppfnefaaGreatDoor
open Go.RowKit

/-- Two halves of 64 bits. -/
def RawA (_ : Bool) (hi lo : Int) : Prop := U64 hi ∧ U64 lo

set_option maxHeartbeats 1000000 in
theorem raw_any (w : World) (b R : Nat) (hs : Str w b (R + 6)) :
    Calls Tryz.prog 57 #[.pointer (some ⟨b, 0, none⟩)] w (AdrPost RawA b R w) := by
  have hbw := hs.lt
  have hP := Pre.start hs (.bool false) (.int .u64 0) (.int .u64 0) 33
  go_enter Tryz.func57, Tryz.ntmps57
  go_wp2_with fail
  refine (addr_any _ _ (R + 3) hP.str).mono ?_
  rintro e w1 ⟨s, hi, lo, hA, rfl, hs1, hg1⟩
  have hP1 : Pre w b (R + 3) w.heap.size _ _ _ _ w1 := ⟨hs1, hP.blk.gb hg1 hbw, gb_trans hP.base hg1⟩
  have hb1 := hs1.lt
  have hz1 := hg1.size
  simp at hz1
  have hx1 : w.heap.size < w1.heap.size := by omega
  have hL := Blk.new w1 [.bool s, .int .u64 hi, .int .u64 lo] 33
  have hP1' := hP1.alloc (.cells #[.bool s, .int .u64 hi, .int .u64 lo] 33)
  clear hP hs
  go_wp2_with fail
  refine (flip_any _ _ _ (R + 2) (by omega) (by omega) hP1'.str).mono ?_
  rintro e w2 ⟨r, rfl, hs2, hg2⟩
  have hP2 : Pre w b (R + 2) w.heap.size _ _ _ _ w2 := ⟨hs2, hP1'.blk.gb hg2 hbw, gb_trans hP1'.base hg2⟩
  obtain ⟨a0, a1, a2, e0, e1, e2⟩ := (hL.gb hg2 hb1).three
  obtain ⟨u0, u1, u2, f3, f4, f5⟩ := hP2.blk.three
  cases r
  · go_wp2_with fail
    refine bodyPost_ret (v := adV s hi lo) ?_ rfl ⟨s, hi, lo, ⟨hA.1, hA.2.1⟩, rfl, ?_⟩
    · simp [results, Tryz.results57, go_sem, u0, u1, u2]
    · have := (Pre.fin3 hP2 hbw (Nat.le_refl _) (.bool s) (.int .u64 hi) (.int .u64 lo)); exact ⟨this.1.le (by omega), this.2⟩
  · go_wp2_with fail
    refine (next_keep _ _ _ _ (R + 1) _ _ _ _ _ (by omega) (by omega) hbw hP2).mono ?_
    rintro e w3 ⟨r3, hr5, hr6, rfl, hP3, hc3, hx3, hg3, hb3, hb3', t0, t1, t2, f6, f7, f8⟩
    clear hc3
    have hQ := Blk.new w3 (([4294967296, 5, 1099511627776] : List Int).map (Value.int .u64)) 31
    go_wp2_with fail
    refine (next_keep _ _ _ _ R _ _ _ _ _ (by omega) (by omega) hbw (hP3.alloc _)).mono ?_
    rintro e w4 ⟨r4, hr7, hr8, rfl, hP4, hc4, hx4, hg4, hb4, hb4', s0, s1, s2, g6, g7, g8⟩
    clear hc4
    obtain ⟨v, hv, hl⟩ := (hQ.gb hg4 hb3).at r4 hr7 (by simpa using hr8)
    go_wp2_with fail
    refine bodyPost_ret (v := adV false r3 v) ?_ rfl ⟨false, r3, v, ⟨⟨by omega, by omega⟩, lits_ok hv (by decide)⟩, rfl, ?_⟩
    · simp [results, Tryz.results57, go_sem, s0, s1, s2]
    · exact Pre.fin3 hP4 hbw (Nat.le_refl _) (.bool false) (.int .u64 r3) (.int .u64 v)
end Go.Proofs.YtilgjgdppfnefaaGreatDoor
