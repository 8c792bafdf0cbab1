/- The address of a name: the program's BackTo. -/
import Derived.Test.YthjhokicojgpbaaGreatDoorKeNmO
namespace Go.Proofs.YthjhokicojgpbaaGreatDoor
open Go.RowKit
set_option linter.unusedVariables false
set_option linter.unusedSimpArgs false

/-- What BackTo says of a name. -/
def ToP (l : List UInt8) (v : Value) : Prop :=
  (domF l ≠ 0 ∧ v = .tuple #[adV false 0 0, .bool false, .int .i64 (domF l)]) ∨
  (domF l = 0 ∧ ((∃ (s : Bool) (hi lo : Nat), RightN s hi lo ∧ l = backL s hi lo ∧ v = .tuple #[adV s (hi : Int) (lo : Int), .bool true, .int .i64 0]) ∨
    ((∀ (s : Bool) (hi lo : Nat), RightN s hi lo → l ≠ backL s hi lo) ∧ v = .tuple #[adV false 0 0, .bool false, .int .i64 0])))
theorem domF_len {l : List UInt8} (h : domF l = 0) : l.length ≤ 253 := by
  unfold domF at h
  split at h
  · cases h
  · omega
theorem below_3n {w w' : World} {B : Nat} (h : Below B w w') {p : Nat} (hp : B ≤ p) (x y z : Value) : Below B w (((w'.setCell ⟨p, 0, none⟩ x).setCell ⟨p, 1, none⟩ y).setCell ⟨p, 2, none⟩ z) :=
  ((h.setCell (p := ⟨p, 0, none⟩) hp _).setCell (p := ⟨p, 1, none⟩) hp _).setCell (p := ⟨p, 2, none⟩) hp _
set_option maxHeartbeats 4000000 in
set_option maxRecDepth 100000 in
theorem backTo_any (l : List UInt8) (w : World) (hC : Cons w) (hl : l.length ≤ 100000) :
    Calls Tryz.prog 14 #[.string ⟨l.toArray⟩] w fun e w' => ∃ v, e = .returned v ∧ ToP l v ∧ Below w.heap.size w w' := by
  have HD := fun W => Lib.hid (checkDomain_any l W hl)
  have hC' := Lib.hid hC
  have hR := Blk.new w [.bool false, .int .u64 0, .int .u64 0] 28
  have hbw : Below w.heap.size w (w.alloc (.cells [.bool false, .int .u64 0, .int .u64 0].toArray 28)) := (Below.refl _ _).alloc (Nat.le_refl _) _
  clear hC hl
  by_cases h0 : domF l = 0
  · have hl := domF_len h0
    have hd := Lib.hid h0
    rw [h0] at HD
    clear h0
    have HG := Lib.hid (fun W (hW : Below w.heap.size w W) => guess_any l W (hC'.out.below hW) (by omega))
    clear hl
    go_enter Tryz.func14, Tryz.ntmps14
    go_wp2_with fail
    refine (HD _).out.mono ?_
    rintro e w1 ⟨rfl, hb⟩
    replace hR := hR.below hb
    replace hbw := hbw.trans (hb.mono hbw.size)
    clear hb HD
    go_wp2_with fail
    refine (HG.out _ hbw).mono ?_
    rintro e w2 ⟨s, hi, lo, rfl, hP, hb⟩
    replace hR := hR.below hb
    replace hbw := hbw.trans (hb.mono hbw.size)
    clear hb HG
    have hA := Blk.new w2 [.bool s, .int .u64 (hi : Int), .int .u64 (lo : Int)] 28
    have hbA : Below w2.heap.size w2 (w2.alloc (.cells [.bool s, .int .u64 (hi : Int), .int .u64 (lo : Int)].toArray 28)) := (Below.refl _ _).alloc (Nat.le_refl _) _
    have hR' := hR.below hbA
    have hbw' := hbw.trans (hbA.mono hbw.size)
    have HB := fun W (hW : Below w.heap.size w W) => back_any s hi lo W (hC'.out.below hW).tabs hP.1 hP.2.1
    by_cases hr : RightN s hi lo
    · obtain ⟨T, hT⟩ : ∃ T, T = backL s hi lo := ⟨_, rfl⟩
      have hV : backV s hi lo = .tuple #[.string ⟨T.toArray⟩, .int .i64 0] := by rw [hT]; exact if_pos hr
      rw [hV] at HB
      have HB' := Lib.hid HB
      by_cases hTl : T = l
      · have hfin := Lib.hid (show ToP l (.tuple #[adV s (hi : Int) (lo : Int), .bool true, .int .i64 0]) from .inr ⟨hd.out, .inl ⟨s, hi, lo, hr, by rw [← hTl, hT], rfl⟩⟩)
        subst hTl
        clear HB hV hT hr hP hR hbw
        obtain ⟨a0, a1, a2, g0, g1, g2⟩ := hA.three
        go_wp2_with fail
        refine (HB'.out _ hbw').mono ?_
        rintro e w3 ⟨rfl, hb⟩
        replace hR' := hR'.below hb
        have hA' := hA.below hb
        replace hbw' := hbw'.trans (hb.mono hbw'.size)
        clear hb HB' a0 a1 a2 g0 g1 g2 hA
        obtain ⟨a0, a1, a2, g0, g1, g2⟩ := hA'.three
        obtain ⟨u0, u1, u2, f0, f1, f2⟩ := hR'.three
        clear hA'
        go_wp2_with fail
        refine bodyPost_ret (v := .tuple #[adV s (hi : Int) (lo : Int), .bool true, .int .i64 0]) ?_ rfl ⟨_, rfl, hfin.out, below_3n hbw' (Nat.le_refl _) _ _ _⟩
        simp [results, Tryz.results14, go_sem, u0, u1, u2, adV]
      · have hn := Lib.hid (show ToP l (.tuple #[adV false 0 0, .bool false, .int .i64 0]) from .inr ⟨hd.out, .inr ⟨fun t h0 l0 hR hl => by
          obtain ⟨rfl, rfl, rfl⟩ := hP.2.2 t h0 l0 hR hl
          exact hTl (hT.trans hl.symm), rfl⟩⟩)
        have hne : (T == l) = false := beq_eq_false_iff_ne.2 hTl
        have hne2 := hTl
        clear HB hV hT hr hP hR hbw hTl
        obtain ⟨a0, a1, a2, g0, g1, g2⟩ := hA.three
        go_wp2_with fail
        refine (HB'.out _ hbw').mono ?_
        rintro e w3 ⟨rfl, hb⟩
        replace hR' := hR'.below hb
        have hA' := hA.below hb
        replace hbw' := hbw'.trans (hb.mono hbw'.size)
        clear hb HB' a0 a1 a2 g0 g1 g2 hA
        obtain ⟨a0, a1, a2, g0, g1, g2⟩ := hA'.three
        obtain ⟨u0, u1, u2, f0, f1, f2⟩ := hR'.three
        clear hA'
        go_wp2_with fail
        refine bodyPost_ret (v := .tuple #[adV false 0 0, .bool false, .int .i64 0]) ?_ rfl ⟨_, rfl, hn.out, below_3n hbw' (Nat.le_refl _) _ _ _⟩
        simp [results, Tryz.results14, go_sem, u0, u1, u2, adV]
    · have hV : backV s hi lo = .tuple #[.string ⟨#[]⟩, .int .i64 3] := if_neg hr
      rw [hV] at HB
      have HB' := Lib.hid HB
      have hn := Lib.hid (show ToP l (.tuple #[adV false 0 0, .bool false, .int .i64 0]) from .inr ⟨hd.out, .inr ⟨fun t h0 l0 hR hl => by
          obtain ⟨rfl, rfl, rfl⟩ := hP.2.2 t h0 l0 hR hl
          exact hr hR, rfl⟩⟩)
      clear HB hV hr hP hR hbw
      obtain ⟨a0, a1, a2, g0, g1, g2⟩ := hA.three
      go_wp2_with fail
      refine (HB'.out _ hbw').mono ?_
      rintro e w3 ⟨rfl, hb⟩
      replace hR' := hR'.below hb
      have hA' := hA.below hb
      replace hbw' := hbw'.trans (hb.mono hbw'.size)
      clear hb HB' a0 a1 a2 g0 g1 g2 hA
      obtain ⟨a0, a1, a2, g0, g1, g2⟩ := hA'.three
      obtain ⟨u0, u1, u2, f0, f1, f2⟩ := hR'.three
      clear hA'
      go_wp2_with fail
      refine bodyPost_ret (v := .tuple #[adV false 0 0, .bool false, .int .i64 0]) ?_ rfl ⟨_, rfl, hn.out, below_3n hbw' (Nat.le_refl _) _ _ _⟩
      simp [results, Tryz.results14, go_sem, u0, u1, u2, adV]
  · have hd := Lib.hid h0
    obtain ⟨z, hz⟩ : ∃ z, z = domF l := ⟨_, rfl⟩
    rw [← hz] at h0 HD
    replace hz := Lib.hid hz
    go_enter Tryz.func14, Tryz.ntmps14
    go_wp2_with fail
    refine (HD _).out.mono ?_
    rintro e w1 ⟨rfl, hb⟩
    replace hR := hR.below hb
    replace hbw := hbw.trans (hb.mono hbw.size)
    obtain ⟨u0, u1, u2, f0, f1, f2⟩ := hR.three
    clear hb HD
    go_wp2_with fail
    refine bodyPost_ret (v := .tuple #[adV false 0 0, .bool false, .int .i64 z]) ?_ rfl ⟨_, rfl, .inl ⟨hd.out, by rw [hz.out]⟩, below_3n hbw (Nat.le_refl _) _ _ _⟩
    simp [results, Tryz.results14, go_sem, u0, u1, u2, adV]
end Go.Proofs.YthjhokicojgpbaaGreatDoor
