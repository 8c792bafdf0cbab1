/- strconv.ParseUint of labels; slices.Backward of strings. -/
import Derived.Test.YthjhokicojgpbaaGreatDoorKeNmL
import Derived.Test.YthjhokicojgpbaaGreatDoorKeNmF
namespace Go.Proofs.YthjhokicojgpbaaGreatDoor
open Go.RowKit
set_option linter.unusedVariables false
set_option linter.unusedSimpArgs false

attribute [local go_sem] Oper.semAt_some

theorem esynN_cell {w : World} (hC : Cons w) : ∃ ev, w.cell? ⟨4, 0, none⟩ = some ev ∧ (ev = .nilIface ∨ ∃ te pe, ev = .iface te pe) := by
  have g1 : Tryz.prog.globalNamed "strconv.ErrSyntax" = some 4 := by kernel_rfl
  obtain ⟨tp, p, h⟩ := hC.esyn
  exact ⟨_, (World.var?_cell g1 h 0).trans rfl, .inr ⟨tp, p, rfl⟩⟩
theorem eranN_cell {w : World} (hC : Cons w) : ∃ ev, w.cell? ⟨5, 0, none⟩ = some ev ∧ (ev = .nilIface ∨ ∃ te pe, ev = .iface te pe) := by
  have g1 : Tryz.prog.globalNamed "strconv.ErrRange" = some 5 := by kernel_rfl
  obtain ⟨tp, p, h⟩ := hC.eran
  exact ⟨_, (World.var?_cell g1 h 0).trans rfl, .inr ⟨tp, p, rfl⟩⟩
theorem p64_any (d : Nat) (h : d < 16) (w : World) : Calls Tryz.prog 205 #[.string ⟨[hexc d].toArray⟩, .int .i64 16, .int .i64 64] w fun e w' => e = .returned (.tuple #[.int .u64 (d : Int), .nilIface]) ∧ Below w.heap.size w w' := by
  have h' : d = 0 ∨ d = 1 ∨ d = 2 ∨ d = 3 ∨ d = 4 ∨ d = 5 ∨ d = 6 ∨ d = 7 ∨ d = 8 ∨ d = 9 ∨ d = 10 ∨ d = 11 ∨ d = 12 ∨ d = 13 ∨ d = 14 ∨ d = 15 := by omega
  rcases h' with rfl | rfl | rfl | rfl | rfl | rfl | rfl | rfl | rfl | rfl | rfl | rfl | rfl | rfl | rfl | rfl
  · exact p64_0 w
  · exact p64_1 w
  · exact p64_2 w
  · exact p64_3 w
  · exact p64_4 w
  · exact p64_5 w
  · exact p64_6 w
  · exact p64_7 w
  · exact p64_8 w
  · exact p64_9 w
  · exact p64_10 w
  · exact p64_11 w
  · exact p64_12 w
  · exact p64_13 w
  · exact p64_14 w
  · exact p64_15 w
set_option maxHeartbeats 400000 in
set_option maxRecDepth 100000 in
theorem parse16e_64 (w : World) :
    Calls Tryz.prog 205 #[.string ⟨([] : List UInt8).toArray⟩, .int .i64 16, .int .i64 64] w fun e w' => e = .returned (.tuple #[.int .u64 0, .iface 216 (.int .i64 2)]) ∧ w = w' := by
  go_enter Tryz.func205, Tryz.ntmps205
  go_wp2_with fail
  go_ret2
  exact ⟨rfl, rfl⟩
/-- A label that is read: some number; that of the label, if it is one. -/
def ParP (s : Bool) (l : List UInt8) (w : World) (e : Ending) (w' : World) : Prop := ∃ (x : Nat) (v : Value), e = .returned (.tuple #[.int .u64 (x : Int), v]) ∧ x < 2 ^ 64 ∧ (∀ d, d < baseD s → l = labD s d → x = d) ∧ Below w.heap.size w w'

set_option maxHeartbeats 2000000 in
set_option maxRecDepth 100000 in
theorem parse16_any (l : List UInt8) (w : World) (hC : Cons w) (hl : l.length ≤ 100000) :
    Calls Tryz.prog 151 #[.string ⟨l.toArray⟩, .int .i64 16, .int .i64 64] w (ParP true l w) := by
  by_cases hd : ∃ d, d < 16 ∧ l = [hexc d]
  · obtain ⟨d, hd1, rfl⟩ := hd
    have HI := Lib.hid (p64_any d hd1 w)
    have hu := Lib.hid (fun e (he : e < baseD true) (h : [hexc d] = labD true e) => (show d = e from labD_inj (s := true) hd1 he h))
    have hd2 := Lib.hid (show d < 2 ^ 64 by omega)
    clear hd1 hC hl
    go_enter Tryz.func151, Tryz.ntmps151
    go_wp2_with fail
    refine HI.out.mono ?_
    rintro e w1 ⟨rfl, hb⟩
    go_wp2_with fail
    go_ret2
    exact ⟨d, _, rfl, hd2.out, hu.out, hb⟩
  · have hno := Lib.hid (fun x e (he : e < baseD true) (h : l = labD true e) => (show x = e from absurd ⟨e, he, h⟩ hd))
    have hsz : (⟨l.toArray⟩ : ByteArray).size ≤ 281474976710656 := by rw [Lib.size_eq]; exact Nat.le_trans hl (by decide)
    obtain ⟨M, hM⟩ : ∃ M : Int, M = 18446744073709551615 := ⟨_, rfl⟩
    have HI : Hid (Calls Tryz.prog 205 #[.string ⟨l.toArray⟩, .int .i64 16, .int .i64 64] w fun e w' => PuP M e ∧ Below w.heap.size w w') := by
      by_cases hne : l = []
      · subst hne
        exact Lib.hid ((parse16e_64 w).mono fun e w' h => ⟨.inr (.inl h.1), by rw [← h.2]; exact Below.refl _ _⟩)
      · exact Lib.hid (parse16_64 l w hne hl M hM)
    have hMM := Lib.hid hM
    have HT : ∀ w1, Below w.heap.size w w1 → Hid ((∀ fn : ByteArray, Calls Tryz.prog 166 #[.string fn, .string ⟨l.toArray⟩, .int .i64 16, .int .i64 64, .iface 216 (.int .i64 2)] w1 fun e w' => ∃ T p, e = .returned (.iface T p) ∧ Below w.heap.size w w') ∧ (∀ fn : ByteArray, Calls Tryz.prog 166 #[.string fn, .string ⟨l.toArray⟩, .int .i64 16, .int .i64 64, .iface 216 (.int .i64 1)] w1 fun e w' => ∃ T p, e = .returned (.iface T p) ∧ Below w.heap.size w w')) := by
      intro w1 hb
      obtain ⟨ev, h1, h2⟩ := esynN_cell (hC.below hb)
      obtain ⟨er, h3, h4⟩ := eranN_cell (hC.below hb)
      refine Lib.hid ⟨fun fn => ?_, fun fn => ?_⟩
      · refine (Tryz.strconv_toError_syntax fn _ 16 64 ev w1 hsz h1 h2).mono ?_
        rintro e w' ⟨N, rfl, _, _, hb'⟩
        exact ⟨_, _, rfl, hb.trans (hb'.mono hb.size)⟩
      · refine (Tryz.strconv_toError_range fn _ 16 64 er w1 hsz h3 h4).mono ?_
        rintro e w' ⟨N, rfl, _, _, hb'⟩
        exact ⟨_, _, rfl, hb.trans (hb'.mono hb.size)⟩
    clear hC hsz hl hM hd
    go_enter Tryz.func151, Tryz.ntmps151
    go_wp2_with fail
    refine HI.out.mono ?_
    rintro e w1 ⟨⟨n, hn0, hn1, rfl⟩ | rfl | rfl, hb⟩
    · have HN := Lib.hid (show ∃ x : Nat, (x : Int) = n ∧ x < 2 ^ 64 from ⟨n.toNat, by omega, by have := hMM.out; omega⟩)
      clear hn0 hn1 HT
      go_wp2_with fail
      go_ret2
      obtain ⟨x, rfl, hx⟩ := HN.out
      exact ⟨x, _, rfl, hx, hno.out x, hb⟩
    · have HT1 := HT _ hb
      clear HT
      go_wp2_with fail
      refine (HT1.out.1 _).mono ?_
      rintro e w2 ⟨T, p, rfl, hb2⟩
      go_wp2_with fail
      go_ret2
      exact ⟨0, _, rfl, by decide, hno.out 0, hb2⟩
    · have HT1 := HT _ hb
      have HN := Lib.hid (show ∃ x : Nat, (x : Int) = M ∧ x < 2 ^ 64 from ⟨M.toNat, by have := hMM.out; omega, by have := hMM.out; omega⟩)
      clear HT
      go_wp2_with fail
      refine (HT1.out.2 _).mono ?_
      rintro e w2 ⟨T, p, rfl, hb2⟩
      go_wp2_with fail
      go_ret2
      obtain ⟨x, rfl, hx⟩ := HN.out
      exact ⟨x, _, rfl, hx, hno.out x, hb2⟩
def pOk (d : Nat) : Bool := match Lib.parseUintB 64 (dec3 d) with
  | .ok u => u == d
  | _ => false
set_option maxRecDepth 100000 in
theorem pOk_all : ∀ d, d < 256 → pOk d = true := by decide
theorem pOk_is {d : Nat} (h : d < 256) : Lib.parseUintB 64 (dec3 d) = .ok d := by
  have := pOk_all d h
  unfold pOk at this
  cases h' : Lib.parseUintB 64 (dec3 d) with
  | ok u => rw [h'] at this; simp only [beq_iff_eq] at this; rw [this]
  | _ => rw [h'] at this; cases this
theorem parse10_any (l : List UInt8) (w : World) (hC : Cons w) (hl : l.length ≤ 100000) :
    Calls Tryz.prog 151 #[.string ⟨l.toArray⟩, .int .i64 10, .int .i64 64] w (ParP false l w) := by
  have hsz : (⟨l.toArray⟩ : ByteArray).size ≤ 281474976710656 := by rw [Lib.size_eq]; exact Nat.le_trans hl (by decide)
  cases ha : Lib.parseUintB 64 l with
  | ok u =>
    refine (Tryz.strconv_ParseUint_10_at64_ok ⟨l.toArray⟩ (by rw [Lib.size_eq]; exact Nat.le_trans hl (by decide)) u (by simpa using ha) w).mono ?_
    rintro e w' ⟨rfl, hw⟩
    refine ⟨u, _, rfl, ?_, fun d hd hld => ?_, ?_⟩
    · have h := Lib.parseUintB_le ha; omega
    · subst hld
      have h2 : Lib.parseUintB 64 (labD false d) = .ok d := pOk_is hd
      rw [h2] at ha
      cases ha; rfl
    · rcases hw with rfl | rfl
      · exact Below.refl _ _
      · exact Lib.bytesWorld_below _ _ _
  | range =>
    obtain ⟨ev, h1, h2⟩ := eranN_cell hC
    refine (Tryz.strconv_ParseUint_10_at64_range ⟨l.toArray⟩ hsz (by simpa using ha) ev w h1 h2).mono ?_
    rintro e w' ⟨N, rfl, _, _, hb⟩
    exact ⟨18446744073709551615, _, rfl, by decide, fun d hd hld => (by subst hld; rw [show Lib.parseUintB 64 (labD false d) = .ok d from pOk_is hd] at ha; cases ha), hb⟩
  | _ =>
    obtain ⟨ev, h1, h2⟩ := esynN_cell hC
    refine (Any.strconv_ParseUint_10_at64_syntax Tryz.laysPu14 ⟨l.toArray⟩ hsz (by simpa using ha) ev w h1 h2).mono ?_
    rintro e w' ⟨N, rfl, _, _, hb⟩
    exact ⟨0, _, rfl, by decide, fun d hd hld => (by subst hld; rw [show Lib.parseUintB 64 (labD false d) = .ok d from pOk_is hd] at ha; cases ha), hb⟩
end Go.Proofs.YthjhokicojgpbaaGreatDoor
