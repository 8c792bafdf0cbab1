/- The reference's Number: some number; that of a byte's label. -/
import Derived.Test.YthjhokicojgpbaaGreatDoorKeNmP
import Derived.Test.YthjhokicojgpbaaGreatDoorKePsA
import Derived.Test.YthjhokicojgpbaaGreatDoorKePsF
import Derived.Test.YthjhokicojgpbaaGreatDoorKeDec
import Derived.Shelf.Strings.SlTrimAscii
namespace Go.Proofs.YthjhokicojgpbaaGreatDoor
open Go.RowKit
set_option linter.unusedVariables false
set_option linter.unusedSimpArgs false

theorem dropWhileN_nil {α : Type} (p : α → Bool) : ∀ l : List α, l.dropWhile p = [] ↔ l.all p = true
  | [] => by simp
  | a :: r => by
    rw [List.dropWhile_cons, List.all_cons]
    cases h : p a
    · simp
    · simpa using dropWhileN_nil p r
theorem dropWhileN_head {α : Type} (p : α → Bool) : ∀ (l : List α) (a : α) (r : List α), l.dropWhile p = a :: r → p a = false
  | [], _, _, h => by cases h
  | b :: l, a, r, h => by
    rw [List.dropWhile_cons] at h
    split at h
    · exact dropWhileN_head p l a r h
    · rename_i hb; cases h; simpa using hb
theorem trimSN_nil (l cs : List UInt8) : Lib.trimS l cs = [] ↔ l.all (cs.contains ·) = true := by
  unfold Lib.trimS Lib.trimLeftS
  rw [dropWhileN_nil]
  unfold Lib.trimRightS
  rw [List.all_reverse]
  constructor
  · intro h
    cases hd : l.reverse.dropWhile (cs.contains ·) with
    | nil => rw [dropWhileN_nil, List.all_reverse] at hd; exact hd
    | cons a r =>
      have h1 := dropWhileN_head _ _ _ _ hd
      rw [hd, List.all_cons, h1] at h
      cases h
  · intro h
    have : l.reverse.dropWhile (cs.contains ·) = [] := by rw [dropWhileN_nil, List.all_reverse]; exact h
    rw [this]; rfl

theorem atoiN_some {p : List UInt8} {n : Nat} (h : byteL p = some n) (w : World) (hl : p.length ≤ 100000) :
    Calls Tryz.prog 117 #[.string ⟨p.toArray⟩] w (GivesV (.tuple #[.int .i64 (n : Int), .nilIface]) w) := by
  refine (Tryz.strconv_Atoi_ok ⟨p.toArray⟩ (by rw [Lib.size_eq]; exact Nat.le_trans hl (by decide)) (n : Int) (by simpa using (byte_atoi h).2.1) w).mono ?_
  rintro e w' ⟨rfl, hw⟩
  refine ⟨rfl, ?_⟩
  rcases hw with rfl | ⟨t, rfl⟩
  · exact Below.refl _ _
  · exact Lib.bytesWorld_below _ _ _

theorem itoaN_small (v : Int) (h0 : 0 ≤ v) (h1 : v ≤ 255) (w : World) (htab : Tabs w) :
    Calls Tryz.prog 54 #[.int .i64 v] w (GivesV (.string ⟨(Lib.itoa v).toArray⟩) w) := by
  refine (Tryz.strconv_Itoa v (by omega) (by omega) w htab.2.1).mono ?_
  rintro e w' ⟨rfl, k, os, rfl⟩
  exact ⟨rfl, Lib.below_grow _ _ (Nat.le_refl _) k os⟩

def tens : List UInt8 := [48, 49, 50, 51, 52, 53, 54, 55, 56, 57]
theorem tens_nil (l : List UInt8) : (Lib.trimS l tens).isEmpty = l.all (tens.contains ·) := by
  have h := trimSN_nil l tens
  cases hb : l.all (tens.contains ·)
  · rw [hb] at h
    cases ht : Lib.trimS l tens with
    | nil => cases h.1 ht
    | cons _ _ => rfl
  · rw [h.2 hb]; rfl

set_option maxHeartbeats 1000000 in
set_option maxRecDepth 100000 in
theorem only10_any (l : List UInt8) (w : World) (hl : l.length ≤ 100000) :
    Calls Tryz.prog 116 #[.string ⟨l.toArray⟩, .string ⟨#[48, 49, 50, 51, 52, 53, 54, 55, 56, 57]⟩] w (GivesV (.bool (l.all (tens.contains ·))) w) := by
  have HT : Hid (Calls Tryz.prog 113 #[.string ⟨l.toArray⟩, .string ⟨#[48, 49, 50, 51, 52, 53, 54, 55, 56, 57]⟩] w fun e w' => e = .returned (.string ⟨(Lib.trimS l tens).toArray⟩) ∧ Below w.heap.size w w') := Lib.hid (
    Any.strings_Trim_laid Tryz.lays160 (by kernel_rfl) ⟨l.toArray⟩ ⟨#[48, 49, 50, 51, 52, 53, 54, 55, 56, 57]⟩ w (by rw [Lib.size_eq]; exact Nat.le_trans hl (by decide)) (by decide) (ascii_of_all (by decide)))
  have HN := Lib.hid (tens_nil l)
  go_enter Tryz.func116, Tryz.ntmps116
  go_wp2_with fail
  refine HT.out.mono ?_
  rintro e w1 ⟨rfl, hb⟩
  go_wp2_with fail
  go_ret
  exact ⟨ret_eq (congrArg Value.bool HN.out), hb⟩

theorem atoi_le {l : List UInt8} {v : Int} (h : Lib.atoiAll l = .ok v) : -9223372036854775808 ≤ v ∧ v ≤ 9223372036854775807 := by
  cases l with
  | nil => cases h
  | cons c r =>
    simp only [Lib.atoiAll] at h
    generalize Lib.parseMag (if c.toNat = 43 ∨ c.toNat = 45 then r else c :: r) = m at h
    cases m with
    | ok u =>
      simp only at h
      split at h
      · cases h
      · split at h
        · cases h
        · have h' := Lib.NumEnd.ok.inj h
          split at h' <;> omega
    | _ => cases h
theorem atoiN_any (p : List UInt8) (w : World) (hC : Cons w) (hl : p.length ≤ 100000) :
    Calls Tryz.prog 117 #[.string ⟨p.toArray⟩] w fun e w' => ((∃ x T q, e = .returned (.tuple #[.int .i64 x, .iface T q])) ∨ (∃ v : Int, e = .returned (.tuple #[.int .i64 v, .nilIface]) ∧ -9223372036854775808 ≤ v ∧ v ≤ 9223372036854775807)) ∧ Below w.heap.size w w' := by
  have hsz : (⟨p.toArray⟩ : ByteArray).size ≤ 281474976710656 := by rw [Lib.size_eq]; exact Nat.le_trans hl (by decide)
  cases ha : Lib.atoiAll p with
  | ok v =>
    refine (Tryz.strconv_Atoi_ok ⟨p.toArray⟩ (by rw [Lib.size_eq]; exact Nat.le_trans hl (by decide)) v (by simpa using ha) w).mono ?_
    rintro e w' ⟨rfl, hw⟩
    refine ⟨.inr ⟨v, rfl, atoi_le ha⟩, ?_⟩
    rcases hw with rfl | ⟨t, rfl⟩
    · exact Below.refl _ _
    · exact Lib.bytesWorld_below _ _ _
  | range =>
    obtain ⟨ev, h1, h2⟩ := eranN_cell hC
    refine (Tryz.strconv_Atoi_range ⟨p.toArray⟩ hsz (by simpa using ha) ev w h1 h2).mono ?_
    rintro e w' ⟨N, rfl, _, _, hb⟩
    exact ⟨.inl ⟨_, _, _, rfl⟩, hb⟩
  | _ =>
    obtain ⟨ev, h1, h2⟩ := esynN_cell hC
    refine (Any.strconv_Atoi_syntax Tryz.laysC172 ⟨p.toArray⟩ hsz (by simpa using ha) ev w h1 h2).mono ?_
    rintro e w' ⟨N, rfl, _, _, hb⟩
    exact ⟨.inl ⟨_, _, _, rfl⟩, hb⟩
def decT (d : Nat) : Bool := (Lib.trimPrefix (dec3 d) [45] == dec3 d) && (dec3 d).all (tens.contains ·) && decide (1 ≤ (dec3 d).length) && decide ((dec3 d).length ≤ 3)
set_option maxRecDepth 100000 in
theorem decT_all : ∀ d, d < 256 → decT d = true := by decide
theorem decT_is {d : Nat} (h : d < 256) : Lib.trimPrefix (dec3 d) [45] = dec3 d ∧ (dec3 d).all (tens.contains ·) = true ∧ 1 ≤ (dec3 d).length ∧ (dec3 d).length ≤ 3 := by
  have := decT_all d h
  unfold decT at this
  simp only [Bool.and_eq_true, beq_iff_eq, decide_eq_true_eq] at this
  exact ⟨this.1.1.1, this.1.1.2, this.1.2, this.2⟩
def NumRP (l : List UInt8) (w : World) (e : Ending) (w' : World) : Prop := ∃ (x : Int) (b : Bool), e = .returned (.tuple #[.int .i64 x, .bool b]) ∧ (∀ d, d < 256 → l = dec3 d → x = d) ∧ Below w.heap.size w w'

set_option maxHeartbeats 4000000 in
set_option maxRecDepth 100000 in
theorem numberRef_dec (d : Nat) (hd : d < 256) (w : World) (hC : Cons w) : Calls Tryz.prog 60 #[.string ⟨(dec3 d).toArray⟩, .int .i64 3] w (NumRP (dec3 d) w) := by
  obtain ⟨t1, t2, t3, t4⟩ := decT_is hd
  have HTP := fun W => Lib.hid (show Calls Tryz.prog 112 #[.string ⟨(dec3 d).toArray⟩, .string ⟨#[45]⟩] W fun e w' => e = .returned (.string ⟨(dec3 d).toArray⟩) ∧ w' = W from by
    have := Tryz.strings_TrimPrefix ⟨(dec3 d).toArray⟩ ⟨#[45]⟩ W
    rw [show Lib.trimPrefix (⟨(dec3 d).toArray⟩ : ByteArray).data.toList (⟨#[45]⟩ : ByteArray).data.toList = dec3 d from t1] at this
    exact this)
  have HO := fun W => Lib.hid (only10_any (dec3 d) W (by omega))
  rw [t2] at HO
  have HA := fun W => Lib.hid (atoiN_some (byte_dec3 d hd) W (by omega))
  have hit := (byte_atoi (byte_dec3 d hd)).2.2
  have HI := Lib.hid (fun W (hW : Below w.heap.size w W) => (show Calls Tryz.prog 54 #[.int .i64 (d : Int)] W (GivesV (.string ⟨(dec3 d).toArray⟩) W) from by
    have := itoaN_small (d : Int) (by omega) (by omega) W (hC.below hW).tabs
    rw [hit] at this; exact this))
  have hfin := Lib.hid (show ∀ e, e < 256 → dec3 d = dec3 e → (d : Int) = e from fun e he h => by
    have h1 := byte_dec3 d hd
    rw [h, byte_dec3 e he] at h1
    have := Option.some.inj h1; omega)
  obtain ⟨L, hL⟩ : ∃ L, L = dec3 d := ⟨_, rfl⟩
  rw [← hL] at HTP HO HA HI hfin t3 t4 ⊢
  have hLe : (L == []) = false := by
    rw [beq_eq_false_iff_ne]; intro e; rw [e] at t3; exact absurd t3 (by decide)
  have hLne : L ≠ [] := by intro e; rw [e] at t3; exact absurd t3 (by decide)
  have t4' : ¬ (3 : Int) < L.length := by omega
  clear hL t1 t2 hit hC hd
  go_enter Tryz.func60, Tryz.ntmps60
  go_wp2_with fail
  refine (HTP _).out.mono ?_
  rintro e w1 ⟨rfl, rfl⟩
  go_wp2_with fail
  refine (HO _).out.mono ?_
  rintro e w2 ⟨rfl, hb⟩
  have hbw := hb
  clear hb
  go_wp2_with fail
  refine (HA _).out.mono ?_
  rintro e w3 ⟨rfl, hb⟩
  replace hbw := hbw.trans (hb.mono hbw.size)
  clear hb
  go_wp2_with fail
  refine (HI.out _ hbw).mono ?_
  rintro e w4 ⟨rfl, hb⟩
  replace hbw := hbw.trans (hb.mono hbw.size)
  clear hb
  go_wp2_with fail
  go_ret2
  exact ⟨_, _, rfl, hfin.out, hbw⟩

set_option maxHeartbeats 4000000 in
set_option maxRecDepth 100000 in
theorem numberRef_odd (l : List UInt8) (hno : ∀ (x : Int) d, d < 256 → l = dec3 d → x = d) (w : World) (hC : Cons w) (hl : l.length ≤ 100000) : Calls Tryz.prog 60 #[.string ⟨l.toArray⟩, .int .i64 3] w (NumRP l w) := by
  have HTP := fun W => Lib.hid (show Calls Tryz.prog 112 #[.string ⟨l.toArray⟩, .string ⟨#[45]⟩] W fun e w' => e = .returned (.string ⟨(Lib.trimPrefix l [45]).toArray⟩) ∧ w' = W from Tryz.strings_TrimPrefix ⟨l.toArray⟩ ⟨#[45]⟩ W)
  have hTl : (Lib.trimPrefix l [45]).length ≤ 100000 := Nat.le_trans (Lib.trimPrefix_le _ _) hl
  obtain ⟨T, hT⟩ : ∃ T, T = Lib.trimPrefix l [45] := ⟨_, rfl⟩
  rw [← hT] at HTP hTl
  have HO := fun W => Lib.hid (only10_any T W hTl)
  obtain ⟨b, hb⟩ : ∃ b, b = T.all (tens.contains ·) := ⟨_, rfl⟩
  rw [← hb] at HO
  have HA := Lib.hid (fun W (hW : Below w.heap.size w W) => atoiN_any l W (hC.below hW) hl)
  have HI := Lib.hid (fun (v : Int) W (h1 : -9223372036854775808 ≤ v) (h2 : v ≤ 9223372036854775807) (hW : Below w.heap.size w W) => (show Calls Tryz.prog 54 #[.int .i64 v] W (GivesV (.string ⟨(Lib.itoa v).toArray⟩) W) from by
    refine (Tryz.strconv_Itoa v (by omega) (by omega) W (hC.below hW).tabs.2.1).mono ?_
    rintro e w' ⟨rfl, k, os, rfl⟩
    exact ⟨rfl, Lib.below_grow _ _ (Nat.le_refl _) k os⟩))
  replace hno := Lib.hid hno
  have hbw : Below w.heap.size w w := Below.refl _ _
  clear hT hC hl hb hTl
  by_cases hTe : T = []
  · subst hTe
    go_enter Tryz.func60, Tryz.ntmps60
    go_wp2_with fail
    refine (HTP _).out.mono ?_
    rintro e w1 ⟨rfl, rfl⟩
    go_wp2_with fail
    go_ret2
    exact ⟨_, _, rfl, hno.out _, hbw⟩
  · have hLe : (T == []) = false := beq_eq_false_iff_ne.2 hTe
    by_cases h3 : (3 : Int) < T.length
    · go_enter Tryz.func60, Tryz.ntmps60
      go_wp2_with fail
      refine (HTP _).out.mono ?_
      rintro e w1 ⟨rfl, rfl⟩
      go_wp2_with fail
      go_ret2
      exact ⟨_, _, rfl, hno.out _, hbw⟩
    · cases b
      · go_enter Tryz.func60, Tryz.ntmps60
        go_wp2_with fail
        refine (HTP _).out.mono ?_
        rintro e w1 ⟨rfl, rfl⟩
        go_wp2_with fail
        refine (HO _).out.mono ?_
        rintro e w2 ⟨rfl, hb⟩
        replace hbw := hbw.trans (hb.mono hbw.size)
        clear hb
        go_wp2_with fail
        go_ret2
        exact ⟨_, _, rfl, hno.out _, hbw⟩
      · go_enter Tryz.func60, Tryz.ntmps60
        go_wp2_with fail
        refine (HTP _).out.mono ?_
        rintro e w1 ⟨rfl, rfl⟩
        go_wp2_with fail
        refine (HO _).out.mono ?_
        rintro e w2 ⟨rfl, hb⟩
        replace hbw := hbw.trans (hb.mono hbw.size)
        clear hb
        go_wp2_with fail
        refine (HA.out _ hbw).mono ?_
        rintro e w3 ⟨⟨x, ty, q, rfl⟩ | ⟨v, rfl, v1, v2⟩, hb⟩
        · replace hbw := hbw.trans (hb.mono hbw.size)
          clear hb
          go_wp2_with fail
          go_ret2
          exact ⟨_, _, rfl, hno.out _, hbw⟩
        · replace hbw := hbw.trans (hb.mono hbw.size)
          have HI2 := Lib.hid (HI.out v _ v1 v2 hbw)
          clear hb v1 v2
          go_wp2_with fail
          refine HI2.out.mono ?_
          rintro e w4 ⟨rfl, hb⟩
          replace hbw := hbw.trans (hb.mono hbw.size)
          clear hb HI2
          go_wp2_with fail
          go_ret2
          exact ⟨_, _, rfl, hno.out _, hbw⟩
theorem numberRef_any (l : List UInt8) (w : World) (hC : Cons w) (hl : l.length ≤ 100000) : Calls Tryz.prog 60 #[.string ⟨l.toArray⟩, .int .i64 3] w (NumRP l w) := by
  by_cases h : ∃ d, d < 256 ∧ l = dec3 d
  · obtain ⟨d, hd, rfl⟩ := h
    exact numberRef_dec d hd w hC
  · exact numberRef_odd l (fun x d hd he => absurd ⟨d, hd, he⟩ h) w hC hl
end Go.Proofs.YthjhokicojgpbaaGreatDoor
