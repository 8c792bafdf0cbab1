/- The reference's order of names; names out of a stream. -/
import Derived.Test.YtmfflcemceonhaaDoorKfDcD
namespace Go.Proofs.YtmfflcemceonhaaDoor
open Go.RowKit
set_option linter.unusedVariables false
set_option linter.unusedSimpArgs false

set_option maxHeartbeats 2000000 in
theorem nameOrder_any (a b : List UInt8) (w : World) (hC : Cons w) (ha : a.length ≤ 100000) (hb : b.length ≤ 100000) :
    Calls Tryd.prog 12 #[.string ⟨a.toArray⟩, .string ⟨b.toArray⟩] w (GivesV (.int .i64 (cmpLs (backs a) (backs b))) w) := by
  have HX := Lib.hid (fun W (hW : Below w.heap.size w W) => splitOwn_any a W (hC.below hW) ha)
  have HY := Lib.hid (fun W (hW : Below w.heap.size w W) => splitOwn_any b W (hC.below hW) hb)
  have hla := pieces_len a 46
  have hlb := pieces_len b 46
  have hna := pieces_ne a 46
  have hnb := pieces_ne b 46
  unfold backs
  generalize pieces a 46 = xs at *
  generalize pieces b 46 = ys at *
  have hlx := Lib.hid (show xs.reverse.length = xs.length from List.length_reverse)
  have hly := Lib.hid (show ys.reverse.length = ys.length from List.length_reverse)
  have HR1 := Lib.hid (fun B A cap W (h : OwnE eStr 9 B W (.slice A xs.length cap) xs) hB => revS_any B A cap xs W h hB hna (by omega))
  have HR2 := Lib.hid (fun B A cap W (h : OwnE eStr 9 B W (.slice A ys.length cap) ys) hB => revS_any B A cap ys W h hB hnb (by omega))
  have HC := Lib.hid (fun A B ca cb W (h1 : SlE eStr W A xs.length ca xs.reverse) (h2 : SlE eStr W B ys.length cb ys.reverse) => compareLs_any _ A B _ _ ca cb xs.reverse ys.reverse W h1 h2 (by omega) (by omega) rfl)
  generalize cmpLs xs.reverse ys.reverse = r at *
  clear hla hlb hna hnb hC
  go_enter Tryd.func12, Tryd.ntmps12
  go_wp2_with fail
  refine (HX.out _ (Below.refl _ _)).mono ?_
  rintro e w4 ⟨⟨A1, c1, rfl, ho1⟩, hbw⟩
  obtain ⟨n1, hn1⟩ : ∃ n, n = xs.length := ⟨_, rfl⟩
  rw [← hn1] at ho1 HC HR1 hlx ⊢
  replace hn1 := Lib.hid hn1
  clear HX
  go_wp2_with fail
  refine (HY.out _ hbw).mono ?_
  rintro e w5 ⟨⟨A2, c2, rfl, ho2⟩, hb2⟩
  have hz4 := hbw.size
  have hz5 := hb2.size
  have hlt1 := ho1.lt
  have hlt2 := fun k hk => (ho2.lt k hk).1
  have hne : ∀ k, (Value.slice A2 ys.length c2).ownBlock = some k → (Value.slice A1 n1 c1).ownBlock ≠ some k := fun k h2 h1 => by
    have := hlt2 k h2
    have := (hlt1 k h1).2
    omega
  replace hbw := hbw.trans (hb2.mono hbw.size)
  replace ho1 := ho1.below hb2
  obtain ⟨n2, hn2⟩ : ∃ n, n = ys.length := ⟨_, rfl⟩
  rw [← hn2] at ho2 HC HR2 hly hlt2 hne ⊢
  replace hn2 := Lib.hid hn2
  replace hlt1 := Lib.hid hlt1
  replace hlt2 := Lib.hid hlt2
  replace hne := Lib.hid hne
  clear HY hb2
  go_wp2_with fail
  refine (HR1.out _ _ _ w5 ho1 (by omega)).mono ?_
  rintro e w6 ⟨rfl, hr1, hg⟩
  replace ho2 := ho2.gb hg (by
    cases hv : (Value.slice A2 n2 c2).ownBlock with
    | none => exact .inl rfl
    | some k => exact .inr (fun e => hne.out k hv e.symm))
  replace hbw := hbw.grown hg hbw.size (fun k h => (hlt1.out k h).1)
  have hz6 := hg.size
  clear hg ho1 HR1
  go_wp2_with fail
  refine (HR2.out _ _ _ w6 ho2 (by omega)).mono ?_
  rintro e w7 ⟨rfl, hr2, hg⟩
  replace hr1 := hr1.gb hg (by
    cases hv : (Value.slice A1 n1 c1).ownBlock with
    | none => exact .inl rfl
    | some k => exact .inr (fun e => hne.out k e.symm hv))
  replace hbw := hbw.grown hg hbw.size (fun k h => by have := hlt2.out k h; omega)
  clear hg ho2 HR2
  obtain ⟨B1, d1, hv1, hs1⟩ := hr1.sl
  obtain ⟨B2, d2, hv2, hs2⟩ := hr2.sl
  rw [hlx.out] at hv1 hs1
  rw [hly.out] at hv2 hs2
  cases hv1
  cases hv2
  clear hr1 hr2
  go_wp2_with fail
  refine (HC.out _ _ _ _ w7 hs1 hs2).mono ?_
  rintro e w8 ⟨rfl, rfl⟩
  go_wp2_with fail
  go_ret
  exact ⟨rfl, hbw⟩

/-- A string of at most m bytes. -/
def isStrD (m : Nat) : Value → Bool
  | .string b => decide (b.size ≤ m)
  | _ => false
theorem isStrD_get {m : Nat} {v : Value} (h : isStrD m v = true) : ∃ l : List UInt8, l.length ≤ m ∧ v = .string ⟨l.toArray⟩ := by
  cases v with
  | string b => exact ⟨b.data.toList, by unfold isStrD at h; simpa using h, by rw [ba_back]⟩
  | _ => cases h
/-- A step of the stream b: a string of at most m bytes. -/
def StDPost (m b R : Nat) (w : World) (e : Ending) (w' : World) : Prop :=
  ∃ l : List UInt8, l.length ≤ m ∧ e = .returned (.string ⟨l.toArray⟩) ∧ Str w' b R ∧ w.grownBy w' (some b)

set_option maxHeartbeats 400000 in
theorem someD_any (w : World) (b R p cap n m : Nat) (vs : List Value) (t : TypeId) (hs : Str w b (R + 1)) (hb : b < p) (hB : Blk w p vs t) (hn : n = vs.length) (h1 : 1 ≤ vs.length) (h2 : vs.length ≤ 1000) (hP : vs.all (isStrD m) = true) :
    Calls Tryd.prog 14 #[.pointer (some ⟨b, 0, none⟩), .slice (some ⟨p, 0, none⟩) n cap] w (StDPost m b R w) := by
  subst hn
  go_enter Tryd.func14, Tryd.ntmps14
  go_wp2_with fail
  refine (next_any _ _ _ _ (by omega) (by omega) hs).mono ?_
  rintro e w' ⟨r, ⟨hr1, hr2⟩, rfl, hs', hg⟩
  obtain ⟨i, rfl⟩ := Int.eq_ofNat_of_zero_le hr1
  have hi : i < vs.length := by omega
  have hc := (hB.gb hg hb).cell (i := i) (v := vs[i]) (List.getElem?_eq_getElem hi)
  obtain ⟨l, hl, hv⟩ := isStrD_get (List.all_eq_true.1 hP _ (List.getElem_mem hi))
  rw [hv] at hc
  clear hP hB hv
  go_wp2_with fail
  go_ret
  exact ⟨l, hl, rfl, hs', hg⟩

theorem repeat_len (l : List UInt8) : ∀ c : Nat, (Lib.repeatL l c).length = l.length * c
  | 0 => by rw [Lib.repeatL]; simp
  | c + 1 => by rw [Lib.repeatL, List.length_append, repeat_len l c, Nat.mul_succ, Nat.add_comm]
theorem repD_any (l : List UInt8) (c : Nat) (w : World) (hl : l.length ≤ 10) (hc : c ≤ 100) : Calls Tryd.prog 15 #[.string ⟨l.toArray⟩, .int .i64 c] w fun e w' => (∃ t : List UInt8, t.length = l.length * c ∧ e = .returned (.string ⟨t.toArray⟩)) ∧ Below w.heap.size w w' := by
  have hm : l.length * c ≤ 10 * 100 := Nat.mul_le_mul hl hc
  refine (Tryd.strings_Repeat ⟨l.toArray⟩ c w (by omega) (by rw [Lib.size_eq]; show l.length * c ≤ _; omega)).mono ?_
  rintro e w' ⟨rfl, hb⟩
  exact ⟨⟨_, repeat_len _ _, rfl⟩, hb⟩

set_option maxHeartbeats 1000000 in
set_option maxRecDepth 100000 in
theorem domain_any (w : World) (b R : Nat) (hs : Str w b (R + 2)) :
    Calls Tryd.prog 4 #[.pointer (some ⟨b, 0, none⟩)] w (StDPost 300 b R w) := by
  go_enter Tryd.func4, Tryd.ntmps4
  go_wp2_with fail
  refine (flip_any 12 _ b (R + 1) (by omega) (by omega) hs).mono ?_
  rintro e w1 ⟨rf, rfl, hs1, hg1⟩
  have hbl := hs1.lt
  cases rf
  · go_wp2_with fail
    refine (someD_any _ b R _ _ _ 300 [.string ⟨#[110, 101, 116, 46, 120]⟩, .string ⟨#[97, 46, 110, 101, 116, 46, 120]⟩, .string ⟨#[98, 46, 110, 101, 116, 46, 120]⟩, .string ⟨#[99, 46, 110, 101, 116, 46, 120]⟩, .string ⟨#[97, 46, 98, 46, 110, 101, 116, 46, 120]⟩, .string ⟨#[108, 97, 98, 46, 110, 101, 116, 46, 120]⟩, .string ⟨#[113, 46, 108, 97, 98, 46, 110, 101, 116, 46, 120]⟩, .string ⟨#[120]⟩, .string ⟨#[97, 110, 101, 116, 46, 120]⟩, .string ⟨#[111, 116, 104, 101, 114]⟩, .string ⟨#[97]⟩, .string ⟨#[98]⟩] 9 (hs1.alloc _) hbl (Blk.new w1 _ _) rfl (by decide) (by decide) (by decide)).mono ?_
    rintro e w2 ⟨l, hl, rfl, hs2, hg2⟩
    go_wp2_with fail
    go_ret
    exact ⟨l, hl, rfl, hs2, gb_trans (gb_alloc hg1 _) hg2⟩
  · go_wp2_with fail
    refine (repD_any [97] 64 w1 (by decide) (by decide)).mono ?_
    rintro e w2 ⟨⟨t1, ht1, rfl⟩, hb2⟩
    go_wp2_with fail
    refine (repD_any [97, 98, 99, 46] 63 w2 (by decide) (by decide)).mono ?_
    rintro e w3 ⟨⟨t2, ht2, rfl⟩, hb3⟩
    go_wp2_with fail
    refine (repD_any [97, 98, 99, 46] 63 w3 (by decide) (by decide)).mono ?_
    rintro e w4 ⟨⟨t3, ht3, rfl⟩, hb4⟩
    have hbw := (hb2.trans (hb3.mono hb2.size)).trans (hb4.mono (by have := hb2.size; have := hb3.size; omega))
    have hs4 := hs1.below hbw
    have hg4 := gb_below hg1 hbw
    clear hb2 hb3 hb4 hs1
    replace ht1 : t1.length = 64 := ht1
    replace ht2 : t2.length = 252 := ht2
    replace ht3 : t3.length = 252 := ht3
    go_wp2_with fail
    refine (someD_any _ b R _ _ _ 300 [.string ⟨#[]⟩, .string ⟨#[46]⟩, .string ⟨#[97, 46, 46, 98]⟩, .string ⟨#[45, 97]⟩, .string ⟨#[65, 46, 98]⟩, .string ⟨#[97, 95, 98]⟩, .string ⟨#[95, 120, 46, 121]⟩, .string ⟨t1.toArray⟩, .string (⟨t2.toArray⟩ ++ ⟨#[120]⟩), .string (⟨t3.toArray⟩ ++ ⟨#[120, 121]⟩), .string ⟨#[97, 46]⟩] 9 (hs4.alloc _) hs4.lt (Blk.new w4 _ _) rfl (by simp) (by simp) ?_).mono ?_
    · simp [isStrD, ht1, ht2, ht3]
      simp only [ByteArray.size, List.size_toArray, ht1, ht2, ht3]
      decide
    · rintro e w2 ⟨l, hl, rfl, hs2, hg2⟩
      go_wp2_with fail
      go_ret
      exact ⟨l, hl, rfl, hs2, gb_trans (gb_alloc hg4 _) hg2⟩
end Go.Proofs.YtmfflcemceonhaaDoor
