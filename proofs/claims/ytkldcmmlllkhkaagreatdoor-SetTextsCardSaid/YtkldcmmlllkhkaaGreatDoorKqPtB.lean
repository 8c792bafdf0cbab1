/- ParsePrefix, as the program and as the reference read. -/
import Derived.Test.YtkldcmmlllkhkaaGreatDoorKqGzA
import Derived.Test.YtkldcmmlllkhkaaGreatDoorKqPsR
import Derived.Test.YtkldcmmlllkhkaaGreatDoorKqWideD
import Derived.Test.YtkldcmmlllkhkaaGreatDoorKqSiteB
set_option linter.unusedVariables false
set_option linter.unusedSimpArgs false
set_option maxRecDepth 100000
namespace Go.Proofs.YtkldcmmlllkhkaaGreatDoor
open Go.RowKit

theorem cut_slash {l : List UInt8} (h : (Lib.cut l [47]).2.2 = true) : l = (Lib.cut l [47]).1 ++ 47 :: (Lib.cut l [47]).2.1 := by
  unfold Lib.cut at h ⊢
  split at h
  · rename_i hi
    rcases Lib.index_spec l [47] with ⟨h', _⟩ | ⟨j, h1, _⟩
    · omega
    · rw [if_pos hi, h1]
      have ha := index_at h1
      have hl := (List.getElem?_eq_some_iff.1 ha)
      obtain ⟨hlt, he⟩ := hl
      show l = l.take (j : Int).toNat ++ 47 :: l.drop ((j : Int).toNat + 1)
      rw [Int.toNat_natCast]
      conv => lhs; rw [← List.take_append_drop j l, List.drop_eq_getElem_cons hlt, he]
  · cases h
theorem cut_none {l : List UInt8} (h : (Lib.cut l [47]).2.2 = false) : (Lib.cut l [47]).1 = l ∧ (Lib.cut l [47]).2.1 = [] := by
  unfold Lib.cut at h ⊢
  split <;> simp_all
theorem cut_lenP (l : List UInt8) : (Lib.cut l [47]).1.length ≤ l.length ∧ (Lib.cut l [47]).2.1.length ≤ l.length := by
  unfold Lib.cut
  split <;> simp <;> omega

theorem ba_app (a b : List UInt8) : (⟨a.toArray⟩ : ByteArray) ++ ⟨b.toArray⟩ = ⟨(a ++ b).toArray⟩ := by
  apply ByteArray.ext
  simp [ByteArray.data_append]

def pfxText (s : Bool) (hi lo n : Int) : List UInt8 := adrText s hi lo ++ 47 :: Lib.itoa n

theorem pfF_zeroP {s : Bool} {hi lo n : Int} (h : pfF s hi lo n = 0) : adF s hi lo = 0 ∧ 0 ≤ n ∧ n ≤ 128 := by
  unfold pfF at h
  by_cases ha : adF s hi lo = 0
  · rw [if_neg (by simpa using ha)] at h
    by_cases hb : inB n 0 (lenZ s) = false
    · rw [if_pos hb] at h; cases h
    · refine ⟨ha, ?_⟩
      have hl : lenZ s ≤ 128 := by cases s <;> decide
      have : inB n 0 (lenZ s) = true := by simpa using hb
      unfold inB at this
      have := of_decide_eq_true this
      omega
  · rw [if_pos ha] at h; cases h

def prefixL (l : List UInt8) : Option (Bool × Nat × Nat × Nat) := match parseL (Lib.cut l [47]).1 with
  | some (s, h, lo) => match byteL (Lib.cut l [47]).2.1 with
    | some n => if pfF s (h : Int) (lo : Int) (n : Int) = 0 then some (s, h, lo, n) else none
    | none => none
  | none => none
def pfEP : Option (Bool × Nat × Nat × Nat) → Value
  | some (s, h, lo, n) => .tuple #[.agg #[.bool s, .int .u64 (h : Int), .int .u64 (lo : Int), .int .i64 (n : Int)], .int .i64 0]
  | none => .tuple #[.agg #[.bool false, .int .u64 0, .int .u64 0, .int .i64 0], .int .i64 9]
theorem pfE_none {o : Option (Bool × Nat × Nat × Nat)} (h : o = none) : Ending.returned (.tuple #[.agg #[.bool false, .int .u64 0, .int .u64 0, .int .i64 0], .int .i64 9]) = .returned (pfEP o) := by rw [h]; rfl
theorem pfE_some {o : Option (Bool × Nat × Nat × Nat)} {s : Bool} {h lo n : Nat} (e : o = some (s, h, lo, n)) : Ending.returned (.tuple #[.agg #[.bool s, .int .u64 (h : Int), .int .u64 (lo : Int), .int .i64 (n : Int)], .int .i64 0]) = .returned (pfEP o) := by rw [e]; rfl

theorem parseL_some {l : List UInt8} {s : Bool} {h lo : Nat} (e : parseL l = some (s, h, lo)) : looseL l = some (s, h, lo) ∧ adrText s (h : Int) (lo : Int) = l := by
  unfold parseL at e
  cases hl : looseL l with
  | none => rw [hl] at e; cases e
  | some x =>
    obtain ⟨a, b, c⟩ := x
    rw [hl] at e
    simp only at e
    by_cases ht : adrText a (b : Int) (c : Int) = l
    · rw [if_pos ht] at e; cases e; exact ⟨rfl, ht⟩
    · rw [if_neg ht] at e; cases e
theorem parseL_lt {l : List UInt8} {s : Bool} {h lo : Nat} (e : parseL l = some (s, h, lo)) : h < 18446744073709551616 ∧ lo < 18446744073709551616 := looseL_lt (parseL_some e).1

theorem numL_byte {l : List UInt8} : byteL l = match numL l with
    | some n => if n ≤ 255 then some n else none
    | none => none := rfl
theorem prefixL_bad {l : List UInt8} (h : parseL (Lib.cut l [47]).1 = none) : prefixL l = none := by unfold prefixL; rw [h]
theorem prefixL_num {l : List UInt8} (h : numL (Lib.cut l [47]).2.1 = none) : prefixL l = none := by
  unfold prefixL
  cases parseL (Lib.cut l [47]).1 with
  | none => rfl
  | some x => rw [numL_byte, h]
theorem prefixL_check {l : List UInt8} {s : Bool} {h lo n : Nat} (e : parseL (Lib.cut l [47]).1 = some (s, h, lo)) (k : numL (Lib.cut l [47]).2.1 = some n) :
    prefixL l = if pfF s (h : Int) (lo : Int) (n : Int) = 0 then some (s, h, lo, n) else none := by
  unfold prefixL
  rw [e, numL_byte, k]
  by_cases hn : n ≤ 255
  · simp only [if_pos hn]
  · simp only [if_neg hn]
    rw [if_neg]
    intro h0
    have := pfF_zeroP h0
    omega
theorem prefixL_byte {l : List UInt8} {s : Bool} {h lo n : Nat} (e : parseL (Lib.cut l [47]).1 = some (s, h, lo)) (k : byteL (Lib.cut l [47]).2.1 = some n) :
    prefixL l = (if pfF s (h : Int) (lo : Int) (n : Int) = 0 then some (s, h, lo, n) else none) ∧ pfxText s (h : Int) (lo : Int) (n : Int) = l := by
  constructor
  · unfold prefixL
    rw [e, k]
  · have h1 := (parseL_some e).2
    have h2 := (byte_atoi k).2.2
    cases hc : (Lib.cut l [47]).2.2 with
    | true => unfold pfxText; rw [h1, h2]; exact (cut_slash hc).symm
    | false =>
      rw [(cut_none hc).2] at k
      have k0 : byteL [] = none := rfl
      rw [k0] at k
      cases k
theorem prefixL_nob {l : List UInt8} (k : byteL (Lib.cut l [47]).2.1 = none) : prefixL l = none := by
  unfold prefixL
  cases parseL (Lib.cut l [47]).1 with
  | none => rfl
  | some x => rw [k]
theorem pfxText_not {l : List UInt8} {s : Bool} {h lo : Nat} {v : Int} (e : parseL (Lib.cut l [47]).1 = some (s, h, lo)) (hv : Lib.itoa v ≠ (Lib.cut l [47]).2.1) : pfxText s (h : Int) (lo : Int) v ≠ l := by
  intro ht
  have h1 := (parseL_some e).2
  cases hc : (Lib.cut l [47]).2.2 with
  | true =>
    have hl := cut_slash hc
    unfold pfxText at ht
    rw [h1] at ht
    have ht' : (Lib.cut l [47]).1 ++ 47 :: Lib.itoa v = (Lib.cut l [47]).1 ++ 47 :: (Lib.cut l [47]).2.1 := ht.trans hl
    exact hv (List.cons.inj (List.append_cancel_left ht')).2
  | false =>
    have hl := (cut_none hc).1
    unfold pfxText at ht
    rw [h1, hl] at ht
    have := congrArg List.length ht
    simp at this

theorem itoa_len (v : Int) (h0 : 0 ≤ v) (h1 : v ≤ 255) : (Lib.itoa v).length ≤ 3 := by
  obtain ⟨n, rfl⟩ := Int.eq_ofNat_of_zero_le h0
  have hn : n < 256 := by omega
  have := (byte_atoi (byte_dec3 n hn)).2.2
  rw [this]
  unfold dec3
  (repeat' split) <;> simp

set_option maxHeartbeats 2000000 in
theorem prefixLine_any (s : Bool) (hi lo n : Int) (w : World) (htab : Tabs w) (h1 : 0 ≤ hi) (h2 : hi < 18446744073709551616) (h3 : 0 ≤ lo) (h4 : lo < 18446744073709551616) (hF : adF s hi lo = 0) (hn1 : 0 ≤ n) (hn2 : n ≤ 128) :
    Calls Tryz.prog 23 #[.agg #[.bool s, .int .u64 hi, .int .u64 lo, .int .i64 n]] w (GivesV (.string ⟨(pfxText s hi lo n).toArray⟩) w) := by
  have hB := Lib.hid (Blk.new w [.bool s, .int .u64 hi, .int .u64 lo, .int .i64 n] 41)
  have hb : Hid (Below w.heap.size w (w.alloc (.cells #[.bool s, .int .u64 hi, .int .u64 lo, .int .i64 n] 41))) := Lib.hid ((Below.refl _ _).alloc (Nat.le_refl _) _)
  have HX := fun w1 (h : Below w.heap.size w w1) => Lib.hid (addrTextR_any s hi lo w1 (htab.below h) h1 h2 h3 h4 hF)
  have HI := fun w1 (h : Below w.heap.size w w1) => Lib.hid (itoa_small n hn1 (by omega) w1 (htab.below h))
  have l1 := adrText_len s hi lo
  have l2 := itoa_len n hn1 (by omega)
  have HT : Hid ((⟨(pfxText s hi lo n).toArray⟩ : ByteArray) = (⟨(adrText s hi lo).toArray⟩ ++ ⟨#[47]⟩) ++ ⟨(Lib.itoa n).toArray⟩) := Lib.hid (by
    have e : (⟨#[47]⟩ : ByteArray) = ⟨[47].toArray⟩ := rfl
    rw [e, ba_app, ba_app]
    unfold pfxText
    rw [List.append_assoc]
    rfl)
  clear htab h1 h2 h3 h4 hF
  generalize adrText s hi lo = T at *
  generalize Lib.itoa n = I at *
  generalize pfxText s hi lo n = F at *
  have s1 : ¬ 9223372036854775807 < T.length + 1 := by omega
  have s2 : ¬ 9223372036854775807 < T.length + 1 + I.length := by omega
  go_enter Tryz.func23, Tryz.ntmps23
  go_wp2_with fail
  refine wx_begin (none) [] (by kernel_rfl) (fun u0 hb0' hz0' => ?_)
  replace hB := Lib.hid (Blk.below hB.out hb0')
  replace hb := Lib.hid (hb.out.trans (hb0'.mono hb.out.size))
  clear hb0' hz0'
  refine wx_pureZ 0 (some 3) (v := ?_) ?_ ?_; rotate_left; · (intro u; go_simp; try with_reducible rfl)
  try simp only [Act.put, gzD, gzE, gzF]
  refine wx_takeZ 1 (some 4) (v := ?_) ?_ ?_; rotate_left; · (intro u hu; obtain ⟨c0, c1, c2, c3, _⟩ := (Blk.gn hB.out hu).four; go_simp; try with_reducible rfl)
  try simp only [Act.put, gzD, gzE, gzF]
  refine wx_pureZ 4 (some 7) (v := ?_) ?_ ?_; rotate_left; · (intro u; go_simp; try with_reducible rfl)
  try simp only [Act.put, gzD, gzE, gzF]
  refine wx_takeZ 5 (some 8) (v := ?_) ?_ ?_; rotate_left; · (intro u hu; obtain ⟨c0, c1, c2, c3, _⟩ := (Blk.gn hB.out hu).four; go_simp; try with_reducible rfl)
  try simp only [Act.put, gzD, gzE, gzF]
  refine wx_oneZ 2 (fun K hK => ?_)
  go_simp
  refine (HX _ hb.out).out.mono ?_
  rintro e u2 ⟨rfl, hv2⟩
  refine hK.out _ _ (gbB hv2) ?_
  replace hB := Lib.hid (Blk.below hB.out hv2)
  replace hb := Lib.hid (hb.out.trans (hv2.mono hb.out.size))
  clear hK K hv2
  try simp only [Act.put, gzD, gzE, gzF]
  refine wx_pureZ 3 (some 6) (v := ?_) ?_ ?_; rotate_left; · (intro u; go_simp; try with_reducible rfl)
  try simp only [Act.put, gzD, gzE, gzF]
  refine wx_oneZ 6 (fun K hK => ?_)
  go_simp
  refine (HI _ hb.out).out.mono ?_
  rintro e u6 ⟨rfl, hv6⟩
  refine hK.out _ _ (gbB hv6) ?_
  replace hB := Lib.hid (Blk.below hB.out hv6)
  replace hb := Lib.hid (hb.out.trans (hv6.mono hb.out.size))
  clear hK K hv6
  try simp only [Act.put, gzD, gzE, gzF]
  refine wx_pureZ 7 (some 10) (v := ?_) ?_ ?_; rotate_left; · (intro u; go_simp; try with_reducible rfl)
  try simp only [Act.put, gzD, gzE, gzF]
  refine wx_pureZ 8 (some 2) (v := ?_) ?_ ?_; rotate_left; · (intro u; go_simp; try with_reducible rfl)
  try simp only [Act.put, gzD, gzE, gzF]
  refine wx_done (by kernel_rfl) ?_ _
  go_wp2_with fail
  go_ret
  exact ⟨by rw [HT.out]; rfl, hb.out⟩

set_option maxHeartbeats 2000000 in
theorem prefixText_ok (s : Bool) (hi lo n : Int) (w : World) (htab : Tabs w) (h1 : 0 ≤ hi) (h2 : hi < 18446744073709551616) (h3 : 0 ≤ lo) (h4 : lo < 18446744073709551616) (hP : pfF s hi lo n = 0) :
    Calls Tryz.prog 19 #[.agg #[.bool s, .int .u64 hi, .int .u64 lo, .int .i64 n]] w (GivesV (.tuple #[.string ⟨(pfxText s hi lo n).toArray⟩, .int .i64 0]) w) := by
  obtain ⟨hF, hn1, hn2⟩ := pfF_zeroP hP
  have hB := Blk.new w [.bool s, .int .u64 hi, .int .u64 lo, .int .i64 n] 41
  have hb : Below w.heap.size w (w.alloc (.cells #[.bool s, .int .u64 hi, .int .u64 lo, .int .i64 n] 41)) := (Below.refl _ _).alloc (Nat.le_refl _) _
  have HC := Lib.hid (fun w' => checkPrefix_any s hi lo n w' h1 h2 h3 h4)
  have HX := fun w1 (h : Below w.heap.size w w1) => Lib.hid (text_any s hi lo w1 (htab.below h) h1 h2 h3 h4)
  have HI := fun w1 (h : Below w.heap.size w w1) => Lib.hid (itoa_small n hn1 (by omega) w1 (htab.below h))
  rw [hP] at HC
  rw [hF] at HX
  have l1 := adrText_len s hi lo
  have l2 := itoa_len n hn1 (by omega)
  have HT : Hid ((⟨(pfxText s hi lo n).toArray⟩ : ByteArray) = (⟨(adrText s hi lo).toArray⟩ ++ ⟨#[47]⟩) ++ ⟨(Lib.itoa n).toArray⟩) := Lib.hid (by
    have e : (⟨#[47]⟩ : ByteArray) = ⟨[47].toArray⟩ := rfl
    rw [e, ba_app, ba_app]
    unfold pfxText
    rw [List.append_assoc]
    rfl)
  clear htab h1 h2 h3 h4 hF hP
  generalize adrText s hi lo = T at *
  generalize Lib.itoa n = I at *
  generalize pfxText s hi lo n = F at *
  go_enter Tryz.func19, Tryz.ntmps19
  go_wp2_with fail
  refine (HC.out _).mono ?_
  rintro e w1 ⟨rfl, hb1⟩
  replace hB := hB.below hb1
  replace hb := hb.trans (hb1.mono hb.size)
  obtain ⟨c0, c1, c2, c3, _⟩ := hB.four
  have HX1 := HX _ hb
  clear hb1 HC HX
  go_wp2_with fail
  refine HX1.out.mono ?_
  rintro e w2 ⟨rfl, hb2⟩
  replace hB := hB.below hb2
  replace hb := hb.trans (hb2.mono hb.size)
  have HI1 := HI _ hb
  clear hb2 HX1 HI c0 c1 c2 c3
  obtain ⟨c0, c1, c2, c3, _⟩ := hB.four
  go_wp2_with fail
  refine HI1.out.mono ?_
  rintro e w3 ⟨rfl, hb3⟩
  replace hb := hb.trans (hb3.mono hb.size)
  clear hb3 HI1 c0 c1 c2 c3
  go_wp2_with fail
  go_ret2
  exact ⟨by rw [HT.out]; rfl, hb⟩

theorem cut47_any (l : List UInt8) (w : World) (hC : Cons w) (hl : l.length ≤ 100000) :
    Calls Tryz.prog 56 #[.string ⟨l.toArray⟩, .string ⟨#[47]⟩] w (GivesV (.tuple #[.string ⟨(Lib.cut l [47]).1.toArray⟩, .string ⟨(Lib.cut l [47]).2.1.toArray⟩, .bool (Lib.cut l [47]).2.2]) w) := by
  obtain ⟨m, hm⟩ := hC.maxl
  refine (Tryz.strings_Cut ⟨l.toArray⟩ ⟨#[47]⟩ m w (by rw [Lib.size_eq]; exact Nat.lt_of_le_of_lt hl (by decide)) hm).mono ?_
  rintro e w' ⟨rfl, n, rfl⟩
  exact ⟨rfl, below_drewN (Below.refl _ _) n⟩

theorem below_4 {B p : Nat} {w W : World} (h : Below B w W) (hp : B ≤ p) (x0 x1 x2 x3 : Value) : Below B w ((((W.setCell ⟨p, 0, none⟩ x0).setCell ⟨p, 1, none⟩ x1).setCell ⟨p, 2, none⟩ x2).setCell ⟨p, 3, none⟩ x3) :=
  (((h.setCell hp _).setCell hp _).setCell hp _).setCell hp _

theorem numV_shape (o : Option Nat) : ∃ (z : Int) (q : Bool), numV o = .tuple #[.int .i64 z, .bool q] := by
  cases o with
  | none => exact ⟨_, _, rfl⟩
  | some n => exact ⟨_, _, rfl⟩

theorem atoi_shape (b : List UInt8) (w : World) (hC : Cons w) (hl : b.length ≤ 100000) :
    Calls Tryz.prog 62 #[.string ⟨b.toArray⟩] w fun e w' => (∃ (z : Int) (v : Value), e = .returned (.tuple #[.int .i64 z, v])) ∧ Below w.heap.size w w' := by
  cases hn : byteL b with
  | none =>
    refine (atoi_none hn w hC hl).mono ?_
    rintro e w' ⟨⟨x, T, q, rfl⟩ | ⟨v, rfl, _⟩, hb⟩
    · exact ⟨⟨_, _, rfl⟩, hb⟩
    · exact ⟨⟨_, _, rfl⟩, hb⟩
  | some n =>
    refine (atoi_some hn w hl).mono ?_
    rintro e w' ⟨rfl, hb⟩
    exact ⟨⟨_, _, rfl⟩, hb⟩

set_option maxHeartbeats 4000000 in
theorem parsePrefix_any (l : List UInt8) (w : World) (hC : Cons w) (hl : l.length ≤ 100000) :
    Calls Tryz.prog 27 #[.string ⟨l.toArray⟩] w (GivesV (pfEP (prefixL l)) w) := by
  have hB := Blk.new w [.bool false, .int .u64 0, .int .u64 0, .int .i64 0] 41
  have hb : Below w.heap.size w (w.alloc (.cells #[.bool false, .int .u64 0, .int .u64 0, .int .i64 0] 41)) := (Below.refl _ _).alloc (Nat.le_refl _) _
  have HK := Lib.hid (cut47_any l _ (hC.below hb) hl)
  obtain ⟨hla, hlb⟩ := cut_lenP l
  have HBAD := Lib.hid (@prefixL_bad l)
  have HNUM := Lib.hid (@prefixL_num l)
  have HCHK := Lib.hid (fun s h lo n => @prefixL_check l s h lo n)
  have HBYT := Lib.hid (fun s h lo n => @prefixL_byte l s h lo n)
  have HNOB := Lib.hid (@prefixL_nob l)
  have HNOT := Lib.hid (fun s h lo v => @pfxText_not l s h lo v)
  generalize Lib.cut l [47] = c at *
  obtain ⟨a, b, k⟩ := c
  have HA := fun w1 (h : Below w.heap.size w w1) => Lib.hid (parse_any a w1 (hC.below h) (Nat.le_trans hla hl))
  have HW := fun w1 (h : Below w.heap.size w w1) => Lib.hid (hC.below h)
  have hbl : b.length ≤ 100000 := Nat.le_trans hlb hl
  clear hC hla hlb
  go_enter Tryz.func27, Tryz.ntmps27
  go_wp2_with fail
  refine HK.out.mono ?_
  rintro e w1 ⟨rfl, hb1⟩
  replace hB := hB.below hb1
  replace hb := hb.trans (hb1.mono hb.size)
  have HA1 := HA _ hb
  clear hb1 HK HA
  cases ho : parseL a with
  | none =>
    have HN : Hid (prefixL l = none) := Lib.hid (HBAD.out ho)
    rw [ho] at HA1
    replace HA1 : Hid (Calls Tryz.prog 57 #[.string ⟨a.toArray⟩] w1 (GivesV (.tuple #[.agg #[.bool false, .int .u64 0, .int .u64 0], .int .i64 9]) w1)) := HA1
    clear ho HBAD HNUM HCHK HBYT HNOB HNOT
    go_wp2_with fail
    refine HA1.out.mono ?_
    rintro e w2 ⟨rfl, hb2⟩
    replace hB := (hB.below hb2).alloc (.cells #[.bool false, .int .u64 0, .int .u64 0] 39)
    replace hb := hb.trans (hb2.mono hb.size)
    have hP := Blk.new w2 [.bool false, .int .u64 0, .int .u64 0] 39
    replace hb := hb.alloc hb.size (.cells #[.bool false, .int .u64 0, .int .u64 0] 39)
    clear hb2 HA1
    obtain ⟨z, q, hz⟩ := numV_shape (numL b)
    have HU := Lib.hid (number_any b (w2.alloc (.cells #[.bool false, .int .u64 0, .int .u64 0] 39)) hbl)
    rw [hz] at HU
    go_wp2_with fail
    refine HU.out.mono ?_
    rintro e w3 ⟨rfl, rfl⟩
    obtain ⟨p0, p1, p2, _⟩ := hP.three
    replace hB := hB.alloc (.cells #[.bool false, .int .u64 0, .int .u64 0, .int .i64 z] 41)
    replace hb := hb.alloc hb.size (.cells #[.bool false, .int .u64 0, .int .u64 0, .int .i64 z] 41)
    obtain ⟨u0, u1, u2, u3, f0, f1, f2, f3⟩ := hB.four
    go_wp2_with fail
    refine bodyPost_ret (v := .tuple #[.agg #[.bool false, .int .u64 0, .int .u64 0, .int .i64 0], .int .i64 9]) ?_ rfl ⟨pfE_none HN.out, below_4 hb (Nat.le_refl _) _ _ _ _⟩
    simp [results, Tryz.results27, go_sem, u0, u1, u2, u3]
  | some x =>
    obtain ⟨s, h, lo⟩ := x
    have hlt := parseL_lt ho
    rw [ho] at HA1
    obtain ⟨X, hX⟩ : ∃ X : Int, X = (h : Int) := ⟨_, rfl⟩
    obtain ⟨Y, hY⟩ : ∃ X : Int, X = (lo : Int) := ⟨_, rfl⟩
    replace HA1 : Hid (Calls Tryz.prog 57 #[.string ⟨a.toArray⟩] w1 (GivesV (.tuple #[.agg #[.bool s, .int .u64 X, .int .u64 Y], .int .i64 0]) w1)) := Lib.hid (by rw [hX, hY]; exact HA1.out)
    have x0 : 0 ≤ X := by omega
    have x1 : X < 18446744073709551616 := by omega
    have y0 : 0 ≤ Y := by omega
    have y1 : Y < 18446744073709551616 := by omega
    go_wp2_with fail
    refine HA1.out.mono ?_
    rintro e w2 ⟨rfl, hb2⟩
    replace hB := (hB.below hb2).alloc (.cells #[.bool s, .int .u64 X, .int .u64 Y] 39)
    replace hb := hb.trans (hb2.mono hb.size)
    have hP := Blk.new w2 [.bool s, .int .u64 X, .int .u64 Y] 39
    replace hb := hb.alloc hb.size (.cells #[.bool s, .int .u64 X, .int .u64 Y] 39)
    clear hb2 HA1
    have HU := Lib.hid (number_any b (w2.alloc (.cells #[.bool s, .int .u64 X, .int .u64 Y] 39)) hbl)
    cases hn : numL b with
    | none =>
      have HN : Hid (prefixL l = none) := Lib.hid (HNUM.out hn)
      rw [hn] at HU
      replace HU : Hid (Calls Tryz.prog 58 #[.string ⟨b.toArray⟩, .int .i64 3] (w2.alloc (.cells #[.bool s, .int .u64 X, .int .u64 Y] 39)) fun e w' => e = .returned (.tuple #[.int .i64 0, .bool false]) ∧ w2.alloc (.cells #[.bool s, .int .u64 X, .int .u64 Y] 39) = w') := HU
      clear hn HBAD HNUM HCHK HBYT HNOB HNOT ho hlt hX hY
      go_wp2_with fail
      refine HU.out.mono ?_
      rintro e w3 ⟨rfl, rfl⟩
      obtain ⟨p0, p1, p2, _⟩ := hP.three
      replace hB := hB.alloc (.cells #[.bool s, .int .u64 X, .int .u64 Y, .int .i64 0] 41)
      replace hb := hb.alloc hb.size (.cells #[.bool s, .int .u64 X, .int .u64 Y, .int .i64 0] 41)
      obtain ⟨u0, u1, u2, u3, f0, f1, f2, f3⟩ := hB.four
      go_wp2_with fail
      refine bodyPost_ret (v := .tuple #[.agg #[.bool false, .int .u64 0, .int .u64 0, .int .i64 0], .int .i64 9]) ?_ rfl ⟨pfE_none HN.out, below_4 hb (Nat.le_refl _) _ _ _ _⟩
      simp [results, Tryz.results27, go_sem, u0, u1, u2, u3]
    | some n =>
      obtain ⟨Z, hZ⟩ : ∃ X : Int, X = (n : Int) := ⟨_, rfl⟩
      rw [hn] at HU
      replace HU : Hid (Calls Tryz.prog 58 #[.string ⟨b.toArray⟩, .int .i64 3] (w2.alloc (.cells #[.bool s, .int .u64 X, .int .u64 Y] 39)) fun e w' => e = .returned (.tuple #[.int .i64 Z, .bool true]) ∧ w2.alloc (.cells #[.bool s, .int .u64 X, .int .u64 Y] 39) = w') := Lib.hid (by rw [hZ]; exact HU.out)
      have HQ : Hid (prefixL l = if pfF s X Y Z = 0 then some (s, h, lo, n) else none) := Lib.hid (by rw [hX, hY, hZ]; exact HCHK.out _ _ _ _ ho hn)
      have HV := Lib.hid (fun w' => checkPrefix_any s X Y Z w' x0 x1 y0 y1)
      replace hX := Lib.hid hX
      replace hY := Lib.hid hY
      replace hZ := Lib.hid hZ
      clear hn HBAD HNUM HCHK HBYT HNOB HNOT ho hlt
      obtain ⟨c, hc⟩ : ∃ c, pfF s X Y Z = c := ⟨_, rfl⟩
      rw [hc] at HQ HV
      clear hc
      go_wp2_with fail
      refine HU.out.mono ?_
      rintro e w3 ⟨rfl, rfl⟩
      have hR := Blk.new (w2.alloc (.cells #[.bool s, .int .u64 X, .int .u64 Y] 39)) [.bool s, .int .u64 X, .int .u64 Y, .int .i64 Z] 41
      obtain ⟨p0, p1, p2, _⟩ := hP.three
      replace hB := hB.alloc (.cells #[.bool s, .int .u64 X, .int .u64 Y, .int .i64 Z] 41)
      replace hb := hb.alloc hb.size (.cells #[.bool s, .int .u64 X, .int .u64 Y, .int .i64 Z] 41)
      go_wp2_with fail
      refine (HV.out _).mono ?_
      rintro e w4 ⟨rfl, hb4⟩
      replace hB := hB.below hb4
      replace hR := hR.below hb4
      replace hb := hb.trans (hb4.mono hb.size)
      simp at hR
      obtain ⟨r0, r1, r2, r3, _⟩ := hR.four
      clear hb4 HV p0 p1 p2 hP
      obtain ⟨u0, u1, u2, u3, f0, f1, f2, f3⟩ := hB.four
      by_cases hc : c = 0
      · subst hc
        have HN : Hid (prefixL l = some (s, h, lo, n)) := Lib.hid (by rw [HQ.out]; exact if_pos rfl)
        clear HQ
        go_wp2_with fail
        refine bodyPost_ret (v := .tuple #[.agg #[.bool s, .int .u64 X, .int .u64 Y, .int .i64 Z], .int .i64 0]) ?_ rfl ⟨by rw [hX.out, hY.out, hZ.out]; exact pfE_some HN.out, below_4 hb (Nat.le_refl _) _ _ _ _⟩
        simp [results, Tryz.results27, go_sem, u0, u1, u2, u3]
      · have HN : Hid (prefixL l = none) := Lib.hid (by rw [HQ.out]; exact if_neg hc)
        have b1 : (c != 0) = true := by simpa using hc
        clear HQ hc
        go_wp2_with fail
        refine bodyPost_ret (v := .tuple #[.agg #[.bool false, .int .u64 0, .int .u64 0, .int .i64 0], .int .i64 9]) ?_ rfl ⟨pfE_none HN.out, below_4 hb (Nat.le_refl _) _ _ _ _⟩
        simp [results, Tryz.results27, go_sem, u0, u1, u2, u3]

set_option maxHeartbeats 4000000 in
theorem prefixParseR_any (l : List UInt8) (w : World) (hC : Cons w) (hl : l.length ≤ 100000) :
    Calls Tryz.prog 31 #[.string ⟨l.toArray⟩] w (GivesV (pfEP (prefixL l)) w) := by
  have hB := Blk.new w [.bool false, .int .u64 0, .int .u64 0, .int .i64 0] 41
  have hb : Below w.heap.size w (w.alloc (.cells #[.bool false, .int .u64 0, .int .u64 0, .int .i64 0] 41)) := (Below.refl _ _).alloc (Nat.le_refl _) _
  have HK := Lib.hid (cut47_any l _ (hC.below hb) hl)
  obtain ⟨hla, hlb⟩ := cut_lenP l
  have HBAD := Lib.hid (@prefixL_bad l)
  have HNUM := Lib.hid (@prefixL_num l)
  have HCHK := Lib.hid (fun s h lo n => @prefixL_check l s h lo n)
  have HBYT := Lib.hid (fun s h lo n => @prefixL_byte l s h lo n)
  have HNOB := Lib.hid (@prefixL_nob l)
  have HNOT := Lib.hid (fun s h lo v => @pfxText_not l s h lo v)
  generalize Lib.cut l [47] = c at *
  obtain ⟨a, b, k⟩ := c
  have HA := fun w1 (h : Below w.heap.size w w1) => Lib.hid (addrParseR_any a w1 (hC.below h) (Nat.le_trans hla hl))
  have HW := fun w1 (h : Below w.heap.size w w1) => Lib.hid (hC.below h)
  have hbl : b.length ≤ 100000 := Nat.le_trans hlb hl
  clear hC hla hlb
  go_enter Tryz.func31, Tryz.ntmps31
  go_wp2_with fail
  refine HK.out.mono ?_
  rintro e w1 ⟨rfl, hb1⟩
  replace hB := hB.below hb1
  replace hb := hb.trans (hb1.mono hb.size)
  have HA1 := HA _ hb
  clear hb1 HK HA
  cases ho : parseL a with
  | none =>
    have HN : Hid (prefixL l = none) := Lib.hid (HBAD.out ho)
    rw [ho] at HA1
    replace HA1 : Hid (Calls Tryz.prog 61 #[.string ⟨a.toArray⟩] w1 (GivesV (.tuple #[.agg #[.bool false, .int .u64 0, .int .u64 0], .int .i64 9]) w1)) := HA1
    clear ho HBAD HNUM HCHK HBYT HNOB HNOT
    go_wp2_with fail
    refine HA1.out.mono ?_
    rintro e w2 ⟨rfl, hb2⟩
    replace hB := (hB.below hb2).alloc (.cells #[.bool false, .int .u64 0, .int .u64 0] 39)
    replace hb := hb.trans (hb2.mono hb.size)
    have hP := Blk.new w2 [.bool false, .int .u64 0, .int .u64 0] 39
    replace hb := hb.alloc hb.size (.cells #[.bool false, .int .u64 0, .int .u64 0] 39)
    clear hb2 HA1
    have HU := Lib.hid (atoi_shape b (w2.alloc (.cells #[.bool false, .int .u64 0, .int .u64 0] 39)) (HW _ hb).out hbl)
    go_wp2_with fail
    refine HU.out.mono ?_
    rintro e w3 ⟨⟨z, v, rfl⟩, hb3⟩
    replace hB := (hB.below hb3).alloc (.cells #[.bool false, .int .u64 0, .int .u64 0, .int .i64 z] 41)
    replace hP := hP.below hb3
    obtain ⟨p0, p1, p2, _⟩ := hP.three
    replace hb := hb.trans (hb3.mono hb.size)
    replace hb := hb.alloc hb.size (.cells #[.bool false, .int .u64 0, .int .u64 0, .int .i64 z] 41)
    clear hb3 HU
    obtain ⟨u0, u1, u2, u3, f0, f1, f2, f3⟩ := hB.four
    go_wp2_with fail
    refine bodyPost_ret (v := .tuple #[.agg #[.bool false, .int .u64 0, .int .u64 0, .int .i64 0], .int .i64 9]) ?_ rfl ⟨pfE_none HN.out, below_4 hb (Nat.le_refl _) _ _ _ _⟩
    simp [results, Tryz.results31, go_sem, u0, u1, u2, u3]
  | some x =>
    obtain ⟨s, h, lo⟩ := x
    have hlt := parseL_lt ho
    rw [ho] at HA1
    obtain ⟨X, hX⟩ : ∃ X : Int, X = (h : Int) := ⟨_, rfl⟩
    obtain ⟨Y, hY⟩ : ∃ X : Int, X = (lo : Int) := ⟨_, rfl⟩
    replace HA1 : Hid (Calls Tryz.prog 61 #[.string ⟨a.toArray⟩] w1 (GivesV (.tuple #[.agg #[.bool s, .int .u64 X, .int .u64 Y], .int .i64 0]) w1)) := Lib.hid (by rw [hX, hY]; exact HA1.out)
    have x0 : 0 ≤ X := by omega
    have x1 : X < 18446744073709551616 := by omega
    have y0 : 0 ≤ Y := by omega
    have y1 : Y < 18446744073709551616 := by omega
    go_wp2_with fail
    refine HA1.out.mono ?_
    rintro e w2 ⟨rfl, hb2⟩
    replace hB := (hB.below hb2).alloc (.cells #[.bool s, .int .u64 X, .int .u64 Y] 39)
    replace hb := hb.trans (hb2.mono hb.size)
    have hP := Blk.new w2 [.bool s, .int .u64 X, .int .u64 Y] 39
    replace hb := hb.alloc hb.size (.cells #[.bool s, .int .u64 X, .int .u64 Y] 39)
    clear hb2 HA1
    have HU := fun (h : Below w.heap.size w (w2.alloc (.cells #[.bool s, .int .u64 X, .int .u64 Y] 39))) => (HW _ h).out
    cases hn : byteL b with
    | none =>
      have HN : Hid (prefixL l = none) := Lib.hid (HNOB.out hn)
      have HU := Lib.hid (atoi_none hn (w2.alloc (.cells #[.bool s, .int .u64 X, .int .u64 Y] 39)) (HW _ hb).out hbl)
      have HNT : Hid (∀ v : Int, Lib.itoa v ≠ b → pfxText s X Y v ≠ l) := Lib.hid (fun v hv => by rw [hX, hY]; exact HNOT.out _ _ _ _ ho hv)
      clear hn HBAD HNUM HCHK HBYT HNOB HNOT ho hlt hX hY
      go_wp2_with fail
      refine HU.out.mono ?_
      rintro e w3 ⟨⟨z, T, q, rfl⟩ | ⟨Z, rfl, hv⟩, hb3⟩
      · replace hB := (hB.below hb3).alloc (.cells #[.bool s, .int .u64 X, .int .u64 Y, .int .i64 z] 41)
        obtain ⟨p0, p1, p2, _⟩ := (hP.below hb3).three
        replace hb := hb.trans (hb3.mono hb.size)
        replace hb := hb.alloc hb.size (.cells #[.bool s, .int .u64 X, .int .u64 Y, .int .i64 z] 41)
        clear hb3 HU HW
        obtain ⟨u0, u1, u2, u3, f0, f1, f2, f3⟩ := hB.four
        go_wp2_with fail
        refine bodyPost_ret (v := .tuple #[.agg #[.bool false, .int .u64 0, .int .u64 0, .int .i64 0], .int .i64 9]) ?_ rfl ⟨pfE_none HN.out, below_4 hb (Nat.le_refl _) _ _ _ _⟩
        simp [results, Tryz.results31, go_sem, u0, u1, u2, u3]
      · have HV := Lib.hid (fun w' => prefixFault_any s X Y Z w' x0 x1 y0 y1)
        by_cases hc : pfF s X Y Z = 0
        · obtain ⟨hF, z0, z1⟩ := pfF_zeroP hc
          have hne := HNT.out Z (hv z0 (by omega))
          have HLN := Lib.hid (fun w' (h : Tabs w') => prefixLine_any s X Y Z w' h x0 x1 y0 y1 hF z0 z1)
          obtain ⟨tx, htx⟩ : ∃ tx, tx = pfxText s X Y Z := ⟨_, rfl⟩
          rw [← htx] at hne HLN
          have hbf : (tx == l) = false := beq_eq_false_iff_ne.2 hne
          rw [hc] at HV
          clear hc hv HNT hne htx hF
          have hR := Blk.new w3 [.bool s, .int .u64 X, .int .u64 Y, .int .i64 Z] 41
          replace hB := (hB.below hb3).alloc (.cells #[.bool s, .int .u64 X, .int .u64 Y, .int .i64 Z] 41)
          obtain ⟨p0, p1, p2, _⟩ := (hP.below hb3).three
          replace hb := hb.trans (hb3.mono hb.size)
          replace hb := hb.alloc hb.size (.cells #[.bool s, .int .u64 X, .int .u64 Y, .int .i64 Z] 41)
          have HW1 := HW _ hb
          clear hb3 HU HW hP
          go_wp2_with fail
          refine (HV.out _).mono ?_
          rintro e w4 ⟨rfl, hb4⟩
          replace hB := hB.below hb4
          replace hR := hR.below hb4
          replace HW1 := Lib.hid (HW1.out.below hb4)
          replace hb := hb.trans (hb4.mono hb.size)
          obtain ⟨r0, r1, r2, r3, _⟩ := hR.four
          clear hb4 HV p0 p1 p2
          obtain ⟨u0, u1, u2, u3, f0, f1, f2, f3⟩ := hB.four
          have HLN1 := Lib.hid (HLN.out _ HW1.out.tabs)
          go_wp2_with fail
          refine HLN1.out.mono ?_
          rintro e w5 ⟨rfl, hb5⟩
          replace hB := hB.below hb5
          replace hb := hb.trans (hb5.mono hb.size)
          clear hb5 HLN HLN1 u0 u1 u2 u3 f0 f1 f2 f3
          obtain ⟨u0, u1, u2, u3, f0, f1, f2, f3⟩ := hB.four
          go_wp2_with fail
          refine bodyPost_ret (v := .tuple #[.agg #[.bool false, .int .u64 0, .int .u64 0, .int .i64 0], .int .i64 9]) ?_ rfl ⟨pfE_none HN.out, below_4 hb (Nat.le_refl _) _ _ _ _⟩
          simp [results, Tryz.results31, go_sem, u0, u1, u2, u3]
        · obtain ⟨c, hc'⟩ : ∃ c, pfF s X Y Z = c := ⟨_, rfl⟩
          rw [hc'] at HV hc
          have b1 : (c != 0) = true := by simpa using hc
          clear hc hc' hv HNT
          have hR := Blk.new w3 [.bool s, .int .u64 X, .int .u64 Y, .int .i64 Z] 41
          replace hB := (hB.below hb3).alloc (.cells #[.bool s, .int .u64 X, .int .u64 Y, .int .i64 Z] 41)
          obtain ⟨p0, p1, p2, _⟩ := (hP.below hb3).three
          replace hb := hb.trans (hb3.mono hb.size)
          replace hb := hb.alloc hb.size (.cells #[.bool s, .int .u64 X, .int .u64 Y, .int .i64 Z] 41)
          have HW1 := HW _ hb
          clear hb3 HU HW hP
          go_wp2_with fail
          refine (HV.out _).mono ?_
          rintro e w4 ⟨rfl, hb4⟩
          replace hB := hB.below hb4
          replace hR := hR.below hb4
          replace HW1 := Lib.hid (HW1.out.below hb4)
          replace hb := hb.trans (hb4.mono hb.size)
          obtain ⟨r0, r1, r2, r3, _⟩ := hR.four
          clear hb4 HV p0 p1 p2
          obtain ⟨u0, u1, u2, u3, f0, f1, f2, f3⟩ := hB.four
          go_wp2_with fail
          refine bodyPost_ret (v := .tuple #[.agg #[.bool false, .int .u64 0, .int .u64 0, .int .i64 0], .int .i64 9]) ?_ rfl ⟨pfE_none HN.out, below_4 hb (Nat.le_refl _) _ _ _ _⟩
          simp [results, Tryz.results31, go_sem, u0, u1, u2, u3]
    | some n =>
      obtain ⟨Z, hZ⟩ : ∃ X : Int, X = (n : Int) := ⟨_, rfl⟩
      have HU : Hid (Calls Tryz.prog 62 #[.string ⟨b.toArray⟩] (w2.alloc (.cells #[.bool s, .int .u64 X, .int .u64 Y] 39)) (GivesV (.tuple #[.int .i64 Z, .nilIface]) (w2.alloc (.cells #[.bool s, .int .u64 X, .int .u64 Y] 39)))) := Lib.hid (by rw [hZ]; exact atoi_some hn _ hbl)
      have HQ := HBYT.out _ _ _ _ ho hn
      rw [← hX, ← hY, ← hZ] at HQ
      obtain ⟨HQ1, HQ2⟩ := HQ
      have HV := Lib.hid (fun w' => prefixFault_any s X Y Z w' x0 x1 y0 y1)
      replace hX := Lib.hid hX
      replace hY := Lib.hid hY
      replace hZ := Lib.hid hZ
      clear hn HBAD HNUM HCHK HBYT HNOB HNOT ho hlt
      by_cases hc : pfF s X Y Z = 0
      · obtain ⟨hF, z0, z1⟩ := pfF_zeroP hc
        have HN : Hid (prefixL l = some (s, h, lo, n)) := Lib.hid (by rw [HQ1]; exact if_pos hc)
        have HLN := Lib.hid (fun w' (h : Tabs w') => prefixLine_any s X Y Z w' h x0 x1 y0 y1 hF z0 z1)
        rw [HQ2] at HLN
        rw [hc] at HV
        clear hc HQ1 HQ2 hF
        go_wp2_with fail
        refine HU.out.mono ?_
        rintro e w3 ⟨rfl, hb3⟩
        have hR := Blk.new w3 [.bool s, .int .u64 X, .int .u64 Y, .int .i64 Z] 41
        replace hB := (hB.below hb3).alloc (.cells #[.bool s, .int .u64 X, .int .u64 Y, .int .i64 Z] 41)
        obtain ⟨p0, p1, p2, _⟩ := (hP.below hb3).three
        replace hb := hb.trans (hb3.mono hb.size)
        replace hb := hb.alloc hb.size (.cells #[.bool s, .int .u64 X, .int .u64 Y, .int .i64 Z] 41)
        have HW1 := HW _ hb
        clear hb3 HU HW hP
        go_wp2_with fail
        refine (HV.out _).mono ?_
        rintro e w4 ⟨rfl, hb4⟩
        replace hB := hB.below hb4
        replace hR := hR.below hb4
        replace HW1 := Lib.hid (HW1.out.below hb4)
        replace hb := hb.trans (hb4.mono hb.size)
        obtain ⟨r0, r1, r2, r3, _⟩ := hR.four
        clear hb4 HV p0 p1 p2
        obtain ⟨u0, u1, u2, u3, f0, f1, f2, f3⟩ := hB.four
        have HLN1 := Lib.hid (HLN.out _ HW1.out.tabs)
        go_wp2_with fail
        refine HLN1.out.mono ?_
        rintro e w5 ⟨rfl, hb5⟩
        replace hB := hB.below hb5
        replace hR := hR.below hb5
        replace hb := hb.trans (hb5.mono hb.size)
        clear hb5 HLN HLN1 u0 u1 u2 u3 f0 f1 f2 f3 r0 r1 r2 r3
        obtain ⟨r0, r1, r2, r3, _⟩ := hR.four
        obtain ⟨u0, u1, u2, u3, f0, f1, f2, f3⟩ := hB.four
        go_wp2_with fail
        refine bodyPost_ret (v := .tuple #[.agg #[.bool s, .int .u64 X, .int .u64 Y, .int .i64 Z], .int .i64 0]) ?_ rfl ⟨by rw [hX.out, hY.out, hZ.out]; exact pfE_some HN.out, below_4 hb (Nat.le_refl _) _ _ _ _⟩
        simp [results, Tryz.results31, go_sem, u0, u1, u2, u3]
      · have HN : Hid (prefixL l = none) := Lib.hid (by rw [HQ1]; exact if_neg hc)
        obtain ⟨c, hc'⟩ : ∃ c, pfF s X Y Z = c := ⟨_, rfl⟩
        rw [hc'] at HV hc
        have b1 : (c != 0) = true := by simpa using hc
        clear hc hc' HQ1 HQ2
        go_wp2_with fail
        refine HU.out.mono ?_
        rintro e w3 ⟨rfl, hb3⟩
        have hR := Blk.new w3 [.bool s, .int .u64 X, .int .u64 Y, .int .i64 Z] 41
        replace hB := (hB.below hb3).alloc (.cells #[.bool s, .int .u64 X, .int .u64 Y, .int .i64 Z] 41)
        obtain ⟨p0, p1, p2, _⟩ := (hP.below hb3).three
        replace hb := hb.trans (hb3.mono hb.size)
        replace hb := hb.alloc hb.size (.cells #[.bool s, .int .u64 X, .int .u64 Y, .int .i64 Z] 41)
        have HW1 := HW _ hb
        clear hb3 HU HW hP
        go_wp2_with fail
        refine (HV.out _).mono ?_
        rintro e w4 ⟨rfl, hb4⟩
        replace hB := hB.below hb4
        replace hR := hR.below hb4
        replace HW1 := Lib.hid (HW1.out.below hb4)
        replace hb := hb.trans (hb4.mono hb.size)
        obtain ⟨r0, r1, r2, r3, _⟩ := hR.four
        clear hb4 HV p0 p1 p2
        obtain ⟨u0, u1, u2, u3, f0, f1, f2, f3⟩ := hB.four
        go_wp2_with fail
        refine bodyPost_ret (v := .tuple #[.agg #[.bool false, .int .u64 0, .int .u64 0, .int .i64 0], .int .i64 9]) ?_ rfl ⟨pfE_none HN.out, below_4 hb (Nat.le_refl _) _ _ _ _⟩
        simp [results, Tryz.results31, go_sem, u0, u1, u2, u3]
end Go.Proofs.YtkldcmmlllkhkaaGreatDoor
