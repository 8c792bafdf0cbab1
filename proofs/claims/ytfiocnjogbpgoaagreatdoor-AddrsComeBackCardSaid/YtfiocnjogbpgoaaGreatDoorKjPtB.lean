/- ParsePrefix, as the program and as the reference read. -/
import Derived.Test.YtfiocnjogbpgoaaGreatDoorKjPsP
import Derived.Test.YtfiocnjogbpgoaaGreatDoorKjTxtH
import Derived.Test.YtfiocnjogbpgoaaGreatDoorKjTxtI
import Derived.Test.YtfiocnjogbpgoaaGreatDoorKjLaneC
import Derived.Test.YtfiocnjogbpgoaaGreatDoorKjLaneD
namespace Go.Proofs.YtfiocnjogbpgoaaGreatDoor
open Go.RowKit
set_option linter.unusedVariables false
set_option linter.unusedSimpArgs false

theorem addrTextR_any (s : Bool) (hi lo : Int) (w : World) (htab : Tabs w) (h1 : 0 ≤ hi) (h2 : hi < 18446744073709551616) (h3 : 0 ≤ lo) (h4 : lo < 18446744073709551616) (hF : adF s hi lo = 0) :
    Calls Tryz.prog 42 #[.agg #[.bool s, .int .u64 hi, .int .u64 lo]] w (GivesV (sv (adrText s hi lo)) w) := by
  unfold adrText
  rw [if_pos hF]
  cases s
  · have hz : hi = 0 ∧ lo < 4294967296 := by
      unfold adF at hF
      split at hF
      · cases hF
      · rename_i hn
        constructor
        · exact Classical.byContradiction fun h => hn ⟨rfl, .inl h⟩
        · exact Classical.byContradiction fun h => hn ⟨rfl, .inr (by omega)⟩
    obtain ⟨rfl, hl⟩ := hz
    rw [if_neg (by decide)]
    exact addrTextR_four lo w htab h3 hl
  · rw [if_pos rfl]
    exact addrTextR_six hi lo w htab h1 h2 h3 h4


theorem looseL_adF {l : List UInt8} {s : Bool} {h lo : Nat} (e : looseL l = some (s, h, lo)) : adF s (h : Int) (lo : Int) = 0 := by
  unfold looseL at e
  split at e
  · cases hg : groupsL l with
    | none => rw [hg] at e; cases e
    | some gs =>
      rw [hg] at e
      cases e
      exact if_neg (fun h => by cases h.1)
  · cases hf : fourL l with
    | none => rw [hf] at e; cases e
    | some n =>
      rw [hf] at e
      cases e
      have := fourL_lt hf
      exact if_neg (by omega)

end Go.Proofs.YtfiocnjogbpgoaaGreatDoor
namespace Go.Proofs.YtfiocnjogbpgoaaGreatDoor
open Go.RowKit
set_option linter.unusedVariables false
set_option linter.unusedSimpArgs false

/-- A string of at most m bytes. -/
def isStr (m : Nat) : Value → Bool
  | .string b => decide (b.size ≤ m)
  | _ => false
theorem isStr_get {m : Nat} {v : Value} (h : isStr m v = true) : ∃ l : List UInt8, l.length ≤ m ∧ v = .string ⟨l.toArray⟩ := by
  cases v with
  | string b => exact ⟨b.data.toList, by unfold isStr at h; simpa using h, by rw [ba_back]⟩
  | _ => cases h
/-- A step of the stream b: a string of at most m bytes. -/
def StPost (m b R : Nat) (w : World) (e : Ending) (w' : World) : Prop :=
  ∃ l : List UInt8, l.length ≤ m ∧ e = .returned (.string ⟨l.toArray⟩) ∧ Str w' b R ∧ w.grownBy w' (some b)

set_option maxHeartbeats 400000 in
theorem some_any (w : World) (b R p cap n m : Nat) (vs : List Value) (t : TypeId) (hs : Str w b (R + 1)) (hb : b < p) (hB : Blk w p vs t) (hn : n = vs.length) (h1 : 1 ≤ vs.length) (h2 : vs.length ≤ 1000) (hP : vs.all (isStr m) = true) :
    Calls Tryz.prog 41 #[.pointer (some ⟨b, 0, none⟩), .slice (some ⟨p, 0, none⟩) n cap] w (StPost m b R w) := by
  subst hn
  go_enter Tryz.func41, Tryz.ntmps41
  go_wp2_with fail
  refine (next_any _ _ _ _ (by omega) (by omega) hs).mono ?_
  rintro e w' ⟨r, ⟨hr1, hr2⟩, rfl, hs', hg⟩
  obtain ⟨i, rfl⟩ := Int.eq_ofNat_of_zero_le hr1
  have hi : i < vs.length := by omega
  have hc := (hB.gb hg hb).cell (i := i) (v := vs[i]) (List.getElem?_eq_getElem hi)
  obtain ⟨l, hl, hv⟩ := isStr_get (List.all_eq_true.1 hP _ (List.getElem_mem hi))
  rw [hv] at hc
  clear hP hB hv
  go_wp2_with fail
  go_ret
  exact ⟨l, hl, rfl, hs', hg⟩

theorem enc_size (n : Int) : (Utf8.encode n).size ≤ 4 := by
  unfold Utf8.encode
  dsimp only
  (repeat' split) <;> simp [ByteArray.size]

set_option maxHeartbeats 2000000 in
set_option maxRecDepth 100000 in
theorem changed_any (l : List UInt8) (w : World) (b R : Nat) (hs : Str w b (R + 3)) (hl : l.length ≤ 100000) :
    Calls Tryz.prog 43 #[.pointer (some ⟨b, 0, none⟩), .string ⟨l.toArray⟩, .string ⟨#[48, 49, 50, 51, 52, 53, 54, 55, 56, 57, 97, 98, 102, 65, 58, 46]⟩] w (StPost (l.length + 16) b R w) := by
  by_cases h0 : l = []
  · subst h0
    go_enter Tryz.func43, Tryz.ntmps43
    go_wp2_with fail
    go_ret
    exact ⟨[48, 49, 50, 51, 52, 53, 54, 55, 56, 57, 97, 98, 102, 65, 58, 46], by decide, rfl, hs.le (by omega), gb_refl _ _⟩
  · have hne : l.isEmpty = false := by simpa using h0
    have hpos : 0 < l.length := List.length_pos_iff.2 h0
    obtain ⟨S, hS⟩ : ∃ S : ByteArray, S = ⟨l.toArray⟩ := ⟨_, rfl⟩
    have hsz : S.size = l.length := by rw [hS]; rfl
    go_enter Tryz.func43, Tryz.ntmps43
    go_wp2_with fail
    refine (next_any _ _ _ (R + 2) (by omega) (by omega) hs).mono ?_
    rintro e w1 ⟨r, ⟨hr1, hr2⟩, rfl, hs1, hg1⟩
    go_wp2_with fail
    refine (next_any _ _ _ (R + 1) (by omega) (by omega) hs1).mono ?_
    rintro e w2 ⟨q, ⟨hq1, hq2⟩, rfl, hs2, hg2⟩
    replace hg2 := gb_trans hg1 hg2
    obtain ⟨c, hc1, hc2, hcx⟩ : ∃ c : Int, 0 ≤ c ∧ c < 256 ∧ ∀ W, (Instr.index 9 (.string ⟨#[48, 49, 50, 51, 52, 53, 54, 55, 56, 57, 97, 98, 102, 65, 58, 46]⟩) (.int .i64 q)).run Tryz.prog W = .ok (.int .u8 c) W :=
      ⟨(((⟨#[48, 49, 50, 51, 52, 53, 54, 55, 56, 57, 97, 98, 102, 65, 58, 46]⟩ : ByteArray)[q.toNat]'(by show q.toNat < 16; omega)).toNat : Int), by omega, by have := UInt8.toNat_lt ((⟨#[48, 49, 50, 51, 52, 53, 54, 55, 56, 57, 97, 98, 102, 65, 58, 46]⟩ : ByteArray)[q.toNat]'(by show q.toNat < 16; omega)); omega, fun W => by
        rw [run_index_string W _ _ _ _ Tryz.underlying9, dif_pos ⟨hq1, hq2⟩]⟩
    have hcv : ∀ W, (convert 5 21 (.int .u8 c)).run Tryz.prog W = .ok (.int .i32 c) W := fun W => by
      have : IntKind.i32.wrap c = c := by rw [IntKind.wrap_i32]; omega
      go_simp
    have hcs : ∀ W, (convert 21 9 (.int .i32 c)).run Tryz.prog W = .ok (.string (Utf8.encode c)) W := fun W => run_convert_int_string W _ _ _ _ (by kernel_rfl) Tryz.underlying9
    have hen := enc_size c
    generalize Utf8.encode c = E at hcs hen
    go_wp2_with fail
    refine (next_any _ _ _ R (by omega) (by omega) hs2).mono ?_
    rintro e w3 ⟨k, ⟨hk1, hk2⟩, rfl, hs3, hg3⟩
    replace hg3 := gb_trans hg2 hg3
    clear hs hs1 hs2 hg1 hg2 hcx
    rcases (show k = 0 ∨ k = 1 ∨ k = 2 by omega) with rfl | rfl | rfl
    all_goals
      go_wp2_with fail
      go_quiet (fail)
      go_wp2_with fail
      go_ret
      refine ⟨_, ?_, congrArg Ending.returned (congrArg Value.string (ba_back _).symm), hs3.drewN, gb_drewN hg3⟩
      simp
      omega

theorem sixText_len (p : Option (Nat × Nat)) (G : List Nat) (hg : G.length = 8) : (sixText p G).length ≤ 200 := by
  cases p with
  | none =>
    have h := join_len [58] 4 (G.map hexL) (by simp only [List.mem_map]; rintro l ⟨g, _, rfl⟩; exact hexL_length g)
    rw [List.length_map, hg] at h
    exact Nat.le_trans h (by decide)
  | some x =>
    obtain ⟨i, n⟩ := x
    have h1 := join_len [58] 4 ((G.take i).map hexL) (by simp only [List.mem_map]; rintro l ⟨g, _, rfl⟩; exact hexL_length g)
    have h2 := join_len [58] 4 ((G.drop (i + n)).map hexL) (by simp only [List.mem_map]; rintro l ⟨g, _, rfl⟩; exact hexL_length g)
    rw [List.length_map, List.length_take, hg] at h1
    rw [List.length_map, List.length_drop, hg] at h2
    show (Lib.join ((G.take i).map hexL) [58] ++ [58, 58] ++ Lib.join ((G.drop (i + n)).map hexL) [58]).length ≤ 200
    rw [List.length_append, List.length_append]
    simp only [List.length_cons, List.length_nil] at h1 h2 ⊢
    omega
theorem fourText_len (n : Nat) : (fourText n).length ≤ 200 := by
  unfold fourText
  have d1 := dec_len (n / 16777216 % 256) (Nat.mod_lt _ (by decide))
  have d2 := dec_len (n / 65536 % 256) (Nat.mod_lt _ (by decide))
  have d3 := dec_len (n / 256 % 256) (Nat.mod_lt _ (by decide))
  have d4 := dec_len (n % 256) (Nat.mod_lt _ (by decide))
  generalize Lib.decDigits (n / 16777216 % 256) = x1 at *
  generalize Lib.decDigits (n / 65536 % 256) = x2 at *
  generalize Lib.decDigits (n / 256 % 256) = x3 at *
  generalize Lib.decDigits (n % 256) = x4 at *
  have h := join_len [46] 3 [x1, x2, x3, x4] (by
    intro l hl
    simp at hl
    rcases hl with rfl | rfl | rfl | rfl <;> assumption)
  exact Nat.le_trans h (by simp)
theorem adrText_len (s : Bool) (hi lo : Int) : (adrText s hi lo).length ≤ 200 := by
  unfold adrText
  by_cases hF : adF s hi lo = 0
  · rw [if_pos hF]
    cases s
    · rw [if_neg (by decide)]; exact fourText_len _
    · rw [if_pos rfl]; exact sixText_len _ _ (grps_len _)
  · rw [if_neg hF]; exact Nat.zero_le _

theorem right_adF {s : Bool} {hi lo : Int} (h : RightA s hi lo) : adF s hi lo = 0 := by
  unfold adF
  rw [if_neg]
  rintro ⟨h1, h2⟩
  have := h.2.2 h1
  omega

set_option maxHeartbeats 2000000 in
set_option maxRecDepth 100000 in
theorem addrString_any (w : World) (b R : Nat) (hs : Str w b (R + 10)) (hT : Tabs w) (hb : 9 ≤ b) :
    Calls Tryz.prog 13 #[.pointer (some ⟨b, 0, none⟩)] w (StPost 400 b R w) := by
  go_enter Tryz.func13, Tryz.ntmps13
  go_wp2_with fail
  refine (flip_any _ _ _ (R + 9) (by omega) (by omega) hs).mono ?_
  rintro e w1 ⟨r, rfl, hs1, hg1⟩
  have hT1 := hT.grown hg1 hb
  clear hs hT
  cases r
  · go_wp2_with fail
    refine (addr_any _ _ (R + 6) hs1).mono ?_
    rintro e w2 ⟨s, hi, lo, hA, rfl, hs2, hg2⟩
    have hT2 := hT1.grown hg2 hb
    replace hg2 := gb_trans hg1 hg2
    have hx := hA.1
    have hy := hA.2.1
    have HX := Lib.hid (addrTextR_any s hi lo w2 hT2 hx.1 hx.2 hy.1 hy.2 (right_adF hA))
    have hlen := adrText_len s hi lo
    clear hA hx hy hs1 hg1 hT1 hT2
    generalize adrText s hi lo = l at HX hlen
    go_wp2_with fail
    refine HX.out.mono ?_
    rintro e w3 ⟨rfl, hb3⟩
    replace hs2 := hs2.below hb3
    replace hg2 := gb_below hg2 hb3
    clear HX hb3
    go_wp2_with fail
    refine (pick_lit w3 b (R + 5) [0, 0, 1] _ _ hs2 (by simp) (by simp) (fun r => 0 ≤ r ∧ r ≤ 1) (by simp)).mono ?_
    rintro e w4 ⟨n, ⟨n1, n2⟩, rfl, hs4, hg4⟩
    replace hg4 := gb_trans (gb_alloc hg2 _) hg4
    clear hs2 hg2
    rcases (show n = 0 ∨ n = 1 by omega) with rfl | rfl
    · go_wp2_with fail
      refine wp_loop_rounds 1 ?_
      rw [rounds_succ]
      go_wp2_with fail
      go_ret
      exact ⟨l, by omega, rfl, hs4.le (by omega), hg4⟩
    · go_wp2_with fail
      refine wp_loop_rounds 2 ?_
      rw [rounds_succ]
      go_wp2_with fail
      refine (changed_any l _ b R (hs4.le (by omega)) (by omega)).mono ?_
      rintro e w5 ⟨l', hl', rfl, hs5, hg5⟩
      replace hg5 := gb_trans hg4 hg5
      clear hs4 hg4
      go_wp2_with fail
      rw [rounds_succ]
      go_wp2_with fail
      go_ret
      exact ⟨l', by omega, rfl, hs5, hg5⟩
  · have hB := Blk.new w1 [.string ⟨#[50, 48, 48, 49, 58, 68, 66, 56, 58, 58, 49]⟩, .string ⟨#[48, 58, 48, 58, 48, 58, 48, 58, 48, 58, 48, 58, 48, 58, 48]⟩, .string ⟨#[58, 58, 102, 102, 102, 102, 58, 49, 48, 46, 48, 46, 48, 46, 49]⟩, .string ⟨#[49, 58, 50, 58, 51, 58, 52, 58, 53, 58, 54, 58, 49, 46, 50, 46, 51, 46, 52]⟩, .string ⟨#[49, 58, 58, 50, 58, 58, 51]⟩, .string ⟨#[58, 58, 58]⟩, .string ⟨#[49, 58, 50, 58, 51, 58, 52, 58, 53, 58, 54, 58, 55, 58, 56, 58, 57]⟩, .string ⟨#[58, 58, 49, 46, 50, 46, 51]⟩, .string ⟨#[49, 48, 46, 48, 46, 48, 46, 50, 53, 54]⟩, .string ⟨#[48, 49, 48, 46, 48, 46, 48, 46, 49]⟩, .string ⟨#[49, 46, 50, 46, 51, 46, 52, 46, 53]⟩, .string ⟨#[49, 58, 50, 58, 51, 58, 52, 58, 53, 58, 54, 58, 55, 58, 58]⟩, .string ⟨#[58, 58, 50, 58, 51, 58, 52, 58, 53, 58, 54, 58, 55, 58, 56]⟩, .string ⟨#[49, 58, 48, 58, 48, 58, 50, 58, 48, 58, 48, 58, 48, 58, 51]⟩, .string ⟨#[103, 58, 58]⟩, .string ⟨#[49, 50, 51, 52, 53, 58, 58]⟩, .string ⟨#[]⟩, .string ⟨#[58, 58]⟩, .string ⟨#[49, 58, 58, 49, 58, 48, 58, 48, 58, 48]⟩, .string ⟨#[102, 101, 56, 48, 58, 58, 37, 49]⟩] 9
    have hlt := hs1.lt
    go_wp2_with fail
    refine (some_any _ b R _ _ _ 400 [.string ⟨#[50, 48, 48, 49, 58, 68, 66, 56, 58, 58, 49]⟩, .string ⟨#[48, 58, 48, 58, 48, 58, 48, 58, 48, 58, 48, 58, 48, 58, 48]⟩, .string ⟨#[58, 58, 102, 102, 102, 102, 58, 49, 48, 46, 48, 46, 48, 46, 49]⟩, .string ⟨#[49, 58, 50, 58, 51, 58, 52, 58, 53, 58, 54, 58, 49, 46, 50, 46, 51, 46, 52]⟩, .string ⟨#[49, 58, 58, 50, 58, 58, 51]⟩, .string ⟨#[58, 58, 58]⟩, .string ⟨#[49, 58, 50, 58, 51, 58, 52, 58, 53, 58, 54, 58, 55, 58, 56, 58, 57]⟩, .string ⟨#[58, 58, 49, 46, 50, 46, 51]⟩, .string ⟨#[49, 48, 46, 48, 46, 48, 46, 50, 53, 54]⟩, .string ⟨#[48, 49, 48, 46, 48, 46, 48, 46, 49]⟩, .string ⟨#[49, 46, 50, 46, 51, 46, 52, 46, 53]⟩, .string ⟨#[49, 58, 50, 58, 51, 58, 52, 58, 53, 58, 54, 58, 55, 58, 58]⟩, .string ⟨#[58, 58, 50, 58, 51, 58, 52, 58, 53, 58, 54, 58, 55, 58, 56]⟩, .string ⟨#[49, 58, 48, 58, 48, 58, 50, 58, 48, 58, 48, 58, 48, 58, 51]⟩, .string ⟨#[103, 58, 58]⟩, .string ⟨#[49, 50, 51, 52, 53, 58, 58]⟩, .string ⟨#[]⟩, .string ⟨#[58, 58]⟩, .string ⟨#[49, 58, 58, 49, 58, 48, 58, 48, 58, 48]⟩, .string ⟨#[102, 101, 56, 48, 58, 58, 37, 49]⟩] 9 ((hs1.alloc _).le (by omega)) hlt hB rfl (by decide) (by decide) (by decide +kernel)).mono ?_
    rintro e w2 ⟨l, hl, rfl, hs2, hg2⟩
    replace hg2 := gb_trans (gb_alloc hg1 _) hg2
    clear hB
    go_wp2_with fail
    go_ret
    exact ⟨l, hl, rfl, hs2, hg2⟩
end Go.Proofs.YtfiocnjogbpgoaaGreatDoor
namespace Go.Proofs.YtfiocnjogbpgoaaGreatDoor
open Go.RowKit
set_option linter.unusedVariables false
set_option linter.unusedSimpArgs false

theorem cut_slash {l : List UInt8} (h : (Lib.cut l [47]).2.2 = true) : l = (Lib.cut l [47]).1 ++ 47 :: (Lib.cut l [47]).2.1 := by
  unfold Lib.cut at h ⊢
  split at h
  · rename_i hi
    rcases Lib.index_spec l [47] with ⟨h', _⟩ | ⟨j, h1, _⟩
    · omega
    · rw [if_pos hi, h1]
      have ha := index_at h1
      have hl := (List.getElem?_eq_some_iff.1 ha)
      obtain ⟨hlt, he⟩ := hl
      show l = l.take (j : Int).toNat ++ 47 :: l.drop ((j : Int).toNat + 1)
      rw [Int.toNat_natCast]
      conv => lhs; rw [← List.take_append_drop j l, List.drop_eq_getElem_cons hlt, he]
  · cases h
theorem cut_none {l : List UInt8} (h : (Lib.cut l [47]).2.2 = false) : (Lib.cut l [47]).1 = l ∧ (Lib.cut l [47]).2.1 = [] := by
  unfold Lib.cut at h ⊢
  split <;> simp_all
theorem cut_lenP (l : List UInt8) : (Lib.cut l [47]).1.length ≤ l.length ∧ (Lib.cut l [47]).2.1.length ≤ l.length := by
  unfold Lib.cut
  split <;> simp <;> omega

theorem ba_app (a b : List UInt8) : (⟨a.toArray⟩ : ByteArray) ++ ⟨b.toArray⟩ = ⟨(a ++ b).toArray⟩ := by
  apply ByteArray.ext
  simp [ByteArray.data_append]

/-- The text of a prefix. -/
def pfxText (s : Bool) (hi lo n : Int) : List UInt8 := adrText s hi lo ++ 47 :: Lib.itoa n

theorem pfF_zero {s : Bool} {hi lo n : Int} (h : pfF s hi lo n = 0) : adF s hi lo = 0 ∧ 0 ≤ n ∧ n ≤ 128 := by
  unfold pfF at h
  by_cases ha : adF s hi lo = 0
  · rw [if_neg (by simpa using ha)] at h
    by_cases hb : inB n 0 (lenZ s) = false
    · rw [if_pos hb] at h; cases h
    · refine ⟨ha, ?_⟩
      have hl : lenZ s ≤ 128 := by cases s <;> decide
      have : inB n 0 (lenZ s) = true := by simpa using hb
      unfold inB at this
      have := of_decide_eq_true this
      omega
  · rw [if_pos ha] at h; cases h

/-- What ParsePrefix reads. -/
def prefixL (l : List UInt8) : Option (Bool × Nat × Nat × Nat) := match parseL (Lib.cut l [47]).1 with
  | some (s, h, lo) => match byteL (Lib.cut l [47]).2.1 with
    | some n => if pfF s (h : Int) (lo : Int) (n : Int) = 0 then some (s, h, lo, n) else none
    | none => none
  | none => none
/-- A prefix that is read, or ErrSyntax. -/
def pfEP : Option (Bool × Nat × Nat × Nat) → Value
  | some (s, h, lo, n) => .tuple #[.agg #[.bool s, .int .u64 (h : Int), .int .u64 (lo : Int), .int .i64 (n : Int)], .int .i64 0]
  | none => .tuple #[.agg #[.bool false, .int .u64 0, .int .u64 0, .int .i64 0], .int .i64 9]
theorem pfE_none {o : Option (Bool × Nat × Nat × Nat)} (h : o = none) : Ending.returned (.tuple #[.agg #[.bool false, .int .u64 0, .int .u64 0, .int .i64 0], .int .i64 9]) = .returned (pfEP o) := by rw [h]; rfl
theorem pfE_some {o : Option (Bool × Nat × Nat × Nat)} {s : Bool} {h lo n : Nat} (e : o = some (s, h, lo, n)) : Ending.returned (.tuple #[.agg #[.bool s, .int .u64 (h : Int), .int .u64 (lo : Int), .int .i64 (n : Int)], .int .i64 0]) = .returned (pfEP o) := by rw [e]; rfl

theorem parseL_some {l : List UInt8} {s : Bool} {h lo : Nat} (e : parseL l = some (s, h, lo)) : looseL l = some (s, h, lo) ∧ adrText s (h : Int) (lo : Int) = l := by
  unfold parseL at e
  cases hl : looseL l with
  | none => rw [hl] at e; cases e
  | some x =>
    obtain ⟨a, b, c⟩ := x
    rw [hl] at e
    simp only at e
    by_cases ht : adrText a (b : Int) (c : Int) = l
    · rw [if_pos ht] at e; cases e; exact ⟨rfl, ht⟩
    · rw [if_neg ht] at e; cases e
theorem parseL_lt {l : List UInt8} {s : Bool} {h lo : Nat} (e : parseL l = some (s, h, lo)) : h < 18446744073709551616 ∧ lo < 18446744073709551616 := looseL_lt (parseL_some e).1

theorem numL_byte {l : List UInt8} : byteL l = match numL l with
    | some n => if n ≤ 255 then some n else none
    | none => none := rfl
theorem prefixL_bad {l : List UInt8} (h : parseL (Lib.cut l [47]).1 = none) : prefixL l = none := by unfold prefixL; rw [h]
theorem prefixL_num {l : List UInt8} (h : numL (Lib.cut l [47]).2.1 = none) : prefixL l = none := by
  unfold prefixL
  cases parseL (Lib.cut l [47]).1 with
  | none => rfl
  | some x => rw [numL_byte, h]
theorem prefixL_check {l : List UInt8} {s : Bool} {h lo n : Nat} (e : parseL (Lib.cut l [47]).1 = some (s, h, lo)) (k : numL (Lib.cut l [47]).2.1 = some n) :
    prefixL l = if pfF s (h : Int) (lo : Int) (n : Int) = 0 then some (s, h, lo, n) else none := by
  unfold prefixL
  rw [e, numL_byte, k]
  by_cases hn : n ≤ 255
  · simp only [if_pos hn]
  · simp only [if_neg hn]
    rw [if_neg]
    intro h0
    have := pfF_zero h0
    omega
theorem prefixL_byte {l : List UInt8} {s : Bool} {h lo n : Nat} (e : parseL (Lib.cut l [47]).1 = some (s, h, lo)) (k : byteL (Lib.cut l [47]).2.1 = some n) :
    prefixL l = (if pfF s (h : Int) (lo : Int) (n : Int) = 0 then some (s, h, lo, n) else none) ∧ pfxText s (h : Int) (lo : Int) (n : Int) = l := by
  constructor
  · unfold prefixL
    rw [e, k]
  · have h1 := (parseL_some e).2
    have h2 := (byte_atoi k).2.2
    cases hc : (Lib.cut l [47]).2.2 with
    | true => unfold pfxText; rw [h1, h2]; exact (cut_slash hc).symm
    | false =>
      rw [(cut_none hc).2] at k
      have k0 : byteL [] = none := rfl
      rw [k0] at k
      cases k
theorem prefixL_nob {l : List UInt8} (k : byteL (Lib.cut l [47]).2.1 = none) : prefixL l = none := by
  unfold prefixL
  cases parseL (Lib.cut l [47]).1 with
  | none => rfl
  | some x => rw [k]
/-- A number that does not write as what stands behind the mark: the text is another one. -/
theorem pfxText_not {l : List UInt8} {s : Bool} {h lo : Nat} {v : Int} (e : parseL (Lib.cut l [47]).1 = some (s, h, lo)) (hv : Lib.itoa v ≠ (Lib.cut l [47]).2.1) : pfxText s (h : Int) (lo : Int) v ≠ l := by
  intro ht
  have h1 := (parseL_some e).2
  cases hc : (Lib.cut l [47]).2.2 with
  | true =>
    have hl := cut_slash hc
    unfold pfxText at ht
    rw [h1] at ht
    have ht' : (Lib.cut l [47]).1 ++ 47 :: Lib.itoa v = (Lib.cut l [47]).1 ++ 47 :: (Lib.cut l [47]).2.1 := ht.trans hl
    exact hv (List.cons.inj (List.append_cancel_left ht')).2
  | false =>
    have hl := (cut_none hc).1
    unfold pfxText at ht
    rw [h1, hl] at ht
    have := congrArg List.length ht
    simp at this

theorem itoa_len (v : Int) (h0 : 0 ≤ v) (h1 : v ≤ 255) : (Lib.itoa v).length ≤ 3 := by
  obtain ⟨n, rfl⟩ := Int.eq_ofNat_of_zero_le h0
  have hn : n < 256 := by omega
  have := (byte_atoi (byte_dec3 n hn)).2.2
  rw [this]
  unfold dec3
  (repeat' split) <;> simp

set_option maxHeartbeats 2000000 in
set_option maxRecDepth 100000 in
theorem prefixText_ok (s : Bool) (hi lo n : Int) (w : World) (htab : Tabs w) (h1 : 0 ≤ hi) (h2 : hi < 18446744073709551616) (h3 : 0 ≤ lo) (h4 : lo < 18446744073709551616) (hP : pfF s hi lo n = 0) :
    Calls Tryz.prog 11 #[.agg #[.bool s, .int .u64 hi, .int .u64 lo, .int .i64 n]] w (GivesV (.tuple #[.string ⟨(pfxText s hi lo n).toArray⟩, .int .i64 0]) w) := by
  obtain ⟨hF, hn1, hn2⟩ := pfF_zero hP
  have hB := Blk.new w [.bool s, .int .u64 hi, .int .u64 lo, .int .i64 n] 31
  have hb : Below w.heap.size w (w.alloc (.cells #[.bool s, .int .u64 hi, .int .u64 lo, .int .i64 n] 31)) := (Below.refl _ _).alloc (Nat.le_refl _) _
  have HC := Lib.hid (fun w' => checkPrefix_any s hi lo n w' h1 h2 h3 h4)
  have HX := fun w1 (h : Below w.heap.size w w1) => Lib.hid (text_any s hi lo w1 (htab.below h) h1 h2 h3 h4)
  have HI := fun w1 (h : Below w.heap.size w w1) => Lib.hid (itoa_small n hn1 (by omega) w1 (htab.below h))
  rw [hP] at HC
  rw [hF] at HX
  have l1 := adrText_len s hi lo
  have l2 := itoa_len n hn1 (by omega)
  have HT : Hid ((⟨(pfxText s hi lo n).toArray⟩ : ByteArray) = (⟨(adrText s hi lo).toArray⟩ ++ ⟨#[47]⟩) ++ ⟨(Lib.itoa n).toArray⟩) := Lib.hid (by
    have e : (⟨#[47]⟩ : ByteArray) = ⟨[47].toArray⟩ := rfl
    rw [e, ba_app, ba_app]
    unfold pfxText
    rw [List.append_assoc]
    rfl)
  clear htab h1 h2 h3 h4 hF hP
  generalize adrText s hi lo = T at *
  generalize Lib.itoa n = I at *
  generalize pfxText s hi lo n = F at *
  go_enter Tryz.func11, Tryz.ntmps11
  go_wp2_with fail
  refine (HC.out _).mono ?_
  rintro e w1 ⟨rfl, hb1⟩
  replace hB := hB.below hb1
  replace hb := hb.trans (hb1.mono hb.size)
  obtain ⟨c0, c1, c2, c3, _⟩ := hB.four
  have HX1 := HX _ hb
  clear hb1 HC HX
  go_wp2_with fail
  refine HX1.out.mono ?_
  rintro e w2 ⟨rfl, hb2⟩
  replace hB := hB.below hb2
  replace hb := hb.trans (hb2.mono hb.size)
  have HI1 := HI _ hb
  clear hb2 HX1 HI c0 c1 c2 c3
  obtain ⟨c0, c1, c2, c3, _⟩ := hB.four
  go_wp2_with fail
  refine HI1.out.mono ?_
  rintro e w3 ⟨rfl, hb3⟩
  replace hb := hb.trans (hb3.mono hb.size)
  clear hb3 HI1 c0 c1 c2 c3
  go_wp2_with fail
  go_ret2
  exact ⟨by rw [HT.out]; rfl, hb⟩

theorem cut47_any (l : List UInt8) (w : World) (hC : Cons w) (hl : l.length ≤ 100000) :
    Calls Tryz.prog 38 #[.string ⟨l.toArray⟩, .string ⟨#[47]⟩] w (GivesV (.tuple #[.string ⟨(Lib.cut l [47]).1.toArray⟩, .string ⟨(Lib.cut l [47]).2.1.toArray⟩, .bool (Lib.cut l [47]).2.2]) w) := by
  obtain ⟨m, hm⟩ := hC.maxl
  refine (Tryz.strings_Cut ⟨l.toArray⟩ ⟨#[47]⟩ m w (by rw [Lib.size_eq]; exact Nat.lt_of_le_of_lt hl (by decide)) hm).mono ?_
  rintro e w' ⟨rfl, n, rfl⟩
  exact ⟨rfl, below_drewN (Below.refl _ _) n⟩

theorem below_4 {B p : Nat} {w W : World} (h : Below B w W) (hp : B ≤ p) (x0 x1 x2 x3 : Value) : Below B w ((((W.setCell ⟨p, 0, none⟩ x0).setCell ⟨p, 1, none⟩ x1).setCell ⟨p, 2, none⟩ x2).setCell ⟨p, 3, none⟩ x3) :=
  (((h.setCell hp _).setCell hp _).setCell hp _).setCell hp _

theorem numV_shape (o : Option Nat) : ∃ (z : Int) (q : Bool), numV o = .tuple #[.int .i64 z, .bool q] := by
  cases o with
  | none => exact ⟨_, _, rfl⟩
  | some n => exact ⟨_, _, rfl⟩

set_option maxHeartbeats 4000000 in
set_option maxRecDepth 100000 in
theorem parsePrefix_any (l : List UInt8) (w : World) (hC : Cons w) (hl : l.length ≤ 100000) :
    Calls Tryz.prog 12 #[.string ⟨l.toArray⟩] w (GivesV (pfEP (prefixL l)) w) := by
  have hB := Blk.new w [.bool false, .int .u64 0, .int .u64 0, .int .i64 0] 31
  have hb : Below w.heap.size w (w.alloc (.cells #[.bool false, .int .u64 0, .int .u64 0, .int .i64 0] 31)) := (Below.refl _ _).alloc (Nat.le_refl _) _
  have HK := Lib.hid (cut47_any l _ (hC.below hb) hl)
  obtain ⟨hla, hlb⟩ := cut_lenP l
  have HBAD := Lib.hid (@prefixL_bad l)
  have HNUM := Lib.hid (@prefixL_num l)
  have HCHK := Lib.hid (fun s h lo n => @prefixL_check l s h lo n)
  have HBYT := Lib.hid (fun s h lo n => @prefixL_byte l s h lo n)
  have HNOB := Lib.hid (@prefixL_nob l)
  have HNOT := Lib.hid (fun s h lo v => @pfxText_not l s h lo v)
  generalize Lib.cut l [47] = c at *
  obtain ⟨a, b, k⟩ := c
  have HA := fun w1 (h : Below w.heap.size w w1) => Lib.hid (parse_any a w1 (hC.below h) (Nat.le_trans hla hl))
  have HW := fun w1 (h : Below w.heap.size w w1) => Lib.hid (hC.below h)
  have hbl : b.length ≤ 100000 := Nat.le_trans hlb hl
  clear hC hla hlb
  go_enter Tryz.func12, Tryz.ntmps12
  go_wp2_with fail
  refine HK.out.mono ?_
  rintro e w1 ⟨rfl, hb1⟩
  replace hB := hB.below hb1
  replace hb := hb.trans (hb1.mono hb.size)
  have HA1 := HA _ hb
  clear hb1 HK HA
  cases ho : parseL a with
  | none =>
    have HN : Hid (prefixL l = none) := Lib.hid (HBAD.out ho)
    rw [ho] at HA1
    replace HA1 : Hid (Calls Tryz.prog 9 #[.string ⟨a.toArray⟩] w1 (GivesV (.tuple #[.agg #[.bool false, .int .u64 0, .int .u64 0], .int .i64 9]) w1)) := HA1
    clear ho HBAD HNUM HCHK HBYT HNOB HNOT
    go_wp2_with fail
    refine HA1.out.mono ?_
    rintro e w2 ⟨rfl, hb2⟩
    replace hB := (hB.below hb2).alloc (.cells #[.bool false, .int .u64 0, .int .u64 0] 28)
    replace hb := hb.trans (hb2.mono hb.size)
    have hP := Blk.new w2 [.bool false, .int .u64 0, .int .u64 0] 28
    replace hb := hb.alloc hb.size (.cells #[.bool false, .int .u64 0, .int .u64 0] 28)
    clear hb2 HA1
    obtain ⟨z, q, hz⟩ := numV_shape (numL b)
    have HU := Lib.hid (number_any b (w2.alloc (.cells #[.bool false, .int .u64 0, .int .u64 0] 28)) hbl)
    rw [hz] at HU
    go_wp2_with fail
    refine HU.out.mono ?_
    rintro e w3 ⟨rfl, rfl⟩
    obtain ⟨p0, p1, p2, _⟩ := hP.three
    replace hB := hB.alloc (.cells #[.bool false, .int .u64 0, .int .u64 0, .int .i64 z] 31)
    replace hb := hb.alloc hb.size (.cells #[.bool false, .int .u64 0, .int .u64 0, .int .i64 z] 31)
    obtain ⟨u0, u1, u2, u3, f0, f1, f2, f3⟩ := hB.four
    go_wp2_with fail
    refine bodyPost_ret (v := .tuple #[.agg #[.bool false, .int .u64 0, .int .u64 0, .int .i64 0], .int .i64 9]) ?_ rfl ⟨pfE_none HN.out, below_4 hb (Nat.le_refl _) _ _ _ _⟩
    simp [results, Tryz.results12, go_sem, u0, u1, u2, u3]
  | some x =>
    obtain ⟨s, h, lo⟩ := x
    have hlt := parseL_lt ho
    rw [ho] at HA1
    obtain ⟨X, hX⟩ : ∃ X : Int, X = (h : Int) := ⟨_, rfl⟩
    obtain ⟨Y, hY⟩ : ∃ X : Int, X = (lo : Int) := ⟨_, rfl⟩
    replace HA1 : Hid (Calls Tryz.prog 9 #[.string ⟨a.toArray⟩] w1 (GivesV (.tuple #[.agg #[.bool s, .int .u64 X, .int .u64 Y], .int .i64 0]) w1)) := Lib.hid (by rw [hX, hY]; exact HA1.out)
    have x0 : 0 ≤ X := by omega
    have x1 : X < 18446744073709551616 := by omega
    have y0 : 0 ≤ Y := by omega
    have y1 : Y < 18446744073709551616 := by omega
    go_wp2_with fail
    refine HA1.out.mono ?_
    rintro e w2 ⟨rfl, hb2⟩
    replace hB := (hB.below hb2).alloc (.cells #[.bool s, .int .u64 X, .int .u64 Y] 28)
    replace hb := hb.trans (hb2.mono hb.size)
    have hP := Blk.new w2 [.bool s, .int .u64 X, .int .u64 Y] 28
    replace hb := hb.alloc hb.size (.cells #[.bool s, .int .u64 X, .int .u64 Y] 28)
    clear hb2 HA1
    have HU := Lib.hid (number_any b (w2.alloc (.cells #[.bool s, .int .u64 X, .int .u64 Y] 28)) hbl)
    cases hn : numL b with
    | none =>
      have HN : Hid (prefixL l = none) := Lib.hid (HNUM.out hn)
      rw [hn] at HU
      replace HU : Hid (Calls Tryz.prog 39 #[.string ⟨b.toArray⟩, .int .i64 3] (w2.alloc (.cells #[.bool s, .int .u64 X, .int .u64 Y] 28)) fun e w' => e = .returned (.tuple #[.int .i64 0, .bool false]) ∧ w2.alloc (.cells #[.bool s, .int .u64 X, .int .u64 Y] 28) = w') := HU
      clear hn HBAD HNUM HCHK HBYT HNOB HNOT ho hlt hX hY
      go_wp2_with fail
      refine HU.out.mono ?_
      rintro e w3 ⟨rfl, rfl⟩
      obtain ⟨p0, p1, p2, _⟩ := hP.three
      replace hB := hB.alloc (.cells #[.bool s, .int .u64 X, .int .u64 Y, .int .i64 0] 31)
      replace hb := hb.alloc hb.size (.cells #[.bool s, .int .u64 X, .int .u64 Y, .int .i64 0] 31)
      obtain ⟨u0, u1, u2, u3, f0, f1, f2, f3⟩ := hB.four
      go_wp2_with fail
      refine bodyPost_ret (v := .tuple #[.agg #[.bool false, .int .u64 0, .int .u64 0, .int .i64 0], .int .i64 9]) ?_ rfl ⟨pfE_none HN.out, below_4 hb (Nat.le_refl _) _ _ _ _⟩
      simp [results, Tryz.results12, go_sem, u0, u1, u2, u3]
    | some n =>
      obtain ⟨Z, hZ⟩ : ∃ X : Int, X = (n : Int) := ⟨_, rfl⟩
      rw [hn] at HU
      replace HU : Hid (Calls Tryz.prog 39 #[.string ⟨b.toArray⟩, .int .i64 3] (w2.alloc (.cells #[.bool s, .int .u64 X, .int .u64 Y] 28)) fun e w' => e = .returned (.tuple #[.int .i64 Z, .bool true]) ∧ w2.alloc (.cells #[.bool s, .int .u64 X, .int .u64 Y] 28) = w') := Lib.hid (by rw [hZ]; exact HU.out)
      have HQ : Hid (prefixL l = if pfF s X Y Z = 0 then some (s, h, lo, n) else none) := Lib.hid (by rw [hX, hY, hZ]; exact HCHK.out _ _ _ _ ho hn)
      have HV := Lib.hid (fun w' => checkPrefix_any s X Y Z w' x0 x1 y0 y1)
      replace hX := Lib.hid hX
      replace hY := Lib.hid hY
      replace hZ := Lib.hid hZ
      clear hn HBAD HNUM HCHK HBYT HNOB HNOT ho hlt
      obtain ⟨c, hc⟩ : ∃ c, pfF s X Y Z = c := ⟨_, rfl⟩
      rw [hc] at HQ HV
      clear hc
      go_wp2_with fail
      refine HU.out.mono ?_
      rintro e w3 ⟨rfl, rfl⟩
      have hR := Blk.new (w2.alloc (.cells #[.bool s, .int .u64 X, .int .u64 Y] 28)) [.bool s, .int .u64 X, .int .u64 Y, .int .i64 Z] 31
      obtain ⟨p0, p1, p2, _⟩ := hP.three
      replace hB := hB.alloc (.cells #[.bool s, .int .u64 X, .int .u64 Y, .int .i64 Z] 31)
      replace hb := hb.alloc hb.size (.cells #[.bool s, .int .u64 X, .int .u64 Y, .int .i64 Z] 31)
      go_wp2_with fail
      refine (HV.out _).mono ?_
      rintro e w4 ⟨rfl, hb4⟩
      replace hB := hB.below hb4
      replace hR := hR.below hb4
      replace hb := hb.trans (hb4.mono hb.size)
      simp at hR
      obtain ⟨r0, r1, r2, r3, _⟩ := hR.four
      clear hb4 HV p0 p1 p2 hP
      obtain ⟨u0, u1, u2, u3, f0, f1, f2, f3⟩ := hB.four
      by_cases hc : c = 0
      · subst hc
        have HN : Hid (prefixL l = some (s, h, lo, n)) := Lib.hid (by rw [HQ.out]; exact if_pos rfl)
        clear HQ
        go_wp2_with fail
        refine bodyPost_ret (v := .tuple #[.agg #[.bool s, .int .u64 X, .int .u64 Y, .int .i64 Z], .int .i64 0]) ?_ rfl ⟨by rw [hX.out, hY.out, hZ.out]; exact pfE_some HN.out, below_4 hb (Nat.le_refl _) _ _ _ _⟩
        simp [results, Tryz.results12, go_sem, u0, u1, u2, u3]
      · have HN : Hid (prefixL l = none) := Lib.hid (by rw [HQ.out]; exact if_neg hc)
        have b1 : (c != 0) = true := by simpa using hc
        clear HQ hc
        go_wp2_with fail
        refine bodyPost_ret (v := .tuple #[.agg #[.bool false, .int .u64 0, .int .u64 0, .int .i64 0], .int .i64 9]) ?_ rfl ⟨pfE_none HN.out, below_4 hb (Nat.le_refl _) _ _ _ _⟩
        simp [results, Tryz.results12, go_sem, u0, u1, u2, u3]

end Go.Proofs.YtfiocnjogbpgoaaGreatDoor
