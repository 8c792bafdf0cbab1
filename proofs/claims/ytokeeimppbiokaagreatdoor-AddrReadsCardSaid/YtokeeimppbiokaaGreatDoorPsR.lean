/- The strings that a stream makes: some text of at most so many bytes. -/
import Derived.Test.YtokeeimppbiokaaGreatDoorLaneAddr
import Derived.Test.YtokeeimppbiokaaGreatDoorPsQ
namespace Go.Proofs.YtokeeimppbiokaaGreatDoor
open Go.RowKit
set_option linter.unusedVariables false
set_option linter.unusedSimpArgs false

/-- A string of at most m bytes. -/
def isStr (m : Nat) : Value → Bool
  | .string b => decide (b.size ≤ m)
  | _ => false
theorem isStr_get {m : Nat} {v : Value} (h : isStr m v = true) : ∃ l : List UInt8, l.length ≤ m ∧ v = .string ⟨l.toArray⟩ := by
  cases v with
  | string b => exact ⟨b.data.toList, by unfold isStr at h; simpa using h, by rw [ba_back]⟩
  | _ => cases h
/-- A step of the stream b: a string of at most m bytes. -/
def StPost (m b R : Nat) (w : World) (e : Ending) (w' : World) : Prop :=
  ∃ l : List UInt8, l.length ≤ m ∧ e = .returned (.string ⟨l.toArray⟩) ∧ Str w' b R ∧ w.grownBy w' (some b)

set_option maxHeartbeats 400000 in
theorem some_any (w : World) (b R p cap n m : Nat) (vs : List Value) (t : TypeId) (hs : Str w b (R + 1)) (hb : b < p) (hB : Blk w p vs t) (hn : n = vs.length) (h1 : 1 ≤ vs.length) (h2 : vs.length ≤ 1000) (hP : vs.all (isStr m) = true) :
    Calls Tryz.prog 19 #[.pointer (some ⟨b, 0, none⟩), .slice (some ⟨p, 0, none⟩) n cap] w (StPost m b R w) := by
  subst hn
  go_enter Tryz.func19, Tryz.ntmps19
  go_wp2_with fail
  refine (next_any _ _ _ _ (by omega) (by omega) hs).mono ?_
  rintro e w' ⟨r, ⟨hr1, hr2⟩, rfl, hs', hg⟩
  obtain ⟨i, rfl⟩ := Int.eq_ofNat_of_zero_le hr1
  have hi : i < vs.length := by omega
  have hc := (hB.gb hg hb).cell (i := i) (v := vs[i]) (List.getElem?_eq_getElem hi)
  obtain ⟨l, hl, hv⟩ := isStr_get (List.all_eq_true.1 hP _ (List.getElem_mem hi))
  rw [hv] at hc
  clear hP hB hv
  go_wp2_with fail
  go_ret
  exact ⟨l, hl, rfl, hs', hg⟩

theorem enc_size (n : Int) : (Utf8.encode n).size ≤ 4 := by
  unfold Utf8.encode
  dsimp only
  (repeat' split) <;> simp [ByteArray.size]

set_option maxHeartbeats 2000000 in
set_option maxRecDepth 100000 in
theorem changed_any (l : List UInt8) (w : World) (b R : Nat) (hs : Str w b (R + 3)) (hl : l.length ≤ 100000) :
    Calls Tryz.prog 23 #[.pointer (some ⟨b, 0, none⟩), .string ⟨l.toArray⟩, .string ⟨#[48, 49, 50, 51, 52, 53, 54, 55, 56, 57, 97, 98, 102, 65, 58, 46]⟩] w (StPost (l.length + 16) b R w) := by
  by_cases h0 : l = []
  · subst h0
    go_enter Tryz.func23, Tryz.ntmps23
    go_wp2_with fail
    go_ret
    exact ⟨[48, 49, 50, 51, 52, 53, 54, 55, 56, 57, 97, 98, 102, 65, 58, 46], by decide, rfl, hs.le (by omega), gb_refl _ _⟩
  · have hne : l.isEmpty = false := by simpa using h0
    have hpos : 0 < l.length := List.length_pos_iff.2 h0
    obtain ⟨S, hS⟩ : ∃ S : ByteArray, S = ⟨l.toArray⟩ := ⟨_, rfl⟩
    have hsz : S.size = l.length := by rw [hS]; rfl
    go_enter Tryz.func23, Tryz.ntmps23
    go_wp2_with fail
    refine (next_any _ _ _ (R + 2) (by omega) (by omega) hs).mono ?_
    rintro e w1 ⟨r, ⟨hr1, hr2⟩, rfl, hs1, hg1⟩
    go_wp2_with fail
    refine (next_any _ _ _ (R + 1) (by omega) (by omega) hs1).mono ?_
    rintro e w2 ⟨q, ⟨hq1, hq2⟩, rfl, hs2, hg2⟩
    replace hg2 := gb_trans hg1 hg2
    obtain ⟨c, hc1, hc2, hcx⟩ : ∃ c : Int, 0 ≤ c ∧ c < 256 ∧ ∀ W, (Instr.index 9 (.string ⟨#[48, 49, 50, 51, 52, 53, 54, 55, 56, 57, 97, 98, 102, 65, 58, 46]⟩) (.int .i64 q)).run Tryz.prog W = .ok (.int .u8 c) W :=
      ⟨(((⟨#[48, 49, 50, 51, 52, 53, 54, 55, 56, 57, 97, 98, 102, 65, 58, 46]⟩ : ByteArray)[q.toNat]'(by show q.toNat < 16; omega)).toNat : Int), by omega, by have := UInt8.toNat_lt ((⟨#[48, 49, 50, 51, 52, 53, 54, 55, 56, 57, 97, 98, 102, 65, 58, 46]⟩ : ByteArray)[q.toNat]'(by show q.toNat < 16; omega)); omega, fun W => by
        rw [run_index_string W _ _ _ _ Tryz.underlying9, dif_pos ⟨hq1, hq2⟩]⟩
    have hcv : ∀ W, (convert 5 21 (.int .u8 c)).run Tryz.prog W = .ok (.int .i32 c) W := fun W => by
      have : IntKind.i32.wrap c = c := by rw [IntKind.wrap_i32]; omega
      go_simp
    have hcs : ∀ W, (convert 21 9 (.int .i32 c)).run Tryz.prog W = .ok (.string (Utf8.encode c)) W := fun W => run_convert_int_string W _ _ _ _ (by kernel_rfl) Tryz.underlying9
    have hen := enc_size c
    generalize Utf8.encode c = E at hcs hen
    go_wp2_with fail
    refine (next_any _ _ _ R (by omega) (by omega) hs2).mono ?_
    rintro e w3 ⟨k, ⟨hk1, hk2⟩, rfl, hs3, hg3⟩
    replace hg3 := gb_trans hg2 hg3
    clear hs hs1 hs2 hg1 hg2 hcx
    rcases (show k = 0 ∨ k = 1 ∨ k = 2 by omega) with rfl | rfl | rfl
    all_goals
      go_wp2_with fail
      go_quiet (fail)
      go_wp2_with fail
      go_ret
      refine ⟨_, ?_, congrArg Ending.returned (congrArg Value.string (ba_back _).symm), hs3.drewN, gb_drewN hg3⟩
      simp
      omega

theorem sixText_len (p : Option (Nat × Nat)) (G : List Nat) (hg : G.length = 8) : (sixText p G).length ≤ 200 := by
  cases p with
  | none =>
    have h := join_len [58] 4 (G.map hexL) (by simp only [List.mem_map]; rintro l ⟨g, _, rfl⟩; exact hexL_length g)
    rw [List.length_map, hg] at h
    exact Nat.le_trans h (by decide)
  | some x =>
    obtain ⟨i, n⟩ := x
    have h1 := join_len [58] 4 ((G.take i).map hexL) (by simp only [List.mem_map]; rintro l ⟨g, _, rfl⟩; exact hexL_length g)
    have h2 := join_len [58] 4 ((G.drop (i + n)).map hexL) (by simp only [List.mem_map]; rintro l ⟨g, _, rfl⟩; exact hexL_length g)
    rw [List.length_map, List.length_take, hg] at h1
    rw [List.length_map, List.length_drop, hg] at h2
    show (Lib.join ((G.take i).map hexL) [58] ++ [58, 58] ++ Lib.join ((G.drop (i + n)).map hexL) [58]).length ≤ 200
    rw [List.length_append, List.length_append]
    simp only [List.length_cons, List.length_nil] at h1 h2 ⊢
    omega
theorem fourText_len (n : Nat) : (fourText n).length ≤ 200 := by
  unfold fourText
  have d1 := dec_len (n / 16777216 % 256) (Nat.mod_lt _ (by decide))
  have d2 := dec_len (n / 65536 % 256) (Nat.mod_lt _ (by decide))
  have d3 := dec_len (n / 256 % 256) (Nat.mod_lt _ (by decide))
  have d4 := dec_len (n % 256) (Nat.mod_lt _ (by decide))
  generalize Lib.decDigits (n / 16777216 % 256) = x1 at *
  generalize Lib.decDigits (n / 65536 % 256) = x2 at *
  generalize Lib.decDigits (n / 256 % 256) = x3 at *
  generalize Lib.decDigits (n % 256) = x4 at *
  have h := join_len [46] 3 [x1, x2, x3, x4] (by
    intro l hl
    simp at hl
    rcases hl with rfl | rfl | rfl | rfl <;> assumption)
  exact Nat.le_trans h (by simp)
theorem adrText_len (s : Bool) (hi lo : Int) : (adrText s hi lo).length ≤ 200 := by
  unfold adrText
  by_cases hF : adF s hi lo = 0
  · rw [if_pos hF]
    cases s
    · rw [if_neg (by decide)]; exact fourText_len _
    · rw [if_pos rfl]; exact sixText_len _ _ (grps_len _)
  · rw [if_neg hF]; exact Nat.zero_le _

theorem right_adF {s : Bool} {hi lo : Int} (h : RightA s hi lo) : adF s hi lo = 0 := by
  unfold adF
  rw [if_neg]
  rintro ⟨h1, h2⟩
  have := h.2.2 h1
  omega

set_option maxHeartbeats 2000000 in
set_option maxRecDepth 100000 in
theorem addrString_any (w : World) (b R : Nat) (hs : Str w b (R + 10)) (hT : Tabs w) (hb : 8 ≤ b) :
    Calls Tryz.prog 5 #[.pointer (some ⟨b, 0, none⟩)] w (StPost 400 b R w) := by
  go_enter Tryz.func5, Tryz.ntmps5
  go_wp2_with fail
  refine (flip_any _ _ _ (R + 9) (by omega) (by omega) hs).mono ?_
  rintro e w1 ⟨r, rfl, hs1, hg1⟩
  have hT1 := hT.grown hg1 hb
  clear hs hT
  cases r
  · go_wp2_with fail
    refine (addr_any _ _ (R + 6) hs1).mono ?_
    rintro e w2 ⟨s, hi, lo, hA, rfl, hs2, hg2⟩
    have hT2 := hT1.grown hg2 hb
    replace hg2 := gb_trans hg1 hg2
    have hx := hA.1
    have hy := hA.2.1
    have HX := Lib.hid (addrTextR_any s hi lo w2 hT2 hx.1 hx.2 hy.1 hy.2 (right_adF hA))
    have hlen := adrText_len s hi lo
    clear hA hx hy hs1 hg1 hT1 hT2
    generalize adrText s hi lo = l at HX hlen
    go_wp2_with fail
    refine HX.out.mono ?_
    rintro e w3 ⟨rfl, hb3⟩
    replace hs2 := hs2.below hb3
    replace hg2 := gb_below hg2 hb3
    clear HX hb3
    go_wp2_with fail
    refine (pick_lit w3 b (R + 5) [0, 0, 1] _ _ hs2 (by simp) (by simp) (fun r => 0 ≤ r ∧ r ≤ 1) (by simp)).mono ?_
    rintro e w4 ⟨n, ⟨n1, n2⟩, rfl, hs4, hg4⟩
    replace hg4 := gb_trans (gb_alloc hg2 _) hg4
    clear hs2 hg2
    rcases (show n = 0 ∨ n = 1 by omega) with rfl | rfl
    · go_wp2_with fail
      refine wp_loop_rounds 1 ?_
      rw [rounds_succ]
      go_wp2_with fail
      go_ret
      exact ⟨l, by omega, rfl, hs4.le (by omega), hg4⟩
    · go_wp2_with fail
      refine wp_loop_rounds 2 ?_
      rw [rounds_succ]
      go_wp2_with fail
      refine (changed_any l _ b R (hs4.le (by omega)) (by omega)).mono ?_
      rintro e w5 ⟨l', hl', rfl, hs5, hg5⟩
      replace hg5 := gb_trans hg4 hg5
      clear hs4 hg4
      go_wp2_with fail
      rw [rounds_succ]
      go_wp2_with fail
      go_ret
      exact ⟨l', by omega, rfl, hs5, hg5⟩
  · have hB := Blk.new w1 [.string ⟨#[50, 48, 48, 49, 58, 68, 66, 56, 58, 58, 49]⟩, .string ⟨#[48, 58, 48, 58, 48, 58, 48, 58, 48, 58, 48, 58, 48, 58, 48]⟩, .string ⟨#[58, 58, 102, 102, 102, 102, 58, 49, 48, 46, 48, 46, 48, 46, 49]⟩, .string ⟨#[49, 58, 50, 58, 51, 58, 52, 58, 53, 58, 54, 58, 49, 46, 50, 46, 51, 46, 52]⟩, .string ⟨#[49, 58, 58, 50, 58, 58, 51]⟩, .string ⟨#[58, 58, 58]⟩, .string ⟨#[49, 58, 50, 58, 51, 58, 52, 58, 53, 58, 54, 58, 55, 58, 56, 58, 57]⟩, .string ⟨#[58, 58, 49, 46, 50, 46, 51]⟩, .string ⟨#[49, 48, 46, 48, 46, 48, 46, 50, 53, 54]⟩, .string ⟨#[48, 49, 48, 46, 48, 46, 48, 46, 49]⟩, .string ⟨#[49, 46, 50, 46, 51, 46, 52, 46, 53]⟩, .string ⟨#[49, 58, 50, 58, 51, 58, 52, 58, 53, 58, 54, 58, 55, 58, 58]⟩, .string ⟨#[58, 58, 50, 58, 51, 58, 52, 58, 53, 58, 54, 58, 55, 58, 56]⟩, .string ⟨#[49, 58, 48, 58, 48, 58, 50, 58, 48, 58, 48, 58, 48, 58, 51]⟩, .string ⟨#[103, 58, 58]⟩, .string ⟨#[49, 50, 51, 52, 53, 58, 58]⟩, .string ⟨#[]⟩, .string ⟨#[58, 58]⟩, .string ⟨#[49, 58, 58, 49, 58, 48, 58, 48, 58, 48]⟩, .string ⟨#[102, 101, 56, 48, 58, 58, 37, 49]⟩] 9
    have hlt := hs1.lt
    go_wp2_with fail
    refine (some_any _ b R _ _ _ 400 [.string ⟨#[50, 48, 48, 49, 58, 68, 66, 56, 58, 58, 49]⟩, .string ⟨#[48, 58, 48, 58, 48, 58, 48, 58, 48, 58, 48, 58, 48, 58, 48]⟩, .string ⟨#[58, 58, 102, 102, 102, 102, 58, 49, 48, 46, 48, 46, 48, 46, 49]⟩, .string ⟨#[49, 58, 50, 58, 51, 58, 52, 58, 53, 58, 54, 58, 49, 46, 50, 46, 51, 46, 52]⟩, .string ⟨#[49, 58, 58, 50, 58, 58, 51]⟩, .string ⟨#[58, 58, 58]⟩, .string ⟨#[49, 58, 50, 58, 51, 58, 52, 58, 53, 58, 54, 58, 55, 58, 56, 58, 57]⟩, .string ⟨#[58, 58, 49, 46, 50, 46, 51]⟩, .string ⟨#[49, 48, 46, 48, 46, 48, 46, 50, 53, 54]⟩, .string ⟨#[48, 49, 48, 46, 48, 46, 48, 46, 49]⟩, .string ⟨#[49, 46, 50, 46, 51, 46, 52, 46, 53]⟩, .string ⟨#[49, 58, 50, 58, 51, 58, 52, 58, 53, 58, 54, 58, 55, 58, 58]⟩, .string ⟨#[58, 58, 50, 58, 51, 58, 52, 58, 53, 58, 54, 58, 55, 58, 56]⟩, .string ⟨#[49, 58, 48, 58, 48, 58, 50, 58, 48, 58, 48, 58, 48, 58, 51]⟩, .string ⟨#[103, 58, 58]⟩, .string ⟨#[49, 50, 51, 52, 53, 58, 58]⟩, .string ⟨#[]⟩, .string ⟨#[58, 58]⟩, .string ⟨#[49, 58, 58, 49, 58, 48, 58, 48, 58, 48]⟩, .string ⟨#[102, 101, 56, 48, 58, 58, 37, 49]⟩] 9 ((hs1.alloc _).le (by omega)) hlt hB rfl (by decide) (by decide) (by decide +kernel)).mono ?_
    rintro e w2 ⟨l, hl, rfl, hs2, hg2⟩
    replace hg2 := gb_trans (gb_alloc hg1 _) hg2
    clear hB
    go_wp2_with fail
    go_ret
    exact ⟨l, hl, rfl, hs2, hg2⟩
end Go.Proofs.YtokeeimppbiokaaGreatDoor
