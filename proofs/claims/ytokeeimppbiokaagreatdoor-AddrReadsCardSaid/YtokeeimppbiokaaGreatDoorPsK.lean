/- The groups of a text (the program's readGroups). -/
import Derived.Test.YtokeeimppbiokaaGreatDoorPsJ
namespace Go.Proofs.YtokeeimppbiokaaGreatDoor
open Go.RowKit

/-- Two rows with zeros between, or one row of eight. -/
def joinR : Option (List Nat) → Option (List Nat) → Option (List Nat)
  | some x, some y => if x.length + y.length ≤ 7 then some (x ++ List.replicate (8 - x.length - y.length) 0 ++ y) else none
  | _, _ => none
def eightR : Option (List Nat) → Option (List Nat)
  | some x => if x.length = 8 then some x else none
  | none => none
def groupsL (l : List UInt8) : Option (List Nat) :=
  if (Lib.cut l [58, 58]).2.2 = true then joinR (rowL false (Lib.cut l [58, 58]).1) (rowL true (Lib.cut l [58, 58]).2.1) else eightR (rowL true l)

/-- Eight groups are returned, or none. -/
def isGr (w' : World) : Option (List Nat) → Ending → Prop
  | some gs, e => ∃ A cap, e = .returned (.tuple #[.slice A 8 cap, .bool true]) ∧ SlN .u64 w' A 8 cap gs
  | none, e => ∃ v, e = .returned (.tuple #[v, .bool false])
def GivesGr (o : Option (List Nat)) (w : World) (e : Ending) (w' : World) : Prop := isGr w' o e ∧ Below w.heap.size w w'
theorem isGr_none {w' : World} {o : Option (List Nat)} {v : Value} {b : Bool} (h : o = none) (hb : b = false) : isGr w' o (.returned (.tuple #[v, .bool b])) := by rw [h, hb]; exact ⟨v, rfl⟩
theorem isGr_some {w' : World} {o : Option (List Nat)} {gs : List Nat} {A : Option Addr} {cap n : Nat} {b : Bool} (h : o = some gs) (hb : b = true) (hn : n = 8) (hS : SlN .u64 w' A n cap gs) : isGr w' o (.returned (.tuple #[.slice A n cap, .bool b])) := by rw [h, hb]; subst hn; exact ⟨A, cap, rfl, hS⟩

theorem made_zeros (k : Nat) : (madeCells #[Value.int .u64 0] k).toList = (List.replicate k 0).map fun (g : Nat) => Value.int .u64 (g : Int) := by
  apply List.ext_getElem
  · simp [madeCells]
  · intro j h1 h2
    simp [madeCells, Nat.mod_one]
theorem rowA_len (t : Bool) : ∀ (ps : List (List UInt8)) (acc gs : List Nat), rowA t acc ps = some gs → gs.length ≤ acc.length + 2 * ps.length
  | [], acc, gs, h => by rw [rowA] at h; cases h; simp
  | p :: r, acc, gs, h => by
    rw [rowA] at h
    split at h
    · have := rowA_len t r _ gs h
      simp at this ⊢; omega
    · split at h
      · have := rowA_len t r _ gs h
        simp at this ⊢; omega
      · cases h
theorem rowL_len {t : Bool} {l : List UInt8} {gs : List Nat} (h : rowL t l = some gs) : gs.length ≤ 2 * l.length + 2 := by
  unfold rowL at h
  split at h
  · cases h; simp
  · have h1 := rowA_len t _ _ _ h
    have h2 := parts_len l 58
    simp at h1; omega
theorem cut_short (l : List UInt8) : (Lib.cut l [58, 58]).1.length ≤ l.length ∧ (Lib.cut l [58, 58]).2.1.length ≤ l.length := by
  unfold Lib.cut
  split <;> simp <;> omega
theorem cut_miss (l : List UInt8) (h : (Lib.cut l [58, 58]).2.2 = false) : (Lib.cut l [58, 58]).1 = l ∧ (Lib.cut l [58, 58]).2.1 = [] := by
  unfold Lib.cut at h ⊢
  split <;> simp_all

theorem cut_any (l : List UInt8) (w : World) (hC : Cons w) (hl : l.length ≤ 100000) :
    Calls Tryz.prog 29 #[.string ⟨l.toArray⟩, .string ⟨#[58, 58]⟩] w (GivesV (.tuple #[.string ⟨(Lib.cut l [58, 58]).1.toArray⟩, .string ⟨(Lib.cut l [58, 58]).2.1.toArray⟩, .bool (Lib.cut l [58, 58]).2.2]) w) := by
  obtain ⟨m, hm⟩ := hC.maxl
  refine (Tryz.strings_Cut ⟨l.toArray⟩ ⟨#[58, 58]⟩ m w (by rw [Lib.size_eq]; exact Nat.lt_of_le_of_lt hl (by decide)) hm).mono ?_
  rintro e w' ⟨rfl, n, rfl⟩
  exact ⟨rfl, below_drewN (Below.refl _ _) n⟩

set_option maxHeartbeats 2000000 in
set_option maxRecDepth 100000 in
theorem readGroups_any (l : List UInt8) (w : World) (hC : Cons w) (hl : l.length ≤ 100000) :
    Calls Tryz.prog 27 #[.string ⟨l.toArray⟩] w (GivesGr (groupsL l) w) := by
  have HK := Lib.hid (cut_any l w hC hl)
  obtain ⟨hla, hlb⟩ := cut_short l
  generalize hc : Lib.cut l [58, 58] = c at *
  obtain ⟨a, b, s⟩ := c
  have HW : ∀ w1, Below w.heap.size w w1 → Hid (Cons w1) := fun w1 h => Lib.hid (hC.below h)
  cases s with
  | false =>
    have HD : Hid (groupsL l = eightR (rowL true l)) := Lib.hid (by unfold groupsL; rw [hc]; rfl)
    clear hc hla hlb hC
    go_enter Tryz.func27, Tryz.ntmps27
    go_wp2_with fail
    refine HK.out.mono ?_
    rintro e w1 ⟨rfl, hb1⟩
    have HR := Lib.hid (readRow_any l true w1 (HW _ hb1).out hl)
    clear HK HW
    have hs1 := hb1.size
    generalize rowL true l = o at HR HD
    go_wp2_with fail
    refine HR.out.mono ?_
    rintro e w2 ⟨hr, hb2⟩
    have hbb := hb1.trans (hb2.mono hs1)
    cases o with
    | none =>
      obtain rfl := hr
      go_wp2_with fail
      go_ret2
      exact ⟨isGr_none HD.out rfl, hbb⟩
    | some gs =>
      obtain ⟨A, cap, rfl, hS, hA⟩ := hr
      by_cases h8 : gs.length = 8
      · have HN := Lib.hid (show groupsL l = some gs by rw [HD.out]; exact if_pos h8)
        rw [h8] at hS ⊢
        clear HD h8
        go_wp2_with fail
        go_ret2
        exact ⟨isGr_some HN.out rfl rfl hS, hbb⟩
      · have HN := Lib.hid (show groupsL l = none by rw [HD.out]; exact if_neg h8)
        have b8 : ((gs.length : Int) == 8) = false := by rw [beq_eq_false_iff_ne]; omega
        clear HD h8
        go_wp2_with fail
        go_ret2
        exact ⟨isGr_none HN.out rfl, hbb⟩
  | true =>
    have HD : Hid (groupsL l = joinR (rowL false a) (rowL true b)) := Lib.hid (by unfold groupsL; rw [hc]; rfl)
    have ha : a.length ≤ 100000 := Nat.le_trans hla hl
    have hb : b.length ≤ 100000 := Nat.le_trans hlb hl
    clear hc hla hlb hC hl
    obtain ⟨i0, hi0, hz0, hz1, hz2⟩ := info_parts info_u64
    go_enter Tryz.func27, Tryz.ntmps27
    go_wp2_with fail
    refine HK.out.mono ?_
    rintro e w1 ⟨rfl, hb1⟩
    have HR := Lib.hid (readRow_any a false w1 (HW _ hb1).out ha)
    clear HK
    have hs1 := hb1.size
    have HL1 : Hid (∀ gs, rowL false a = some gs → gs.length ≤ 200002) := Lib.hid fun gs h => Nat.le_trans (rowL_len h) (by omega)
    generalize rowL false a = o at HR HD HL1
    go_wp2_with fail
    refine HR.out.mono ?_
    rintro e w2 ⟨hr, hb2⟩
    have hbb2 := hb1.trans (hb2.mono hs1)
    have hs2 := hbb2.size
    cases o with
    | none =>
      obtain rfl := hr
      have HN := Lib.hid (show groupsL l = none by rw [HD.out]; rfl)
      clear HD HW
      go_wp2_with fail
      go_ret2
      exact ⟨isGr_none HN.out rfl, hbb2⟩
    | some g1 =>
      obtain ⟨A1, c1, rfl, hS1, hA1⟩ := hr
      have HR2 := Lib.hid (readRow_any b true w2 (HW _ hbb2).out hb)
      clear HR HW hb1 hb2
      have HL2 : Hid (∀ gs, rowL true b = some gs → gs.length ≤ 200002) := Lib.hid fun gs h => Nat.le_trans (rowL_len h) (by omega)
      generalize rowL true b = o at HR2 HD HL2
      go_wp2_with fail
      refine HR2.out.mono ?_
      rintro e w3 ⟨hr, hb3⟩
      have hbb3 := hbb2.trans (hb3.mono hs2)
      have hs3 := hbb3.size
      replace hS1 := hS1.below hb3
      cases o with
      | none =>
        obtain rfl := hr
        have HN := Lib.hid (show groupsL l = none by rw [HD.out]; rfl)
        clear HD
        go_wp2_with fail
        go_ret2
        exact ⟨isGr_none HN.out rfl, hbb3⟩
      | some g2 =>
        obtain ⟨A2, c2, rfl, hS2, hA2⟩ := hr
        by_cases h7 : g1.length + g2.length ≤ 7
        · have HN := Lib.hid (show groupsL l = some (g1 ++ List.replicate (8 - g1.length - g2.length) 0 ++ g2) by rw [HD.out]; exact if_pos h7)
          obtain ⟨k, hk⟩ : ∃ k, k = 8 - g1.length - g2.length := ⟨_, rfl⟩
          rw [← hk] at HN
          have hk8 : g1.length + k + g2.length = 8 := by omega
          obtain ⟨n1, hn1⟩ : ∃ n1, n1 = g1.length := ⟨_, rfl⟩
          obtain ⟨n2, hn2⟩ : ∃ n2, n2 = g2.length := ⟨_, rfl⟩
          rw [← hn1] at hS1 h7 hk8 ⊢
          rw [← hn2] at hS2 h7 hk8 ⊢
          have h7' : (n1 : Int) + (n2 : Int) ≤ 7 := by omega
          have hk' : (8 : Int) - (n1 : Int) - (n2 : Int) = (k : Int) := by omega
          have hm1 : (n1 : Int) ≤ 7 := by omega
          have hk9 : k ≤ 8 := by omega
          have hm2 : (n2 : Int) ≤ 7 := by omega
          clear HD HR2 hk hn1 hn2 hb3 hbb2 h7
          replace hk8 := Lib.hid hk8
          replace hk' := Lib.hid hk'
          replace hS1 := Lib.hid hS1
          replace hS2 := Lib.hid hS2
          go_wp2_with (refine wpList_make_full _ rfl _ _ 54 rfl w.heap.size 27 i0 (.int .u64 0) 1 Tryz.underlying54 hi0 hz0 hz1 .i64 .i64 _ _ k rfl rfl hk'.out hk'.out ?c1 ?c2 hs3 ?_)
          case c1 => rw [hz2]; omega
          case c2 => unfold maxLen; omega
          intro w4 hown hg4
          have hbb4 : Below w.heap.size w w4 := hbb3.grown hg4 hs3 (fun k h => by cases h)
          have hs4 := hbb4.size
          have hK4 : Sl w4 (some ⟨w3.heap.size, 0, none⟩) k k ((List.replicate k 0).map fun (g : Nat) => Value.int .u64 (g : Int)) := by
            obtain ⟨A, cap, hA, hS⟩ := Sl.of_own hown
            cases hA
            rw [made_zeros k] at hS
            exact hS
          have hT1 := Lib.hid (hS1.out.keep hg4.size fun j hj => hg4.block j hj (by intro h; cases h))
          have hT2 := Lib.hid (hS2.out.keep hg4.size fun j hj => hg4.block j hj (by intro h; cases h))
          replace hK4 := Lib.hid hK4
          clear hown hg4 hS1 hS2
          have hN8 := hk8
          have HCC : Hid (∀ T, Calls Tryz.prog 57 #[.slice (some ⟨w4.heap.size, 0, none⟩) 3 3] (w4.alloc (.cells #[.slice A1 n1 c1, .slice (some ⟨w3.heap.size, 0, none⟩) k k, .slice A2 n2 c2] T)) fun e w' => ∃ A cap, e = .returned (.slice A 8 cap) ∧ SlN .u64 w' A 8 cap (g1 ++ List.replicate k 0 ++ g2) ∧ Below (w4.alloc (.cells #[.slice A1 n1 c1, .slice (some ⟨w3.heap.size, 0, none⟩) k k, .slice A2 n2 c2] T)).heap.size (w4.alloc (.cells #[.slice A1 n1 c1, .slice (some ⟨w3.heap.size, 0, none⟩) k k, .slice A2 n2 c2] T)) w') := Lib.hid fun T =>
            concat_any w4.heap.size n1 c1 k k n2 c2 A1 (some ⟨w3.heap.size, 0, none⟩) A2 g1 (List.replicate k 0) g2 _ (by rw [World.cell?_alloc_at _ _ _ _ rfl]; rfl) (by rw [World.cell?_alloc_at _ _ _ _ rfl]; rfl) (by rw [World.cell?_alloc_at _ _ _ _ rfl]; rfl) (hT1.out.alloc _) (hK4.out.alloc _) (hT2.out.alloc _) hA1 (fun h => by cases h) hA2 hk8.out
          clear hT1 hT2 hK4 hk8 hN8
          go_wp2_with fail
          refine (HCC.out _).mono ?_
          rintro e w5 ⟨A, cap, rfl, hS, hb5⟩
          have hbb5 : Below w.heap.size w w5 := (hbb4.alloc hs4 _).trans (hb5.mono (by simp; omega))
          replace hS := Lib.hid hS
          go_wp2_with fail
          go_ret2
          exact ⟨isGr_some HN.out rfl rfl hS.out, hbb5⟩
        · have HN := Lib.hid (show groupsL l = none by rw [HD.out]; exact if_neg h7)
          have h7' : 7 < (g1.length : Int) + (g2.length : Int) := by omega
          have q1 : (g1.length : Int) ≤ 200002 := by have := HL1.out g1 rfl; omega
          have q2 : (g2.length : Int) ≤ 200002 := by have := HL2.out g2 rfl; omega
          clear HD h7 HR2
          go_wp2_with fail
          go_ret2
          exact ⟨isGr_none HN.out rfl, hbb3⟩
end Go.Proofs.YtokeeimppbiokaaGreatDoor
