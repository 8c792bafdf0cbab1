/- Texts with and without a colon: the program's and the reference's readings agree (pure). -/
import Derived.Test.YtkldcmmlllkhkaaGreatDoorKqPsI
import Derived.Lib.AppendZerosOnto
import Derived.Lib.SliceRun
import Derived.Laws.AppendOwnNone
set_option maxRecDepth 100000
namespace Go.Proofs.YtkldcmmlllkhkaaGreatDoor
open Go.RowKit

set_option maxHeartbeats 2000000 in
theorem grow_eight (w : World) :
    Calls Tryz.prog 159 #[.slice none 0 0, .int .i64 8] w fun e w' => ∃ v, e = .returned v ∧ w'.ownsRow w.heap.size 37 1 v 0 [] ∧ Below w.heap.size w w' := by
  obtain ⟨i0, hi0, hz0, hz1, hz2⟩ := info_parts info_u64
  have hrz : ∀ ty, (Builtin.append_ #[98, 3] ty #[.slice none 0 0, .int .i64 8]).run Tryz.prog w =
      .ok (.slice (some ⟨w.heap.size, 0, none⟩) (0 + 8) (grownCap w (0 + 8) 0 37)) (w.drew.alloc (.cells (#[] ++ Builtin.zeroCells (Value.int .u64 0).cells 8 ++ Builtin.zeroCells (Value.int .u64 0).cells (grownCap w (0 + 8) 0 37 - (0 + 8))) 37)) := fun ty => by
    have h := Lib.run_append_grow_zeros w 98 3 ty 37 i0 (.int .u64 0) .i64 .i64 Tryz.underlying98 Tryz.underlying3 hi0 hz0 none 0 0 [] (run_firstCells_none w.drew i0.size 0 0 0) 8 (by omega) (by omega) (by omega) (by omega) (by omega) (growslice_fits (by omega) (by omega))
    exact h
  obtain ⟨G, hG⟩ : ∃ G, G = grownCap w (0 + 8) 0 37 := ⟨_, rfl⟩
  have hG8 : 8 ≤ G := by rw [hG]; exact grownCap_ge w _ _ _
  have hG63 : G ≤ maxLen := by rw [hG]; exact grownCap_le_maxLen w (0 + 8) 0 37 (by unfold maxLen; omega)
  rw [← hG] at hrz
  have hZ : (#[] ++ Builtin.zeroCells (Value.int .u64 0).cells 8 ++ Builtin.zeroCells (Value.int .u64 0).cells (G - (0 + 8))).size = G := by
    simp [Builtin.zeroCells, Value.cells]; omega
  obtain ⟨Z, hZ0⟩ : ∃ Z, Z = (#[] ++ Builtin.zeroCells (Value.int .u64 0).cells 8 ++ Builtin.zeroCells (Value.int .u64 0).cells (G - (0 + 8))) := ⟨_, rfl⟩
  rw [← hZ0] at hrz hZ
  have hW : (w.drew.alloc (.cells Z 37)).ownsRow w.heap.size 37 1 (.slice (some ⟨w.heap.size, 0, none⟩) 0 G) 0 [] := by
    refine ⟨rfl, .inr ⟨w.heap.size, G, Z, rfl, Nat.le_refl _, ?_, Nat.zero_le _, hG63, by omega, by simp⟩⟩
    simp [World.alloc, World.drew, -World.alloc_eq, -World.drew_eq]
  have hb : Below w.heap.size w (w.drew.alloc (.cells Z 37)) := (Below.drew (Below.refl _ w)).alloc (Nat.le_refl _) _
  have hG63' : G ≤ 9223372036854775807 := by unfold maxLen at hG63; omega
  clear hZ0 hZ hG hG63
  replace hW := Lib.hid hW
  replace hb := Lib.hid hb
  go_enter Tryz.func159, Tryz.ntmps159
  go_wp2_with (at_builtin; refine Lib.wpList_append_run _ rfl _ _ _ _ rfl _ _ rfl rfl _ _ (hrz _) ?_)
  go_ret
  exact ⟨_, rfl, hW.out, hb.out⟩

theorem append_sl {w : World} {ops : Array Oper} {rest : List Oper} {o : Oper} {a : Act} {Q : Exit → Act → World → Prop} (hgd : o.guard = none) (s x : Operand)
    (ho : o.op = .call { callee := .builtin .append, args := #[s, x], argTypes := #[98, 98] })
    (base : Nat) (v : Value) (n : Nat) (xs : List Value) (hs : a.eval s = v) (hown : w.ownsRow base 37 1 v n xs)
    (A : Option Addr) (m c : Nat) (gs : List Nat) (hx : a.eval x = .slice A m c) (hS : SlN .u64 w A m c gs) (hA : A = none → c = 0) (hb : n + m ≤ 1000000) (hbase : base ≤ w.heap.size)
    (h : ∀ v' w', w'.ownsRow base 37 1 v' (n + m) (xs ++ gs.map fun (g : Nat) => Value.int .u64 (g : Int)) → w.grownBy w' v.ownBlock → wpList Tryz.prog ops Q rest (a.put o.dst v') w') : wpList Tryz.prog ops Q (o :: rest) a w := by
  obtain ⟨i0, hi0, hz0, hz1, hz2⟩ := info_parts info_u64
  cases A with
  | none =>
    obtain rfl := hA rfl
    have hm : m = 0 := by
      rcases hS.2.2 with h0 | ⟨_, _, h0, _⟩
      · exact h0
      · cases h0
    subst hm
    have hg : gs = [] := by
      have := hS.1
      rw [List.length_map] at this
      exact List.eq_nil_of_length_eq_zero this.symm
    subst hg
    refine wpList_append_own_none hgd s x 98 ho base 37 i0 1 Tryz.underlying98 hi0 v n xs hs hown hx ?_
    refine h v w (by simpa using hown) ?_
    exact World.grownBy.refl _ _
  | some ad =>
    refine wpList_append_own w hgd s x 98 ho base 37 i0 (.int .u64 0) 1 8 Tryz.underlying98 hi0 hz0 hz1 hz2 rfl (by decide) v n xs hs hown ad m c (gs.map fun (g : Nat) => Value.int .u64 (g : Int)) hx (by rw [Nat.mul_one]; exact hS.1.symm) (fun j u hj => ?_) (fun u hu => ?_) (by unfold maxLen; omega) (by omega) hbase (fun v' w' h1 h2 _ => h v' w' h1 h2)
    · rcases hS.2.2 with h0 | ⟨g, off, h0, _, h2⟩
      · have h1 : (gs.map fun (g : Nat) => Value.int .u64 (g : Int)).length = 0 := by rw [← hS.1]; exact h0
        rw [List.eq_nil_of_length_eq_zero h1] at hj
        cases hj
      · cases h0
        have e : Addr.add ⟨g, off, none⟩ j = ⟨g, off + j, none⟩ := by
          unfold Addr.add
          split
          · rename_i h; subst h; rfl
          · rfl
        rw [e]
        exact h2 j u hj
    · obtain ⟨g, _, rfl⟩ := List.mem_map.1 hu
      rfl

theorem concat_any (B n1 c1 n2 c2 n3 c3 : Nat) (A1 A2 A3 : Option Addr) (g1 g2 g3 : List Nat) (w : World)
    (h1 : w.cell? ⟨B, 0, none⟩ = some (.slice A1 n1 c1)) (h2 : w.cell? ⟨B, 1, none⟩ = some (.slice A2 n2 c2)) (h3 : w.cell? ⟨B, 2, none⟩ = some (.slice A3 n3 c3))
    (s1 : SlN .u64 w A1 n1 c1 g1) (s2 : SlN .u64 w A2 n2 c2 g2) (s3 : SlN .u64 w A3 n3 c3 g3) (z1 : A1 = none → c1 = 0) (z2 : A2 = none → c2 = 0) (z3 : A3 = none → c3 = 0) (hn : n1 + n2 + n3 = 8) :
    Calls Tryz.prog 134 #[.slice (some ⟨B, 0, none⟩) 3 3] w fun e w' => ∃ A cap, e = .returned (.slice A 8 cap) ∧ SlN .u64 w' A 8 cap (g1 ++ g2 ++ g3) ∧ Below w.heap.size w w' := by
  have HG := Lib.hid (grow_eight w)
  have hn' : (n1 : Int) + (n2 : Int) + (n3 : Int) = 8 := by omega
  have m1 : (n1 : Int) ≤ 8 := by omega
  have m2 : (n1 : Int) + (n2 : Int) ≤ 8 := by omega
  have hBw : B < w.heap.size := by have := World.block_lt_of_cell? w _ h1; exact this
  go_enter Tryz.func134, Tryz.ntmps134
  go_wp2_with fail
  refine wp_loop_rounds 4 ?_
  rw [rounds_succ]
  go_wp2_with fail
  rw [rounds_succ]
  go_wp2_with fail
  rw [rounds_succ]
  go_wp2_with fail
  rw [rounds_succ]
  go_wp2_with fail
  refine HG.out.mono ?_
  rintro e w1 ⟨v0, rfl, hown0, hb0⟩
  have hs0 := hb0.size
  have k0 : w1.cell? ⟨B, 0, none⟩ = some (.slice A1 n1 c1) := (hb0.cell (p := ⟨B, 0, none⟩) hBw).trans h1
  replace hown0 := Lib.hid hown0
  replace s1 := Lib.hid s1
  replace s2 := Lib.hid s2
  replace s3 := Lib.hid s3
  replace h2 := Lib.hid h2
  replace h3 := Lib.hid h3
  clear HG h1 hn' m1 m2
  go_wp2_with fail
  refine wp_loop_rounds 4 ?_
  rw [rounds_succ]
  go_wp2_with (at_builtin; refine append_sl rfl _ _ rfl w.heap.size _ _ _ rfl hown0.out A1 n1 c1 g1 rfl (s1.out.keep hs0 fun j hj => hb0.block j hj) z1 (by omega) hs0 ?_)
  intro v1 x1 hown1 hg1
  have hb1 : Below w.heap.size w x1 := hb0.grown hg1 hs0 (fun k h => (hown0.out.lt k h).1)
  have hs1 := hb1.size
  replace hown1 := Lib.hid hown1
  clear hg1
  have k1 : x1.cell? ⟨B, 1, none⟩ = some (.slice A2 n2 c2) := (hb1.cell (p := ⟨B, 1, none⟩) hBw).trans h2.out
  clear k0
  go_wp2_with fail
  rw [rounds_succ]
  go_wp2_with (at_builtin; refine append_sl rfl _ _ rfl w.heap.size _ _ _ rfl hown1.out A2 n2 c2 g2 rfl (s2.out.keep hs1 fun j hj => hb1.block j hj) z2 (by omega) hs1 ?_)
  intro v2 x2 hown2 hg2
  have hb2 : Below w.heap.size w x2 := hb1.grown hg2 hs1 (fun k h => (hown1.out.lt k h).1)
  have hs2 := hb2.size
  replace hown2 := Lib.hid hown2
  clear hg2
  have k2 : x2.cell? ⟨B, 2, none⟩ = some (.slice A3 n3 c3) := (hb2.cell (p := ⟨B, 2, none⟩) hBw).trans h3.out
  clear k1
  go_wp2_with fail
  rw [rounds_succ]
  go_wp2_with (at_builtin; refine append_sl rfl _ _ rfl w.heap.size _ _ _ rfl hown2.out A3 n3 c3 g3 rfl (s3.out.keep hs2 fun j hj => hb2.block j hj) z3 (by omega) hs2 ?_)
  intro v3 x3 hown3 hg3
  have hb3 : Below w.heap.size w x3 := hb2.grown hg3 hs2 (fun k h => (hown2.out.lt k h).1)
  have hs3 := hb3.size
  replace hown3 := Lib.hid hown3
  clear hg3
  go_wp2_with fail
  rw [rounds_succ]
  go_wp2_with fail
  obtain ⟨A, cap, rfl, hS⟩ := Sl.of_own hown3.out
  go_ret
  refine ⟨A, cap, rfl, ?_, hb3⟩
  unfold SlN
  rw [List.map_append, List.map_append, List.append_assoc]
  exact hS

def joinR : Option (List Nat) → Option (List Nat) → Option (List Nat)
  | some x, some y => if x.length + y.length ≤ 7 then some (x ++ List.replicate (8 - x.length - y.length) 0 ++ y) else none
  | _, _ => none
def eightR : Option (List Nat) → Option (List Nat)
  | some x => if x.length = 8 then some x else none
  | none => none
def groupsL (l : List UInt8) : Option (List Nat) :=
  if (Lib.cut l [58, 58]).2.2 = true then joinR (rowL false (Lib.cut l [58, 58]).1) (rowL true (Lib.cut l [58, 58]).2.1) else eightR (rowL true l)

def isGr (w' : World) : Option (List Nat) → Ending → Prop
  | some gs, e => ∃ A cap, e = .returned (.tuple #[.slice A 8 cap, .bool true]) ∧ SlN .u64 w' A 8 cap gs
  | none, e => ∃ v, e = .returned (.tuple #[v, .bool false])
def GivesGr (o : Option (List Nat)) (w : World) (e : Ending) (w' : World) : Prop := isGr w' o e ∧ Below w.heap.size w w'
theorem isGr_none {w' : World} {o : Option (List Nat)} {v : Value} {b : Bool} (h : o = none) (hb : b = false) : isGr w' o (.returned (.tuple #[v, .bool b])) := by rw [h, hb]; exact ⟨v, rfl⟩
theorem isGr_some {w' : World} {o : Option (List Nat)} {gs : List Nat} {A : Option Addr} {cap n : Nat} {b : Bool} (h : o = some gs) (hb : b = true) (hn : n = 8) (hS : SlN .u64 w' A n cap gs) : isGr w' o (.returned (.tuple #[.slice A n cap, .bool b])) := by rw [h, hb]; subst hn; exact ⟨A, cap, rfl, hS⟩

theorem made_zeros (k : Nat) : (madeCells #[Value.int .u64 0] k).toList = (List.replicate k 0).map fun (g : Nat) => Value.int .u64 (g : Int) := by
  apply List.ext_getElem
  · simp [madeCells]
  · intro j h1 h2
    simp [madeCells, Nat.mod_one]
theorem rowA_len (t : Bool) : ∀ (ps : List (List UInt8)) (acc gs : List Nat), rowAP t acc ps = some gs → gs.length ≤ acc.length + 2 * ps.length
  | [], acc, gs, h => by rw [rowAP] at h; cases h; simp
  | p :: r, acc, gs, h => by
    rw [rowAP] at h
    split at h
    · have := rowA_len t r _ gs h
      simp at this ⊢; omega
    · split at h
      · have := rowA_len t r _ gs h
        simp at this ⊢; omega
      · cases h
theorem rowL_len {t : Bool} {l : List UInt8} {gs : List Nat} (h : rowL t l = some gs) : gs.length ≤ 2 * l.length + 2 := by
  unfold rowL at h
  split at h
  · cases h; simp
  · have h1 := rowA_len t _ _ _ h
    have h2 := parts_len l 58
    simp at h1; omega
theorem cut_short (l : List UInt8) : (Lib.cut l [58, 58]).1.length ≤ l.length ∧ (Lib.cut l [58, 58]).2.1.length ≤ l.length := by
  unfold Lib.cut
  split <;> simp <;> omega
theorem cut_miss (l : List UInt8) (h : (Lib.cut l [58, 58]).2.2 = false) : (Lib.cut l [58, 58]).1 = l ∧ (Lib.cut l [58, 58]).2.1 = [] := by
  unfold Lib.cut at h ⊢
  split <;> simp_all

theorem cut_any (l : List UInt8) (w : World) (hC : Cons w) (hl : l.length ≤ 100000) :
    Calls Tryz.prog 56 #[.string ⟨l.toArray⟩, .string ⟨#[58, 58]⟩] w (GivesV (.tuple #[.string ⟨(Lib.cut l [58, 58]).1.toArray⟩, .string ⟨(Lib.cut l [58, 58]).2.1.toArray⟩, .bool (Lib.cut l [58, 58]).2.2]) w) := by
  obtain ⟨m, hm⟩ := hC.maxl
  refine (Tryz.strings_Cut ⟨l.toArray⟩ ⟨#[58, 58]⟩ m w (by rw [Lib.size_eq]; exact Nat.lt_of_le_of_lt hl (by decide)) hm).mono ?_
  rintro e w' ⟨rfl, n, rfl⟩
  exact ⟨rfl, below_drewN (Below.refl _ _) n⟩

set_option maxHeartbeats 2000000 in
theorem readGroups_any (l : List UInt8) (w : World) (hC : Cons w) (hl : l.length ≤ 100000) :
    Calls Tryz.prog 110 #[.string ⟨l.toArray⟩] w (GivesGr (groupsL l) w) := by
  have HK := Lib.hid (cut_any l w hC hl)
  obtain ⟨hla, hlb⟩ := cut_short l
  generalize hc : Lib.cut l [58, 58] = c at *
  obtain ⟨a, b, s⟩ := c
  have HW : ∀ w1, Below w.heap.size w w1 → Hid (Cons w1) := fun w1 h => Lib.hid (hC.below h)
  cases s with
  | false =>
    have HD : Hid (groupsL l = eightR (rowL true l)) := Lib.hid (by unfold groupsL; rw [hc]; rfl)
    clear hc hla hlb hC
    go_enter Tryz.func110, Tryz.ntmps110
    go_wp2_with fail
    refine HK.out.mono ?_
    rintro e w1 ⟨rfl, hb1⟩
    have HR := Lib.hid (readRow_any l true w1 (HW _ hb1).out hl)
    clear HK HW
    have hs1 := hb1.size
    generalize rowL true l = o at HR HD
    go_wp2_with fail
    refine HR.out.mono ?_
    rintro e w2 ⟨hr, hb2⟩
    have hbb := hb1.trans (hb2.mono hs1)
    cases o with
    | none =>
      obtain rfl := hr
      go_wp2_with fail
      go_ret2
      exact ⟨isGr_none HD.out rfl, hbb⟩
    | some gs =>
      obtain ⟨A, cap, rfl, hS, hA⟩ := hr
      by_cases h8 : gs.length = 8
      · have HN := Lib.hid (show groupsL l = some gs by rw [HD.out]; exact if_pos h8)
        rw [h8] at hS ⊢
        clear HD h8
        go_wp2_with fail
        go_ret2
        exact ⟨isGr_some HN.out rfl rfl hS, hbb⟩
      · have HN := Lib.hid (show groupsL l = none by rw [HD.out]; exact if_neg h8)
        have b8 : ((gs.length : Int) == 8) = false := by rw [beq_eq_false_iff_ne]; omega
        clear HD h8
        go_wp2_with fail
        go_ret2
        exact ⟨isGr_none HN.out rfl, hbb⟩
  | true =>
    have HD : Hid (groupsL l = joinR (rowL false a) (rowL true b)) := Lib.hid (by unfold groupsL; rw [hc]; rfl)
    have ha : a.length ≤ 100000 := Nat.le_trans hla hl
    have hb : b.length ≤ 100000 := Nat.le_trans hlb hl
    clear hc hla hlb hC hl
    obtain ⟨i0, hi0, hz0, hz1, hz2⟩ := info_parts info_u64
    go_enter Tryz.func110, Tryz.ntmps110
    go_wp2_with fail
    refine HK.out.mono ?_
    rintro e w1 ⟨rfl, hb1⟩
    have HR := Lib.hid (readRow_any a false w1 (HW _ hb1).out ha)
    clear HK
    have hs1 := hb1.size
    have HL1 : Hid (∀ gs, rowL false a = some gs → gs.length ≤ 200002) := Lib.hid fun gs h => Nat.le_trans (rowL_len h) (by omega)
    generalize rowL false a = o at HR HD HL1
    go_wp2_with fail
    refine HR.out.mono ?_
    rintro e w2 ⟨hr, hb2⟩
    have hbb2 := hb1.trans (hb2.mono hs1)
    have hs2 := hbb2.size
    cases o with
    | none =>
      obtain rfl := hr
      have HN := Lib.hid (show groupsL l = none by rw [HD.out]; rfl)
      clear HD HW
      go_wp2_with fail
      go_ret2
      exact ⟨isGr_none HN.out rfl, hbb2⟩
    | some g1 =>
      obtain ⟨A1, c1, rfl, hS1, hA1⟩ := hr
      have HR2 := Lib.hid (readRow_any b true w2 (HW _ hbb2).out hb)
      clear HR HW hb1 hb2
      have HL2 : Hid (∀ gs, rowL true b = some gs → gs.length ≤ 200002) := Lib.hid fun gs h => Nat.le_trans (rowL_len h) (by omega)
      generalize rowL true b = o at HR2 HD HL2
      go_wp2_with fail
      refine HR2.out.mono ?_
      rintro e w3 ⟨hr, hb3⟩
      have hbb3 := hbb2.trans (hb3.mono hs2)
      have hs3 := hbb3.size
      replace hS1 := hS1.below hb3
      cases o with
      | none =>
        obtain rfl := hr
        have HN := Lib.hid (show groupsL l = none by rw [HD.out]; rfl)
        clear HD
        go_wp2_with fail
        go_ret2
        exact ⟨isGr_none HN.out rfl, hbb3⟩
      | some g2 =>
        obtain ⟨A2, c2, rfl, hS2, hA2⟩ := hr
        by_cases h7 : g1.length + g2.length ≤ 7
        · have HN := Lib.hid (show groupsL l = some (g1 ++ List.replicate (8 - g1.length - g2.length) 0 ++ g2) by rw [HD.out]; exact if_pos h7)
          obtain ⟨k, hk⟩ : ∃ k, k = 8 - g1.length - g2.length := ⟨_, rfl⟩
          rw [← hk] at HN
          have hk8 : g1.length + k + g2.length = 8 := by omega
          obtain ⟨n1, hn1⟩ : ∃ n1, n1 = g1.length := ⟨_, rfl⟩
          obtain ⟨n2, hn2⟩ : ∃ n2, n2 = g2.length := ⟨_, rfl⟩
          rw [← hn1] at hS1 h7 hk8 ⊢
          rw [← hn2] at hS2 h7 hk8 ⊢
          have h7' : (n1 : Int) + (n2 : Int) ≤ 7 := by omega
          have hk' : (8 : Int) - (n1 : Int) - (n2 : Int) = (k : Int) := by omega
          have hm1 : (n1 : Int) ≤ 7 := by omega
          have hk9 : k ≤ 8 := by omega
          have hm2 : (n2 : Int) ≤ 7 := by omega
          clear HD HR2 hk hn1 hn2 hb3 hbb2 h7
          replace hk8 := Lib.hid hk8
          replace hk' := Lib.hid hk'
          replace hS1 := Lib.hid hS1
          replace hS2 := Lib.hid hS2
          go_wp2_with (refine wpList_make_full _ rfl _ _ 98 rfl w.heap.size 37 i0 (.int .u64 0) 1 Tryz.underlying98 hi0 hz0 hz1 .i64 .i64 _ _ k rfl rfl hk'.out hk'.out ?c1 ?c2 hs3 ?_)
          case c1 => rw [hz2]; omega
          case c2 => unfold maxLen; omega
          intro w4 hown hg4
          have hbb4 : Below w.heap.size w w4 := hbb3.grown hg4 hs3 (fun k h => by cases h)
          have hs4 := hbb4.size
          have hK4 : Sl w4 (some ⟨w3.heap.size, 0, none⟩) k k ((List.replicate k 0).map fun (g : Nat) => Value.int .u64 (g : Int)) := by
            obtain ⟨A, cap, hA, hS⟩ := Sl.of_own hown
            cases hA
            rw [made_zeros k] at hS
            exact hS
          have hT1 := Lib.hid (hS1.out.keep hg4.size fun j hj => hg4.block j hj (by intro h; cases h))
          have hT2 := Lib.hid (hS2.out.keep hg4.size fun j hj => hg4.block j hj (by intro h; cases h))
          replace hK4 := Lib.hid hK4
          clear hown hg4 hS1 hS2
          have hN8 := hk8
          have HCC : Hid (∀ T, Calls Tryz.prog 134 #[.slice (some ⟨w4.heap.size, 0, none⟩) 3 3] (w4.alloc (.cells #[.slice A1 n1 c1, .slice (some ⟨w3.heap.size, 0, none⟩) k k, .slice A2 n2 c2] T)) fun e w' => ∃ A cap, e = .returned (.slice A 8 cap) ∧ SlN .u64 w' A 8 cap (g1 ++ List.replicate k 0 ++ g2) ∧ Below (w4.alloc (.cells #[.slice A1 n1 c1, .slice (some ⟨w3.heap.size, 0, none⟩) k k, .slice A2 n2 c2] T)).heap.size (w4.alloc (.cells #[.slice A1 n1 c1, .slice (some ⟨w3.heap.size, 0, none⟩) k k, .slice A2 n2 c2] T)) w') := Lib.hid fun T =>
            concat_any w4.heap.size n1 c1 k k n2 c2 A1 (some ⟨w3.heap.size, 0, none⟩) A2 g1 (List.replicate k 0) g2 _ (by rw [World.cell?_alloc_at _ _ _ _ rfl]; rfl) (by rw [World.cell?_alloc_at _ _ _ _ rfl]; rfl) (by rw [World.cell?_alloc_at _ _ _ _ rfl]; rfl) (hT1.out.alloc _) (hK4.out.alloc _) (hT2.out.alloc _) hA1 (fun h => by cases h) hA2 hk8.out
          clear hT1 hT2 hK4 hk8 hN8
          go_wp2_with fail
          refine (HCC.out _).mono ?_
          rintro e w5 ⟨A, cap, rfl, hS, hb5⟩
          have hbb5 : Below w.heap.size w w5 := (hbb4.alloc hs4 _).trans (hb5.mono (by simp; omega))
          replace hS := Lib.hid hS
          go_wp2_with fail
          go_ret2
          exact ⟨isGr_some HN.out rfl rfl hS.out, hbb5⟩
        · have HN := Lib.hid (show groupsL l = none by rw [HD.out]; exact if_neg h7)
          have h7' : 7 < (g1.length : Int) + (g2.length : Int) := by omega
          have q1 : (g1.length : Int) ≤ 200002 := by have := HL1.out g1 rfl; omega
          have q2 : (g2.length : Int) ≤ 200002 := by have := HL2.out g2 rfl; omega
          clear HD h7 HR2
          go_wp2_with fail
          go_ret2
          exact ⟨isGr_none HN.out rfl, hbb3⟩

theorem parts_eq (l : List UInt8) (c : UInt8) : parts l c = Lib.splitK [c] 0 (l.count c) l := by
  unfold parts
  have h := Lib.splitB_data ⟨#[c]⟩ 0 (Lib.countB ⟨l.toArray⟩ ⟨#[c]⟩) ⟨l.toArray⟩
  have e : Lib.countB ⟨l.toArray⟩ ⟨#[c]⟩ = l.count c := by rw [← Lib.count_one]
  rw [e] at h ⊢
  exact h
theorem parts_one {l : List UInt8} {c : UInt8} (h : c ∉ l) : parts l c = [l] := by
  rw [parts_eq, List.count_eq_zero.2 h]; rfl

theorem index_at {l : List UInt8} {c : UInt8} {i : Nat} (h : Lib.index l [c] = i) : l[i]? = some c := by
  rcases Lib.index_spec l [c] with ⟨h', _⟩ | ⟨j, h1, _, h2, _⟩
  · omega
  · have : j = i := by omega
    subst this
    exact Lib.occAt_head rfl h2

theorem mem_splitK (c : UInt8) : ∀ (k : Nat) (l : List UInt8) (x : UInt8), x ∈ l → x ≠ c → ∃ p ∈ Lib.splitK [c] 0 k l, x ∈ p
  | 0, l, x, hx, _ => ⟨l, by rw [Lib.splitK]; exact List.mem_singleton_self _, hx⟩
  | k + 1, l, x, hx, hc => by
    rw [Lib.splitK]
    split
    · exact ⟨l, List.mem_singleton_self _, hx⟩
    · rename_i hi
      obtain ⟨i, h⟩ : ∃ i : Nat, Lib.index l [c] = i := by
        rcases Lib.index_spec l [c] with ⟨h', _⟩ | ⟨j, h1, _⟩
        · rw [h'] at hi; exact absurd rfl hi
        · exact ⟨j, h1⟩
      rw [h]
      have hat := index_at h
      obtain ⟨j, hj, hjx⟩ := List.mem_iff_getElem.1 hx
      have hil : i < l.length := (List.getElem?_eq_some_iff.1 hat).1
      rcases Nat.lt_trichotomy j i with hlt | heq | hgt
      · refine ⟨_, List.mem_cons_self, List.mem_iff_getElem?.2 ⟨j, ?_⟩⟩
        have : j < (i : Int).toNat + 0 := by simp; exact hlt
        rw [List.getElem?_take_of_lt this, List.getElem?_eq_getElem hj, hjx]
      · subst heq
        rw [List.getElem?_eq_getElem hj, hjx] at hat
        cases hat; exact absurd rfl hc
      · have hm : x ∈ l.drop ((i : Int).toNat + 1) := by
          refine List.mem_iff_getElem?.2 ⟨j - (i + 1), ?_⟩
          rw [List.getElem?_drop, show (i : Int).toNat + 1 + (j - (i + 1)) = j by simp; omega, List.getElem?_eq_getElem hj, hjx]
        obtain ⟨p, hp, hxp⟩ := mem_splitK c k _ x hm hc
        exact ⟨p, List.mem_cons_of_mem _ hp, hxp⟩

theorem goB_digits : ∀ (ps : List (List UInt8)) (n m : Nat), goB ps n = some m → ∀ p ∈ ps, p.all isDig = true
  | [], _, _, _ => by simp
  | q :: r, n, m, h => by
    rw [goB] at h
    split at h
    · rename_i b hb
      intro p hp
      rcases List.mem_cons.1 hp with rfl | hp
      · unfold byteL at hb
        split at hb
        · rename_i k hk
          unfold numL at hk
          split at hk
          · cases hk
          · split at hk
            · rename_i hd; exact hd
            · cases hk
        · cases hb
      · exact goB_digits r _ m h p hp
    · cases h
theorem four_colon {l : List UInt8} (h : (58 : UInt8) ∈ l) : fourL l = none := by
  cases hf : fourL l with
  | none => rfl
  | some n =>
    unfold fourL fourP at hf
    split at hf
    · have hd := goB_digits _ _ _ hf
      obtain ⟨p, hp, hx⟩ := mem_splitK 46 (l.count 46) l 58 h (by decide)
      rw [← parts_eq] at hp
      have := List.all_eq_true.1 (hd p hp) 58 hx
      exact absurd this (by decide)
    · cases hf
theorem cut_colon {l : List UInt8} (h : (58 : UInt8) ∉ l) : (Lib.cut l [58, 58]).2.2 = false := by
  unfold Lib.cut
  split
  · rename_i hi
    rcases Lib.index_spec l [58, 58] with ⟨h', _⟩ | ⟨j, h1, _, h2, _⟩
    · omega
    · exact absurd (List.mem_iff_getElem?.2 ⟨j, Lib.occAt_head rfl h2⟩) h
  · rfl
theorem groups_none {l : List UInt8} (h : (58 : UInt8) ∉ l) (hf : fourL l = none) : groupsL l = none := by
  unfold groupsL
  rw [cut_colon h]
  unfold rowL
  by_cases hl : l = []
  · rw [if_pos hl]; rfl
  · rw [if_neg hl, parts_one h]
    cases hg : groupL l with
    | none => rw [rowA_none (by rw [if_pos ⟨rfl, rfl⟩]; exact hf) hg]; rfl
    | some g => rw [rowA_group (by rw [if_pos ⟨rfl, rfl⟩]; exact hf) hg]; rfl
theorem index_mem (l : List UInt8) (c : UInt8) : (0 ≤ Lib.indexByte l c) ↔ c ∈ l := by
  induction l with
  | nil => simp [Lib.indexByte]
  | cons b r ih =>
    rw [Lib.indexByte]
    by_cases hb : b = c
    · subst hb; simp
    · have hb' : (b == c) = false := by simpa using hb
      rw [hb', List.mem_cons]
      have hc : ¬ c = b := fun h => hb h.symm
      have hge : ∀ r : List UInt8, -1 ≤ Lib.indexByte r c := fun r => by
        induction r with
        | nil => simp [Lib.indexByte]
        | cons d r ih =>
          rw [Lib.indexByte]
          split
          · omega
          · split <;> omega
      have := hge r
      simp only [hc, false_or]
      rw [← ih]
      simp only [Bool.false_eq_true, if_false]
      split
      · rename_i h; have := beq_iff_eq.1 h; omega
      · rename_i h; have : Lib.indexByte r c ≠ -1 := fun k => h (beq_iff_eq.2 k); omega

theorem rowA_small (t : Bool) : ∀ (ps : List (List UInt8)) (acc gs : List Nat), (∀ g ∈ acc, g < 65536) → rowAP t acc ps = some gs → ∀ g ∈ gs, g < 65536
  | [], acc, gs, ha, h => by rw [rowAP] at h; cases h; exact ha
  | p :: r, acc, gs, ha, h => by
    rw [rowAP] at h
    split at h
    · rename_i n hn
      have hn32 : n < 4294967296 := by
        split at hn
        · exact fourL_lt hn
        · cases hn
      refine rowA_small t r _ gs (fun g hg => ?_) h
      rcases List.mem_append.1 hg with hg | hg
      · exact ha g hg
      · simp at hg
        rcases hg with rfl | rfl <;> omega
    · split at h
      · rename_i g0 hg0
        refine rowA_small t r _ gs (fun g hg => ?_) h
        rcases List.mem_append.1 hg with hg | hg
        · exact ha g hg
        · simp at hg; subst hg; exact groupL_lt hg0
      · cases h
theorem rowL_small {t : Bool} {l : List UInt8} {gs : List Nat} (h : rowL t l = some gs) : ∀ g ∈ gs, g < 65536 := by
  unfold rowL at h
  split at h
  · cases h; simp
  · exact rowA_small t _ _ _ (by simp) h
theorem groupsL_eight {l : List UInt8} {gs : List Nat} (h : groupsL l = some gs) : gs.length = 8 ∧ ∀ g ∈ gs, g < 65536 := by
  unfold groupsL at h
  split at h
  · cases ha : rowL false (Lib.cut l [58, 58]).1 with
    | none => rw [ha] at h; cases h
    | some x =>
      cases hb : rowL true (Lib.cut l [58, 58]).2.1 with
      | none => rw [ha, hb] at h; cases h
      | some y =>
        rw [ha, hb] at h
        have e : joinR (some x) (some y) = if x.length + y.length ≤ 7 then some (x ++ List.replicate (8 - x.length - y.length) 0 ++ y) else none := rfl
        rw [e] at h
        by_cases h7 : x.length + y.length ≤ 7
        · rw [if_pos h7] at h
          cases h
          refine ⟨by simp; omega, fun g hg => ?_⟩
          rcases List.mem_append.1 hg with hg | hg
          · rcases List.mem_append.1 hg with hg | hg
            · exact rowL_small ha g hg
            · have := (List.mem_replicate.1 hg).2; omega
          · exact rowL_small hb g hg
        · rw [if_neg h7] at h
          cases h
  · cases ha : rowL true l with
    | none => rw [ha] at h; cases h
    | some x =>
      rw [ha] at h
      have e : eightR (some x) = if x.length = 8 then some x else none := rfl
      rw [e] at h
      by_cases h8 : x.length = 8
      · rw [if_pos h8] at h
        cases h; exact ⟨h8, rowL_small ha⟩
      · rw [if_neg h8] at h
        cases h

def acc16 (gs : List Nat) : Nat := gs.foldl (fun n g => n * 65536 + g) 0
theorem acc16_snoc (gs : List Nat) (g : Nat) : acc16 (gs ++ [g]) = acc16 gs * 65536 + g := by simp [acc16]
theorem acc16_lt : ∀ (k : Nat) (gs : List Nat), gs.length = k → (∀ g ∈ gs, g < 65536) → acc16 gs < 65536 ^ k
  | 0, gs, h, _ => by rw [List.eq_nil_of_length_eq_zero h]; decide
  | k + 1, gs, h, hg => by
    have hne : gs ≠ [] := by intro e; rw [e] at h; cases h
    rw [← List.dropLast_concat_getLast hne, acc16_snoc]
    have h1 := acc16_lt k gs.dropLast (by rw [List.length_dropLast]; omega) (fun g h => hg g (List.dropLast_subset _ h))
    have h2 := hg _ (List.getLast_mem hne)
    rw [Nat.pow_succ]; omega
def looseL (l : List UInt8) : Option (Bool × Nat × Nat) :=
  if (58 : UInt8) ∈ l then (groupsL l).map fun gs => (true, acc16 (gs.take 4), acc16 (gs.drop 4)) else (fourL l).map fun n => (false, 0, n)
theorem looseL_four {l : List UInt8} {n : Nat} (h : fourL l = some n) : looseL l = some (false, 0, n) := by
  unfold looseL
  rw [if_neg (fun k => by rw [four_colon k] at h; cases h), h]; rfl
theorem looseL_groups {l : List UInt8} (h : fourL l = none) : looseL l = (groupsL l).map fun gs => (true, acc16 (gs.take 4), acc16 (gs.drop 4)) := by
  unfold looseL
  by_cases hc : (58 : UInt8) ∈ l
  · rw [if_pos hc]
  · rw [if_neg hc, h, groups_none hc h]; rfl
end Go.Proofs.YtkldcmmlllkhkaaGreatDoor
