/- Lists of strings. -/
import Derived.Test.YtfbggfpihiegpaaGreatDoorKpMdD
import Derived.Test.YtfbggfpihiegpaaGreatDoorKpWaysB
import Derived.Test.YtfbggfpihiegpaaGreatDoorKpNmD
import Derived.Lib.AppendZerosOnto
import Derived.Laws.AppendOwnNone
set_option linter.unusedVariables false
set_option linter.unusedSimpArgs false
set_option maxRecDepth 100000
namespace Go.Proofs.YtfbggfpihiegpaaGreatDoor
open Go.RowKit

def eStr : Enc (List UInt8) := ⟨fun l => [.string ⟨l.toArray⟩], 1, by decide, fun _ => rfl, fun x v hv => by rw [List.mem_singleton.1 hv]; rfl⟩
theorem infoStr : (Tryz.prog.info? 9).map (fun i => (i.zero, i.size, i.bytes)) = some (some (.string ⟨#[]⟩), 1, 16) := by kernel_rfl
theorem tyeStr : Ty eStr 9 81 (.string ⟨#[]⟩) 16 := ⟨Tryz.underlying81, infoStr, rfl, by decide⟩
def GivesOS {α : Type} (E : Enc α) (t : TypeId) (B : Nat) (ys : List α) (e : Ending) (w' : World) : Prop := ∃ v, e = .returned v ∧ OwnE E t B w' v ys

theorem wpList_appSt {ps : List (List UInt8)} {w : World} {ops : Array Oper} {rest : List Oper} {o : Oper} {a : Act} {Q : Exit → Act → World → Prop} (hgd : o.guard = none) (s x : Operand)
    (ho : o.op = .call { callee := .builtin .append, args := #[s, x], argTypes := #[81, 81] })
    (B : Nat) (v : Value) (xs : List (List UInt8)) (hs : a.eval s = v) (hown : OwnE eStr 9 B w v xs)
    (A : Option Addr) (m c : Nat) (hx : a.eval x = .slice A m c) (hS : SlE eStr w A m c ps) (hn : xs.length + ps.length ≤ 1000000) (hbase : B ≤ w.heap.size)
    (h : ∀ v' w', OwnE eStr 9 B w' v' (xs ++ ps) → w.grownBy w' v.ownBlock → wpList Tryz.prog ops Q rest (a.put o.dst v') w') : wpList Tryz.prog ops Q (o :: rest) a w := by
  cases A with
  | none =>
    obtain rfl := hS.2.2.1 rfl
    have hm : m = 0 := by have := hS.2.1; omega
    subst hm
    have hp : ps = [] := List.eq_nil_of_length_eq_zero hS.1.symm
    subst hp
    obtain ⟨i0, hi0, hz0, hz1, hz2⟩ := info_parts infoStr
    have hown' := hown
    unfold OwnE at hown'
    refine wpList_append_own_none hgd s x 81 ho B 9 i0 1 Tryz.underlying81 hi0 v xs.length (eStr.cells xs) hs hown' hx ?_
    refine h v w (by simpa using hown) ?_
    exact World.grownBy.refl _ _
  | some ad =>
    exact wpList_app tyeStr hgd s x ho B v xs ps hs hown ad m c hx hS.1 (fun j u hj => hS.cells j u hj) hn hbase (fun v' w' h1 h2 _ => h v' w' h1 h2)

set_option maxHeartbeats 2000000 in
theorem growStr_any (t : Nat) (w : World) (ht : t ≤ 100000) :
    Calls Tryz.prog 195 #[.slice none 0 0, .int .i64 t] w fun e w' => ∃ v, e = .returned v ∧ OwnE eStr 9 w.heap.size w' v [] ∧ Below w.heap.size w w' := by
  by_cases h0 : t = 0
  · subst h0
    go_enter Tryz.func195, Tryz.ntmps195
    go_wp2_with fail
    go_ret
    exact ⟨_, rfl, OwnE.nil _ _, Below.refl _ _⟩
  · have h1t : 1 ≤ t := by omega
    clear h0
    obtain ⟨i0, hi0, hz0, hz1, hz2⟩ := info_parts infoStr
    have hrz : ∀ ty, (Builtin.append_ #[81, 3] ty #[.slice none 0 0, .int .i64 t]).run Tryz.prog w =
        .ok (.slice (some ⟨w.heap.size, 0, none⟩) (0 + t) (grownCap w (0 + t) 0 9)) (w.drew.alloc (.cells (#[] ++ Builtin.zeroCells (Value.string ⟨#[]⟩).cells t ++ Builtin.zeroCells (Value.string ⟨#[]⟩).cells (grownCap w (0 + t) 0 9 - (0 + t))) 9)) := fun ty => by
      have h := Lib.run_append_grow_zeros w 81 3 ty 9 i0 (.string ⟨#[]⟩) .i64 .i64 Tryz.underlying81 Tryz.underlying3 hi0 hz0 none 0 0 [] (run_firstCells_none w.drew i0.size 0 0 0) t (by first | omega | (rw [hz2]; omega) | (rw [hz1]; omega)) (by first | omega | (rw [hz2]; omega) | (rw [hz1]; omega)) (by first | omega | (rw [hz2]; omega) | (rw [hz1]; omega)) (by first | omega | (rw [hz2]; omega) | (rw [hz1]; omega)) (by first | omega | (rw [hz2]; omega) | (rw [hz1]; omega)) (growslice_fits (by first | omega | (rw [hz2]; omega)) (by first | omega | (rw [hz2]; omega)))
      exact h
    obtain ⟨G, hG⟩ : ∃ G, G = grownCap w (0 + t) 0 9 := ⟨_, rfl⟩
    have hG8 : t ≤ G := by rw [hG]; have := grownCap_ge w (0 + t) 0 9; omega
    have hG63 : G ≤ maxLen := by rw [hG]; exact grownCap_le_maxLen w (0 + t) 0 9 (by unfold maxLen; omega)
    rw [← hG] at hrz
    have hzc : (Value.string ⟨#[]⟩).cells.size = 1 := rfl
    have hZ : (#[] ++ Builtin.zeroCells (Value.string ⟨#[]⟩).cells t ++ Builtin.zeroCells (Value.string ⟨#[]⟩).cells (G - (0 + t))).size = G * 1 := by
      simp only [Builtin.zeroCells, Array.size_append, Array.size_map, Array.size_range, hzc, List.size_toArray, List.length_nil]
      omega
    obtain ⟨Z, hZ0⟩ : ∃ Z, Z = (#[] ++ Builtin.zeroCells (Value.string ⟨#[]⟩).cells t ++ Builtin.zeroCells (Value.string ⟨#[]⟩).cells (G - (0 + t))) := ⟨_, rfl⟩
    rw [← hZ0] at hrz hZ
    have hW : OwnE eStr 9 w.heap.size (w.drew.alloc (.cells Z 9)) (.slice (some ⟨w.heap.size, 0, none⟩) 0 G) [] := by
      refine ⟨rfl, .inr ⟨w.heap.size, G, Z, rfl, Nat.le_refl _, ?_, Nat.zero_le _, hG63, hZ, by simp [Enc.cells]⟩⟩
      simp [World.alloc, World.drew, -World.alloc_eq, -World.drew_eq]
    have hb : Below w.heap.size w (w.drew.alloc (.cells Z 9)) := (Below.drew (Below.refl _ w)).alloc (Nat.le_refl _) _
    have hG63' : G ≤ 9223372036854775807 := by unfold maxLen at hG63; omega
    clear hZ0 hZ hG hG63
    replace hW := Lib.hid hW
    replace hb := Lib.hid hb
    go_enter Tryz.func195, Tryz.ntmps195
    go_wp2_with (at_builtin; refine Lib.wpList_append_run _ rfl _ _ _ _ rfl _ _ rfl rfl _ _ (hrz _) ?_)
    go_ret
    exact ⟨_, rfl, hW.out, hb.out⟩

set_option maxHeartbeats 4000000 in
theorem concatStr_any (q n1 c1 n2 c2 : Nat) (A1 A2 : Option Addr) (ps qs : List (List UInt8)) (w : World) (hQ : Blk w q [.slice A1 n1 c1, .slice A2 n2 c2] 81) (s1 : SlE eStr w A1 n1 c1 ps) (s2 : SlE eStr w A2 n2 c2 qs) (h1 : n1 ≤ 50000) (h2 : n2 ≤ 50000) :
    Calls Tryz.prog 115 #[.slice (some ⟨q, 0, none⟩) 2 2] w fun e w' => GivesOS eStr 9 w.heap.size (ps ++ qs) e w' ∧ Below w.heap.size w w' := by
  have HG := Lib.hid (growStr_any (n1 + n2) w (by omega))
  have m1 := Lib.hid s1.1
  have m2 := Lib.hid s2.1
  have hql := hQ.lt
  have q1 := hQ.cell (i := 0) rfl
  have q2 := hQ.cell (i := 1) rfl
  replace hQ := Lib.hid hQ
  replace s1 := Lib.hid s1
  replace s2 := Lib.hid s2
  have hw0 : ¬ (n1 : Int) < 0 := by omega
  have hw1 : ¬ (n1 : Int) + n2 < 0 := by omega
  have r1 : IntKind.i64.wrap ((n1 : Int) + n2) = (n1 : Int) + n2 := IntWalk.i64_in _ (by omega)
  go_enter Tryz.func115, Tryz.ntmps115
  go_wp2_with fail
  refine wp_loop_rounds 3 ?_
  rw [rounds_succ]
  go_wp2_with fail
  rw [rounds_succ]
  go_wp2_with fail
  rw [rounds_succ]
  go_wp2_with fail
  refine HG.out.mono ?_
  rintro e w1 ⟨v, rfl, hown, hb1⟩
  clear HG q1 q2
  have hQ1 := Blk.below hQ.out hb1
  have q1 := hQ1.cell (i := 0) rfl
  have q2 := hQ1.cell (i := 1) rfl
  have t1 := Lib.hid (s1.out.below hb1)
  have hz1 := hb1.size
  clear hQ1
  go_wp2_with fail
  refine wp_loop_rounds 3 ?_
  rw [rounds_succ]
  go_wp2_with (at_builtin; refine wpList_appSt rfl _ _ rfl w.heap.size _ [] rfl hown A1 n1 c1 rfl t1.out ?c1 hz1 ?_)
  case c1 => have := m1.out; simp; omega
  intro v2 w2 hown2 hg2
  have hb2 : Below w.heap.size w w2 := hb1.grown hg2 hz1 (fun k h => (hown.lt k h).1)
  have hQ2 := Blk.below hQ.out hb2
  clear hown hg2 q1 q2
  have q2 := hQ2.cell (i := 1) rfl
  have t2 := Lib.hid (s2.out.below hb2)
  have hz2 := hb2.size
  clear hQ2
  go_wp2_with fail
  rw [rounds_succ]
  go_wp2_with (at_builtin; refine wpList_appSt rfl _ _ rfl w.heap.size _ _ rfl hown2 A2 n2 c2 rfl t2.out ?d1 hz2 ?_)
  case d1 => have := m1.out; have := m2.out; simp; omega
  intro v3 w3 hown3 hg3
  have hb3 : Below w.heap.size w w3 := hb2.grown hg3 hz2 (fun k h => (hown2.lt k h).1)
  clear hown2 hg3 q2
  go_wp2_with fail
  rw [rounds_succ]
  go_wp2_with fail
  go_ret
  exact ⟨⟨v3, rfl, by simpa using hown3⟩, hb3⟩
end Go.Proofs.YtfbggfpihiegpaaGreatDoor
