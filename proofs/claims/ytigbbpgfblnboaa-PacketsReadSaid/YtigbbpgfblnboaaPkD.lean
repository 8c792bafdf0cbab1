/- Packets: Grow of nothing, append of slices, Concat. -/
import Derived.Test.YtigbbpgfblnboaaPkC
namespace Go.Proofs.Ytigbbpgfblnboaa
open Go.RowKit

set_option maxHeartbeats 2000000 in
set_option maxRecDepth 100000 in
theorem grow_any (t : Nat) (w : World) (h1t : 1 ≤ t) (ht : t ≤ 100000) :
    Calls Try.prog 76 #[.slice none 0 0, .int .i64 t] w fun e w' => ∃ v, e = .returned v ∧ w'.ownsRow w.heap.size 5 1 v 0 [] ∧ Below w.heap.size w w' := by
  obtain ⟨i0, hi0, hz0, hz1, hz2⟩ := info_parts8 info_u8
  have hrz : ∀ ty, (Builtin.append_ #[43, 3] ty #[.slice none 0 0, .int .i64 t]).run Try.prog w =
      .ok (.slice (some ⟨w.heap.size, 0, none⟩) (0 + t) (grownCap w (0 + t) 0 5)) (w.drew.alloc (.cells (#[] ++ Builtin.zeroCells (Value.int .u8 0).cells t ++ Builtin.zeroCells (Value.int .u8 0).cells (grownCap w (0 + t) 0 5 - (0 + t))) 5)) := fun ty => by
    have h := Lib.run_append_grow_zeros w 43 3 ty 5 i0 (.int .u8 0) .i64 .i64 Try.underlying43 Try.underlying3 hi0 hz0 none 0 0 [] (run_firstCells_none w.drew i0.size 0 0 0) t (by first | omega | (rw [hz2]; omega)) (by first | omega | (rw [hz2]; omega)) (by first | omega | (rw [hz2]; omega)) (by first | omega | (rw [hz2]; omega)) (by first | omega | (rw [hz2]; omega)) (growslice_fits (by first | omega | (rw [hz2]; omega)) (by first | omega | (rw [hz2]; omega)))
    exact h
  obtain ⟨G, hG⟩ : ∃ G, G = grownCap w (0 + t) 0 5 := ⟨_, rfl⟩
  have hG8 : t ≤ G := by rw [hG]; have := grownCap_ge w (0 + t) 0 5; omega
  have hG63 : G ≤ maxLen := by rw [hG]; exact grownCap_le_maxLen w (0 + t) 0 5 (by unfold maxLen; omega)
  rw [← hG] at hrz
  have hZ : (#[] ++ Builtin.zeroCells (Value.int .u8 0).cells t ++ Builtin.zeroCells (Value.int .u8 0).cells (G - (0 + t))).size = G := by
    simp [Builtin.zeroCells, Value.cells]; omega
  obtain ⟨Z, hZ0⟩ : ∃ Z, Z = (#[] ++ Builtin.zeroCells (Value.int .u8 0).cells t ++ Builtin.zeroCells (Value.int .u8 0).cells (G - (0 + t))) := ⟨_, rfl⟩
  rw [← hZ0] at hrz hZ
  have hW : (w.drew.alloc (.cells Z 5)).ownsRow w.heap.size 5 1 (.slice (some ⟨w.heap.size, 0, none⟩) 0 G) 0 [] := by
    refine ⟨rfl, .inr ⟨w.heap.size, G, Z, rfl, Nat.le_refl _, ?_, Nat.zero_le _, hG63, by omega, by simp⟩⟩
    simp [World.alloc, World.drew, -World.alloc_eq, -World.drew_eq]
  have hb : Below w.heap.size w (w.drew.alloc (.cells Z 5)) := (Below.drew (Below.refl _ w)).alloc (Nat.le_refl _) _
  have hG63' : G ≤ 9223372036854775807 := by unfold maxLen at hG63; omega
  clear hZ0 hZ hG hG63
  replace hW := Lib.hid hW
  replace hb := Lib.hid hb
  go_enter Try.func76, Try.ntmps76
  go_wp2_with (at_builtin; refine Lib.wpList_append_run _ rfl _ _ _ _ rfl _ _ rfl rfl _ _ (hrz _) ?_)
  go_ret
  exact ⟨_, rfl, hW.out, hb.out⟩

/-- append of a slice that reads as a list, to one's own row. -/
theorem append_slB {w : World} {ops : Array Oper} {rest : List Oper} {o : Oper} {a : Act} {Q : Exit → Act → World → Prop} (hgd : o.guard = none) (s x : Operand)
    (ho : o.op = .call { callee := .builtin .append, args := #[s, x], argTypes := #[43, 43] })
    (base : Nat) (v : Value) (n : Nat) (xs : List Value) (hs : a.eval s = v) (hown : w.ownsRow base 5 1 v n xs)
    (A : Option Addr) (m c : Nat) (gs : List Nat) (hx : a.eval x = .slice A m c) (hS : SlB w A m c gs) (hA : A = none → c = 0) (hb : n + m ≤ 1000000) (hbase : base ≤ w.heap.size)
    (h : ∀ v' w', w'.ownsRow base 5 1 v' (n + m) (xs ++ bV gs) → w.grownBy w' v.ownBlock → wpList Try.prog ops Q rest (a.put o.dst v') w') : wpList Try.prog ops Q (o :: rest) a w := by
  obtain ⟨i0, hi0, hz0, hz1, hz2⟩ := info_parts8 info_u8
  cases A with
  | none =>
    obtain rfl := hA rfl
    have hm : m = 0 := by
      rcases hS.2.2 with h0 | ⟨_, _, h0, _⟩
      · exact h0
      · cases h0
    subst hm
    have hg : gs = [] := by
      exact List.eq_nil_of_length_eq_zero hS.len.symm
    subst hg
    refine wpList_append_own_none hgd s x 43 ho base 5 i0 1 Try.underlying43 hi0 v n xs hs hown hx ?_
    refine h v w (by simpa [bV] using hown) ?_
    exact World.grownBy.refl _ _
  | some ad =>
    refine wpList_append_own w hgd s x 43 ho base 5 i0 (.int .u8 0) 1 1 Try.underlying43 hi0 hz0 hz1 hz2 rfl (by decide) v n xs hs hown ad m c (bV gs) hx (by rw [Nat.mul_one]; exact hS.1.symm) (fun j u hj => ?_) (fun u hu => ?_) (by unfold maxLen; omega) (by omega) hbase (fun v' w' h1 h2 _ => h v' w' h1 h2)
    · rcases hS.2.2 with h0 | ⟨g, off, h0, _, h2⟩
      · have h1 : (bV gs).length = 0 := by rw [← hS.1]; exact h0
        rw [List.eq_nil_of_length_eq_zero h1] at hj
        cases hj
      · cases h0
        have e : Addr.add ⟨g, off, none⟩ j = ⟨g, off + j, none⟩ := by
          unfold Addr.add
          split
          · rename_i h; subst h; rfl
          · rfl
        rw [e]
        exact h2 j u hj
    · obtain ⟨g, _, rfl⟩ := List.mem_map.1 hu
      rfl


/-- A slice that is one of some. -/
structure SS where
  A : Option Addr
  n : Nat
  cap : Nat
  bs : List Nat
def SS.ok (w : World) (s : SS) : Prop := SlB w s.A s.n s.cap s.bs ∧ (s.A = none → s.cap = 0)
theorem SS.ok.below {w w' : World} {s : SS} (h : s.ok w) (hb : Below w.heap.size w w') : s.ok w' := ⟨h.1.below hb, h.2⟩
def tot (ss : List SS) : Nat := (ss.map SS.n).sum
def flatS (ss : List SS) : List Nat := (ss.map SS.bs).flatten
theorem tot_step {ss : List SS} {k : Nat} {s : SS} (h : ss[k]? = some s) : tot (ss.take (k + 1)) = tot (ss.take k) + s.n := by
  unfold tot; rw [List.take_add_one, h]; simp
theorem tot_le (ss : List SS) (k : Nat) : tot (ss.take k) ≤ tot ss := by
  have : tot ss = tot (ss.take k) + tot (ss.drop k) := by
    unfold tot; rw [← List.sum_append, ← List.map_append, List.take_append_drop]
  omega
theorem flat_step {ss : List SS} {k : Nat} {s : SS} (h : ss[k]? = some s) : flatS (ss.take (k + 1)) = flatS (ss.take k) ++ s.bs := by
  unfold flatS; rw [List.take_add_one, h]; simp

set_option maxHeartbeats 4000000 in
set_option maxRecDepth 100000 in
theorem concat_any (B m : Nat) (ss : List SS) (w : World) (hm : m = ss.length) (hcell : ∀ i s, ss[i]? = some s → w.cell? ⟨B, i, none⟩ = some (.slice s.A s.n s.cap)) (hok : ∀ s ∈ ss, s.ok w) (h1 : 1 ≤ tot ss) (h2 : tot ss ≤ 100000) (hmm : m ≤ 10) :
    Calls Try.prog 51 #[.slice (some ⟨B, 0, none⟩) m m] w fun e w' => ∃ v, e = .returned v ∧ w'.ownsRow w.heap.size 5 1 v (tot ss) (bV (flatS ss)) ∧ Below w.heap.size w w' := by
  have HG := Lib.hid (grow_any (tot ss) w h1 h2)
  replace hok := Lib.hid hok
  replace hm := Lib.hid hm
  obtain ⟨T, hT⟩ : ∃ T : Nat, T = tot ss := ⟨_, rfl⟩
  rw [← hT] at HG h1 h2 ⊢
  replace hT := Lib.hid hT
  go_enter Try.func51, Try.ntmps51
  go_wp2_with fail
  go_loop [3, 11] (fun s c => ∃ (k t : Nat), k ≤ m ∧ c = .int .i64 k ∧ s = .int .i64 t ∧ t ≤ T ∧ Hid (t = tot (ss.take k))) (fun _ c => m - (intOf c).toNat)
  case atStart => exact ⟨0, 0, Nat.zero_le _, rfl, rfl, Nat.zero_le _, Lib.hid (by simp [tot])⟩
  case round =>
    obtain ⟨k, t, hk, rfl, rfl, ht, hG⟩ := hrel
    by_cases hlt : k < m
    · obtain ⟨s, hs⟩ : ∃ s, ss[k]? = some s := ⟨ss[k]'(by have := hm.out; omega), List.getElem?_eq_getElem _⟩
      have c0 := hcell k s hs
      have hst := tot_step hs
      have hle := tot_le ss (k + 1)
      have hts : t + s.n ≤ T := by have := hG.out; have := hT.out; omega
      have hst' := Lib.hid (show t + s.n = tot (ss.take (k + 1)) by have := hG.out; omega)
      clear hst hle hcell HG
      generalize s.n = sn at c0 hts hst'
      go_wp2_with fail
      go_round
      case rel => exact ⟨k + 1, t + sn, by omega, by go_num, rfl, hts, hst'⟩
      case measure => simp [intOf]; omega
    · have hkm : k = m := by omega
      have htT : t = T := by have := hG.out; rw [hkm, hm.out, List.take_length] at this; have := hT.out; omega
      subst htT
      replace hcell := Lib.hid hcell
      clear hG
      go_wp2_with fail
      refine HG.out.mono ?_
      rintro e w1 ⟨v0, rfl, hown0, hb0⟩
      replace hown0 := Lib.hid hown0
      clear HG
      go_wp2_with fail
      go_loopw [6, 27] (fun o c wr => ∃ k : Nat, k ≤ m ∧ c = .int .i64 k ∧ wr.ownsRow w.heap.size 5 1 o (tot (ss.take k)) (bV (flatS (ss.take k))) ∧ Below w.heap.size w wr ∧ w.heap.size ≤ wr.heap.size) (fun _ c _ => m - (intOf c).toNat)
      case atStart => exact ⟨0, Nat.zero_le _, rfl, by simpa [tot, flatS, bV] using hown0.out, hb0, hb0.size⟩
      case round =>
        obtain ⟨k, hk, rfl, hown, hb, hz⟩ := hrel
        clear hown0 hb0
        by_cases hlt2 : k < m
        · obtain ⟨s, hs⟩ : ∃ s, ss[k]? = some s := ⟨ss[k]'(by have := hm.out; omega), List.getElem?_eq_getElem _⟩
          have c1 := hcell.out k s hs
          have hBw : B < w.heap.size := World.block_lt_of_cell? w _ c1
          have c0 : wr.cell? ⟨B, k, none⟩ = some (.slice s.A s.n s.cap) := (hb.cell (p := ⟨B, k, none⟩) hBw).trans c1
          have hok1 := hok.out s (List.mem_of_getElem? hs)
          have hle := tot_le ss (k + 1)
          have hst := tot_step hs
          have hS := Lib.hid (hok1.1.keep hz fun j hj => hb.block j hj)
          have hA := Lib.hid hok1.2
          have hbd : tot (ss.take k) + s.n ≤ 1000000 := by have := hT.out; omega
          have hst := Lib.hid hst
          have hfs := Lib.hid (flat_step hs)
          obtain ⟨tk, htk⟩ : ∃ tk, tk = tot (ss.take k) := ⟨_, rfl⟩
          obtain ⟨xk, hxk⟩ : ∃ xk, xk = bV (flatS (ss.take k)) := ⟨_, rfl⟩
          rw [← htk, ← hxk] at hown
          rw [← htk] at hbd
          replace htk := Lib.hid htk
          replace hxk := Lib.hid hxk
          clear c1 hok1 hle
          go_wp2_with (at_builtin; refine append_slB rfl _ _ rfl w.heap.size _ _ _ rfl hown s.A s.n s.cap s.bs rfl hS.out hA.out hbd hz ?_)
          intro v1 x1 hown1 hg1
          have hb1 : Below w.heap.size w x1 := hb.grown hg1 hz (fun k h => (hown.lt k h).1)
          have hz1 := hb1.size
          clear hg1 hown
          go_wp2_with fail
          go_roundw
          case rel => exact ⟨k + 1, by omega, by go_num, by rw [hst.out, hfs.out, bV_app, ← htk.out, ← hxk.out]; exact hown1, hb1, hz1⟩
          case measure => simp [intOf]; omega
        · have hkm2 : k = m := by omega
          have hfin := hown
          rw [hkm2, hm.out, List.take_length] at hfin
          replace hfin := Lib.hid hfin
          clear hown
          go_wp2_with fail
          go_ret
          exact ⟨_, rfl, by rw [hT.out]; exact hfin.out, hb⟩
end Go.Proofs.Ytigbbpgfblnboaa
