/- strings.SplitSeq at a point: what it yields. -/
import Derived.Test.YtmfflcemceonhaaDoorKfNmC
import Derived.RangeFuncNested
import Derived.RangeFuncBound
import Derived.RangeFuncCalls
import Derived.RangeFuncLeaves
import Derived.Shelf.Abstract
import Derived.Shelf.RegionOpen
import Derived.WalkKit
import Derived.OwnWalkIn
import Derived.TacticsInMore
import Derived.LoopNIn
import Derived.LoopIn
namespace Go.Proofs.YtmfflcemceonhaaDoor
open Go.RowKit
set_option linter.unusedVariables false
set_option linter.unusedSimpArgs false

attribute [local go_sem] Oper.semAt_some

theorem idx_cases (c : UInt8) : ∀ l : List UInt8, (Lib.indexByte l c = -1 ∧ c ∉ l) ∨ ∃ a b, l = a ++ c :: b ∧ c ∉ a ∧ Lib.indexByte l c = a.length
  | [] => .inl ⟨rfl, List.not_mem_nil⟩
  | x :: l => by
    unfold Lib.indexByte
    by_cases h : x = c
    · subst h
      rw [if_pos (by simp)]
      exact .inr ⟨[], l, rfl, List.not_mem_nil, rfl⟩
    · rw [if_neg (by simpa using h)]
      rcases idx_cases c l with ⟨h1, h2⟩ | ⟨a, b, h1, h2, h3⟩
      · rw [h1, if_pos (by rfl)]
        exact .inl ⟨rfl, fun m => by
          rcases List.mem_cons.1 m with e | e
          · exact h e.symm
          · exact h2 e⟩
      · rw [h3, if_neg (by rw [beq_iff_eq]; omega)]
        refine .inr ⟨x :: a, b, by rw [h1]; rfl, fun m => ?_, by rw [List.length_cons]; omega⟩
        rcases List.mem_cons.1 m with e | e
        · exact h e.symm
        · exact h2 e
/-- The string that a block holds. -/
def strAt (W : World) (b : Nat) : List UInt8 := match W.cell? ⟨b, 0, none⟩ with
  | some (.string t) => t.data.toList
  | _ => []
theorem strAt_box {W : World} {b : Nat} {t : TypeId} {l : List UInt8} (h : Boxed W b t (.string ⟨l.toArray⟩)) : strAt W b = l := by
  unfold strAt; rw [h.cell]
/-- What the host of an iterator says of its own blocks. -/
structure HostN (J : List (List UInt8) → World → Prop) (n0 c l D : Nat) : Prop where
  abides : ∀ pre W W', J pre W → W.heap.size ≤ W'.heap.size → (∀ k, k = c ∨ k = l ∨ k = D → W'.heap[k]? = W.heap[k]?) → J pre W'
  base : n0 ≤ c ∧ n0 ≤ l ∧ n0 ≤ D
/-- What a round keeps. -/
structure KeepN (n0 c l D : Nat) (W W' : World) : Prop where
  below : Below n0 W W'
  size : W.heap.size ≤ W'.heap.size
  same : ∀ k, k < W.heap.size → k ≠ c → k ≠ l → k ≠ D → W'.heap[k]? = W.heap[k]?
theorem KeepN.box {n0 c l D : Nat} {W W' : World} (h : KeepN n0 c l D W W') {b : Nat} {t : TypeId} {v : Value} (hb : Boxed W b t v) (h1 : b ≠ c) (h2 : b ≠ l) (h3 : b ≠ D) : Boxed W' b t v :=
  (h.same b hb.lt h1 h2 h3).trans hb
theorem HostN.set {J : List (List UInt8) → World → Prop} {n0 c l D : Nat} (H : HostN J n0 c l D) {pre : List (List UInt8)} {W : World} (h : J pre W) {b : Nat} (h1 : b ≠ c) (h2 : b ≠ l) (h3 : b ≠ D) (v : Value) : J pre (W.setCell ⟨b, 0, none⟩ v) :=
  H.abides _ _ _ h (by simp [World.setCell]) (fun k hk => Below.heap_setCell _ _ _ _ (by
    show k ≠ b
    rintro rfl
    rcases hk with e | e | e
    · exact h1 e
    · exact h2 e
    · exact h3 e))

set_option maxRecDepth 100000 in
set_option maxHeartbeats 4000000 in
theorem splitSeq1_in (n : Nat) (hn : 1 ≤ n) (n0 c l D bp bs bv : Nat) (hne : (bs ≠ c ∧ bs ≠ l ∧ bs ≠ D) ∧ (bp ≠ c ∧ bp ≠ l ∧ bp ≠ D) ∧ (bv ≠ c ∧ bv ≠ l ∧ bv ≠ D) ∧ bs ≠ bp ∧ bs ≠ bv) (hn0 : n0 ≤ bs) (l0 : List UInt8) (hl0 : l0.length ≤ 100000) (w0 : World)
    (J Jx : List (List UInt8) → World → Prop) (H : HostN J n0 c l D)
    (hY : ∀ pre p W, J pre W → p.length ≤ 100000 → YieldAt Fence.wide (n - 1) Tryd.prog l #[.string ⟨p.toArray⟩] W fun e W' => (e = .returned (.bool true) ∧ J (pre ++ [p]) W' ∧ KeepN n0 c l D W W') ∨ (e = .returned (.bool false) ∧ Jx (pre ++ [p]) W' ∧ Below n0 W W'))
    (W : World) (hW : Below n0 w0 W) (hbp : Boxed W bp 9 (.string ⟨#[46]⟩)) (hbs : Boxed W bs 9 (.string ⟨l0.toArray⟩)) (hbv : Boxed W bv 3 (.int .i64 0)) (hJ : J [] W) :
    CallsIn Fence.wide n Tryd.prog 50 #[.func (.yield l) #[] #[], .pointer (some ⟨bp, 0, none⟩), .pointer (some ⟨bs, 0, none⟩), .pointer (some ⟨bv, 0, none⟩)] W fun e W' => (∃ v, e = .returned v) ∧ (J (pieces l0 46) W' ∨ ∃ pre, pre <+: pieces l0 46 ∧ Jx pre W') ∧ Below n0 w0 W' := by
  have HX := fun (q : List UInt8) W => Lib.hid (Tryd.strings_Index_one ⟨q.toArray⟩ 46 W)
  replace hY := Lib.hid hY
  replace hl0 := Lib.hid hl0
  refine callsIn_of_wp Tryd.func50 rfl trivial ?_ rfl
  simp only [Tryd.ntmps50, List.size_toArray, List.length_cons, List.length_nil, Nat.reduceAdd, Nat.reduceSub, Array.replicate_succ, Array.replicate_zero, List.push_toArray, List.append_toArray, List.nil_append, List.cons_append]
  have q1 := hbp.cell
  gi_wp2
  gi_loopw [7] (fun _ wr => ∃ (pre : List (List UInt8)) (q : List UInt8), Hid (pre ++ pieces q 46 = pieces l0 46 ∧ q.length ≤ l0.length) ∧ Boxed wr bp 9 (.string ⟨#[46]⟩) ∧ Boxed wr bs 9 (.string ⟨q.toArray⟩) ∧ Boxed wr bv 3 (.int .i64 0) ∧ J pre wr ∧ Below n0 w0 wr) (fun _ wr => (strAt wr bs).length)
  case atStart => exact ⟨[], l0, Lib.hid ⟨rfl, Nat.le_refl _⟩, hbp, hbs, hbv, hJ, hW⟩
  case round =>
    clear hbp hbs hbv hJ hW q1
    obtain ⟨pre, q, hI, hbp, hbs, hbv, hJ, hW⟩ := hrel
    have hq0 := Lib.hid (strAt_box hbs)
    have hql := Lib.hid (Nat.le_trans hI.out.2 hl0.out)
    have q1 := hbp.cell
    have q2 := hbs.cell
    have q3 := hbv.cell
    have f2 := hbs.frozen
    rcases idx_cases 46 q with ⟨hx, hm⟩ | ⟨a, b, hab, hm, hx⟩
    · have HX1 := fun W => (show Hid (Calls Tryd.prog 52 #[.string ⟨q.toArray⟩, .string ⟨#[46]⟩] W fun e w' => e = .returned (.int .i64 (-1)) ∧ w' = W) from by have := (HX q W).out; rw [show Lib.indexByte (⟨q.toArray⟩ : ByteArray).data.toList 46 = -1 from hx] at this; exact Lib.hid this)
      have hpc := Lib.hid (pieces_one hm)
      obtain ⟨fn, tmps, assign, body, hy, hR⟩ := hY.out pre q wr hJ hql.out
      clear hx hm
      gi_wp2
      refine ⟨trivial, ?_⟩
      refine (callsIn_wide.2 (HX1 _).out).mono ?_
      rintro e w1 ⟨rfl, rfl⟩
      gi_wp2
      refine hR.mono ?_
      rintro e W3 (⟨rfl, hJ3, hk⟩ | ⟨rfl, hJx, hb⟩)
      · have hfin := Lib.hid (show J (pieces l0 46) W3 by rw [← hI.out.1, hpc.out]; exact hJ3)
        have hB := hW.trans hk.below
        clear hJ3 hk
        gi_wp2
        go_end0
        exact ⟨⟨_, rfl⟩, .inl hfin.out, hB⟩
      · have hfin := Lib.hid (show ∃ pre, pre <+: pieces l0 46 ∧ Jx pre W3 from ⟨_, by rw [← hI.out.1, hpc.out]; exact List.prefix_rfl, hJx⟩)
        have hB := hW.trans hb
        clear hJx hb
        gi_wp2
        go_end0
        exact ⟨⟨_, rfl⟩, .inr hfin.out, hB⟩
    · have HX1 := fun W => (show Hid (Calls Tryd.prog 52 #[.string ⟨q.toArray⟩, .string ⟨#[46]⟩] W fun e w' => e = .returned (.int .i64 a.length) ∧ w' = W) from by have := (HX q W).out; rw [show Lib.indexByte (⟨q.toArray⟩ : ByteArray).data.toList 46 = a.length from hx] at this; exact Lib.hid this)
      have hpc := Lib.hid (show pieces q 46 = a :: pieces b 46 by rw [hab]; exact pieces_cons hm)
      have hlen := Lib.hid (show q.length = a.length + (b.length + 1) by rw [hab]; simp)
      have e1 : (⟨q.toArray⟩ : ByteArray).extract 0 a.length = ⟨a.toArray⟩ := by rw [Lib.extract_mk, hab]; simp
      have e2 : (⟨q.toArray⟩ : ByteArray).extract (a.length + 1) q.length = ⟨b.toArray⟩ := by
        rw [Lib.extract_mk, hab]
        simp
        exact List.take_of_length_le (by omega)
      have hal : a.length < q.length := by rw [hlen.out]; omega
      obtain ⟨m, hm'⟩ : ∃ m, m = a.length := ⟨_, rfl⟩
      rw [← hm'] at HX1 e1 e2 hal hlen
      clear hx hm hab
      have hq1 : q.length ≤ 100000 := hql.out
      obtain ⟨fn, tmps, assign, body, hy, hR⟩ := hY.out pre a wr hJ (by omega)
      replace hm' := Lib.hid hm'
      have hmi : (m : Int) < q.length := by omega
      gi_wp2
      refine ⟨trivial, ?_⟩
      refine (callsIn_wide.2 (HX1 _).out).mono ?_
      rintro e w1 ⟨rfl, rfl⟩
      gi_wp2
      refine hR.mono ?_
      rintro e W3 (⟨rfl, hJ3, hk⟩ | ⟨rfl, hJx, hb⟩)
      · have p1 := hk.box hbp hne.2.1.1 hne.2.1.2.1 hne.2.1.2.2
        have p2 := hk.box hbs hne.1.1 hne.1.2.1 hne.1.2.2
        have p3 := hk.box hbv hne.2.2.1.1 hne.2.2.1.2.1 hne.2.2.1.2.2
        have hB := hW.trans hk.below
        clear hbp hbs hbv q1 q2 q3 f2 hk hJ hy hR
        have q1 := p1.cell
        have q2 := p2.cell
        have f2 := p2.frozen
        have s1 := p1.other hne.2.2.2.1.symm (.string ⟨b.toArray⟩)
        have s3 := p3.other hne.2.2.2.2.symm (.string ⟨b.toArray⟩)
        have s2 := p2.set (.string ⟨b.toArray⟩)
        have hat := strAt_box s2
        replace hJ3 := H.set hJ3 hne.1.1 hne.1.2.1 hne.1.2.2 (.string ⟨b.toArray⟩)
        replace hB := hB.setCell (p := ⟨bs, 0, none⟩) hn0 (.string ⟨b.toArray⟩)
        gi_wp2
        go_roundw
        case rel => exact ⟨pre ++ [a], b, Lib.hid ⟨by rw [List.append_assoc, ← hI.out.1, hpc.out]; rfl, by have := hI.out.2; have := hlen.out; omega⟩, s1, s2, s3, hJ3, hB⟩
        case measure => rw [hat, hq0.out]; have := hlen.out; omega
      · have hfin := Lib.hid (show ∃ pre, pre <+: pieces l0 46 ∧ Jx pre W3 from ⟨_, by rw [← hI.out.1, hpc.out]; exact ⟨pieces b 46, by simp⟩, hJx⟩)
        have hB := hW.trans hb
        clear hJx hb
        gi_wp2
        refine bodyPost_ret (results_none rfl _ _ _) rfl ?_
        exact ⟨⟨_, rfl⟩, .inr hfin.out, hB⟩
end Go.Proofs.YtmfflcemceonhaaDoor
