/- strings.SplitSeq at any one-byte separator. -/
import Derived.Test.YtfbggfpihiegpaaGreatDoorKpNmE
import Derived.Test.YtfbggfpihiegpaaGreatDoorKpMdD
set_option linter.unusedVariables false
set_option linter.unusedSimpArgs false
set_option maxRecDepth 100000
namespace Go.Proofs.YtfbggfpihiegpaaGreatDoor
open Go.RowKit

attribute [local go_sem] Oper.semAt_some

set_option maxHeartbeats 4000000 in
theorem splitSeqG_in (sp : UInt8) (n : Nat) (hn : 1 ≤ n) (n0 l bp bs bv : Nat) (hne : bs ≠ bp ∧ bs ≠ bv) (hn0 : n0 ≤ bs) (l0 : List UInt8) (hl0 : l0.length ≤ 1000000) (w0 : World)
    (J Jx : List (List UInt8) → World → Prop) (H : ∀ pre W v, J pre W → J pre (W.setCell ⟨bs, 0, none⟩ v))
    (hY : ∀ pre p W, J pre W → pre ++ [p] <+: pieces l0 sp → p.length ≤ 1000000 → YieldAt Fence.wide (n - 1) Tryz.prog l #[.string ⟨p.toArray⟩] W fun e W' => (e = .returned (.bool true) ∧ J (pre ++ [p]) W' ∧ (∀ b, b = bp ∨ b = bs ∨ b = bv → W'.heap[b]? = W.heap[b]?) ∧ Below n0 W W') ∨ (e = .returned (.bool false) ∧ Jx (pre ++ [p]) W' ∧ Below n0 W W'))
    (W : World) (hW : Below n0 w0 W) (hbp : Boxed W bp 9 (.string ⟨#[sp]⟩)) (hbs : Boxed W bs 9 (.string ⟨l0.toArray⟩)) (hbv : Boxed W bv 3 (.int .i64 0)) (hJ : J [] W) :
    CallsIn Fence.wide n Tryz.prog 306 #[.func (.yield l) #[] #[], .pointer (some ⟨bp, 0, none⟩), .pointer (some ⟨bs, 0, none⟩), .pointer (some ⟨bv, 0, none⟩)] W fun e W' => (∃ v, e = .returned v) ∧ (J (pieces l0 sp) W' ∨ ∃ pre, pre <+: pieces l0 sp ∧ Jx pre W') ∧ Below n0 w0 W' := by
  have HX := fun (q : List UInt8) W => Lib.hid (Tryz.strings_Index_one ⟨q.toArray⟩ sp W)
  replace hY := Lib.hid hY
  replace hl0 := Lib.hid hl0
  refine callsIn_of_wp Tryz.func306 rfl trivial ?_ rfl
  simp only [Tryz.ntmps306, List.size_toArray, List.length_cons, List.length_nil, Nat.reduceAdd, Nat.reduceSub, Array.replicate_succ, Array.replicate_zero, List.push_toArray, List.append_toArray, List.nil_append, List.cons_append]
  have q1 := hbp.cell
  gi_wp2
  gi_loopw [7] (fun _ wr => ∃ (pre : List (List UInt8)) (q : List UInt8), Hid (pre ++ pieces q sp = pieces l0 sp ∧ q.length ≤ l0.length) ∧ Boxed wr bp 9 (.string ⟨#[sp]⟩) ∧ Boxed wr bs 9 (.string ⟨q.toArray⟩) ∧ Boxed wr bv 3 (.int .i64 0) ∧ J pre wr ∧ Below n0 w0 wr) (fun _ wr => (strAt wr bs).length)
  case atStart => exact ⟨[], l0, Lib.hid ⟨rfl, Nat.le_refl _⟩, hbp, hbs, hbv, hJ, hW⟩
  case round =>
    clear hbp hbs hbv hJ hW q1
    obtain ⟨pre, q, hI, hbp, hbs, hbv, hJ, hW⟩ := hrel
    have hq0 := Lib.hid (strAt_box hbs)
    have hql := Lib.hid (Nat.le_trans hI.out.2 hl0.out)
    have q1 := hbp.cell
    have q2 := hbs.cell
    have q3 := hbv.cell
    have f2 := hbs.frozen
    rcases idx_cases sp q with ⟨hx, hm⟩ | ⟨a, b, hab, hm, hx⟩
    · have HX1 := fun W => (show Hid (Calls Tryz.prog 221 #[.string ⟨q.toArray⟩, .string ⟨#[sp]⟩] W fun e w' => e = .returned (.int .i64 (-1)) ∧ w' = W) from by have := (HX q W).out; rw [show Lib.indexByte (⟨q.toArray⟩ : ByteArray).data.toList sp = -1 from hx] at this; exact Lib.hid this)
      have hpc := Lib.hid (pieces_one hm)
      obtain ⟨fn, tmps, assign, body, hy, hR⟩ := hY.out pre q wr hJ (by rw [← hI.out.1, hpc.out]; exact List.prefix_rfl) hql.out
      clear hx hm
      gi_wp2
      refine ⟨trivial, ?_⟩
      refine (callsIn_wide.2 (HX1 _).out).mono ?_
      rintro e w1 ⟨rfl, rfl⟩
      gi_wp2
      refine hR.mono ?_
      rintro e W3 (⟨rfl, hJ3, hs3, hk⟩ | ⟨rfl, hJx, hb⟩)
      · have hfin := Lib.hid (show J (pieces l0 sp) W3 by rw [← hI.out.1, hpc.out]; exact hJ3)
        have hB := hW.trans hk
        clear hJ3 hk hs3
        gi_wp2
        go_end0
        exact ⟨⟨_, rfl⟩, .inl hfin.out, hB⟩
      · have hfin := Lib.hid (show ∃ pre, pre <+: pieces l0 sp ∧ Jx pre W3 from ⟨_, by rw [← hI.out.1, hpc.out]; exact List.prefix_rfl, hJx⟩)
        have hB := hW.trans hb
        clear hJx hb
        gi_wp2
        go_end0
        exact ⟨⟨_, rfl⟩, .inr hfin.out, hB⟩
    · have HX1 := fun W => (show Hid (Calls Tryz.prog 221 #[.string ⟨q.toArray⟩, .string ⟨#[sp]⟩] W fun e w' => e = .returned (.int .i64 a.length) ∧ w' = W) from by have := (HX q W).out; rw [show Lib.indexByte (⟨q.toArray⟩ : ByteArray).data.toList sp = a.length from hx] at this; exact Lib.hid this)
      have hpc := Lib.hid (show pieces q sp = a :: pieces b sp by rw [hab]; exact pieces_cons hm)
      have hlen := Lib.hid (show q.length = a.length + (b.length + 1) by rw [hab]; simp)
      have e1 : (⟨q.toArray⟩ : ByteArray).extract 0 a.length = ⟨a.toArray⟩ := by rw [Lib.extract_mk, hab]; simp
      have e2 : (⟨q.toArray⟩ : ByteArray).extract (a.length + 1) q.length = ⟨b.toArray⟩ := by
        rw [Lib.extract_mk, hab]
        simp
        exact List.take_of_length_le (by omega)
      have hal : a.length < q.length := by rw [hlen.out]; omega
      obtain ⟨m, hm'⟩ : ∃ m, m = a.length := ⟨_, rfl⟩
      rw [← hm'] at HX1 e1 e2 hal hlen
      clear hx hm hab
      have hq1 : q.length ≤ 1000000 := hql.out
      obtain ⟨fn, tmps, assign, body, hy, hR⟩ := hY.out pre a wr hJ (by rw [← hI.out.1, hpc.out]; exact ⟨pieces b sp, by simp⟩) (by omega)
      replace hm' := Lib.hid hm'
      have hmi : (m : Int) < q.length := by omega
      gi_wp2
      refine ⟨trivial, ?_⟩
      refine (callsIn_wide.2 (HX1 _).out).mono ?_
      rintro e w1 ⟨rfl, rfl⟩
      gi_wp2
      refine hR.mono ?_
      rintro e W3 (⟨rfl, hJ3, hs3, hk⟩ | ⟨rfl, hJx, hb⟩)
      · have p1 : Boxed W3 bp 9 (.string ⟨#[sp]⟩) := (hs3 bp (.inl rfl)).trans hbp
        have p2 : Boxed W3 bs 9 (.string ⟨q.toArray⟩) := (hs3 bs (.inr (.inl rfl))).trans hbs
        have p3 : Boxed W3 bv 3 (.int .i64 0) := (hs3 bv (.inr (.inr rfl))).trans hbv
        have hB := hW.trans hk
        clear hbp hbs hbv q1 q2 q3 f2 hk hs3 hJ hy hR
        have q1 := p1.cell
        have q2 := p2.cell
        have f2 := p2.frozen
        have s1 := p1.other hne.1.symm (.string ⟨b.toArray⟩)
        have s3 := p3.other hne.2.symm (.string ⟨b.toArray⟩)
        have s2 := p2.set (.string ⟨b.toArray⟩)
        have hat := strAt_box s2
        replace hJ3 := H _ _ (.string ⟨b.toArray⟩) hJ3
        replace hB := hB.setCell (p := ⟨bs, 0, none⟩) hn0 (.string ⟨b.toArray⟩)
        gi_wp2
        go_roundw
        case rel => exact ⟨pre ++ [a], b, Lib.hid ⟨by rw [List.append_assoc, ← hI.out.1, hpc.out]; rfl, by have := hI.out.2; have := hlen.out; omega⟩, s1, s2, s3, hJ3, hB⟩
        case measure => rw [hat, hq0.out]; have := hlen.out; omega
      · have hfin := Lib.hid (show ∃ pre, pre <+: pieces l0 sp ∧ Jx pre W3 from ⟨_, by rw [← hI.out.1, hpc.out]; exact ⟨pieces b sp, by simp⟩, hJx⟩)
        have hB := hW.trans hb
        clear hJx hb
        gi_wp2
        refine bodyPost_ret (results_none rfl _ _ _) rfl ?_
        exact ⟨⟨_, rfl⟩, .inr hfin.out, hB⟩

set_option maxHeartbeats 1000000 in
theorem splitSeqIG_any (sp : UInt8) (l : List UInt8) (w : World) :
    Calls Tryz.prog 251 #[.string ⟨l.toArray⟩, .string ⟨#[sp]⟩, .int .i64 0] w fun e w' => e = .returned (.func (.func 306) #[] #[.pointer (some ⟨w.heap.size + 1, 0, none⟩), .pointer (some ⟨w.heap.size, 0, none⟩), .pointer (some ⟨w.heap.size + 1 + 1, 0, none⟩)]) ∧ w' = ((w.alloc (.cells #[.string ⟨l.toArray⟩] 9)).alloc (.cells #[.string ⟨#[sp]⟩] 9)).alloc (.cells #[.int .i64 0] 3) := by
  go_enter Tryz.func251, Tryz.ntmps251
  go_wp2_with fail
  go_ret
  exact ⟨rfl, rfl⟩
theorem splitSeqFG_any (sp : UInt8) (l : List UInt8) (w : World) :
    Calls Tryz.prog 192 #[.string ⟨l.toArray⟩, .string ⟨#[sp]⟩] w fun e w' => e = .returned (.func (.func 306) #[] #[.pointer (some ⟨w.heap.size + 1, 0, none⟩), .pointer (some ⟨w.heap.size, 0, none⟩), .pointer (some ⟨w.heap.size + 1 + 1, 0, none⟩)]) ∧ w' = ((w.alloc (.cells #[.string ⟨l.toArray⟩] 9)).alloc (.cells #[.string ⟨#[sp]⟩] 9)).alloc (.cells #[.int .i64 0] 3) := by
  go_enter Tryz.func192, Tryz.ntmps192
  go_wp2_with fail
  refine (splitSeqIG_any sp l w).mono ?_
  rintro e w1 ⟨rfl, rfl⟩
  go_wp2_with fail
  go_ret
  exact ⟨rfl, rfl⟩
end Go.Proofs.YtfbggfpihiegpaaGreatDoor
