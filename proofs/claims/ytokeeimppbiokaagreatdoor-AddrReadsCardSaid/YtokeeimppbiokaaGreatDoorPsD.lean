/- strconv.ParseUint to base 16: a group, or an error. -/
import Derived.Test.YtokeeimppbiokaaGreatDoorPsC
import Derived.Test.YtokeeimppbiokaaGreatDoorShelf
import Derived.Lib.AtoiErrMem
namespace Go.Proofs.YtokeeimppbiokaaGreatDoor
open Go.RowKit

def hexF (acc : Nat) (l : List UInt8) : Nat := l.foldl (fun n c => n * 16 + (hexD c).getD 0) acc
theorem hexF_ge : ∀ (l : List UInt8) (acc : Nat), acc ≤ hexF acc l
  | [], acc => Nat.le_refl _
  | c :: r, acc => by
    have := hexF_ge r (acc * 16 + (hexD c).getD 0)
    show acc ≤ hexF (acc * 16 + (hexD c).getD 0) r
    omega
theorem hexP_eq (M : Nat) : ∀ (l : List UInt8) (acc : Nat), acc ≤ M →
    (l.all isHex = true → hexF acc l ≤ M → hexP M acc l = .ok (hexF acc l)) ∧ (¬ (l.all isHex = true ∧ hexF acc l ≤ M) → hexP M acc l = Lib.NumEnd.syntax ∨ hexP M acc l = .range)
  | [], acc, h => ⟨fun _ _ => rfl, fun k => absurd ⟨rfl, h⟩ k⟩
  | c :: r, acc, h => by
    cases hd : hexD c with
    | none =>
      rw [hexP_none hd]
      refine ⟨fun k => ?_, fun _ => .inl rfl⟩
      rw [List.all_cons, Bool.and_eq_true] at k
      unfold isHex at k; rw [hd] at k
      cases k.1
    | some d =>
      rw [hexP_some hd]
      have e : hexF acc (c :: r) = hexF (acc * 16 + d) r := by show hexF (acc * 16 + (hexD c).getD 0) r = _; rw [hd]; rfl
      have e2 : (c :: r).all isHex = r.all isHex := by rw [List.all_cons]; unfold isHex; rw [hd]; rfl
      rw [e, e2]
      have hg := hexF_ge r (acc * 16 + d)
      by_cases hM : M < acc * 16 + d
      · rw [if_pos hM]
        exact ⟨fun _ k => by omega, fun _ => .inr rfl⟩
      · rw [if_neg hM]
        exact hexP_eq M r _ (by omega)
theorem hexP_ok {M n : Nat} {l : List UInt8} (h : hexB (M + 1) l = some n) : hexP M 0 l = .ok n := by
  unfold hexB at h
  split at h
  · rename_i k
    cases h
    exact (hexP_eq M l 0 (by omega)).1 k.2.1 (by have := k.2.2; show hexVal l ≤ M; omega)
  · cases h
theorem hexP_not {M : Nat} {l : List UInt8} (hne : l ≠ []) (h : hexB (M + 1) l = none) : hexP M 0 l = Lib.NumEnd.syntax ∨ hexP M 0 l = .range := by
  refine (hexP_eq M l 0 (by omega)).2 fun k => ?_
  unfold hexB at h
  rw [if_pos ⟨hne, k.1, by have : hexVal l ≤ M := k.2; omega⟩] at h
  cases h

/-- A number that is read, or an error. -/
def isU : Option Nat → Ending → Prop
  | some n, e => e = .returned (.tuple #[.int .u64 (n : Int), .nilIface])
  | none, e => ∃ x T p, e = .returned (.tuple #[.int .u64 x, .iface T p])
def GivesU (o : Option Nat) (w : World) (e : Ending) (w' : World) : Prop := isU o e ∧ Below w.heap.size w w'

theorem isU_none {o : Option Nat} {x : Int} {T : TypeId} {p : Value} (h : o = none) : isU o (.returned (.tuple #[.int .u64 x, .iface T p])) := by rw [h]; exact ⟨x, T, p, rfl⟩
theorem isU_some {o : Option Nat} {n : Nat} (h : o = some n) : isU o (.returned (.tuple #[.int .u64 (n : Int), .nilIface])) := by rw [h]; rfl
theorem hexB_nil (m : Nat) : hexB m [] = none := by unfold hexB; rw [if_neg]; exact fun h => h.1 rfl

theorem esyn_cell {w : World} (hC : Cons w) : ∃ ev, w.cell? ⟨1, 0, none⟩ = some ev ∧ (ev = .nilIface ∨ ∃ te pe, ev = .iface te pe) := by
  have g1 : Tryz.prog.globalNamed "strconv.ErrSyntax" = some 1 := by kernel_rfl
  obtain ⟨tp, p, h⟩ := hC.esyn
  exact ⟨_, (World.var?_cell g1 h 0).trans rfl, .inr ⟨tp, p, rfl⟩⟩
theorem eran_cell {w : World} (hC : Cons w) : ∃ ev, w.cell? ⟨2, 0, none⟩ = some ev ∧ (ev = .nilIface ∨ ∃ te pe, ev = .iface te pe) := by
  have g1 : Tryz.prog.globalNamed "strconv.ErrRange" = some 2 := by kernel_rfl
  obtain ⟨tp, p, h⟩ := hC.eran
  exact ⟨_, (World.var?_cell g1 h 0).trans rfl, .inr ⟨tp, p, rfl⟩⟩

set_option maxHeartbeats 400000 in
set_option maxRecDepth 100000 in
theorem parse16e_16 (w : World) :
    Calls Tryz.prog 81 #[.string ⟨([] : List UInt8).toArray⟩, .int .i64 16, .int .i64 16] w fun e w' => e = .returned (.tuple #[.int .u64 0, .iface 109 (.int .i64 2)]) ∧ w' = w := by
  go_enter Tryz.func81, Tryz.ntmps81
  go_wp2_with fail
  go_ret2
  exact ⟨rfl, rfl⟩

theorem inner_16 (l : List UInt8) (w : World) (hl : l.length ≤ 100000) :
    Calls Tryz.prog 81 #[.string ⟨l.toArray⟩, .int .i64 16, .int .i64 16] w fun e w' => Below w.heap.size w w' ∧ ((∃ n, hexB 65536 l = some n ∧ e = .returned (.tuple #[.int .u64 (n : Int), .nilIface])) ∨ (hexB 65536 l = none ∧ (e = .returned (.tuple #[.int .u64 0, .iface 109 (.int .i64 2)]) ∨ e = .returned (.tuple #[.int .u64 65535, .iface 109 (.int .i64 1)])))) := by
  by_cases hne : l = []
  · subst hne
    refine (parse16e_16 w).mono ?_
    rintro e w' ⟨rfl, rfl⟩
    exact ⟨Below.refl _ _, .inr ⟨hexB_nil _, .inl rfl⟩⟩
  · refine (parse16_16 l w hne hl).mono ?_
    rintro e w' ⟨rfl, rfl⟩
    refine ⟨Lib.bytesWorld_below _ _ _, ?_⟩
    cases h : hexB 65536 l with
    | some n => exact .inl ⟨n, rfl, by rw [hexP_ok h]; rfl⟩
    | none =>
      refine .inr ⟨rfl, ?_⟩
      rcases hexP_not hne h with k | k
      · rw [k]; exact .inl rfl
      · rw [k]; exact .inr rfl

set_option maxHeartbeats 1000000 in
set_option maxRecDepth 100000 in
theorem parseU_16 (l : List UInt8) (w : World) (hC : Cons w) (hl : l.length ≤ 100000) :
    Calls Tryz.prog 60 #[.string ⟨l.toArray⟩, .int .i64 16, .int .i64 16] w (GivesU (hexB 65536 l) w) := by
  have HI := Lib.hid (inner_16 l w hl)
  have hsz : (⟨l.toArray⟩ : ByteArray).size ≤ 281474976710656 := by rw [Lib.size_eq]; exact Nat.le_trans hl (by decide)
  have HT : ∀ w1, Below w.heap.size w w1 → Hid ((∀ fn : ByteArray, Calls Tryz.prog 66 #[.string fn, .string ⟨l.toArray⟩, .int .i64 16, .int .i64 16, .iface 109 (.int .i64 2)] w1 fun e w' => ∃ T p, e = .returned (.iface T p) ∧ Below w.heap.size w w') ∧ (∀ fn : ByteArray, Calls Tryz.prog 66 #[.string fn, .string ⟨l.toArray⟩, .int .i64 16, .int .i64 16, .iface 109 (.int .i64 1)] w1 fun e w' => ∃ T p, e = .returned (.iface T p) ∧ Below w.heap.size w w')) := fun w1 hb => by
    obtain ⟨ev, h1, h2⟩ := esyn_cell (hC.below hb)
    obtain ⟨er, h3, h4⟩ := eran_cell (hC.below hb)
    refine Lib.hid ⟨fun fn => ?_, fun fn => ?_⟩
    · refine (Tryz.strconv_toError_syntax fn _ 16 16 ev w1 hsz h1 h2).mono ?_
      rintro e w' ⟨N, rfl, _, _, hb'⟩
      exact ⟨_, _, rfl, hb.trans (hb'.mono hb.size)⟩
    · refine (Tryz.strconv_toError_range fn _ 16 16 er w1 hsz h3 h4).mono ?_
      rintro e w' ⟨N, rfl, _, _, hb'⟩
      exact ⟨_, _, rfl, hb.trans (hb'.mono hb.size)⟩
  clear hC hsz hl
  generalize hexB 65536 l = o at HI ⊢
  go_enter Tryz.func60, Tryz.ntmps60
  go_wp2_with fail
  refine HI.out.mono ?_
  rintro e w1 ⟨hb, ⟨n, hn, rfl⟩ | ⟨hn, rfl | rfl⟩⟩
  · have HN := Lib.hid hn
    clear hn HT
    go_wp2_with fail
    go_ret2
    exact ⟨isU_some HN.out, hb⟩
  · have HN := Lib.hid hn
    have HT1 := HT _ hb
    clear hn HT
    go_wp2_with fail
    refine (HT1.out.1 _).mono ?_
    rintro e w2 ⟨T, p, rfl, hb2⟩
    go_wp2_with fail
    go_ret2
    exact ⟨isU_none HN.out, hb2⟩
  · have HN := Lib.hid hn
    have HT1 := HT _ hb
    clear hn HT
    go_wp2_with fail
    refine (HT1.out.2 _).mono ?_
    rintro e w2 ⟨T, p, rfl, hb2⟩
    go_wp2_with fail
    go_ret2
    exact ⟨isU_none HN.out, hb2⟩

set_option maxHeartbeats 400000 in
set_option maxRecDepth 100000 in
theorem parse16e_32 (w : World) :
    Calls Tryz.prog 81 #[.string ⟨([] : List UInt8).toArray⟩, .int .i64 16, .int .i64 32] w fun e w' => e = .returned (.tuple #[.int .u64 0, .iface 109 (.int .i64 2)]) ∧ w' = w := by
  go_enter Tryz.func81, Tryz.ntmps81
  go_wp2_with fail
  go_ret2
  exact ⟨rfl, rfl⟩

theorem inner_32 (l : List UInt8) (w : World) (hl : l.length ≤ 100000) :
    Calls Tryz.prog 81 #[.string ⟨l.toArray⟩, .int .i64 16, .int .i64 32] w fun e w' => Below w.heap.size w w' ∧ ((∃ n, hexB 4294967296 l = some n ∧ e = .returned (.tuple #[.int .u64 (n : Int), .nilIface])) ∨ (hexB 4294967296 l = none ∧ (e = .returned (.tuple #[.int .u64 0, .iface 109 (.int .i64 2)]) ∨ e = .returned (.tuple #[.int .u64 4294967295, .iface 109 (.int .i64 1)])))) := by
  by_cases hne : l = []
  · subst hne
    refine (parse16e_32 w).mono ?_
    rintro e w' ⟨rfl, rfl⟩
    exact ⟨Below.refl _ _, .inr ⟨hexB_nil _, .inl rfl⟩⟩
  · refine (parse16_32 l w hne hl).mono ?_
    rintro e w' ⟨rfl, rfl⟩
    refine ⟨Lib.bytesWorld_below _ _ _, ?_⟩
    cases h : hexB 4294967296 l with
    | some n => exact .inl ⟨n, rfl, by rw [hexP_ok h]; rfl⟩
    | none =>
      refine .inr ⟨rfl, ?_⟩
      rcases hexP_not hne h with k | k
      · rw [k]; exact .inl rfl
      · rw [k]; exact .inr rfl

set_option maxHeartbeats 1000000 in
set_option maxRecDepth 100000 in
theorem parseU_32 (l : List UInt8) (w : World) (hC : Cons w) (hl : l.length ≤ 100000) :
    Calls Tryz.prog 60 #[.string ⟨l.toArray⟩, .int .i64 16, .int .i64 32] w (GivesU (hexB 4294967296 l) w) := by
  have HI := Lib.hid (inner_32 l w hl)
  have hsz : (⟨l.toArray⟩ : ByteArray).size ≤ 281474976710656 := by rw [Lib.size_eq]; exact Nat.le_trans hl (by decide)
  have HT : ∀ w1, Below w.heap.size w w1 → Hid ((∀ fn : ByteArray, Calls Tryz.prog 66 #[.string fn, .string ⟨l.toArray⟩, .int .i64 16, .int .i64 32, .iface 109 (.int .i64 2)] w1 fun e w' => ∃ T p, e = .returned (.iface T p) ∧ Below w.heap.size w w') ∧ (∀ fn : ByteArray, Calls Tryz.prog 66 #[.string fn, .string ⟨l.toArray⟩, .int .i64 16, .int .i64 32, .iface 109 (.int .i64 1)] w1 fun e w' => ∃ T p, e = .returned (.iface T p) ∧ Below w.heap.size w w')) := fun w1 hb => by
    obtain ⟨ev, h1, h2⟩ := esyn_cell (hC.below hb)
    obtain ⟨er, h3, h4⟩ := eran_cell (hC.below hb)
    refine Lib.hid ⟨fun fn => ?_, fun fn => ?_⟩
    · refine (Tryz.strconv_toError_syntax fn _ 16 32 ev w1 hsz h1 h2).mono ?_
      rintro e w' ⟨N, rfl, _, _, hb'⟩
      exact ⟨_, _, rfl, hb.trans (hb'.mono hb.size)⟩
    · refine (Tryz.strconv_toError_range fn _ 16 32 er w1 hsz h3 h4).mono ?_
      rintro e w' ⟨N, rfl, _, _, hb'⟩
      exact ⟨_, _, rfl, hb.trans (hb'.mono hb.size)⟩
  clear hC hsz hl
  generalize hexB 4294967296 l = o at HI ⊢
  go_enter Tryz.func60, Tryz.ntmps60
  go_wp2_with fail
  refine HI.out.mono ?_
  rintro e w1 ⟨hb, ⟨n, hn, rfl⟩ | ⟨hn, rfl | rfl⟩⟩
  · have HN := Lib.hid hn
    clear hn HT
    go_wp2_with fail
    go_ret2
    exact ⟨isU_some HN.out, hb⟩
  · have HN := Lib.hid hn
    have HT1 := HT _ hb
    clear hn HT
    go_wp2_with fail
    refine (HT1.out.1 _).mono ?_
    rintro e w2 ⟨T, p, rfl, hb2⟩
    go_wp2_with fail
    go_ret2
    exact ⟨isU_none HN.out, hb2⟩
  · have HN := Lib.hid hn
    have HT1 := HT _ hb
    clear hn HT
    go_wp2_with fail
    refine (HT1.out.2 _).mono ?_
    rintro e w2 ⟨T, p, rfl, hb2⟩
    go_wp2_with fail
    go_ret2
    exact ⟨isU_none HN.out, hb2⟩

/-- A group of the program: what is read of at most four digits. -/
def isG : Option Nat → Ending → Prop
  | some n, e => e = .returned (.tuple #[.int .u64 (n : Int), .bool true])
  | none, e => ∃ x, e = .returned (.tuple #[.int .u64 x, .bool false])
def GivesG (o : Option Nat) (w : World) (e : Ending) (w' : World) : Prop := isG o e ∧ Below w.heap.size w w'
theorem isG_none {o : Option Nat} {x : Int} {b : Bool} (h : o = none) (hb : b = false) : isG o (.returned (.tuple #[.int .u64 x, .bool b])) := by rw [h, hb]; exact ⟨x, rfl⟩
theorem isG_some {o : Option Nat} {n : Nat} {b : Bool} (h : o = some n) (hb : b = true) : isG o (.returned (.tuple #[.int .u64 (n : Int), .bool b])) := by rw [h, hb]; rfl

set_option maxHeartbeats 1000000 in
set_option maxRecDepth 100000 in
theorem readGroup_any (l : List UInt8) (w : World) (hC : Cons w) (hl : l.length ≤ 100000) :
    Calls Tryz.prog 78 #[.string ⟨l.toArray⟩] w (GivesG (groupL l) w) := by
  have HP := Lib.hid (parseU_16 l w hC hl)
  clear hC hl
  cases h : hexB 65536 l with
  | none =>
    rw [h] at HP
    have HN : Hid (groupL l = none) := Lib.hid (by unfold groupL; rw [h]; split <;> rfl)
    clear h
    go_enter Tryz.func78, Tryz.ntmps78
    go_wp2_with fail
    refine HP.out.mono ?_
    rintro e w1 ⟨⟨x, T, p, rfl⟩, hb⟩
    go_wp2_with fail
    go_ret2
    exact ⟨isG_none HN.out rfl, hb⟩
  | some n =>
    rw [h] at HP
    by_cases h4 : l.length ≤ 4
    · have h4' : (l.length : Int) ≤ 4 := by omega
      have HN : Hid (groupL l = some n) := Lib.hid (by unfold groupL; rw [h, if_pos h4])
      clear h h4
      replace h4' := Lib.hid h4'
      go_enter Tryz.func78, Tryz.ntmps78
      go_wp2_with fail
      refine HP.out.mono ?_
      rintro e w1 ⟨rfl, hb⟩
      go_wp2_with fail
      go_ret2
      exact ⟨isG_some HN.out (decide_eq_true (by have := h4'.out; omega)), hb⟩
    · have h4' : ¬ (l.length : Int) ≤ 4 := by omega
      have HN : Hid (groupL l = none) := Lib.hid (by unfold groupL; rw [if_neg h4])
      clear h h4
      replace h4' := Lib.hid h4'
      go_enter Tryz.func78, Tryz.ntmps78
      go_wp2_with fail
      refine HP.out.mono ?_
      rintro e w1 ⟨rfl, hb⟩
      go_wp2_with fail
      go_ret2
      exact ⟨isG_none HN.out (decide_eq_false (by have := h4'.out; omega)), hb⟩
end Go.Proofs.YtokeeimppbiokaaGreatDoor
