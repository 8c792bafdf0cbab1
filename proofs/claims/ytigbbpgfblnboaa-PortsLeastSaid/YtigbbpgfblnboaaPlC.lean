/- The reference's least list of ports: port by port. -/
import Derived.Test.YtigbbpgfblnboaaPlB
import Derived.OwnWalk
namespace Go.Proofs.Ytigbbpgfblnboaa
open Go.RowKit
set_option linter.unusedVariables false
set_option linter.unusedSimpArgs false

def enc2 (p : Pt) : List Value := [.int .i64 p.1, .int .i64 p.2]
def cellsP (ps : List Pt) : List Value := ps.flatMap enc2
theorem cellsP_append (l m : List Pt) : cellsP (l ++ m) = cellsP l ++ cellsP m := List.flatMap_append
theorem cellsP_one (p : Pt) : cellsP [p] = [.int .i64 p.1, .int .i64 p.2] := rfl
theorem cellsP_len : ∀ ps : List Pt, (cellsP ps).length = ps.length * 2
  | [] => rfl
  | p :: r => by
    show (enc2 p ++ cellsP r).length = _
    rw [List.length_append, cellsP_len r, List.length_cons]
    show 2 + _ = _
    omega
theorem cellsP_get : ∀ (ps : List Pt) (j : Nat) (p : Pt), ps[j]? = some p → (cellsP ps)[j * 2]? = some (.int .i64 p.1) ∧ (cellsP ps)[j * 2 + 1]? = some (.int .i64 p.2)
  | [], j, p, h => by simp at h
  | q :: r, 0, p, h => by
    simp at h; subst h
    exact ⟨rfl, rfl⟩
  | q :: r, j + 1, p, h => by
    have h' : r[j]? = some p := by simpa using h
    obtain ⟨a, b⟩ := cellsP_get r j p h'
    have e : cellsP (q :: r) = .int .i64 q.1 :: .int .i64 q.2 :: cellsP r := rfl
    rw [e, show (j + 1) * 2 = j * 2 + 2 by omega, show j * 2 + 2 + 1 = (j * 2 + 1) + 2 by omega]
    exact ⟨by simpa using a, by simpa using b⟩

/-- A store into one's own row. -/
theorem own_set {w : World} {base : Nat} {e : TypeId} {size n cap g : Nat} {xs : List Value} (h : w.ownsRow base e size (.slice (some ⟨g, 0, none⟩) n cap) n xs) (i : Nat) (u : Value) (hi : i < n * size) :
    (w.setCell ⟨g, i, none⟩ u).ownsRow base e size (.slice (some ⟨g, 0, none⟩) n cap) n (xs.set i u) := by
  obtain ⟨h1, h2⟩ := h
  refine ⟨by rw [List.length_set]; exact h1, ?_⟩
  rcases h2 with ⟨hv, _⟩ | ⟨g', cap', cur, hv, hg, hh, hle, hmx, hsz, ht⟩
  · cases hv
  · cases hv
    refine .inr ⟨g, cap, cur.set! i u, rfl, hg, ?_, hle, hmx, by simpa using hsz, ?_⟩
    · simp only [World.setCell, Array.getElem?_modify, if_pos, hh, Option.map_some]
      simp
    · rw [← ht]
      simp only [Array.set!_eq_setIfInBounds, Array.toList_setIfInBounds]
      rw [List.take_set]
theorem own_frozen {w : World} {base : Nat} {e : TypeId} {size n cap g : Nat} {xs : List Value} (h : w.ownsRow base e size (.slice (some ⟨g, 0, none⟩) n cap) n xs) (i : Nat) : w.frozen? ⟨g, i, none⟩ = false := by
  rcases h.2 with ⟨hv, _⟩ | ⟨g', cap', cur, hv, hg, hh, _⟩
  · cases hv
  · cases hv; exact frozen_of_row w g i _ _ hh
theorem own_base {w : World} {base : Nat} {e : TypeId} {size n cap g : Nat} {xs : List Value} (h : w.ownsRow base e size (.slice (some ⟨g, 0, none⟩) n cap) n xs) : base ≤ g ∧ g < w.heap.size := by
  rcases h.2 with ⟨hv, _⟩ | ⟨g', cap', cur, hv, hg, hh, _⟩
  · cases hv
  · cases hv; exact ⟨hg, (Array.getElem?_eq_some_iff.1 hh).1⟩
theorem own_slice {w : World} {base : Nat} {e : TypeId} {size n : Nat} {v : Value} {xs : List Value} (h : w.ownsRow base e size v n xs) (hn : 0 < n) : ∃ g cap, v = .slice (some ⟨g, 0, none⟩) n cap := by
  rcases h.2 with ⟨_, h0⟩ | ⟨g', cap', cur, hv, _⟩
  · omega
  · exact ⟨_, _, hv⟩
theorem own_len {w : World} {base : Nat} {e : TypeId} {size n : Nat} {v : Value} {xs : List Value} (h : w.ownsRow base e size v n xs) : ∃ A cap, v = .slice A n cap := by
  rcases h.2 with ⟨rfl, rfl⟩ | ⟨g', cap', cur, hv, _⟩
  · exact ⟨_, _, rfl⟩
  · exact ⟨_, _, hv⟩
/-- One's own row of ranges, as a slice. -/
theorem slP_own {w : World} {base : Nat} {v : Value} {ps : List Pt} (h : w.ownsRow base 29 2 v ps.length (cellsP ps)) : ∃ A cap, v = .slice A ps.length cap ∧ SlP w A ps.length cap ps := by
  have h0 := h
  rcases h.2 with ⟨rfl, h1⟩ | ⟨g, cap, cur, rfl, hg, hh, hle, _⟩
  · exact ⟨none, 0, by rw [h1], rfl, by omega, .inl h1⟩
  · refine ⟨_, cap, rfl, rfl, hle, .inr ⟨g, 0, rfl, (Array.getElem?_eq_some_iff.1 hh).1, fun j p hp => ?_⟩⟩
    obtain ⟨a, b⟩ := cellsP_get ps j p hp
    have ha := h0.cells (g := g) rfl _ _ a
    have hb := h0.cells (g := g) rfl _ _ b
    rw [Nat.zero_add]
    simp only [Addr.add_lit, Nat.zero_add] at ha hb
    exact ⟨ha, hb⟩

theorem cell_two_at (w : World) (x y : Value) (t : TypeId) (b : Nat) (hb : b = w.heap.size) : ∀ (j : Nat) (u : Value), [x, y][j]? = some u → (w.alloc (.cells #[x, y] t)).cell? ((⟨b, 0, none⟩ : Addr).add j) = some u := by
  subst hb
  intro j u hj
  match j, hj with
  | 0, hj => simp at hj; subst hj; simp [Addr.add]
  | 1, hj => simp at hj; subst hj; simp [Addr.add]

theorem info_ports : (Try.prog.info? 29).map (fun i => (i.zero, i.size, i.bytes)) = some (some (.agg #[.int .i64 0, .int .i64 0]), 2, 16) := by kernel_rfl

def isF : Value → Bool
  | .bool false => true
  | _ => false
set_option maxRecDepth 1000000 in
theorem zeros_all : (Try.zeroCells69.toList.all isF) = true := by kernel_rfl
theorem zeros_at (i : Nat) (h : i < 65537) : Try.zeroCells69[i]? = some (.bool false) := by
  have hs : i < Try.zeroCells69.size := by rw [Try.zeroCells69_size]; exact h
  rw [Array.getElem?_eq_getElem hs]
  have := List.all_eq_true.1 zeros_all _ (Array.getElem_mem_toList hs)
  generalize Try.zeroCells69[i] = v at *
  unfold isF at this
  split at this
  · rfl
  · cases this

/-- The block of flags: which ports there are. -/
def Flags (w : World) (b : Nat) (h : Int → Bool) : Prop := ∃ cur : Array Value, w.heap[b]? = some (.cells cur 69 (0, 0)) ∧ cur.size = 65537 ∧ ∀ i : Nat, i < 65537 → cur[i]? = some (.bool (h i))
theorem Flags.cell {w : World} {b : Nat} {h : Int → Bool} (H : Flags w b h) (i : Nat) (hi : i < 65537) : w.cell? ⟨b, i, none⟩ = some (.bool (h i)) := by
  obtain ⟨cur, h1, h2, h3⟩ := H
  rw [cell_of_row w b i _ _ _ h1]; exact h3 i hi
theorem Flags.free {w : World} {b : Nat} {h : Int → Bool} (H : Flags w b h) (i : Nat) : w.frozen? ⟨b, i, none⟩ = false := by
  obtain ⟨cur, h1, h2, h3⟩ := H
  exact frozen_of_row w b i _ _ h1
theorem Flags.lt {w : World} {b : Nat} {h : Int → Bool} (H : Flags w b h) : b < w.heap.size := by
  obtain ⟨cur, h1, _⟩ := H
  exact (Array.getElem?_eq_some_iff.1 h1).1
theorem Flags.below {w w' : World} {b : Nat} {h : Int → Bool} (H : Flags w b h) (hb : Below w.heap.size w w') : Flags w' b h := by
  have hl := H.lt
  obtain ⟨cur, h1, h2⟩ := H
  exact ⟨cur, (hb.block b hl).trans h1, h2⟩
theorem Flags.new (w : World) : Flags (w.alloc (.cells Try.zeroCells69 69)) w.heap.size (fun _ => false) :=
  ⟨Try.zeroCells69, heap_alloc_new w _, Try.zeroCells69_size, fun i hi => zeros_at i hi⟩
theorem Flags.set {w : World} {b : Nat} {h : Int → Bool} (H : Flags w b h) (k : Nat) (hk : k < 65537) : Flags (w.setCell ⟨b, k, none⟩ (.bool true)) b (fun i => decide (i = (k : Int)) || h i) := by
  obtain ⟨cur, h1, h2, h3⟩ := H
  refine ⟨cur.set! k (.bool true), ?_, by simpa using h2, fun i hi => ?_⟩
  · simp only [World.setCell, Array.getElem?_modify, if_pos, h1, Option.map_some]
    simp
  · rw [Array.set!_eq_setIfInBounds, Array.getElem?_setIfInBounds]
    by_cases e : k = i
    · subst e
      rw [if_pos rfl, if_pos (by omega)]
      simp
    · rw [if_neg e, h3 i hi]
      show some (Value.bool (h i)) = some (Value.bool (decide ((i : Int) = (k : Int)) || h i))
      rw [decide_eq_false (by omega), Bool.false_or]
theorem Flags.congr {w : World} {b : Nat} {h h' : Int → Bool} (H : Flags w b h) (e : ∀ i : Int, h i = h' i) : Flags w b h' := by
  have : h = h' := funext e
  rw [← this]; exact H

set_option maxHeartbeats 4000000 in
set_option maxRecDepth 100000 in
theorem leastOf_any (A : Option Addr) (n cap : Nat) (ps : List Pt) (w : World) (hS : SlP w A n cap ps) (hn : n ≤ 1000) (hr : ps.all rightB = true) :
    Calls Try.prog 13 #[.slice A n cap] w fun e w' => ∃ (R : List Pt) (h : Int → Bool) (A' : Option Addr) (cap' : Nat), e = .returned (.slice A' R.length cap') ∧ SlP w' A' R.length cap' R.reverse ∧ ScanI h R 65536 ∧ (∀ k : Int, 0 ≤ k → k < 65537 → (h k = true ↔ InP ps k)) ∧ R.length ≤ 65536 ∧ Below w.heap.size w w' := by
  obtain ⟨h1, h2, h3⟩ := hS
  have h3 := Lib.hid h3
  replace h1 := Lib.hid h1
  replace hr := Lib.hid hr
  obtain ⟨i0, hi0, hz0, hz1, hz2⟩ := info_parts info_ports
  have hF0 := Flags.new w
  have hb0 : Below w.heap.size w (w.alloc (.cells Try.zeroCells69 69)) := (Below.refl _ _).alloc (Nat.le_refl _) _
  go_enter Try.func13, Try.ntmps13
  go_upto_region 2 with fail
  generalize w.alloc (.cells Try.zeroCells69 69) = w0 at hF0 hb0 ⊢
  go_wp2_with fail
  go_loopw [11] (fun i wr => ∃ (k : Nat) (h : Int → Bool), k ≤ n ∧ i = .int .i64 k ∧ Below w.heap.size w wr ∧ Flags wr w.heap.size h ∧ Hid (∀ j : Int, h j = true ↔ InP (ps.take k) j)) (fun i _ => n - (intOf i).toNat)
  case atStart => exact ⟨0, fun _ => false, by omega, rfl, hb0, hF0, Lib.hid (fun j => by simp [inP_nil])⟩
  case round =>
    obtain ⟨k, h, hk, rfl, hbw, hF, hG⟩ := hrel
    by_cases hlt : k < n
    · skip
      obtain ⟨p, hp⟩ : ∃ p, ps[k]? = some p := ⟨ps[k]'(by have := h1.out; omega), List.getElem?_eq_getElem _⟩
      obtain ⟨b, off, rfl, hb, hc⟩ : ∃ b off, A = some ⟨b, off, none⟩ ∧ b < w.heap.size ∧ ∀ j p, ps[j]? = some p → w.cell? ⟨b, off + j * 2, none⟩ = some (.int .i64 p.1) ∧ w.cell? ⟨b, off + j * 2 + 1, none⟩ = some (.int .i64 p.2) := by
        rcases h3.out with h | h
        · omega
        · exact h
      obtain ⟨x, y⟩ := p
      obtain ⟨q0, q1⟩ := hc k (x, y) hp
      have r0 : wr.cell? ⟨b, off + k * 2, none⟩ = some (.int .i64 x) := by rw [hbw.cell (by exact hb)]; exact q0
      have r1 : wr.cell? ⟨b, off + k * 2 + 1, none⟩ = some (.int .i64 y) := by rw [hbw.cell (by exact hb)]; exact q1
      have hlt' : (k : Int) < n := by omega
      have hsw := hbw.size
      clear q0 q1
      have hright := List.all_eq_true.1 hr.out _ (List.mem_of_getElem? hp)
      have hxy : 0 ≤ x ∧ x ≤ y ∧ y ≤ 65535 := of_decide_eq_true hright
      have hT := Lib.hid (show ∀ j, InP (ps.take (k + 1)) j ↔ InP (ps.take k) j ∨ (x ≤ j ∧ j ≤ y) from fun j => by
        rw [List.take_add_one, hp, inP_append]
        have : InP [(x, y)] j ↔ (x ≤ j ∧ j ≤ y) := by rw [inP_cons]; simp [inP_nil]
        rw [show (some (x, y)).toList = [(x, y)] from rfl, this])
      clear hright hc hp
      have hBp := Blk.new wr [.int .i64 x, .int .i64 y] 29
      have hF1 := hF.below ((Below.refl _ _).alloc (Nat.le_refl _) (.cells #[.int .i64 x, .int .i64 y] 29))
      have hbw1 := hbw.alloc hsw (.cells #[.int .i64 x, .int .i64 y] 29)
      have hpl : w.heap.size < wr.heap.size := hF.lt
      clear hF
      go_wp2_with fail
      go_loopw [6] (fun c wi => ∃ (m : Nat) (h' : Int → Bool), x ≤ (m : Int) ∧ (m : Int) ≤ y + 1 ∧ c = .int .i64 (m : Int) ∧ Below w.heap.size w wi ∧ Blk wi wr.heap.size [.int .i64 x, .int .i64 y] 29 ∧ Flags wi w.heap.size h' ∧ Hid (∀ j : Int, h' j = true ↔ InP (ps.take k) j ∨ (x ≤ j ∧ j < (m : Int)))) (fun c _ => (y + 1 - intOf c).toNat)
      case atStart =>
        obtain ⟨m, hm⟩ := Int.eq_ofNat_of_zero_le hxy.1
        exact ⟨m, h, by omega, by omega, by rw [hm], hbw1, hBp, hF1, Lib.hid (fun j => by
          rw [hG.out j]
          constructor
          · intro a; exact .inl a
          · rintro (a | a)
            · exact a
            · omega)⟩
      case round =>
        obtain ⟨m, h', hm1, hm2, rfl, hbi, hBi, hFi, hGi⟩ := hrel
        have p0 := hBi.cell (i := 0) (v := .int .i64 x) rfl
        have p1 := hBi.cell (i := 1) (v := .int .i64 y) rfl
        by_cases hq : (m : Int) ≤ y
        · have c0 := hFi.cell m (by omega)
          have f0 := hFi.free m
          have hm65 : (m : Int) < 65537 := by omega
          have hF2 := hFi.set m (by omega)
          have hbi2 := hbi.setCell (p := ⟨w.heap.size, m, none⟩) (Nat.le_refl _) (.bool true)
          have hBi2 := hBi.other (a := ⟨w.heap.size, m, none⟩) (by simp; omega) (.bool true)
          have hG2 : Hid (∀ j : Int, (decide (j = (m : Int)) || h' j) = true ↔ InP (ps.take k) j ∨ (x ≤ j ∧ j < (m : Int) + 1)) := Lib.hid (fun j => by
            rw [Bool.or_eq_true, hGi.out j, decide_eq_true_iff]
            constructor
            · rintro (a | a | a)
              · exact .inr ⟨by omega, by omega⟩
              · exact .inl a
              · exact .inr ⟨a.1, by omega⟩
            · rintro (a | a)
              · exact .inr (.inl a)
              · by_cases e : j = (m : Int)
                · exact .inl e
                · exact .inr (.inr ⟨a.1, by omega⟩))
          clear hFi hbi hBi hGi
          go_wp2_with fail
          go_roundw
          case rel => exact ⟨m + 1, _, by omega, by omega, by go_num, hbi2, hBi2, hF2, by rw [show ((m + 1 : Nat) : Int) = (m : Int) + 1 by omega]; exact hG2⟩
          case measure => simp [intOf]; omega
        · have hG2 : Hid (∀ j : Int, h' j = true ↔ InP (ps.take (k + 1)) j) := Lib.hid (fun j => by
            rw [hGi.out j, hT.out j]
            constructor
            · rintro (a | a)
              · exact .inl a
              · exact .inr ⟨a.1, by omega⟩
            · rintro (a | a)
              · exact .inl a
              · exact .inr ⟨a.1, by omega⟩)
          clear hGi hT
          go_wp2_with fail
          go_roundw
          case rel => exact ⟨k + 1, h', by omega, by go_num, hbi, hFi, hG2⟩
          case measure => simp [intOf]; omega
    · rename World => w1
      have hG2 : Hid (∀ j : Int, h j = true ↔ InP ps j) := Lib.hid (fun j => by rw [hG.out j, List.take_of_length_le (by have := h1.out; omega)])
      have hneg : Hid (∀ j : Int, j < 0 → h j = false) := Lib.hid (fun j hj => by
        cases hh : h j
        · rfl
        · obtain ⟨p, hp, ha⟩ := (hG2.out j).1 hh
          have := of_decide_eq_true (List.all_eq_true.1 hr.out p hp)
          omega)
      have hs := hbw.size
      have hl := hF.lt
      clear hG h3 hr hF0 hb0
      go_wp2_with fail
      go_loopw [7, 26] (fun o i wr => ∃ (z : Int) (R : List Pt), 0 ≤ z ∧ z ≤ 65536 ∧ i = .int .i64 z ∧ wr.ownsRow w1.heap.size 29 2 o R.length (cellsP R.reverse) ∧ Below w1.heap.size w1 wr ∧ Hid (ScanI h R z) ∧ Hid ((R.length : Int) ≤ z)) (fun _ i _ => 65536 - (intOf i).toNat)
      case atStart => exact ⟨0, [], by omega, by omega, rfl, World.ownsRow_nil _ _ _ _, Below.refl _ _, Lib.hid ⟨trivial, fun j => by simp [inP_nil]; omega⟩, Lib.hid (by simp)⟩
      case round =>
        obtain ⟨z, R, hm0, hm, rfl, hown, hbx, hS, hRl⟩ := hrel
        have hK : w.heap.size < w1.heap.size := hl
        by_cases hm6' : z < 65536
        · have hm7' : z < 65537 := by omega
          have hSK := scanS_keeps hS.out hm0
          have c0 : wr.cell? ⟨w.heap.size, z.toNat, none⟩ = some (.bool (h z)) := by
            rw [hbx.cell (by exact hK)]
            have := hF.cell z.toNat (by omega)
            rwa [Int.toNat_of_nonneg hm0] at this
          cases hh : h z with
          | false =>
            have e0 : scanS h R z = R := if_pos hh
            rw [e0] at hSK
            rw [hh] at c0
            clear hh e0
            go_wp2_with fail
            go_roundw
            case rel => exact ⟨z + 1, R, by omega, by omega, by go_num, hown, hbx, Lib.hid hSK, Lib.hid (by have := hRl.out; omega)⟩
            case measure => simp [intOf]; omega
          | true =>
            rw [hh] at c0
            have hz := hbx.size
            by_cases h0 : z = 0
            · subst h0
              have HOS : scanS h R 0 = (0, 0) :: R := by
                unfold scanS
                rw [if_neg (by rw [hh]; decide)]
                cases R with
                | nil => rfl
                | cons q r => exact if_neg (fun x => absurd x.1 (by decide))
              rw [HOS] at hSK
              replace c0 : wr.cell? ⟨w.heap.size, 0, none⟩ = some (.bool true) := c0
              clear hh HOS hm0 hm hm6' hm7'
              go_wp2_with (at_builtin; refine wpList_append_own _ rfl _ _ 26 rfl w1.heap.size 29 i0 (.agg #[.int .i64 0, .int .i64 0]) 2 16 Try.underlying26 hi0 hz0 hz1 hz2 rfl (by decide) _ _ _ rfl (hown.alloc _) ⟨wr.heap.size, 0, none⟩ 1 1 [.int .i64 0, .int .i64 0] rfl rfl ?c1 ?c2 ?c3 ?c4 ?c5 ?_)
              case c1 => exact cell_two_at _ _ _ _ _ rfl
              case c2 => intro u hu; simp at hu; subst hu; rfl
              case c3 => have hQ := hRl.out; unfold maxLen; omega
              case c4 => have hQ := hRl.out; omega
              case c5 => first | omega | (simp; done) | (simp; omega)
              intro v3 x3 hown3 hg3 _
              have hb3 : Below w1.heap.size w1 x3 := (hbx.alloc hz _).grown hg3 (by first | omega | (simp; done) | (simp; omega)) (fun k h => (hown.lt k h).1)
              clear hg3 hown hbx
              go_wp2_with fail
              go_roundw
              case rel => exact ⟨1, (0, 0) :: R, by omega, by omega, by go_num, by rw [List.reverse_cons, cellsP_append]; exact hown3, hb3, Lib.hid hSK, Lib.hid (by have := hRl.out; simp; omega)⟩
              case measure => simp [intOf]; try omega
            · obtain ⟨m1, hm1⟩ : ∃ m1 : Int, z - 1 = m1 := ⟨_, rfl⟩
              have hmq : 0 ≤ m1 ∧ m1 < 65537 := by omega
              have c1 : wr.cell? ⟨w.heap.size, m1.toNat, none⟩ = some (.bool (h m1)) := by
                rw [hbx.cell (by exact hK)]
                have := hF.cell m1.toNat (by omega)
                rwa [Int.toNat_of_nonneg hmq.1] at this
              obtain ⟨hm0', hm1'⟩ := hmq
              have hmp : 0 < z := by omega
              clear h0
              cases hh1 : h m1 with
              | false =>
                rw [hh1] at c1
                have HOS : scanS h R z = (z, z) :: R := by
                  unfold scanS
                  rw [if_neg (by rw [hh]; decide)]
                  cases R with
                  | nil => rfl
                  | cons q r => exact if_neg (fun x => by rw [hm1, hh1] at x; cases x.2)
                clear hh hh1
                rw [HOS] at hSK
                clear HOS
                go_wp2_with (at_builtin; refine wpList_append_own _ rfl _ _ 26 rfl w1.heap.size 29 i0 (.agg #[.int .i64 0, .int .i64 0]) 2 16 Try.underlying26 hi0 hz0 hz1 hz2 rfl (by decide) _ _ _ rfl (hown.alloc _) ⟨wr.heap.size, 0, none⟩ 1 1 [.int .i64 z, .int .i64 z] rfl rfl ?c1 ?c2 ?c3 ?c4 ?c5 ?_)
                case c1 => exact cell_two_at _ _ _ _ _ rfl
                case c2 => intro u hu; simp at hu; subst hu; rfl
                case c3 => have hQ := hRl.out; unfold maxLen; omega
                case c4 => have hQ := hRl.out; omega
                case c5 => first | omega | (simp; done) | (simp; omega)
                intro v3 x3 hown3 hg3 _
                have hb3 : Below w1.heap.size w1 x3 := (hbx.alloc hz _).grown hg3 (by first | omega | (simp; done) | (simp; omega)) (fun k h => (hown.lt k h).1)
                clear hg3 hown hbx
                go_wp2_with fail
                go_roundw
                case rel => exact ⟨z + 1, (z, z) :: R, by omega, by omega, by go_num, by rw [List.reverse_cons, cellsP_append]; exact hown3, hb3, Lib.hid hSK, Lib.hid (by have := hRl.out; simp; omega)⟩
                case measure => simp [intOf]; try omega
              | true =>
                rw [hh1] at c1
                obtain ⟨q, r, rfl, hq⟩ := scan_last hS.out hmp (by rw [hm1]; exact hh1)
                have HOS : scanS h (q :: r) z = (q.1, z) :: r := by
                  unfold scanS
                  rw [if_neg (by rw [hh]; decide)]
                  exact if_pos ⟨hmp, by rw [hm1]; exact hh1⟩
                rw [HOS] at hSK
                obtain ⟨g, cap', rfl⟩ := own_slice hown (by simp)
                obtain ⟨hg1, hg2⟩ := own_base hown
                have hfz := own_frozen hown (r.length * 2 + 1)
                have hx0 : (cellsP (q :: r).reverse)[r.length * 2 + 1]? = some (.int .i64 q.2) := by
                  rw [List.reverse_cons, cellsP_append, List.getElem?_append_right (by rw [cellsP_len, List.length_reverse]; omega), cellsP_len, List.length_reverse, cellsP_one]
                  rw [show r.length * 2 + 1 - r.length * 2 = 1 by omega]; rfl
                have hcl := hown.cells (g := g) rfl _ _ hx0
                simp only [Addr.add_lit, Nat.zero_add] at hcl
                have hset := own_set hown (r.length * 2 + 1) (.int .i64 z) (by simp; omega)
                have hxs : (cellsP (q :: r).reverse).set (r.length * 2 + 1) (.int .i64 z) = cellsP ((q.1, z) :: r).reverse := by
                  rw [List.reverse_cons, List.reverse_cons, cellsP_append, cellsP_append, List.set_append_right _ _ (by rw [cellsP_len, List.length_reverse]; omega), cellsP_len, List.length_reverse, cellsP_one, cellsP_one]
                  rw [show r.length * 2 + 1 - r.length * 2 = 1 by omega]; rfl
                rw [hxs] at hset
                have hb3 : Below w1.heap.size w1 (wr.setCell ⟨g, r.length * 2 + 1, none⟩ (.int .i64 z)) := hbx.setCell (by exact hg1) _
                have hrl : (((q :: r).length : Nat) : Int) - 1 = (r.length : Int) := by simp
                have hrl2 : (r.length : Int) < (((q :: r).length : Nat) : Int) := by simp; omega
                have hRl' : (((q :: r).length : Nat) : Int) ≤ z := hRl.out
                obtain ⟨y, hy⟩ : ∃ y : Int, (r.length : Int) = y := ⟨_, rfl⟩
                have hy0 : 0 ≤ y := by omega
                have hy1 : y < 65536 := by omega
                have hyn : r.length = y.toNat := by omega
                rw [hy] at hrl hrl2
                rw [hyn] at hfz hcl hset hb3
                clear hRl'
                replace hy := Lib.hid hy
                replace hyn := Lib.hid hyn
                obtain ⟨L, hL⟩ : ∃ L, L = (q :: r).length := ⟨_, rfl⟩
                have hL1 : L = r.length + 1 := by rw [hL]; simp
                rw [← hL] at hrl hrl2 hset hRl ⊢
                have hLc : L ≤ cap' := by
                  rcases hown.2 with ⟨hv, _⟩ | ⟨g', c', cur, hv, _, _, hle, _⟩
                  · cases hv
                  · cases hv; rw [hL]; exact hle
                replace hL1 := Lib.hid hL1
                clear hown hbx hh hh1 hx0 hxs HOS hL
                go_wp2_with fail
                go_roundw
                case rel => exact ⟨z + 1, (q.1, z) :: r, by omega, by omega, by go_num, by rw [List.length_cons, ← hL1.out]; exact hset, hb3, Lib.hid hSK, Lib.hid (by have := hL1.out; have := hRl.out; simp; omega)⟩
                case measure => simp [intOf]; omega
        · obtain rfl : z = 65536 := by omega
          obtain ⟨A', cap', rfl, hSl⟩ := slP_own (ps := R.reverse) (by rw [List.length_reverse]; exact hown)
          rw [List.length_reverse] at hSl ⊢
          clear hown
          go_wp2_with fail
          go_ret
          exact ⟨R, h, A', cap', rfl, hSl, hS.out, fun k h1 h2 => hG2.out k, by have := hRl.out; omega, hbw.trans (hbx.mono hs)⟩
end Go.Proofs.Ytigbbpgfblnboaa
