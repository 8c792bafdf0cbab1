/- slices.Backward of strings, and the number of labels. -/
import Derived.Test.YthjhokicojgpbaaGreatDoorKeNmM
namespace Go.Proofs.YthjhokicojgpbaaGreatDoor
open Go.RowKit
set_option linter.unusedVariables false
set_option linter.unusedSimpArgs false

attribute [local go_sem] Oper.semAt_some

theorem backward_any (A : Option Addr) (m cap : Nat) (w : World) :
    Calls Tryz.prog 150 #[.slice A m cap] w fun e w' => e = .returned (.func (.func 204) #[] #[.pointer (some ⟨w.heap.size, 0, none⟩)]) ∧ w' = w.alloc (.cells #[.slice A m cap] 82) := by
  go_enter Tryz.func150, Tryz.ntmps150
  go_wp2_with fail
  go_ret
  exact ⟨rfl, rfl⟩

set_option maxRecDepth 100000 in
set_option maxHeartbeats 4000000 in
theorem backward1_in (N : Nat) (hN : 1 ≤ N) (l bs : Nat) (A : Option Addr) (m cap : Nat) (ls : List (List UInt8)) (hm : m ≤ 1000000) (hml : m = ls.length)
    (J : Nat → World → Prop)
    (hY : ∀ (k : Nat) p W, ls[k]? = some p → J (k + 1) W → YieldAt Fence.wide (N - 1) Tryz.prog l #[.int .i64 (k : Int), .string ⟨p.toArray⟩] W fun e W' => e = .returned (.bool true) ∧ J k W')
    (hR : ∀ k W, J k W → Boxed W bs 82 (.slice A m cap) ∧ SlE eStr W A m cap ls)
    (W : World) (hJ : J m W) :
    CallsIn Fence.wide N Tryz.prog 204 #[.func (.yield l) #[] #[], .pointer (some ⟨bs, 0, none⟩)] W fun e W' => (∃ v, e = .returned v) ∧ J 0 W' := by
  replace hY := Lib.hid hY
  replace hR := Lib.hid hR
  have hbs := (hR.out m W hJ).1
  refine callsIn_of_wp Tryz.func204 rfl trivial ?_ rfl
  simp only [Tryz.ntmps204, List.size_toArray, List.length_cons, List.length_nil, Nat.reduceAdd, Nat.reduceSub, Array.replicate_succ, Array.replicate_zero, List.push_toArray, List.append_toArray, List.nil_append, List.cons_append]
  have q1 := hbs.cell
  replace hml := Lib.hid hml
  gi_wp2
  gi_loopw [3] (fun i wr => ∃ k : Nat, k ≤ m ∧ i = .int .i64 ((k : Int) - 1) ∧ J k wr) (fun i _ => (intOf i + 1).toNat)
  case atStart => exact ⟨m, Nat.le_refl _, rfl, hJ⟩
  case round =>
    clear hbs q1 hJ
    obtain ⟨k, hk, rfl, hJ⟩ := hrel
    cases k with
    | zero =>
      gi_wp2
      go_end0
      exact ⟨⟨_, rfl⟩, hJ⟩
    | succ k =>
      have e : ((k + 1 : Nat) : Int) - 1 = (k : Int) := by omega
      rw [e]
      obtain ⟨p, hp⟩ : ∃ p, ls[k]? = some p := ⟨ls[k]'(by have := hml.out; omega), List.getElem?_eq_getElem _⟩
      obtain ⟨hbs, hS⟩ := hR.out _ _ hJ
      obtain ⟨g, off, rfl, _, hc⟩ := hS.at' (k := k) (by omega)
      have hcell := hc k p hp 0 (.string ⟨p.toArray⟩) rfl
      rw [show eStr.k = 1 from rfl, Nat.mul_one, Nat.add_zero] at hcell
      have q1 := hbs.cell
      have hcap := hS.2.1
      have hkm : (k : Int) < m := by omega
      obtain ⟨fn, tmps, assign, body, hy, hRr⟩ := hY.out k p wr hp hJ
      have hk0 := Lib.hid hk
      clear hJ hbs hS hc hk
      gi_wp2
      refine hRr.mono ?_
      rintro e W3 ⟨rfl, hJ3⟩
      gi_wp2
      go_roundw
      case rel => exact ⟨k, by have := hk0.out; omega, rfl, hJ3⟩
      case measure => simp [intOf]

def btD (s : Bool) : Int := if s then 4 else 8
def tenD (s : Bool) : Int := if s then 16 else 10
theorem parseD_any (s : Bool) (l : List UInt8) (w : World) (hC : Cons w) (hl : l.length ≤ 100000) :
    Calls Tryz.prog 151 #[.string ⟨l.toArray⟩, .int .i64 (tenD s), .int .i64 64] w (ParP s l w) := by
  cases s
  · exact parse10_any l w hC hl
  · exact parse16_any l w hC hl
/-- A number that is that of labels, if they are those of one. -/
def NumP (s : Bool) (ls : List (List UInt8)) (z : Nat) : Prop :=
  z < 2 ^ 64 ∧ ∀ ds : List Nat, (∀ d ∈ ds, d < baseD s) → baseD s ^ ds.length ≤ 2 ^ 64 → ls = ds.map (labD s) → z = valB (baseD s) ds
theorem numP_nil (s : Bool) : NumP s [] 0 := ⟨by decide, fun ds _ _ h => by
  cases ds with
  | nil => rfl
  | cons d r => cases h⟩
theorem base_pow (s : Bool) : 0 < baseD s ∧ ∃ i, baseD s = 2 ^ i := by
  cases s
  · exact ⟨by decide, 8, rfl⟩
  · exact ⟨by decide, 4, rfl⟩
theorem numP_cons {s : Bool} {r : List (List UInt8)} {p : List UInt8} {z x : Nat} (h : NumP s r z) (hx : x < 2 ^ 64) (hx' : ∀ d, d < baseD s → p = labD s d → x = d) : NumP s (p :: r) ((z * baseD s % 2 ^ 64) ||| x) := by
  refine ⟨Nat.or_lt_two_pow (Nat.mod_lt _ (by decide)) hx, fun ds hd hl he => ?_⟩
  cases ds with
  | nil => cases he
  | cons d ds =>
    rw [List.map_cons] at he
    obtain ⟨h1, h2⟩ := List.cons.inj he
    obtain ⟨hB, i, hi⟩ := base_pow s
    have hd' := fun e he => hd e (List.mem_cons_of_mem _ he)
    have hlp : baseD s ^ ds.length * baseD s ≤ 2 ^ 64 := by rw [← Nat.pow_succ]; exact hl
    have hz := h.2 ds hd' (Nat.le_trans (Nat.le_mul_of_pos_right _ hB) hlp) h2
    have hv := valB_lt hB hd'
    rw [← hz] at hv
    have hzl : z * baseD s < 2 ^ 64 := Nat.lt_of_lt_of_le ((Nat.mul_lt_mul_right hB).2 hv) hlp
    rw [Nat.mod_eq_of_lt hzl, hx' d (hd d List.mem_cons_self) h1]
    have hdB := hd d List.mem_cons_self
    show _ = d + baseD s * valB (baseD s) ds
    rw [← hz, Nat.mul_comm (baseD s) z, Nat.add_comm]
    rw [hi] at hdB ⊢
    exact nat_join i _ _ (Nat.mul_mod_left _ _) hdB
def NumJ (s : Bool) (n0 l D : Nat) (rc : Loop) (A : Option Addr) (m cap : Nat) (ls : List (List UInt8)) (w : World) (k : Nat) (W : World) : Prop :=
  ∃ z : Nat, Blk W n0 [.int .i64 (btD s), .int .i64 (tenD s)] 119 ∧ Boxed W (n0 + 1) 26 (.int .u64 (z : Int)) ∧ Boxed W (n0 + 1 + 1) 82 (.slice A m cap) ∧ W.heap[l]? = some (.loop rc) ∧ W.heap[D]? = some (.deferred (some [])) ∧ NumP s (ls.drop k) z ∧ Below n0 w W

/-- What one turn of the number gives, as the program says it. -/
theorem shl_or {s : Bool} {z x : Nat} {bt : Int} (hbt : bt = btD s) (hz : z < 2 ^ 64) (hx : x < 2 ^ 64) : bits .or .u64 (IntKind.u64.wrap ((z : Int) * 2 ^ min bt.toNat 64)) (x : Int) = (((z * baseD s % 2 ^ 64) ||| x : Nat) : Int) := by
  have e : IntKind.u64.wrap ((z : Int) * 2 ^ min bt.toNat 64) = ((z * baseD s % 2 ^ 64 : Nat) : Int) := by
    rw [IntKind.wrap_u64, hbt]
    cases s
    · rw [show min (Int.toNat (btD false)) 64 = 8 from by decide]
      show ((z : Int) * 256) % _ = ((z * 256 % 2 ^ 64 : Nat) : Int)
      omega
    · rw [show min (Int.toNat (btD true)) 64 = 4 from by decide]
      show ((z : Int) * 16) % _ = ((z * 16 % 2 ^ 64 : Nat) : Int)
      omega
  rw [e, u64_or_nat _ _ (by omega) (by omega)]

set_option maxRecDepth 100000 in
set_option maxHeartbeats 4000000 in
theorem number_any' (s : Bool) (A : Option Addr) (m cap : Nat) (ls : List (List UInt8)) (w : World) (hC : Cons w) (hS : SlE eStr w A m cap ls) (hm : m ≤ 1000000) (hl : ∀ p ∈ ls, p.length ≤ 100000) (bt ten : Int) (hbt : bt = btD s) (hten : ten = tenD s) :
    Calls Tryz.prog 109 #[.agg #[.int .i64 bt, .int .i64 ten], .slice A m cap] w fun e w' => ∃ z : Nat, e = .returned (.int .u64 (z : Int)) ∧ NumP s ls z ∧ Below w.heap.size w w' := by
  obtain ⟨n0, hn0⟩ : ∃ n, n = w.heap.size := ⟨_, rfl⟩
  have bQ := Blk.new w [.int .i64 bt, .int .i64 ten] 119
  have bN := Boxed.new (w.alloc (.cells [Value.int .i64 bt, .int .i64 ten].toArray 119)) 26 (.int .u64 0)
  rw [World.size_alloc, ← hn0] at bN
  replace bQ := bQ.alloc (.cells #[.int .u64 0] 26)
  rw [← hn0] at bQ
  have hB0 : Below n0 w ((w.alloc (.cells [Value.int .i64 bt, .int .i64 ten].toArray 119)).alloc (.cells #[.int .u64 0] 26)) := by
    rw [hn0]; exact ((Below.refl _ _).alloc (Nat.le_refl _) _).alloc (by simp) _
  have hz0 : ((w.alloc (.cells [Value.int .i64 bt, .int .i64 ten].toArray 119)).alloc (.cells #[.int .u64 0] 26)).heap.size = n0 + 1 + 1 := by simp [hn0]
  replace hC := Lib.hid hC
  replace hS := Lib.hid hS
  replace hm := Lib.hid hm
  replace hl := Lib.hid hl
  replace hbt := Lib.hid hbt
  replace hten := Lib.hid hten
  refine (callsIn_wide (n := 5)).1 ?_
  refine callsIn_of_wp_marks Tryz.func109 rfl trivial ?_ rfl
  simp only [Tryz.ntmps109, List.size_toArray, List.length_cons, List.length_nil, Nat.reduceAdd, Nat.reduceSub, Array.replicate_succ, Array.replicate_zero, List.push_toArray, List.append_toArray, List.nil_append, List.cons_append]
  gi_wp2
  refine ⟨trivial, ?_⟩
  refine (callsIn_wide.2 (backward_any A m cap _)).mono ?_
  rintro e w1 ⟨rfl, rfl⟩
  rw [hz0]
  have bS := Boxed.new ((w.alloc (.cells [Value.int .i64 bt, .int .i64 ten].toArray 119)).alloc (.cells #[.int .u64 0] 26)) 82 (.slice A m cap)
  rw [hz0] at bS
  replace hB0 := hB0.alloc (by rw [hz0]; omega) (.cells #[.slice A m cap] 82)
  have cQ := bQ.alloc (.cells #[.slice A m cap] 82)
  have cN := bN.alloc (.cells #[.slice A m cap] 82)
  have hz1 : (((w.alloc (.cells [Value.int .i64 bt, .int .i64 ten].toArray 119)).alloc (.cells #[.int .u64 0] 26)).alloc (.cells #[.slice A m cap] 82)).heap.size = n0 + 1 + 1 + 1 := by rw [World.size_alloc, hz0]
  obtain ⟨W1, hW1⟩ : ∃ W, W = ((w.alloc (.cells [Value.int .i64 bt, .int .i64 ten].toArray 119)).alloc (.cells #[.int .u64 0] 26)).alloc (.cells #[.slice A m cap] 82) := ⟨_, rfl⟩
  have hW1' : ((w.alloc (.cells #[Value.int .i64 bt, .int .i64 ten] 119)).alloc (.cells #[.int .u64 0] 26)).alloc (.cells #[.slice A m cap] 82) = W1 := by rw [hW1]
  rw [← hW1] at bS hB0 cQ cN hz1
  replace hz1 := Lib.hid hz1
  replace hn0 := Lib.hid hn0
  rw [hW1']
  rw [← hn0.out]
  clear bQ bN hz0 hW1 hW1'
  gi_wp2
  refine range_enterN (by decide) (gf := 204) (lb := #[.pointer (some ⟨n0 + 1 + 1, 0, none⟩)]) (by simp [Act.eval]) (enters_of Tryz.func204 (by kernel_rfl) rfl) ?_
  intro fn rc hrc
  obtain ⟨D, hD⟩ : ∃ D, D = W1.heap.size := ⟨_, rfl⟩
  have hDc : D = n0 + 1 + 1 + 1 := by rw [hD]; exact hz1.out
  have hBe : Below n0 W1 ((W1.alloc (.deferred (some []))).alloc (.loop (rc .ready none))) := ((Below.refl _ W1).alloc (by omega) _).alloc (by simp; omega) _
  have hJ0 : NumJ s n0 (D + 1) D (rc .ready none) A m cap ls w m ((W1.alloc (.deferred (some []))).alloc (.loop (rc .ready none))) := by
    refine ⟨0, ?_, (cN.alloc _).alloc _, (bS.alloc _).alloc _, ?_, ?_, ?_, hB0.trans hBe⟩
    · rw [← hbt.out, ← hten.out]; exact (cQ.alloc _).alloc _
    · have := World.alloc_heap_new (W1.alloc (.deferred (some []))) (.loop (rc .ready none))
      rw [World.size_alloc, ← hD] at this
      exact this
    · rw [hD]; exact (Below.heap_alloc _ _ _ (by simp)).trans (World.alloc_heap_new W1 _)
    · rw [List.drop_eq_nil_of_le (by rw [← hS.out.1]; exact Nat.le_refl _)]; exact numP_nil s
  rw [← hD]
  obtain ⟨We, hWe⟩ : ∃ W, W = (W1.alloc (.deferred (some []))).alloc (.loop (rc .ready none)) := ⟨_, rfl⟩
  rw [← hWe] at hJ0 ⊢
  replace hDc := Lib.hid hDc
  clear hWe hBe hB0 cQ cN bS hD
  refine (backward1_in 4 (by decide) (D + 1) (n0 + 1 + 1) A m cap ls hm.out hS.out.1 (NumJ s n0 (D + 1) D (rc .ready none) A m cap ls w) ?hY ?hR We hJ0).mono ?_
  case hR =>
    rintro k W ⟨z, _, _, h3, _, _, _, h7⟩
    exact ⟨h3, hS.out.keep h7.size (fun j hj => h7.block j (by rw [hn0.out]; exact hj))⟩
  case hY =>
    rintro k p W hp ⟨z, hQ, hNn, hSb, hl2, hD2, hP, hB⟩
    have hy := run_yield (P := Tryz.prog) (args := #[.int .i64 (k : Int), .string ⟨p.toArray⟩]) hl2 (by rw [hrc]; rfl)
    rw [hrc] at hy
    refine ⟨_, _, _, _, hy, roundIn_of_wpIn trivial ?_⟩
    clear hy
    replace hrc := Lib.hid hrc
    simp only [List.zip, Array.zip, List.foldl]
    gi_wp2
    refine ⟨_, run_beginRound hl2 (by rw [hrc.out]), ?_⟩
    obtain ⟨busy, hbusy⟩ : ∃ o : Loop, o = { rc .ready none with state := .busy } := ⟨_, rfl⟩
    rw [← hbusy]
    obtain ⟨Wb, hWb⟩ : ∃ X, X = W.putObj (D + 1) (.loop busy) := ⟨_, rfl⟩
    rw [← hWb]
    have hlt1 := (Array.getElem?_eq_some_iff.1 hl2).1
    have hcl := hDc.out
    have hg2 : W.grownBy Wb (some (D + 1)) := by rw [hWb]; exact grownBy_putObj' _ _ _
    have hNb : Boxed Wb (n0 + 1) 26 (.int .u64 (z : Int)) := hNn.kept hg2 (by intro e; have := Option.some.inj e; omega)
    have hSbb : Boxed Wb (n0 + 1 + 1) 82 (.slice A m cap) := hSb.kept hg2 (by intro e; have := Option.some.inj e; omega)
    have hQb : Blk Wb n0 [.int .i64 bt, .int .i64 ten] 119 := by
      rw [hbt.out, hten.out]
      exact (hg2.block _ hQ.lt (by intro e; have := Option.some.inj e; omega)).trans hQ
    have hlb : Wb.heap[D + 1]? = some (.loop busy) := by rw [hWb]; exact World.putObj_heap_same hlt1
    have hDb : Wb.heap[D]? = some (.deferred (some [])) := by rw [hWb]; exact (World.putObj_heap_other (by omega)).trans hD2
    have hBb : Below n0 w Wb := by
      rw [hWb]
      exact hB.grown (grownBy_putObj' _ _ _) (by omega) (fun k e => by have := Option.some.inj e; omega)
    have HL := Lib.hid (parseD_any s p Wb (hC.out.below (by rw [← hn0.out]; exact hBb)) (hl.out p (List.mem_of_getElem? hp)))
    rw [← hten.out] at HL
    have hq0 := hQb.cell (i := 0) (v := .int .i64 bt) rfl
    have hq1 := hQb.cell (i := 1) (v := .int .i64 ten) rfl
    have hdrop := Lib.hid (show ls.drop k = p :: ls.drop (k + 1) by
      obtain ⟨hk, e⟩ := List.getElem?_eq_some_iff.1 hp
      rw [List.drop_eq_getElem_cons hk, e])
    replace hP := Lib.hid hP
    replace hp := Lib.hid hp
    clear hWb hg2 hQ hNn hSb hl2 hD2 hB hlt1 hcl
    gi_wp2
    refine ⟨trivial, ?_⟩
    refine (CallsIn.inRound _ (callsIn_wide.2 HL.out)).mono ?_
    rintro e w3 ⟨x, v, rfl, hx64, hxd, hb3⟩
    have hs3 := hb3.size
    have hcl := hDc.out
    have hltb := (Array.getElem?_eq_some_iff.1 hlb).1
    have hN3 : Boxed w3 (n0 + 1) 26 (.int .u64 (z : Int)) := (hb3.block _ hNb.lt).trans hNb
    have hS3 : Boxed w3 (n0 + 1 + 1) 82 (.slice A m cap) := (hb3.block _ hSbb.lt).trans hSbb
    have hQ3 : Blk w3 n0 [.int .i64 bt, .int .i64 ten] 119 := (hb3.block _ hQb.lt).trans hQb
    have hl3 : w3.heap[D + 1]? = some (.loop busy) := (hb3.block _ (by omega)).trans hlb
    have hD3 : w3.heap[D]? = some (.deferred (some [])) := (hb3.block _ (by omega)).trans hDb
    have hB3 : Below n0 w w3 := hBb.trans (hb3.mono (by have := hNb.lt; omega))
    have hlt3 : D + 1 < w3.heap.size := by omega
    have hq0 := hQ3.cell (i := 0) (v := .int .i64 bt) rfl
    have hn3 := hN3.cell
    have f3 := hN3.frozen
    have hb0 : 0 ≤ bt := by rw [hbt.out]; cases s <;> decide
    have hsh := shl_or (s := s) (x := x) hbt.out hP.out.1 hx64
    obtain ⟨Y, hY⟩ : ∃ Y, Y = (z * baseD s % 2 ^ 64) ||| x := ⟨_, rfl⟩
    rw [← hY] at hsh
    have hPn := Lib.hid (show NumP s (ls.drop k) Y by rw [hdrop.out, hY]; exact numP_cons hP.out hx64 hxd)
    replace hlt3 := Lib.hid hlt3
    replace hcl := Lib.hid hcl
    clear hb3 hNb hSbb hQb hlb hDb hBb HL hq1 hx64 hxd hs3 hltb hY
    gi_wp2
    have hlc := hcl.out
    have hNS := hN3.set (.int .u64 (Y : Int))
    have hSS := hS3.other (B' := n0 + 1) (by omega) (.int .u64 (Y : Int))
    have hlS : (w3.setCell ⟨n0 + 1, 0, none⟩ (.int .u64 (Y : Int))).heap[D + 1]? = some (.loop busy) := (Below.heap_setCell _ _ _ _ (by show D + 1 ≠ n0 + 1; omega)).trans hl3
    have hDS : (w3.setCell ⟨n0 + 1, 0, none⟩ (.int .u64 (Y : Int))).heap[D]? = some (.deferred (some [])) := (Below.heap_setCell _ _ _ _ (by show D ≠ n0 + 1; omega)).trans hD3
    have hQS : Blk (w3.setCell ⟨n0 + 1, 0, none⟩ (.int .u64 (Y : Int))) n0 [.int .i64 (btD s), .int .i64 (tenD s)] 119 := by
      rw [← hbt.out, ← hten.out]
      exact (Below.heap_setCell _ _ _ _ (by show n0 ≠ n0 + 1; omega)).trans hQ3
    have hBS := hB3.setCell (p := ⟨n0 + 1, 0, none⟩) (by show n0 ≤ n0 + 1; omega) (.int .u64 (Y : Int))
    obtain ⟨WS, hWS⟩ : ∃ X, X = w3.setCell ⟨n0 + 1, 0, none⟩ (.int .u64 (Y : Int)) := ⟨_, rfl⟩
    rw [← hWS] at hNS hSS hlS hDS hQS hBS ⊢
    have hltS := (Array.getElem?_eq_some_iff.1 hlS).1
    refine ⟨_, _, run_endRound none hlS, rfl, Y, ?_, ?_, ?_, ?_, ?_, hPn.out, ?_⟩
    · exact ((grownBy_putObj' WS (D + 1) (.loop { busy with state := .ready, pending := none })).block _ hQS.lt (by intro e; have := Option.some.inj e; omega)).trans hQS
    · exact hNS.kept (grownBy_putObj' _ _ _) (by intro e; have := Option.some.inj e; omega)
    · exact hSS.kept (grownBy_putObj' _ _ _) (by intro e; have := Option.some.inj e; omega)
    · rw [hbusy, hrc.out]; exact World.putObj_heap_same hltS
    · exact (World.putObj_heap_other (by omega)).trans hDS
    · exact hBS.grown (grownBy_putObj' _ _ _) (by omega) (fun k e => by have := Option.some.inj e; omega)
  · rintro e W2 ⟨⟨v0, rfl⟩, z, hQ, hNn, hSb, hl2, hD2, hP, hB⟩
    have hcl := hDc.out
    have hel := run_endLoop (P := Tryz.prog) hl2 (by rw [hrc]; simp)
    obtain ⟨W3, hW3⟩ : ∃ X, X = W2.putObj (D + 1) (.loop { rc .ready none with state := .exhausted }) := ⟨_, rfl⟩
    rw [← hW3] at hel
    refine ⟨none, W3, by rw [hel, hrc], ?_⟩
    have hg := grownBy_putObj' W2 (D + 1) (.loop { rc .ready none with state := .exhausted })
    rw [← hW3] at hg
    have hv3 := hNn.kept hg (by intro e; have := Option.some.inj e; omega)
    have hD3 : W3.heap[D]? = some (.deferred (some [])) := by rw [hW3]; exact (World.putObj_heap_other (by omega)).trans hD2
    have hB3 : Below n0 w W3 := hB.grown hg (by have := hNn.lt; omega) (fun k e => by have := Option.some.inj e; omega)
    have c3 := hv3.cell
    rw [List.drop_zero] at hP
    clear hQ hNn hSb hl2 hD2 hg hW3 hel hB
    gi_wp2
    have hBf := hB3.grown (grownBy_putObj' W3 (n0 + 1 + 1 + 1) (.deferred none)) (by have := hv3.lt; omega) (fun k e => by have := Option.some.inj e; omega)
    rw [hDc.out] at hD3
    refine ⟨by simp, .inl ⟨_, _, rfl, run_takeDeferred hD3, ?_⟩⟩
    refine ⟨.int .u64 (z : Int), ?_, z, rfl, hP, by rw [← hn0.out]; exact hBf⟩
    simp [results, Tryz.results109, go_sem]
end Go.Proofs.YthjhokicojgpbaaGreatDoor
