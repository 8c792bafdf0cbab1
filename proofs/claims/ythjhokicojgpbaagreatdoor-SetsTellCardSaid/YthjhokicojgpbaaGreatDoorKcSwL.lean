/- Counts: sums of texts. -/
import Derived.Test.YthjhokicojgpbaaGreatDoorKcSwK
import Derived.Test.YthjhokicojgpbaaGreatDoorKcSwI
namespace Go.Proofs.YthjhokicojgpbaaGreatDoor
open Go.RowKit
set_option linter.unusedVariables false
set_option linter.unusedSimpArgs false

theorem cells_by : ∀ xs : List Nat, eBy.cells xs = xs.map (fun b : Nat => Value.int .u8 (b : Int))
  | [] => rfl
  | x :: r => by rw [eBy.cells_cons, cells_by r]; rfl
theorem run_mkS (n : Nat) (w : World) (B : Nat) (hn : n ≤ 1000) (hB : B ≤ w.heap.size) : ∃ w', (Instr.makeSlice 130 (.int .i64 (n : Int)) (.int .i64 (n : Int))).run Tryz.prog w = .ok (.slice (some ⟨w.heap.size, 0, none⟩) n n) w' ∧
    OwnE eBy 5 B w' (.slice (some ⟨w.heap.size, 0, none⟩) n n) (List.replicate n 0) ∧ w.grownBy w' none := by
  obtain ⟨i0, hi0, hz0, hz1, hz2⟩ := info_parts infoBy
  obtain ⟨w', h1, h2, h3⟩ := run_makeSlice_full (P := Tryz.prog) (w := w) B 130 5 i0 (.int .u8 0) 1 Tryz.underlying130 hi0 hz0 hz1 .i64 .i64 n (by omega) (by rw [hz2]; omega) (by unfold maxLen; omega) hB
  refine ⟨w', h1, ?_, h3⟩
  · unfold OwnE
    rw [List.length_replicate]
    have e : (madeCells (Value.int .u8 0).cells (n * 1)).toList = eBy.cells (List.replicate n 0) := by
      rw [cells_by, List.map_replicate, Nat.mul_one, List.eq_replicate_iff]
      refine ⟨by simp [madeCells], fun b hb => ?_⟩
      simp only [madeCells, Array.toList_map, List.mem_map] at hb
      obtain ⟨i, _, rfl⟩ := hb
      show (#[Value.int .u8 0] : Array Value)[i % 1]! = _
      rw [Nat.mod_one]; rfl
    rw [← e]
    exact h2
/-- A digit of a text. -/
theorem digS_at {ds : List Nat} {j q a : Nat} (hq : q + j + 1 = ds.length) (ha : ds[j]? = some a) (h10 : a < 10) (hs : q < (digS ds).size) : ((digS ds)[q]'hs).toNat = 48 + a := by
  have e0 : ds.length - 1 - q = j := by omega
  have e1 : (digS ds).data[q]? = some (UInt8.ofNat (48 + a)) := by
    show ((ds.reverse.map (48 + ·)).map UInt8.ofNat).toArray[q]? = _
    rw [List.getElem?_toArray, List.getElem?_map, List.getElem?_map, List.getElem?_reverse (by omega), e0, ha]
    rfl
  show ((digS ds).data[q]'hs).toNat = _
  rw [(Array.getElem?_eq_some_iff.1 e1).2, UInt8.toNat_ofNat']
  omega
theorem row_set {out : List Nat} {n q d : Nat} (h : q + out.length + 1 = n) : (List.replicate (n - out.length) 0 ++ (out.map (48 + ·)).reverse).set q (48 + d) = List.replicate (n - (out.length + 1)) 0 ++ ((out ++ [d]).map (48 + ·)).reverse := by
  have e1 : n - out.length = q + 1 := by omega
  have e2 : n - (out.length + 1) = q := by omega
  rw [e1, e2, List.replicate_succ', List.append_assoc, List.set_append_right _ _ (by simp), List.length_replicate, Nat.sub_self, List.map_append, List.reverse_append]
  rfl
set_option maxRecDepth 100000 in
set_option maxHeartbeats 4000000 in
theorem decimal_any (x y : Nat) (w : World) (hx : (decR x).length ≤ 100) (hy : (decR y).length ≤ 100) :
    Calls Tryz.prog 98 #[.string (decS x), .string (decS y)] w (GivesV (.string (decS (x + y))) w) := by
  obtain ⟨n, hn⟩ : ∃ n, n = (decR x).length := ⟨_, rfl⟩
  obtain ⟨m, hm⟩ : ∃ m, m = (decR y).length := ⟨_, rfl⟩
  have s1 : (decS x).size = n := by rw [decS_dig, digS_size, hn]
  have s2 : (decS y).size = m := by rw [decS_dig, digS_size, hm]
  rcases Nat.lt_or_ge n m with hlt | hlt
  · rw [Nat.add_comm x y]
    have hlt' : (n : Int) < m := by omega
    obtain ⟨k, hk⟩ : ∃ k, k = m - n := ⟨_, rfl⟩
    have hnm : IntKind.i64.wrap ((m : Int) - n) = (k : Int) := by
      rw [show (m : Int) - n = (k : Int) by omega]
      exact IntWalk.i64_in _ (by omega)
    have hZ : (digS (List.replicate k 0)).size = k := by rw [digS_size, List.length_replicate]
    have hcat : ¬ 9223372036854775807 < (digS (List.replicate k 0)).size + n := by omega
    clear hZ
    have hnp : IntKind.i64.wrap ((m : Int) - 1) = (m : Int) - 1 := IntWalk.i64_in _ (by omega)
    have hn1 : m ≤ 100 := by omega
    have hn2 : 0 < m := by
      rcases Nat.eq_zero_or_pos m with e | e
      · exact absurd (List.eq_nil_of_length_eq_zero (by rw [← hm, e])) (decR_ne y)
      · exact e
    have HR := fun w' => Lib.hid (repz_any k w' (by omega))
    have hB := Lib.hid (digS_app (decR x) (List.replicate k 0))
    have hst := Lib.hid (AdI.start (decR y) (decR x ++ List.replicate k 0))
    have hfin := fun out c h => Lib.hid (@AdI.done y x (decR x ++ List.replicate k 0) out c h (by rw [hk, hm, hn]) (by omega))
    have hsy := Lib.hid (decS_dig y)
    have hsx := Lib.hid (decS_dig x)
    have hBl := Lib.hid (show (decR x ++ List.replicate k 0).length = m by rw [List.length_append, List.length_replicate]; omega)
    have hBd := Lib.hid (show ∀ d ∈ decR x ++ List.replicate k 0, d < 10 by
      intro d hd
      rcases List.mem_append.1 hd with h | h
      · exact decR_lt x d h
      · rw [List.eq_of_mem_replicate h]; decide)
    replace hm := Lib.hid hm
    replace hn := Lib.hid hn
    replace hk := Lib.hid hk
    clear hy hx hlt
    generalize digS (List.replicate k 0) = Z at *
    generalize decS y = sy at *
    generalize decS x = sx at *
    go_enter Tryz.func98, Tryz.ntmps98
    go_wp2_with fail
    refine (HR _).out.mono ?_
    rintro e w1 ⟨rfl, hb1⟩
    obtain ⟨w2, hmk, hown, hg⟩ := run_mkS m w1 w.heap.size (by omega) hb1.size
    have hbw := (hb1.grown hg hb1.size (fun k h => by cases h))
    have hb1s := hb1.size
    clear HR hnm hlt' hg hb1
    go_wp2_with fail
    rw [← hsx.out] at hB
    have hzs : (Z ++ sx).size = m := by rw [← hB.out, digS_size, hBl.out]
    generalize Z ++ sx = sz at *
    have hgw := Lib.hid (show w.heap.size ≤ w1.heap.size from hb1s)
    generalize w1.heap.size = g at *
    clear hmk hnp hcat
    go_loopw [6, 7] (fun c i wr => ∃ (out : List Nat) (cc : Nat), out.length ≤ m ∧ c = .int .i64 (cc : Int) ∧ i = .int .i64 ((m : Int) - 1 - out.length) ∧ Hid (AdI (decR y) (decR x ++ List.replicate k 0) out.length out cc) ∧ OwnE eBy 5 w.heap.size wr (.slice (some ⟨g, 0, none⟩) m m) (List.replicate (m - out.length) 0 ++ (out.map (48 + ·)).reverse) ∧ Below w.heap.size w wr) (fun _ i _ => (intOf i + 1).toNat)
    case atStart => exact ⟨[], 0, Nat.zero_le _, rfl, by simp, hst, by simpa using hown, hbw⟩
    case round =>
      clear hown hbw hst
      obtain ⟨out, cc, hj, rfl, rfl, hI, hown, hbw⟩ := hrel
      by_cases hlt : out.length < m
      · obtain ⟨q, hq⟩ : ∃ q, q + out.length + 1 = m := ⟨m - out.length - 1, by omega⟩
        have eqq : (m : Int) - 1 - out.length = q := by omega
        obtain ⟨a, ha⟩ : ∃ a, (decR y)[out.length]? = some a := ⟨_, List.getElem?_eq_getElem (by have := hm.out; omega)⟩
        obtain ⟨b, hb⟩ : ∃ b, (decR x ++ List.replicate k 0)[out.length]? = some b := ⟨_, List.getElem?_eq_getElem (by have := hBl.out; omega)⟩
        have ha10 := decR_lt y a (List.mem_of_getElem? ha)
        have hb10 := hBd.out b (List.mem_of_getElem? hb)
        have hc1 : cc ≤ 1 := hI.out.2.2.2.1
        have HA := digS_at (q := q) (by have := hm.out; omega) ha ha10
        rw [← hsy.out] at HA
        have HB := digS_at (q := q) (by rw [hBl.out]; exact hq) hb hb10
        rw [hB.out] at HB
        have hstep := Lib.hid (hI.out.step ha hb ha10 hb10)
        have hrow := Lib.hid (row_set (d := (a + b + cc) % 10) hq)
        obtain ⟨L, hL⟩ : ∃ L, L = List.replicate (m - out.length) 0 ++ (out.map (48 + ·)).reverse := ⟨_, rfl⟩
        rw [← hL] at hown hrow
        have hLl : m = L.length := by rw [hL]; simp; omega
        obtain ⟨o, ho⟩ : ∃ o, L[q]? = some o := ⟨_, List.getElem?_eq_getElem (by omega)⟩
        obtain ⟨d, hd⟩ : ∃ d, d = 48 + (a + b + cc) % 10 := ⟨_, rfl⟩
        have hset := fun (W : World) (h : OwnE eBy 5 w.heap.size W (.slice (some ⟨g, 0, none⟩) m m) L) => Lib.hid (own_setAt (k := 1) rfl (x' := d) h hLl ho)
        have hcell := fun (W : World) (h : OwnE eBy 5 w.heap.size W (.slice (some ⟨g, 0, none⟩) m m) L) => Lib.hid (h.form (by intro e; rw [e] at ho; simp at ho))
        rw [← hd] at hrow
        obtain ⟨a', ha'⟩ : ∃ z, z = 48 + a := ⟨_, rfl⟩
        obtain ⟨b', hb'⟩ : ∃ z, z = 48 + b := ⟨_, rfl⟩
        obtain ⟨s1, hs1⟩ : ∃ z, z = a + b := ⟨_, rfl⟩
        obtain ⟨s2, hs2⟩ : ∃ z, z = a + b + cc := ⟨_, rfl⟩
        obtain ⟨r, hr⟩ : ∃ z, z = s2 % 10 := ⟨_, rfl⟩
        obtain ⟨c', hc'⟩ : ∃ z, z = s2 / 10 := ⟨_, rfl⟩
        have t1 : IntKind.u8.wrap ((a' : Int) - 48) = a := by rw [IntKind.wrap_u8]; omega
        have t2 : IntKind.i64.wrap (a : Int) = a := IntWalk.i64_in _ (by omega)
        have t3 : IntKind.u8.wrap ((b' : Int) - 48) = b := by rw [IntKind.wrap_u8]; omega
        have t4 : IntKind.i64.wrap (b : Int) = b := IntWalk.i64_in _ (by omega)
        have t5 : IntKind.i64.wrap ((a : Int) + b) = s1 := by rw [show (a : Int) + b = s1 by omega]; exact IntWalk.i64_in _ (by omega)
        have t6 : IntKind.i64.wrap ((s1 : Int) + cc) = s2 := by rw [show (s1 : Int) + cc = s2 by omega]; exact IntWalk.i64_in _ (by omega)
        have t7 : (s2 : Int).tmod 10 = r := by rw [Int.tmod_eq_emod_of_nonneg (by omega)]; omega
        have t8 : IntKind.i64.wrap (48 + (r : Int)) = d := by rw [show 48 + (r : Int) = d by omega]; exact IntWalk.i64_in _ (by omega)
        have t9 : IntKind.u8.wrap (d : Int) = d := by rw [IntKind.wrap_u8]; omega
        have t10 : IntKind.i64.wrap ((s2 : Int).tdiv 10) = c' := by rw [Int.tdiv_eq_ediv_of_nonneg (by omega)]; rw [show (s2 : Int) / 10 = c' by omega]; exact IntWalk.i64_in _ (by omega)
        have t12 := Lib.hid (show c' = s2 / 10 ∧ s2 ≤ 100 by omega)
        have t11 : IntKind.i64.wrap ((q : Int) - 1) = (q : Int) - 1 := IntWalk.i64_in _ (by omega)
        rw [← ha'] at HA
        rw [← hb'] at HB
        rw [← hs2, ← hr, ← hc'] at hstep
        rw [← hs2, ← hr] at hrow
        have hqn : (q : Int) < m := by omega
        have hq0 : (0 : Int) ≤ q := by omega
        have hql := Lib.hid hq
        rw [eqq]
        clear hI ha hb ha10 hb10 hc1 hq eqq hL hd ha' hb' hs1 hs2 hr hc' hlt hj
        replace hLl := Lib.hid hLl
        go_wp2_with fail
        refine wx_begin (none) [] (by kernel_rfl) (fun u0 hb0' hz0' => ?_)
        replace hown := hown.below hb0'
        replace hbw := hbw.trans (hb0'.mono hbw.size)
        clear hb0' hz0' 
        refine wx_pure (i := 0) (d := some 34) (v := ?_) (by simp only [List.getElem?_toArray, List.getElem?_cons_succ, List.getElem?_cons_zero] <;> rfl) (by rfl) (by kernel_rfl) (by kernel_rfl) (by kernel_rfl) (fun _ _ _ h => h) (by rfl) ?_ ?_
        rotate_left
        · ((intro u); go_simp; try with_reducible rfl)
        try simp only [Act.put, List.setIfInBounds_toArray, List.set_cons_zero, List.set_cons_succ]
        refine wx_pure (i := 1) (d := some 35) (v := ?_) (by simp only [List.getElem?_toArray, List.getElem?_cons_succ, List.getElem?_cons_zero] <;> rfl) (by rfl) (by kernel_rfl) (by kernel_rfl) (by kernel_rfl) (fun _ _ _ h => h) (by rfl) ?_ ?_
        rotate_left
        · ((intro u); go_simp; try with_reducible rfl)
        try simp only [Act.put, List.setIfInBounds_toArray, List.set_cons_zero, List.set_cons_succ]
        refine wx_take (i := 2) (d := some 36) (v := ?_) (by simp only [List.getElem?_toArray, List.getElem?_cons_succ, List.getElem?_cons_zero] <;> rfl) (by rfl) (by kernel_rfl) (by kernel_rfl) (by kernel_rfl) (fun _ _ _ h => h) (by rfl) (by kernel_rfl) ?_ ?_
        rotate_left
        · ((intro u hu); skip; go_simp; try with_reducible rfl)
        try simp only [Act.put, List.setIfInBounds_toArray, List.set_cons_zero, List.set_cons_succ]
        refine wx_pure (i := 3) (d := some 37) (v := ?_) (by simp only [List.getElem?_toArray, List.getElem?_cons_succ, List.getElem?_cons_zero] <;> rfl) (by rfl) (by kernel_rfl) (by kernel_rfl) (by kernel_rfl) (fun _ _ _ h => h) (by rfl) ?_ ?_
        rotate_left
        · ((intro u); go_simp; try with_reducible rfl)
        try simp only [Act.put, List.setIfInBounds_toArray, List.set_cons_zero, List.set_cons_succ]
        refine wx_pure (i := 4) (d := some 38) (v := ?_) (by simp only [List.getElem?_toArray, List.getElem?_cons_succ, List.getElem?_cons_zero] <;> rfl) (by rfl) (by kernel_rfl) (by kernel_rfl) (by kernel_rfl) (fun _ _ _ h => h) (by rfl) ?_ ?_
        rotate_left
        · ((intro u); go_simp; try with_reducible rfl)
        try simp only [Act.put, List.setIfInBounds_toArray, List.set_cons_zero, List.set_cons_succ]
        refine wx_pure (i := 5) (d := some 39) (v := ?_) (by simp only [List.getElem?_toArray, List.getElem?_cons_succ, List.getElem?_cons_zero] <;> rfl) (by rfl) (by kernel_rfl) (by kernel_rfl) (by kernel_rfl) (fun _ _ _ h => h) (by rfl) ?_ ?_
        rotate_left
        · ((intro u); go_simp; try with_reducible rfl)
        try simp only [Act.put, List.setIfInBounds_toArray, List.set_cons_zero, List.set_cons_succ]
        refine wx_pure (i := 6) (d := some 40) (v := ?_) (by simp only [List.getElem?_toArray, List.getElem?_cons_succ, List.getElem?_cons_zero] <;> rfl) (by rfl) (by kernel_rfl) (by kernel_rfl) (by kernel_rfl) (fun _ _ _ h => h) (by rfl) ?_ ?_
        rotate_left
        · ((intro u); go_simp; try with_reducible rfl)
        try simp only [Act.put, List.setIfInBounds_toArray, List.set_cons_zero, List.set_cons_succ]
        refine wx_take (i := 7) (d := some 41) (v := ?_) (by simp only [List.getElem?_toArray, List.getElem?_cons_succ, List.getElem?_cons_zero] <;> rfl) (by rfl) (by kernel_rfl) (by kernel_rfl) (by kernel_rfl) (fun _ _ _ h => h) (by rfl) (by kernel_rfl) ?_ ?_
        rotate_left
        · ((intro u hu); skip; go_simp; try with_reducible rfl)
        try simp only [Act.put, List.setIfInBounds_toArray, List.set_cons_zero, List.set_cons_succ]
        refine wx_pure (i := 8) (d := some 42) (v := ?_) (by simp only [List.getElem?_toArray, List.getElem?_cons_succ, List.getElem?_cons_zero] <;> rfl) (by rfl) (by kernel_rfl) (by kernel_rfl) (by kernel_rfl) (fun _ _ _ h => h) (by rfl) ?_ ?_
        rotate_left
        · ((intro u); go_simp; try with_reducible rfl)
        try simp only [Act.put, List.setIfInBounds_toArray, List.set_cons_zero, List.set_cons_succ]
        refine wx_pure (i := 9) (d := some 43) (v := ?_) (by simp only [List.getElem?_toArray, List.getElem?_cons_succ, List.getElem?_cons_zero] <;> rfl) (by rfl) (by kernel_rfl) (by kernel_rfl) (by kernel_rfl) (fun _ _ _ h => h) (by rfl) ?_ ?_
        rotate_left
        · ((intro u); go_simp; try with_reducible rfl)
        try simp only [Act.put, List.setIfInBounds_toArray, List.set_cons_zero, List.set_cons_succ]
        refine wx_pure (i := 10) (d := some 44) (v := ?_) (by simp only [List.getElem?_toArray, List.getElem?_cons_succ, List.getElem?_cons_zero] <;> rfl) (by rfl) (by kernel_rfl) (by kernel_rfl) (by kernel_rfl) (fun _ _ _ h => h) (by rfl) ?_ ?_
        rotate_left
        · ((intro u); go_simp; try with_reducible rfl)
        try simp only [Act.put, List.setIfInBounds_toArray, List.set_cons_zero, List.set_cons_succ]
        refine wx_pure (i := 11) (d := some 45) (v := ?_) (by simp only [List.getElem?_toArray, List.getElem?_cons_succ, List.getElem?_cons_zero] <;> rfl) (by rfl) (by kernel_rfl) (by kernel_rfl) (by kernel_rfl) (fun _ _ _ h => h) (by rfl) ?_ ?_
        rotate_left
        · ((intro u); go_simp; try with_reducible rfl)
        try simp only [Act.put, List.setIfInBounds_toArray, List.set_cons_zero, List.set_cons_succ]
        refine wx_pure (i := 12) (d := some 46) (v := ?_) (by simp only [List.getElem?_toArray, List.getElem?_cons_succ, List.getElem?_cons_zero] <;> rfl) (by rfl) (by kernel_rfl) (by kernel_rfl) (by kernel_rfl) (fun _ _ _ h => h) (by rfl) ?_ ?_
        rotate_left
        · ((intro u); go_simp; try with_reducible rfl)
        try simp only [Act.put, List.setIfInBounds_toArray, List.set_cons_zero, List.set_cons_succ]
        refine wx_pure (i := 13) (d := some 8) (v := ?_) (by simp only [List.getElem?_toArray, List.getElem?_cons_succ, List.getElem?_cons_zero] <;> rfl) (by rfl) (by kernel_rfl) (by kernel_rfl) (by kernel_rfl) (fun _ _ _ h => h) (by rfl) ?_ ?_
        rotate_left
        · ((intro u); go_simp; try with_reducible rfl)
        try simp only [Act.put, List.setIfInBounds_toArray, List.set_cons_zero, List.set_cons_succ]
        refine wx_done (by kernel_rfl) ?_ _
        skip
        obtain ⟨g', cap', hv, _, _, _, hc, hf⟩ := (hcell _ hown).out
        have hgg : g' = g := by cases hv; rfl
        rw [hgg] at hc hf
        have cq := hc q o ho 0 (.int .u8 (o : Int)) rfl
        simp only [show eBy.k = 1 from rfl, Nat.mul_one, Nat.add_zero] at cq
        have fq := hf q
        have hset2 := (hset _ hown).out
        clear hc hf hgg hv hcell hset HA HB
        replace hbw := hbw.setCell (p := ⟨g, q, none⟩) hgw.out (.int .u8 (d : Int))
        go_wp2_with fail
        go_roundw
        case rel =>
          refine ⟨out ++ [r], c', by simp; have := hql.out; omega, by first | rfl | (simp only [Value.int.injEq, true_and]; unfold wrap64; have := t12.out; omega), by simp; have := hql.out; omega, ?_, ?_, hbw⟩
          · rw [List.length_append]; exact hstep
          · rw [List.length_append]
            have h2 := hset2
            rw [hrow.out] at h2
            simpa [World.setCells, eBy] using h2
        case measure => simp [intOf]
      · have hjn : out.length = m := by omega
        have hdec := (hfin out cc (by have h := hI.out; rwa [hjn, hm.out] at h)).out
        have hd10 := hI.out.2.2.1
        have hc1 : cc ≤ 1 := hI.out.2.2.2.1
        have hrow0 : List.replicate (m - out.length) 0 ++ (out.map (48 + ·)).reverse = (out.map (48 + ·)).reverse := by rw [hjn, Nat.sub_self]; rfl
        rw [hrow0] at hown
        have cv := conv_eBy hown (by simp [hjn]) (by
          intro b hb
          rw [List.mem_reverse] at hb
          obtain ⟨d, hd, rfl⟩ := List.mem_map.1 hb
          have := hd10 d hd
          omega)
        have hS : digS out = txt (out.map (48 + ·)).reverse := by unfold digS; rw [List.map_reverse]
        rw [← hS] at cv
        have hsz : (digS out).size = m := by rw [digS_size, hjn]
        have hneg : (m : Int) - 1 - out.length = -1 := by omega
        rw [hneg]
        by_cases hc : cc = 0
        · rw [if_pos hc] at hdec
          have hR := Lib.hid (show decS (y + x) = digS out by rw [decS_dig, hdec])
          subst hc
          clear hdec hd10 hc1 hrow0 hS hneg hI hlt hjn hj hown
          generalize digS out = S at *
          go_wp2_with fail
          go_ret
          exact ⟨by rw [hR.out]; rfl, hbw⟩
        · rw [if_neg hc] at hdec
          have hcc : cc = 1 := by omega
          have hR := Lib.hid (show decS (y + x) = ⟨#[49]⟩ ++ digS out by rw [decS_dig, hdec, digS_app]; rfl)
          have hcat2 : ¬ 9223372036854775807 < 1 + m := by omega
          subst hcc
          clear hdec hd10 hc1 hrow0 hS hneg hI hlt hjn hj hown hc
          generalize digS out = S at *
          go_wp2_with fail
          go_ret
          exact ⟨by rw [hR.out]; rfl, hbw⟩
  · have hlt' : ¬ (n : Int) < m := by omega
    obtain ⟨k, hk⟩ : ∃ k, k = n - m := ⟨_, rfl⟩
    have hnm : IntKind.i64.wrap ((n : Int) - m) = (k : Int) := by
      rw [show (n : Int) - m = (k : Int) by omega]
      exact IntWalk.i64_in _ (by omega)
    have hZ : (digS (List.replicate k 0)).size = k := by rw [digS_size, List.length_replicate]
    have hcat : ¬ 9223372036854775807 < (digS (List.replicate k 0)).size + m := by omega
    clear hZ
    have hnp : IntKind.i64.wrap ((n : Int) - 1) = (n : Int) - 1 := IntWalk.i64_in _ (by omega)
    have hn1 : n ≤ 100 := by omega
    have hn2 : 0 < n := by
      rcases Nat.eq_zero_or_pos n with e | e
      · exact absurd (List.eq_nil_of_length_eq_zero (by rw [← hn, e])) (decR_ne x)
      · exact e
    have HR := fun w' => Lib.hid (repz_any k w' (by omega))
    have hB := Lib.hid (digS_app (decR y) (List.replicate k 0))
    have hst := Lib.hid (AdI.start (decR x) (decR y ++ List.replicate k 0))
    have hfin := fun out c h => Lib.hid (@AdI.done x y (decR y ++ List.replicate k 0) out c h (by rw [hk, hn, hm]) (by omega))
    have hsx := Lib.hid (decS_dig x)
    have hsy := Lib.hid (decS_dig y)
    have hBl := Lib.hid (show (decR y ++ List.replicate k 0).length = n by rw [List.length_append, List.length_replicate]; omega)
    have hBd := Lib.hid (show ∀ d ∈ decR y ++ List.replicate k 0, d < 10 by
      intro d hd
      rcases List.mem_append.1 hd with h | h
      · exact decR_lt y d h
      · rw [List.eq_of_mem_replicate h]; decide)
    replace hn := Lib.hid hn
    replace hm := Lib.hid hm
    replace hk := Lib.hid hk
    clear hx hy hlt
    generalize digS (List.replicate k 0) = Z at *
    generalize decS x = sx at *
    generalize decS y = sy at *
    go_enter Tryz.func98, Tryz.ntmps98
    go_wp2_with fail
    refine (HR _).out.mono ?_
    rintro e w1 ⟨rfl, hb1⟩
    obtain ⟨w2, hmk, hown, hg⟩ := run_mkS n w1 w.heap.size (by omega) hb1.size
    have hbw := (hb1.grown hg hb1.size (fun k h => by cases h))
    have hb1s := hb1.size
    clear HR hnm hlt' hg hb1
    go_wp2_with fail
    rw [← hsy.out] at hB
    have hzs : (Z ++ sy).size = n := by rw [← hB.out, digS_size, hBl.out]
    generalize Z ++ sy = sz at *
    have hgw := Lib.hid (show w.heap.size ≤ w1.heap.size from hb1s)
    generalize w1.heap.size = g at *
    clear hmk hnp hcat
    go_loopw [6, 7] (fun c i wr => ∃ (out : List Nat) (cc : Nat), out.length ≤ n ∧ c = .int .i64 (cc : Int) ∧ i = .int .i64 ((n : Int) - 1 - out.length) ∧ Hid (AdI (decR x) (decR y ++ List.replicate k 0) out.length out cc) ∧ OwnE eBy 5 w.heap.size wr (.slice (some ⟨g, 0, none⟩) n n) (List.replicate (n - out.length) 0 ++ (out.map (48 + ·)).reverse) ∧ Below w.heap.size w wr) (fun _ i _ => (intOf i + 1).toNat)
    case atStart => exact ⟨[], 0, Nat.zero_le _, rfl, by simp, hst, by simpa using hown, hbw⟩
    case round =>
      clear hown hbw hst
      obtain ⟨out, cc, hj, rfl, rfl, hI, hown, hbw⟩ := hrel
      by_cases hlt : out.length < n
      · obtain ⟨q, hq⟩ : ∃ q, q + out.length + 1 = n := ⟨n - out.length - 1, by omega⟩
        have eqq : (n : Int) - 1 - out.length = q := by omega
        obtain ⟨a, ha⟩ : ∃ a, (decR x)[out.length]? = some a := ⟨_, List.getElem?_eq_getElem (by have := hn.out; omega)⟩
        obtain ⟨b, hb⟩ : ∃ b, (decR y ++ List.replicate k 0)[out.length]? = some b := ⟨_, List.getElem?_eq_getElem (by have := hBl.out; omega)⟩
        have ha10 := decR_lt x a (List.mem_of_getElem? ha)
        have hb10 := hBd.out b (List.mem_of_getElem? hb)
        have hc1 : cc ≤ 1 := hI.out.2.2.2.1
        have HA := digS_at (q := q) (by have := hn.out; omega) ha ha10
        rw [← hsx.out] at HA
        have HB := digS_at (q := q) (by rw [hBl.out]; exact hq) hb hb10
        rw [hB.out] at HB
        have hstep := Lib.hid (hI.out.step ha hb ha10 hb10)
        have hrow := Lib.hid (row_set (d := (a + b + cc) % 10) hq)
        obtain ⟨L, hL⟩ : ∃ L, L = List.replicate (n - out.length) 0 ++ (out.map (48 + ·)).reverse := ⟨_, rfl⟩
        rw [← hL] at hown hrow
        have hLl : n = L.length := by rw [hL]; simp; omega
        obtain ⟨o, ho⟩ : ∃ o, L[q]? = some o := ⟨_, List.getElem?_eq_getElem (by omega)⟩
        obtain ⟨d, hd⟩ : ∃ d, d = 48 + (a + b + cc) % 10 := ⟨_, rfl⟩
        have hset := fun (W : World) (h : OwnE eBy 5 w.heap.size W (.slice (some ⟨g, 0, none⟩) n n) L) => Lib.hid (own_setAt (k := 1) rfl (x' := d) h hLl ho)
        have hcell := fun (W : World) (h : OwnE eBy 5 w.heap.size W (.slice (some ⟨g, 0, none⟩) n n) L) => Lib.hid (h.form (by intro e; rw [e] at ho; simp at ho))
        rw [← hd] at hrow
        obtain ⟨a', ha'⟩ : ∃ z, z = 48 + a := ⟨_, rfl⟩
        obtain ⟨b', hb'⟩ : ∃ z, z = 48 + b := ⟨_, rfl⟩
        obtain ⟨s1, hs1⟩ : ∃ z, z = a + b := ⟨_, rfl⟩
        obtain ⟨s2, hs2⟩ : ∃ z, z = a + b + cc := ⟨_, rfl⟩
        obtain ⟨r, hr⟩ : ∃ z, z = s2 % 10 := ⟨_, rfl⟩
        obtain ⟨c', hc'⟩ : ∃ z, z = s2 / 10 := ⟨_, rfl⟩
        have t1 : IntKind.u8.wrap ((a' : Int) - 48) = a := by rw [IntKind.wrap_u8]; omega
        have t2 : IntKind.i64.wrap (a : Int) = a := IntWalk.i64_in _ (by omega)
        have t3 : IntKind.u8.wrap ((b' : Int) - 48) = b := by rw [IntKind.wrap_u8]; omega
        have t4 : IntKind.i64.wrap (b : Int) = b := IntWalk.i64_in _ (by omega)
        have t5 : IntKind.i64.wrap ((a : Int) + b) = s1 := by rw [show (a : Int) + b = s1 by omega]; exact IntWalk.i64_in _ (by omega)
        have t6 : IntKind.i64.wrap ((s1 : Int) + cc) = s2 := by rw [show (s1 : Int) + cc = s2 by omega]; exact IntWalk.i64_in _ (by omega)
        have t7 : (s2 : Int).tmod 10 = r := by rw [Int.tmod_eq_emod_of_nonneg (by omega)]; omega
        have t8 : IntKind.i64.wrap (48 + (r : Int)) = d := by rw [show 48 + (r : Int) = d by omega]; exact IntWalk.i64_in _ (by omega)
        have t9 : IntKind.u8.wrap (d : Int) = d := by rw [IntKind.wrap_u8]; omega
        have t10 : IntKind.i64.wrap ((s2 : Int).tdiv 10) = c' := by rw [Int.tdiv_eq_ediv_of_nonneg (by omega)]; rw [show (s2 : Int) / 10 = c' by omega]; exact IntWalk.i64_in _ (by omega)
        have t12 := Lib.hid (show c' = s2 / 10 ∧ s2 ≤ 100 by omega)
        have t11 : IntKind.i64.wrap ((q : Int) - 1) = (q : Int) - 1 := IntWalk.i64_in _ (by omega)
        rw [← ha'] at HA
        rw [← hb'] at HB
        rw [← hs2, ← hr, ← hc'] at hstep
        rw [← hs2, ← hr] at hrow
        have hqn : (q : Int) < n := by omega
        have hq0 : (0 : Int) ≤ q := by omega
        have hql := Lib.hid hq
        rw [eqq]
        clear hI ha hb ha10 hb10 hc1 hq eqq hL hd ha' hb' hs1 hs2 hr hc' hlt hj
        replace hLl := Lib.hid hLl
        go_wp2_with fail
        refine wx_begin (none) [] (by kernel_rfl) (fun u0 hb0' hz0' => ?_)
        replace hown := hown.below hb0'
        replace hbw := hbw.trans (hb0'.mono hbw.size)
        clear hb0' hz0' 
        refine wx_pure (i := 0) (d := some 34) (v := ?_) (by simp only [List.getElem?_toArray, List.getElem?_cons_succ, List.getElem?_cons_zero] <;> rfl) (by rfl) (by kernel_rfl) (by kernel_rfl) (by kernel_rfl) (fun _ _ _ h => h) (by rfl) ?_ ?_
        rotate_left
        · ((intro u); go_simp; try with_reducible rfl)
        try simp only [Act.put, List.setIfInBounds_toArray, List.set_cons_zero, List.set_cons_succ]
        refine wx_pure (i := 1) (d := some 35) (v := ?_) (by simp only [List.getElem?_toArray, List.getElem?_cons_succ, List.getElem?_cons_zero] <;> rfl) (by rfl) (by kernel_rfl) (by kernel_rfl) (by kernel_rfl) (fun _ _ _ h => h) (by rfl) ?_ ?_
        rotate_left
        · ((intro u); go_simp; try with_reducible rfl)
        try simp only [Act.put, List.setIfInBounds_toArray, List.set_cons_zero, List.set_cons_succ]
        refine wx_take (i := 2) (d := some 36) (v := ?_) (by simp only [List.getElem?_toArray, List.getElem?_cons_succ, List.getElem?_cons_zero] <;> rfl) (by rfl) (by kernel_rfl) (by kernel_rfl) (by kernel_rfl) (fun _ _ _ h => h) (by rfl) (by kernel_rfl) ?_ ?_
        rotate_left
        · ((intro u hu); skip; go_simp; try with_reducible rfl)
        try simp only [Act.put, List.setIfInBounds_toArray, List.set_cons_zero, List.set_cons_succ]
        refine wx_pure (i := 3) (d := some 37) (v := ?_) (by simp only [List.getElem?_toArray, List.getElem?_cons_succ, List.getElem?_cons_zero] <;> rfl) (by rfl) (by kernel_rfl) (by kernel_rfl) (by kernel_rfl) (fun _ _ _ h => h) (by rfl) ?_ ?_
        rotate_left
        · ((intro u); go_simp; try with_reducible rfl)
        try simp only [Act.put, List.setIfInBounds_toArray, List.set_cons_zero, List.set_cons_succ]
        refine wx_pure (i := 4) (d := some 38) (v := ?_) (by simp only [List.getElem?_toArray, List.getElem?_cons_succ, List.getElem?_cons_zero] <;> rfl) (by rfl) (by kernel_rfl) (by kernel_rfl) (by kernel_rfl) (fun _ _ _ h => h) (by rfl) ?_ ?_
        rotate_left
        · ((intro u); go_simp; try with_reducible rfl)
        try simp only [Act.put, List.setIfInBounds_toArray, List.set_cons_zero, List.set_cons_succ]
        refine wx_pure (i := 5) (d := some 39) (v := ?_) (by simp only [List.getElem?_toArray, List.getElem?_cons_succ, List.getElem?_cons_zero] <;> rfl) (by rfl) (by kernel_rfl) (by kernel_rfl) (by kernel_rfl) (fun _ _ _ h => h) (by rfl) ?_ ?_
        rotate_left
        · ((intro u); go_simp; try with_reducible rfl)
        try simp only [Act.put, List.setIfInBounds_toArray, List.set_cons_zero, List.set_cons_succ]
        refine wx_pure (i := 6) (d := some 40) (v := ?_) (by simp only [List.getElem?_toArray, List.getElem?_cons_succ, List.getElem?_cons_zero] <;> rfl) (by rfl) (by kernel_rfl) (by kernel_rfl) (by kernel_rfl) (fun _ _ _ h => h) (by rfl) ?_ ?_
        rotate_left
        · ((intro u); go_simp; try with_reducible rfl)
        try simp only [Act.put, List.setIfInBounds_toArray, List.set_cons_zero, List.set_cons_succ]
        refine wx_take (i := 7) (d := some 41) (v := ?_) (by simp only [List.getElem?_toArray, List.getElem?_cons_succ, List.getElem?_cons_zero] <;> rfl) (by rfl) (by kernel_rfl) (by kernel_rfl) (by kernel_rfl) (fun _ _ _ h => h) (by rfl) (by kernel_rfl) ?_ ?_
        rotate_left
        · ((intro u hu); skip; go_simp; try with_reducible rfl)
        try simp only [Act.put, List.setIfInBounds_toArray, List.set_cons_zero, List.set_cons_succ]
        refine wx_pure (i := 8) (d := some 42) (v := ?_) (by simp only [List.getElem?_toArray, List.getElem?_cons_succ, List.getElem?_cons_zero] <;> rfl) (by rfl) (by kernel_rfl) (by kernel_rfl) (by kernel_rfl) (fun _ _ _ h => h) (by rfl) ?_ ?_
        rotate_left
        · ((intro u); go_simp; try with_reducible rfl)
        try simp only [Act.put, List.setIfInBounds_toArray, List.set_cons_zero, List.set_cons_succ]
        refine wx_pure (i := 9) (d := some 43) (v := ?_) (by simp only [List.getElem?_toArray, List.getElem?_cons_succ, List.getElem?_cons_zero] <;> rfl) (by rfl) (by kernel_rfl) (by kernel_rfl) (by kernel_rfl) (fun _ _ _ h => h) (by rfl) ?_ ?_
        rotate_left
        · ((intro u); go_simp; try with_reducible rfl)
        try simp only [Act.put, List.setIfInBounds_toArray, List.set_cons_zero, List.set_cons_succ]
        refine wx_pure (i := 10) (d := some 44) (v := ?_) (by simp only [List.getElem?_toArray, List.getElem?_cons_succ, List.getElem?_cons_zero] <;> rfl) (by rfl) (by kernel_rfl) (by kernel_rfl) (by kernel_rfl) (fun _ _ _ h => h) (by rfl) ?_ ?_
        rotate_left
        · ((intro u); go_simp; try with_reducible rfl)
        try simp only [Act.put, List.setIfInBounds_toArray, List.set_cons_zero, List.set_cons_succ]
        refine wx_pure (i := 11) (d := some 45) (v := ?_) (by simp only [List.getElem?_toArray, List.getElem?_cons_succ, List.getElem?_cons_zero] <;> rfl) (by rfl) (by kernel_rfl) (by kernel_rfl) (by kernel_rfl) (fun _ _ _ h => h) (by rfl) ?_ ?_
        rotate_left
        · ((intro u); go_simp; try with_reducible rfl)
        try simp only [Act.put, List.setIfInBounds_toArray, List.set_cons_zero, List.set_cons_succ]
        refine wx_pure (i := 12) (d := some 46) (v := ?_) (by simp only [List.getElem?_toArray, List.getElem?_cons_succ, List.getElem?_cons_zero] <;> rfl) (by rfl) (by kernel_rfl) (by kernel_rfl) (by kernel_rfl) (fun _ _ _ h => h) (by rfl) ?_ ?_
        rotate_left
        · ((intro u); go_simp; try with_reducible rfl)
        try simp only [Act.put, List.setIfInBounds_toArray, List.set_cons_zero, List.set_cons_succ]
        refine wx_pure (i := 13) (d := some 8) (v := ?_) (by simp only [List.getElem?_toArray, List.getElem?_cons_succ, List.getElem?_cons_zero] <;> rfl) (by rfl) (by kernel_rfl) (by kernel_rfl) (by kernel_rfl) (fun _ _ _ h => h) (by rfl) ?_ ?_
        rotate_left
        · ((intro u); go_simp; try with_reducible rfl)
        try simp only [Act.put, List.setIfInBounds_toArray, List.set_cons_zero, List.set_cons_succ]
        refine wx_done (by kernel_rfl) ?_ _
        skip
        obtain ⟨g', cap', hv, _, _, _, hc, hf⟩ := (hcell _ hown).out
        have hgg : g' = g := by cases hv; rfl
        rw [hgg] at hc hf
        have cq := hc q o ho 0 (.int .u8 (o : Int)) rfl
        simp only [show eBy.k = 1 from rfl, Nat.mul_one, Nat.add_zero] at cq
        have fq := hf q
        have hset2 := (hset _ hown).out
        clear hc hf hgg hv hcell hset HA HB
        replace hbw := hbw.setCell (p := ⟨g, q, none⟩) hgw.out (.int .u8 (d : Int))
        go_wp2_with fail
        go_roundw
        case rel =>
          refine ⟨out ++ [r], c', by simp; have := hql.out; omega, by first | rfl | (simp only [Value.int.injEq, true_and]; unfold wrap64; have := t12.out; omega), by simp; have := hql.out; omega, ?_, ?_, hbw⟩
          · rw [List.length_append]; exact hstep
          · rw [List.length_append]
            have h2 := hset2
            rw [hrow.out] at h2
            simpa [World.setCells, eBy] using h2
        case measure => simp [intOf]
      · have hjn : out.length = n := by omega
        have hdec := (hfin out cc (by have h := hI.out; rwa [hjn, hn.out] at h)).out
        have hd10 := hI.out.2.2.1
        have hc1 : cc ≤ 1 := hI.out.2.2.2.1
        have hrow0 : List.replicate (n - out.length) 0 ++ (out.map (48 + ·)).reverse = (out.map (48 + ·)).reverse := by rw [hjn, Nat.sub_self]; rfl
        rw [hrow0] at hown
        have cv := conv_eBy hown (by simp [hjn]) (by
          intro b hb
          rw [List.mem_reverse] at hb
          obtain ⟨d, hd, rfl⟩ := List.mem_map.1 hb
          have := hd10 d hd
          omega)
        have hS : digS out = txt (out.map (48 + ·)).reverse := by unfold digS; rw [List.map_reverse]
        rw [← hS] at cv
        have hsz : (digS out).size = n := by rw [digS_size, hjn]
        have hneg : (n : Int) - 1 - out.length = -1 := by omega
        rw [hneg]
        by_cases hc : cc = 0
        · rw [if_pos hc] at hdec
          have hR := Lib.hid (show decS (x + y) = digS out by rw [decS_dig, hdec])
          subst hc
          clear hdec hd10 hc1 hrow0 hS hneg hI hlt hjn hj hown
          generalize digS out = S at *
          go_wp2_with fail
          go_ret
          exact ⟨by rw [hR.out]; rfl, hbw⟩
        · rw [if_neg hc] at hdec
          have hcc : cc = 1 := by omega
          have hR := Lib.hid (show decS (x + y) = ⟨#[49]⟩ ++ digS out by rw [decS_dig, hdec, digS_app]; rfl)
          have hcat2 : ¬ 9223372036854775807 < 1 + n := by omega
          subst hcc
          clear hdec hd10 hc1 hrow0 hS hneg hI hlt hjn hj hown hc
          generalize digS out = S at *
          go_wp2_with fail
          go_ret
          exact ⟨by rw [hR.out]; rfl, hbw⟩
end Go.Proofs.YthjhokicojgpbaaGreatDoor
