/- Packets that are read: bytes that are changed. -/
import Derived.Test.YtigbbpgfblnboaaRdJ
namespace Go.Proofs.Ytigbbpgfblnboaa
open Go.RowKit
set_option linter.unusedVariables false
set_option linter.unusedSimpArgs false

/-- Bytes of one's own, beside the stream. -/
structure AtG (w0 : World) (b R : Nat) (v : Value) (bs : List Nat) (w : World) : Prop where
  s : Str w b R
  o : Own w0.heap.size w v bs
  g : w0.grownBy w (some b)
  lt : b < w0.heap.size
theorem AtG.step {w0 w w' : World} {b R R' : Nat} {v : Value} {bs : List Nat} (h : AtG w0 b R v bs w) (hs : Str w' b R') (hg : w.grownBy w' (some b)) : AtG w0 b R' v bs w' := ⟨hs, h.o.gbb hg h.lt, gb_trans h.g hg, h.lt⟩
theorem AtG.below {w0 w w' : World} {b R : Nat} {v : Value} {bs : List Nat} (h : AtG w0 b R v bs w) (hb : Below w.heap.size w w') : AtG w0 b R v bs w' := ⟨h.s.below hb, h.o.below hb, gb_below h.g hb, h.lt⟩
theorem AtG.app {w0 w w' : World} {b R : Nat} {v v' : Value} {bs bs' : List Nat} (h : AtG w0 b R v bs w) (hb : Below w0.heap.size w w') (ho : Own w0.heap.size w' v' bs') : AtG w0 b R v' bs' w' :=
  ⟨h.s.upto (fun j hj => hb.block j (by have := h.lt; omega)), ho, ⟨hb.os.trans h.g.os, hb.tape.trans h.g.tape, hb.output.trans h.g.output, Nat.le_trans h.g.size hb.size, fun p hp hne => (hb.block p hp).trans (h.g.block p hp hne)⟩, h.lt⟩
theorem AtG.le {w0 w : World} {b R R' : Nat} {v : Value} {bs : List Nat} (h : AtG w0 b R v bs w) (hR : R' ≤ R) : AtG w0 b R' v bs w := ⟨h.s.le hR, h.o, h.g, h.lt⟩
theorem AtG.set {w0 w : World} {b R g n c : Nat} {bs : List Nat} (h : AtG w0 b R (.slice (some ⟨g, 0, none⟩) n c) bs w) (i x : Nat) (hi : i < n) : AtG w0 b R (.slice (some ⟨g, 0, none⟩) n c) (bs.set i x) (w.setCell ⟨g, i, none⟩ (.int .u8 x)) :=
  h.app ((Below.refl _ _).setCell (p := ⟨g, i, none⟩) h.o.atB.1 _) (h.o.setB i x hi)
theorem Own.cut {B g n c : Nat} {w : World} {bs : List Nat} (h : Own B w (.slice (some ⟨g, 0, none⟩) n c) bs) (i : Nat) (hi : i ≤ n) : Own B w (.slice (some ⟨g, 0, none⟩) i c) (bs.take i) := by
  have hn := h.cap.1
  have hl : (bs.take i).length = i := by rw [List.length_take]; omega
  unfold Own at *
  rw [hl]
  obtain ⟨h1, h2⟩ := h
  refine ⟨by rw [bV_len, hl, Nat.mul_one], ?_⟩
  rcases h2 with ⟨hv, _⟩ | ⟨g', cap', cur, hv, hg, hh, hle, hmx, hsz, ht⟩
  · cases hv
  · cases hv
    refine .inr ⟨g, c, cur, rfl, hg, hh, by omega, hmx, hsz, ?_⟩
    have : cur.toList.take (i * 1) = (cur.toList.take (bs.length * 1)).take i := by rw [List.take_take]; congr 1; omega
    rw [this, ht]
    unfold bV
    rw [List.map_take]
theorem Own.formn {B n : Nat} {w : World} {v : Value} {bs : List Nat} (h : Own B w v bs) (hn : n = bs.length) (h0 : 0 < n) : ∃ g cap, v = .slice (some ⟨g, 0, none⟩) n cap := by
  subst hn
  obtain ⟨g, c, e, _⟩ := h.form h0
  exact ⟨g, c, e⟩
theorem u8_any (x : Int) : ∃ y : Nat, IntKind.u8.wrap x = (y : Int) ∧ y < 256 := by
  refine ⟨(x % 256).toNat, ?_, by omega⟩
  rw [IntKind.wrap_u8]; omega
theorem slB_none (w : World) (A : Option Addr) : SlB w A 0 0 [] := ⟨rfl, Nat.le_refl _, .inl rfl⟩
/-- The world of a fact. -/
abbrev WCUR {w0 w : World} {b R : Nat} {v : Value} {bs : List Nat} (_ : AtG w0 b R v bs w) : World := w
theorem xor_any (x y : Int) : ∃ z : Nat, bits .xor .u8 x y = (z : Int) ∧ z < 256 := u8_any _

set_option maxHeartbeats 4000000 in
set_option maxRecDepth 100000 in
theorem bytes_any (w : World) (b R : Nat) (hs : Str w b (R + 8)) (A : Option Addr) (N cap : Nat) (bs0 : List Nat) (hS : SlB w A N cap bs0) (hA : A = none → cap = 0) (hN : N ≤ 200) (hb0 : Byt bs0) :
    Calls Try.prog 54 #[.pointer (some ⟨b, 0, none⟩), .slice A N cap] w fun e w' => ∃ v bs, e = .returned v ∧ Byt bs ∧ bs.length ≤ N + 2 ∧ AtG w b R v bs w' := by
  have hlt := hs.lt
  have hl0 := Lib.hid hS.len
  replace hS := Lib.hid hS
  replace hA := Lib.hid hA
  replace hb0 := Lib.hid hb0
  replace hs := Lib.hid hs
  go_enter Try.func54, Try.ntmps54
  go_wp2_with (at_builtin; refine append_slB' rfl _ _ rfl w.heap.size _ [] rfl (Own.nil _ _) A N cap bs0 rfl hS.out hA.out (by simp; omega) (Nat.le_refl _) ?_)
  intro v1 w1 o1 hv1
  have hG : Hid (AtG w b (R + 8) v1 bs0 w1) := Lib.hid ⟨hs.out.upto (fun j hj => hv1.block j (by omega)), by simpa using o1, ⟨hv1.os, hv1.tape, hv1.output, hv1.size, fun p hp _ => hv1.block p hp⟩, hlt⟩
  clear o1 hv1 hs hS
  go_wp2_with fail
  refine (range_any 1 2 _ b (R + 7) (by omega) (by omega) (by omega) hG.out.s).mono ?_
  rintro e w2 ⟨cnt, ⟨hc0, hc1⟩, rfl, hs2, hg2⟩
  replace hG := Lib.hid (hG.out.step hs2 hg2)
  clear hs2 hg2
  go_wp2_with fail
  go_loopw [5, 11] (fun o i wr => ∃ (k : Nat) (bs : List Nat), (k : Int) ≤ cnt ∧ i = .int .i64 k ∧ Hid (Byt bs) ∧ Hid (bs.length ≤ N + k) ∧ Hid (AtG w b (R + (3 * (2 - k)) + 1) o bs wr)) (fun _ i _ => (cnt - intOf i).toNat)
  case atStart => exact ⟨0, bs0, by omega, rfl, hb0, Lib.hid (by have := hl0.out; omega), Lib.hid (hG.out.le (by omega))⟩
  case round =>
    clear hG
    obtain ⟨k, bs, hk, rfl, hby, hln, hA⟩ := hrel
    by_cases hlt2 : (k : Int) < cnt
    · have hk2 : k < 2 := by omega
      obtain ⟨L, hL⟩ : ∃ L, L = bs.length := ⟨_, rfl⟩
      by_cases hz : L = 0
      · have hbs : bs = [] := List.eq_nil_of_length_eq_zero (by omega)
        subst hbs
        obtain ⟨A1, c1, rfl, hS1, hA1⟩ := hA.out.o.sln (n := 0) rfl
        replace hA1 := Lib.hid hA1
        clear hS1 hz
        replace hL := Lib.hid hL
        go_wp2_with fail
        refine (next_any 256 _ b R (by omega) (by omega) (hA.out.s.le (by omega))).mono ?_
        rintro e w3 ⟨r3, ⟨h30, h31⟩, rfl, hs3, hg3⟩
        replace hA := Lib.hid (hA.out.step hs3 hg3)
        obtain ⟨x, rfl⟩ := Int.eq_ofNat_of_zero_le h30
        have wx := wrap8 x (by omega)
        have hx8 := Lib.hid (show x < 256 by omega)
        clear hs3 hg3
        have hsl := Lib.hid (fun (u : World) => slB_lit u [x] 1 _ rfl rfl)
        go_wp2_with (at_builtin; refine append_slB' rfl _ _ rfl w.heap.size _ [] rfl (hA.out.below ((Below.refl _ _).alloc (Nat.le_refl _) _)).o _ 1 1 [x] rfl (hsl.out _) (fun h => by cases h) (by simp) (hA.out.below ((Below.refl _ _).alloc (Nat.le_refl _) _)).g.size ?_)
        intro v4 w4 o4 hv4
        have hA4 := Lib.hid ((hA.out.below ((Below.refl _ _).alloc (Nat.le_refl _) _)).app hv4 o4)
        clear o4 hv4
        go_wp2_with fail
        go_ret
        exact ⟨_, _, rfl, by intro z hz; simp at hz; have := hx8.out; omega, by simp, hA4.out.le (by omega)⟩
      · have hL0 : 0 < L := by omega
        obtain ⟨g, c, rfl⟩ := hA.out.o.formn hL hL0
        have hLe := Lib.hid (show L = bs.length from hL)
        have hLN : L ≤ 300 := by have := hln.out; omega
        have hLi : ¬ (L : Int) = 0 := by omega
        have hLb : ((L : Int) == 0) = false := by simp; omega
        have hLc : L ≤ c := hA.out.o.cap.2.1
        replace hL := Lib.hid hL
        go_wp2_with fail
        refine (next_any (L : Int) _ b (R + (3 * (2 - (k + 1))) + 3) (by omega) (by omega) (hA.out.s.le (by omega))).mono ?_
        rintro e w3 ⟨r3, ⟨h30, h31⟩, rfl, hs3, hg3⟩
        replace hA := Lib.hid (hA.out.step hs3 hg3)
        obtain ⟨j, rfl⟩ := Int.eq_ofNat_of_zero_le h30
        have hj : j < L := by omega
        clear hs3 hg3 h30 h31
        go_wp2_with fail
        refine (next_any 4 _ b (R + (3 * (2 - (k + 1))) + 2) (by omega) (by omega) hA.out.s).mono ?_
        rintro e w4 ⟨r4, ⟨h40, h41⟩, rfl, hs4, hg4⟩
        replace hA := Lib.hid ((hA.out.step hs4 hg4).le (R' := R + (3 * (2 - (k + 1))) + 2) (by omega))
        clear hs4 hg4
        have i1 : (j : Int) ≤ c := by omega
        have i2 : (j : Int) + 1 ≤ L := by omega
        have i3 : (j : Int) + 1 ≤ c := by omega
        have i4 : ((j : Int) + 1).toNat = j + 1 := by omega
        have i5 : IntKind.i64.wrap ((j : Int) + 1) = (j : Int) + 1 := wrapI _ (by omega) (by omega)
        have i6 : (j : Int) ≤ L := by omega
        have i7 : ¬ c = j := by omega
        have i8 : (j : Int) < L := by omega
        have i9 : 0 ≤ (j : Int) + 1 := by omega
        have i10 : (j : Int) ≤ (j : Int) + 1 := by omega
        by_cases q0 : r4 = 0
        · subst q0
          replace hA := Lib.hid (hA.out.le (R' := R + (3 * (2 - (k + 1))) + 1) (by omega))
          by_cases hcj : c = j + 1
          · have hLj : L = j + 1 := by omega
            subst hcj
            subst hLj
            go_wp2_with fail
            refine wb_begin ([]) [] (by kernel_rfl) (fun u0 hb0' hz0' => ?_)
            replace hA := Lib.hid (hA.out.below hb0')
            clear hb0' hz0'
            refine wb_pure (i := 0) (d := some 39) (v := ?_) (by simp only [List.getElem?_toArray, List.getElem?_cons_succ, List.getElem?_cons_zero] <;> rfl) (by rfl) (by kernel_rfl) (by kernel_rfl) (by kernel_rfl) (fun _ _ _ h => h) (by rfl) ?_ ?_
            rotate_left
            · ((intro u); go_simp; try with_reducible rfl)
            try simp only [Act.put, List.setIfInBounds_toArray, List.set_cons_zero, List.set_cons_succ]
            refine wb_pure (i := 1) (d := some 40) (v := ?_) (by simp only [List.getElem?_toArray, List.getElem?_cons_succ, List.getElem?_cons_zero] <;> rfl) (by rfl) (by kernel_rfl) (by kernel_rfl) (by kernel_rfl) (fun _ _ _ h => h) (by rfl) ?_ ?_
            rotate_left
            · ((intro u); go_simp; try with_reducible rfl)
            try simp only [Act.put, List.setIfInBounds_toArray, List.set_cons_zero, List.set_cons_succ]
            refine wb_pure (i := 2) (d := some 41) (v := ?_) (by simp only [List.getElem?_toArray, List.getElem?_cons_succ, List.getElem?_cons_zero] <;> rfl) (by rfl) (by kernel_rfl) (by kernel_rfl) (by kernel_rfl) (fun _ _ _ h => h) (by rfl) ?_ ?_
            rotate_left
            · ((intro u); go_simp; try with_reducible rfl)
            try simp only [Act.put, List.setIfInBounds_toArray, List.set_cons_zero, List.set_cons_succ]
            refine wb_pure (i := 3) (d := some 42) (v := ?_) (by simp only [List.getElem?_toArray, List.getElem?_cons_succ, List.getElem?_cons_zero] <;> rfl) (by rfl) (by kernel_rfl) (by kernel_rfl) (by kernel_rfl) (fun _ _ _ h => h) (by rfl) ?_ ?_
            rotate_left
            · ((intro u); go_simp; try with_reducible rfl)
            try simp only [Act.put, List.setIfInBounds_toArray, List.set_cons_zero, List.set_cons_succ]
            refine wb_pure (i := 4) (d := some 43) (v := ?_) (by simp only [List.getElem?_toArray, List.getElem?_cons_succ, List.getElem?_cons_zero] <;> rfl) (by rfl) (by kernel_rfl) (by kernel_rfl) (by kernel_rfl) (fun _ _ _ h => h) (by rfl) ?_ ?_
            rotate_left
            · ((intro u); go_simp; try with_reducible rfl)
            try simp only [Act.put, List.setIfInBounds_toArray, List.set_cons_zero, List.set_cons_succ]
            refine wb_pure (i := 5) (d := some 44) (v := ?_) (by simp only [List.getElem?_toArray, List.getElem?_cons_succ, List.getElem?_cons_zero] <;> rfl) (by rfl) (by kernel_rfl) (by kernel_rfl) (by kernel_rfl) (fun _ _ _ h => h) (by rfl) ?_ ?_
            rotate_left
            · ((intro u); go_simp; try with_reducible rfl)
            try simp only [Act.put, List.setIfInBounds_toArray, List.set_cons_zero, List.set_cons_succ]
            refine wb_pure (i := 6) (d := some 45) (v := ?_) (by simp only [List.getElem?_toArray, List.getElem?_cons_succ, List.getElem?_cons_zero] <;> rfl) (by rfl) (by kernel_rfl) (by kernel_rfl) (by kernel_rfl) (fun _ _ _ h => h) (by rfl) ?_ ?_
            rotate_left
            · ((intro u); go_simp; try with_reducible rfl)
            try simp only [Act.put, List.setIfInBounds_toArray, List.set_cons_zero, List.set_cons_succ]
            refine wb_one (i := 7) (by simp only [List.getElem?_toArray, List.getElem?_cons_succ, List.getElem?_cons_zero] <;> rfl) (by kernel_rfl) (by rfl) (fun K hK => ?_)
            have hsrc : SlB (WCUR hA.out) (some ⟨g, 0, none⟩) 0 0 [] := slB_none _ _
            replace hA := hA.out
            refine wp_append_slB _ _ rfl w.heap.size (.slice (some ⟨g, 0, none⟩) j (j + 1)) (bs.take j) rfl (hA.o.cut j (by omega)) (some ⟨g, 0, none⟩) 0 0 [] rfl hsrc (fun h => by cases h) (by rw [List.length_take]; omega) hA.g.size ?_
            intro v9 u9 o9 hg9
            have hv9 := own_next hg9 (hA.o.cut j (by omega)) hA.g.size
            refine hK.out _ _ (fun p hp => by cases hp) ?_
            have hA9 := Lib.hid (hA.app hv9 o9)
            have hb9 : Hid (Byt ((bs.take j) ++ [])) := Lib.hid (Byt.app (fun b h => hby.out b (List.mem_of_mem_take h)) (fun b h => by cases h))
            have hl9 : Hid (((bs.take j) ++ []).length ≤ N + (k + 1)) := Lib.hid (by have := hln.out; have := hLe.out; simp; omega)
            clear hK K hv9 hg9 o9 hA hsrc
            try simp only [Act.put, List.setIfInBounds_toArray, List.set_cons_zero, List.set_cons_succ]
            refine wb_pure (i := 8) (d := some 5) (v := ?_) (by simp only [List.getElem?_toArray, List.getElem?_cons_succ, List.getElem?_cons_zero] <;> rfl) (by rfl) (by kernel_rfl) (by kernel_rfl) (by kernel_rfl) (fun _ _ _ h => h) (by rfl) ?_ ?_
            rotate_left
            · ((intro u); go_simp; try with_reducible rfl)
            try simp only [Act.put, List.setIfInBounds_toArray, List.set_cons_zero, List.set_cons_succ]
            refine wb_done (by kernel_rfl) ?_ _
            go_wp2_with fail
            go_roundw
            case rel => exact ⟨k + 1, _, by omega, by go_num, hb9, hl9, hA9⟩
            case measure => simp [intOf]; omega
          · go_wp2_with fail
            refine wb_begin ([]) [] (by kernel_rfl) (fun u0 hb0' hz0' => ?_)
            replace hA := Lib.hid (hA.out.below hb0')
            clear hb0' hz0'
            refine wb_pure (i := 0) (d := some 39) (v := ?_) (by simp only [List.getElem?_toArray, List.getElem?_cons_succ, List.getElem?_cons_zero] <;> rfl) (by rfl) (by kernel_rfl) (by kernel_rfl) (by kernel_rfl) (fun _ _ _ h => h) (by rfl) ?_ ?_
            rotate_left
            · ((intro u); go_simp; try with_reducible rfl)
            try simp only [Act.put, List.setIfInBounds_toArray, List.set_cons_zero, List.set_cons_succ]
            refine wb_pure (i := 1) (d := some 40) (v := ?_) (by simp only [List.getElem?_toArray, List.getElem?_cons_succ, List.getElem?_cons_zero] <;> rfl) (by rfl) (by kernel_rfl) (by kernel_rfl) (by kernel_rfl) (fun _ _ _ h => h) (by rfl) ?_ ?_
            rotate_left
            · ((intro u); go_simp; try with_reducible rfl)
            try simp only [Act.put, List.setIfInBounds_toArray, List.set_cons_zero, List.set_cons_succ]
            refine wb_pure (i := 2) (d := some 41) (v := ?_) (by simp only [List.getElem?_toArray, List.getElem?_cons_succ, List.getElem?_cons_zero] <;> rfl) (by rfl) (by kernel_rfl) (by kernel_rfl) (by kernel_rfl) (fun _ _ _ h => h) (by rfl) ?_ ?_
            rotate_left
            · ((intro u); go_simp; try with_reducible rfl)
            try simp only [Act.put, List.setIfInBounds_toArray, List.set_cons_zero, List.set_cons_succ]
            refine wb_pure (i := 3) (d := some 42) (v := ?_) (by simp only [List.getElem?_toArray, List.getElem?_cons_succ, List.getElem?_cons_zero] <;> rfl) (by rfl) (by kernel_rfl) (by kernel_rfl) (by kernel_rfl) (fun _ _ _ h => h) (by rfl) ?_ ?_
            rotate_left
            · ((intro u); go_simp; try with_reducible rfl)
            try simp only [Act.put, List.setIfInBounds_toArray, List.set_cons_zero, List.set_cons_succ]
            refine wb_pure (i := 4) (d := some 43) (v := ?_) (by simp only [List.getElem?_toArray, List.getElem?_cons_succ, List.getElem?_cons_zero] <;> rfl) (by rfl) (by kernel_rfl) (by kernel_rfl) (by kernel_rfl) (fun _ _ _ h => h) (by rfl) ?_ ?_
            rotate_left
            · ((intro u); go_simp; try with_reducible rfl)
            try simp only [Act.put, List.setIfInBounds_toArray, List.set_cons_zero, List.set_cons_succ]
            refine wb_pure (i := 5) (d := some 44) (v := ?_) (by simp only [List.getElem?_toArray, List.getElem?_cons_succ, List.getElem?_cons_zero] <;> rfl) (by rfl) (by kernel_rfl) (by kernel_rfl) (by kernel_rfl) (fun _ _ _ h => h) (by rfl) ?_ ?_
            rotate_left
            · ((intro u); go_simp; try with_reducible rfl)
            try simp only [Act.put, List.setIfInBounds_toArray, List.set_cons_zero, List.set_cons_succ]
            refine wb_pure (i := 6) (d := some 45) (v := ?_) (by simp only [List.getElem?_toArray, List.getElem?_cons_succ, List.getElem?_cons_zero] <;> rfl) (by rfl) (by kernel_rfl) (by kernel_rfl) (by kernel_rfl) (fun _ _ _ h => h) (by rfl) ?_ ?_
            rotate_left
            · ((intro u); go_simp; try with_reducible rfl)
            try simp only [Act.put, List.setIfInBounds_toArray, List.set_cons_zero, List.set_cons_succ]
            refine wb_one (i := 7) (by simp only [List.getElem?_toArray, List.getElem?_cons_succ, List.getElem?_cons_zero] <;> rfl) (by kernel_rfl) (by rfl) (fun K hK => ?_)
            have hsrc : SlB (WCUR hA.out) (some ⟨g, j + 1, none⟩) (L - (j + 1)) (c - (j + 1)) ((bs.drop (j + 1)).take (L - (j + 1))) := by have h := hA.out.o.cap.2.2.part (j + 1) (L - (j + 1)) (c - (j + 1)) (by omega) (by omega); rwa [Nat.zero_add] at h
            replace hA := hA.out
            refine wp_append_slB _ _ rfl w.heap.size (.slice (some ⟨g, 0, none⟩) j c) (bs.take j) rfl (hA.o.cut j (by omega)) (some ⟨g, j + 1, none⟩) (L - (j + 1)) (c - (j + 1)) ((bs.drop (j + 1)).take (L - (j + 1))) rfl hsrc (fun h => by cases h) (by rw [List.length_take]; omega) hA.g.size ?_
            intro v9 u9 o9 hg9
            have hv9 := own_next hg9 (hA.o.cut j (by omega)) hA.g.size
            refine hK.out _ _ (fun p hp => by cases hp) ?_
            have hA9 := Lib.hid (hA.app hv9 o9)
            have hb9 : Hid (Byt ((bs.take j) ++ ((bs.drop (j + 1)).take (L - (j + 1))))) := Lib.hid (Byt.app (fun b h => hby.out b (List.mem_of_mem_take h)) (hby.out.sub _ _))
            have hl9 : Hid (((bs.take j) ++ ((bs.drop (j + 1)).take (L - (j + 1)))).length ≤ N + (k + 1)) := Lib.hid (by have := hln.out; have := hLe.out; rw [List.length_append, List.length_take, List.length_take, List.length_drop]; omega)
            clear hK K hv9 hg9 o9 hA hsrc
            try simp only [Act.put, List.setIfInBounds_toArray, List.set_cons_zero, List.set_cons_succ]
            refine wb_pure (i := 8) (d := some 5) (v := ?_) (by simp only [List.getElem?_toArray, List.getElem?_cons_succ, List.getElem?_cons_zero] <;> rfl) (by rfl) (by kernel_rfl) (by kernel_rfl) (by kernel_rfl) (fun _ _ _ h => h) (by rfl) ?_ ?_
            rotate_left
            · ((intro u); go_simp; try with_reducible rfl)
            try simp only [Act.put, List.setIfInBounds_toArray, List.set_cons_zero, List.set_cons_succ]
            refine wb_done (by kernel_rfl) ?_ _
            go_wp2_with fail
            go_roundw
            case rel => exact ⟨k + 1, _, by omega, by go_num, hb9, hl9, hA9⟩
            case measure => simp [intOf]; omega
        · have e0 : (r4 == 0) = false := by simp [q0]
          by_cases q1 : r4 = 1
          · subst q1
            replace hA := Lib.hid (hA.out.le (R' := R + (3 * (2 - (k + 1))) + 1) (by omega))
            replace q0 := Lib.hid q0
            go_wp2_with fail
            refine wb_begin ([]) [] (by kernel_rfl) (fun u0 hb0' hz0' => ?_)
            replace hA := Lib.hid (hA.out.below hb0')
            clear hb0' hz0'
            refine wb_pure (i := 0) (d := some 49) (v := ?_) (by simp only [List.getElem?_toArray, List.getElem?_cons_succ, List.getElem?_cons_zero] <;> rfl) (by rfl) (by kernel_rfl) (by kernel_rfl) (by kernel_rfl) (fun _ _ _ h => h) (by rfl) ?_ ?_
            rotate_left
            · ((intro u); go_simp; try with_reducible rfl)
            try simp only [Act.put, List.setIfInBounds_toArray, List.set_cons_zero, List.set_cons_succ]
            refine wb_pure (i := 1) (d := some 50) (v := ?_) (by simp only [List.getElem?_toArray, List.getElem?_cons_succ, List.getElem?_cons_zero] <;> rfl) (by rfl) (by kernel_rfl) (by kernel_rfl) (by kernel_rfl) (fun _ _ _ h => h) (by rfl) ?_ ?_
            rotate_left
            · ((intro u); go_simp; try with_reducible rfl)
            try simp only [Act.put, List.setIfInBounds_toArray, List.set_cons_zero, List.set_cons_succ]
            refine wb_pure (i := 2) (d := some 51) (v := ?_) (by simp only [List.getElem?_toArray, List.getElem?_cons_succ, List.getElem?_cons_zero] <;> rfl) (by rfl) (by kernel_rfl) (by kernel_rfl) (by kernel_rfl) (fun _ _ _ h => h) (by rfl) ?_ ?_
            rotate_left
            · ((intro u); go_simp; try with_reducible rfl)
            try simp only [Act.put, List.setIfInBounds_toArray, List.set_cons_zero, List.set_cons_succ]
            refine wb_pure (i := 3) (d := some 52) (v := ?_) (by simp only [List.getElem?_toArray, List.getElem?_cons_succ, List.getElem?_cons_zero] <;> rfl) (by rfl) (by kernel_rfl) (by kernel_rfl) (by kernel_rfl) (fun _ _ _ h => h) (by rfl) ?_ ?_
            rotate_left
            · ((intro u); go_simp; try with_reducible rfl)
            try simp only [Act.put, List.setIfInBounds_toArray, List.set_cons_zero, List.set_cons_succ]
            refine wb_pure (i := 4) (d := some 53) (v := ?_) (by simp only [List.getElem?_toArray, List.getElem?_cons_succ, List.getElem?_cons_zero] <;> rfl) (by rfl) (by kernel_rfl) (by kernel_rfl) (by kernel_rfl) (fun _ _ _ h => h) (by rfl) ?_ ?_
            rotate_left
            · ((intro u); go_simp; try with_reducible rfl)
            try simp only [Act.put, List.setIfInBounds_toArray, List.set_cons_zero, List.set_cons_succ]
            refine wb_pure (i := 5) (d := some 54) (v := ?_) (by simp only [List.getElem?_toArray, List.getElem?_cons_succ, List.getElem?_cons_zero] <;> rfl) (by rfl) (by kernel_rfl) (by kernel_rfl) (by kernel_rfl) (fun _ _ _ h => h) (by rfl) ?_ ?_
            rotate_left
            · ((intro u); go_simp; try with_reducible rfl)
            try simp only [Act.put, List.setIfInBounds_toArray, List.set_cons_zero, List.set_cons_succ]
            refine wb_pure (i := 6) (d := some 55) (v := ?_) (by simp only [List.getElem?_toArray, List.getElem?_cons_succ, List.getElem?_cons_zero] <;> rfl) (by rfl) (by kernel_rfl) (by kernel_rfl) (by kernel_rfl) (fun _ _ _ h => h) (by rfl) ?_ ?_
            rotate_left
            · ((intro u); go_simp; try with_reducible rfl)
            try simp only [Act.put, List.setIfInBounds_toArray, List.set_cons_zero, List.set_cons_succ]
            refine wb_one (i := 7) (by simp only [List.getElem?_toArray, List.getElem?_cons_succ, List.getElem?_cons_zero] <;> rfl) (by kernel_rfl) (by rfl) (fun K hK => ?_)
            have hsrc : SlB (WCUR hA.out) (some ⟨g, j, none⟩) (L - j) (c - j) ((bs.drop j).take (L - j)) := by have h := hA.out.o.cap.2.2.part j (L - j) (c - j) (by omega) (by omega); rwa [Nat.zero_add] at h
            replace hA := hA.out
            refine wp_append_slB _ _ rfl w.heap.size (.slice (some ⟨g, 0, none⟩) (j + 1) c) (bs.take (j + 1)) rfl (hA.o.cut (j + 1) (by omega)) (some ⟨g, j, none⟩) (L - j) (c - j) ((bs.drop j).take (L - j)) rfl hsrc (fun h => by cases h) (by rw [List.length_take]; omega) hA.g.size ?_
            intro v9 u9 o9 hg9
            have hv9 := own_next hg9 (hA.o.cut (j + 1) (by omega)) hA.g.size
            refine hK.out _ _ (fun p hp => by cases hp) ?_
            have hA9 := Lib.hid (hA.app hv9 o9)
            have hb9 : Hid (Byt ((bs.take (j + 1)) ++ ((bs.drop j).take (L - j)))) := Lib.hid (Byt.app (fun b h => hby.out b (List.mem_of_mem_take h)) (hby.out.sub _ _))
            have hl9 : Hid (((bs.take (j + 1)) ++ ((bs.drop j).take (L - j))).length ≤ N + (k + 1)) := Lib.hid (by have := hln.out; have := hLe.out; rw [List.length_append, List.length_take, List.length_take, List.length_drop]; omega)
            clear hK K hv9 hg9 o9 hA hsrc
            try simp only [Act.put, List.setIfInBounds_toArray, List.set_cons_zero, List.set_cons_succ]
            refine wb_pure (i := 8) (d := some 5) (v := ?_) (by simp only [List.getElem?_toArray, List.getElem?_cons_succ, List.getElem?_cons_zero] <;> rfl) (by rfl) (by kernel_rfl) (by kernel_rfl) (by kernel_rfl) (fun _ _ _ h => h) (by rfl) ?_ ?_
            rotate_left
            · ((intro u); go_simp; try with_reducible rfl)
            try simp only [Act.put, List.setIfInBounds_toArray, List.set_cons_zero, List.set_cons_succ]
            refine wb_done (by kernel_rfl) ?_ _
            go_wp2_with fail
            go_roundw
            case rel => exact ⟨k + 1, _, by omega, by go_num, hb9, hl9, hA9⟩
            case measure => simp [intOf]; omega
          · have e1 : (r4 == 1) = false := by simp [q1]
            by_cases q2 : r4 = 2
            · subst q2
              replace q0 := Lib.hid q0
              replace q1 := Lib.hid q1
              have hA9 := Lib.hid ((hA.out.app (Below.refl _ _) (hA.out.o.cut j (by omega))).le (R' := R + (3 * (2 - (k + 1))) + 1) (by omega))
              have hb9 : Hid (Byt (bs.take j)) := Lib.hid (fun b h => hby.out b (List.mem_of_mem_take h))
              have hl9 : Hid ((bs.take j).length ≤ N + (k + 1)) := Lib.hid (by have := hln.out; have := hLe.out; rw [List.length_take]; omega)
              go_wp2_with fail
              go_roundw
              case rel => exact ⟨k + 1, _, by omega, by go_num, hb9, hl9, hA9⟩
              case measure => simp [intOf]; omega
            · have e2 : (r4 == 2) = false := by simp [q2]
              replace q0 := Lib.hid q0
              replace q1 := Lib.hid q1
              replace q2 := Lib.hid q2
              go_wp2_with fail
              refine wb_begin ([g]) [9] (by kernel_rfl) (fun u0 hb0' hz0' => ?_)
              replace hA := Lib.hid (hA.out.below hb0')
              have kx0 := hA.out.o.cellB j (by omega)
              clear hb0' hz0'
              refine wb_pure (i := 0) (d := some 28) (v := ?_) (by simp only [List.getElem?_toArray, List.getElem?_cons_succ, List.getElem?_cons_zero] <;> rfl) (by rfl) (by kernel_rfl) (by kernel_rfl) (by kernel_rfl) (fun _ _ _ h => h) (by rfl) ?_ ?_
              rotate_left
              · ((intro u); go_simp; try with_reducible rfl)
              try simp only [Act.put, List.setIfInBounds_toArray, List.set_cons_zero, List.set_cons_succ]
              refine wb_pure (i := 1) (d := some 29) (v := ?_) (by simp only [List.getElem?_toArray, List.getElem?_cons_succ, List.getElem?_cons_zero] <;> rfl) (by rfl) (by kernel_rfl) (by kernel_rfl) (by kernel_rfl) (fun _ _ _ h => h) (by rfl) ?_ ?_
              rotate_left
              · ((intro u); go_simp; try with_reducible rfl)
              try simp only [Act.put, List.setIfInBounds_toArray, List.set_cons_zero, List.set_cons_succ]
              refine wb_pure (i := 2) (d := some 30) (v := ?_) (by simp only [List.getElem?_toArray, List.getElem?_cons_succ, List.getElem?_cons_zero] <;> rfl) (by rfl) (by kernel_rfl) (by kernel_rfl) (by kernel_rfl) (fun _ _ _ h => h) (by rfl) ?_ ?_
              rotate_left
              · ((intro u); go_simp; try with_reducible rfl)
              try simp only [Act.put, List.setIfInBounds_toArray, List.set_cons_zero, List.set_cons_succ]
              refine wb_take (i := 3) (d := some 31) (v := ?_) (by simp only [List.getElem?_toArray, List.getElem?_cons_succ, List.getElem?_cons_zero] <;> rfl) (by rfl) (by kernel_rfl) (by kernel_rfl) (by kernel_rfl) (fun _ _ _ h => h) (by rfl) (by kernel_rfl) ?_ ?_
              rotate_left
              · ((intro u hu); have kx := Kb.cellB hu (by simp) kx0; go_simp; try with_reducible rfl)
              try simp only [Act.put, List.setIfInBounds_toArray, List.set_cons_zero, List.set_cons_succ]
              refine wb_pure (i := 4) (d := some 32) (v := ?_) (by simp only [List.getElem?_toArray, List.getElem?_cons_succ, List.getElem?_cons_zero] <;> rfl) (by rfl) (by kernel_rfl) (by kernel_rfl) (by kernel_rfl) (fun _ _ _ h => h) (by rfl) ?_ ?_
              rotate_left
              · ((intro u); go_simp; try with_reducible rfl)
              try simp only [Act.put, List.setIfInBounds_toArray, List.set_cons_zero, List.set_cons_succ]
              refine wb_one (i := 5) (by simp only [List.getElem?_toArray, List.getElem?_cons_succ, List.getElem?_cons_zero] <;> rfl) (by kernel_rfl) (by rfl) (fun K hK => ?_)
              go_simp
              refine (next_any 8 _ b (R + (3 * (2 - (k + 1))) + 1) (by omega) (by omega) (hA.out.s.le (by omega))).mono ?_
              rintro e u5 ⟨r5, ⟨h50, h51⟩, rfl, hs5, hg5⟩
              refine hK.out _ _ (Kb.gb hg5 (by intro p hp; simp at hp; subst hp; exact ⟨hA.out.o.atB.2, by intro e; cases e; have := hA.out.lt; have := hA.out.o.atB.1; omega⟩)) ?_
              replace hA := Lib.hid (hA.out.step hs5 hg5)
              obtain ⟨z, rfl⟩ := Int.eq_ofNat_of_zero_le h50
              have hz8 : z < 8 := by omega
              have hz63 : (z : Int) < 64 := by omega
              clear hK K hs5 hg5 h50 h51
              try simp only [Act.put, List.setIfInBounds_toArray, List.set_cons_zero, List.set_cons_succ]
              refine wb_pure (i := 6) (d := some 34) (v := ?_) (by simp only [List.getElem?_toArray, List.getElem?_cons_succ, List.getElem?_cons_zero] <;> rfl) (by rfl) (by kernel_rfl) (by kernel_rfl) (by kernel_rfl) (fun _ _ _ h => h) (by rfl) ?_ ?_
              rotate_left
              · ((intro u); go_simp; try with_reducible rfl)
              try simp only [Act.put, List.setIfInBounds_toArray, List.set_cons_zero, List.set_cons_succ]
              refine wb_pure (i := 7) (d := some 35) (v := ?_) (by simp only [List.getElem?_toArray, List.getElem?_cons_succ, List.getElem?_cons_zero] <;> rfl) (by rfl) (by kernel_rfl) (by kernel_rfl) (by kernel_rfl) (fun _ _ _ h => h) (by rfl) ?_ ?_
              rotate_left
              · ((intro u); go_simp; try with_reducible rfl)
              try simp only [Act.put, List.setIfInBounds_toArray, List.set_cons_zero, List.set_cons_succ]
              refine wb_pure (i := 8) (d := some 36) (v := ?_) (by simp only [List.getElem?_toArray, List.getElem?_cons_succ, List.getElem?_cons_zero] <;> rfl) (by rfl) (by kernel_rfl) (by kernel_rfl) (by kernel_rfl) (fun _ _ _ h => h) (by rfl) ?_ ?_
              rotate_left
              · ((intro u); go_simp; try with_reducible rfl)
              try simp only [Act.put, List.setIfInBounds_toArray, List.set_cons_zero, List.set_cons_succ]
              refine wb_store (i := 9) (by simp only [List.getElem?_toArray, List.getElem?_cons_succ, List.getElem?_cons_zero] <;> rfl) (by kernel_rfl) (by rfl) (by kernel_rfl) (fun K hK => ?_)
              obtain ⟨y, hy, hy8⟩ := xor_any ((bs[j]?.getD 0 : Nat) : Int) (IntKind.u8.wrap ((2 : Int) ^ z))
              rw [hy]
              have f9 := hA.out.o.freeB j
              have c9 := hA.out.o.cellB j (by omega)
              go_simp
              refine hK.out _ _ ?_
              have hA9 := Lib.hid (hA.out.set j y (by omega))
              have hb9 : Hid (Byt (bs.set j y)) := Lib.hid (fun x hx => by rcases List.mem_or_eq_of_mem_set hx with h | h; exact hby.out x h; omega)
              have hl9 : Hid ((bs.set j y).length ≤ N + (k + 1)) := Lib.hid (by rw [List.length_set]; have := hln.out; omega)
              clear hK K hA f9 c9 hy
              try simp only [Act.put, List.setIfInBounds_toArray, List.set_cons_zero, List.set_cons_succ]
              refine wb_done (by kernel_rfl) ?_ _
              clear kx0
              go_wp2_with fail
              go_roundw
              case rel => exact ⟨k + 1, _, by omega, by go_num, hb9, hl9, hA9⟩
              case measure => simp [intOf]; omega
    · go_wp2_with fail
      go_ret
      exact ⟨_, rfl, _, hby.out, by have := hln.out; omega, hA.out.le (by omega)⟩
end Go.Proofs.Ytigbbpgfblnboaa
