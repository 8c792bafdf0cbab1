/- Packets that are read: the bytes that a stream makes. -/
import Derived.Test.YtigbbpgfblnboaaRdU
namespace Go.Proofs.Ytigbbpgfblnboaa
open Go.RowKit
set_option linter.unusedVariables false
set_option linter.unusedSimpArgs false

theorem small_byt {n : Nat} (h : n < 256) : Byt [n] := by intro b hb; simp at hb; omega
theorem headL_byt {q : Pk} (hq : PkOk q) (n : Int) : Byt (headL q n) := by
  have hh := hq.hops0
  have hh1 := hq.hops1
  have hc := codeN_in (s := q.fs) hq.proto
  have c1 : (codeN q.proto q.fs).toNat < 256 := by omega
  have c2 : q.hops.toNat < 256 := by omega
  unfold headL
  split
  · refine Byt.app (Byt.app (Byt.app (Byt.app ?_ (be_lt _ _)) ?_) (adB_byt _ _ _)) (adB_byt _ _ _)
    · intro b hb; simp at hb; omega
    · intro b hb; simp at hb; omega
  · refine byt_splice (Byt.app (Byt.app (Byt.app (Byt.app ?_ (be_lt _ _)) ?_) (adB_byt _ _ _)) (adB_byt _ _ _)) (be_lt _ _) _
    · intro b hb; simp at hb; omega
    · intro b hb; simp at hb; omega
theorem bytesL_byt {q : Pk} (hq : PkOk q) {pl : List Nat} (hb : Byt pl) : Byt (bytesL q pl) := by
  unfold bytesL partL
  exact Byt.app (headL_byt hq _) (byt_splice (Byt.app (headP_byt q _) hb) (be_lt _ _) _)
theorem AtG.old {w0 w1 w : World} {b R : Nat} {v : Value} {bs : List Nat} (h : AtG w1 b R v bs w) (hg : w0.grownBy w1 (some b)) (hlt : b < w0.heap.size) : AtG w0 b R v bs w := ⟨h.s, h.o.mono hg.size, gb_trans hg h.g, hlt⟩

set_option maxHeartbeats 2000000 in
set_option maxRecDepth 100000 in
theorem packetBytesG_any (w : World) (b R : Nat) (hs : Str w b (R + 100)) :
    Calls Try.prog 28 #[.pointer (some ⟨b, 0, none⟩)] w fun e w' => ∃ v bs, e = .returned v ∧ Byt bs ∧ bs.length ≤ 150 ∧ AtG w b R v bs w' := by
  have hlt := hs.lt
  have HP := Lib.hid (rightPacket_ok w b (R + 30) hs)
  replace hs := Lib.hid hs
  go_enter Try.func28, Try.ntmps28
  go_wp2_with fail
  refine HP.out.mono ?_
  rintro e w1 ⟨q, A, n, cap, pl, rfl, hq, hSl, hA, hby, hn20, hblk, hs1, hg1⟩
  have HB := Lib.hid (packetBytes_any q A n cap pl w1 hq hSl hA (by omega) hby)
  have hb0 := Lib.hid (bytesL_byt hq hby)
  have hln := Lib.hid (show (bytesL q pl).length ≤ 140 by
    unfold bytesL
    rw [List.length_append]
    have h1 := headL_len q (partL q pl).length
    have h2 := partL_len q pl
    have h3 := atP_fits q pl.length
    have h4 := hSl.len
    omega)
  replace hs1 := Lib.hid hs1
  replace hg1 := Lib.hid hg1
  generalize hPV : pkV q (.slice A n cap) = PV at HB ⊢
  generalize bytesL q pl = bs at HB hb0 hln
  clear HP hs hq hSl hA hby hblk hPV
  go_wp2_with fail
  refine HB.out.mono ?_
  rintro e w2 ⟨v2, rfl, o2, hv2⟩
  have hG : Hid (AtG w b (R + 30) v2 bs w2) := Lib.hid ⟨hs1.out.below hv2, o2.mono hg1.out.size, gb_below hg1.out hv2, hlt⟩
  clear HB o2 hv2 hs1 hg1
  go_wp2_with fail
  refine (flip_any 3 _ b (R + 29) (by omega) (by omega) (hG.out.s.le (by omega))).mono ?_
  rintro e w3 ⟨r, rfl, hs3, hg3⟩
  replace hG := Lib.hid (hG.out.step hs3 hg3)
  clear hs3 hg3
  go_upto_if 8 with fail
  go_cut [3] (fun v wx => ∃ bs, Hid (AtG w b (R + 20) v bs wx) ∧ Hid (Byt bs) ∧ Hid (bs.length ≤ 142))
  case first =>
    cases r
    · go_wp2_with fail
      go_meet
      exact ⟨bs, Lib.hid (hG.out.le (by omega)), hb0, Lib.hid (by have := hln.out; omega)⟩
    · obtain ⟨A4, c4, rfl, hS4, hA4⟩ := hG.out.o.sl
      obtain ⟨N, hN⟩ : ∃ N, N = bs.length := ⟨_, rfl⟩
      rw [← hN] at hS4 hG ⊢
      have hB4 := Lib.hid (bytes_any w3 b (R + 20) (hG.out.s.le (by omega)) A4 N c4 bs hS4 hA4 (by have := hln.out; omega) hb0.out)
      replace hN := Lib.hid hN
      clear hS4 hA4
      go_wp2_with fail
      refine hB4.out.mono ?_
      rintro e w5 ⟨v5, bs5, rfl, hb5, hl5, hG5⟩
      have hG6 := Lib.hid (hG5.old hG.out.g hlt)
      replace hb5 := Lib.hid hb5
      have hl6 := Lib.hid (show bs5.length ≤ 142 by have := hln.out; have := hN.out; omega)
      clear hG5 hl5 hB4
      go_wp2_with fail
      go_meet
      exact ⟨bs5, hG6, hb5, hl6⟩
  case rest =>
  clear hG hb0 hln
  obtain ⟨bs, hG, hb0, hln⟩ := hcut
  by_cases hz : bs.length = 0
  · obtain ⟨A1, c1, e1, hS1, hA1⟩ := hG.out.o.sln (n := 0) hz
    subst e1
    replace hA1 := Lib.hid hA1
    replace hz := Lib.hid hz
    clear hS1
    go_wp2_with fail
    go_ret
    exact ⟨_, bs, rfl, hb0.out, by have := hln.out; omega, hG.out.le (by omega)⟩
  · obtain ⟨L, hL⟩ : ∃ L, L = bs.length := ⟨_, rfl⟩
    obtain ⟨g, c, e1⟩ := hG.out.o.formn hL (by omega)
    subst e1
    have hL0 : 0 < L := by omega
    have hLi : (0 : Int) < L := by omega
    have hLN : L ≤ 142 := by have := hln.out; omega
    have hLc : L ≤ c := hG.out.o.cap.2.1
    replace hL := Lib.hid hL
    replace hz := Lib.hid hz
    go_wp2_with fail
    refine (flip_any 8 _ b (R + 19) (by omega) (by omega) (hG.out.s.le (by omega))).mono ?_
    rintro e w7 ⟨r, rfl, hs7, hg7⟩
    replace hG := Lib.hid (hG.out.step hs7 hg7)
    clear hs7 hg7
    cases r
    · go_wp2_with fail
      go_ret
      exact ⟨_, bs, rfl, hb0.out, by have := hln.out; omega, hG.out.le (by omega)⟩
    · obtain ⟨M, hM⟩ : ∃ M : Int, M = min (L : Int) 12 := ⟨_, rfl⟩
      have hM1 : 1 ≤ M ∧ M ≤ L := by omega
      have HN := Lib.hid (next_any M _ b (R + 18) (by omega) (by omega) (hG.out.s.le (by omega)))
      by_cases h12 : (L : Int) ≤ 12
      · have hML : M = L := by omega
        rw [hML] at HN hM1
        clear hM hML
        replace hM1 := Lib.hid hM1
        go_wp2_with fail
        refine HN.out.mono ?_
        rintro e w8 ⟨r8, ⟨h80, h81⟩, rfl, hs8, hg8⟩
        replace hG := Lib.hid (hG.out.step hs8 hg8)
        obtain ⟨j, rfl⟩ := Int.eq_ofNat_of_zero_le h80
        have hj : j < L := by have := hM1.out; omega
        have hji : (j : Int) < L := by omega
        clear hs8 hg8 h80 h81 HN
        go_wp2_with fail
        refine (pick_lit_at _ b (R + 17) _ _ [0, 69, 96, 58, 1, 255] _ _ (by simp) (by simp) (hG.out.s.le (by omega)) (by simp) (by simp) (fun z => 0 ≤ z ∧ z ≤ 255) (by simp)).mono ?_
        rintro e w9 ⟨x, ⟨x0, x1⟩, rfl, hs9, hg9⟩
        replace hG := Lib.hid ((hG.out.below ((Below.refl _ _).alloc (Nat.le_refl _) _)).step hs9 hg9)
        obtain ⟨y, rfl⟩ := Int.eq_ofNat_of_zero_le x0
        have wy := wrap8 y (by omega)
        have hy8 := Lib.hid (show y < 256 by omega)
        have f9 := hG.out.o.freeB j
        have c9 := hG.out.o.cellB j (by omega)
        clear hs9 hg9 x0 x1
        go_wp2_with fail
        go_ret
        exact ⟨_, bs.set j y, rfl, fun x hx => by rcases List.mem_or_eq_of_mem_set hx with h | h; exact hb0.out x h; have := hy8.out; omega, by rw [List.length_set]; have := hln.out; omega, (hG.out.set j y (by omega)).le (by omega)⟩
      · have hML : M = 12 := by omega
        rw [hML] at HN hM1
        clear hM hML
        replace hM1 := Lib.hid hM1
        go_wp2_with fail
        refine HN.out.mono ?_
        rintro e w8 ⟨r8, ⟨h80, h81⟩, rfl, hs8, hg8⟩
        replace hG := Lib.hid (hG.out.step hs8 hg8)
        obtain ⟨j, rfl⟩ := Int.eq_ofNat_of_zero_le h80
        have hj : j < L := by have := hM1.out; omega
        have hji : (j : Int) < L := by omega
        clear hs8 hg8 h80 h81 HN
        go_wp2_with fail
        refine (pick_lit_at _ b (R + 17) _ _ [0, 69, 96, 58, 1, 255] _ _ (by simp) (by simp) (hG.out.s.le (by omega)) (by simp) (by simp) (fun z => 0 ≤ z ∧ z ≤ 255) (by simp)).mono ?_
        rintro e w9 ⟨x, ⟨x0, x1⟩, rfl, hs9, hg9⟩
        replace hG := Lib.hid ((hG.out.below ((Below.refl _ _).alloc (Nat.le_refl _) _)).step hs9 hg9)
        obtain ⟨y, rfl⟩ := Int.eq_ofNat_of_zero_le x0
        have wy := wrap8 y (by omega)
        have hy8 := Lib.hid (show y < 256 by omega)
        have f9 := hG.out.o.freeB j
        have c9 := hG.out.o.cellB j (by omega)
        clear hs9 hg9 x0 x1
        go_wp2_with fail
        go_ret
        exact ⟨_, bs.set j y, rfl, fun x hx => by rcases List.mem_or_eq_of_mem_set hx with h | h; exact hb0.out x h; have := hy8.out; omega, by rw [List.length_set]; have := hln.out; omega, (hG.out.set j y (by omega)).le (by omega)⟩
end Go.Proofs.Ytigbbpgfblnboaa
