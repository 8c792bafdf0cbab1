/- Packets that are read: the reference's whole, whatever the bytes. -/
import Derived.Test.YtigbbpgfblnboaaRdP
namespace Go.Proofs.Ytigbbpgfblnboaa
open Go.RowKit
set_option linter.unusedVariables false
set_option linter.unusedSimpArgs false

theorem head_len {bs : List Nat} (hb : Byt bs) (hE : headE bs = 0) : headN bs ≤ bs.length := by
  unfold headE at hE
  split at hE
  · cases hE
  rename_i hl
  unfold headN
  split at hE
  · rename_i h0; rw [if_pos h0]; omega
  · rename_i h0; rw [if_neg h0]
    split at hE
    · rename_i h6; exact (head_six hb h6 hE).1
    · cases hE
set_option maxHeartbeats 1000000 in
set_option maxRecDepth 100000 in
theorem packetRead_bad (A : Option Addr) (n cap : Nat) (bs : List Nat) (w : World) (hS : SlB w A n cap bs) (hn2 : n ≤ 1000) (hb : Byt bs) (hE : ¬ headE bs = 0) :
    Calls Try.prog 30 #[.slice A n cap] w (PRPost bs w) := by
  have hl := hS.len
  have Z1 := Blk.new w zeroP 45
  have hw1 : Below w.heap.size w (w.alloc (.cells #[.bool false, .int .u64 0, .int .u64 0, .bool false, .int .u64 0, .int .u64 0, .int .i64 0, .int .i64 0, .int .i64 0, .int .i64 0, .bool false, .bool false, .bool false, .bool false, .int .i64 0, .int .i64 0, .bool false, .int .i64 0, .slice none 0 0] 45)) := (Below.refl _ _).alloc (Nat.le_refl _) _
  have hS1 := hS.below hw1
  have HH := Lib.hid (headRead_any A n cap bs _ hS1 hn2 hb)
  have hR : rdER bs = headE bs := by unfold rdER; rw [if_pos hE]
  obtain ⟨E, hEe⟩ : ∃ E, E = headE bs := ⟨_, rfl⟩
  rw [← hEe] at HH hE hR
  have hEb : (E == 0) = false := by simp [hE]
  have hne0 := Lib.hid hE
  replace hR := Lib.hid hR
  replace hEe := Lib.hid hEe
  clear hS hS1 hl
  go_enter Try.func30, Try.ntmps30
  go_wp2_with fail
  refine HH.out.mono ?_
  rintro e u0 ⟨q', k, rfl, hv0, hq⟩
  clear hq
  have S1 := stPk_run (q := q') (v := .slice none 0 0) (Blk.new u0 zeroP 45) rfl rfl
  have hlt0 : w.heap.size < u0.heap.size := by have := hv0.size; simp at this; omega
  have hQ : AtQ w u0.heap.size q' (.slice none 0 0) ((u0.alloc (.cells #[.bool false, .int .u64 0, .int .u64 0, .bool false, .int .u64 0, .int .u64 0, .int .i64 0, .int .i64 0, .int .i64 0, .int .i64 0, .bool false, .bool false, .bool false, .bool false, .int .i64 0, .int .i64 0, .bool false, .int .i64 0, .slice none 0 0] 45)).setRow u0.heap.size (pkL q' (.slice none 0 0)).toArray) :=
    ⟨setRow_heap _ _ _ _ _ _ (Blk.new u0 zeroP 45), (setRow_other _ u0.heap.size w.heap.size _ (by omega)).trans ((Z1.below hv0).alloc _), ((hw1.trans (hv0.mono (by simp))).alloc (by omega) _).trans (gb_toBelow (B := w.heap.size) (row_gb _) (by omega) (by simp)), hlt0⟩
  replace hQ := Lib.hid hQ
  clear HH Z1 hw1 hv0
  have S0 := stZ hQ.out.r rfl
  go_wp2_with fail
  refine bodyPost_ret (v := .tuple #[pkV zq (.slice none 0 0), .int .i64 E]) (res_pk (fn := Try.f30) rfl _ _ w.heap.size zq (.slice none 0 0) rfl (setRow_heap _ _ _ _ _ _ hQ.out.r) (.int .i64 E) rfl) rfl ⟨zq, .slice none 0 0, by rw [hR.out], hQ.out.fin _, fun _ => ⟨rfl, rfl⟩, fun h => absurd (hR.out.symm.trans h) hne0.out⟩
set_option maxHeartbeats 1000000 in
set_option maxRecDepth 100000 in
theorem packetRead_short (A : Option Addr) (n cap : Nat) (bs : List Nat) (w : World) (hS : SlB w A n cap bs) (hn2 : n ≤ 1000) (hb : Byt bs) (hE : headE bs = 0) (hk : n < headN bs + szP (headQ bs)) :
    Calls Try.prog 30 #[.slice A n cap] w (PRPost bs w) := by
  have hcap := hS.2.1
  obtain ⟨g, off, rfl⟩ : ∃ g off, A = some ⟨g, off, none⟩ := by
    rcases hS.2.2 with h | ⟨g, off, h, _⟩
    · have := hS.len
      unfold headE at hE
      rw [if_pos (by omega)] at hE
      cases hE
    · exact ⟨g, off, h⟩
  have hkn := head_len hb hE
  have hl := hS.len
  have Z1 := Blk.new w zeroP 45
  have hw1 : Below w.heap.size w (w.alloc (.cells #[.bool false, .int .u64 0, .int .u64 0, .bool false, .int .u64 0, .int .u64 0, .int .i64 0, .int .i64 0, .int .i64 0, .int .i64 0, .bool false, .bool false, .bool false, .bool false, .int .i64 0, .int .i64 0, .bool false, .int .i64 0, .slice none 0 0] 45)) := (Below.refl _ _).alloc (Nat.le_refl _) _
  have hS1 := hS.below hw1
  have HH := Lib.hid (headRead_any (some ⟨g, off, none⟩) n cap bs _ hS1 hn2 hb)
  rw [← hl] at hkn
  rw [hE] at HH
  have hR := Lib.hid (show rdER bs = 3 by
    unfold rdER; rw [if_neg (fun x => x hE)]; unfold partER; rw [if_pos (by rw [List.length_drop, ← hl]; omega)])
  have hpr := head_proto hE
  have hks : (headQ bs).proto = 6 → n < headN bs + 20 := fun h => by unfold szP at hk; rwa [if_pos h] at hk
  have hks2 : ¬ (headQ bs).proto = 6 → n < headN bs + 8 := fun h => by unfold szP at hk; rwa [if_neg h] at hk
  obtain ⟨kN, hkN⟩ : ∃ kN, kN = headN bs := ⟨_, rfl⟩
  rw [← hkN] at HH hks hks2 hkn
  clear hk hS hS1
  replace hE := Lib.hid hE
  replace hkN := Lib.hid hkN
  replace hl := Lib.hid hl
  replace hpr := Lib.hid hpr
  by_cases hp6 : (headQ bs).proto = 6
  · have hk := hks hp6
    replace hks := Lib.hid hks
    clear hks2
    go_enter Try.func30, Try.ntmps30
    go_wp2_with fail
    refine HH.out.mono ?_
    rintro e u0 ⟨q', k, rfl, hv0, hq⟩
    obtain ⟨rfl, rfl⟩ := hq trivial
    have S1 := stPk_run (q := (headQ bs)) (v := .slice none 0 0) (Blk.new u0 zeroP 45) rfl rfl
    have hlt0 : w.heap.size < u0.heap.size := by have := hv0.size; simp at this; omega
    have hQ : AtQ w u0.heap.size (headQ bs) (.slice none 0 0) ((u0.alloc (.cells #[.bool false, .int .u64 0, .int .u64 0, .bool false, .int .u64 0, .int .u64 0, .int .i64 0, .int .i64 0, .int .i64 0, .int .i64 0, .bool false, .bool false, .bool false, .bool false, .int .i64 0, .int .i64 0, .bool false, .int .i64 0, .slice none 0 0] 45)).setRow u0.heap.size (pkL (headQ bs) (.slice none 0 0)).toArray) :=
      ⟨setRow_heap _ _ _ _ _ _ (Blk.new u0 zeroP 45), (setRow_other _ u0.heap.size w.heap.size _ (by omega)).trans ((Z1.below hv0).alloc _), ((hw1.trans (hv0.mono (by simp))).alloc (by omega) _).trans (gb_toBelow (B := w.heap.size) (row_gb _) (by omega) (by simp)), hlt0⟩
    replace hQ := Lib.hid hQ
    clear HH Z1 hw1 hv0 hq
    have d7 := hQ.out.x.cell (i := 7) (v := .int .i64 (headQ bs).proto) rfl
    rw [hp6] at d7
    replace hp6 := Lib.hid hp6
    by_cases hcz : cap = kN
    · have hnk : n = kN := by omega
      subst hnk
      subst hcz
      have i1 : ((0 : Nat) : Int) < 20 := by decide
      clear hk hks
      have S0 := stZ hQ.out.r rfl
      go_wp2_with fail
      refine bodyPost_ret (v := .tuple #[pkV zq (.slice none 0 0), .int .i64 3]) (res_pk (fn := Try.f30) rfl _ _ w.heap.size zq (.slice none 0 0) rfl (setRow_heap _ _ _ _ _ _ hQ.out.r) (.int .i64 3) rfl) rfl ⟨zq, .slice none 0 0, by rw [hR.out], hQ.out.fin _, fun _ => ⟨rfl, rfl⟩, fun h => by rw [hR.out] at h; cases h⟩
    · have i1 : (kN : Int) ≤ n := by omega
      have i2 : (kN : Int) ≤ cap := by omega
      obtain ⟨m, hm⟩ : ∃ m, m = n - kN := ⟨_, rfl⟩
      have i6 : n - kN = m := hm.symm
      have i4 : (m : Int) < 20 := by omega
      replace hm := Lib.hid hm
      have S0 := stZ hQ.out.r rfl
      go_wp2_with fail
      refine bodyPost_ret (v := .tuple #[pkV zq (.slice none 0 0), .int .i64 3]) (res_pk (fn := Try.f30) rfl _ _ w.heap.size zq (.slice none 0 0) rfl (setRow_heap _ _ _ _ _ _ hQ.out.r) (.int .i64 3) rfl) rfl ⟨zq, .slice none 0 0, by rw [hR.out], hQ.out.fin _, fun _ => ⟨rfl, rfl⟩, fun h => by rw [hR.out] at h; cases h⟩
  · have hk := hks2 hp6
    replace hks := Lib.hid hks2
    clear hks2
    go_enter Try.func30, Try.ntmps30
    go_wp2_with fail
    refine HH.out.mono ?_
    rintro e u0 ⟨q', k, rfl, hv0, hq⟩
    obtain ⟨rfl, rfl⟩ := hq trivial
    have S1 := stPk_run (q := (headQ bs)) (v := .slice none 0 0) (Blk.new u0 zeroP 45) rfl rfl
    have hlt0 : w.heap.size < u0.heap.size := by have := hv0.size; simp at this; omega
    have hQ : AtQ w u0.heap.size (headQ bs) (.slice none 0 0) ((u0.alloc (.cells #[.bool false, .int .u64 0, .int .u64 0, .bool false, .int .u64 0, .int .u64 0, .int .i64 0, .int .i64 0, .int .i64 0, .int .i64 0, .bool false, .bool false, .bool false, .bool false, .int .i64 0, .int .i64 0, .bool false, .int .i64 0, .slice none 0 0] 45)).setRow u0.heap.size (pkL (headQ bs) (.slice none 0 0)).toArray) :=
      ⟨setRow_heap _ _ _ _ _ _ (Blk.new u0 zeroP 45), (setRow_other _ u0.heap.size w.heap.size _ (by omega)).trans ((Z1.below hv0).alloc _), ((hw1.trans (hv0.mono (by simp))).alloc (by omega) _).trans (gb_toBelow (B := w.heap.size) (row_gb _) (by omega) (by simp)), hlt0⟩
    replace hQ := Lib.hid hQ
    clear HH Z1 hw1 hv0 hq
    have d7 := hQ.out.x.cell (i := 7) (v := .int .i64 (headQ bs).proto) rfl
    have hp6' : ((headQ bs).proto == 6) = false := by simp [hp6]
    replace hp6 := Lib.hid hp6
    by_cases hcz : cap = kN
    · have hnk : n = kN := by omega
      subst hnk
      subst hcz
      have i1 : ((0 : Nat) : Int) < 8 := by decide
      clear hk hks
      have S0 := stZ hQ.out.r rfl
      go_wp2_with fail
      refine bodyPost_ret (v := .tuple #[pkV zq (.slice none 0 0), .int .i64 3]) (res_pk (fn := Try.f30) rfl _ _ w.heap.size zq (.slice none 0 0) rfl (setRow_heap _ _ _ _ _ _ hQ.out.r) (.int .i64 3) rfl) rfl ⟨zq, .slice none 0 0, by rw [hR.out], hQ.out.fin _, fun _ => ⟨rfl, rfl⟩, fun h => by rw [hR.out] at h; cases h⟩
    · have i1 : (kN : Int) ≤ n := by omega
      have i2 : (kN : Int) ≤ cap := by omega
      obtain ⟨m, hm⟩ : ∃ m, m = n - kN := ⟨_, rfl⟩
      have i6 : n - kN = m := hm.symm
      have i4 : (m : Int) < 8 := by omega
      replace hm := Lib.hid hm
      have S0 := stZ hQ.out.r rfl
      go_wp2_with fail
      refine bodyPost_ret (v := .tuple #[pkV zq (.slice none 0 0), .int .i64 3]) (res_pk (fn := Try.f30) rfl _ _ w.heap.size zq (.slice none 0 0) rfl (setRow_heap _ _ _ _ _ _ hQ.out.r) (.int .i64 3) rfl) rfl ⟨zq, .slice none 0 0, by rw [hR.out], hQ.out.fin _, fun _ => ⟨rfl, rfl⟩, fun h => by rw [hR.out] at h; cases h⟩
theorem packetRead_any (A : Option Addr) (n cap : Nat) (bs : List Nat) (w : World) (hS : SlB w A n cap bs) (hn2 : n ≤ 1000) (hb : Byt bs) :
    Calls Try.prog 30 #[.slice A n cap] w (PRPost bs w) := by
  by_cases hE : headE bs = 0
  · by_cases hk : n < headN bs + szP (headQ bs)
    · exact packetRead_short A n cap bs w hS hn2 hb hE hk
    · obtain ⟨g, off, rfl⟩ : ∃ g off, A = some ⟨g, off, none⟩ := by
        rcases hS.2.2 with h | ⟨g, off, h, _⟩
        · have : 8 ≤ szP (headQ bs) := by unfold szP; split <;> omega
          omega
        · exact ⟨g, off, h⟩
      rcases head_proto hE with h | h | h
      · have e : szP (headQ bs) = 8 := by unfold szP; rw [if_neg (by omega)]
        exact packetRead_icmp g off n cap bs w hS hn2 hb hE h (by omega)
      · have e : szP (headQ bs) = 20 := by unfold szP; rw [if_pos h]
        exact packetRead_tcp g off n cap bs w hS hn2 hb hE h (by omega)
      · have e : szP (headQ bs) = 8 := by unfold szP; rw [if_neg (by omega)]
        exact packetRead_udp g off n cap bs w hS hn2 hb hE h (by omega)
  · exact packetRead_bad A n cap bs w hS hn2 hb hE
end Go.Proofs.Ytigbbpgfblnboaa
