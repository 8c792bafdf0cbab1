/- Sets: the cuts of two lists. -/
import Derived.Test.YtfpcalgkfagjkaaGreatDoorKrSvH
import Derived.Test.YtfpcalgkfagjkaaGreatDoorKrSuD
set_option linter.unusedVariables false
set_option linter.unusedSimpArgs false
set_option maxRecDepth 100000
namespace Go.Proofs.YtfpcalgkfagjkaaGreatDoor
open Go.RowKit

def bs2T (t : TypeId) (x y : Value) : Sem Next := do
  let v ← Instr.buildSlice t 2 #[(0, x), (1, y)]
  pure (.value v)
@[go_sem ↓ high] theorem execOp_bs2Ad (ρ : Operand → Value) (dst : Option Tmp) (x y : Operand) (ty : TypeId) (pos : String) (after : Array Edge) (guard : Option (Nat × Bool)) : execOp ρ ⟨dst, .buildSlice 65 2 #[(0, x), (1, y)], ty, pos, after, guard⟩ = bs2T 65 (ρ x) (ρ y) := by
  simp only [execOp, bs2T, List.map_toArray, List.map_cons, List.map_nil]
@[go_sem high] theorem execOp_bs2Ad' (ρ : Operand → Value) (dst : Option Tmp) (x y : Operand) (ty : TypeId) (pos : String) (after : Array Edge) (guard : Option (Nat × Bool)) : execOp ρ ⟨dst, .buildSlice 65 2 #[(0, x), (1, y)], ty, pos, after, guard⟩ = bs2T 65 (ρ x) (ρ y) := by
  simp only [execOp, bs2T, List.map_toArray, List.map_cons, List.map_nil]
@[go_sem] theorem run_bs2Ad (a b : Ad) (w : World) : (bs2T 65 (.agg (adC a).toArray) (.agg (adC b).toArray)).run Tryz.prog w = .ok (.value (.slice (some ⟨w.heap.size, 0, none⟩) 2 2)) (w.alloc (.cells (adC a ++ adC b).toArray 30)) := by
  obtain ⟨i0, hi0, hz0, hz1, hz2⟩ := info_parts infoAd
  unfold bs2T
  simp only [Sem.run_bind, run_buildSlice (P := Tryz.prog) w 65 30 2 #[(0, .agg (adC a).toArray), (1, .agg (adC b).toArray)] (adC a ++ adC b).toArray i0 zAd Tryz.underlying65 hi0 hz0 (by rw [hz1]; decide) (by rw [hz1]; decide) (by rw [hz1]; kernel_rfl), Result.andThen_ok, Sem.run_pure]

structure CuI (os : List Ad) (Z : List (Ad × Ad)) : Prop where
  right : ∀ a ∈ os, a.R
  base : ∀ s : Bool, ∃ a ∈ os, a.n = s2n s
  cuts : ∀ x ∈ Z, (∃ c ∈ os, c.n = x.1.n) ∧ (x.2.n ≠ topN x.2.s → ∃ c ∈ os, c.n = x.2.n + 1)
  len : os.length ≤ 2 + 2 * Z.length
theorem first_R (s : Bool) : Ad.R ⟨s, 0, 0⟩ ∧ Ad.n ⟨s, 0, 0⟩ = s2n s := ⟨(allP_R s).1, (allP_n s).1⟩
theorem CuI.start : CuI [⟨false, 0, 0⟩, ⟨true, 0, 0⟩] [] where
  right := fun a ha => by
    simp only [List.mem_cons, List.not_mem_nil, or_false] at ha
    rcases ha with rfl | rfl
    · exact (first_R false).1
    · exact (first_R true).1
  base := fun s => ⟨⟨s, 0, 0⟩, by cases s <;> simp, (first_R s).2⟩
  cuts := fun x hx => by cases hx
  len := Nat.le_refl _
theorem CuI.one {os : List Ad} {Z : List (Ad × Ad)} (h : CuI os Z) {x : Ad × Ad} (hx : RgR x) (ht : x.2.n = topN x.2.s) : CuI (os ++ [x.1]) (Z ++ [x]) where
  right := fun a ha => by
    rcases List.mem_append.1 ha with ha | ha
    · exact h.right a ha
    · rw [List.mem_singleton.1 ha]; exact hx.1
  base := fun s => by obtain ⟨a, ha, e⟩ := h.base s; exact ⟨a, List.mem_append_left _ ha, e⟩
  cuts := fun y hy => by
    rcases List.mem_append.1 hy with hy | hy
    · obtain ⟨⟨c, hc, e⟩, h2⟩ := h.cuts y hy
      exact ⟨⟨c, List.mem_append_left _ hc, e⟩, fun hn => by obtain ⟨d, hd, e⟩ := h2 hn; exact ⟨d, List.mem_append_left _ hd, e⟩⟩
    · rw [List.mem_singleton.1 hy]
      exact ⟨⟨x.1, List.mem_append_right _ (List.mem_singleton.2 rfl), rfl⟩, fun hn => absurd ht hn⟩
  len := by have := h.len; rw [List.length_append, List.length_append]; simp; omega
theorem CuI.two {os : List Ad} {Z : List (Ad × Ad)} (h : CuI os Z) {x : Ad × Ad} (hx : RgR x) {z : Ad} (hz : z.R) (he : z.n = x.2.n + 1) : CuI (os ++ [x.1] ++ [z]) (Z ++ [x]) where
  right := fun a ha => by
    rcases List.mem_append.1 ha with ha | ha
    · rcases List.mem_append.1 ha with ha | ha
      · exact h.right a ha
      · rw [List.mem_singleton.1 ha]; exact hx.1
    · rw [List.mem_singleton.1 ha]; exact hz
  base := fun s => by obtain ⟨a, ha, e⟩ := h.base s; exact ⟨a, List.mem_append_left _ (List.mem_append_left _ ha), e⟩
  cuts := fun y hy => by
    rcases List.mem_append.1 hy with hy | hy
    · obtain ⟨⟨c, hc, e⟩, h2⟩ := h.cuts y hy
      exact ⟨⟨c, List.mem_append_left _ (List.mem_append_left _ hc), e⟩, fun hn => by obtain ⟨d, hd, e⟩ := h2 hn; exact ⟨d, List.mem_append_left _ (List.mem_append_left _ hd), e⟩⟩
    · rw [List.mem_singleton.1 hy]
      exact ⟨⟨x.1, List.mem_append_left _ (List.mem_append_right _ (List.mem_singleton.2 rfl)), rfl⟩, fun _ => ⟨z, List.mem_append_right _ (List.mem_singleton.2 rfl), he⟩⟩
  len := by have := h.len; rw [List.length_append, List.length_append, List.length_append]; simp; omega
theorem CuI.done {os qs zs : List Ad} {Z : List (Ad × Ad)} (h : CuI os Z) (hp : qs.Perm os) {n : Nat} (hn : n = qs.length) (hc : CpI qs n zs) : Cut zs ∧ (∀ x ∈ Z, ∃ c ∈ zs, c.n = x.1.n) ∧ (∀ x ∈ Z, x.2.n ≠ topN x.2.s → ∃ c ∈ zs, c.n = x.2.n + 1) := by
  have hm : ∀ a, a ∈ zs ↔ a ∈ os := fun a => by rw [hc.2, hn, List.take_length]; exact hp.mem_iff
  refine ⟨⟨hc.1, fun a ha => h.right a ((hm a).1 ha), fun s => ?_⟩, fun x hx => ?_, fun x hx hne => ?_⟩
  · obtain ⟨a, ha, e⟩ := h.base s; exact ⟨a, (hm a).2 ha, e⟩
  · obtain ⟨c, h1, e⟩ := (h.cuts x hx).1; exact ⟨c, (hm c).2 h1, e⟩
  · obtain ⟨c, h1, e⟩ := (h.cuts x hx).2 hne; exact ⟨c, (hm c).2 h1, e⟩
theorem own_new {α : Type} {E : Enc α} {t : TypeId} {B : Nat} {w : World} {v : Value} {xs : List α} (h : OwnE E t B w v xs) : v.ownBlock ≠ some w.heap.size := fun e => by have := (h.lt _ e).2; omega
theorem own_two (a b : Ad) (w : World) (B : Nat) (hB : B ≤ w.heap.size) : OwnE eAd 30 B (w.alloc (.cells (adC a ++ adC b).toArray 30)) (.slice (some ⟨w.heap.size, 0, none⟩) 2 2) [a, b] :=
  ⟨rfl, .inr ⟨w.heap.size, 2, (adC a ++ adC b).toArray, rfl, hB, heap_alloc_new w _, Nat.le_refl _, by decide, rfl, rfl⟩⟩

set_option maxHeartbeats 4000000 in
theorem cuts_any (q : Nat) (A A' : Option Addr) (n cap n' cap' : Nat) (xs ys : List (Ad × Ad)) (w : World) (hQ : Blk w q [.slice A n cap, .slice A' n' cap'] 67) (hS : SlE eRg w A n cap xs) (hS' : SlE eRg w A' n' cap' ys) (hn : n ≤ 5000) (hn' : n' ≤ 5000) (hR : ∀ x ∈ xs, RgR x) (hR' : ∀ x ∈ ys, RgR x) :
    Calls Tryz.prog 32 #[.slice (some ⟨q, 0, none⟩) 2 2] w fun e w' => ∃ g cap cs, e = .returned (.slice (some ⟨g, 0, none⟩) cs.length cap) ∧ SlE eAd w' (some ⟨g, 0, none⟩) cs.length cap cs ∧ Cut cs ∧ (∀ x ∈ xs ++ ys, ∃ c ∈ cs, c.n = x.1.n) ∧ (∀ x ∈ xs ++ ys, x.2.n ≠ topN x.2.s → ∃ c ∈ cs, c.n = x.2.n + 1) ∧ cs.length ≤ 2 + 2 * (n + n') ∧ Below w.heap.size w w' := by
  have hql := hQ.lt
  obtain ⟨Z, hZ⟩ : ∃ Z : Nat → List (Ad × Ad), Z = fun k => if k = 0 then [] else if k = 1 then xs else xs ++ ys := ⟨_, rfl⟩
  have HL : ∀ k, k < 2 → ∃ A n cap zs, (∀ W, Below w.heap.size w W → W.cell? ⟨q, k, none⟩ = some (.slice A n cap) ∧ SlE eRg W A n cap zs) ∧ n ≤ 5000 ∧ n = zs.length ∧ (∀ x ∈ zs, RgR x) ∧ Z (k + 1) = Z k ++ zs ∧ (Z k).length ≤ 5000 := by
    intro k hk
    rcases Nat.lt_or_ge k 1 with h | h
    · have e : k = 0 := by omega
      subst e
      exact ⟨A, n, cap, xs, fun W hW => ⟨(hQ.below hW).cell rfl, hS.below hW⟩, hn, hS.1, hR, by rw [hZ]; rfl, by rw [hZ]; exact Nat.zero_le _⟩
    · have e : k = 1 := by omega
      subst e
      exact ⟨A', n', cap', ys, fun W hW => ⟨(hQ.below hW).cell rfl, hS'.below hW⟩, hn', hS'.1, hR', by rw [hZ]; rfl, by rw [hZ]; show xs.length ≤ 5000; rw [← hS.1]; exact hn⟩
  have hZ0 := Lib.hid (show Z 0 = [] by rw [hZ]; rfl)
  have hZ2 := Lib.hid (show Z 2 = xs ++ ys by rw [hZ]; rfl)
  have hlen := Lib.hid (show (xs ++ ys).length = n + n' by rw [List.length_append, hS.1, hS'.1])
  replace HL := Lib.hid HL
  obtain ⟨a0, ha0⟩ : ∃ a : Ad, a = ⟨false, 0, 0⟩ := ⟨_, rfl⟩
  obtain ⟨a1, ha1⟩ : ∃ a : Ad, a = ⟨true, 0, 0⟩ := ⟨_, rfl⟩
  have BB : ∀ w', (bs2T 65 (.agg #[.bool false, .int .u64 0, .int .u64 0]) (.agg #[.bool true, .int .u64 0, .int .u64 0])).run Tryz.prog w' = .ok (.value (.slice (some ⟨w'.heap.size, 0, none⟩) 2 2)) (w'.alloc (.cells (adC a0 ++ adC a1).toArray 30)) := fun w' => by rw [ha0, ha1]; exact run_bs2Ad ⟨false, 0, 0⟩ ⟨true, 0, 0⟩ w'
  have hown := own_two a0 a1 w w.heap.size (Nat.le_refl _)
  have hbw : Below w.heap.size w (w.alloc (.cells (adC a0 ++ adC a1).toArray 30)) := (Below.refl _ _).alloc (Nat.le_refl _) _
  have hst := Lib.hid (show CuI [a0, a1] [] by rw [ha0, ha1]; exact CuI.start)
  clear ha0 ha1
  clear hS hS' hR hR' hQ hZ
  go_enter Tryz.func32, Tryz.ntmps32
  go_wp2_with fail
  generalize World.alloc w _ = w1 at *
  go_loopw [3, 15] (fun v3 v15 wr => ∃ (k : Nat) (os : List Ad), k ≤ 2 ∧ v15 = .int .i64 k ∧ Hid (CuI os (Z k)) ∧ OwnE eAd 30 w.heap.size wr v3 os ∧ Below w.heap.size w wr) (fun _ v15 _ => 2 - (intOf v15).toNat)
  case atStart => exact ⟨0, _, by omega, rfl, Lib.hid (by rw [hZ0.out]; exact hst.out), hown, hbw⟩
  case round =>
    clear hown hbw
    obtain ⟨k, os, hk, rfl, hI, hown, hbw⟩ := hrel
    by_cases hlt : k < 2
    · obtain ⟨A, n, cap, zs, hW, hn5, hnl, hR, hz, hzk⟩ := HL.out k hlt
      have hcell := (hW wr hbw).1
      have hlt' : (k : Int) < 2 := by omega
      replace hW := Lib.hid (fun W hw => (hW W hw).2)
      replace hz := Lib.hid hz
      replace hR := Lib.hid hR
      replace hnl := Lib.hid hnl
      go_wp2_with fail
      go_loopw [3, 21] (fun v3 v21 wr => ∃ (j : Nat) (os : List Ad), j ≤ n ∧ v21 = .int .i64 j ∧ Hid (CuI os (Z k ++ zs.take j)) ∧ OwnE eAd 30 w.heap.size wr v3 os ∧ Below w.heap.size w wr) (fun _ v21 _ => n - (intOf v21).toNat)
      case atStart => exact ⟨0, os, by omega, rfl, Lib.hid (by rw [List.take_zero, List.append_nil]; exact hI.out), hown, hbw⟩
      case round =>
        clear hown hbw hI hcell
        obtain ⟨j, os, hj, rfl, hI, hown, hbw⟩ := hrel
        by_cases hjn : j < n
        · obtain ⟨x, hx⟩ : ∃ x, zs[j]? = some x := ⟨zs[j]'(by have := hnl.out; omega), List.getElem?_eq_getElem _⟩
          obtain ⟨g0, off, rfl, _, _⟩ := (hW.out wr hbw).at' hjn
          have hld := SlE.ld rowRg (hW.out wr hbw) hx
          replace hld : (ldT 95 (.pointer (some ⟨g0, off + j * 6, none⟩))).run Tryz.prog wr = .ok (.value (rgA x)) wr := hld
          have hxR := hR.out x (List.mem_of_getElem? hx)
          have hjn' : (j : Int) < n := by omega
          have hsw := hbw.size
          have S1 := stT_new rowRg (te := 95) wr wr.heap.size rfl [.bool false, .int .u64 0, .int .u64 0, .bool false, .int .u64 0, .int .u64 0] (rgC x) rfl rfl (rgC_one x)
          have hC := Blk.new wr (rgC x) 95
          have hne := own_new hown
          replace hown := hown.alloc' (.cells (rgC x).toArray 95)
          replace hbw := hbw.alloc hsw (.cells (rgC x).toArray 95)
          have HN := fun w' => Lib.hid (nextA_any x.2 w' hxR.2.1)
          obtain ⟨z, ok, hnv, hok1, hok2⟩ := nextV_full hxR.2.1
          rw [hnv] at HN
          have htk : Hid (zs.take (j + 1) = zs.take j ++ [x]) := Lib.hid (by rw [List.take_add_one, hx]; rfl)
          have hosl := Lib.hid (show os.length ≤ 20010 by
            have h1 := hI.out.len
            rw [List.length_append, List.length_take] at h1
            have h2 := hzk
            omega)
          have hone := fun (e : ok = false) => Lib.hid (show CuI (os ++ [x.1]) (Z k ++ zs.take (j + 1)) by rw [htk.out, ← List.append_assoc]; exact hI.out.one hxR (hok2 e))
          have htwo := fun (e : ok = true) => Lib.hid (show CuI (os ++ [x.1, z]) (Z k ++ zs.take (j + 1)) by
            have h := hI.out.two hxR (hok1 e).1 (hok1 e).2.2
            rw [htk.out, ← List.append_assoc]
            rw [List.append_assoc os] at h
            exact h)
          replace hx := Lib.hid hx
          replace hxR := Lib.hid hxR
          clear hI hnv hok1 hok2 htk
          have k1 := hC.ldAt rowAd 0 (adC x.1) (adC x.2) rfl rfl
          have hsC := hbw.size
          go_wp2_with (at_builtin; refine wpList_app tyeAd rfl _ _ rfl w.heap.size _ _ [x.1] rfl (hown.alloc' _) ⟨_, 0, none⟩ 1 1 rfl rfl ?c1 ?c2 ?c3 ?_)
          case c1 => exact cell_row_at _ _ _ _ (by simp)
          case c2 => have := hosl.out; simp only [List.length_singleton]; omega
          case c3 => first | omega | (simp; done) | (simp; omega)
          intro v4 x4 hown4 hg4 _
          have hb4 : Below w.heap.size w x4 := (hbw.alloc hsC _).grown hg4 (by first | omega | (simp; done) | (simp; omega)) (fun k h => (hown.lt k h).1)
          replace hC := (Blk.below hC ((Below.refl _ _).alloc (Nat.le_refl _) _)).gbo hg4 hne
          clear hg4 hown hbw hne k1 S1 hld
          have k2 := hC.ldAt rowAd 3 (adC x.2) [] rfl rfl
          go_wp2_with fail
          refine (HN _).out.mono ?_
          rintro e w5 ⟨rfl, hv5⟩
          replace hown4 := hown4.below hv5
          have hb5 := hb4.trans (hv5.mono hb4.size)
          have hs5 := hb5.size
          have S2 := stT_new rowAd (te := 30) w5 w5.heap.size rfl [.bool false, .int .u64 0, .int .u64 0] (adC z) rfl rfl (adC_one z)
          have hD := Blk.new w5 (adC z) 30
          replace hown4 := hown4.alloc' (.cells (adC z).toArray 30)
          replace hb5 := hb5.alloc hs5 (.cells (adC z).toArray 30)
          clear hb4 hv5 hC k2 HN
          cases ok with
          | false =>
            have hI2 := hone rfl
            clear hone htwo hD
            go_wp2_with fail
            go_roundw
            case rel => exact ⟨j + 1, _, by omega, by go_num, hI2, hown4, hb5⟩
            case measure => simp [intOf]; omega
          | true =>
            have hI2 := htwo rfl
            have k3 := hD.ld rowAd rfl
            have hs6 := hb5.size
            clear hone htwo
            go_wp2_with (at_builtin; refine wpList_app tyeAd rfl _ _ rfl w.heap.size _ _ [z] rfl (hown4.alloc' _) ⟨_, 0, none⟩ 1 1 rfl rfl ?d1 ?d2 ?d3 ?_)
            case d1 => exact cell_row_at _ _ _ _ (by simp)
            case d2 => have := hosl.out; simp only [List.length_singleton, List.length_append]; omega
            case d3 => first | omega | (simp; done) | (simp; omega)
            intro v6 x6 hown6 hg6 _
            have hb6 : Below w.heap.size w x6 := (hb5.alloc hs6 _).grown hg6 (by first | omega | (simp; done) | (simp; omega)) (fun k h => (hown4.lt k h).1)
            clear hg6 hown4 hb5 hD k3 S2
            go_wp2_with fail
            go_roundw
            case rel => exact ⟨j + 1, _, by omega, by go_num, hI2, hown6, hb6⟩
            case measure => simp [intOf]; omega
        · have hjn2 : j = n := by omega
          have hI2 : Hid (CuI os (Z (k + 1))) := Lib.hid (by
            rw [hz.out]
            have h := hI.out
            rwa [hjn2, hnl.out, List.take_length] at h)
          clear hI hjn2
          go_wp2_with fail
          go_roundw
          case rel => exact ⟨k + 1, os, by omega, by go_num, hI2, hown, hbw⟩
          case measure => simp [intOf]; omega
    · have hk2 : k = 2 := by omega
      subst hk2
      have hI2 := Lib.hid (show CuI os (xs ++ ys) by rw [← hZ2.out]; exact hI.out)
      have hosl := Lib.hid (show os.length ≤ 20010 by have := hI2.out.len; rw [hlen.out] at this; omega)
      have hos0 : os ≠ [] := by
        rintro rfl
        obtain ⟨a, ha, _⟩ := hI2.out.base false
        cases ha
      have hs1 := hbw.size
      have HS := Lib.hid (sortAd_any w.heap.size _ os wr hown (fun a ha => (hI2.out.right a ha).1) hos0 hs1 (by have := hosl.out; omega))
      obtain ⟨g1, cap1, rfl, _, _, _, _, _⟩ := hown.form hos0
      obtain ⟨L, hL⟩ : ∃ L, L = os.length := ⟨_, rfl⟩
      rw [← hL] at HS ⊢
      clear hown hI hos0
      replace hL := Lib.hid hL
      go_wp2_with fail
      refine HS.out.mono ?_
      rintro e w2 ⟨rfl, qs, hp, hsort, hown, hb2⟩
      have hbw2 := hbw.trans hb2
      have hs2 := hbw2.size
      have hql : L = qs.length := by rw [hL.out]; exact hp.length_eq.symm
      have hL2 : 2 ≤ L := by
        rw [hL.out]
        obtain ⟨a, ha, ea⟩ := hI2.out.base false
        obtain ⟨b, hb, eb⟩ := hI2.out.base true
        rcases os with _ | ⟨u, _ | ⟨u', r⟩⟩
        · cases ha
        · have h1 := List.mem_singleton.1 ha
          have h2 := List.mem_singleton.1 hb
          rw [h1] at ea
          rw [h2, ea, s2n_true, s2n_false] at eb
          omega
        · simp
      have HC := Lib.hid (compact_any w.heap.size g1 L cap1 qs w2 hown hql hL2 (by have := hosl.out; have := hL.out; omega) hs2 hsort (fun a ha => (hI2.out.right a (hp.mem_iff.1 ha)).1))
      replace hp := Lib.hid hp
      replace hql := Lib.hid hql
      clear HS hown hsort hbw hb2 hs1
      go_wp2_with fail
      refine HC.out.mono ?_
      rintro e w3 ⟨cap3, cs, rfl, hS3, hc3, hl3, hb3⟩
      have hfin := Lib.hid (hI2.out.done hp.out hql.out hc3)
      have hb4 := hbw2.trans hb3
      have hlc : Hid (cs.length ≤ 2 + 2 * (n + n')) := Lib.hid (by
        have h1 := hI2.out.len
        have h2 := hL.out
        have h3 := hlen.out
        omega)
      generalize hm : cs.length = m at *
      replace hm := Lib.hid hm
      clear HC hb3
      go_wp2_with fail
      go_ret
      exact ⟨g1, cap3, cs, by rw [hm.out]; rfl, by rw [hm.out]; exact hS3, hfin.out.1, hfin.out.2.1, hfin.out.2.2, by rw [hm.out]; exact hlc.out, hb4⟩
end Go.Proofs.YtfpcalgkfagjkaaGreatDoor
