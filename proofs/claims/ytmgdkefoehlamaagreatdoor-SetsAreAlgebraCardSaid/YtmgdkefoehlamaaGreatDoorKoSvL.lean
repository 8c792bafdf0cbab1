/- Sets: two lists are combined. -/
import Derived.Test.YtmgdkefoehlamaaGreatDoorKoGzA
import Derived.Test.YtmgdkefoehlamaaGreatDoorKoSvH
import Derived.Test.YtmgdkefoehlamaaGreatDoorKoSgC
import Derived.Laws.EntriesVeiled
set_option linter.unusedVariables false
set_option linter.unusedSimpArgs false
set_option maxRecDepth 100000
namespace Go.Proofs.YtmgdkefoehlamaaGreatDoor
open Go.RowKit

def bs2T (t : TypeId) (x y : Value) : Sem Next := do
  let v ← Instr.buildSlice t 2 #[(0, x), (1, y)]
  pure (.value v)
@[go_sem ↓ high] theorem execOp_bs2Ad (ρ : Operand → Value) (dst : Option Tmp) (x y : Operand) (ty : TypeId) (pos : String) (after : Array Edge) (guard : Option (Nat × Bool)) : execOp ρ ⟨dst, .buildSlice 76 2 #[(0, x), (1, y)], ty, pos, after, guard⟩ = bs2T 76 (ρ x) (ρ y) := by
  simp only [execOp, bs2T, List.map_toArray, List.map_cons, List.map_nil]
@[go_sem high] theorem execOp_bs2Ad' (ρ : Operand → Value) (dst : Option Tmp) (x y : Operand) (ty : TypeId) (pos : String) (after : Array Edge) (guard : Option (Nat × Bool)) : execOp ρ ⟨dst, .buildSlice 76 2 #[(0, x), (1, y)], ty, pos, after, guard⟩ = bs2T 76 (ρ x) (ρ y) := by
  simp only [execOp, bs2T, List.map_toArray, List.map_cons, List.map_nil]
@[go_sem] theorem run_bs2Ad (a b : Ad) (w : World) : (bs2T 76 (.agg (adC a).toArray) (.agg (adC b).toArray)).run Tryz.prog w = .ok (.value (.slice (some ⟨w.heap.size, 0, none⟩) 2 2)) (w.alloc (.cells (adC a ++ adC b).toArray 38)) := by
  obtain ⟨i0, hi0, hz0, hz1, hz2⟩ := info_parts infoAd
  unfold bs2T
  simp only [Sem.run_bind, run_buildSlice (P := Tryz.prog) w 76 38 2 #[(0, .agg (adC a).toArray), (1, .agg (adC b).toArray)] (adC a ++ adC b).toArray i0 zAd Tryz.underlying76 hi0 hz0 (by rw [hz1]; decide) (by rw [hz1]; decide) (by rw [hz1]; kernel_rfl), Result.andThen_ok, Sem.run_pure]

structure CuI (os : List Ad) (Z : List (Ad × Ad)) : Prop where
  right : ∀ a ∈ os, a.R
  base : ∀ s : Bool, ∃ a ∈ os, a.n = s2n s
  cuts : ∀ x ∈ Z, (∃ c ∈ os, c.n = x.1.n) ∧ (x.2.n ≠ topN x.2.s → ∃ c ∈ os, c.n = x.2.n + 1)
  len : os.length ≤ 2 + 2 * Z.length
theorem first_R (s : Bool) : Ad.R ⟨s, 0, 0⟩ ∧ Ad.n ⟨s, 0, 0⟩ = s2n s := ⟨(allP_R s).1, (allP_n s).1⟩
theorem CuI.start : CuI [⟨false, 0, 0⟩, ⟨true, 0, 0⟩] [] where
  right := fun a ha => by
    simp only [List.mem_cons, List.not_mem_nil, or_false] at ha
    rcases ha with rfl | rfl
    · exact (first_R false).1
    · exact (first_R true).1
  base := fun s => ⟨⟨s, 0, 0⟩, by cases s <;> simp, (first_R s).2⟩
  cuts := fun x hx => by cases hx
  len := Nat.le_refl _
theorem CuI.one {os : List Ad} {Z : List (Ad × Ad)} (h : CuI os Z) {x : Ad × Ad} (hx : RgR x) (ht : x.2.n = topN x.2.s) : CuI (os ++ [x.1]) (Z ++ [x]) where
  right := fun a ha => by
    rcases List.mem_append.1 ha with ha | ha
    · exact h.right a ha
    · rw [List.mem_singleton.1 ha]; exact hx.1
  base := fun s => by obtain ⟨a, ha, e⟩ := h.base s; exact ⟨a, List.mem_append_left _ ha, e⟩
  cuts := fun y hy => by
    rcases List.mem_append.1 hy with hy | hy
    · obtain ⟨⟨c, hc, e⟩, h2⟩ := h.cuts y hy
      exact ⟨⟨c, List.mem_append_left _ hc, e⟩, fun hn => by obtain ⟨d, hd, e⟩ := h2 hn; exact ⟨d, List.mem_append_left _ hd, e⟩⟩
    · rw [List.mem_singleton.1 hy]
      exact ⟨⟨x.1, List.mem_append_right _ (List.mem_singleton.2 rfl), rfl⟩, fun hn => absurd ht hn⟩
  len := by have := h.len; rw [List.length_append, List.length_append]; simp; omega
theorem CuI.two {os : List Ad} {Z : List (Ad × Ad)} (h : CuI os Z) {x : Ad × Ad} (hx : RgR x) {z : Ad} (hz : z.R) (he : z.n = x.2.n + 1) : CuI (os ++ [x.1] ++ [z]) (Z ++ [x]) where
  right := fun a ha => by
    rcases List.mem_append.1 ha with ha | ha
    · rcases List.mem_append.1 ha with ha | ha
      · exact h.right a ha
      · rw [List.mem_singleton.1 ha]; exact hx.1
    · rw [List.mem_singleton.1 ha]; exact hz
  base := fun s => by obtain ⟨a, ha, e⟩ := h.base s; exact ⟨a, List.mem_append_left _ (List.mem_append_left _ ha), e⟩
  cuts := fun y hy => by
    rcases List.mem_append.1 hy with hy | hy
    · obtain ⟨⟨c, hc, e⟩, h2⟩ := h.cuts y hy
      exact ⟨⟨c, List.mem_append_left _ (List.mem_append_left _ hc), e⟩, fun hn => by obtain ⟨d, hd, e⟩ := h2 hn; exact ⟨d, List.mem_append_left _ (List.mem_append_left _ hd), e⟩⟩
    · rw [List.mem_singleton.1 hy]
      exact ⟨⟨x.1, List.mem_append_left _ (List.mem_append_right _ (List.mem_singleton.2 rfl)), rfl⟩, fun _ => ⟨z, List.mem_append_right _ (List.mem_singleton.2 rfl), he⟩⟩
  len := by have := h.len; rw [List.length_append, List.length_append, List.length_append]; simp; omega
theorem CuI.done {os qs zs : List Ad} {Z : List (Ad × Ad)} (h : CuI os Z) (hp : qs.Perm os) {n : Nat} (hn : n = qs.length) (hc : CpI qs n zs) : Cut zs ∧ (∀ x ∈ Z, ∃ c ∈ zs, c.n = x.1.n) ∧ (∀ x ∈ Z, x.2.n ≠ topN x.2.s → ∃ c ∈ zs, c.n = x.2.n + 1) := by
  have hm : ∀ a, a ∈ zs ↔ a ∈ os := fun a => by rw [hc.2, hn, List.take_length]; exact hp.mem_iff
  refine ⟨⟨hc.1, fun a ha => h.right a ((hm a).1 ha), fun s => ?_⟩, fun x hx => ?_, fun x hx hne => ?_⟩
  · obtain ⟨a, ha, e⟩ := h.base s; exact ⟨a, (hm a).2 ha, e⟩
  · obtain ⟨c, h1, e⟩ := (h.cuts x hx).1; exact ⟨c, (hm c).2 h1, e⟩
  · obtain ⟨c, h1, e⟩ := (h.cuts x hx).2 hne; exact ⟨c, (hm c).2 h1, e⟩
theorem own_new {α : Type} {E : Enc α} {t : TypeId} {B : Nat} {w : World} {v : Value} {xs : List α} (h : OwnE E t B w v xs) : v.ownBlock ≠ some w.heap.size := fun e => by have := (h.lt _ e).2; omega
theorem own_two (a b : Ad) (w : World) (B : Nat) (hB : B ≤ w.heap.size) : OwnE eAd 38 B (w.alloc (.cells (adC a ++ adC b).toArray 38)) (.slice (some ⟨w.heap.size, 0, none⟩) 2 2) [a, b] :=
  ⟨rfl, .inr ⟨w.heap.size, 2, (adC a ++ adC b).toArray, rfl, hB, heap_alloc_new w _, Nat.le_refl _, by decide, rfl, rfl⟩⟩

set_option maxHeartbeats 4000000 in
theorem cuts_any (q : Nat) (A A' : Option Addr) (n cap n' cap' : Nat) (xs ys : List (Ad × Ad)) (w : World) (hQ : Blk w q [.slice A n cap, .slice A' n' cap'] 49) (hS : SlE eRg w A n cap xs) (hS' : SlE eRg w A' n' cap' ys) (hn : n ≤ 5000) (hn' : n' ≤ 5000) (hR : ∀ x ∈ xs, RgR x) (hR' : ∀ x ∈ ys, RgR x) :
    Calls Tryz.prog 156 #[.slice (some ⟨q, 0, none⟩) 2 2] w fun e w' => ∃ g cap cs, e = .returned (.slice (some ⟨g, 0, none⟩) cs.length cap) ∧ SlE eAd w' (some ⟨g, 0, none⟩) cs.length cap cs ∧ Cut cs ∧ (∀ x ∈ xs ++ ys, ∃ c ∈ cs, c.n = x.1.n) ∧ (∀ x ∈ xs ++ ys, x.2.n ≠ topN x.2.s → ∃ c ∈ cs, c.n = x.2.n + 1) ∧ cs.length ≤ 2 + 2 * (n + n') ∧ Below w.heap.size w w' := by
  have hql := hQ.lt
  obtain ⟨Z, hZ⟩ : ∃ Z : Nat → List (Ad × Ad), Z = fun k => if k = 0 then [] else if k = 1 then xs else xs ++ ys := ⟨_, rfl⟩
  have HL : ∀ k, k < 2 → ∃ A n cap zs, (∀ W, Below w.heap.size w W → W.cell? ⟨q, k, none⟩ = some (.slice A n cap) ∧ SlE eRg W A n cap zs) ∧ n ≤ 5000 ∧ n = zs.length ∧ (∀ x ∈ zs, RgR x) ∧ Z (k + 1) = Z k ++ zs ∧ (Z k).length ≤ 5000 := by
    intro k hk
    rcases Nat.lt_or_ge k 1 with h | h
    · have e : k = 0 := by omega
      subst e
      exact ⟨A, n, cap, xs, fun W hW => ⟨(hQ.below hW).cell rfl, hS.below hW⟩, hn, hS.1, hR, by rw [hZ]; rfl, by rw [hZ]; exact Nat.zero_le _⟩
    · have e : k = 1 := by omega
      subst e
      exact ⟨A', n', cap', ys, fun W hW => ⟨(hQ.below hW).cell rfl, hS'.below hW⟩, hn', hS'.1, hR', by rw [hZ]; rfl, by rw [hZ]; show xs.length ≤ 5000; rw [← hS.1]; exact hn⟩
  have hZ0 := Lib.hid (show Z 0 = [] by rw [hZ]; rfl)
  have hZ2 := Lib.hid (show Z 2 = xs ++ ys by rw [hZ]; rfl)
  have hlen := Lib.hid (show (xs ++ ys).length = n + n' by rw [List.length_append, hS.1, hS'.1])
  replace HL := Lib.hid HL
  obtain ⟨a0, ha0⟩ : ∃ a : Ad, a = ⟨false, 0, 0⟩ := ⟨_, rfl⟩
  obtain ⟨a1, ha1⟩ : ∃ a : Ad, a = ⟨true, 0, 0⟩ := ⟨_, rfl⟩
  have BB : ∀ w', (bs2T 76 (.agg #[.bool false, .int .u64 0, .int .u64 0]) (.agg #[.bool true, .int .u64 0, .int .u64 0])).run Tryz.prog w' = .ok (.value (.slice (some ⟨w'.heap.size, 0, none⟩) 2 2)) (w'.alloc (.cells (adC a0 ++ adC a1).toArray 38)) := fun w' => by rw [ha0, ha1]; exact run_bs2Ad ⟨false, 0, 0⟩ ⟨true, 0, 0⟩ w'
  have hown := own_two a0 a1 w w.heap.size (Nat.le_refl _)
  have hbw : Below w.heap.size w (w.alloc (.cells (adC a0 ++ adC a1).toArray 38)) := (Below.refl _ _).alloc (Nat.le_refl _) _
  have hst := Lib.hid (show CuI [a0, a1] [] by rw [ha0, ha1]; exact CuI.start)
  clear ha0 ha1
  clear hS hS' hR hR' hQ hZ
  go_enter Tryz.func156, Tryz.ntmps156
  go_wp2_with fail
  generalize World.alloc w _ = w1 at *
  go_loopw [3, 15] (fun v3 v15 wr => ∃ (k : Nat) (os : List Ad), k ≤ 2 ∧ v15 = .int .i64 k ∧ Hid (CuI os (Z k)) ∧ OwnE eAd 38 w.heap.size wr v3 os ∧ Below w.heap.size w wr) (fun _ v15 _ => 2 - (intOf v15).toNat)
  case atStart => exact ⟨0, _, by omega, rfl, Lib.hid (by rw [hZ0.out]; exact hst.out), hown, hbw⟩
  case round =>
    clear hown hbw
    obtain ⟨k, os, hk, rfl, hI, hown, hbw⟩ := hrel
    by_cases hlt : k < 2
    · obtain ⟨A, n, cap, zs, hW, hn5, hnl, hR, hz, hzk⟩ := HL.out k hlt
      have hcell := (hW wr hbw).1
      have hlt' : (k : Int) < 2 := by omega
      replace hW := Lib.hid (fun W hw => (hW W hw).2)
      replace hz := Lib.hid hz
      replace hR := Lib.hid hR
      replace hnl := Lib.hid hnl
      go_wp2_with fail
      go_loopw [3, 21] (fun v3 v21 wr => ∃ (j : Nat) (os : List Ad), j ≤ n ∧ v21 = .int .i64 j ∧ Hid (CuI os (Z k ++ zs.take j)) ∧ OwnE eAd 38 w.heap.size wr v3 os ∧ Below w.heap.size w wr) (fun _ v21 _ => n - (intOf v21).toNat)
      case atStart => exact ⟨0, os, by omega, rfl, Lib.hid (by rw [List.take_zero, List.append_nil]; exact hI.out), hown, hbw⟩
      case round =>
        clear hown hbw hI hcell
        obtain ⟨j, os, hj, rfl, hI, hown, hbw⟩ := hrel
        by_cases hjn : j < n
        · obtain ⟨x, hx⟩ : ∃ x, zs[j]? = some x := ⟨zs[j]'(by have := hnl.out; omega), List.getElem?_eq_getElem _⟩
          obtain ⟨g0, off, rfl, _, _⟩ := (hW.out wr hbw).at' hjn
          have hld := SlE.ld rowRg (hW.out wr hbw) hx
          replace hld : (ldT 53 (.pointer (some ⟨g0, off + j * 6, none⟩))).run Tryz.prog wr = .ok (.value (rgA x)) wr := hld
          have hxR := hR.out x (List.mem_of_getElem? hx)
          have hjn' : (j : Int) < n := by omega
          have hsw := hbw.size
          have S1 := stT_new rowRg (te := 53) wr wr.heap.size rfl [.bool false, .int .u64 0, .int .u64 0, .bool false, .int .u64 0, .int .u64 0] (rgC x) rfl rfl (rgC_one x)
          have hC := Blk.new wr (rgC x) 53
          have hne := own_new hown
          replace hown := hown.alloc' (.cells (rgC x).toArray 53)
          replace hbw := hbw.alloc hsw (.cells (rgC x).toArray 53)
          have HN := fun w' => Lib.hid (nextA_any x.2 w' hxR.2.1)
          obtain ⟨z, ok, hnv, hok1, hok2⟩ := nextV_full hxR.2.1
          rw [hnv] at HN
          have htk : Hid (zs.take (j + 1) = zs.take j ++ [x]) := Lib.hid (by rw [List.take_add_one, hx]; rfl)
          have hosl := Lib.hid (show os.length ≤ 20010 by
            have h1 := hI.out.len
            rw [List.length_append, List.length_take] at h1
            have h2 := hzk
            omega)
          have hone := fun (e : ok = false) => Lib.hid (show CuI (os ++ [x.1]) (Z k ++ zs.take (j + 1)) by rw [htk.out, ← List.append_assoc]; exact hI.out.one hxR (hok2 e))
          have htwo := fun (e : ok = true) => Lib.hid (show CuI (os ++ [x.1, z]) (Z k ++ zs.take (j + 1)) by
            have h := hI.out.two hxR (hok1 e).1 (hok1 e).2.2
            rw [htk.out, ← List.append_assoc]
            rw [List.append_assoc os] at h
            exact h)
          replace hx := Lib.hid hx
          replace hxR := Lib.hid hxR
          clear hI hnv hok1 hok2 htk
          have k1 := hC.ldAt rowAd 0 (adC x.1) (adC x.2) rfl rfl
          have hsC := hbw.size
          go_wp2_with (at_builtin; refine wpList_app tyeAd rfl _ _ rfl w.heap.size _ _ [x.1] rfl (hown.alloc' _) ⟨_, 0, none⟩ 1 1 rfl rfl ?c1 ?c2 ?c3 ?_)
          case c1 => exact cell_row_at _ _ _ _ (by simp)
          case c2 => have := hosl.out; simp only [List.length_singleton]; omega
          case c3 => first | omega | (simp; done) | (simp; omega)
          intro v4 x4 hown4 hg4 _
          have hb4 : Below w.heap.size w x4 := (hbw.alloc hsC _).grown hg4 (by first | omega | (simp; done) | (simp; omega)) (fun k h => (hown.lt k h).1)
          replace hC := (Blk.below hC ((Below.refl _ _).alloc (Nat.le_refl _) _)).gbo hg4 hne
          clear hg4 hown hbw hne k1 S1 hld
          have k2 := hC.ldAt rowAd 3 (adC x.2) [] rfl rfl
          go_wp2_with fail
          refine (HN _).out.mono ?_
          rintro e w5 ⟨rfl, hv5⟩
          replace hown4 := hown4.below hv5
          have hb5 := hb4.trans (hv5.mono hb4.size)
          have hs5 := hb5.size
          have S2 := stT_new rowAd (te := 38) w5 w5.heap.size rfl [.bool false, .int .u64 0, .int .u64 0] (adC z) rfl rfl (adC_one z)
          have hD := Blk.new w5 (adC z) 38
          replace hown4 := hown4.alloc' (.cells (adC z).toArray 38)
          replace hb5 := hb5.alloc hs5 (.cells (adC z).toArray 38)
          clear hb4 hv5 hC k2 HN
          cases ok with
          | false =>
            have hI2 := hone rfl
            clear hone htwo hD
            go_wp2_with fail
            go_roundw
            case rel => exact ⟨j + 1, _, by omega, by go_num, hI2, hown4, hb5⟩
            case measure => simp [intOf]; omega
          | true =>
            have hI2 := htwo rfl
            have k3 := hD.ld rowAd rfl
            have hs6 := hb5.size
            clear hone htwo
            go_wp2_with (at_builtin; refine wpList_app tyeAd rfl _ _ rfl w.heap.size _ _ [z] rfl (hown4.alloc' _) ⟨_, 0, none⟩ 1 1 rfl rfl ?d1 ?d2 ?d3 ?_)
            case d1 => exact cell_row_at _ _ _ _ (by simp)
            case d2 => have := hosl.out; simp only [List.length_singleton, List.length_append]; omega
            case d3 => first | omega | (simp; done) | (simp; omega)
            intro v6 x6 hown6 hg6 _
            have hb6 : Below w.heap.size w x6 := (hb5.alloc hs6 _).grown hg6 (by first | omega | (simp; done) | (simp; omega)) (fun k h => (hown4.lt k h).1)
            clear hg6 hown4 hb5 hD k3 S2
            go_wp2_with fail
            go_roundw
            case rel => exact ⟨j + 1, _, by omega, by go_num, hI2, hown6, hb6⟩
            case measure => simp [intOf]; omega
        · have hjn2 : j = n := by omega
          have hI2 : Hid (CuI os (Z (k + 1))) := Lib.hid (by
            rw [hz.out]
            have h := hI.out
            rwa [hjn2, hnl.out, List.take_length] at h)
          clear hI hjn2
          go_wp2_with fail
          go_roundw
          case rel => exact ⟨k + 1, os, by omega, by go_num, hI2, hown, hbw⟩
          case measure => simp [intOf]; omega
    · have hk2 : k = 2 := by omega
      subst hk2
      have hI2 := Lib.hid (show CuI os (xs ++ ys) by rw [← hZ2.out]; exact hI.out)
      have hosl := Lib.hid (show os.length ≤ 20010 by have := hI2.out.len; rw [hlen.out] at this; omega)
      have hos0 : os ≠ [] := by
        rintro rfl
        obtain ⟨a, ha, _⟩ := hI2.out.base false
        cases ha
      have hs1 := hbw.size
      have HS := Lib.hid (sortAd_any w.heap.size _ os wr hown (fun a ha => (hI2.out.right a ha).1) hos0 hs1 (by have := hosl.out; omega))
      obtain ⟨g1, cap1, rfl, _, _, _, _, _⟩ := hown.form hos0
      obtain ⟨L, hL⟩ : ∃ L, L = os.length := ⟨_, rfl⟩
      rw [← hL] at HS ⊢
      clear hown hI hos0
      replace hL := Lib.hid hL
      go_wp2_with fail
      refine HS.out.mono ?_
      rintro e w2 ⟨rfl, qs, hp, hsort, hown, hb2⟩
      have hbw2 := hbw.trans hb2
      have hs2 := hbw2.size
      have hql : L = qs.length := by rw [hL.out]; exact hp.length_eq.symm
      have hL2 : 2 ≤ L := by
        rw [hL.out]
        obtain ⟨a, ha, ea⟩ := hI2.out.base false
        obtain ⟨b, hb, eb⟩ := hI2.out.base true
        rcases os with _ | ⟨u, _ | ⟨u', r⟩⟩
        · cases ha
        · have h1 := List.mem_singleton.1 ha
          have h2 := List.mem_singleton.1 hb
          rw [h1] at ea
          rw [h2, ea, s2n_true, s2n_false] at eb
          omega
        · simp
      have HC := Lib.hid (compact_any w.heap.size g1 L cap1 qs w2 hown hql hL2 (by have := hosl.out; have := hL.out; omega) hs2 hsort (fun a ha => (hI2.out.right a (hp.mem_iff.1 ha)).1))
      replace hp := Lib.hid hp
      replace hql := Lib.hid hql
      clear HS hown hsort hbw hb2 hs1
      go_wp2_with fail
      refine HC.out.mono ?_
      rintro e w3 ⟨cap3, cs, rfl, hS3, hc3, hl3, hb3⟩
      have hfin := Lib.hid (hI2.out.done hp.out hql.out hc3)
      have hb4 := hbw2.trans hb3
      have hlc : Hid (cs.length ≤ 2 + 2 * (n + n')) := Lib.hid (by
        have h1 := hI2.out.len
        have h2 := hL.out
        have h3 := hlen.out
        omega)
      generalize hm : cs.length = m at *
      replace hm := Lib.hid hm
      clear HC hb3
      go_wp2_with fail
      go_ret
      exact ⟨g1, cap3, cs, by rw [hm.out]; rfl, by rw [hm.out]; exact hS3, hfin.out.1, hfin.out.2.1, hfin.out.2.2, by rw [hm.out]; exact hlc.out, hb4⟩

abbrev cmF (pk pa pb : Nat) : Value := .func (.func 157) #[] #[.pointer (some ⟨pk, 0, none⟩), .pointer (some ⟨pa, 0, none⟩), .pointer (some ⟨pb, 0, none⟩)]

set_option maxHeartbeats 4000000 in
theorem where_any (A : Option Addr) (n cap : Nat) (cs : List Ad) (w : World) (pk pa pb : Nat) (h : Nat → Bool) (hS : SlE eAd w A n cap cs) (hc : Cut cs) (hn : n ≤ 20010)
    (HF : ∀ (a : Ad) W, a.R → Below w.heap.size w W → Calls Tryz.prog 157 #[adA a, .pointer (some ⟨pk, 0, none⟩), .pointer (some ⟨pa, 0, none⟩), .pointer (some ⟨pb, 0, none⟩)] W (GivesV (.bool (h a.n)) W))
    (hsame : ∀ i a m, cs[i]? = some a → a.n ≤ m → m ≤ lastC cs i a → h m = h a.n) :
    Calls Tryz.prog 155 #[.slice A n cap, cmF pk pa pb] w fun e w' => ∃ zs, Tells zs (fun m => Val m ∧ h m = true) ∧ zs.length ≤ n ∧ GivesL eRg w.heap.size zs e w' ∧ Below w.heap.size w w' := by
  have hnl := Lib.hid hS.1
  replace hS := Lib.hid hS
  replace hc := Lib.hid hc
  replace HF := Lib.hid HF
  replace hsame := Lib.hid hsame
  go_enter Tryz.func155, Tryz.ntmps155
  go_wp2_with fail
  go_loopw [5, 11] (fun v5 v11 wr => ∃ (k : Nat), k ≤ n ∧ v11 = .int .i64 k ∧ OwnE eRg 53 w.heap.size wr v5 (whL cs h k) ∧ Below w.heap.size w wr) (fun _ v11 _ => n - (intOf v11).toNat)
  case atStart => exact ⟨0, by omega, rfl, OwnE.nil _ _, Below.refl _ _⟩
  case round =>
    obtain ⟨k, hk, rfl, hown, hbw⟩ := hrel
    by_cases hlt : k < n
    · obtain ⟨a, ha⟩ : ∃ x, cs[k]? = some x := ⟨cs[k]'(by have := hnl.out; omega), List.getElem?_eq_getElem _⟩
      obtain ⟨g0, off, rfl, hg0, hc0⟩ := hS.out.at' hlt
      have hld := SlE.ld rowAd (hS.out.below hbw) ha
      replace hld : (ldT 38 (.pointer (some ⟨g0, off + k * 3, none⟩))).run Tryz.prog wr = .ok (.value (adA a)) wr := hld
      have haR := hc.out.right a (List.mem_of_getElem? ha)
      have hlt' : (k : Int) < n := by omega
      have hsw := hbw.size
      have S1 := stT_new rowAd (te := 38) wr wr.heap.size rfl [.bool false, .int .u64 0, .int .u64 0] (adC a) rfl rfl (adC_one a)
      have hC := Blk.new wr (adC a) 38
      have hwl := Lib.hid (show (whL cs h k).length ≤ 20010 by have := whL_len cs h k; omega)
      replace hown := hown.alloc' (.cells (adC a).toArray 38)
      replace hbw := hbw.alloc hsw (.cells (adC a).toArray 38)
      have k1 := hC.ld rowAd rfl
      have HFa := Lib.hid (fun W hW => HF.out a W haR hW)
      have hyes := fun (e : h a.n = true) => Lib.hid (show whL cs h (k + 1) = whL cs h k ++ [(a, adOf (lastC cs k a))] by
        show (match cs[k]? with | some a => if h a.n then whL cs h k ++ [(a, adOf (lastC cs k a))] else whL cs h k | none => whL cs h k) = _
        rw [ha]
        exact if_pos e)
      have hno := fun (e : h a.n = false) => Lib.hid (show whL cs h (k + 1) = whL cs h k by
        show (match cs[k]? with | some a => if h a.n then whL cs h k ++ [(a, adOf (lastC cs k a))] else whL cs h k | none => whL cs h k) = _
        rw [ha]
        exact if_neg (by rw [e]; decide))
      have HW := fun w' => Lib.hid (whole_any a.s w')
      have hla : (∀ b, cs[k + 1]? = some b → (b.s = a.s → lastC cs k a = b.n - 1) ∧ (b.s ≠ a.s → lastC cs k a = topN a.s)) ∧ (cs[k + 1]? = none → lastC cs k a = topN a.s) := by
        unfold lastC
        refine ⟨fun b hb => ?_, fun hb => by rw [hb]⟩
        rw [hb]
        exact ⟨fun e => if_pos e, fun e => if_neg e⟩
      have hbn : ∀ b, cs[k + 1]? = some b → b.s = a.s → b.n ≠ s2n b.s := by
        intro b hb e
        have h1 := cut_lt hc.out.sorted ha hb (Nat.lt_succ_self k)
        have h2 := (ad_fam haR).1
        rw [e]
        omega
      replace hla := Lib.hid hla
      replace hbn := Lib.hid hbn
      replace hc0 := Lib.hid hc0
      replace ha := Lib.hid ha
      replace haR := Lib.hid haR
      go_wp2_with fail
      refine (HFa.out _ hbw).mono ?_
      rintro e w1 ⟨rfl, hv1⟩
      replace hC := hC.below hv1
      replace hown := hown.below hv1
      replace hbw := hbw.trans (hv1.mono hbw.size)
      clear hv1 k1 S1 HFa hld
      cases hv : h a.n with
      | false =>
        have hw1 := hno hv
        rw [← hw1.out] at hown
        clear hyes hno hv
        go_wp2_with fail
        go_roundw
        case rel => exact ⟨k + 1, by omega, by go_num, hown, hbw⟩
        case measure => simp [intOf]; omega
      | true =>
        have hw1 := hyes hv
        clear hyes hno hv
        have q1 := hC.cell (i := 0) (v := .bool a.s) rfl
        go_wp2_with fail
        refine (HW _).out.mono ?_
        rintro e w2 ⟨rfl, hv2⟩
        replace hC := hC.below hv2
        replace hown := hown.below hv2
        replace hbw := hbw.trans (hv2.mono hbw.size)
        clear hv2 q1 HW
        obtain ⟨T, hT⟩ : ∃ T, T = adOf (topN a.s) := ⟨_, rfl⟩
        rw [← hT]
        have hsw2 := hbw.size
        have S2 := stT_new rowAd (te := 38) w2 w2.heap.size rfl [.bool false, .int .u64 0, .int .u64 0] (adC T) rfl rfl (adC_one T)
        have hL := Blk.new w2 (adC T) 38
        have hneL := own_new hown
        have hneC : w2.heap.size ≠ wr.heap.size := by have := hC.lt; omega
        replace hC := Blk.below hC ((Below.refl _ _).alloc (Nat.le_refl _) (.cells (adC T).toArray 38))
        replace hown := hown.alloc' (.cells (adC T).toArray 38)
        replace hbw := hbw.alloc hsw2 (.cells (adC T).toArray 38)
        replace hT := Lib.hid hT
        by_cases hk1 : k + 1 < n
        · have hk1' : (k : Int) + 1 < n := by omega
          have q00 : (0 : Int) ≤ (k : Int) + 1 := by omega
          have q0 : IntKind.i64.wrap ((k : Int) + 1) = (k : Int) + 1 := IntWalk.i64_in _ (by omega)
          obtain ⟨b, hb⟩ : ∃ x, cs[k + 1]? = some x := ⟨cs[k + 1]'(by have := hnl.out; omega), List.getElem?_eq_getElem _⟩
          have CB : ∀ W, Below w.heap.size w W → W.cell? ⟨g0, off + (k + 1) * 3, none⟩ = some (.bool b.s) := fun W hW => by
            have := (hS.out.below hW).2.2.2
            rcases this with e | ⟨g', off', hA, _, hcc⟩
            · omega
            · cases hA; exact hcc (k + 1) b hb 0 _ rfl
          have hla1 := Lib.hid (hla.out.1 b hb)
          have hbn1 := Lib.hid (hbn.out b hb)
          have hbR := Lib.hid (hc.out.right b (List.mem_of_getElem? hb))
          have hldb : ∀ W, Below w.heap.size w W → (ldT 38 (.pointer (some ⟨g0, off + (k + 1) * 3, none⟩))).run Tryz.prog W = .ok (.value (adA b)) W := fun W hW => SlE.ld rowAd (hS.out.below hW) hb
          replace hb := Lib.hid hb
          go_upto_region 7 with fail
          refine wx_begin (none) [] (by kernel_rfl) (fun u0 hb0' hz0' => ?_)
          replace hC := hC.below hb0'
          replace hL := hL.below hb0'
          replace hown := hown.below hb0'
          replace hbw := hbw.trans (hb0'.mono hbw.size)
          clear hb0' hz0'
          refine wx_pureZ 0 (some 24) (v := ?_) ?_ ?_; rotate_left; · (intro u; go_simp; try with_reducible rfl)
          try simp only [Act.put, gzD, gzE, gzF]
          refine wx_pureZ 1 (some 25) (v := ?_) ?_ ?_; rotate_left; · (intro u; go_simp; try with_reducible rfl)
          try simp only [Act.put, gzD, gzE, gzF]
          refine wx_pureZ 2 (some 26) (v := ?_) ?_ ?_; rotate_left; · (intro u; go_simp; try with_reducible rfl)
          try simp only [Act.put, gzD, gzE, gzF]
          refine wx_pureZ 3 (some 27) (v := ?_) ?_ ?_; rotate_left; · (intro u; go_simp; try with_reducible rfl)
          try simp only [Act.put, gzD, gzE, gzF]
          refine wx_pureZ 4 (some 28) (v := ?_) ?_ ?_; rotate_left; · (intro u; go_simp; try with_reducible rfl)
          try simp only [Act.put, gzD, gzE, gzF]
          refine wx_pureZ 5 (some 29) (v := ?_) ?_ ?_; rotate_left; · (intro u; go_simp; try with_reducible rfl)
          try simp only [Act.put, gzD, gzE, gzF]
          refine wx_pureZ 6 (some 30) (v := ?_) ?_ ?_; rotate_left; · (intro u; go_simp; try with_reducible rfl)
          try simp only [Act.put, gzD, gzE, gzF]
          refine wx_pureZ 7 (some 31) (v := ?_) ?_ ?_; rotate_left; · (intro u; go_simp; try with_reducible rfl)
          try simp only [Act.put, gzD, gzE, gzF]
          refine wx_pureZ 8 (some 32) (v := ?_) ?_ ?_; rotate_left; · (intro u; go_simp; try with_reducible rfl)
          try simp only [Act.put, gzD, gzE, gzF]
          refine wx_pureZ 9 (some 33) (v := ?_) ?_ ?_; rotate_left; · (intro u; go_simp; try with_reducible rfl)
          try simp only [Act.put, gzD, gzE, gzF]
          refine wx_pureZ 10 (some 34) (v := ?_) ?_ ?_; rotate_left; · (intro u; go_simp; try with_reducible rfl)
          try simp only [Act.put, gzD, gzE, gzF]
          refine wx_takeZ 11 (some 35) (v := ?_) ?_ ?_; rotate_left; · (intro u hu; have q1 := (hC.gn hu).cell (i := 0) (v := .bool a.s) rfl; have q2 := CB _ (hbw.grown hu hbw.size (fun _ h => by cases h)); go_simp; try with_reducible rfl)
          try simp only [Act.put, gzD, gzE, gzF]
          refine wx_pureZ 12 (some 36) (v := ?_) ?_ ?_; rotate_left; · (intro u; go_simp; try with_reducible rfl)
          try simp only [Act.put, gzD, gzE, gzF]
          refine wx_takeZ 13 (some 37) (v := ?_) ?_ ?_; rotate_left; · (intro u hu; have q1 := (hC.gn hu).cell (i := 0) (v := .bool a.s) rfl; have q2 := CB _ (hbw.grown hu hbw.size (fun _ h => by cases h)); go_simp; try with_reducible rfl)
          try simp only [Act.put, gzD, gzE, gzF]
          refine wx_pureZ 14 (some 38) (v := ?_) ?_ ?_; rotate_left; · (intro u; go_simp; try with_reducible rfl)
          try simp only [Act.put, gzD, gzE, gzF]
          refine wx_pureZ 15 (some 39) (v := ?_) ?_ ?_; rotate_left; · (intro u; go_simp; try with_reducible rfl)
          try simp only [Act.put, gzD, gzE, gzF]
          refine wx_done (by kernel_rfl) ?_ _
          skip
          by_cases hbs : b.s = a.s
          · have HB := fun w' => Lib.hid (before_any b w' hbR.out (hbn1.out hbs))
            have e1 : (b.s == a.s) = true := by rw [hbs]; exact beq_self_eq_true _
            have e2 := Lib.hid (hla1.out.1 hbs)
            rw [e1]
            have k2 := hldb _ hbw
            clear e1 hbs hla1 hbn1
            go_wp2_with fail
            refine (HB _).out.mono ?_
            rintro e w3 ⟨rfl, hv3⟩
            replace hC := hC.below hv3
            replace hL := hL.below hv3
            replace hown := hown.below hv3
            replace hbw := hbw.trans (hv3.mono hbw.size)
            rw [← e2.out]
            have hz8 := hbw.size
            clear hv3 HB k2
            have S3 := stT_row rowAd hL rfl (adC_len (adOf (lastC cs k a))) (adC_one _)
            have hL3 := hL.row (adC (adOf (lastC cs k a)))
            have hC3 := gbo_setRow hC hL hneC (adC (adOf (lastC cs k a))).toArray
            have hown3 := own_setRow hown hL hneL (adC (adOf (lastC cs k a))).toArray
            have hbw3 := below_row hbw hsw2 (adC (adOf (lastC cs k a))).toArray
            clear hL hC hown hbw
            have hC := hC3; have hown := hown3; have hbw := hbw3
            clear hC3 hown3 hbw3
            have k3 := hC.ld rowAd rfl
            have k4 := hL3.ld rowAd rfl
            have hz9 := hbw.size
            go_wp2_with (at_builtin; refine wpList_app tyeRg rfl _ _ rfl w.heap.size _ _ [(a, adOf (lastC cs k a))] rfl (hown.alloc' _) ⟨_, 0, none⟩ 1 1 rfl rfl ?c1 ?c2 ?c3 ?_)
            case c1 => exact cell_row_at _ _ _ _ (by simp)
            case c2 => have := hwl.out; simp only [List.length_singleton]; omega
            case c3 => first | omega | (simp; done) | (simp; omega)
            intro v4 x4 hown4 hg4 _
            have hb4 : Below w.heap.size w x4 := (hbw.alloc hz9 _).grown hg4 (by first | omega | (simp; done) | (simp; omega)) (fun k h => (hown.lt k h).1)
            clear hg4 hown hbw
            rw [← hw1.out] at hown4
            go_wp2_with fail
            go_roundw
            case rel => exact ⟨k + 1, by omega, by go_num, hown4, hb4⟩
            case measure => simp [intOf]; omega

          · have e1 : (b.s == a.s) = false := by simp [hbs]
            have e2 := Lib.hid (hla1.out.2 hbs)
            rw [e1]
            have k3 := hC.ld rowAd rfl
            have k4 : (ldT 38 (.pointer (some ⟨w2.heap.size, 0, none⟩))).run Tryz.prog u0 = .ok (.value (adA (adOf (lastC cs k a)))) u0 := by rw [e2.out, ← hT.out]; exact hL.ld rowAd rfl
            clear e1 hbs hla1 hbn1
            have hz9 := hbw.size
            go_wp2_with (at_builtin; refine wpList_app tyeRg rfl _ _ rfl w.heap.size _ _ [(a, adOf (lastC cs k a))] rfl (hown.alloc' _) ⟨_, 0, none⟩ 1 1 rfl rfl ?d1 ?d2 ?d3 ?_)
            case d1 => exact cell_row_at _ _ _ _ (by simp)
            case d2 => have := hwl.out; simp only [List.length_singleton]; omega
            case d3 => first | omega | (simp; done) | (simp; omega)
            intro v4 x4 hown4 hg4 _
            have hb4 : Below w.heap.size w x4 := (hbw.alloc hz9 _).grown hg4 (by first | omega | (simp; done) | (simp; omega)) (fun k h => (hown.lt k h).1)
            clear hg4 hown hbw
            rw [← hw1.out] at hown4
            go_wp2_with fail
            go_roundw
            case rel => exact ⟨k + 1, by omega, by go_num, hown4, hb4⟩
            case measure => simp [intOf]; omega

        · have hk1' : ¬ (k : Int) + 1 < n := by omega
          have d0 : decide ((k : Int) + 1 < n) = false := decide_eq_false hk1'
          have q0 : IntKind.i64.wrap ((k : Int) + 1) = (k : Int) + 1 := IntWalk.i64_in _ (by omega)
          have e2 := Lib.hid (hla.out.2 (List.getElem?_eq_none_iff.2 (by have := hnl.out; omega)))
          have CB : ∀ W : World, Below w.heap.size w W → True := fun _ _ => trivial
          go_upto_region 7 with fail
          refine wx_begin (none) [] (by kernel_rfl) (fun u0 hb0' hz0' => ?_)
          replace hC := hC.below hb0'
          replace hL := hL.below hb0'
          replace hown := hown.below hb0'
          replace hbw := hbw.trans (hb0'.mono hbw.size)
          clear hb0' hz0'
          refine wx_pureZ 0 (some 24) (v := ?_) ?_ ?_; rotate_left; · (intro u; go_simp; try with_reducible rfl)
          try simp only [Act.put, gzD, gzE, gzF]
          refine wx_pureZ 1 (some 25) (v := ?_) ?_ ?_; rotate_left; · (intro u; go_simp; try with_reducible rfl)
          try simp only [Act.put, gzD, gzE, gzF]
          refine wx_pureZ 2 (some 26) (v := ?_) ?_ ?_; rotate_left; · (intro u; go_simp; try with_reducible rfl)
          try simp only [Act.put, gzD, gzE, gzF]
          refine wx_pureZ 3 (some 27) (v := ?_) ?_ ?_; rotate_left; · (intro u; go_simp; try with_reducible rfl)
          try simp only [Act.put, gzD, gzE, gzF]
          refine wx_pureZ 4 (some 28) (v := ?_) ?_ ?_; rotate_left; · (intro u; go_simp; try with_reducible rfl)
          try simp only [Act.put, gzD, gzE, gzF]
          refine wx_pureZ 5 (some 29) (v := ?_) ?_ ?_; rotate_left; · (intro u; go_simp; try with_reducible rfl)
          try simp only [Act.put, gzD, gzE, gzF]
          refine wx_skipZ 6 (some 30) ?_
          try simp only [Act.put, gzD, gzE, gzF]
          refine wx_skipZ 7 (some 31) ?_
          try simp only [Act.put, gzD, gzE, gzF]
          refine wx_skipZ 8 (some 32) ?_
          try simp only [Act.put, gzD, gzE, gzF]
          refine wx_skipZ 9 (some 33) ?_
          try simp only [Act.put, gzD, gzE, gzF]
          refine wx_skipZ 10 (some 34) ?_
          try simp only [Act.put, gzD, gzE, gzF]
          refine wx_skipZ 11 (some 35) ?_
          try simp only [Act.put, gzD, gzE, gzF]
          refine wx_skipZ 12 (some 36) ?_
          try simp only [Act.put, gzD, gzE, gzF]
          refine wx_skipZ 13 (some 37) ?_
          try simp only [Act.put, gzD, gzE, gzF]
          refine wx_skipZ 14 (some 38) ?_
          try simp only [Act.put, gzD, gzE, gzF]
          refine wx_pureZ 15 (some 39) (v := ?_) ?_ ?_; rotate_left; · (intro u; go_simp; try with_reducible rfl)
          try simp only [Act.put, gzD, gzE, gzF]
          refine wx_done (by kernel_rfl) ?_ _
          skip
          have k3 := hC.ld rowAd rfl
          have k4 : (ldT 38 (.pointer (some ⟨w2.heap.size, 0, none⟩))).run Tryz.prog u0 = .ok (.value (adA (adOf (lastC cs k a)))) u0 := by rw [e2.out, ← hT.out]; exact hL.ld rowAd rfl
          have hz9 := hbw.size
          go_wp2_with (at_builtin; refine wpList_app tyeRg rfl _ _ rfl w.heap.size _ _ [(a, adOf (lastC cs k a))] rfl (hown.alloc' _) ⟨_, 0, none⟩ 1 1 rfl rfl ?e1 ?e2 ?e3 ?_)
          case e1 => exact cell_row_at _ _ _ _ (by simp)
          case e2 => have := hwl.out; simp only [List.length_singleton]; omega
          case e3 => first | omega | (simp; done) | (simp; omega)
          intro v4 x4 hown4 hg4 _
          have hb4 : Below w.heap.size w x4 := (hbw.alloc hz9 _).grown hg4 (by first | omega | (simp; done) | (simp; omega)) (fun k h => (hown.lt k h).1)
          clear hg4 hown hbw
          rw [← hw1.out] at hown4
          go_wp2_with fail
          go_roundw
          case rel => exact ⟨k + 1, by omega, by go_num, hown4, hb4⟩
          case measure => simp [intOf]; omega

    · have hkn : k = n := by omega
      have hall := Lib.hid (whL_in hc.out h hsame.out)
      have hRR := Lib.hid (whL_R hc.out h k)
      have hlen := Lib.hid (whL_len cs h k)
      obtain ⟨A2, cap2, rfl, hSl⟩ := hown.sl
      have HJ := Lib.hid (joinRg_any A2 _ cap2 (whL cs h k) wr hSl (by have := hlen.out; omega) hRR.out)
      have hin : Hid (∀ m, InA (whL cs h k) m ↔ Val m ∧ h m = true) := Lib.hid (by rw [hkn, hnl.out]; exact hall.out)
      clear hown hSl hkn hall
      generalize whL cs h k = Wl at *
      generalize hWn : Wl.length = Wn at *
      replace hWn := Lib.hid hWn
      go_wp2_with fail
      refine HJ.out.mono ?_
      rintro e w2 ⟨zs, hj, hl, ⟨A3, cap3, rfl, hS3, hA3⟩, hb3⟩
      have hfin := Lib.hid (show Tells zs (fun m => Val m ∧ h m = true) from hj.tells.iff hin.out)
      have hbs := hbw.size
      replace hbw := hbw.trans (hb3.mono hbs)
      have hln : Hid (zs.length ≤ n) := Lib.hid (by have := hlen.out; omega)
      replace hS3 := Lib.hid hS3
      replace hA3 := Lib.hid hA3
      generalize hm : zs.length = m at *
      replace hm := Lib.hid hm
      clear HJ hb3 hj
      go_wp2_with fail
      go_ret
      exact ⟨zs, hfin.out, by rw [hm.out]; exact hln.out, ⟨A3, cap3, by rw [hm.out]; rfl, by rw [hm.out]; exact hS3.out, fun g off e => ⟨Nat.le_trans hbs (hA3.out g off e).1, (hA3.out g off e).2⟩⟩, hbw⟩

abbrev kpV (kf : Nat) : Value := .func (.func kf) #[] #[]
structure Kp (kf : Nat) (k : Bool → Bool → Bool) : Prop where
  run : ∀ p q W, Calls Tryz.prog kf #[.bool p, .bool q] W (GivesV (.bool (k p q)) W)
  enter : ∀ args w, (callFunc kf args).run Tryz.prog w = .ok (.enter kf args) w

set_option maxHeartbeats 4000000 in
theorem comb1_any (a : Ad) (ha : a.R) (pk pa pb kf : Nat) (k : Bool → Bool → Bool) (A A' : Option Addr) (n cap n' cap' : Nat) (xs ys : List (Ad × Ad)) (w : World)
    (h1 : Blk w pk [kpV kf] 59) (h2 : Blk w pa [.slice A n cap] 49) (h3 : Blk w pb [.slice A' n' cap'] 49) (HKp : Kp kf k)
    (hS : SlE eRg w A n cap xs) (hS' : SlE eRg w A' n' cap' ys) (hn : n ≤ 100000) (hn' : n' ≤ 100000) (hR : ∀ x ∈ xs, RgR x) (hR' : ∀ x ∈ ys, RgR x) (hp : xs.Pairwise (fun x y => x.2.n + 1 < y.1.n)) (hp' : ys.Pairwise (fun x y => x.2.n + 1 < y.1.n)) :
    Calls Tryz.prog 157 #[adA a, .pointer (some ⟨pk, 0, none⟩), .pointer (some ⟨pa, 0, none⟩), .pointer (some ⟨pb, 0, none⟩)] w (GivesV (.bool (k (hasB xs a.n) (hasB ys a.n))) w) := by
  have HA := fun W hW => has_any A n cap xs W (hS.below hW) hn hR hp a ha.1
  have HB := fun W hW => has_any A' n' cap' ys W (hS'.below hW) hn' hR' hp' a ha.1
  obtain ⟨p, hpp⟩ : ∃ p, p = hasB xs a.n := ⟨_, rfl⟩
  obtain ⟨q, hqq⟩ : ∃ q, q = hasB ys a.n := ⟨_, rfl⟩
  rw [← hpp] at HA ⊢
  rw [← hqq] at HB ⊢
  clear hpp hqq hS hS' hR hR' hp hp' ha
  have HK := HKp.run
  have eg := HKp.enter
  have hC := Blk.new w (adC a) 38
  have hbw : Below w.heap.size w (w.alloc (.cells (adC a).toArray 38)) := (Below.refl _ _).alloc (Nat.le_refl _) _
  replace h1 := Blk.below h1 hbw
  replace h2 := Blk.below h2 hbw
  replace h3 := Blk.below h3 hbw
  clear HKp
  replace HA : ∀ W, Below w.heap.size w W → Calls Tryz.prog 158 #[.slice A n cap, adA a] W (GivesV (.bool p) W) := HA
  replace HB : ∀ W, Below w.heap.size w W → Calls Tryz.prog 158 #[.slice A' n' cap', adA a] W (GivesV (.bool q) W) := HB
  go_enter Tryz.func157, Tryz.ntmps157
  go_upto_region 1 with fail
  generalize w.alloc (.cells (adC a).toArray 38) = w0 at *
  refine wx_begin (none) [] (by kernel_rfl) (fun u0 hb0' hz0' => ?_)
  replace hC := hC.below hb0'
  replace h1 := h1.below hb0'
  replace h2 := h2.below hb0'
  replace h3 := h3.below hb0'
  replace hbw := hbw.trans (hb0'.mono hbw.size)
  clear hb0' hz0'
  refine wx_takeZ 0 (some 6) (v := ?_) ?_ ?_; rotate_left; · (intro u hu; have k1 := (hC.gn hu).ld rowAd rfl; have q1 := (h1.gn hu).cell (i := 0) rfl; have q2 := (h2.gn hu).cell (i := 0) rfl; have q3 := (h3.gn hu).cell (i := 0) rfl; go_simp; try with_reducible rfl)
  try simp only [Act.put, gzD, gzE, gzF]
  refine wx_takeZ 1 (some 7) (v := ?_) ?_ ?_; rotate_left; · (intro u hu; have k1 := (hC.gn hu).ld rowAd rfl; have q1 := (h1.gn hu).cell (i := 0) rfl; have q2 := (h2.gn hu).cell (i := 0) rfl; have q3 := (h3.gn hu).cell (i := 0) rfl; go_simp; try with_reducible rfl)
  try simp only [Act.put, gzD, gzE, gzF]
  refine wx_takeZ 2 (some 8) (v := ?_) ?_ ?_; rotate_left; · (intro u hu; have k1 := (hC.gn hu).ld rowAd rfl; have q1 := (h1.gn hu).cell (i := 0) rfl; have q2 := (h2.gn hu).cell (i := 0) rfl; have q3 := (h3.gn hu).cell (i := 0) rfl; go_simp; try with_reducible rfl)
  try simp only [Act.put, gzD, gzE, gzF]
  refine wx_takeZ 4 (some 10) (v := ?_) ?_ ?_; rotate_left; · (intro u hu; have k1 := (hC.gn hu).ld rowAd rfl; have q1 := (h1.gn hu).cell (i := 0) rfl; have q2 := (h2.gn hu).cell (i := 0) rfl; have q3 := (h3.gn hu).cell (i := 0) rfl; go_simp; try with_reducible rfl)
  try simp only [Act.put, gzD, gzE, gzF]
  refine wx_takeZ 5 (some 11) (v := ?_) ?_ ?_; rotate_left; · (intro u hu; have k1 := (hC.gn hu).ld rowAd rfl; have q1 := (h1.gn hu).cell (i := 0) rfl; have q2 := (h2.gn hu).cell (i := 0) rfl; have q3 := (h3.gn hu).cell (i := 0) rfl; go_simp; try with_reducible rfl)
  try simp only [Act.put, gzD, gzE, gzF]
  refine wx_oneZ 3 (fun K hK => ?_)
  go_simp
  refine (HA _ hbw).mono ?_
  rintro e u1 ⟨rfl, hv1⟩
  refine hK _ _ (gbB hv1) ?_
  replace hC := hC.below hv1
  replace h1 := h1.below hv1
  replace h2 := h2.below hv1
  replace h3 := h3.below hv1
  replace hbw := hbw.trans (hv1.mono hbw.size)
  clear hK K hv1
  try simp only [Act.put, gzD, gzE, gzF]
  refine wx_oneZ 6 (fun K hK => ?_)
  go_simp
  refine (HB _ hbw).mono ?_
  rintro e u2 ⟨rfl, hv1⟩
  refine hK _ _ (gbB hv1) ?_
  replace hC := hC.below hv1
  replace h1 := h1.below hv1
  replace h2 := h2.below hv1
  replace h3 := h3.below hv1
  replace hbw := hbw.trans (hv1.mono hbw.size)
  clear hK K hv1
  try simp only [Act.put, gzD, gzE, gzF]
  refine wx_oneZ 7 (fun K hK => ?_)
  go_simp
  refine (HK _ _ _).mono ?_
  rintro e u3 ⟨rfl, hv1⟩
  refine hK _ _ (gbB hv1) ?_
  replace hC := hC.below hv1
  replace h1 := h1.below hv1
  replace h2 := h2.below hv1
  replace h3 := h3.below hv1
  replace hbw := hbw.trans (hv1.mono hbw.size)
  clear hK K hv1
  try simp only [Act.put, gzD, gzE, gzF]
  refine wx_pureZ 8 (some 5) (v := ?_) ?_ ?_; rotate_left; · (intro u; go_simp; try with_reducible rfl)
  try simp only [Act.put, gzD, gzE, gzF]
  refine wx_done (by kernel_rfl) ?_ _
  skip
  go_wp2_with fail
  go_ret
  exact ⟨rfl, hbw⟩

set_option maxHeartbeats 4000000 in
theorem combineS_any (kf : Nat) (k : Bool → Bool → Bool) (HKp : Kp kf k) (A A' : Option Addr) (n cap n' cap' : Nat) (xs ys : List (Ad × Ad)) (w : World)
    (hS : SlE eRg w A n cap xs) (hS' : SlE eRg w A' n' cap' ys) (hn : n ≤ 5000) (hn' : n' ≤ 5000) (hR : ∀ x ∈ xs, RgR x) (hR' : ∀ x ∈ ys, RgR x) (hp : xs.Pairwise (fun x y => x.2.n + 1 < y.1.n)) (hp' : ys.Pairwise (fun x y => x.2.n + 1 < y.1.n)) :
    Calls Tryz.prog 84 #[.slice A n cap, .slice A' n' cap', kpV kf] w fun e w' => ∃ zs, Tells zs (fun m => Val m ∧ k (hasB xs m) (hasB ys m) = true) ∧ zs.length ≤ 2 + 2 * (n + n') ∧ GivesL eRg w.heap.size zs e w' ∧ Below w.heap.size w w' := by
  have HC := Lib.hid (fun W (hW : Below w.heap.size w W) q (hQ : Blk W q [.slice A n cap, .slice A' n' cap'] 49) => cuts_any q A A' n cap n' cap' xs ys W hQ (hS.below hW) (hS'.below hW) hn hn' hR hR')
  have HO := Lib.hid (fun pk pa pb (a : Ad) W (ha : a.R) (hW : Below w.heap.size w W) h1 h2 h3 => comb1_any a ha pk pa pb kf k A A' n cap n' cap' xs ys W h1 h2 h3 HKp (hS.below hW) (hS'.below hW) (by omega) (by omega) hR hR' hp hp')
  have HW := Lib.hid (fun pk pa pb A2 m cap2 cs W (hSc : SlE eAd W A2 m cap2 cs) (hc : Cut cs) (hm : m ≤ 20010) (c1 : ∀ x ∈ xs ++ ys, ∃ c ∈ cs, c.n = x.1.n) (c2 : ∀ x ∈ xs ++ ys, x.2.n ≠ topN x.2.s → ∃ c ∈ cs, c.n = x.2.n + 1) HF => where_any A2 m cap2 cs W pk pa pb (fun m => k (hasB xs m) (hasB ys m)) hSc hc hm HF (fun i a m hi h1 h2 => by
    show k (hasB xs m) (hasB ys m) = k (hasB xs a.n) (hasB ys a.n)
    rw [cut_same hc hR (fun x hx => c1 x (List.mem_append_left _ hx)) (fun x hx => c2 x (List.mem_append_left _ hx)) hi h1 h2, cut_same hc hR' (fun x hx => c1 x (List.mem_append_right _ hx)) (fun x hx => c2 x (List.mem_append_right _ hx)) hi h1 h2]))
  clear hS hS' hR hR' hp hp' HKp
  have g1 := Blk.new w [.slice A n cap] 49
  have b1 : Below w.heap.size w (w.alloc (.cells [Value.slice A n cap].toArray 49)) := (Below.refl _ _).alloc (Nat.le_refl _) _
  generalize hw1 : w.alloc (.cells [Value.slice A n cap].toArray 49) = w1 at *
  have z1 : w1.heap.size = w.heap.size + 1 := by rw [← hw1]; simp
  have g2 := Blk.new w1 [.slice A' n' cap'] 49
  have b2 := b1.alloc b1.size (.cells [Value.slice A' n' cap'].toArray 49)
  replace g1 := Blk.below g1 ((Below.refl _ _).alloc (Nat.le_refl _) (.cells [Value.slice A' n' cap'].toArray 49))
  generalize hw2 : w1.alloc (.cells [Value.slice A' n' cap'].toArray 49) = w2 at *
  have z2 : w2.heap.size = w.heap.size + 2 := by rw [← hw2]; simp; omega
  have g3 := Blk.new w2 [kpV kf] 59
  have b3 := b2.alloc b2.size (.cells [kpV kf].toArray 59)
  replace g1 := Blk.below g1 ((Below.refl _ _).alloc (Nat.le_refl _) (.cells [kpV kf].toArray 59))
  replace g2 := Blk.below g2 ((Below.refl _ _).alloc (Nat.le_refl _) (.cells [kpV kf].toArray 59))
  rw [z1] at g2
  rw [z2] at g3
  rw [← hw2, ← hw1] at g1 g2 g3 b3
  clear b1 b2 z1 z2 hw1 hw2
  go_enter Tryz.func84, Tryz.ntmps84
  go_upto_region 1 with fail
  generalize ((w.alloc (.cells #[Value.slice A n cap] 49)).alloc (.cells #[Value.slice A' n' cap'] 49)).alloc (.cells #[kpV kf] 59) = W3 at *
  have q1 := g1.cell (i := 0) rfl
  have q2 := g2.cell (i := 0) rfl
  have hz3 := b3.size
  have hQ := Blk.new W3 [.slice A n cap, .slice A' n' cap'] 49
  have b4 := b3.alloc hz3 (.cells [Value.slice A n cap, Value.slice A' n' cap'].toArray 49)
  replace g1 := Blk.below g1 ((Below.refl _ _).alloc (Nat.le_refl _) (.cells [Value.slice A n cap, Value.slice A' n' cap'].toArray 49))
  replace g2 := Blk.below g2 ((Below.refl _ _).alloc (Nat.le_refl _) (.cells [Value.slice A n cap, Value.slice A' n' cap'].toArray 49))
  replace g3 := Blk.below g3 ((Below.refl _ _).alloc (Nat.le_refl _) (.cells [Value.slice A n cap, Value.slice A' n' cap'].toArray 49))
  have HC1 := Lib.hid (HC.out _ b4 _ hQ)
  clear hQ HC
  go_wp2_with fail
  refine HC1.out.mono ?_
  rintro e w5 ⟨g, cap5, cs, rfl, hSc, hcut, c1, c2, hlc, hv5⟩
  have b5 := b4.trans (hv5.mono b4.size)
  replace g1 := Blk.below g1 hv5
  replace g2 := Blk.below g2 hv5
  replace g3 := Blk.below g3 hv5
  have HW1 := Lib.hid (HW.out (w.heap.size + 2) w.heap.size (w.heap.size + 1) _ _ cap5 cs w5 hSc hcut (by omega) c1 c2 (fun a W ha hW => HO.out _ _ _ a W ha (b5.trans (hW.mono b5.size)) (Blk.below g3 hW) (Blk.below g1 hW) (Blk.below g2 hW)))
  clear HC1 HW HO hSc hcut c1 c2 hv5 q1 q2 g1 g2 g3
  generalize cs.length = m at *
  go_wp2_with fail
  refine HW1.out.mono ?_
  rintro e w6 ⟨zs, hz, hlz, ⟨A6, cap6, rfl, hS6, hA6⟩, hv6⟩
  have b6 := b5.trans (hv6.mono b5.size)
  have hz5 := b5.size
  replace hz := Lib.hid hz
  replace hS6 := Lib.hid hS6
  replace hA6 := Lib.hid hA6
  have hl2 := Lib.hid (show zs.length ≤ 2 + 2 * (n + n') by omega)
  clear hlz HW1
  generalize hm : zs.length = m2 at *
  replace hm := Lib.hid hm
  go_wp2_with fail
  go_ret
  exact ⟨zs, hz.out, by rw [hm.out]; exact hl2.out, ⟨A6, cap6, by rw [hm.out]; rfl, by rw [hm.out]; exact hS6.out, fun g off e => ⟨Nat.le_trans hz5 (hA6.out g off e).1, (hA6.out g off e).2⟩⟩, b6⟩
end Go.Proofs.YtmgdkefoehlamaaGreatDoor
