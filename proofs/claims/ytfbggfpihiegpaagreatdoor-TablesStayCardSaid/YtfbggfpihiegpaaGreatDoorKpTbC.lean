/- Tables: how the program compares prefixes. -/
import Derived.Test.YtfbggfpihiegpaaGreatDoorKpGzA
import Derived.Test.YtfbggfpihiegpaaGreatDoorKpSvH
import Derived.Test.YtfbggfpihiegpaaGreatDoorKpSuD
import Derived.Laws.EntriesVeiled
import Derived.Test.YtfbggfpihiegpaaGreatDoorKpSvG
import Derived.Test.YtfbggfpihiegpaaGreatDoorKpWaysB
import Derived.Lib.AppendZerosOnto
import Derived.Laws.AppendOwnNone
import Derived.Test.YtfbggfpihiegpaaGreatDoorKpTxtJ
import Derived.Test.YtfbggfpihiegpaaGreatDoorKpTbQ
import Derived.Test.YtfbggfpihiegpaaGreatDoorKpRvC
set_option linter.unusedVariables false
set_option linter.unusedSimpArgs false
set_option maxRecDepth 100000
namespace Go.Proofs.YtfbggfpihiegpaaGreatDoor
open Go.RowKit

def bs2T (t : TypeId) (x y : Value) : Sem Next := do
  let v ← Instr.buildSlice t 2 #[(0, x), (1, y)]
  pure (.value v)
@[go_sem ↓ high] theorem execOp_bs2Ad (ρ : Operand → Value) (dst : Option Tmp) (x y : Operand) (ty : TypeId) (pos : String) (after : Array Edge) (guard : Option (Nat × Bool)) : execOp ρ ⟨dst, .buildSlice 61 2 #[(0, x), (1, y)], ty, pos, after, guard⟩ = bs2T 61 (ρ x) (ρ y) := by
  simp only [execOp, bs2T, List.map_toArray, List.map_cons, List.map_nil]
@[go_sem high] theorem execOp_bs2Ad' (ρ : Operand → Value) (dst : Option Tmp) (x y : Operand) (ty : TypeId) (pos : String) (after : Array Edge) (guard : Option (Nat × Bool)) : execOp ρ ⟨dst, .buildSlice 61 2 #[(0, x), (1, y)], ty, pos, after, guard⟩ = bs2T 61 (ρ x) (ρ y) := by
  simp only [execOp, bs2T, List.map_toArray, List.map_cons, List.map_nil]
@[go_sem] theorem run_bs2Ad (a b : Ad) (w : World) : (bs2T 61 (.agg (adC a).toArray) (.agg (adC b).toArray)).run Tryz.prog w = .ok (.value (.slice (some ⟨w.heap.size, 0, none⟩) 2 2)) (w.alloc (.cells (adC a ++ adC b).toArray 30)) := by
  obtain ⟨i0, hi0, hz0, hz1, hz2⟩ := info_parts infoAd
  unfold bs2T
  simp only [Sem.run_bind, run_buildSlice (P := Tryz.prog) w 61 30 2 #[(0, .agg (adC a).toArray), (1, .agg (adC b).toArray)] (adC a ++ adC b).toArray i0 zAd Tryz.underlying61 hi0 hz0 (by rw [hz1]; decide) (by rw [hz1]; decide) (by rw [hz1]; kernel_rfl), Result.andThen_ok, Sem.run_pure]

structure CuI (os : List Ad) (Z : List (Ad × Ad)) : Prop where
  right : ∀ a ∈ os, a.R
  base : ∀ s : Bool, ∃ a ∈ os, a.n = s2n s
  cuts : ∀ x ∈ Z, (∃ c ∈ os, c.n = x.1.n) ∧ (x.2.n ≠ topN x.2.s → ∃ c ∈ os, c.n = x.2.n + 1)
  len : os.length ≤ 2 + 2 * Z.length
theorem first_R (s : Bool) : Ad.R ⟨s, 0, 0⟩ ∧ Ad.n ⟨s, 0, 0⟩ = s2n s := ⟨(allP_R s).1, (allP_n s).1⟩
theorem CuI.start : CuI [⟨false, 0, 0⟩, ⟨true, 0, 0⟩] [] where
  right := fun a ha => by
    simp only [List.mem_cons, List.not_mem_nil, or_false] at ha
    rcases ha with rfl | rfl
    · exact (first_R false).1
    · exact (first_R true).1
  base := fun s => ⟨⟨s, 0, 0⟩, by cases s <;> simp, (first_R s).2⟩
  cuts := fun x hx => by cases hx
  len := Nat.le_refl _
theorem CuI.one {os : List Ad} {Z : List (Ad × Ad)} (h : CuI os Z) {x : Ad × Ad} (hx : RgR x) (ht : x.2.n = topN x.2.s) : CuI (os ++ [x.1]) (Z ++ [x]) where
  right := fun a ha => by
    rcases List.mem_append.1 ha with ha | ha
    · exact h.right a ha
    · rw [List.mem_singleton.1 ha]; exact hx.1
  base := fun s => by obtain ⟨a, ha, e⟩ := h.base s; exact ⟨a, List.mem_append_left _ ha, e⟩
  cuts := fun y hy => by
    rcases List.mem_append.1 hy with hy | hy
    · obtain ⟨⟨c, hc, e⟩, h2⟩ := h.cuts y hy
      exact ⟨⟨c, List.mem_append_left _ hc, e⟩, fun hn => by obtain ⟨d, hd, e⟩ := h2 hn; exact ⟨d, List.mem_append_left _ hd, e⟩⟩
    · rw [List.mem_singleton.1 hy]
      exact ⟨⟨x.1, List.mem_append_right _ (List.mem_singleton.2 rfl), rfl⟩, fun hn => absurd ht hn⟩
  len := by have := h.len; rw [List.length_append, List.length_append]; simp; omega
theorem CuI.two {os : List Ad} {Z : List (Ad × Ad)} (h : CuI os Z) {x : Ad × Ad} (hx : RgR x) {z : Ad} (hz : z.R) (he : z.n = x.2.n + 1) : CuI (os ++ [x.1] ++ [z]) (Z ++ [x]) where
  right := fun a ha => by
    rcases List.mem_append.1 ha with ha | ha
    · rcases List.mem_append.1 ha with ha | ha
      · exact h.right a ha
      · rw [List.mem_singleton.1 ha]; exact hx.1
    · rw [List.mem_singleton.1 ha]; exact hz
  base := fun s => by obtain ⟨a, ha, e⟩ := h.base s; exact ⟨a, List.mem_append_left _ (List.mem_append_left _ ha), e⟩
  cuts := fun y hy => by
    rcases List.mem_append.1 hy with hy | hy
    · obtain ⟨⟨c, hc, e⟩, h2⟩ := h.cuts y hy
      exact ⟨⟨c, List.mem_append_left _ (List.mem_append_left _ hc), e⟩, fun hn => by obtain ⟨d, hd, e⟩ := h2 hn; exact ⟨d, List.mem_append_left _ (List.mem_append_left _ hd), e⟩⟩
    · rw [List.mem_singleton.1 hy]
      exact ⟨⟨x.1, List.mem_append_left _ (List.mem_append_right _ (List.mem_singleton.2 rfl)), rfl⟩, fun _ => ⟨z, List.mem_append_right _ (List.mem_singleton.2 rfl), he⟩⟩
  len := by have := h.len; rw [List.length_append, List.length_append, List.length_append]; simp; omega
theorem CuI.done {os qs zs : List Ad} {Z : List (Ad × Ad)} (h : CuI os Z) (hp : qs.Perm os) {n : Nat} (hn : n = qs.length) (hc : CpI qs n zs) : Cut zs ∧ (∀ x ∈ Z, ∃ c ∈ zs, c.n = x.1.n) ∧ (∀ x ∈ Z, x.2.n ≠ topN x.2.s → ∃ c ∈ zs, c.n = x.2.n + 1) := by
  have hm : ∀ a, a ∈ zs ↔ a ∈ os := fun a => by rw [hc.2, hn, List.take_length]; exact hp.mem_iff
  refine ⟨⟨hc.1, fun a ha => h.right a ((hm a).1 ha), fun s => ?_⟩, fun x hx => ?_, fun x hx hne => ?_⟩
  · obtain ⟨a, ha, e⟩ := h.base s; exact ⟨a, (hm a).2 ha, e⟩
  · obtain ⟨c, h1, e⟩ := (h.cuts x hx).1; exact ⟨c, (hm c).2 h1, e⟩
  · obtain ⟨c, h1, e⟩ := (h.cuts x hx).2 hne; exact ⟨c, (hm c).2 h1, e⟩
theorem own_new {α : Type} {E : Enc α} {t : TypeId} {B : Nat} {w : World} {v : Value} {xs : List α} (h : OwnE E t B w v xs) : v.ownBlock ≠ some w.heap.size := fun e => by have := (h.lt _ e).2; omega
theorem own_two (a b : Ad) (w : World) (B : Nat) (hB : B ≤ w.heap.size) : OwnE eAd 30 B (w.alloc (.cells (adC a ++ adC b).toArray 30)) (.slice (some ⟨w.heap.size, 0, none⟩) 2 2) [a, b] :=
  ⟨rfl, .inr ⟨w.heap.size, 2, (adC a ++ adC b).toArray, rfl, hB, heap_alloc_new w _, Nat.le_refl _, by decide, rfl, rfl⟩⟩

set_option maxHeartbeats 4000000 in
theorem cuts_any (q : Nat) (A A' : Option Addr) (n cap n' cap' : Nat) (xs ys : List (Ad × Ad)) (w : World) (hQ : Blk w q [.slice A n cap, .slice A' n' cap'] 63) (hS : SlE eRg w A n cap xs) (hS' : SlE eRg w A' n' cap' ys) (hn : n ≤ 5000) (hn' : n' ≤ 5000) (hR : ∀ x ∈ xs, RgR x) (hR' : ∀ x ∈ ys, RgR x) :
    Calls Tryz.prog 25 #[.slice (some ⟨q, 0, none⟩) 2 2] w fun e w' => ∃ g cap cs, e = .returned (.slice (some ⟨g, 0, none⟩) cs.length cap) ∧ SlE eAd w' (some ⟨g, 0, none⟩) cs.length cap cs ∧ Cut cs ∧ (∀ x ∈ xs ++ ys, ∃ c ∈ cs, c.n = x.1.n) ∧ (∀ x ∈ xs ++ ys, x.2.n ≠ topN x.2.s → ∃ c ∈ cs, c.n = x.2.n + 1) ∧ cs.length ≤ 2 + 2 * (n + n') ∧ Below w.heap.size w w' := by
  have hql := hQ.lt
  obtain ⟨Z, hZ⟩ : ∃ Z : Nat → List (Ad × Ad), Z = fun k => if k = 0 then [] else if k = 1 then xs else xs ++ ys := ⟨_, rfl⟩
  have HL : ∀ k, k < 2 → ∃ A n cap zs, (∀ W, Below w.heap.size w W → W.cell? ⟨q, k, none⟩ = some (.slice A n cap) ∧ SlE eRg W A n cap zs) ∧ n ≤ 5000 ∧ n = zs.length ∧ (∀ x ∈ zs, RgR x) ∧ Z (k + 1) = Z k ++ zs ∧ (Z k).length ≤ 5000 := by
    intro k hk
    rcases Nat.lt_or_ge k 1 with h | h
    · have e : k = 0 := by omega
      subst e
      exact ⟨A, n, cap, xs, fun W hW => ⟨(hQ.below hW).cell rfl, hS.below hW⟩, hn, hS.1, hR, by rw [hZ]; rfl, by rw [hZ]; exact Nat.zero_le _⟩
    · have e : k = 1 := by omega
      subst e
      exact ⟨A', n', cap', ys, fun W hW => ⟨(hQ.below hW).cell rfl, hS'.below hW⟩, hn', hS'.1, hR', by rw [hZ]; rfl, by rw [hZ]; show xs.length ≤ 5000; rw [← hS.1]; exact hn⟩
  have hZ0 := Lib.hid (show Z 0 = [] by rw [hZ]; rfl)
  have hZ2 := Lib.hid (show Z 2 = xs ++ ys by rw [hZ]; rfl)
  have hlen := Lib.hid (show (xs ++ ys).length = n + n' by rw [List.length_append, hS.1, hS'.1])
  replace HL := Lib.hid HL
  obtain ⟨a0, ha0⟩ : ∃ a : Ad, a = ⟨false, 0, 0⟩ := ⟨_, rfl⟩
  obtain ⟨a1, ha1⟩ : ∃ a : Ad, a = ⟨true, 0, 0⟩ := ⟨_, rfl⟩
  have BB : ∀ w', (bs2T 61 (.agg #[.bool false, .int .u64 0, .int .u64 0]) (.agg #[.bool true, .int .u64 0, .int .u64 0])).run Tryz.prog w' = .ok (.value (.slice (some ⟨w'.heap.size, 0, none⟩) 2 2)) (w'.alloc (.cells (adC a0 ++ adC a1).toArray 30)) := fun w' => by rw [ha0, ha1]; exact run_bs2Ad ⟨false, 0, 0⟩ ⟨true, 0, 0⟩ w'
  have hown := own_two a0 a1 w w.heap.size (Nat.le_refl _)
  have hbw : Below w.heap.size w (w.alloc (.cells (adC a0 ++ adC a1).toArray 30)) := (Below.refl _ _).alloc (Nat.le_refl _) _
  have hst := Lib.hid (show CuI [a0, a1] [] by rw [ha0, ha1]; exact CuI.start)
  clear ha0 ha1
  clear hS hS' hR hR' hQ hZ
  go_enter Tryz.func25, Tryz.ntmps25
  go_wp2_with fail
  generalize World.alloc w _ = w1 at *
  go_loopw [3, 15] (fun v3 v15 wr => ∃ (k : Nat) (os : List Ad), k ≤ 2 ∧ v15 = .int .i64 k ∧ Hid (CuI os (Z k)) ∧ OwnE eAd 30 w.heap.size wr v3 os ∧ Below w.heap.size w wr) (fun _ v15 _ => 2 - (intOf v15).toNat)
  case atStart => exact ⟨0, _, by omega, rfl, Lib.hid (by rw [hZ0.out]; exact hst.out), hown, hbw⟩
  case round =>
    clear hown hbw
    obtain ⟨k, os, hk, rfl, hI, hown, hbw⟩ := hrel
    by_cases hlt : k < 2
    · obtain ⟨A, n, cap, zs, hW, hn5, hnl, hR, hz, hzk⟩ := HL.out k hlt
      have hcell := (hW wr hbw).1
      have hlt' : (k : Int) < 2 := by omega
      replace hW := Lib.hid (fun W hw => (hW W hw).2)
      replace hz := Lib.hid hz
      replace hR := Lib.hid hR
      replace hnl := Lib.hid hnl
      go_wp2_with fail
      go_loopw [3, 21] (fun v3 v21 wr => ∃ (j : Nat) (os : List Ad), j ≤ n ∧ v21 = .int .i64 j ∧ Hid (CuI os (Z k ++ zs.take j)) ∧ OwnE eAd 30 w.heap.size wr v3 os ∧ Below w.heap.size w wr) (fun _ v21 _ => n - (intOf v21).toNat)
      case atStart => exact ⟨0, os, by omega, rfl, Lib.hid (by rw [List.take_zero, List.append_nil]; exact hI.out), hown, hbw⟩
      case round =>
        clear hown hbw hI hcell
        obtain ⟨j, os, hj, rfl, hI, hown, hbw⟩ := hrel
        by_cases hjn : j < n
        · obtain ⟨x, hx⟩ : ∃ x, zs[j]? = some x := ⟨zs[j]'(by have := hnl.out; omega), List.getElem?_eq_getElem _⟩
          obtain ⟨g0, off, rfl, _, _⟩ := (hW.out wr hbw).at' hjn
          have hld := SlE.ld rowRg (hW.out wr hbw) hx
          replace hld : (ldT 107 (.pointer (some ⟨g0, off + j * 6, none⟩))).run Tryz.prog wr = .ok (.value (rgA x)) wr := hld
          have hxR := hR.out x (List.mem_of_getElem? hx)
          have hjn' : (j : Int) < n := by omega
          have hsw := hbw.size
          have S1 := stT_new rowRg (te := 107) wr wr.heap.size rfl [.bool false, .int .u64 0, .int .u64 0, .bool false, .int .u64 0, .int .u64 0] (rgC x) rfl rfl (rgC_one x)
          have hC := Blk.new wr (rgC x) 107
          have hne := own_new hown
          replace hown := hown.alloc' (.cells (rgC x).toArray 107)
          replace hbw := hbw.alloc hsw (.cells (rgC x).toArray 107)
          have HN := fun w' => Lib.hid (nextA_any x.2 w' hxR.2.1)
          obtain ⟨z, ok, hnv, hok1, hok2⟩ := nextV_full hxR.2.1
          rw [hnv] at HN
          have htk : Hid (zs.take (j + 1) = zs.take j ++ [x]) := Lib.hid (by rw [List.take_add_one, hx]; rfl)
          have hosl := Lib.hid (show os.length ≤ 20010 by
            have h1 := hI.out.len
            rw [List.length_append, List.length_take] at h1
            have h2 := hzk
            omega)
          have hone := fun (e : ok = false) => Lib.hid (show CuI (os ++ [x.1]) (Z k ++ zs.take (j + 1)) by rw [htk.out, ← List.append_assoc]; exact hI.out.one hxR (hok2 e))
          have htwo := fun (e : ok = true) => Lib.hid (show CuI (os ++ [x.1, z]) (Z k ++ zs.take (j + 1)) by
            have h := hI.out.two hxR (hok1 e).1 (hok1 e).2.2
            rw [htk.out, ← List.append_assoc]
            rw [List.append_assoc os] at h
            exact h)
          replace hx := Lib.hid hx
          replace hxR := Lib.hid hxR
          clear hI hnv hok1 hok2 htk
          have k1 := hC.ldAt rowAd 0 (adC x.1) (adC x.2) rfl rfl
          have hsC := hbw.size
          go_wp2_with (at_builtin; refine wpList_app tyeAd rfl _ _ rfl w.heap.size _ _ [x.1] rfl (hown.alloc' _) ⟨_, 0, none⟩ 1 1 rfl rfl ?c1 ?c2 ?c3 ?_)
          case c1 => exact cell_row_at _ _ _ _ (by simp)
          case c2 => have := hosl.out; simp only [List.length_singleton]; omega
          case c3 => first | omega | (simp; done) | (simp; omega)
          intro v4 x4 hown4 hg4 _
          have hb4 : Below w.heap.size w x4 := (hbw.alloc hsC _).grown hg4 (by first | omega | (simp; done) | (simp; omega)) (fun k h => (hown.lt k h).1)
          replace hC := (Blk.below hC ((Below.refl _ _).alloc (Nat.le_refl _) _)).gbo hg4 hne
          clear hg4 hown hbw hne k1 S1 hld
          have k2 := hC.ldAt rowAd 3 (adC x.2) [] rfl rfl
          go_wp2_with fail
          refine (HN _).out.mono ?_
          rintro e w5 ⟨rfl, hv5⟩
          replace hown4 := hown4.below hv5
          have hb5 := hb4.trans (hv5.mono hb4.size)
          have hs5 := hb5.size
          have S2 := stT_new rowAd (te := 30) w5 w5.heap.size rfl [.bool false, .int .u64 0, .int .u64 0] (adC z) rfl rfl (adC_one z)
          have hD := Blk.new w5 (adC z) 30
          replace hown4 := hown4.alloc' (.cells (adC z).toArray 30)
          replace hb5 := hb5.alloc hs5 (.cells (adC z).toArray 30)
          clear hb4 hv5 hC k2 HN
          cases ok with
          | false =>
            have hI2 := hone rfl
            clear hone htwo hD
            go_wp2_with fail
            go_roundw
            case rel => exact ⟨j + 1, _, by omega, by go_num, hI2, hown4, hb5⟩
            case measure => simp [intOf]; omega
          | true =>
            have hI2 := htwo rfl
            have k3 := hD.ld rowAd rfl
            have hs6 := hb5.size
            clear hone htwo
            go_wp2_with (at_builtin; refine wpList_app tyeAd rfl _ _ rfl w.heap.size _ _ [z] rfl (hown4.alloc' _) ⟨_, 0, none⟩ 1 1 rfl rfl ?d1 ?d2 ?d3 ?_)
            case d1 => exact cell_row_at _ _ _ _ (by simp)
            case d2 => have := hosl.out; simp only [List.length_singleton, List.length_append]; omega
            case d3 => first | omega | (simp; done) | (simp; omega)
            intro v6 x6 hown6 hg6 _
            have hb6 : Below w.heap.size w x6 := (hb5.alloc hs6 _).grown hg6 (by first | omega | (simp; done) | (simp; omega)) (fun k h => (hown4.lt k h).1)
            clear hg6 hown4 hb5 hD k3 S2
            go_wp2_with fail
            go_roundw
            case rel => exact ⟨j + 1, _, by omega, by go_num, hI2, hown6, hb6⟩
            case measure => simp [intOf]; omega
        · have hjn2 : j = n := by omega
          have hI2 : Hid (CuI os (Z (k + 1))) := Lib.hid (by
            rw [hz.out]
            have h := hI.out
            rwa [hjn2, hnl.out, List.take_length] at h)
          clear hI hjn2
          go_wp2_with fail
          go_roundw
          case rel => exact ⟨k + 1, os, by omega, by go_num, hI2, hown, hbw⟩
          case measure => simp [intOf]; omega
    · have hk2 : k = 2 := by omega
      subst hk2
      have hI2 := Lib.hid (show CuI os (xs ++ ys) by rw [← hZ2.out]; exact hI.out)
      have hosl := Lib.hid (show os.length ≤ 20010 by have := hI2.out.len; rw [hlen.out] at this; omega)
      have hos0 : os ≠ [] := by
        rintro rfl
        obtain ⟨a, ha, _⟩ := hI2.out.base false
        cases ha
      have hs1 := hbw.size
      have HS := Lib.hid (sortAd_any w.heap.size _ os wr hown (fun a ha => (hI2.out.right a ha).1) hos0 hs1 (by have := hosl.out; omega))
      obtain ⟨g1, cap1, rfl, _, _, _, _, _⟩ := hown.form hos0
      obtain ⟨L, hL⟩ : ∃ L, L = os.length := ⟨_, rfl⟩
      rw [← hL] at HS ⊢
      clear hown hI hos0
      replace hL := Lib.hid hL
      go_wp2_with fail
      refine HS.out.mono ?_
      rintro e w2 ⟨rfl, qs, hp, hsort, hown, hb2⟩
      have hbw2 := hbw.trans hb2
      have hs2 := hbw2.size
      have hql : L = qs.length := by rw [hL.out]; exact hp.length_eq.symm
      have hL2 : 2 ≤ L := by
        rw [hL.out]
        obtain ⟨a, ha, ea⟩ := hI2.out.base false
        obtain ⟨b, hb, eb⟩ := hI2.out.base true
        rcases os with _ | ⟨u, _ | ⟨u', r⟩⟩
        · cases ha
        · have h1 := List.mem_singleton.1 ha
          have h2 := List.mem_singleton.1 hb
          rw [h1] at ea
          rw [h2, ea, s2n_true, s2n_false] at eb
          omega
        · simp
      have HC := Lib.hid (compact_any w.heap.size g1 L cap1 qs w2 hown hql hL2 (by have := hosl.out; have := hL.out; omega) hs2 hsort (fun a ha => (hI2.out.right a (hp.mem_iff.1 ha)).1))
      replace hp := Lib.hid hp
      replace hql := Lib.hid hql
      clear HS hown hsort hbw hb2 hs1
      go_wp2_with fail
      refine HC.out.mono ?_
      rintro e w3 ⟨cap3, cs, rfl, hS3, hc3, hl3, hb3⟩
      have hfin := Lib.hid (hI2.out.done hp.out hql.out hc3)
      have hb4 := hbw2.trans hb3
      have hlc : Hid (cs.length ≤ 2 + 2 * (n + n')) := Lib.hid (by
        have h1 := hI2.out.len
        have h2 := hL.out
        have h3 := hlen.out
        omega)
      generalize hm : cs.length = m at *
      replace hm := Lib.hid hm
      clear HC hb3
      go_wp2_with fail
      go_ret
      exact ⟨g1, cap3, cs, by rw [hm.out]; rfl, by rw [hm.out]; exact hS3, hfin.out.1, hfin.out.2.1, hfin.out.2.2, by rw [hm.out]; exact hlc.out, hb4⟩


structure Kp (kf : Nat) (k : Bool → Bool → Bool) : Prop where
  run : ∀ p q W, Calls Tryz.prog kf #[.bool p, .bool q] W (GivesV (.bool (k p q)) W)
  enter : ∀ args w, (callFunc kf args).run Tryz.prog w = .ok (.enter kf args) w




def Stg (zs : List (Ad × Ad)) (k : Nat) (out : List (Ad × Ad)) : Prop :=
  if k = 0 then out = [] else out.Pairwise (fun x y => x.2.n + 1 < y.1.n) ∧ (∀ y ∈ out, RgR y ∧ y.2.n ≤ topN (decide (k = 2))) ∧ (∀ m, InA out m ↔ Val m ∧ m ≤ topN (decide (k = 2)) ∧ ¬ InA zs m) ∧ out.length ≤ k * (zs.length + 1)
theorem Stg.next {zs : List (Ad × Ad)} (hR : ∀ z ∈ zs, RgR z) (hp : zs.Pairwise (fun x y => x.2.n + 1 < y.1.n)) {k : Nat} (hk : k < 2) {a : Nat} {dn : Bool} {out : List (Ad × Ad)} (h : GapI zs (decide (k = 1)) zs.length a dn out (k * (zs.length + 1))) :
    Stg zs (k + 1) (if dn then out else out ++ [(adOf a, adOf (topN (decide (k = 1))))]) := by
  obtain ⟨out', rfl, h1, h2, h3, h4⟩ := h.ends hR hp
  have e : decide (k + 1 = 2) = decide (k = 1) := by rw [decide_eq_decide]; omega
  unfold Stg
  rw [if_neg (by omega), e]
  exact ⟨h1, h2, h3, by rw [Nat.succ_mul]; omega⟩
theorem Stg.done {zs out : List (Ad × Ad)} (h : Stg zs 2 out) : Tells out (fun m => Val m ∧ ¬ InA zs m) ∧ out.length ≤ 2 * (zs.length + 1) :=
  ⟨gaps_told h.1 h.2.1 h.2.2.1, h.2.2.2⟩




theorem inA_rgP {ps : List Pf} (hR : ∀ p ∈ ps, p.R) (m : Nat) : InA (ps.map rgP) m ↔ ∃ p ∈ ps, InB (blk p) m := by
  unfold InA InB
  constructor
  · rintro ⟨x, hx, h1, h2⟩
    obtain ⟨p, hp, rfl⟩ := List.mem_map.1 hx
    have hn := rgP_n (hR p hp)
    have hpos := Nat.two_pow_pos (freeB p)
    have h1' : p.1.n ≤ m := h1
    exact ⟨p, hp, h1', by show m < p.1.n + 2 ^ freeB p; omega⟩
  · rintro ⟨p, hp, h1, h2⟩
    have hn := rgP_n (hR p hp)
    have hpos := Nat.two_pow_pos (freeB p)
    have h2' : m < p.1.n + 2 ^ freeB p := h2
    exact ⟨rgP p, List.mem_map_of_mem hp, h1, by omega⟩

def inQ (p : Pf) (m : Nat) : Bool := decide ((blk p).1 ≤ m ∧ m < (blk p).1 + 2 ^ (blk p).2)
def inS (ps : List Pf) (m : Nat) : Bool := ps.any fun p => inQ p m
theorem contains_n (p : Pf) (a : Ad) (w : World) (hp : p.R) (ha : a.R) : Calls Tryz.prog 43 #[pfA p, adA a] w (GivesV (.bool (inQ p a.n)) w) := by
  unfold inQ
  rw [← ctP_eq hp ha]
  exact contains_any p.1.s p.1.hi p.1.lo p.2 a.s a.hi a.lo w hp.1.1.1.1 hp.1.1.1.2 hp.1.1.2.1 hp.1.1.2.2 ha.1.1.1 ha.1.1.2 ha.1.2.1 ha.1.2.2 hp.2.1 hp.2.2.1

theorem Ad.R.u {a : Ad} (h : a.R) : a.U := h.1
theorem inS_iff {ps : List Pf} (hR : ∀ p ∈ ps, Pf.R p) (m : Nat) : inS ps m = true ↔ InA (ps.map rgP) m := by
  rw [inA_rgP hR]
  unfold inS
  rw [List.any_eq_true]
  constructor
  · rintro ⟨p, hp, h⟩
    unfold inQ at h
    have h' := of_decide_eq_true h
    exact ⟨p, hp, h'⟩
  · rintro ⟨p, hp, h⟩
    have h' : (blk p).1 ≤ m ∧ m < (blk p).1 + 2 ^ (blk p).2 := h
    exact ⟨p, hp, by unfold inQ; exact decide_eq_true h'⟩

structure En where
  p : Pf
  nm : List UInt8
def bestF (f : Pf → Bool) : List En → List UInt8 × Int → List UInt8 × Int
  | [], s => s
  | x :: r, s => bestF f r (if s.2 < x.p.2 ∧ f x.p = true then (x.nm, x.p.2) else s)
def longF (f : Pf → Bool) (t : List En) : List UInt8 := (bestF f t ([], -1)).1
theorem bestF_spec (f : Pf → Bool) : ∀ (t : List En) (s : List UInt8 × Int),
    ((∀ x ∈ t, f x.p = true → x.p.2 ≤ s.2) ∧ bestF f t s = s) ∨ ∃ x ∈ t, f x.p = true ∧ s.2 < x.p.2 ∧ (∀ y ∈ t, f y.p = true → y.p.2 ≤ x.p.2) ∧ bestF f t s = (x.nm, x.p.2)
  | [], s => .inl ⟨fun x hx => (by cases hx), rfl⟩
  | x :: r, s => by
    by_cases h : s.2 < x.p.2 ∧ f x.p = true
    · rw [bestF, if_pos h]
      rcases bestF_spec f r (x.nm, x.p.2) with ⟨h1, h2⟩ | ⟨y, hy, h1, h2, h3, h4⟩
      · refine .inr ⟨x, List.mem_cons_self, h.2, h.1, fun y hy hf => ?_, h2⟩
        rcases List.mem_cons.1 hy with rfl | hy
        · exact Int.le_refl _
        · exact h1 y hy hf
      · have h2' : x.p.2 < y.p.2 := h2
        refine .inr ⟨y, List.mem_cons_of_mem _ hy, h1, by omega, fun z hz hf => ?_, h4⟩
        rcases List.mem_cons.1 hz with rfl | hz
        · omega
        · exact h3 z hz hf
    · rw [bestF, if_neg h]
      rcases bestF_spec f r s with ⟨h1, h2⟩ | ⟨y, hy, h1, h2, h3, h4⟩
      · refine .inl ⟨fun z hz hf => ?_, h2⟩
        rcases List.mem_cons.1 hz with rfl | hz
        · exact Int.not_lt.1 fun k => h ⟨k, hf⟩
        · exact h1 z hz hf
      · refine .inr ⟨y, List.mem_cons_of_mem _ hy, h1, h2, fun z hz hf => ?_, h4⟩
        rcases List.mem_cons.1 hz with rfl | hz
        · have := Int.not_lt.1 fun k => h ⟨k, hf⟩
          omega
        · exact h3 z hz hf
theorem longF_spec (f : Pf → Bool) (t : List En) (h0 : ∀ x ∈ t, 0 ≤ x.p.2) :
    ((∀ x ∈ t, f x.p = false) ∧ longF f t = []) ∨ ∃ x ∈ t, f x.p = true ∧ (∀ y ∈ t, f y.p = true → y.p.2 ≤ x.p.2) ∧ longF f t = x.nm := by
  unfold longF
  rcases bestF_spec f t ([], -1) with ⟨h1, h2⟩ | ⟨x, hx, h1, _, h3, h4⟩
  · refine .inl ⟨fun x hx => ?_, by rw [h2]⟩
    rw [Bool.eq_false_iff]
    intro k
    have h3 : x.p.2 ≤ -1 := h1 x hx k
    have := h0 x hx
    omega
  · exact .inr ⟨x, hx, h1, h3, by rw [h4]⟩
theorem bestF_congr {f g : Pf → Bool} : ∀ (t : List En) (s : List UInt8 × Int), (∀ x ∈ t, f x.p = g x.p) → bestF f t s = bestF g t s
  | [], _, _ => rfl
  | x :: r, s, h => by
    rw [bestF, bestF, h x List.mem_cons_self]
    exact bestF_congr r _ fun y hy => h y (List.mem_cons_of_mem _ hy)
theorem longF_congr {f g : Pf → Bool} {t : List En} (h : ∀ x ∈ t, f x.p = g x.p) : longF f t = longF g t := by
  unfold longF; rw [bestF_congr t _ h]

def supB (p q : Pf) : Bool := decide (q ≠ p) && insP p q
instance : DecidableEq Ad := fun a b => by
  cases a; cases b
  exact decidable_of_iff (_ ∧ _ ∧ _) (by rw [Ad.mk.injEq])
def fM (m : Nat) (B : Int) (p : Pf) : Bool := inQ p m && decide (p.2 < B)
theorem same_fam {x y : Pf} (hx : x.R) (hy : y.R) {m : Nat} (hm : inQ x m = true) (hm' : inQ y m = true) : x.1.s = y.1.s := by
  have h1 := rg_fam (rgP_R hx)
  have h2 := rg_fam (rgP_R hy)
  have n1 := rgP_n hx
  have n2 := rgP_n hy
  have p1 := Nat.two_pow_pos (freeB x)
  have p2 := Nat.two_pow_pos (freeB y)
  have k1 : x.1.n ≤ m ∧ m < x.1.n + 2 ^ freeB x := of_decide_eq_true hm
  have k2 : y.1.n ≤ m ∧ m < y.1.n + 2 ^ freeB y := of_decide_eq_true hm'
  have e1 : (rgP x).1 = x.1 := rfl
  have e2 : (rgP y).1 = y.1 := rfl
  rw [e1] at h1
  rw [e2] at h2
  generalize 2 ^ freeB x = T at *
  generalize 2 ^ freeB y = U at *
  exact fam_one (m := m) (by omega) (by omega) (by omega) (by omega)
theorem one_of {x y : Pf} (hx : x.R) (hy : y.R) {m : Nat} (hm : inQ x m = true) (hm' : inQ y m = true) (hb : x.2 = y.2) : x = y := by
  have hs := same_fam hx hy hm hm'
  have hf := (free_bits hx hy hs).2.1 hb
  have k1 : x.1.n ≤ m ∧ m < x.1.n + 2 ^ freeB x := of_decide_eq_true hm
  have k2 : y.1.n ≤ m ∧ m < y.1.n + 2 ^ freeB y := of_decide_eq_true hm'
  have a1 : 2 ^ freeB x ∣ x.1.n := hx.blk_ok.1
  have a2 : 2 ^ freeB y ∣ y.1.n := hy.blk_ok.1
  rw [← hf] at k2 a2
  have d1 := dy_in a1 a2 (Nat.le_refl _) k1.1 k1.2 k2.1 k2.2
  have hn : x.1.n = y.1.n := by
    generalize 2 ^ freeB x = T at *
    omega
  have he : x.1 = y.1 := by rw [← adOf_of hx.1.1, ← adOf_of hy.1.1, hn]
  exact Prod.ext he hb
theorem sup_iff {x y : Pf} (hx : x.R) (hy : y.R) {m : Nat} (hm : inQ x m = true) : supB x y = fM m x.2 y := by
  have k1 : x.1.n ≤ m ∧ m < x.1.n + 2 ^ freeB x := of_decide_eq_true hm
  have a1 : 2 ^ freeB x ∣ x.1.n := hx.blk_ok.1
  have a2 : 2 ^ freeB y ∣ y.1.n := hy.blk_ok.1
  unfold supB fM
  rw [insP_eq hx hy]
  have px := Nat.two_pow_pos (freeB x)
  rw [Bool.eq_iff_iff, Bool.and_eq_true, Bool.and_eq_true, decide_eq_true_iff, decide_eq_true_iff, decide_eq_true_iff]
  constructor
  · rintro ⟨hne, h1, h2, h3⟩
    have h1' : y.1.n ≤ x.1.n := h1
    have h2' : x.1.n < y.1.n + 2 ^ freeB y := h2
    have h3' : freeB x ≤ freeB y := h3
    have d := dy_in a2 a1 h3' h1' h2' (Nat.le_refl _) (by omega)
    have hmy : inQ y m = true := decide_eq_true ⟨by show y.1.n ≤ m; omega, by show m < y.1.n + 2 ^ freeB y; generalize 2 ^ freeB x = T at *; generalize 2 ^ freeB y = U at *; omega⟩
    refine ⟨hmy, ?_⟩
    have hs := same_fam hx hy hm hmy
    have hb := (free_bits hx hy hs).1.2 h3'
    have hnb : x.2 ≠ y.2 := fun e => hne (one_of hx hy hm hmy e).symm
    omega
  · rintro ⟨hmy, hb⟩
    have hs := same_fam hx hy hm hmy
    have h3' : freeB x ≤ freeB y := (free_bits hx hy hs).1.1 (by omega)
    have k2 : y.1.n ≤ m ∧ m < y.1.n + 2 ^ freeB y := of_decide_eq_true hmy
    have d := dy_in a2 a1 h3' k2.1 k2.2 k1.1 k1.2
    refine ⟨fun e => by rw [e] at hb; omega, ?_, ?_, h3'⟩
    · show y.1.n ≤ x.1.n
      exact d.1
    · show x.1.n < y.1.n + 2 ^ freeB y
      have := d.2
      omega
theorem inQ_self (x : Pf) : inQ x x.1.n = true := decide_eq_true ⟨Nat.le_refl _, by have := Nat.two_pow_pos (blk x).2; show x.1.n < x.1.n + _; omega⟩

structure TbD (t : List En) : Prop where
  r : ∀ x ∈ t, x.p.R
  d : ∀ x ∈ t, ∀ y ∈ t, x.p = y.p → x = y
theorem TbD.bits {t : List En} (h : TbD t) : ∀ x ∈ t, 0 ≤ x.p.2 := fun x hx => (h.r x hx).2.1
def lookT (t : List En) (m : Nat) : List UInt8 := longF (fun p => inQ p m) t
def aroT (t : List En) (x : En) : List UInt8 := longF (supB x.p) t
def sqT (t : List En) : List En := t.filter fun x => decide (aroT t x ≠ x.nm)
theorem sqT_sub {t : List En} {x : En} (h : x ∈ sqT t) : x ∈ t := (List.mem_filter.1 h).1
theorem TbD.sq {t : List En} (h : TbD t) : TbD (sqT t) := ⟨fun x hx => h.r x (sqT_sub hx), fun x hx y hy => h.d x (sqT_sub hx) y (sqT_sub hy)⟩
theorem aro_fM {t u : List En} (h : TbD t) (hu : ∀ y ∈ u, y ∈ t) {x : En} (hx : x ∈ t) {m : Nat} (hm : inQ x.p m = true) : longF (supB x.p) u = longF (fM m x.p.2) u :=
  longF_congr fun y hy => sup_iff (h.r x hx) (h.r y (hu y hy)) hm
theorem sq_fM {t : List En} (h : TbD t) : ∀ (k : Nat) (m : Nat) (B : Int), B ≤ k → longF (fM m B) (sqT t) = longF (fM m B) t
  | 0, m, B, hB => by
    have key : ∀ u : List En, (∀ x ∈ u, x ∈ t) → longF (fM m B) u = [] := fun u hu => by
      rcases longF_spec (fM m B) u (fun x hx => h.bits x (hu x hx)) with ⟨_, h2⟩ | ⟨x, hx, h1, _⟩
      · exact h2
      · unfold fM at h1
        rw [Bool.and_eq_true] at h1
        have h2 := of_decide_eq_true h1.2
        have h3 := h.bits x (hu x hx)
        omega
    rw [key _ fun x hx => sqT_sub hx, key _ fun x hx => hx]
  | k + 1, m, B, hB => by
    rcases longF_spec (fM m B) t h.bits with ⟨h1, h2⟩ | ⟨x, hx, h1, h2, h3⟩
    · rw [h2]
      rcases longF_spec (fM m B) (sqT t) h.sq.bits with ⟨_, h4⟩ | ⟨x, hx, h4, _⟩
      · exact h4
      · rw [h1 x (sqT_sub hx)] at h4; cases h4
    · have hfx := h1
      unfold fM at hfx
      rw [Bool.and_eq_true] at hfx
      have hxB := of_decide_eq_true hfx.2
      rw [h3]
      by_cases hk : x ∈ sqT t
      · rcases longF_spec (fM m B) (sqT t) h.sq.bits with ⟨h4, _⟩ | ⟨y, hy, h4, h5, h6⟩
        · rw [h4 x hk] at h1; cases h1
        · have hfy := h4
          unfold fM at hfy
          rw [Bool.and_eq_true] at hfy
          have e1 := h5 x hk h1
          have e2 := h2 y (sqT_sub hy) h4
          have e3 := h.d x hx y (sqT_sub hy) (one_of (h.r x hx) (h.r y (sqT_sub hy)) hfx.1 hfy.1 (by omega))
          rw [h6, e3]
      · have hdrop : aroT t x = x.nm := by
          refine Classical.byContradiction fun hn => hk ?_
          exact List.mem_filter.2 ⟨hx, decide_eq_true hn⟩
        have e1 : longF (fM m B) (sqT t) = longF (fM m x.p.2) (sqT t) := longF_congr fun y hy => by
          unfold fM
          by_cases hm : inQ y.p m = true
          · have hyt := sqT_sub hy
            have hyr := h.r y hyt
            by_cases hyB : y.p.2 < B
            · have e2 := h2 y hyt (by unfold fM; rw [hm, decide_eq_true hyB]; rfl)
              have hne : y.p.2 ≠ x.p.2 := fun e => hk (by rw [h.d x hx y hyt (one_of (h.r x hx) hyr hfx.1 hm e.symm)]; exact hy)
              rw [decide_eq_true hyB, decide_eq_true (show y.p.2 < x.p.2 by omega)]
            · rw [decide_eq_false hyB, decide_eq_false (show ¬ y.p.2 < x.p.2 by omega)]
          · rw [Bool.not_eq_true] at hm
            rw [hm]; rfl
        rw [e1, sq_fM h k m x.p.2 (by omega), ← aro_fM h (fun y hy => hy) hx hfx.1]
        exact hdrop
theorem lookT_fM {t : List En} (h : ∀ x ∈ t, x.p.R) (m : Nat) : lookT t m = longF (fM m 1000) t := longF_congr fun x hx => by
  have h1 := (h x hx).2.2.1
  have h2 := lenZ_le x.p.1.s
  unfold fM
  rw [decide_eq_true (show x.p.2 < 1000 by rcases h2 with k | k <;> omega), Bool.and_true]
theorem sq_look {t : List En} (h : TbD t) (m : Nat) : lookT (sqT t) m = lookT t m := by
  rw [lookT_fM h.r, lookT_fM h.sq.r]
  exact sq_fM h 1000 m 1000 (by omega)
theorem sq_twice {t : List En} (h : TbD t) : sqT (sqT t) = sqT t := by
  refine List.filter_eq_self.2 fun x hx => decide_eq_true ?_
  have h1 : aroT (sqT t) x = aroT t x := by
    unfold aroT
    rw [aro_fM h (fun y hy => sqT_sub hy) (sqT_sub hx) (inQ_self x.p), aro_fM h (fun y hy => hy) (sqT_sub hx) (inQ_self x.p)]
    exact sq_fM h (x.p.2.toNat) _ _ (by have := h.bits x (sqT_sub hx); omega)
  rw [h1]
  exact of_decide_eq_true (List.mem_filter.1 hx).2
theorem inQ_has {p : Pf} (hp : p.R) (m : Nat) : inQ p m = hasB [rgP p] m := by
  have h := inS_iff (ps := [p]) (fun q hq => by rw [List.mem_singleton.1 hq]; exact hp) m
  have e : inS [p] m = inQ p m := by unfold inS; simp
  rw [e, ← hasB_iff] at h
  exact Bool.eq_iff_iff.2 h
theorem cuts_say {t u : List En} (ht : ∀ x ∈ t, x.p.R) (hu : ∀ x ∈ u, x.p.R) {cs : List Ad} (h : Cut cs)
    (h1 : ∀ x ∈ t.map (fun e => rgP e.p) ++ u.map (fun e => rgP e.p), ∃ c ∈ cs, c.n = x.1.n) (h2 : ∀ x ∈ t.map (fun e => rgP e.p) ++ u.map (fun e => rgP e.p), x.2.n ≠ topN x.2.s → ∃ c ∈ cs, c.n = x.2.n + 1)
    {m : Nat} (hm : Val m) (hs : ∀ c ∈ cs, c.n ≤ m → lookT t c.n = lookT u c.n) : lookT t m = lookT u m := by
  obtain ⟨i, a, hi, ha1, ha2⟩ := cut_cover h hm
  have key : ∀ l : List En, (∀ x ∈ l, x.p.R) → (∀ x ∈ l, rgP x.p ∈ t.map (fun e => rgP e.p) ++ u.map (fun e => rgP e.p)) → lookT l m = lookT l a.n := fun l hl hin => longF_congr fun x hx => by
    rw [inQ_has (hl x hx), inQ_has (hl x hx)]
    refine cut_same h (fun y hy => by rw [List.mem_singleton.1 hy]; exact rgP_R (hl x hx)) (fun y hy => ?_) (fun y hy => ?_) hi ha1 ha2
    · rw [List.mem_singleton.1 hy]; exact h1 _ (hin x hx)
    · rw [List.mem_singleton.1 hy]; exact h2 _ (hin x hx)
  rw [key t ht (fun x hx => List.mem_append_left _ (List.mem_map_of_mem hx)), key u hu (fun x hx => List.mem_append_right _ (List.mem_map_of_mem hx))]
  exact hs a (List.mem_of_getElem? hi) ha1

def enC (x : En) : List Value := [.bool x.p.1.s, .int .u64 x.p.1.hi, .int .u64 x.p.1.lo, .int .i64 x.p.2, .string ⟨x.nm.toArray⟩]
abbrev enA (x : En) : Value := .agg (enC x).toArray
theorem enC_len (x : En) : (enC x).length = 5 := rfl
theorem enC_one (x : En) : ∀ v ∈ enC x, v.oneCell' = true := by intro v hv; simp [enC] at hv; rcases hv with rfl | rfl | rfl | rfl | rfl <;> rfl
def eEn : Enc En := ⟨enC, 5, by decide, enC_len, enC_one⟩
section
variable (ρ : Operand → Value) (dst : Option Tmp) (x y : Operand) (ty : TypeId) (pos : String) (after : Array Edge) (guard : Option (Nat × Bool))
@[go_sem ↓ high] theorem execOp_ldEn : execOp ρ ⟨dst, .load 43 x, ty, pos, after, guard⟩ = ldT 43 (ρ x) := rfl
@[go_sem high] theorem execOp_ldEn' : execOp ρ ⟨dst, .load 43 x, ty, pos, after, guard⟩ = ldT 43 (ρ x) := rfl
@[go_sem ↓ high] theorem execOp_stEn : execOp ρ ⟨dst, .store 43 x y, ty, pos, after, guard⟩ = stT 43 (ρ x) (ρ y) := rfl
@[go_sem high] theorem execOp_stEn' : execOp ρ ⟨dst, .store 43 x y, ty, pos, after, guard⟩ = stT 43 (ρ x) (ρ y) := rfl
end
theorem rowEn : RowT 43 5 := ⟨⟨_, Tryz.underlying43, rfl⟩, by kernel_rfl⟩

theorem best_step (f : Pf → Bool) (t : List En) (k : Nat) (x : En) (hx : t[k]? = some x) (s : List UInt8 × Int) :
    bestF f (t.drop k) s = bestF f (t.drop (k + 1)) (if s.2 < x.p.2 ∧ f x.p = true then (x.nm, x.p.2) else s) := by
  obtain ⟨hk, hpe⟩ := List.getElem?_eq_some_iff.1 hx
  rw [List.drop_eq_getElem_cons hk, hpe]
  rfl

set_option maxHeartbeats 4000000 in
theorem longestT_any (kf g : Nat) (f : Pf → Bool) (A : Option Addr) (n cap : Nat) (t : List En) (w : World) (hS : SlE eEn w A n cap t) (hn : n ≤ 100000) (hR : ∀ x ∈ t, x.p.R)
    (HF : ∀ p W, p.R → Below w.heap.size w W → Calls Tryz.prog kf #[pfA p, .pointer (some ⟨g, 0, none⟩)] W (GivesV (.bool (f p)) W)) (eg : ∀ args w, (callFunc kf args).run Tryz.prog w = .ok (.enter kf args) w) :
    Calls Tryz.prog 21 #[.slice A n cap, .func (.func kf) #[] #[.pointer (some ⟨g, 0, none⟩)]] w (GivesV (.string ⟨(longF f t).toArray⟩) w) := by
  have hnl := Lib.hid hS.1
  replace hS := Lib.hid hS
  replace hR := Lib.hid hR
  replace HF := Lib.hid HF
  go_enter Tryz.func21, Tryz.ntmps21
  go_wp2_with fail
  go_loopw [5, 6, 11] (fun vt vm vi wr => ∃ (k : Nat) (nm : List UInt8) (mo : Int), k ≤ n ∧ vi = .int .i64 k ∧ vt = .string ⟨nm.toArray⟩ ∧ vm = .int .i64 mo ∧ Hid (bestF f (t.drop k) (nm, mo) = bestF f t ([], -1)) ∧ Below w.heap.size w wr) (fun _ _ vi _ => n - (intOf vi).toNat)
  case atStart => exact ⟨0, [], -1, by omega, rfl, rfl, rfl, Lib.hid rfl, Below.refl _ _⟩
  case round =>
    obtain ⟨k, nm, mo, hk, rfl, rfl, rfl, hI, hbw⟩ := hrel
    by_cases hlt : k < n
    · obtain ⟨x, hx⟩ : ∃ x, t[k]? = some x := ⟨t[k]'(by have := hnl.out; omega), List.getElem?_eq_getElem _⟩
      obtain ⟨g0, off, rfl, _, _⟩ := hS.out.at' hlt
      have hld := SlE.ld rowEn (hS.out.below hbw) hx
      replace hld : (ldT 43 (.pointer (some ⟨g0, off + k * 5, none⟩))).run Tryz.prog wr = .ok (.value (enA x)) wr := hld
      have hxR := hR.out x (List.mem_of_getElem? hx)
      have hlt' : (k : Int) < n := by omega
      have hsw := hbw.size
      have hstep := Lib.hid (best_step f t k x hx (nm, mo))
      have HFx := Lib.hid (fun W hW => HF.out x.p W hxR hW)
      have S1 := stT_new rowEn (te := 43) wr wr.heap.size rfl [.bool false, .int .u64 0, .int .u64 0, .int .i64 0, .string ⟨#[]⟩] (enC x) rfl rfl (enC_one x)
      clear hx hxR
      have hC := Blk.new wr (enC x) 43
      replace hbw := hbw.alloc hsw (.cells (enC x).toArray 43)
      have c3 := hC.cell (i := 3) (v := .int .i64 x.p.2) rfl
      by_cases hm : mo < x.p.2
      · have lp := hC.ldAt rowPf 0 (pfC x.p) [.string ⟨x.nm.toArray⟩] rfl rfl
        obtain ⟨V, hV⟩ : ∃ V, V = f x.p := ⟨_, rfl⟩
        rw [← hV] at HFx hstep
        replace hV := Lib.hid hV
        have hmh := Lib.hid hm
        go_wp2_with fail
        refine (HFx.out _ hbw).mono ?_
        rintro e w1 ⟨rfl, hv⟩
        replace hC := hC.below hv
        replace hbw := hbw.trans (hv.mono hbw.size)
        clear hv hld S1 HFx lp c3
        cases V with
        | true =>
          have c3 := hC.cell (i := 3) (v := .int .i64 x.p.2) rfl
          have c4 := hC.cell (i := 4) (v := .string ⟨x.nm.toArray⟩) rfl
          have hI2 := Lib.hid (show bestF f (t.drop (k + 1)) (x.nm, x.p.2) = bestF f t ([], -1) by
            have h := hstep.out
            rw [if_pos ⟨hmh.out, rfl⟩] at h
            rw [← h]; exact hI.out)
          clear hstep
          go_wp2_with fail
          go_quiet (fail)
          go_wp2_with fail
          go_roundw
          case rel => exact ⟨k + 1, x.nm, x.p.2, by omega, by go_num, rfl, rfl, hI2, ⟨hbw.os, hbw.tape, hbw.output, hbw.size, hbw.block⟩⟩
          case measure => simp [intOf]; omega
        | false =>
          have hI2 := Lib.hid (show bestF f (t.drop (k + 1)) (nm, mo) = bestF f t ([], -1) by
            have h := hstep.out
            rw [if_neg (fun k => by cases k.2)] at h
            rw [← h]; exact hI.out)
          clear hstep
          go_wp2_with fail
          go_roundw
          case rel => exact ⟨k + 1, nm, mo, by omega, by go_num, rfl, rfl, hI2, hbw⟩
          case measure => simp [intOf]; omega
      · have hI2 := Lib.hid (show bestF f (t.drop (k + 1)) (nm, mo) = bestF f t ([], -1) by
          have h := hstep.out
          rw [if_neg (fun k => hm k.1)] at h
          rw [← h]; exact hI.out)
        clear hstep HFx
        go_wp2_with fail
        go_roundw
        case rel => exact ⟨k + 1, nm, mo, by omega, by go_num, rfl, rfl, hI2, hbw⟩
        case measure => simp [intOf]; omega
    · have hfin := Lib.hid (show longF f t = nm by
        have h := hI.out
        rw [List.drop_of_length_le (by have := hnl.out; omega)] at h
        unfold longF
        rw [← h]; rfl)
      have hnlt : ¬ (k : Int) < n := by omega
      clear hI
      go_wp2_with fail
      go_ret
      exact ⟨by rw [hfin.out]; rfl, hbw⟩

theorem looks_any (p : Pf) (a : Ad) (g : Nat) (w : World) (hp : p.R) (ha : a.R) (h : Blk w g (adC a) 30) :
    Calls Tryz.prog 49 #[pfA p, .pointer (some ⟨g, 0, none⟩)] w (GivesV (.bool (inQ p a.n)) w) := by
  have HC := fun w' => Lib.hid (contains_n p a w' hp ha)
  generalize inQ p a.n = V at *
  have hC := Blk.new w (pfC p) 41
  have hbw : Below w.heap.size w (w.alloc (.cells (pfC p).toArray 41)) := (Below.refl _ _).alloc (Nat.le_refl _) _
  replace h := Blk.below h hbw
  have k1 := hC.ld rowPf rfl
  have k2 := h.ld rowAd rfl
  clear hp ha
  go_enter Tryz.func49, Tryz.ntmps49
  go_wp2_with fail
  refine (HC _).out.mono ?_
  rintro e w1 ⟨rfl, hb1⟩
  replace hbw := hbw.trans (hb1.mono hbw.size)
  go_wp2_with fail
  go_ret
  exact ⟨rfl, hbw⟩

theorem look_any (a : Ad) (A : Option Addr) (n cap : Nat) (t : List En) (w : World) (hS : SlE eEn w A n cap t) (hn : n ≤ 100000) (hR : ∀ x ∈ t, x.p.R) (ha : a.R) :
    Calls Tryz.prog 27 #[.slice A n cap, adA a] w (GivesV (.string ⟨(lookT t a.n).toArray⟩) w) := by
  have h1 := Blk.new w (adC a) 30
  have hbw : Below w.heap.size w (w.alloc (.cells (adC a).toArray 30)) := (Below.refl _ _).alloc (Nat.le_refl _) _
  have H := Lib.hid (longestT_any 49 w.heap.size (fun p => inQ p a.n) A n cap t _ (hS.below hbw) hn hR (fun p W hp hW => looks_any p a _ W hp ha (Blk.below h1 hW)) (enters_of Tryz.func49 (by kernel_rfl) rfl))
  have e : longF (fun p => inQ p a.n) t = lookT t a.n := rfl
  rw [e] at H
  clear hS hR ha h1 e
  generalize (⟨(lookT t a.n).toArray⟩ : ByteArray) = V at *
  go_enter Tryz.func27, Tryz.ntmps27
  go_wp2_with fail
  refine H.out.mono ?_
  rintro e w1 ⟨rfl, hb⟩
  replace hbw := hbw.trans (hb.mono hbw.size)
  go_wp2_with fail
  go_ret
  exact ⟨rfl, hbw⟩

def cmpPf (p q : Pf) : Int := firstZ [cmpN p.1.n q.1.n, Lib.compareInt p.2 q.2]

set_option maxHeartbeats 4000000 in
theorem pfCmp_d (p q : Pf) (w : World) (hp : p.1.U) (hq : q.1.U) :
    Calls Tryz.prog 42 #[pfA p, pfA q] w (GivesD (.int .i64 (cmpPf p q)) w) := by
  obtain ⟨z1, hz1⟩ : ∃ z, z = cmpN p.1.n q.1.n := ⟨_, rfl⟩
  obtain ⟨z2, hz2⟩ : ∃ z, z = Lib.compareInt p.2 q.2 := ⟨_, rfl⟩
  have C1 := Lib.hid (fun w' => spanCmp_d p.1 q.1 w' hp hq)
  have C2 := Lib.hid (fun w' => intCmp_d p.2 q.2 w')
  have HR : Hid (firstZ [z1, z2] = cmpPf p q) := Lib.hid (by rw [hz1, hz2]; rfl)
  rw [← hz1] at C1
  rw [← hz2] at C2
  obtain ⟨R, hR⟩ : ∃ R, R = cmpPf p q := ⟨_, rfl⟩
  rw [← hR] at HR ⊢
  clear hz1 hz2 hR hp hq
  obtain ⟨hA, hD⟩ := two_new w (pfC p) (pfC q) 41 41
  have hG : Gd w ((w.alloc (.cells (pfC p).toArray 41)).alloc (.cells (pfC q).toArray 41)) := ((Gd.refl w).alloc _).alloc _
  have hB := Gd.refl ((w.alloc (.cells (pfC p).toArray 41)).alloc (.cells (pfC q).toArray 41))
  go_enter Tryz.func42, Tryz.ntmps42
  go_upto_region 1 with fail
  refine wd_begin [] (by kernel_rfl) (fun u0 hb0' hz0' => ?_)
  replace hB := hB.trans hb0'
  clear hb0' hz0'
  refine wd_pureZ 0 (some 5) (v := ?_) ?_ ?_; rotate_left; · (intro u; go_simp; try with_reducible rfl)
  try simp only [Act.put, gzD, gzE, gzF]
  refine wd_takeZ 1 (some 6) (v := ?_) ?_ ?_; rotate_left; · (intro u hu; have ka := hA.gn (hB.trans hu).1; have kb := hD.gn (hB.trans hu).1; have a3 := ka.cell (i := 3) (v := .int .i64 p.2) rfl; have b3 := kb.cell (i := 3) (v := .int .i64 q.2) rfl; have l1 := ka.ldAt rowAd 0 (adC p.1) [.int .i64 p.2] rfl rfl; have l2 := kb.ldAt rowAd 0 (adC q.1) [.int .i64 q.2] rfl rfl; clear ka kb; go_simp; try with_reducible rfl)
  try simp only [Act.put, gzD, gzE, gzF]
  refine wd_pureZ 2 (some 7) (v := ?_) ?_ ?_; rotate_left; · (intro u; go_simp; try with_reducible rfl)
  try simp only [Act.put, gzD, gzE, gzF]
  refine wd_takeZ 3 (some 8) (v := ?_) ?_ ?_; rotate_left; · (intro u hu; have ka := hA.gn (hB.trans hu).1; have kb := hD.gn (hB.trans hu).1; have a3 := ka.cell (i := 3) (v := .int .i64 p.2) rfl; have b3 := kb.cell (i := 3) (v := .int .i64 q.2) rfl; have l1 := ka.ldAt rowAd 0 (adC p.1) [.int .i64 p.2] rfl rfl; have l2 := kb.ldAt rowAd 0 (adC q.1) [.int .i64 q.2] rfl rfl; clear ka kb; go_simp; try with_reducible rfl)
  try simp only [Act.put, gzD, gzE, gzF]
  refine wd_pureZ 5 (some 10) (v := ?_) ?_ ?_; rotate_left; · (intro u; go_simp; try with_reducible rfl)
  try simp only [Act.put, gzD, gzE, gzF]
  refine wd_takeZ 6 (some 11) (v := ?_) ?_ ?_; rotate_left; · (intro u hu; have ka := hA.gn (hB.trans hu).1; have kb := hD.gn (hB.trans hu).1; have a3 := ka.cell (i := 3) (v := .int .i64 p.2) rfl; have b3 := kb.cell (i := 3) (v := .int .i64 q.2) rfl; have l1 := ka.ldAt rowAd 0 (adC p.1) [.int .i64 p.2] rfl rfl; have l2 := kb.ldAt rowAd 0 (adC q.1) [.int .i64 q.2] rfl rfl; clear ka kb; go_simp; try with_reducible rfl)
  try simp only [Act.put, gzD, gzE, gzF]
  refine wd_pureZ 7 (some 12) (v := ?_) ?_ ?_; rotate_left; · (intro u; go_simp; try with_reducible rfl)
  try simp only [Act.put, gzD, gzE, gzF]
  refine wd_takeZ 8 (some 13) (v := ?_) ?_ ?_; rotate_left; · (intro u hu; have ka := hA.gn (hB.trans hu).1; have kb := hD.gn (hB.trans hu).1; have a3 := ka.cell (i := 3) (v := .int .i64 p.2) rfl; have b3 := kb.cell (i := 3) (v := .int .i64 q.2) rfl; have l1 := ka.ldAt rowAd 0 (adC p.1) [.int .i64 p.2] rfl rfl; have l2 := kb.ldAt rowAd 0 (adC q.1) [.int .i64 q.2] rfl rfl; clear ka kb; go_simp; try with_reducible rfl)
  try simp only [Act.put, gzD, gzE, gzF]
  refine wd_oneZ 4 (fun K hK => ?_)
  go_simp
  refine (C1.out _).mono ?_
  rintro e u4 ⟨rfl, hv1⟩
  refine hK _ _ hv1 ?_
  replace hB := hB.trans hv1
  clear hv1 hK K
  try simp only [Act.put, gzD, gzE, gzF]
  refine wd_oneZ 9 (fun K hK => ?_)
  go_simp
  refine (C2.out _).mono ?_
  rintro e u9 ⟨rfl, rfl⟩
  refine hK _ _ (Gd.refl _) ?_
  clear hK K
  try simp only [Act.put, gzD, gzE, gzF]
  refine wd_oneZ 10 (fun K hK => ?_)
  go_simp
  refine hK _ _ ((Gd.refl _).alloc _) ?_
  clear hK K
  refine wd_new (cs := [z1, z2].map (Value.int .i64)) (fun u91 hd1 hq1 hz1 => ?_)
  replace hB := hB.trans hd1
  try simp only [Act.put, gzD, gzE, gzF]
  refine wd_oneZ 11 (fun K hK => ?_)
  go_simp
  refine (orI_blk [z1, z2] _ _ _ _ hq1 (by simp)).mono ?_
  rintro e w' ⟨rfl, rfl⟩
  refine hK _ _ (Gd.refl _) ?_
  clear hK K
  try simp only [Act.put, gzD, gzE, gzF]
  refine wd_pureZ 12 (some 4) (v := ?_) ?_ ?_; rotate_left; · (intro u; go_simp; try with_reducible rfl)
  try simp only [Act.put, gzD, gzE, gzF]
  refine wd_done (by kernel_rfl) ?_ _
  go_wp2_with fail
  go_ret
  exact ⟨ret_i64 HR.out, hG.trans hB⟩
end Go.Proofs.YtfbggfpihiegpaaGreatDoor
