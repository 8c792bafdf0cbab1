/- Tables: where two of them differ first (pure). -/
import Derived.Test.YtfpcalgkfagjkaaGreatDoorKrTdA
import Derived.Test.YtfpcalgkfagjkaaGreatDoorKrTbL
import Derived.Test.YtfpcalgkfagjkaaGreatDoorKrTbH
set_option linter.unusedVariables false
set_option linter.unusedSimpArgs false
set_option maxRecDepth 100000
namespace Go.Proofs.YtfpcalgkfagjkaaGreatDoor
open Go.RowKit

def hasT (t : List En) (m : Nat) : Bool := t.any fun x => inQ x.p m
theorem hasT_iff {t : List En} {m : Nat} : hasT t m = true ↔ ∃ x ∈ t, inQ x.p m = true := List.any_eq_true
theorem lookT_max {t : List En} (h : TbD t) {m : Nat} {x : En} (hx : x ∈ t) (hm : inQ x.p m = true) (hmax : ∀ y ∈ t, inQ y.p m = true → y.p.2 ≤ x.p.2) : lookT t m = x.nm := by
  rcases longF_spec (fun p => inQ p m) t h.bits with ⟨h1, _⟩ | ⟨y, hy, h1, h2, h3⟩
  · rw [h1 x hx] at hm; cases hm
  · have e1 := h2 x hx hm
    have e2 := hmax y hy h1
    have e3 := h.d x hx y hy (one_of (h.r x hx) (h.r y hy) hm h1 (by omega))
    unfold lookT
    rw [h3, e3]
theorem lookT_none {t : List En} (h : ∀ x ∈ t, 0 ≤ x.p.2) {m : Nat} (hn : ∀ x ∈ t, inQ x.p m = false) : lookT t m = [] := by
  rcases longF_spec (fun p => inQ p m) t h with ⟨_, h2⟩ | ⟨y, hy, h1, _⟩
  · exact h2
  · rw [hn y hy] at h1; cases h1

set_option maxHeartbeats 4000000 in
theorem lookOf_any (A : Option Addr) (n cap : Nat) (t : List En) (a : Ad) (w : World) (hS : SlE eEn w A n cap t) (hn : n ≤ 100000) (hD : TbD t) (ha : a.R) :
    Calls Tryz.prog 17 #[.slice A n cap, adA a] w (GivesV (.tuple #[.string ⟨(lookT t a.n).toArray⟩, .bool (hasT t a.n)]) w) := by
  have hl := Lib.hid hS.1
  have hA := Blk.new w (adC a) 30
  have hbw : Below w.heap.size w (w.alloc (.cells (adC a).toArray 30)) := (Below.refl _ _).alloc (Nat.le_refl _) _
  have HH := Lib.hid (fun x (hx : x ∈ t) W => holds_n x.p a W (hD.r x hx) ha)
  obtain ⟨LV, hLV⟩ : ∃ s, s = lookT t a.n := ⟨_, rfl⟩
  obtain ⟨HV, hHV⟩ : ∃ s, s = hasT t a.n := ⟨_, rfl⟩
  rw [← hLV, ← hHV]
  replace hLV := Lib.hid hLV
  replace hHV := Lib.hid hHV
  replace hS := Lib.hid hS
  replace hD := Lib.hid hD
  clear ha
  go_enter Tryz.func17, Tryz.ntmps17
  go_wp2_with fail
  go_loopw [6] (fun vb wr => ∃ i : Int, -1 ≤ i ∧ i ≤ 128 ∧ vb = .int .i64 i ∧ Below w.heap.size w wr ∧ Blk wr w.heap.size (adC a) 30 ∧ Hid (∀ x ∈ t, inQ x.p a.n = true → x.p.2 ≤ i)) (fun vb _ => (intOf vb + 1).toNat)
  case atStart => exact ⟨128, by decide, by decide, rfl, hbw, hA, Lib.hid (fun x hx _ => by have h := (hD.out.r x hx).2.2.1; rcases lenZ_le x.p.1.s with k | k <;> omega)⟩
  case round =>
    clear hbw hA
    obtain ⟨i, hi1, hi2, rfl, hbw, hA, hI⟩ := hrel
    by_cases hi : 0 ≤ i
    · have e1 : IntKind.i64.wrap (i - 1) = i - 1 := IntWalk.i64_in _ (by omega)
      go_wp2_with fail
      go_loopw [15] (fun vk wx => ∃ k : Nat, k ≤ n ∧ vk = .int .i64 k ∧ Below w.heap.size w wx ∧ Blk wx w.heap.size (adC a) 30 ∧ Hid (∀ j z, j < k → t[j]? = some z → inQ z.p a.n = true → z.p.2 ≠ i)) (fun vk _ => n - (intOf vk).toNat)
      case atStart => exact ⟨0, Nat.zero_le _, rfl, hbw, hA, Lib.hid (fun j z h => absurd h (Nat.not_lt_zero _))⟩
      case round =>
        clear hbw hA
        obtain ⟨k, hk, rfl, hbw, hA, hJ⟩ := hrel
        by_cases hlt : k < n
        · obtain ⟨x, hx⟩ : ∃ x, t[k]? = some x := ⟨t[k]'(by have := hl.out; omega), List.getElem?_eq_getElem _⟩
          obtain ⟨g0, off, rfl, _, _⟩ := hS.out.at' hlt
          have hld := SlE.ld rowEn (hS.out.below hbw) hx
          have hxt := Lib.hid (List.mem_of_getElem? hx)
          have hlt' : (k : Int) < n := by omega
          have hsw := hbw.size
          have S1 := stT_new rowEn (te := 37) wr wr.heap.size rfl [.bool false, .int .u64 0, .int .u64 0, .int .i64 0, .string ⟨#[]⟩] (enC x) rfl rfl (enC_one x)
          have hX := Blk.new wr (enC x) 37
          have hvA : Below wr.heap.size wr (wr.alloc (.cells (enC x).toArray 37)) := (Below.refl _ _).alloc (Nat.le_refl _) _
          replace hld : (ldT 37 (.pointer (some ⟨g0, off + k * 5, none⟩))).run Tryz.prog wr = .ok (.value (enA x)) wr := hld
          replace hA := hA.below hvA
          replace hbw := hbw.trans (hvA.mono hbw.size)
          have c3 := hX.cell (i := 3) (v := .int .i64 x.p.2) rfl
          have HHx := Lib.hid (fun W => HH.out x hxt.out W)
          obtain ⟨V, hV⟩ : ∃ V, V = inQ x.p a.n := ⟨_, rfl⟩
          rw [← hV] at HHx
          have hJ2 := Lib.hid (show (V = true → x.p.2 ≠ i) → ∀ j z, j < k + 1 → t[j]? = some z → inQ z.p a.n = true → z.p.2 ≠ i from fun h j z hj hz hin => by
            rcases Nat.lt_succ_iff_lt_or_eq.1 hj with g | rfl
            · exact hJ.out j z g hz hin
            · rw [hx] at hz
              obtain rfl := Option.some.inj hz
              exact h (hV.trans hin))
          replace hV := Lib.hid hV
          clear hvA hx hJ
          by_cases hb : x.p.2 = i
          · have hb0 : (x.p.2 == i) = true := by simp [hb]
            have lp := hX.ldAt rowPf 0 (pfC x.p) [.string ⟨x.nm.toArray⟩] rfl rfl
            have la := hA.ld rowAd rfl
            replace hb := Lib.hid hb
            go_wp2_with fail
            refine (HHx.out _).mono ?_
            rintro e w1 ⟨rfl, hv⟩
            replace hX := hX.below hv
            replace hA := hA.below hv
            replace hbw := hbw.trans (hv.mono hbw.size)
            clear hv lp la c3 S1 hld HHx
            cases V with
            | true =>
              have c4 := hX.cell (i := 4) (v := .string ⟨x.nm.toArray⟩) rfl
              have hL2 := Lib.hid (show LV = x.nm by rw [hLV.out]; exact lookT_max hD.out hxt.out hV.out.symm (fun z hz hin => by rw [hb.out]; exact hI.out z hz hin))
              have hH2 := Lib.hid (show HV = true by rw [hHV.out]; exact hasT_iff.2 ⟨x, hxt.out, hV.out.symm⟩)
              clear hJ2
              go_wp2_with fail
              go_ret2
              exact ⟨by rw [hL2.out, hH2.out]; rfl, hbw⟩
            | false =>
              have hJ3 := Lib.hid (hJ2.out (fun h => by cases h))
              clear hJ2
              go_wp2_with fail
              go_roundw
              case rel => exact ⟨k + 1, by omega, by go_num, hbw, hA, hJ3⟩
              case measure => simp [intOf]; omega
          · have hb0 : (x.p.2 == i) = false := by simp [hb]
            have hJ3 := Lib.hid (hJ2.out (fun _ => hb))
            clear hJ2 hb HHx
            go_wp2_with fail
            go_roundw
            case rel => exact ⟨k + 1, by omega, by go_num, hbw, hA, hJ3⟩
            case measure => simp [intOf]; omega
        · have hI2 := Lib.hid (show ∀ x ∈ t, inQ x.p a.n = true → x.p.2 ≤ i - 1 from fun x hx hin => by
            have h1 := hI.out x hx hin
            obtain ⟨j, hj⟩ := List.getElem?_of_mem hx
            have h2 := hJ.out j x (by have h3 := (List.getElem?_eq_some_iff.1 hj).1; have := hl.out; omega) hj hin
            omega)
          have hnlt : ¬ (k : Int) < n := by omega
          clear hJ
          go_wp2_with fail
          go_roundw
          case rel => exact ⟨i - 1, by omega, by omega, rfl, hbw, hA, hI2⟩
          case measure => simp [intOf]; omega
    · have hno : ∀ x ∈ t, inQ x.p a.n = false := fun x hx => by
        rw [Bool.eq_false_iff]
        intro h
        have h1 := hI.out x hx h
        have h2 := hD.out.bits x hx
        omega
      have hL2 := Lib.hid (show LV = [] by rw [hLV.out]; exact lookT_none hD.out.bits hno)
      have hH2 := Lib.hid (show HV = false by rw [hHV.out, Bool.eq_false_iff]; intro h; obtain ⟨x, hx, hin⟩ := hasT_iff.1 h; rw [hno x hx] at hin; cases hin)
      clear hno hI
      go_wp2_with fail
      go_ret2
      exact ⟨by rw [hL2.out, hH2.out]; rfl, hbw⟩

def cut1 (x : En) : List Nat := x.p.1.n :: (if x.p.1.n + 2 ^ freeB x.p - 1 = topN x.p.1.s then [] else [x.p.1.n + 2 ^ freeB x.p - 1 + 1])
def cutsW (ts : List En) : List Nat := s2n false :: s2n true :: ts.flatMap cut1
theorem cutsW_app (ts : List En) (x : En) : cutsW (ts ++ [x]) = cutsW ts ++ cut1 x := by
  unfold cutsW
  rw [List.flatMap_append, List.flatMap_singleton]
  rfl
theorem strict_of : ∀ ws : List Nat, ws.Pairwise (· ≤ ·) → ∃ vs : List Nat, vs.Pairwise (· < ·) ∧ ∀ m, m ∈ vs ↔ m ∈ ws
  | [], _ => ⟨[], .nil, fun m => Iff.rfl⟩
  | a :: r, h => by
    obtain ⟨h1, h2⟩ := List.pairwise_cons.1 h
    obtain ⟨vs, h3, h4⟩ := strict_of r h2
    by_cases ha : a ∈ vs
    · refine ⟨vs, h3, fun m => ?_⟩
      rw [h4, List.mem_cons]
      exact ⟨.inr, fun k => k.elim (fun e => by rw [e]; exact (h4 a).1 ha) id⟩
    · refine ⟨a :: vs, List.pairwise_cons.2 ⟨fun b hb => ?_, h3⟩, fun m => ?_⟩
      · have h5 := h1 b ((h4 b).1 hb)
        have hne : a ≠ b := fun e => ha (e ▸ hb)
        exact Nat.lt_of_le_of_ne h5 hne
      · rw [List.mem_cons, List.mem_cons, h4]
theorem valT_ad {a : Ad} (h : a.R) : Val a.n := inA_val (xs := [(a, a)]) (fun x hx => by rw [List.mem_singleton.1 hx]; exact ⟨h, h, rfl, Nat.le_refl _⟩) ⟨_, List.mem_singleton_self _, Nat.le_refl _, Nat.le_refl _⟩
theorem valT_fam {s : Bool} {m : Nat} (h1 : s2n s ≤ m) (h2 : m ≤ topN s) : Val m := by
  obtain ⟨h3, h4, _⟩ := adOf_fam h1 h2
  rw [← h4]
  exact valT_ad h3
theorem valT_lt {m : Nat} (h : Val m) : m < 2 ^ 129 := by
  rcases h with h | h
  · exact Nat.lt_of_lt_of_le h (Nat.pow_le_pow_right (by omega) (by omega))
  · exact h.2
theorem cut1_val {x : En} (h : x.p.R) {m : Nat} (hm : m ∈ cut1 x) : Val m := by
  have h1 := rg_fam (rgP_R h)
  have h2 := rgP_n h
  have hle := (rgP_R h).2.2.2
  rw [h2] at h1 hle
  have e1 : (rgP x.p).1 = x.p.1 := rfl
  rw [e1] at h1 hle
  unfold cut1 at hm
  rcases List.mem_cons.1 hm with rfl | hm
  · exact valT_fam h1.1 (Nat.le_trans hle h1.2)
  · split at hm
    · cases hm
    · rename_i hne
      rw [List.mem_singleton.1 hm]
      exact valT_fam (Nat.le_succ_of_le (Nat.le_trans h1.1 hle)) (Nat.lt_of_le_of_ne h1.2 hne)
theorem s2n_top (s : Bool) : s2n s ≤ topN s := by unfold topN; exact Nat.le_add_right _ _
theorem cutsW_val {ts : List En} (h : ∀ x ∈ ts, x.p.R) {m : Nat} (hm : m ∈ cutsW ts) : Val m := by
  unfold cutsW at hm
  rcases List.mem_cons.1 hm with rfl | hm
  · exact valT_fam (Nat.le_refl _) (s2n_top _)
  · rcases List.mem_cons.1 hm with rfl | hm
    · exact valT_fam (Nat.le_refl _) (s2n_top _)
    · obtain ⟨x, hx, h1⟩ := List.mem_flatMap.1 hm
      exact cut1_val (h x hx) h1
theorem cut_of {ts : List En} (ht : ∀ x ∈ ts, x.p.R) {ws : List Nat} (hp : ws.Perm (cutsW ts)) (hs : ws.Pairwise (· ≤ ·)) : ∃ cs, Cut cs ∧ (∀ c ∈ cs, c.n ∈ ws) ∧ ∀ m ∈ ws, ∃ c ∈ cs, c.n = m := by
  obtain ⟨vs, h1, h2⟩ := strict_of ws hs
  have hv : ∀ m ∈ vs, Val m := fun m hm => cutsW_val ht (hp.mem_iff.1 ((h2 m).1 hm))
  have hn : ∀ m ∈ vs, (adOf m).n = m := fun m hm => adOf_n (valT_lt (hv m hm))
  have hin : ∀ m ∈ ws, ∃ c ∈ vs.map adOf, c.n = m := fun m hm => ⟨adOf m, List.mem_map_of_mem ((h2 m).2 hm), hn m ((h2 m).2 hm)⟩
  refine ⟨vs.map adOf, ⟨?_, ?_, ?_⟩, ?_, hin⟩
  · rw [List.pairwise_map]
    exact h1.imp_of_mem fun {a b} ha hb hab => by rw [hn a ha, hn b hb]; exact hab
  · intro a ha
    obtain ⟨m, hm, rfl⟩ := List.mem_map.1 ha
    exact adOf_R (hv m hm)
  · intro s
    exact hin (s2n s) (hp.mem_iff.2 (by unfold cutsW; cases s <;> simp))
  · intro c hc
    obtain ⟨m, hm, rfl⟩ := List.mem_map.1 hc
    rw [hn m hm]
    exact (h2 m).1 hm
theorem dif_of {t u : List En} (ht : ∀ x ∈ t, x.p.R) (hu : ∀ x ∈ u, x.p.R) {ws : List Nat} (hp : ws.Perm (cutsW (t ++ u))) (hs : ws.Pairwise (· ≤ ·)) {m : Nat} (hm : Val m) (hall : ∀ c ∈ ws, c ≤ m → lookT t c = lookT u c) : lookT t m = lookT u m := by
  have htu : ∀ x ∈ t ++ u, x.p.R := fun x hx => (List.mem_append.1 hx).elim (ht x) (hu x)
  obtain ⟨cs, hC, h1, h2⟩ := cut_of htu hp hs
  have key : ∀ x ∈ t.map (fun e => rgP e.p) ++ u.map (fun e => rgP e.p), ∃ e ∈ t ++ u, x = rgP e.p := fun x hx => by
    rw [← List.map_append] at hx
    obtain ⟨e, he, rfl⟩ := List.mem_map.1 hx
    exact ⟨e, he, rfl⟩
  have hin : ∀ e ∈ t ++ u, ∀ c ∈ cut1 e, c ∈ ws := fun e he c hc => hp.mem_iff.2 (List.mem_cons_of_mem _ (List.mem_cons_of_mem _ (List.mem_flatMap.2 ⟨e, he, hc⟩)))
  refine cuts_say ht hu hC ?_ ?_ hm (fun c hc hl => hall _ (h1 c hc) hl)
  · intro x hx
    obtain ⟨e, he, rfl⟩ := key x hx
    exact h2 _ (hin e he _ List.mem_cons_self)
  · intro x hx hne
    obtain ⟨e, he, rfl⟩ := key x hx
    have hn := rgP_n (htu e he)
    have hs := (rgP_R (htu e he)).2.2.1
    rw [hn, ← hs] at hne
    rw [hn]
    refine h2 _ (hin e he _ (List.mem_cons_of_mem _ ?_))
    have hne' : ¬ e.p.1.n + 2 ^ freeB e.p - 1 = topN e.p.1.s := hne
    rw [if_neg hne']
    exact List.mem_singleton_self _
theorem difP_first {t u : List En} (ht : ∀ x ∈ t, x.p.R) (hu : ∀ x ∈ u, x.p.R) {ws : List Nat} (hp : ws.Perm (cutsW (t ++ u))) (hs : ws.Pairwise (· ≤ ·)) {k m : Nat} (hm : ws[k]? = some m) (hpre : ∀ j c, j < k → ws[j]? = some c → lookT t c = lookT u c) (hd : lookT t m ≠ lookT u m) : DifP t u 0 (adOf m) true := by
  have htu : ∀ x ∈ t ++ u, x.p.R := fun x hx => (List.mem_append.1 hx).elim (ht x) (hu x)
  have hv := cutsW_val htu (hp.mem_iff.1 (List.mem_of_getElem? hm))
  have hn := adOf_n (valT_lt hv)
  refine ⟨fun _ => ⟨rfl, adOf_R hv, ?_, ?_⟩, fun h => (by cases h)⟩
  · rw [hn]; exact hd
  · intro m' hm' hlt
    rw [hn] at hlt
    refine dif_of ht hu hp hs hm' fun c hc hle => ?_
    obtain ⟨j, hj⟩ := List.getElem?_of_mem hc
    refine hpre j c ?_ hj
    refine Nat.lt_of_not_le fun hkj => ?_
    obtain ⟨k1, k2⟩ := List.getElem?_eq_some_iff.1 hm
    obtain ⟨j1, j2⟩ := List.getElem?_eq_some_iff.1 hj
    rcases Nat.lt_or_eq_of_le hkj with h | h
    · have h5 := List.pairwise_iff_getElem.1 hs k j k1 j1 h
      rw [k2, j2] at h5
      exact Nat.lt_irrefl _ (Nat.lt_of_lt_of_le hlt (Nat.le_trans h5 hle))
    · subst h
      rw [k2] at j2
      rw [← j2] at hle
      exact Nat.lt_irrefl _ (Nat.lt_of_lt_of_le hlt hle)
theorem difP_none {t u : List En} (ht : ∀ x ∈ t, x.p.R) (hu : ∀ x ∈ u, x.p.R) {ws : List Nat} (hp : ws.Perm (cutsW (t ++ u))) (hs : ws.Pairwise (· ≤ ·)) (hpre : ∀ j c, j < ws.length → ws[j]? = some c → lookT t c = lookT u c) : DifP t u 0 ⟨false, 0, 0⟩ false := by
  refine ⟨fun h => (by cases h), fun _ => ⟨rfl, fun _ m hm => dif_of ht hu hp hs hm fun c hc _ => ?_⟩⟩
  obtain ⟨j, hj⟩ := List.getElem?_of_mem hc
  exact hpre j c (List.getElem?_eq_some_iff.1 hj).1 hj
theorem DifP.unique {t u : List En} {b b' : Ad} {is is' : Bool} (h : DifP t u 0 b is) (h' : DifP t u 0 b' is') : b = b' ∧ is = is' := by
  cases is <;> cases is'
  · exact ⟨(h.2 rfl).1.trans (h'.2 rfl).1.symm, rfl⟩
  · obtain ⟨_, h1, h2, _⟩ := h'.1 rfl
    exact absurd ((h.2 rfl).2 rfl _ (valT_ad h1)) h2
  · obtain ⟨_, h1, h2, _⟩ := h.1 rfl
    exact absurd ((h'.2 rfl).2 rfl _ (valT_ad h1)) h2
  · obtain ⟨_, h1, h2, h3⟩ := h.1 rfl
    obtain ⟨_, h4, h5, h6⟩ := h'.1 rfl
    have e : b.n = b'.n := by
      rcases Nat.lt_trichotomy b.n b'.n with k | k | k
      · exact absurd (h6 _ (valT_ad h1) k) h2
      · exact k
      · exact absurd (h3 _ (valT_ad h4) k) h5
    exact ⟨Ad.ext' h1.1 h4.1 e, rfl⟩
theorem DifP.bad {t u : List En} {E : Int} {b : Ad} {is : Bool} (h : DifP t u E b is) (hE : E ≠ 0) : b = ⟨false, 0, 0⟩ ∧ is = false := by
  cases is
  · exact ⟨(h.2 rfl).1, rfl⟩
  · exact absurd (h.1 rfl).1 hE
theorem hasT_look {t : List En} (hR : ∀ x ∈ t, x.p.R) (hN : ∀ x ∈ t, x.nm ≠ []) (m : Nat) : hasT t m = !(lookT t m).isEmpty := by
  unfold hasT lookT
  rcases longF_spec (fun p => inQ p m) t (fun x hx => (hR x hx).2.1) with ⟨h1, h2⟩ | ⟨x, hx, h1, _, h3⟩
  · rw [h2]
    show _ = false
    rw [List.any_eq_false]
    exact fun x hx => by rw [h1 x hx]; decide
  · rw [h3]
    have h4 : t.any (fun x => inQ x.p m) = true := List.any_eq_true.2 ⟨x, hx, h1⟩
    rw [h4]
    have := hN x hx
    cases h5 : x.nm with
    | nil => exact absurd h5 this
    | cons a r => rfl
end Go.Proofs.YtfpcalgkfagjkaaGreatDoor
