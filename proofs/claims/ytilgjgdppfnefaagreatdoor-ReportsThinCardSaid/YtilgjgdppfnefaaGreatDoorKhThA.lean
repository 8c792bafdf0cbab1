/- Reports that are put together: what it comes to. -/
import Derived.Test.YtilgjgdppfnefaaGreatDoorKhRqD
namespace Go.Proofs.YtilgjgdppfnefaaGreatDoor
open Go.RowKit
set_option linter.unusedVariables false
set_option linter.unusedSimpArgs false

/-- The sum of those at one place of the order. -/
def sumAt (f : Rp → Int) (z : Rp) : List Rp → Int
  | [] => 0
  | x :: r => if cmpRp x z = 0 then f x + sumAt f z r else sumAt f z r
theorem sumAt_app (f : Rp → Int) (z : Rp) : ∀ xs ys : List Rp, sumAt f z (xs ++ ys) = sumAt f z xs + sumAt f z ys
  | [], ys => by simp [sumAt]
  | x :: r, ys => by
    simp only [List.cons_append, sumAt]
    rw [sumAt_app f z r ys]
    split <;> omega
theorem sumAt_perm {f : Rp → Int} {z : Rp} {xs ys : List Rp} (h : xs.Perm ys) : sumAt f z xs = sumAt f z ys := by
  induction h with
  | nil => rfl
  | cons x _ ih => simp only [sumAt, ih]
  | swap x y l => simp only [sumAt]; split <;> split <;> omega
  | trans _ _ ih1 ih2 => exact ih1.trans ih2
theorem sumAt_nonneg {f : Rp → Int} {z : Rp} : ∀ {xs : List Rp}, (∀ x ∈ xs, 0 ≤ f x) → 0 ≤ sumAt f z xs
  | [], _ => by simp [sumAt]
  | x :: r, h => by
    have h1 := sumAt_nonneg (f := f) (z := z) (xs := r) (fun y hy => h y (List.mem_cons_of_mem _ hy))
    have h2 := h x (List.mem_cons_self ..)
    simp only [sumAt]
    split <;> omega
/-- Two reports of one node, hour and flow, in or out. -/
def SameK (x y : Rp) : Prop := x.node = y.node ∧ x.hour = y.hour ∧ x.out = y.out ∧ x.fl = y.fl
theorem SameK.cmp {x y : Rp} (h : SameK x y) (z : Rp) : cmpRp z x = cmpRp z y := by
  obtain ⟨h1, h2, h3, h4⟩ := h
  unfold cmpRp
  rw [h1, h2, h3, h4]
theorem SameK.zero {x y : Rp} (h : SameK x y) : cmpRp x y = 0 := by rw [← h.cmp x]; exact cm_rp.self x
theorem n_inj {a b : Ad} (ha : a.U) (hb : b.U) (h : a.n = b.n) : a = b := by
  have h1 := ha.v_lt
  have h2 := hb.v_lt
  obtain ⟨⟨p1, p2⟩, ⟨p3, p4⟩⟩ := ha
  obtain ⟨⟨q1, q2⟩, ⟨q3, q4⟩⟩ := hb
  obtain ⟨s, hi, lo⟩ := a
  obtain ⟨s', hi', lo'⟩ := b
  have hv : s = s' ∧ num hi lo = num hi' lo' := by
    unfold Ad.n s2n Ad.v at h
    unfold Ad.v at h1 h2
    simp only at h h1 h2
    cases s <;> cases s' <;> simp at h ⊢ <;> omega
  obtain ⟨rfl, hv⟩ := hv
  unfold num at hv
  simp only at p1 p2 p3 p4 q1 q2 q3 q4
  have e : hi = hi' ∧ lo = lo' := by constructor <;> omega
  rw [e.1, e.2]
theorem cmp_zero {x y : Rp} (hx : x.U) (hy : y.U) (h : cmpRp x y = 0) : SameK x y := by
  have ci : ∀ a b : Int, Lib.compareInt a b = 0 → a = b := fun a b h => by
    unfold Lib.compareInt at h
    split at h
    · cases h
    · split at h
      · cases h
      · omega
  have cn : ∀ a b : Nat, cmpN a b = 0 → a = b := fun a b h => by
    by_cases e : a = b
    · exact e
    · exact absurd h (cmpN_ne e)
  have key : ∀ (a : Int) (l : List Int), firstZ (a :: l) = 0 → a = 0 ∧ firstZ l = 0 := fun a l h => by
    rw [firstZ_thn] at h
    by_cases e : a = 0
    · rw [if_pos e] at h; exact ⟨e, h⟩
    · rw [if_neg e] at h; exact absurd h e
  unfold cmpRp at h
  obtain ⟨h1, h⟩ := key _ _ h
  obtain ⟨h2, h⟩ := key _ _ h
  obtain ⟨h3, h⟩ := key _ _ h
  obtain ⟨h4, _⟩ := key _ _ h
  unfold cmpFl at h4
  obtain ⟨k1, h4⟩ := key _ _ h4
  obtain ⟨k2, h4⟩ := key _ _ h4
  obtain ⟨k3, h4⟩ := key _ _ h4
  obtain ⟨k4, h4⟩ := key _ _ h4
  obtain ⟨k5, _⟩ := key _ _ h4
  refine ⟨?_, ci _ _ h1, ?_, ?_⟩
  · by_cases e : x.node = y.node
    · exact e
    · exact absurd h2 (compareBytes_ne e)
  · have := ci _ _ h3
    unfold rank at this
    clear h h1 h2 h3 h4 k1 k2 k3 k4 k5 hx hy key cn ci
    revert this
    cases x.out <;> cases y.out <;> simp
  · have e1 := ci _ _ k1
    have e2 := n_inj hx.1.1 hy.1.1 (cn _ _ k2)
    have e3 := n_inj hx.1.2.1 hy.1.2.1 (cn _ _ k3)
    have e4 := ci _ _ k4
    have e5 := ci _ _ k5
    obtain ⟨_, _, _, ⟨p, f, t, fp, tp⟩, _, _⟩ := x
    obtain ⟨_, _, _, ⟨p', f', t', fp', tp'⟩, _, _⟩ := y
    simp only at e1 e2 e3 e4 e5
    subst e1 e2 e3 e4 e5
    rfl
theorem sumAt_key (f : Rp → Int) {z z' : Rp} (h : SameK z z') : ∀ xs : List Rp, sumAt f z xs = sumAt f z' xs
  | [] => rfl
  | x :: r => by simp only [sumAt]; rw [sumAt_key f h r, h.cmp x]

def sat (n : Int) : Int := min n 1000000000000
/-- What a list of reports comes to when those of one place are put together. -/
structure Tog (ms zs : List Rp) : Prop where
  srt : zs.Pairwise LtR
  key : ∀ z ∈ zs, ∃ x ∈ ms, SameK x z
  all : ∀ x ∈ ms, ∃ z ∈ zs, cmpRp x z = 0
  pk : ∀ z ∈ zs, z.pk = sat (sumAt Rp.pk z ms)
  by_ : ∀ z ∈ zs, z.by_ = sat (sumAt Rp.by_ z ms)
theorem Tog.sub {ms zs zs' : List Rp} (hU : ∀ x ∈ ms, x.U) (h : Tog ms zs) (h' : Tog ms zs') {z : Rp} (hz : z ∈ zs) : z ∈ zs' := by
  obtain ⟨x, hx, hxz⟩ := h.key z hz
  obtain ⟨z', hz', h0⟩ := h'.all x hx
  obtain ⟨x', hx', hxz'⟩ := h'.key z' hz'
  have h1 : cmpRp x x' = 0 := by rw [hxz'.cmp x]; exact h0
  have h2 := cmp_zero (hU x hx) (hU x' hx') h1
  have hk : SameK z z' := ⟨hxz.1.symm.trans (h2.1.trans hxz'.1), hxz.2.1.symm.trans (h2.2.1.trans hxz'.2.1), hxz.2.2.1.symm.trans (h2.2.2.1.trans hxz'.2.2.1), hxz.2.2.2.symm.trans (h2.2.2.2.trans hxz'.2.2.2)⟩
  have e1 : z.pk = z'.pk := by rw [h.pk z hz, h'.pk z' hz', sumAt_key _ hk]
  have e2 : z.by_ = z'.by_ := by rw [h.by_ z hz, h'.by_ z' hz', sumAt_key _ hk]
  have e : z = z' := by
    obtain ⟨k1, k2, k3, k4⟩ := hk
    cases z; cases z'
    simp_all
  rw [e]
  exact hz'
theorem Tog.unique {ms zs zs' : List Rp} (hU : ∀ x ∈ ms, x.U) (h : Tog ms zs) (h' : Tog ms zs') : zs = zs' :=
  strict_unique _ _ h.srt h'.srt (fun _ => ⟨fun k => h.sub hU h' k, fun k => h'.sub hU h k⟩)
theorem Tog.perm {ms ms' zs : List Rp} (hp : ms.Perm ms') (h : Tog ms zs) : Tog ms' zs :=
  ⟨h.srt, fun z hz => by obtain ⟨x, hx, k⟩ := h.key z hz; exact ⟨x, hp.mem_iff.1 hx, k⟩, fun x hx => h.all x (hp.mem_iff.2 hx), fun z hz => by rw [h.pk z hz, sumAt_perm hp], fun z hz => by rw [h.by_ z hz, sumAt_perm hp]⟩
theorem Tog.nil : Tog [] [] := ⟨List.Pairwise.nil, by simp, by simp, by simp, by simp⟩

/-- Packets and bytes of a right report. -/
def Rp.N (x : Rp) : Prop := 0 ≤ x.pk ∧ x.pk ≤ 1000000000000 ∧ 0 ≤ x.by_ ∧ x.by_ ≤ 1000000000000
theorem sumAt_none {f : Rp → Int} {z : Rp} : ∀ {xs : List Rp}, (∀ x ∈ xs, cmpRp x z ≠ 0) → sumAt f z xs = 0
  | [], _ => rfl
  | x :: r, h => by
    simp only [sumAt]
    rw [if_neg (h x (List.mem_cons_self ..)), sumAt_none (fun y hy => h y (List.mem_cons_of_mem _ hy))]
/-- One more, of a place behind. -/
theorem Tog.new {ps zs : List Rp} {r : Rp} (h : Tog ps zs) (hN : r.N) (hlt : ∀ z ∈ zs, LtR z r) : Tog (ps ++ [r]) (zs ++ [r]) := by
  have hz0 : ∀ z ∈ zs, cmpRp r z ≠ 0 := fun z hz e => by
    have h1 : cmpRp z r < 0 := hlt z hz
    have h2 := cm_rp.anti r z
    omega
  have hp0 : ∀ x ∈ ps, cmpRp x r ≠ 0 := fun x hx e => by
    obtain ⟨z, hz, hxz⟩ := h.all x hx
    have h1 : cmpRp z r < 0 := hlt z hz
    have h2 := cm_rp.anti x z
    have h3 := cm_rp.lt (x := x) (y := z) (z := r) (by omega) (by omega) (.inr h1)
    omega
  refine ⟨?_, ?_, ?_, ?_, ?_⟩
  · rw [List.pairwise_append]
    exact ⟨h.srt, List.pairwise_singleton _ _, fun a ha b hb => by rw [List.mem_singleton.1 hb]; exact hlt a ha⟩
  · intro z hz
    rcases List.mem_append.1 hz with k | k
    · obtain ⟨x, hx, hk⟩ := h.key z k
      exact ⟨x, List.mem_append_left _ hx, hk⟩
    · rw [List.mem_singleton.1 k]
      exact ⟨r, by simp, rfl, rfl, rfl, rfl⟩
  · intro x hx
    rcases List.mem_append.1 hx with k | k
    · obtain ⟨z, hz, h0⟩ := h.all x k
      exact ⟨z, List.mem_append_left _ hz, h0⟩
    · rw [List.mem_singleton.1 k]
      exact ⟨r, by simp, cm_rp.self r⟩
  · intro z hz
    rw [sumAt_app]
    rcases List.mem_append.1 hz with k | k
    · simp only [sumAt]
      rw [if_neg (hz0 z k), Int.add_zero]
      exact h.pk z k
    · rw [List.mem_singleton.1 k, sumAt_none hp0]
      simp only [sumAt]
      rw [if_pos (cm_rp.self r)]
      unfold sat
      have := hN.2.1
      omega
  · intro z hz
    rw [sumAt_app]
    rcases List.mem_append.1 hz with k | k
    · simp only [sumAt]
      rw [if_neg (hz0 z k), Int.add_zero]
      exact h.by_ z k
    · rw [List.mem_singleton.1 k, sumAt_none hp0]
      simp only [sumAt]
      rw [if_pos (cm_rp.self r)]
      unfold sat
      have := hN.2.2.2
      omega
/-- Two reports of one place put together. -/
def putT (x y : Rp) : Rp := { x with pk := sat (x.pk + y.pk), by_ := sat (x.by_ + y.by_) }
theorem putT_key (x y : Rp) : SameK (putT x y) x := ⟨rfl, rfl, rfl, rfl⟩
/-- One more, of the last place. -/
theorem Tog.last {ps zs : List Rp} {r z : Rp} (h : Tog ps (zs ++ [z])) (hN : r.N) (hP : ∀ x ∈ ps, x.N) (h0 : cmpRp z r = 0) : Tog (ps ++ [r]) (zs ++ [putT z r]) := by
  have hs := h.srt
  rw [List.pairwise_append] at hs
  obtain ⟨hs1, _, hs3⟩ := hs
  have hlt : ∀ w ∈ zs, LtR w z := fun w hw => hs3 w hw z (by simp)
  have hr0 : cmpRp r z = 0 := by rw [cm_rp.anti z r]; omega
  have hk := putT_key z r
  have hw0 : ∀ w ∈ zs, cmpRp r w ≠ 0 := fun w hw e => by
    have h1 : cmpRp w z < 0 := hlt w hw
    have h2 := cm_rp.anti r w
    have h3 := cm_rp.lt (x := w) (y := z) (z := r) (by omega) (by omega) (.inl h1)
    omega
  have hzN1 := sumAt_nonneg (f := Rp.pk) (z := z) (xs := ps) (fun x hx => (hP x hx).1)
  have hzN2 := sumAt_nonneg (f := Rp.by_) (z := z) (xs := ps) (fun x hx => (hP x hx).2.2.1)
  refine ⟨?_, ?_, ?_, ?_, ?_⟩
  · rw [List.pairwise_append]
    exact ⟨hs1, List.pairwise_singleton _ _, fun a ha b hb => by
      rw [List.mem_singleton.1 hb]
      show cmpRp a (putT z r) < 0
      rw [hk.cmp a]
      exact hlt a ha⟩
  · intro w hw
    rcases List.mem_append.1 hw with k | k
    · obtain ⟨x, hx, hkx⟩ := h.key w (List.mem_append_left _ k)
      exact ⟨x, List.mem_append_left _ hx, hkx⟩
    · rw [List.mem_singleton.1 k]
      obtain ⟨x, hx, hkx⟩ := h.key z (by simp)
      exact ⟨x, List.mem_append_left _ hx, hkx.1, hkx.2.1, hkx.2.2.1, hkx.2.2.2⟩
  · intro x hx
    rcases List.mem_append.1 hx with k | k
    · obtain ⟨w, hw, hxw⟩ := h.all x k
      rcases List.mem_append.1 hw with k2 | k2
      · exact ⟨w, List.mem_append_left _ k2, hxw⟩
      · rw [List.mem_singleton.1 k2] at hxw
        exact ⟨putT z r, by simp, by rw [hk.cmp x]; exact hxw⟩
    · rw [List.mem_singleton.1 k]
      exact ⟨putT z r, by simp, by rw [hk.cmp r]; exact hr0⟩
  · intro w hw
    rw [sumAt_app]
    rcases List.mem_append.1 hw with k | k
    · simp only [sumAt]
      rw [if_neg (hw0 w k), Int.add_zero]
      exact h.pk w (List.mem_append_left _ k)
    · rw [List.mem_singleton.1 k, sumAt_key _ hk, sumAt_key _ hk]
      simp only [sumAt]
      rw [if_pos hr0]
      have e := h.pk z (by simp)
      show sat (z.pk + r.pk) = _
      rw [e]
      unfold sat
      have := hN.1
      omega
  · intro w hw
    rw [sumAt_app]
    rcases List.mem_append.1 hw with k | k
    · simp only [sumAt]
      rw [if_neg (hw0 w k), Int.add_zero]
      exact h.by_ w (List.mem_append_left _ k)
    · rw [List.mem_singleton.1 k, sumAt_key _ hk, sumAt_key _ hk]
      simp only [sumAt]
      rw [if_pos hr0]
      have e := h.by_ z (by simp)
      show sat (z.by_ + r.by_) = _
      rw [e]
      unfold sat
      have := hN.2.2.1
      omega
/-- Lists of places that follow each other. -/
theorem Tog.app {ms zs ns : List Rp} (h : Tog ms zs) (hn : ns.Pairwise LtR) (hN : ∀ x ∈ ns, x.N) (hlt : ∀ z ∈ zs, ∀ x ∈ ns, LtR z x) : Tog (ms ++ ns) (zs ++ ns) := by
  induction ns generalizing ms zs with
  | nil => simpa using h
  | cons x r ih =>
    rw [List.pairwise_cons] at hn
    have h1 := h.new (hN x (List.mem_cons_self ..)) (fun z hz => hlt z hz x (List.mem_cons_self ..))
    have h2 := ih h1 hn.2 (fun y hy => hN y (List.mem_cons_of_mem _ hy)) (fun z hz y hy => by
      rcases List.mem_append.1 hz with k | k
      · exact hlt z k y (List.mem_cons_of_mem _ hy)
      · rw [List.mem_singleton.1 k]; exact hn.1 y hy)
    simpa using h2
end Go.Proofs.YtilgjgdppfnefaaGreatDoor
