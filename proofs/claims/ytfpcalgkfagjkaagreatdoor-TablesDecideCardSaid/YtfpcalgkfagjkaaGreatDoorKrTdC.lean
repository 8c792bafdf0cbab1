/- Tables: Clone and DeleteFunc of entries. -/
import Derived.Test.YtfpcalgkfagjkaaGreatDoorKrTdF
import Derived.Test.YtfpcalgkfagjkaaGreatDoorKrTbJ
set_option linter.unusedVariables false
set_option linter.unusedSimpArgs false
set_option maxRecDepth 100000
namespace Go.Proofs.YtfpcalgkfagjkaaGreatDoor
open Go.RowKit

set_option maxHeartbeats 4000000 in
theorem cloneEn_any (A : Option Addr) (n cap : Nat) (xs : List En) (w : World) (hS : SlE eEn w A n cap xs) (hn : n ≤ 100000) :
    Calls Tryz.prog 7 #[.slice A n cap] w fun e w' => ∃ v', e = .returned v' ∧ OwnE eEn 37 w.heap.size w' v' xs ∧ Below w.heap.size w w' := by
  have q22 : ∀ (w : World) (a : Option Addr) (n c n' c' : Nat), (binOp .eql 26 (.slice a n c) (.slice none n' c')).run Tryz.prog w = .ok (.bool a.isNone) w := fun w a n c n' c' => Lib.run_eql_slice_nil w _ _ a n c n' c' Tryz.underlying26
  have hlen := Lib.hid hS.1
  have hS := Lib.hid hS
  cases A with
  | none =>
    have hxs : xs = [] := by
      rcases hS.out.2.2.2 with h | ⟨g, off, h, _⟩
      · exact List.length_eq_zero_iff.1 (by have := hlen.out; omega)
      · cases h
    subst hxs
    obtain rfl : n = 0 := by simpa using hlen.out
    clear hlen
    go_enter Tryz.func7, Tryz.ntmps7
    go_wp2_with fail
    go_ret
    exact ⟨_, rfl, OwnE.nil _ _, Below.refl _ _⟩
  | some a =>
    have hc := Lib.hid (fun j u (hj : (Enc.cells eEn xs)[j]? = some u) => hS.out.cells j u hj)
    go_enter Tryz.func7, Tryz.ntmps7
    go_wp2_with (at_builtin; refine wpList_app tyeEn rfl _ _ rfl w.heap.size _ [] xs rfl (World.ownsRow_made w #[] 0 (Nat.le_refl _) (Nat.zero_le _) (by simp)) a n cap rfl ?c1 ?c2 ?c3 ?c4 ?_)
    case c1 => exact hlen.out
    case c2 =>
      intro j u hj
      exact Lib.cell?_alloc_some _ (hc.out j u hj)
    case c3 => rw [← hlen.out]; simp; omega
    case c4 => simp
    intro v' w1 hown hgrow _
    have hB := ((Below.refl _ w).alloc (Nat.le_refl _) _).grown hgrow (by simp) (by intro k hk; simp [Value.ownBlock] at hk; omega)
    clear hgrow
    go_wp2_with fail
    go_ret
    exact ⟨v', rfl, by simpa using hown, hB⟩


def IdxP (f : En → Bool) (xs : List En) (r : Int) : Prop := (r = -1 ∧ ∀ x ∈ xs, f x = false) ∨ ∃ k : Nat, r = k ∧ k < xs.length ∧ ∀ j z, j < k + 1 → xs[j]? = some z → f z = decide (j = k)

set_option maxHeartbeats 4000000 in
theorem indexFE_any (kf q : Nat) (f : En → Bool) (A : Option Addr) (n cap : Nat) (xs : List En) (w : World) (hS : SlE eEn w A n cap xs) (hn : n ≤ 100000)
    (HF : ∀ x ∈ xs, ∀ W, Below w.heap.size w W → Calls Tryz.prog kf #[enA x, .pointer (some ⟨q, 0, none⟩)] W (GivesV (.bool (f x)) W)) (eg : ∀ args w, (callFunc kf args).run Tryz.prog w = .ok (.enter kf args) w) :
    Calls Tryz.prog 77 #[.slice A n cap, .func (.func kf) #[] #[.pointer (some ⟨q, 0, none⟩)]] w fun e w' => ∃ r : Int, e = .returned (.int .i64 r) ∧ IdxP f xs r ∧ Below w.heap.size w w' := by
  have hl := Lib.hid hS.1
  replace hS := Lib.hid hS
  replace HF := Lib.hid HF
  go_enter Tryz.func77, Tryz.ntmps77
  go_wp2_with fail
  go_loopw [8] (fun vk wr => ∃ k : Nat, k ≤ n ∧ vk = .int .i64 k ∧ Below w.heap.size w wr ∧ Hid (∀ j z, j < k → xs[j]? = some z → f z = false)) (fun vk _ => n - (intOf vk).toNat)
  case atStart => exact ⟨0, Nat.zero_le _, rfl, Below.refl _ _, Lib.hid (fun j z h => absurd h (Nat.not_lt_zero _))⟩
  case round =>
    obtain ⟨k, hk, rfl, hbw, hI⟩ := hrel
    by_cases hlt : k < n
    · obtain ⟨x, hx⟩ : ∃ x, xs[k]? = some x := ⟨xs[k]'(by have := hl.out; omega), List.getElem?_eq_getElem _⟩
      obtain ⟨g0, off, rfl, _, _⟩ := hS.out.at' hlt
      have hld := SlE.ld rowEn (hS.out.below hbw) hx
      replace hld : (ldT 37 (.pointer (some ⟨g0, off + k * 5, none⟩))).run Tryz.prog wr = .ok (.value (enA x)) wr := hld
      have hlt' : (k : Int) < n := by omega
      have HX := Lib.hid (HF.out x (List.mem_of_getElem? hx) wr hbw)
      obtain ⟨V, hV⟩ : ∃ V, V = f x := ⟨_, rfl⟩
      rw [← hV] at HX
      have hI2 := Lib.hid (show ∀ j z, j < k + 1 → xs[j]? = some z → f z = (decide (j = k) && V) from fun j z hj hz => by
        rcases Nat.lt_succ_iff_lt_or_eq.1 hj with h | rfl
        · rw [hI.out j z h hz, decide_eq_false (by omega)]; rfl
        · rw [hx] at hz
          obtain rfl := Option.some.inj hz
          rw [hV, decide_eq_true rfl, Bool.true_and])
      have hkl := Lib.hid (show k < xs.length by have := hl.out; omega)
      clear hI hV hx
      go_wp2_with fail
      refine HX.out.mono ?_
      rintro e w1 ⟨rfl, hv⟩
      replace hbw := hbw.trans (hv.mono hbw.size)
      clear hv HX hld
      cases V with
      | true =>
        go_wp2_with fail
        go_ret
        exact ⟨k, rfl, .inr ⟨k, rfl, hkl.out, fun j z hj hz => by rw [hI2.out j z hj hz, Bool.and_true]⟩, hbw⟩
      | false =>
        have hI3 := Lib.hid (show ∀ j z, j < k + 1 → xs[j]? = some z → f z = false from fun j z hj hz => by rw [hI2.out j z hj hz, Bool.and_false])
        clear hI2
        go_wp2_with fail
        go_roundw
        case rel => exact ⟨k + 1, by omega, by go_num, hbw, hI3⟩
        case measure => simp [intOf]; omega
    · have hnlt : ¬ (k : Int) < n := by omega
      have hno := Lib.hid (show ∀ x ∈ xs, f x = false from fun x hx => by
        obtain ⟨j, hj⟩ := List.getElem?_of_mem hx
        exact hI.out j x (by have h1 := (List.getElem?_eq_some_iff.1 hj).1; have := hl.out; omega) hj)
      clear hI
      go_wp2_with fail
      go_ret
      exact ⟨-1, rfl, .inl ⟨rfl, hno.out⟩, hbw⟩

def DlT (f : En → Bool) (xs : List En) (i j : Nat) (ys : List En) : Prop := ys.length = xs.length ∧ i < j ∧ ys.take i = (xs.take j).filter (fun x => !f x) ∧ ys.drop j = xs.drop j
theorem DlT.get {f : En → Bool} {xs ys : List En} {i j : Nat} (h : DlT f xs i j ys) : ys[j]? = xs[j]? := by
  have h1 := h.2.2.2
  have : (ys.drop j)[0]? = (xs.drop j)[0]? := by rw [h1]
  rwa [List.getElem?_drop, List.getElem?_drop, Nat.add_zero] at this
theorem DlT.skip {f : En → Bool} {xs ys : List En} {i j : Nat} (h : DlT f xs i j ys) {y : En} (hy : xs[j]? = some y) (hf : f y = true) : DlT f xs i (j + 1) ys := by
  refine ⟨h.1, by have := h.2.1; omega, ?_, ?_⟩
  · rw [List.take_add_one, hy, List.filter_append, h.2.2.1]
    simp [hf]
  · have := congrArg (List.drop 1) h.2.2.2
    rwa [List.drop_drop, List.drop_drop] at this
theorem DlT.put {f : En → Bool} {xs ys : List En} {i j : Nat} (h : DlT f xs i j ys) {y : En} (hy : xs[j]? = some y) (hf : f y = false) : DlT f xs (i + 1) (j + 1) (ys.set i y) := by
  have hj : j < xs.length := (List.getElem?_eq_some_iff.1 hy).1
  have hi := h.2.1
  have hl := h.1
  refine ⟨by rw [List.length_set]; exact h.1, by omega, ?_, ?_⟩
  · have e : (ys.set i y).take (i + 1) = ys.take i ++ [y] := by
      rw [List.take_add_one, List.take_set, List.getElem?_set_self (by omega)]
      rw [List.set_eq_of_length_le (by rw [List.length_take]; omega)]
      rfl
    rw [e, List.take_add_one, hy, List.filter_append, h.2.2.1]
    simp [hf]
  · rw [List.drop_set, if_pos (by omega)]
    have := congrArg (List.drop 1) h.2.2.2
    rwa [List.drop_drop, List.drop_drop] at this
theorem DlT.first {f : En → Bool} {xs : List En} {k : Nat} (hk : k < xs.length) (h : ∀ j z, j < k + 1 → xs[j]? = some z → f z = decide (j = k)) : DlT f xs k (k + 1) xs := by
  refine ⟨rfl, by omega, ?_, rfl⟩
  obtain ⟨x, hx⟩ : ∃ x, xs[k]? = some x := ⟨xs[k], List.getElem?_eq_getElem hk⟩
  rw [List.take_add_one, hx, List.filter_append]
  have h1 := h k x (by omega) hx
  rw [decide_eq_true rfl] at h1
  have h2 : (xs.take k).filter (fun x => !f x) = xs.take k := List.filter_eq_self.2 fun y hy => by
    obtain ⟨j, hj⟩ := List.getElem?_of_mem hy
    have hjk : j < k := by have := (List.getElem?_eq_some_iff.1 hj).1; rw [List.length_take] at this; omega
    rw [List.getElem?_take, if_pos hjk] at hj
    rw [h j y (by omega) hj, decide_eq_false (by omega)]; rfl
  rw [h2]
  simp [h1]

set_option maxHeartbeats 4000000 in
theorem deleteFE_any (kf q : Nat) (f : En → Bool) (B : Nat) (A : Option Addr) (n cap : Nat) (xs : List En) (w : World) (hown : OwnE eEn 37 B w (.slice A n cap) xs) (hnl : n = xs.length) (hn : n ≤ 100000) (hB : B ≤ w.heap.size)
    (HF : ∀ x ∈ xs, ∀ W, Below B w W → Calls Tryz.prog kf #[enA x, .pointer (some ⟨q, 0, none⟩)] W (GivesV (.bool (f x)) W)) (eg : ∀ args w, (callFunc kf args).run Tryz.prog w = .ok (.enter kf args) w) :
    Calls Tryz.prog 41 #[.slice A n cap, .func (.func kf) #[] #[.pointer (some ⟨q, 0, none⟩)]] w fun e w' => ∃ A' m cap', e = .returned (.slice A' m cap') ∧ SlE eEn w' A' m cap' (xs.filter fun x => !f x) ∧ Below B w w' := by
  obtain ⟨A0, c0, hv0, hS0⟩ := hown.sl
  injection hv0 with e1 e2 e3
  subst e1 e3
  rw [← hnl] at hS0
  have HI := Lib.hid (indexFE_any kf q f A n cap xs w hS0 hn (fun x hx W hW => HF x hx W (hW.mono hB)) eg)
  replace HF := Lib.hid HF
  replace hS0 := Lib.hid hS0
  replace hnl := Lib.hid hnl
  clear e2
  go_enter Tryz.func41, Tryz.ntmps41
  go_wp2_with fail
  refine HI.out.mono ?_
  rintro e w1 ⟨r, rfl, hr, hv⟩
  clear HI
  rcases hr with ⟨rfl, hno⟩ | ⟨k, rfl, hkx, hf⟩
  · have hS1 := Lib.hid (hS0.out.below hv)
    have hfl := Lib.hid (show xs.filter (fun x => !f x) = xs from List.filter_eq_self.2 fun x hx => by rw [hno x hx]; rfl)
    have hb := hv.mono hB
    clear hno hown hv
    go_wp2_with fail
    go_ret
    exact ⟨A, n, cap, rfl, by rw [hfl.out]; exact hS1.out, hb⟩
  · obtain ⟨g, cap', hvv, hg1, hg2, hcap, _⟩ := hown.form (by intro e; rw [e] at hkx; simp at hkx)
    injection hvv with e1 e2 e3
    subst e1 e3
    clear e2
    rw [← hnl.out] at hcap
    replace hown := hown.below hv
    have hbw := hv.mono hB
    have hgB : B ≤ g ∧ g < w.heap.size := ⟨hg1, hg2⟩
    have hD := Lib.hid (DlT.first hkx hf)
    have hkn : k < n := by have := hnl.out; omega
    have hk1 : ((k : Int) == -1) = false := by rw [beq_eq_false_iff_ne]; omega
    clear hv hkx hf hS0
    go_wp2_with fail
    go_loopw [5, 6] (fun vi vj wr => ∃ (i j : Nat) (ys : List En), j ≤ n ∧ i < j ∧ vi = .int .i64 i ∧ vj = .int .i64 j ∧ Hid (DlT f xs i j ys) ∧ OwnE eEn 37 B wr (.slice (some ⟨g, 0, none⟩) n cap) ys ∧ Below B w wr) (fun _ vj _ => n - (intOf vj).toNat)
    case atStart => exact ⟨k, k + 1, xs, by omega, by omega, rfl, by go_num, hD, hown, hbw⟩
    case round =>
      clear hown hbw hD
      obtain ⟨i, j, ys, hj, hij, rfl, rfl, hD, hown, hbw⟩ := hrel
      have hlys := Lib.hid (show n = ys.length by rw [hD.out.1]; exact hnl.out)
      have hsB : B ≤ wr.heap.size := Nat.le_trans hB hbw.size
      by_cases hlt : j < n
      · obtain ⟨y, hy⟩ : ∃ x, ys[j]? = some x := ⟨ys[j]'(by have := hlys.out; omega), List.getElem?_eq_getElem _⟩
        have hyx : xs[j]? = some y := by rw [← hD.out.get]; exact hy
        have hld := hown.ld (k := 5) rowEn rfl hy
        replace hld : (ldT 37 (.pointer (some ⟨g, j * 5, none⟩))).run Tryz.prog wr = .ok (.value (enA y)) wr := hld
        have hlt' : (j : Int) < n := by omega
        have S1 := stT_new rowEn (te := 37) wr wr.heap.size rfl [.bool false, .int .u64 0, .int .u64 0, .int .i64 0, .string ⟨#[]⟩] (enC y) rfl rfl (enC_one y)
        have hX := Blk.new wr (enC y) 37
        have hvA : Below wr.heap.size wr (wr.alloc (.cells (enC y).toArray 37)) := (Below.refl _ _).alloc (Nat.le_refl _) _
        replace hown := hown.below hvA
        replace hbw := hbw.trans (hvA.mono hsB)
        have HX := Lib.hid (HF.out y (List.mem_of_getElem? hyx) _ hbw)
        obtain ⟨V, hV⟩ : ∃ V, V = f y := ⟨_, rfl⟩
        rw [← hV] at HX
        have hsk := Lib.hid (fun h : V = true => hD.out.skip hyx (hV.symm.trans h))
        have hpt := Lib.hid (fun h : V = false => hD.out.put hyx (hV.symm.trans h))
        have lp := hX.ld rowEn rfl
        clear hvA hV hD hyx
        go_wp2_with fail
        refine HX.out.mono ?_
        rintro e w2 ⟨rfl, hv⟩
        replace hX := hX.below hv
        replace hown := hown.below hv
        replace hbw := hbw.trans (hv.mono (Nat.le_trans hB hbw.size))
        clear hv HX hld S1 lp
        cases V with
        | false =>
          obtain ⟨o, ho⟩ : ∃ o, ys[i]? = some o := ⟨ys[i]'(by have := hlys.out; omega), List.getElem?_eq_getElem _⟩
          have S := stT_own' rowEn (E := eEn) (k := 5) rfl hown ho 0 (enC y) (by decide) rfl (enC_one y)
          simp only [Nat.add_zero] at S
          have hset := own_setAt (k := 5) rfl (x' := y) hown hlys.out ho
          have hb3 := below_setC hgB.1 (enC y) (i * 5) _ hbw
          replace hset : OwnE eEn 37 B (World.setCells _ g (i * 5) (enC y)) _ _ := hset
          have lp := hX.ld rowEn rfl
          have hpt2 := Lib.hid (hpt.out rfl)
          have hin : (i : Int) < n := by omega
          clear hsk hpt hown hbw ho hy hX
          go_wp2_with fail
          go_roundw
          case rel => exact ⟨i + 1, j + 1, _, by omega, by omega, by go_num, by go_num, hpt2, hset, hb3⟩
          case measure => simp [intOf]; omega
        | true =>
          have hsk2 := Lib.hid (hsk.out rfl)
          clear hsk hpt hy hX
          go_wp2_with fail
          go_roundw
          case rel => exact ⟨i, j + 1, ys, by omega, by omega, rfl, by go_num, hsk2, hown, hbw⟩
          case measure => simp [intOf]; omega
      · have hjn : j = n := by omega
        obtain ⟨L, hCL⟩ := clear_restE hown hlys.out (c := i) (by omega) zeroEn_run (cap - i)
        have hcC : (i : Int) ≤ cap := by omega
        have hcC2 : ¬ (cap : Int) = i := by omega
        have hcN : (i : Int) ≤ n := by omega
        have hOr := Lib.hid (ownN_ahead hown hlys.out (show i ≤ n by omega) L)
        have hb3 := Lib.hid (below_setC hgB.1 L (i * 5) _ hbw)
        have hln := Lib.hid (show i = (ys.take i).length by rw [List.length_take]; have := hlys.out; omega)
        have hfin := Lib.hid (show ys.take i = xs.filter (fun x => !f x) by
          rw [hD.out.2.2.1, List.take_of_length_le (by have := hnl.out; omega)])
        have hcc : i ≤ cap := by omega
        have hnlt : ¬ (j : Int) < n := by omega
        clear hown hbw hD hkn
        go_wp2_with fail
        go_ret
        exact ⟨some ⟨g, 0, none⟩, i, cap, rfl, by rw [← hfin.out]; exact hOr.out.sl i hln.out hcc, hb3.out⟩
end Go.Proofs.YtfpcalgkfagjkaaGreatDoor
