/- Names: what is below what, and how they are compared. -/
import Derived.Test.YtmfflcemceonhaaDoorKfDcB
import Derived.Test.YtmfflcemceonhaaDoorKfNmF
namespace Go.Proofs.YtmfflcemceonhaaDoor
open Go.RowKit
set_option linter.unusedVariables false
set_option linter.unusedSimpArgs false

/-- The first of some errors. -/
def firstE : List Int → Int
  | [] => 0
  | e :: r => if e = 0 then firstE r else e
theorem orE_any (l : List Int) (p cap : Nat) (w : World) (hz : ∀ i, i < l.length → w.cell? ⟨p, i, none⟩ = some (.int .i64 (l.getD i 0))) (hl : l.length ≤ 100) :
    Calls Tryd.prog 9 #[.slice (some ⟨p, 0, none⟩) l.length cap] w fun e w' => e = .returned (.int .i64 (firstE l)) ∧ w = w' := by
  go_enter Tryd.func9, Tryd.ntmps9
  go_wp2_with fail
  go_loop [8] (fun c => ∃ k : Nat, k ≤ l.length ∧ c = .int .i64 k ∧ firstE (l.drop k) = firstE l) (fun c => l.length - (intOf c).toNat)
  case atStart => exact ⟨0, Nat.zero_le _, rfl, rfl⟩
  case round =>
    obtain ⟨k, hk, rfl, hf⟩ := hrel
    have HF := Lib.hid hf
    clear hf
    by_cases hlt : k < l.length
    · have hc := hz k hlt
      have HD := Lib.hid (show firstE (l.drop k) = if l.getD k 0 = 0 then firstE (l.drop (k + 1)) else l.getD k 0 by rw [List.drop_eq_getElem_cons hlt, firstE, List.getD_eq_getElem?_getD, List.getElem?_eq_getElem hlt]; rfl)
      generalize l.getD k 0 = x at hc HD
      clear hz
      by_cases hx : x = 0
      · have HX := Lib.hid hx
        have b0 : (x != 0) = false := by simp [hx]
        clear hx
        go_wp2_with fail
        go_round
        case rel => exact ⟨k + 1, by omega, by go_num, by rw [← HF.out, HD.out, if_pos HX.out]⟩
        case measure => simp [intOf]; omega
      · have HX := Lib.hid hx
        have b0 : (x != 0) = true := by simp [hx]
        clear hx
        go_wp2_with fail
        go_ret
        exact ⟨by rw [← HF.out, HD.out, if_neg HX.out]; rfl, rfl⟩
    · have hkl : k = l.length := by omega
      have HV := Lib.hid (show firstE l = 0 by rw [← HF.out, hkl, List.drop_length]; rfl)
      clear hz
      go_wp2_with fail
      go_ret
      exact ⟨by rw [HV.out]; rfl, rfl⟩
theorem or2_any (x y : Int) (w : World) :
    Calls Tryd.prog 9 #[.slice (some ⟨w.heap.size, 0, none⟩) 2 2] (w.alloc (.cells #[.int .i64 x, .int .i64 y] 27)) fun e w' => e = .returned (.int .i64 (firstE [x, y])) ∧ w' = w.alloc (.cells #[.int .i64 x, .int .i64 y] 27) := by
  have hB := Blk.new w [.int .i64 x, .int .i64 y] 27
  refine (orE_any [x, y] w.heap.size 2 _ (fun i hi => ?_) (by simp)).mono ?_
  · match i, hi with
    | 0, _ => exact hB.cell (i := 0) (v := .int .i64 x) rfl
    | 1, _ => exact hB.cell (i := 1) (v := .int .i64 y) rfl
  · rintro e w' ⟨rfl, rfl⟩
    exact ⟨rfl, rfl⟩

/-- The labels of a name: a row of one's own. -/
theorem splitOwn_any (l : List UInt8) (w : World) (hC : Cons w) (hl : l.length ≤ 100000) :
    Calls Tryd.prog 21 #[.string ⟨l.toArray⟩, .string ⟨#[46]⟩] w fun e w' => (∃ A cap, e = .returned (.slice A (pieces l 46).length cap) ∧ OwnE eStr 9 w.heap.size w' (.slice A (pieces l 46).length cap) (pieces l 46)) ∧ Below w.heap.size w w' := by
  obtain ⟨m, hm⟩ := hC.maxl
  have hlen := Lib.splitB_all ⟨#[46]⟩ (by show 1 ≤ 1; omega) 0 _ (⟨l.toArray⟩ : ByteArray) rfl
  refine (Tryd.strings_Split ⟨l.toArray⟩ ⟨#[46]⟩ m w (by rw [Lib.size_eq]; exact Nat.lt_of_le_of_lt hl (by decide)) hm (by show 1 ≤ 1; omega)).mono ?_
  rintro e w' ⟨rfl, rfl⟩
  have hn : (pieces l 46).length = Lib.countB ⟨l.toArray⟩ ⟨#[46]⟩ + 1 := by rw [← parts_pieces]; unfold parts; rw [List.length_map, hlen]
  refine ⟨⟨some ⟨w.heap.size, 0, none⟩, _, by rw [hn], ?_⟩, (Below.refl _ _).alloc (Nat.le_refl _) _⟩
  have e1 : eStr.k = 1 := rfl
  have hcs : eStr.cells (pieces l 46) = ((Lib.splitB ⟨#[46]⟩ 0 (Lib.countB ⟨l.toArray⟩ ⟨#[46]⟩) ⟨l.toArray⟩).map Value.string) := by
    rw [cells_str, ← parts_pieces]
    unfold parts
    rw [List.map_map]
    refine List.map_congr_left fun x _ => ?_
    simp only [Function.comp, sv, ba_back]
  have hpl := pieces_len l 46
  refine ⟨by rw [eStr.cells_len], .inr ⟨w.heap.size, _, _, rfl, Nat.le_refl _, World.alloc_heap_new _ _, by rw [hn]; exact Nat.le_refl _, ?_, ?_, ?_⟩⟩
  · rw [← hn]; unfold maxLen; omega
  · simp [e1, hlen]
  · rw [hcs, hn, e1, Nat.mul_one]
    exact List.take_of_length_le (by simp [hlen])

/-- slices.Reverse of strings. -/
theorem own_turnedS {w : World} {B g n cap m : Nat} {ys zs : List (List UInt8)} (h : OwnE eStr 9 B w (.slice (some ⟨g, 0, none⟩) n cap) ys) (hd : zs.length = ys.length) :
    OwnE eStr 9 B (Sort.putRow encStr (Sort.ahead w m) g 0 zs.toArray) (.slice (some ⟨g, 0, none⟩) n cap) zs := by
  obtain ⟨h1, h2⟩ := h
  have hcl : (eStr.cells zs).length = ys.length * eStr.k := by rw [eStr.cells_len, hd]
  have e1 : eStr.k = 1 := rfl
  refine ⟨by rw [hcl, hd], ?_⟩
  rcases h2 with ⟨hv, _⟩ | ⟨g', cap', cur, hv, hB, hh, hn, hc, hsz, htake⟩
  · cases hv
  · cases hv
    have hg : g < w.heap.size := (Array.getElem?_eq_some_iff.1 hh).1
    refine .inr ⟨g, cap, Sort.putCells encStr 0 zs.toArray cur, by rw [hd], hB, ?_, by rw [hd]; exact hn, hc, ?_, ?_⟩
    · unfold Sort.putRow Sort.mapBlock Sort.ahead
      show (w.heap.modify g _)[g]? = _
      rw [Array.getElem?_modify, if_pos rfl, hh]
      rfl
    · unfold Sort.putCells; rw [Array.size_mapIdx]; exact hsz
    · have hle : ys.length ≤ cur.size := by rw [hsz, e1, Nat.mul_one]; exact hn
      have hcl1 : (eStr.cells zs).length = zs.length := by rw [eStr.cells_len, e1, Nat.mul_one]
      apply List.ext_getElem
      · have e3 : (Sort.putCells encStr 0 zs.toArray cur).toList.length = cur.size := by unfold Sort.putCells; simp
        rw [List.length_take, e3, hcl, e1, hd]
        omega
      · intro j j1 j2
        rw [hcl1] at j2
        rw [List.getElem_take, Array.getElem_toList]
        unfold Sort.putCells
        rw [Array.getElem_mapIdx, if_pos ⟨Nat.zero_le _, by simpa using j2⟩, Nat.sub_zero]
        have k3 := eStr.cells_get zs j zs[j] (List.getElem?_eq_getElem j2) 0 (.string ⟨zs[j].toArray⟩) rfl
        have e : (eStr.cells zs)[j]'(by rw [hcl1]; exact j2) = .string ⟨zs[j].toArray⟩ := by
          have := (List.getElem?_eq_some_iff.1 k3).2
          simpa [e1] using this
        rw [e]
        show encStr (zs.toArray[j]!) = _
        rw [getElem!_pos zs.toArray j (by simpa using j2)]
        simp
theorem revS_any (B : Nat) (A : Option Addr) (cap : Nat) (xs : List (List UInt8)) (w : World) (hown : OwnE eStr 9 B w (.slice A xs.length cap) xs) (hB : B ≤ w.heap.size) (hx : xs ≠ []) (hl : xs.length ≤ 1000000) :
    Calls Tryd.prog 25 #[.slice A xs.length cap] w fun e w' => e = .returned (.tuple #[]) ∧ OwnE eStr 9 B w' (.slice A xs.length cap) xs.reverse ∧ w.grownBy w' (Value.slice A xs.length cap).ownBlock := by
  obtain ⟨g, cap', hv, _, _, _, hc, hf⟩ := hown.form hx
  cases hv
  have hH : Sort.Holds encStr w g 0 xs.toArray := by
    intro j hj
    have hj' : j < xs.length := by simpa using hj
    have := hc j xs[j] (List.getElem?_eq_getElem hj') 0 (.string ⟨xs[j].toArray⟩) rfl
    refine ⟨?_, hf _⟩
    rw [getElem!_pos xs.toArray j hj, Nat.zero_add]
    simpa [show eStr.k = 1 from rfl] using this
  refine (Tryd.slices_Reverse_string g 0 cap xs w hH (by omega)).mono ?_
  rintro e w' ⟨rfl, m, rfl⟩
  refine ⟨rfl, own_turnedS hown (by simp), ⟨rfl, rfl, rfl, ?_, fun j hj hr => ?_⟩⟩
  · show w.heap.size ≤ (w.heap.modify g _).size
    rw [Array.size_modify]; exact Nat.le_refl _
  · show (w.heap.modify g _)[j]? = _
    rw [Array.getElem?_modify, if_neg (fun e => hr (by rw [e]; rfl))]
theorem pieces_ne (l : List UInt8) (c : UInt8) : pieces l c ≠ [] := by
  rw [← parts_pieces]
  intro h
  have hlen := Lib.splitB_all ⟨#[c]⟩ (by show 1 ≤ 1; omega) 0 _ (⟨l.toArray⟩ : ByteArray) rfl
  have := congrArg List.length h
  unfold parts at this
  rw [List.length_map, hlen] at this
  cases this

/-- The labels of a name, the last one first. -/
def backs (l : List UInt8) : List (List UInt8) := (pieces l 46).reverse
theorem backs_len (l : List UInt8) : (backs l).length ≤ l.length + 1 := by unfold backs; rw [List.length_reverse]; exact pieces_len l 46

set_option maxHeartbeats 1000000 in
theorem backwards_any (l : List UInt8) (w : World) (hC : Cons w) (hl : l.length ≤ 100000) :
    Calls Tryd.prog 18 #[.string ⟨l.toArray⟩] w fun e w' => (∃ A cap, e = .returned (.slice A (backs l).length cap) ∧ SlE eStr w' A (backs l).length cap (backs l)) ∧ Below w.heap.size w w' := by
  have HS := Lib.hid (splitOwn_any l w hC hl)
  have hpn := pieces_ne l 46
  have hpl := pieces_len l 46
  have hb : Hid (backs l = (pieces l 46).reverse) := Lib.hid rfl
  have hlr : (backs l).length = (pieces l 46).length := by unfold backs; rw [List.length_reverse]
  rw [hlr]
  generalize pieces l 46 = ps at *
  generalize backs l = bs at *
  have HR := Lib.hid (fun A cap W (h : OwnE eStr 9 w.heap.size W (.slice A ps.length cap) ps) hB => revS_any w.heap.size A cap ps W h hB hpn (by omega))
  obtain ⟨L, hL⟩ : ∃ L, L = ps.length := ⟨_, rfl⟩
  rw [← hL] at HS HR hlr ⊢
  replace hlr := Lib.hid hlr
  clear hpn hpl hL hC
  go_enter Tryd.func18, Tryd.ntmps18
  go_wp2_with fail
  refine HS.out.mono ?_
  rintro e w1 ⟨⟨A, cap, rfl, hown⟩, hb1⟩
  have hz := hb1.size
  go_wp2_with fail
  refine (HR.out A cap w1 hown hz).mono ?_
  rintro e w2 ⟨rfl, hown2, hg2⟩
  have hbF := hb1.grown hg2 hz (fun k h => (hown.lt k h).1)
  obtain ⟨A2, c2, hv, hsl⟩ := hown2.sl
  rw [← hb.out] at hsl hv
  rw [hlr.out] at hv hsl
  cases hv
  clear hown hown2 hg2 hb1 HS HR
  go_wp2_with fail
  go_ret
  exact ⟨⟨_, _, rfl, hsl⟩, hbF⟩

set_option maxHeartbeats 1000000 in
theorem isUnder_any (a b : List UInt8) (r : Bool) (w : World) (ha : a.length ≤ 100000) (hr : r = underB a b) :
    Calls Tryd.prog 16 #[.string ⟨a.toArray⟩, .string ⟨b.toArray⟩] w fun e w' => e = .returned (.bool r) ∧ w' = w := by
  rw [← under_cut] at hr
  have HC := Tryd.strings_CutSuffix ⟨a.toArray⟩ ⟨b.toArray⟩ w (by rw [Lib.size_eq]; show a.length ≤ _; omega)
  have e1 : (⟨a.toArray⟩ : ByteArray).data.toList = a := rfl
  have e2 : (⟨b.toArray⟩ : ByteArray).data.toList = b := rfl
  rw [e1, e2] at HC
  have htl : (Lib.trimSuffix a b).length ≤ a.length := by
    unfold Lib.trimSuffix
    split
    · rw [List.length_take]; omega
    · exact Nat.le_refl _
  generalize Lib.trimSuffix a b = t at *
  generalize Lib.hasSuffix a b = s at *
  replace HC := Lib.hid HC
  cases s
  · rw [Bool.false_and] at hr
    subst hr
    go_enter Tryd.func16, Tryd.ntmps16
    go_wp2_with fail
    refine HC.out.mono ?_
    rintro e w1 ⟨rfl, rfl⟩
    go_wp2_with fail
    go_ret
    exact ⟨rfl, rfl⟩
  · rw [Bool.true_and] at hr
    cases hte : t.isEmpty
    · rw [hte, Bool.false_or] at hr
      have HH := Tryd.strings_HasSuffix ⟨t.toArray⟩ ⟨#[46]⟩ w (by rw [Lib.size_eq]; show t.length ≤ _; omega)
      have e3 : (⟨t.toArray⟩ : ByteArray).data.toList = t := rfl
      have e4 : (⟨#[46]⟩ : ByteArray).data.toList = [46] := rfl
      rw [e3, e4, ← hr] at HH
      replace HH := Lib.hid HH
      clear hr
      go_enter Tryd.func16, Tryd.ntmps16
      go_wp2_with fail
      refine HC.out.mono ?_
      rintro e w1 ⟨rfl, rfl⟩
      go_wp2_with fail
      refine HH.out.mono ?_
      rintro e w1 ⟨rfl, rfl⟩
      go_wp2_with fail
      go_ret
      exact ⟨rfl, rfl⟩
    · rw [hte, Bool.true_or] at hr
      subst hr
      go_enter Tryd.func16, Tryd.ntmps16
      go_wp2_with fail
      refine HC.out.mono ?_
      rintro e w1 ⟨rfl, rfl⟩
      go_wp2_with fail
      go_ret
      exact ⟨rfl, rfl⟩
end Go.Proofs.YtmfflcemceonhaaDoor
