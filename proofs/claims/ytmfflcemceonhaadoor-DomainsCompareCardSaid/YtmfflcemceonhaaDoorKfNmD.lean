/- Domain names: the reference's check. -/
import Derived.Test.YtmfflcemceonhaaDoorKfNmC
import Derived.Test.YtmfflcemceonhaaDoorKfPsB
namespace Go.Proofs.YtmfflcemceonhaaDoor
open Go.RowKit
set_option linter.unusedVariables false
set_option linter.unusedSimpArgs false

theorem parts_pieces (l : List UInt8) (c : UInt8) : parts l c = pieces l c := by
  unfold parts pieces
  have h := Lib.splitB_data ⟨#[c]⟩ 0 (Lib.countB ⟨l.toArray⟩ ⟨#[c]⟩) ⟨l.toArray⟩
  have e : Lib.countB ⟨l.toArray⟩ ⟨#[c]⟩ = l.count c := by rw [← Lib.count_one]
  rw [e] at h ⊢
  exact h
theorem pieces_short (l : List UInt8) (c : UInt8) : ∀ p ∈ pieces l c, p.length ≤ l.length := by rw [← parts_pieces]; exact parts_short l c
theorem pieces_len (l : List UInt8) (c : UInt8) : (pieces l c).length ≤ l.length + 1 := by
  rw [← parts_pieces]
  have h1 := Lib.splitB_length_le ⟨#[c]⟩ 0 (Lib.countB ⟨l.toArray⟩ ⟨#[c]⟩) ⟨l.toArray⟩
  have h2 := Lib.countB_le ⟨#[c]⟩ (by show 1 ≤ 1; omega) _ (⟨l.toArray⟩ : ByteArray) (Nat.le_refl _)
  rw [Lib.size_eq] at h2
  have h2' : Lib.countB ⟨l.toArray⟩ ⟨#[c]⟩ ≤ l.length := h2
  unfold parts
  rw [List.length_map]
  omega
/-- The cells of a slice of strings. -/
theorem Sl.str {w : World} {A : Option Addr} {n cap : Nat} {ps : List (List UInt8)} (h : Sl w A n cap (ps.map sv)) {k : Nat} {p : List UInt8} (hp : ps[k]? = some p) (hk : k < n) : ∃ b off, A = some ⟨b, off, none⟩ ∧ b < w.heap.size ∧ w.cell? ⟨b, off + k, none⟩ = some (sv p) := by
  rcases h.2.2 with e | ⟨b, off, rfl, hb, hc⟩
  · omega
  · exact ⟨b, off, rfl, hb, hc k _ (by rw [List.getElem?_map, hp]; rfl)⟩

set_option maxHeartbeats 2000000 in
set_option maxRecDepth 100000 in
theorem domainFault_any (l : List UInt8) (w : World) (hC : Cons w) (hl : l.length ≤ 100000) :
    Calls Tryd.prog 8 #[.string ⟨l.toArray⟩] w (GivesV (.int .i64 (domF l)) w) := by
  by_cases h253 : 253 < l.length
  · have hV := Lib.hid (show domF l = 2 by unfold domF; rw [if_pos h253])
    have h253' : (253 : Int) < l.length := by omega
    clear h253 hC hl
    go_enter Tryd.func8, Tryd.ntmps8
    go_wp2_with fail
    go_ret
    exact ⟨by rw [hV.out]; rfl, Below.refl _ _⟩
  · have hV := Lib.hid (show domF l = if (pieces l 46).all labB then 0 else 5 by unfold domF; rw [if_neg h253])
    have h253' : ¬ (253 : Int) < l.length := by omega
    have HS := Lib.hid (split_any l 46 w hC hl)
    have hps := pieces_short l 46
    have hpn := pieces_len l 46
    rw [← parts_pieces] at hV hps hpn
    generalize parts l 46 = ps at *
    replace hps := Lib.hid (fun p hp => Nat.le_trans (hps p hp) hl)
    clear h253 hC
    go_enter Tryd.func8, Tryd.ntmps8
    go_wp2_with fail
    refine HS.out.mono ?_
    rintro e w1 ⟨A, cap, rfl, hS, hb1⟩
    have hn := hS.1
    rw [List.length_map] at hn
    obtain ⟨n, hn'⟩ : ∃ n, n = ps.length := ⟨_, rfl⟩
    rw [← hn'] at hS ⊢
    replace hn' := Lib.hid hn'
    clear hn
    have hzw := hb1.size
    have hn5 : n ≤ 100001 := by rw [hn'.out]; omega
    clear hpn
    go_wp2_with fail
    go_loopw [11] (fun vi wr => ∃ k : Nat, k ≤ n ∧ vi = .int .i64 k ∧ Hid ((ps.take k).all labB = true) ∧ Below w1.heap.size w1 wr) (fun vi _ => n - (intOf vi).toNat)
    case atStart => exact ⟨0, Nat.zero_le _, rfl, Lib.hid rfl, Below.refl _ _⟩
    case round =>
      obtain ⟨k, hk, rfl, hI, hbw⟩ := hrel
      by_cases hlt : k < n
      · obtain ⟨p, hp⟩ : ∃ p, ps[k]? = some p := ⟨ps[k]'(by rw [← hn'.out]; exact hlt), List.getElem?_eq_getElem _⟩
        obtain ⟨b, off, rfl, hb, hc⟩ := (hS.below hbw).str hp hlt
        have hlt' : (k : Int) < n := by omega
        have HL := Lib.hid (labelForm_any p wr (hps.out p (List.mem_of_getElem? hp)))
        have htk := Lib.hid (show (ps.take (k + 1)).all labB = ((ps.take k).all labB && labB p) by rw [List.take_add_one, hp, List.all_append]; simp)
        have hno := Lib.hid (fun (h : labB p = false) => (show ps.all labB = false by
          rw [Bool.eq_false_iff]
          intro g
          have := List.all_eq_true.1 g p (List.mem_of_getElem? hp)
          rw [h] at this; cases this))
        replace hp := Lib.hid hp
        cases hq : labB p
        · rw [hq] at HL
          have hfin := Lib.hid (hno.out hq)
          clear hq hno htk
          go_wp2_with fail
          refine HL.out.mono ?_
          rintro e w2 ⟨rfl, hb2⟩
          replace hbw := hbw.trans (hb2.mono hbw.size)
          clear hb2 HL
          go_wp2_with fail
          go_ret
          exact ⟨by rw [hV.out, hfin.out]; rfl, hb1.trans (hbw.mono hzw)⟩
        · rw [hq] at HL
          rw [hq, Bool.and_true] at htk
          clear hq hno
          go_wp2_with fail
          refine HL.out.mono ?_
          rintro e w2 ⟨rfl, hb2⟩
          replace hbw := hbw.trans (hb2.mono hbw.size)
          clear hb2 HL
          go_wp2_with fail
          go_roundw
          case rel => exact ⟨k + 1, by omega, by go_num, Lib.hid (by rw [htk.out]; exact hI.out), hbw⟩
          case measure => simp [intOf]; omega
      · have hkn : k = n := by omega
        have hfin := Lib.hid (show ps.all labB = true by have := hI.out; rwa [hkn, hn'.out, List.take_length] at this)
        go_wp2_with fail
        go_ret
        exact ⟨by rw [hV.out, hfin.out]; rfl, hb1.trans (hbw.mono hzw)⟩
end Go.Proofs.YtmfflcemceonhaaDoor
