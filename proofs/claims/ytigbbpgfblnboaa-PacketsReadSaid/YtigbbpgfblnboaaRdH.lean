/- Packets that are read: the part, whatever the protocol; ReadPacket. -/
import Derived.Test.YtigbbpgfblnboaaRdG
import Derived.Test.YtigbbpgfblnboaaRdZ
import Derived.Laws.ResultCell
namespace Go.Proofs.Ytigbbpgfblnboaa
open Go.RowKit
set_option linter.unusedVariables false
set_option linter.unusedSimpArgs false

theorem cr71 (args : Array Value) (w' : World) : (callFunc 91 args).run Try.prog w' = .ok (.enter 91 args) w' := by go_simp
theorem cr73 (args : Array Value) (w' : World) : (callFunc 93 args).run Try.prog w' = .ok (.enter 93 args) w' := by go_simp
theorem cr75 (args : Array Value) (w' : World) : (callFunc 95 args).run Try.prog w' = .ok (.enter 95 args) w' := by go_simp
theorem layE_part {q : Pk} {bd : List Nat} (h : szP q ≤ bd.length) : partE q bd = layE (rdBody q bd) (headP (rdBody q bd) (bd.length - szP q)) bd (szP q) (atP q) := by
  unfold partE layE
  rw [if_neg (show ¬ bd.length < szP q by omega)]
theorem rd_ok {q : Pk} {bd : List Nat} (hq : PkOk q) (hb : Byt bd) : PkOk (rdBody q bd) := by
  have n4 : ∀ i, nb bd i 4 < 4294967296 := fun i => nb_lt hb i 4
  have n2 : ∀ i, nb bd i 2 < 65536 := fun i => nb_lt hb i 2
  have a0 := n2 0; have a2 := n2 2; have a4 := n2 4; have a6 := n2 6; have b4 := n4 4; have b8 := n4 8
  obtain ⟨h1, h2, h3, h4, h5, h6, h7, h8, h9, h10, h11, h12, h13, h14, h15, h16, h17⟩ := hq
  unfold rdBody
  split
  · constructor <;> first | assumption | (simp only [rdTcp]; omega)
  · split
    · constructor <;> first | assumption | (simp only [rdUdp]; omega)
    · constructor <;> first | assumption | (simp only [rdIcmp]; omega)

theorem readPart_any (q : Pk) (pb : Nat) (A : Option Addr) (n cap : Nat) (bd : List Nat) (w : World) (hP : Blk w pb (pkL q (.slice none 0 0)) 45) (hS : SlB w A n cap bd) (hA : 8 ≤ n → ∃ g off, A = some ⟨g, off, none⟩ ∧ g ≠ pb) (hq : PkOk q) (hn2 : n ≤ 1000) (hb : Byt bd) :
    Calls Try.prog 57 #[.slice A n cap, .pointer (some ⟨pb, 0, none⟩)] w fun e w' => ∃ q' v', e = .returned (.int .i64 (partE q bd)) ∧ RdP w pb q' v' w' ∧ (partE q bd = 0 → q' = rdBody q bd ∧ ∃ A' n' c', v' = .slice A' n' c' ∧ Own w.heap.size w' (.slice A' n' c') (bd.drop (szP q))) := by
  have hl := hS.len
  have hq1 := rd_ok hq hb
  by_cases hs : n < szP q
  · have hE : partE q bd = 3 := by unfold partE; rw [if_pos (by omega)]
    rw [hE]
    have fin : ∀ (e : Ending) (w' : World), (e = .returned (.int .i64 3) ∧ RdP w pb q (.slice none 0 0) w') → ∃ q' v', e = .returned (.int .i64 3) ∧ RdP w pb q' v' w' ∧ ((3 : Int) = 0 → q' = rdBody q bd ∧ ∃ A' n' c', v' = .slice A' n' c' ∧ Own w.heap.size w' (.slice A' n' c') (bd.drop (szP q))) := fun e w' h => ⟨q, _, h.1, h.2, fun h => by cases h⟩
    rcases hq.proto with h | h | h
    · have e1 : szP q = 8 := by unfold szP; rw [if_neg (by omega)]
      exact (readPart_short q _ pb A n cap _ _ 8 2 w hP (by omega) (by omega) (fun w' => by rw [h]; exact layout_1 w')).mono (fun e w' h => fin e w' h)
    · have e1 : szP q = 20 := by unfold szP; rw [if_pos h]
      exact (readPart_short q _ pb A n cap _ _ 20 16 w hP (by omega) (by omega) (fun w' => by rw [h]; exact layout_six w')).mono (fun e w' h => fin e w' h)
    · have e1 : szP q = 8 := by unfold szP; rw [if_neg (by omega)]
      exact (readPart_short q _ pb A n cap _ _ 8 6 w hP (by omega) (by omega) (fun w' => by rw [h]; exact layout_17 w')).mono (fun e w' h => fin e w' h)
  · have h8 : 8 ≤ n := by have : 8 ≤ szP q := by unfold szP; split <;> omega
                          omega
    obtain ⟨g, off, rfl, hne⟩ := hA h8
    have hr : 0 ≤ (rdBody q bd).fp ∧ (rdBody q bd).fp ≤ 65535 ∧ 0 ≤ (rdBody q bd).tp ∧ (rdBody q bd).tp ≤ 65535 := ⟨hq1.fp0, hq1.fp1, hq1.tp0, hq1.tp1⟩
    have hbt := headP_byt (rdBody q bd) (bd.length - szP q)
    rw [layE_part (by omega)]
    rw [← hl] at hbt ⊢
    have fin : ∀ (E : Int) (e : Ending) (w' : World), (∃ v', e = .returned (.int .i64 E) ∧ RdP w pb (rdBody q bd) v' w' ∧ (E = 0 → ∃ A' n' c', v' = .slice A' n' c' ∧ Own w.heap.size w' (.slice A' n' c') (bd.drop (szP q)))) → ∃ q' v', e = .returned (.int .i64 E) ∧ RdP w pb q' v' w' ∧ (E = 0 → q' = rdBody q bd ∧ ∃ A' n' c', v' = .slice A' n' c' ∧ Own w.heap.size w' (.slice A' n' c') (bd.drop (szP q))) := fun E e w' ⟨v', h1, h2, h3⟩ => ⟨_, v', h1, h2, fun h => ⟨rfl, h3 h⟩⟩
    have hpp := rd_proto q bd
    rcases hq.proto with h | h | h
    · have e1 : szP q = 8 := by unfold szP; rw [if_neg (by omega)]
      have e2 : atP q = 2 := by unfold atP; rw [if_neg (by omega), if_neg (by omega)]
      have e3 : ∀ m, headP (rdBody q bd) m = [kindN (rdBody q bd).fs (rdBody q bd).reply, 0, 0, 0] ++ be (rdBody q bd).id.toNat 2 ++ be (rdBody q bd).seq.toNat 2 := fun m => by unfold headP; rw [if_neg (by omega), if_neg (by omega)]
      rw [e1] at hbt fin hs
      rw [e1, e2]
      rw [e3] at hbt ⊢
      exact (readPart_lay q (rdBody q bd) pb g off n cap bd _ 94 95 8 2 w hP hS hne hq1 (by omega) hn2 hb (fun w' => by rw [h]; exact layout_1 w')
        (fun w' h1 h2 => by
          have := readIcmp_any q _ pb g off n cap bd w' h1 h2 hne (by omega) hb
          have e4 : rdBody q bd = rdIcmp q bd (decide (bd.getD 0 0 = kindN q.fs true)) := by unfold rdBody; rw [if_neg (by omega), if_neg (by omega)]
          rw [e4]; exact this)
        (fun w' h1 => writeIcmp_any (rdBody q bd) _ pb _ w' h1 hq1.seq0 (hq1.seqI (by omega)) hq1.id0 hq1.id1) cf74 cr75 (by simp [be_len]) hbt (by omega) (by omega)).mono (fun e w' h => fin _ e w' h)
    · have e1 : szP q = 20 := by unfold szP; rw [if_pos h]
      have e2 : atP q = 16 := by unfold atP; rw [if_pos h]
      have e3 : ∀ m, headP (rdBody q bd) m = be (rdBody q bd).fp.toNat 2 ++ be (rdBody q bd).tp.toNat 2 ++ be (rdBody q bd).seq.toNat 4 ++ be (rdBody q bd).ack.toNat 4 ++ [80, flgN (rdBody q bd)] ++ be 65535 2 ++ [0, 0, 0, 0] := fun m => by unfold headP; rw [if_pos (by omega)]
      rw [e1] at hbt fin hs
      rw [e1, e2]
      rw [e3] at hbt ⊢
      exact (readPart_lay q (rdBody q bd) pb g off n cap bd _ 90 91 20 16 w hP hS hne hq1 (by omega) hn2 hb (fun w' => by rw [h]; exact layout_six w')
        (fun w' h1 h2 => by
          have := readTcp_any q _ pb g off n cap bd w' h1 h2 hne (by omega) hb
          have e4 : rdBody q bd = rdTcp q bd := by unfold rdBody; rw [if_pos h]
          rw [e4]; exact this)
        (fun w' h1 => writeTcp_any (rdBody q bd) _ pb _ w' h1 hr hq1.seq0 hq1.seq1 hq1.ack0 hq1.ack1) cf70 cr71 (by simp [be_len]) hbt (by omega) (by omega)).mono (fun e w' h => fin _ e w' h)
    · have e1 : szP q = 8 := by unfold szP; rw [if_neg (by omega)]
      have e2 : atP q = 6 := by unfold atP; rw [if_neg (by omega), if_pos h]
      have e3 : ∀ m, headP (rdBody q bd) m = be (rdBody q bd).fp.toNat 2 ++ be (rdBody q bd).tp.toNat 2 ++ be (8 + m) 2 ++ [0, 0] := fun m => by unfold headP; rw [if_neg (by omega), if_pos (by omega)]
      rw [e1] at hbt fin hs
      rw [e1, e2]
      rw [e3, show 8 + (n - 8) = n by omega] at hbt ⊢
      exact (readPart_lay q (rdBody q bd) pb g off n cap bd _ 92 93 8 6 w hP hS hne hq1 (by omega) hn2 hb (fun w' => by rw [h]; exact layout_17 w')
        (fun w' h1 h2 => by
          have := readUdp_any q _ pb g off n cap bd w' h1 h2 hne (by omega) hb
          have e4 : rdBody q bd = rdUdp q bd := by unfold rdBody; rw [if_neg (by omega), if_pos h]
          rw [e4]; exact this)
        (fun w' h1 => writeUdp_any (rdBody q bd) _ pb (n : Int) w' h1 hr (by omega) (by omega)) cf72 cr73 (by simp [be_len]) hbt (by omega) (by omega)).mono (fun e w' h => fin _ e w' h)
end Go.Proofs.Ytigbbpgfblnboaa
