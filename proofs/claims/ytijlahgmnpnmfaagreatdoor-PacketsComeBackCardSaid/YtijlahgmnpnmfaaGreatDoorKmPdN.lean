/- Packets that are read: slices that are equal, or not. -/
import Derived.Test.YtijlahgmnpnmfaaGreatDoorKmPdG
import Derived.Test.YtijlahgmnpnmfaaGreatDoorKmPdZ
import Derived.Laws.ResultCell
import Derived.Test.YtijlahgmnpnmfaaGreatDoorKmPcV
namespace Go.Proofs.YtijlahgmnpnmfaaGreatDoor
open Go.RowKit
set_option linter.unusedVariables false
set_option linter.unusedSimpArgs false

theorem cr71 (args : Array Value) (w' : World) : (callFunc 59 args).run Tryz.prog w' = .ok (.enter 59 args) w' := by go_simp
theorem cr73 (args : Array Value) (w' : World) : (callFunc 61 args).run Tryz.prog w' = .ok (.enter 61 args) w' := by go_simp
theorem cr75 (args : Array Value) (w' : World) : (callFunc 63 args).run Tryz.prog w' = .ok (.enter 63 args) w' := by go_simp
theorem layE_part {q : Pk} {bd : List Nat} (h : szP q ≤ bd.length) : partE q bd = layE (rdBody q bd) (headP (rdBody q bd) (bd.length - szP q)) bd (szP q) (atP q) := by
  unfold partE layE
  rw [if_neg (show ¬ bd.length < szP q by omega)]
theorem rd_ok {q : Pk} {bd : List Nat} (hq : PkOk q) (hb : Byt bd) : PkOk (rdBody q bd) := by
  have n4 : ∀ i, nb bd i 4 < 4294967296 := fun i => nb_lt hb i 4
  have n2 : ∀ i, nb bd i 2 < 65536 := fun i => nb_lt hb i 2
  have a0 := n2 0; have a2 := n2 2; have a4 := n2 4; have a6 := n2 6; have b4 := n4 4; have b8 := n4 8
  obtain ⟨h1, h2, h3, h4, h5, h6, h7, h8, h9, h10, h11, h12, h13, h14, h15, h16, h17⟩ := hq
  unfold rdBody
  split
  · constructor <;> first | assumption | (simp only [rdTcp]; omega)
  · split
    · constructor <;> first | assumption | (simp only [rdUdp]; omega)
    · constructor <;> first | assumption | (simp only [rdIcmp]; omega)

theorem readPart_any (q : Pk) (pb : Nat) (A : Option Addr) (n cap : Nat) (bd : List Nat) (w : World) (hP : Blk w pb (pkL q (.slice none 0 0)) 31) (hS : SlB w A n cap bd) (hA : 8 ≤ n → ∃ g off, A = some ⟨g, off, none⟩ ∧ g ≠ pb) (hq : PkOk q) (hn2 : n ≤ 1000) (hb : Byt bd) :
    Calls Tryz.prog 21 #[.slice A n cap, .pointer (some ⟨pb, 0, none⟩)] w fun e w' => ∃ q' v', e = .returned (.int .i64 (partE q bd)) ∧ RdP w pb q' v' w' ∧ (partE q bd = 0 → q' = rdBody q bd ∧ ∃ A' n' c', v' = .slice A' n' c' ∧ Own w.heap.size w' (.slice A' n' c') (bd.drop (szP q))) := by
  have hl := hS.len
  have hq1 := rd_ok hq hb
  by_cases hs : n < szP q
  · have hE : partE q bd = 3 := by unfold partE; rw [if_pos (by omega)]
    rw [hE]
    have fin : ∀ (e : Ending) (w' : World), (e = .returned (.int .i64 3) ∧ RdP w pb q (.slice none 0 0) w') → ∃ q' v', e = .returned (.int .i64 3) ∧ RdP w pb q' v' w' ∧ ((3 : Int) = 0 → q' = rdBody q bd ∧ ∃ A' n' c', v' = .slice A' n' c' ∧ Own w.heap.size w' (.slice A' n' c') (bd.drop (szP q))) := fun e w' h => ⟨q, _, h.1, h.2, fun h => by cases h⟩
    rcases hq.proto with h | h | h
    · have e1 : szP q = 8 := by unfold szP; rw [if_neg (by omega)]
      exact (readPart_short q _ pb A n cap _ _ 8 2 w hP (by omega) (by omega) (fun w' => by rw [h]; exact layout_1 w')).mono (fun e w' h => fin e w' h)
    · have e1 : szP q = 20 := by unfold szP; rw [if_pos h]
      exact (readPart_short q _ pb A n cap _ _ 20 16 w hP (by omega) (by omega) (fun w' => by rw [h]; exact layout_six w')).mono (fun e w' h => fin e w' h)
    · have e1 : szP q = 8 := by unfold szP; rw [if_neg (by omega)]
      exact (readPart_short q _ pb A n cap _ _ 8 6 w hP (by omega) (by omega) (fun w' => by rw [h]; exact layout_17 w')).mono (fun e w' h => fin e w' h)
  · have h8 : 8 ≤ n := by have : 8 ≤ szP q := by unfold szP; split <;> omega
                          omega
    obtain ⟨g, off, rfl, hne⟩ := hA h8
    have hr : 0 ≤ (rdBody q bd).fp ∧ (rdBody q bd).fp ≤ 65535 ∧ 0 ≤ (rdBody q bd).tp ∧ (rdBody q bd).tp ≤ 65535 := ⟨hq1.fp0, hq1.fp1, hq1.tp0, hq1.tp1⟩
    have hbt := headP_byt (rdBody q bd) (bd.length - szP q)
    rw [layE_part (by omega)]
    rw [← hl] at hbt ⊢
    have fin : ∀ (E : Int) (e : Ending) (w' : World), (∃ v', e = .returned (.int .i64 E) ∧ RdP w pb (rdBody q bd) v' w' ∧ (E = 0 → ∃ A' n' c', v' = .slice A' n' c' ∧ Own w.heap.size w' (.slice A' n' c') (bd.drop (szP q)))) → ∃ q' v', e = .returned (.int .i64 E) ∧ RdP w pb q' v' w' ∧ (E = 0 → q' = rdBody q bd ∧ ∃ A' n' c', v' = .slice A' n' c' ∧ Own w.heap.size w' (.slice A' n' c') (bd.drop (szP q))) := fun E e w' ⟨v', h1, h2, h3⟩ => ⟨_, v', h1, h2, fun h => ⟨rfl, h3 h⟩⟩
    have hpp := rd_proto q bd
    rcases hq.proto with h | h | h
    · have e1 : szP q = 8 := by unfold szP; rw [if_neg (by omega)]
      have e2 : atP q = 2 := by unfold atP; rw [if_neg (by omega), if_neg (by omega)]
      have e3 : ∀ m, headP (rdBody q bd) m = [kindN (rdBody q bd).fs (rdBody q bd).reply, 0, 0, 0] ++ be (rdBody q bd).id.toNat 2 ++ be (rdBody q bd).seq.toNat 2 := fun m => by unfold headP; rw [if_neg (by omega), if_neg (by omega)]
      rw [e1] at hbt fin hs
      rw [e1, e2]
      rw [e3] at hbt ⊢
      exact (readPart_lay q (rdBody q bd) pb g off n cap bd _ 62 63 8 2 w hP hS hne hq1 (by omega) hn2 hb (fun w' => by rw [h]; exact layout_1 w')
        (fun w' h1 h2 => by
          have := readIcmp_any q _ pb g off n cap bd w' h1 h2 hne (by omega) hb
          have e4 : rdBody q bd = rdIcmp q bd (decide (bd.getD 0 0 = kindN q.fs true)) := by unfold rdBody; rw [if_neg (by omega), if_neg (by omega)]
          rw [e4]; exact this)
        (fun w' h1 => writeIcmp_any (rdBody q bd) _ pb _ w' h1 hq1.seq0 (hq1.seqI (by omega)) hq1.id0 hq1.id1) cf74 cr75 (by simp [be_len]) hbt (by omega) (by omega)).mono (fun e w' h => fin _ e w' h)
    · have e1 : szP q = 20 := by unfold szP; rw [if_pos h]
      have e2 : atP q = 16 := by unfold atP; rw [if_pos h]
      have e3 : ∀ m, headP (rdBody q bd) m = be (rdBody q bd).fp.toNat 2 ++ be (rdBody q bd).tp.toNat 2 ++ be (rdBody q bd).seq.toNat 4 ++ be (rdBody q bd).ack.toNat 4 ++ [80, flgN (rdBody q bd)] ++ be 65535 2 ++ [0, 0, 0, 0] := fun m => by unfold headP; rw [if_pos (by omega)]
      rw [e1] at hbt fin hs
      rw [e1, e2]
      rw [e3] at hbt ⊢
      exact (readPart_lay q (rdBody q bd) pb g off n cap bd _ 58 59 20 16 w hP hS hne hq1 (by omega) hn2 hb (fun w' => by rw [h]; exact layout_six w')
        (fun w' h1 h2 => by
          have := readTcp_any q _ pb g off n cap bd w' h1 h2 hne (by omega) hb
          have e4 : rdBody q bd = rdTcp q bd := by unfold rdBody; rw [if_pos h]
          rw [e4]; exact this)
        (fun w' h1 => writeTcp_any (rdBody q bd) _ pb _ w' h1 hr hq1.seq0 hq1.seq1 hq1.ack0 hq1.ack1) cf70 cr71 (by simp [be_len]) hbt (by omega) (by omega)).mono (fun e w' h => fin _ e w' h)
    · have e1 : szP q = 8 := by unfold szP; rw [if_neg (by omega)]
      have e2 : atP q = 6 := by unfold atP; rw [if_neg (by omega), if_pos h]
      have e3 : ∀ m, headP (rdBody q bd) m = be (rdBody q bd).fp.toNat 2 ++ be (rdBody q bd).tp.toNat 2 ++ be (8 + m) 2 ++ [0, 0] := fun m => by unfold headP; rw [if_neg (by omega), if_pos (by omega)]
      rw [e1] at hbt fin hs
      rw [e1, e2]
      rw [e3, show 8 + (n - 8) = n by omega] at hbt ⊢
      exact (readPart_lay q (rdBody q bd) pb g off n cap bd _ 60 61 8 6 w hP hS hne hq1 (by omega) hn2 hb (fun w' => by rw [h]; exact layout_17 w')
        (fun w' h1 h2 => by
          have := readUdp_any q _ pb g off n cap bd w' h1 h2 hne (by omega) hb
          have e4 : rdBody q bd = rdUdp q bd := by unfold rdBody; rw [if_neg (by omega), if_pos h]
          rw [e4]; exact this)
        (fun w' h1 => writeUdp_any (rdBody q bd) _ pb (n : Int) w' h1 hr (by omega) (by omega)) cf72 cr73 (by simp [be_len]) hbt (by omega) (by omega)).mono (fun e w' h => fin _ e w' h)
end Go.Proofs.YtijlahgmnpnmfaaGreatDoor
namespace Go.Proofs.YtijlahgmnpnmfaaGreatDoor
open Go.RowKit
set_option linter.unusedVariables false
set_option linter.unusedSimpArgs false

/-- Nothing. -/
def zq : Pk := ⟨false, 0, 0, false, 0, 0, 0, 0, 0, 0, false, false, false, false, 0, 0, false, 0⟩
theorem stZ {w : World} {p : Nat} {old : List Value} {t : TypeId} (h : Blk w p old t) (ho : old.length = 19) : (stPk (.pointer (some ⟨p, 0, none⟩)) (.agg #[.bool false, .int .u64 0, .int .u64 0, .bool false, .int .u64 0, .int .u64 0, .int .i64 0, .int .i64 0, .int .i64 0, .int .i64 0, .bool false, .bool false, .bool false, .bool false, .int .i64 0, .int .i64 0, .bool false, .int .i64 0, .slice none 0 0])).run Tryz.prog w = .ok .skip (w.setRow p (pkL zq (.slice none 0 0)).toArray) := stPk_run (q := zq) (v := .slice none 0 0) h ho rfl
theorem res_pk {fn : Func} {p u : Tmp} (h : fn.results = #[.cell p 31, .tmp u]) (tmps : Array Value) (w : World) (g : Nat) (q : Pk) (v : Value) (hp : tmps.getD p undef = .pointer (some ⟨g, 0, none⟩)) (hg : w.heap[g]? = some (.cells (pkL q v).toArray 31 (0, 0))) (x : Value) (hx : tmps.getD u undef = x) :
    (results fn tmps).run Tryz.prog w = .ok (.tuple #[pkV q v, x]) w := by
  have hl := run_loadVar_row (P := Tryz.prog) w g 31 31 (pkL q v).toArray (0, 0) _ hg Tryz.underlying31 rfl (by kernel_rfl)
  rw [results_cell_tmp h, hp, hx]
  simp only [asAddr, Sem.run_pure, Result.andThen_ok, hl]
/-- What stands while a packet is read: its block, the block of the result. -/
structure AtQ (w : World) (pb : Nat) (q : Pk) (v : Value) (u : World) : Prop where
  x : Blk u pb (pkL q v) 31
  r : Blk u w.heap.size zeroPk 31
  b : Below w.heap.size w u
  lt : w.heap.size < pb
theorem AtQ.rdp {w u u' : World} {pb : Nat} {q q' : Pk} {v v' : Value} (h : AtQ w pb q v u) (k : RdP u pb q' v' u') : AtQ w pb q' v' u' :=
  ⟨k.blk, (k.gb.block _ h.r.lt (by intro e; cases e; have := h.lt; omega)).trans h.r, h.b.trans (gb_toBelow k.gb (by have := h.lt; omega) (by have := h.x.lt; omega)), h.lt⟩
theorem row_gb {u : World} {p : Nat} (cs : Array Value) : u.grownBy (u.setRow p cs) (some p) := ⟨rfl, rfl, rfl, by simp [World.setRow], fun k hk hne => setRow_other _ p k _ (fun e => hne (by rw [e]))⟩
theorem AtQ.fin {w u : World} {pb : Nat} {q : Pk} {v : Value} (h : AtQ w pb q v u) (cs : Array Value) : Below w.heap.size w (u.setRow w.heap.size cs) :=
  h.b.trans (gb_toBelow (row_gb cs) (Nat.le_refl _) (by have := h.r.lt; omega))
theorem own_fin {w u1 u : World} {pb : Nat} {q : Pk} {v x : Value} {bs : List Nat} (h : Own u1.heap.size u x bs) (hQ : AtQ w pb q v u) (hlt : w.heap.size < u1.heap.size) (cs : Array Value) : Own w.heap.size (u.setRow w.heap.size cs) x bs :=
  (h.gbb (row_gb cs) hlt).mono (by omega)

set_option maxHeartbeats 2000000 in
set_option maxRecDepth 100000 in
theorem readPacket_any (A : Option Addr) (n cap : Nat) (bs : List Nat) (w : World) (hS : SlB w A n cap bs) (hn2 : n ≤ 1000) (hb : Byt bs) :
    Calls Tryz.prog 6 #[.slice A n cap] w fun e w' => ∃ q' v', e = .returned (.tuple #[pkV q' v', .int .i64 (rdE bs)]) ∧ Below w.heap.size w w' ∧ (rdE bs ≠ 0 → q' = zq ∧ v' = .slice none 0 0) ∧
      (rdE bs = 0 → q' = rdBody (headQ bs) (bs.drop (headN bs)) ∧ ∃ A' n' c', v' = .slice A' n' c' ∧ Own w.heap.size w' (.slice A' n' c') ((bs.drop (headN bs)).drop (szP (headQ bs)))) := by
  have hl := Lib.hid hS.len
  replace hb := Lib.hid hb
  have Z1 := Blk.new w zeroPk 31
  have hw1 : Below w.heap.size w (w.alloc (.cells #[.bool false, .int .u64 0, .int .u64 0, .bool false, .int .u64 0, .int .u64 0, .int .i64 0, .int .i64 0, .int .i64 0, .int .i64 0, .bool false, .bool false, .bool false, .bool false, .int .i64 0, .int .i64 0, .bool false, .int .i64 0, .slice none 0 0] 31)) := (Below.refl _ _).alloc (Nat.le_refl _) _
  by_cases hlt : n < 20
  · have hi : (n : Int) < 20 := by omega
    have hR := Lib.hid (show rdE bs = 3 by
      have h : headE bs = 3 := by unfold headE; rw [if_pos (by have := hl.out; omega)]
      unfold rdE; rw [h, if_pos (by decide)])
    have S0 := stZ Z1 rfl
    have hfin : Hid (Below w.heap.size w ((w.alloc (.cells #[.bool false, .int .u64 0, .int .u64 0, .bool false, .int .u64 0, .int .u64 0, .int .i64 0, .int .i64 0, .int .i64 0, .int .i64 0, .bool false, .bool false, .bool false, .bool false, .int .i64 0, .int .i64 0, .bool false, .int .i64 0, .slice none 0 0] 31)).setRow w.heap.size (pkL zq (.slice none 0 0)).toArray)) := Lib.hid (hw1.trans (gb_toBelow (row_gb _) (Nat.le_refl _) (by simp)))
    replace Z1 := Lib.hid Z1
    clear hS hw1 hlt
    go_enter Tryz.func6, Tryz.ntmps6
    go_wp2_with fail
    refine bodyPost_ret (v := .tuple #[pkV zq (.slice none 0 0), .int .i64 3]) (res_pk rfl _ _ w.heap.size zq (.slice none 0 0) rfl (setRow_heap _ _ _ _ _ _ Z1.out) _ rfl) rfl ⟨zq, .slice none 0 0, by rw [hR.out], hfin.out, fun _ => ⟨rfl, rfl⟩, fun h => by rw [hR.out] at h; cases h⟩
  · have hi : ¬ (n : Int) < 20 := by omega
    have hi0 : (0 : Int) < n := by omega
    have hi0' : 0 < n := by omega
    obtain ⟨g, off, rfl, hgw⟩ : ∃ g off, A = some ⟨g, off, none⟩ ∧ g < w.heap.size := by
      rcases hS.2.2 with h | ⟨g, off, h, h2, _⟩
      · omega
      · exact ⟨g, off, h, h2⟩
    have hw2 : Below w.heap.size w ((w.alloc (.cells #[.bool false, .int .u64 0, .int .u64 0, .bool false, .int .u64 0, .int .u64 0, .int .i64 0, .int .i64 0, .int .i64 0, .int .i64 0, .bool false, .bool false, .bool false, .bool false, .int .i64 0, .int .i64 0, .bool false, .int .i64 0, .slice none 0 0] 31)).alloc (.cells #[.bool false, .int .u64 0, .int .u64 0, .bool false, .int .u64 0, .int .u64 0, .int .i64 0, .int .i64 0, .int .i64 0, .int .i64 0, .bool false, .bool false, .bool false, .bool false, .int .i64 0, .int .i64 0, .bool false, .int .i64 0, .slice none 0 0] 31)) := hw1.alloc (by simp) _
    replace hS := hS.below hw2
    have hQ : AtQ w (w.heap.size + 1) zq (.slice none 0 0) ((w.alloc (.cells #[.bool false, .int .u64 0, .int .u64 0, .bool false, .int .u64 0, .int .u64 0, .int .i64 0, .int .i64 0, .int .i64 0, .int .i64 0, .bool false, .bool false, .bool false, .bool false, .int .i64 0, .int .i64 0, .bool false, .int .i64 0, .slice none 0 0] 31)).alloc (.cells #[.bool false, .int .u64 0, .int .u64 0, .bool false, .int .u64 0, .int .u64 0, .int .i64 0, .int .i64 0, .int .i64 0, .int .i64 0, .bool false, .bool false, .bool false, .bool false, .int .i64 0, .int .i64 0, .bool false, .int .i64 0, .slice none 0 0] 31)) := ⟨by
      have := Blk.new (w.alloc (.cells #[.bool false, .int .u64 0, .int .u64 0, .bool false, .int .u64 0, .int .u64 0, .int .i64 0, .int .i64 0, .int .i64 0, .int .i64 0, .bool false, .bool false, .bool false, .bool false, .int .i64 0, .int .i64 0, .bool false, .int .i64 0, .slice none 0 0] 31)) zeroPk 31
      rw [show (w.alloc (.cells #[.bool false, .int .u64 0, .int .u64 0, .bool false, .int .u64 0, .int .u64 0, .int .i64 0, .int .i64 0, .int .i64 0, .int .i64 0, .bool false, .bool false, .bool false, .bool false, .int .i64 0, .int .i64 0, .bool false, .int .i64 0, .slice none 0 0] 31)).heap.size = w.heap.size + 1 by simp] at this
      exact this, Z1.alloc _, hw2, by omega⟩
    obtain ⟨c0, _⟩ := hS.byte 0 (by omega)
    rw [Nat.add_zero] at c0
    obtain ⟨x, hx⟩ : ∃ x : Int, x = (bs.getD 0 0 : Nat) := ⟨_, rfl⟩
    rw [← hx] at c0
    have hl20 := Lib.hid (show ¬ bs.length < 20 by have := hl.out; omega)
    clear Z1 hw1 hw2
    by_cases h69 : x = 69
    · have hb0 : bs.getD 0 0 = 69 := by omega
      have hN := Lib.hid (show headN bs = 20 by unfold headN; rw [if_pos hb0])
      have hHd := Lib.hid (show headE bs = fourE bs by unfold headE; rw [if_neg hl20.out, if_pos hb0])
      have hqq := Lib.hid (show ({ zq with fs := false, fh := 0, fl := nb bs 12 4, ts := false, th := 0, tl := nb bs 16 4, proto := protoN false (bs.getD 9 0), hops := (bs.getD 8 0 : Nat) } : Pk) = headQ bs by unfold headQ; rw [if_pos hb0]; rfl)
      have hge : Hid (headE bs = 0 → 20 ≤ n) := Lib.hid (fun _ => by omega)
      subst h69
      clear hb0
      go_enter Tryz.func6, Tryz.ntmps6
      have HF := Lib.hid (readFour_any zq (.slice none 0 0) (w.heap.size + 1) g off n cap bs _ hQ.x hS (by omega) (by omega) (by omega) hb.out)
      go_wp2_with fail
      refine HF.out.mono ?_
      rintro e u1 ⟨q1, rfl, hx1, hq1⟩
      replace hS := hS.rdp hx1 (by omega)
      replace hQ := hQ.rdp hx1
      obtain ⟨E, hEe⟩ : ∃ E : Int, E = fourE bs := ⟨_, rfl⟩
      rw [← hEe] at hq1 ⊢
      have hHE : headE bs = E := by rw [hEe]; exact hHd.out
      clear HF hx1 hEe
      by_cases hE : E = 0
      · have hH := Lib.hid (hHE.trans hE)
        have hq1' : q1 = headQ bs := (hq1 hE).trans hqq.out
        subst hE hq1'
        have hlen := Lib.hid (show 20 ≤ n from hge.out hH.out)
        have hge' := hlen.out
        have hok := ok_head hb.out (head_proto hH.out)
        have hQ1 := Lib.hid hQ.x.lt
        clear hq1 hHE
        by_cases hcz : cap = 20
        · have hn0 : n = 20 := by have := hS.2.1; omega
          subst hcz hn0
          have HP := readPart_any (headQ bs) (w.heap.size + 1) (some ⟨g, off, none⟩) 0 0 (bs.drop 20) u1 hQ.x (by rw [List.drop_eq_nil_iff.2 (by have := hl.out; omega)]; exact ⟨rfl, Nat.le_refl _, .inl rfl⟩) (fun h => by omega) hok (by omega) (fun b h => hb.out b (List.mem_of_mem_drop h))
          replace HP := Lib.hid HP
          clear hS
          go_wp2_with fail
          refine HP.out.mono ?_
          rintro e u2 ⟨q2, v2, rfl, hx2, h2⟩
          replace hQ := hQ.rdp hx2
          obtain ⟨E, hEe⟩ : ∃ E : Int, E = partE (headQ bs) (bs.drop 20) := ⟨_, rfl⟩
          rw [← hEe] at h2 ⊢
          have hR : Hid (rdE bs = E) := Lib.hid (by rw [hEe, ← hN.out]; unfold rdE; rw [if_neg (fun h => h hH.out)])
          clear hx2 HP hEe
          by_cases hE : E = 0
          · obtain ⟨rfl, A', n', c', rfl, ho⟩ := h2 hE
            subst hE
            have L := ldPk_run hQ.x
            have S := stPk_run (q := rdBody (headQ bs) (bs.drop 20)) (v := .slice A' n' c') hQ.r rfl rfl
            have hfin := Lib.hid (show Own w.heap.size _ (.slice A' n' c') (bs.drop 20 |>.drop (szP (headQ bs))) from own_fin ho hQ (by have := hQ1.out; omega) (pkL (rdBody (headQ bs) (bs.drop 20)) (.slice A' n' c')).toArray)
            go_wp2_with fail
            refine bodyPost_ret (v := .tuple #[pkV (rdBody (headQ bs) (bs.drop 20)) (.slice A' n' c'), .int .i64 0]) (res_pk rfl _ _ w.heap.size _ (.slice A' n' c') rfl (setRow_heap _ _ _ _ _ _ hQ.r) _ rfl) rfl ⟨_, _, by rw [hR.out], hQ.fin _, fun h => absurd hR.out h, fun _ => ⟨by rw [hN.out], A', n', c', rfl, by rw [hN.out]; exact hfin.out⟩⟩
          · clear h2
            have S0 := stZ hQ.r rfl
            have hEb : (E == 0) = false := by simp [hE]
            replace hE := Lib.hid hE
            go_wp2_with fail
            refine bodyPost_ret (v := .tuple #[pkV zq (.slice none 0 0), .int .i64 E]) (res_pk rfl _ _ w.heap.size zq (.slice none 0 0) rfl (setRow_heap _ _ _ _ _ _ hQ.r) _ rfl) rfl ⟨zq, .slice none 0 0, by rw [hR.out], hQ.fin _, fun _ => ⟨rfl, rfl⟩, fun h => absurd (hR.out.symm.trans h) hE.out⟩
        · have j1 : (20 : Int) ≤ n := by omega
          have j2 : (20 : Int) ≤ cap := by have := hS.2.1; omega
          have HP := readPart_any (headQ bs) (w.heap.size + 1) (some ⟨g, off + 20, none⟩) (n - 20) (cap - 20) (bs.drop 20) u1 hQ.x (by
            have h := hS.part 20 (n - 20) (cap - 20) (by omega) (by have := hS.2.1; omega)
            rwa [List.take_of_length_le (by rw [List.length_drop]; have := hl.out; omega)] at h) (fun h => ⟨g, off + 20, rfl, by omega⟩) hok (by omega) (fun b h => hb.out b (List.mem_of_mem_drop h))
          replace HP := Lib.hid HP
          clear hS
          go_wp2_with fail
          refine HP.out.mono ?_
          rintro e u2 ⟨q2, v2, rfl, hx2, h2⟩
          replace hQ := hQ.rdp hx2
          obtain ⟨E, hEe⟩ : ∃ E : Int, E = partE (headQ bs) (bs.drop 20) := ⟨_, rfl⟩
          rw [← hEe] at h2 ⊢
          have hR : Hid (rdE bs = E) := Lib.hid (by rw [hEe, ← hN.out]; unfold rdE; rw [if_neg (fun h => h hH.out)])
          clear hx2 HP hEe
          by_cases hE : E = 0
          · obtain ⟨rfl, A', n', c', rfl, ho⟩ := h2 hE
            subst hE
            have L := ldPk_run hQ.x
            have S := stPk_run (q := rdBody (headQ bs) (bs.drop 20)) (v := .slice A' n' c') hQ.r rfl rfl
            have hfin := Lib.hid (show Own w.heap.size _ (.slice A' n' c') (bs.drop 20 |>.drop (szP (headQ bs))) from own_fin ho hQ (by have := hQ1.out; omega) (pkL (rdBody (headQ bs) (bs.drop 20)) (.slice A' n' c')).toArray)
            go_wp2_with fail
            refine bodyPost_ret (v := .tuple #[pkV (rdBody (headQ bs) (bs.drop 20)) (.slice A' n' c'), .int .i64 0]) (res_pk rfl _ _ w.heap.size _ (.slice A' n' c') rfl (setRow_heap _ _ _ _ _ _ hQ.r) _ rfl) rfl ⟨_, _, by rw [hR.out], hQ.fin _, fun h => absurd hR.out h, fun _ => ⟨by rw [hN.out], A', n', c', rfl, by rw [hN.out]; exact hfin.out⟩⟩
          · clear h2
            have S0 := stZ hQ.r rfl
            have hEb : (E == 0) = false := by simp [hE]
            replace hE := Lib.hid hE
            go_wp2_with fail
            refine bodyPost_ret (v := .tuple #[pkV zq (.slice none 0 0), .int .i64 E]) (res_pk rfl _ _ w.heap.size zq (.slice none 0 0) rfl (setRow_heap _ _ _ _ _ _ hQ.r) _ rfl) rfl ⟨zq, .slice none 0 0, by rw [hR.out], hQ.fin _, fun _ => ⟨rfl, rfl⟩, fun h => absurd (hR.out.symm.trans h) hE.out⟩
      · have hR : Hid (rdE bs = E) := Lib.hid (by unfold rdE; rw [hHE, if_pos hE])
        clear hq1 hHE hS
        have S0 := stZ hQ.r rfl
        have hEb : (E == 0) = false := by simp [hE]
        replace hE := Lib.hid hE
        go_wp2_with fail
        refine bodyPost_ret (v := .tuple #[pkV zq (.slice none 0 0), .int .i64 E]) (res_pk rfl _ _ w.heap.size zq (.slice none 0 0) rfl (setRow_heap _ _ _ _ _ _ hQ.r) _ rfl) rfl ⟨zq, .slice none 0 0, by rw [hR.out], hQ.fin _, fun _ => ⟨rfl, rfl⟩, fun h => absurd (hR.out.symm.trans h) hE.out⟩
    · have hx69 : (x == 69) = false := by simp [h69]
      by_cases h96 : x = 96
      · have hb0 : bs.getD 0 0 = 96 := by omega
        have hb1 : ¬ bs.getD 0 0 = 69 := by omega
        have hN := Lib.hid (show headN bs = 40 by unfold headN; rw [if_neg hb1])
        have hHd := Lib.hid (show headE bs = sixE bs by unfold headE; rw [if_neg hl20.out, if_neg hb1, if_pos hb0])
        have hqq := Lib.hid (show ({ zq with fs := true, fh := nb bs 8 8, fl := nb bs 16 8, ts := true, th := nb bs 24 8, tl := nb bs 32 8, proto := protoN true (bs.getD 6 0), hops := (bs.getD 7 0 : Nat) } : Pk) = headQ bs by unfold headQ; rw [if_neg hb1]; rfl)
        have hge : Hid (headE bs = 0 → 40 ≤ n) := Lib.hid (fun h => by rw [hHd.out] at h; have := (head_six hb.out hb0 h).1; have := hl.out; omega)
        have hx96 : (x == 96) = true := by simp [h96]
        replace h96 := Lib.hid h96
        replace hx := Lib.hid hx
        replace h69 := Lib.hid h69
        clear hb0 hb1
        go_enter Tryz.func6, Tryz.ntmps6
        have HF := Lib.hid (readSix_any zq (.slice none 0 0) (w.heap.size + 1) g off n cap bs _ hQ.x hS (by omega) (by omega) (by omega) hb.out)
        go_wp2_with fail
        refine HF.out.mono ?_
        rintro e u1 ⟨q1, rfl, hx1, hq1⟩
        replace hS := hS.rdp hx1 (by omega)
        replace hQ := hQ.rdp hx1
        obtain ⟨E, hEe⟩ : ∃ E : Int, E = sixE bs := ⟨_, rfl⟩
        rw [← hEe] at hq1 ⊢
        have hHE : headE bs = E := by rw [hEe]; exact hHd.out
        clear HF hx1 hEe
        by_cases hE : E = 0
        · have hH := Lib.hid (hHE.trans hE)
          have hq1' : q1 = headQ bs := (hq1 hE).trans hqq.out
          subst hE hq1'
          have hlen := Lib.hid (show 40 ≤ n from hge.out hH.out)
          have hge' := hlen.out
          have hok := ok_head hb.out (head_proto hH.out)
          have hQ1 := Lib.hid hQ.x.lt
          clear hq1 hHE
          by_cases hcz : cap = 40
          · have hn0 : n = 40 := by have := hS.2.1; omega
            subst hcz hn0
            have HP := readPart_any (headQ bs) (w.heap.size + 1) (some ⟨g, off, none⟩) 0 0 (bs.drop 40) u1 hQ.x (by rw [List.drop_eq_nil_iff.2 (by have := hl.out; omega)]; exact ⟨rfl, Nat.le_refl _, .inl rfl⟩) (fun h => by omega) hok (by omega) (fun b h => hb.out b (List.mem_of_mem_drop h))
            replace HP := Lib.hid HP
            clear hS
            go_wp2_with fail
            refine HP.out.mono ?_
            rintro e u2 ⟨q2, v2, rfl, hx2, h2⟩
            replace hQ := hQ.rdp hx2
            obtain ⟨E, hEe⟩ : ∃ E : Int, E = partE (headQ bs) (bs.drop 40) := ⟨_, rfl⟩
            rw [← hEe] at h2 ⊢
            have hR : Hid (rdE bs = E) := Lib.hid (by rw [hEe, ← hN.out]; unfold rdE; rw [if_neg (fun h => h hH.out)])
            clear hx2 HP hEe
            by_cases hE : E = 0
            · obtain ⟨rfl, A', n', c', rfl, ho⟩ := h2 hE
              subst hE
              have L := ldPk_run hQ.x
              have S := stPk_run (q := rdBody (headQ bs) (bs.drop 40)) (v := .slice A' n' c') hQ.r rfl rfl
              have hfin := Lib.hid (show Own w.heap.size _ (.slice A' n' c') (bs.drop 40 |>.drop (szP (headQ bs))) from own_fin ho hQ (by have := hQ1.out; omega) (pkL (rdBody (headQ bs) (bs.drop 40)) (.slice A' n' c')).toArray)
              go_wp2_with fail
              refine bodyPost_ret (v := .tuple #[pkV (rdBody (headQ bs) (bs.drop 40)) (.slice A' n' c'), .int .i64 0]) (res_pk rfl _ _ w.heap.size _ (.slice A' n' c') rfl (setRow_heap _ _ _ _ _ _ hQ.r) _ rfl) rfl ⟨_, _, by rw [hR.out], hQ.fin _, fun h => absurd hR.out h, fun _ => ⟨by rw [hN.out], A', n', c', rfl, by rw [hN.out]; exact hfin.out⟩⟩
            · clear h2
              have S0 := stZ hQ.r rfl
              have hEb : (E == 0) = false := by simp [hE]
              replace hE := Lib.hid hE
              go_wp2_with fail
              refine bodyPost_ret (v := .tuple #[pkV zq (.slice none 0 0), .int .i64 E]) (res_pk rfl _ _ w.heap.size zq (.slice none 0 0) rfl (setRow_heap _ _ _ _ _ _ hQ.r) _ rfl) rfl ⟨zq, .slice none 0 0, by rw [hR.out], hQ.fin _, fun _ => ⟨rfl, rfl⟩, fun h => absurd (hR.out.symm.trans h) hE.out⟩
          · have j1 : (40 : Int) ≤ n := by omega
            have j2 : (40 : Int) ≤ cap := by have := hS.2.1; omega
            have HP := readPart_any (headQ bs) (w.heap.size + 1) (some ⟨g, off + 40, none⟩) (n - 40) (cap - 40) (bs.drop 40) u1 hQ.x (by
              have h := hS.part 40 (n - 40) (cap - 40) (by omega) (by have := hS.2.1; omega)
              rwa [List.take_of_length_le (by rw [List.length_drop]; have := hl.out; omega)] at h) (fun h => ⟨g, off + 40, rfl, by omega⟩) hok (by omega) (fun b h => hb.out b (List.mem_of_mem_drop h))
            replace HP := Lib.hid HP
            clear hS
            go_wp2_with fail
            refine HP.out.mono ?_
            rintro e u2 ⟨q2, v2, rfl, hx2, h2⟩
            replace hQ := hQ.rdp hx2
            obtain ⟨E, hEe⟩ : ∃ E : Int, E = partE (headQ bs) (bs.drop 40) := ⟨_, rfl⟩
            rw [← hEe] at h2 ⊢
            have hR : Hid (rdE bs = E) := Lib.hid (by rw [hEe, ← hN.out]; unfold rdE; rw [if_neg (fun h => h hH.out)])
            clear hx2 HP hEe
            by_cases hE : E = 0
            · obtain ⟨rfl, A', n', c', rfl, ho⟩ := h2 hE
              subst hE
              have L := ldPk_run hQ.x
              have S := stPk_run (q := rdBody (headQ bs) (bs.drop 40)) (v := .slice A' n' c') hQ.r rfl rfl
              have hfin := Lib.hid (show Own w.heap.size _ (.slice A' n' c') (bs.drop 40 |>.drop (szP (headQ bs))) from own_fin ho hQ (by have := hQ1.out; omega) (pkL (rdBody (headQ bs) (bs.drop 40)) (.slice A' n' c')).toArray)
              go_wp2_with fail
              refine bodyPost_ret (v := .tuple #[pkV (rdBody (headQ bs) (bs.drop 40)) (.slice A' n' c'), .int .i64 0]) (res_pk rfl _ _ w.heap.size _ (.slice A' n' c') rfl (setRow_heap _ _ _ _ _ _ hQ.r) _ rfl) rfl ⟨_, _, by rw [hR.out], hQ.fin _, fun h => absurd hR.out h, fun _ => ⟨by rw [hN.out], A', n', c', rfl, by rw [hN.out]; exact hfin.out⟩⟩
            · clear h2
              have S0 := stZ hQ.r rfl
              have hEb : (E == 0) = false := by simp [hE]
              replace hE := Lib.hid hE
              go_wp2_with fail
              refine bodyPost_ret (v := .tuple #[pkV zq (.slice none 0 0), .int .i64 E]) (res_pk rfl _ _ w.heap.size zq (.slice none 0 0) rfl (setRow_heap _ _ _ _ _ _ hQ.r) _ rfl) rfl ⟨zq, .slice none 0 0, by rw [hR.out], hQ.fin _, fun _ => ⟨rfl, rfl⟩, fun h => absurd (hR.out.symm.trans h) hE.out⟩
        · have hR : Hid (rdE bs = E) := Lib.hid (by unfold rdE; rw [hHE, if_pos hE])
          clear hq1 hHE hS
          have S0 := stZ hQ.r rfl
          have hEb : (E == 0) = false := by simp [hE]
          replace hE := Lib.hid hE
          go_wp2_with fail
          refine bodyPost_ret (v := .tuple #[pkV zq (.slice none 0 0), .int .i64 E]) (res_pk rfl _ _ w.heap.size zq (.slice none 0 0) rfl (setRow_heap _ _ _ _ _ _ hQ.r) _ rfl) rfl ⟨zq, .slice none 0 0, by rw [hR.out], hQ.fin _, fun _ => ⟨rfl, rfl⟩, fun h => absurd (hR.out.symm.trans h) hE.out⟩
      · have hx96 : (x == 96) = false := by simp [h96]
        obtain ⟨E, hEe⟩ : ∃ E : Int, E = 4 := ⟨_, rfl⟩
        have hR := Lib.hid (show rdE bs = 4 by
          have h : headE bs = 4 := by unfold headE; rw [if_neg hl20.out, if_neg (by omega), if_neg (by omega)]
          unfold rdE; rw [h, if_pos (by decide)])
        have S0 := stZ hQ.r rfl
        replace hx := Lib.hid hx
        clear hS hEe
        go_enter Tryz.func6, Tryz.ntmps6
        go_wp2_with fail
        refine bodyPost_ret (v := .tuple #[pkV zq (.slice none 0 0), .int .i64 4]) (res_pk rfl _ _ w.heap.size zq (.slice none 0 0) rfl (setRow_heap _ _ _ _ _ _ hQ.r) _ rfl) rfl ⟨zq, .slice none 0 0, by rw [hR.out], hQ.fin _, fun _ => ⟨rfl, rfl⟩, fun h => by rw [hR.out] at h; cases h⟩
end Go.Proofs.YtijlahgmnpnmfaaGreatDoor
namespace Go.Proofs.YtijlahgmnpnmfaaGreatDoor
open Go.RowKit
set_option linter.unusedVariables false
set_option linter.unusedSimpArgs false

theorem rd_set {w : World} {base : Nat} {e : TypeId} {size n cap g : Nat} {xs : List Value} (h : w.ownsRow base e size (.slice (some ⟨g, 0, none⟩) n cap) n xs) (i : Nat) (u : Value) (hi : i < n * size) :
    (w.setCell ⟨g, i, none⟩ u).ownsRow base e size (.slice (some ⟨g, 0, none⟩) n cap) n (xs.set i u) := by
  obtain ⟨h1, h2⟩ := h
  refine ⟨by rw [List.length_set]; exact h1, ?_⟩
  rcases h2 with ⟨hv, _⟩ | ⟨g', cap', cur, hv, hg, hh, hle, hmx, hsz, ht⟩
  · cases hv
  · cases hv
    refine .inr ⟨g, cap, cur.set! i u, rfl, hg, ?_, hle, hmx, by simpa using hsz, ?_⟩
    · simp only [World.setCell, Array.getElem?_modify, if_pos, hh, Option.map_some]
      simp
    · rw [← ht]
      simp only [Array.set!_eq_setIfInBounds, Array.toList_setIfInBounds]
      rw [List.take_set]
theorem rd_frozen {w : World} {base : Nat} {e : TypeId} {size n cap g : Nat} {xs : List Value} (h : w.ownsRow base e size (.slice (some ⟨g, 0, none⟩) n cap) n xs) (i : Nat) : w.frozen? ⟨g, i, none⟩ = false := by
  rcases h.2 with ⟨hv, _⟩ | ⟨g', cap', cur, hv, hg, hh, _⟩
  · cases hv
  · cases hv; exact frozen_of_row w g i _ _ hh
theorem rd_base {w : World} {base : Nat} {e : TypeId} {size n cap g : Nat} {xs : List Value} (h : w.ownsRow base e size (.slice (some ⟨g, 0, none⟩) n cap) n xs) : base ≤ g ∧ g < w.heap.size := by
  rcases h.2 with ⟨hv, _⟩ | ⟨g', cap', cur, hv, hg, hh, _⟩
  · cases hv
  · cases hv; exact ⟨hg, (Array.getElem?_eq_some_iff.1 hh).1⟩

theorem Own.cap {B w g n cap} {bs : List Nat} (h : Own B w (.slice (some ⟨g, 0, none⟩) n cap) bs) : n = bs.length ∧ n ≤ cap ∧ SlB w (some ⟨g, 0, none⟩) n cap bs := by
  obtain ⟨A, c, hv, hS, _⟩ := h.sl
  cases hv
  exact ⟨rfl, hS.2.1, hS⟩
theorem Own.setB {B g n c : Nat} {w : World} {bs : List Nat} (h : Own B w (.slice (some ⟨g, 0, none⟩) n c) bs) (i x : Nat) (hi : i < n) : Own B (w.setCell ⟨g, i, none⟩ (.int .u8 x)) (.slice (some ⟨g, 0, none⟩) n c) (bs.set i x) := by
  have hn := h.cap.1
  unfold Own at *
  rw [List.length_set]
  rw [← hn] at h ⊢
  have e : bV (bs.set i x) = (bV bs).set i (.int .u8 x) := by unfold bV; rw [List.map_set]
  rw [e]
  exact rd_set h i _ (by omega)
theorem Own.freeB {B g n c : Nat} {w : World} {bs : List Nat} (h : Own B w (.slice (some ⟨g, 0, none⟩) n c) bs) (i : Nat) : w.frozen? ⟨g, i, none⟩ = false := by
  have hn := h.cap.1
  unfold Own at h
  rw [← hn] at h
  exact rd_frozen h i
theorem Own.cellB {B g n c : Nat} {w : World} {bs : List Nat} (h : Own B w (.slice (some ⟨g, 0, none⟩) n c) bs) (i : Nat) (hi : i < n) : w.cell? ⟨g, i, none⟩ = some (.int .u8 (bs.getD i 0 : Nat)) := by
  have := (h.cap.2.2.byte i hi).1
  rwa [Nat.zero_add] at this
theorem Own.atB {B g n c : Nat} {w : World} {bs : List Nat} (h : Own B w (.slice (some ⟨g, 0, none⟩) n c) bs) : B ≤ g ∧ g < w.heap.size := by
  have hn := h.cap.1
  unfold Own at h
  rw [← hn] at h
  exact rd_base h
/-- Bytes of one's own, beside the stream. -/
structure AtG (w0 : World) (b R : Nat) (v : Value) (bs : List Nat) (w : World) : Prop where
  s : Str w b R
  o : Own w0.heap.size w v bs
  g : w0.grownBy w (some b)
  lt : b < w0.heap.size
theorem AtG.step {w0 w w' : World} {b R R' : Nat} {v : Value} {bs : List Nat} (h : AtG w0 b R v bs w) (hs : Str w' b R') (hg : w.grownBy w' (some b)) : AtG w0 b R' v bs w' := ⟨hs, h.o.gbb hg h.lt, gb_trans h.g hg, h.lt⟩
theorem AtG.below {w0 w w' : World} {b R : Nat} {v : Value} {bs : List Nat} (h : AtG w0 b R v bs w) (hb : Below w.heap.size w w') : AtG w0 b R v bs w' := ⟨h.s.below hb, h.o.below hb, gb_below h.g hb, h.lt⟩
theorem AtG.app {w0 w w' : World} {b R : Nat} {v v' : Value} {bs bs' : List Nat} (h : AtG w0 b R v bs w) (hb : Below w0.heap.size w w') (ho : Own w0.heap.size w' v' bs') : AtG w0 b R v' bs' w' :=
  ⟨h.s.upto (fun j hj => hb.block j (by have := h.lt; omega)), ho, ⟨hb.os.trans h.g.os, hb.tape.trans h.g.tape, hb.output.trans h.g.output, Nat.le_trans h.g.size hb.size, fun p hp hne => (hb.block p hp).trans (h.g.block p hp hne)⟩, h.lt⟩
theorem AtG.le {w0 w : World} {b R R' : Nat} {v : Value} {bs : List Nat} (h : AtG w0 b R v bs w) (hR : R' ≤ R) : AtG w0 b R' v bs w := ⟨h.s.le hR, h.o, h.g, h.lt⟩
theorem AtG.set {w0 w : World} {b R g n c : Nat} {bs : List Nat} (h : AtG w0 b R (.slice (some ⟨g, 0, none⟩) n c) bs w) (i x : Nat) (hi : i < n) : AtG w0 b R (.slice (some ⟨g, 0, none⟩) n c) (bs.set i x) (w.setCell ⟨g, i, none⟩ (.int .u8 x)) :=
  h.app ((Below.refl _ _).setCell (p := ⟨g, i, none⟩) h.o.atB.1 _) (h.o.setB i x hi)
theorem Own.formn {B n : Nat} {w : World} {v : Value} {bs : List Nat} (h : Own B w v bs) (hn : n = bs.length) (h0 : 0 < n) : ∃ g cap, v = .slice (some ⟨g, 0, none⟩) n cap := by
  subst hn
  obtain ⟨g, c, e, _⟩ := h.form h0
  exact ⟨g, c, e⟩
theorem u8_any (x : Int) : ∃ y : Nat, IntKind.u8.wrap x = (y : Int) ∧ y < 256 := by
  refine ⟨(x % 256).toNat, ?_, by omega⟩
  rw [IntKind.wrap_u8]; omega
/-- The world of a fact. -/
abbrev WCUR {w0 w : World} {b R : Nat} {v : Value} {bs : List Nat} (_ : AtG w0 b R v bs w) : World := w
theorem xor_any (x y : Int) : ∃ z : Nat, bits .xor .u8 x y = (z : Int) ∧ z < 256 := u8_any _

theorem headL_byt {q : Pk} (hq : PkOk q) (n : Int) : Byt (headL q n) := by
  have hh := hq.hops0
  have hh1 := hq.hops1
  have hc := codeN_in (s := q.fs) hq.proto
  have c1 : (codeN q.proto q.fs).toNat < 256 := by omega
  have c2 : q.hops.toNat < 256 := by omega
  unfold headL
  split
  · refine Byt.app (Byt.app (Byt.app (Byt.app ?_ (be_lt _ _)) ?_) (adB_byt _ _ _)) (adB_byt _ _ _)
    · intro b hb; simp at hb; omega
    · intro b hb; simp at hb; omega
  · refine byt_splice (Byt.app (Byt.app (Byt.app (Byt.app ?_ (be_lt _ _)) ?_) (adB_byt _ _ _)) (adB_byt _ _ _)) (be_lt _ _) _
    · intro b hb; simp at hb; omega
    · intro b hb; simp at hb; omega
theorem bytesL_byt {q : Pk} (hq : PkOk q) {pl : List Nat} (hb : Byt pl) : Byt (bytesL q pl) := by
  unfold bytesL partL
  exact Byt.app (headL_byt hq _) (byt_splice (Byt.app (headP_byt q _) hb) (be_lt _ _) _)
end Go.Proofs.YtijlahgmnpnmfaaGreatDoor
namespace Go.Proofs.YtijlahgmnpnmfaaGreatDoor
open Go.RowKit
set_option linter.unusedVariables false
set_option linter.unusedSimpArgs false

theorem take_eq {xs ys : List Nat} {k x : Nat} (h : xs.take k = ys.take k) (hx : xs[k]? = some x) (hy : ys[k]? = some x) : xs.take (k + 1) = ys.take (k + 1) := by
  rw [List.take_add_one, List.take_add_one, h, hx, hy]
set_option maxHeartbeats 1000000 in
set_option maxRecDepth 100000 in
theorem equalS_any (A B : Option Addr) (n m ca cb : Nat) (xs ys : List Nat) (w : World) (h1 : SlB w A n ca xs) (h2 : SlB w B m cb ys) (hn : n ≤ 100000) (r : Bool) (hr : r = decide (xs = ys)) :
    Calls Tryz.prog 10 #[.slice A n ca, .slice B m cb] w (GivesV (.bool r) w) := by
  have hl := Lib.hid h1.len
  have hm := Lib.hid h2.len
  by_cases hnm : n = m
  · have hT : Hid (xs = ys → r = true) := Lib.hid (fun h => by rw [hr]; exact decide_eq_true h)
    have hF : Hid (¬ xs = ys → r = false) := Lib.hid (fun h => by rw [hr]; exact decide_eq_false h)
    subst hnm
    have k1 := Lib.hid h1.2.2
    have k2 := Lib.hid h2.2.2
    clear h1 h2 hr
    go_enter Tryz.func10, Tryz.ntmps10
    go_wp2_with fail
    go_loopw [13] (fun i wr => ∃ k : Nat, k ≤ n ∧ i = .int .i64 k ∧ Below w.heap.size w wr ∧ Hid (xs.take k = ys.take k)) (fun i _ => n - (intOf i).toNat)
    case atStart => exact ⟨0, Nat.zero_le _, rfl, Below.refl _ _, Lib.hid rfl⟩
    case round =>
      obtain ⟨k, hk, rfl, hw, hP⟩ := hrel
      by_cases hlt : k < n
      · obtain ⟨x, hx⟩ : ∃ x, xs[k]? = some x := ⟨xs[k]'(by have := hl.out; omega), List.getElem?_eq_getElem _⟩
        obtain ⟨y, hy⟩ : ∃ y, ys[k]? = some y := ⟨ys[k]'(by have := hm.out; omega), List.getElem?_eq_getElem _⟩
        obtain ⟨g1, o1, rfl, hg1, hc1⟩ : ∃ g off, A = some ⟨g, off, none⟩ ∧ g < w.heap.size ∧ ∀ j u, (bV xs)[j]? = some u → w.cell? ⟨g, off + j, none⟩ = some u := by
          rcases k1.out with h | h
          · omega
          · exact h
        obtain ⟨g2, o2, rfl, hg2, hc2⟩ : ∃ g off, B = some ⟨g, off, none⟩ ∧ g < w.heap.size ∧ ∀ j u, (bV ys)[j]? = some u → w.cell? ⟨g, off + j, none⟩ = some u := by
          rcases k2.out with h | h
          · omega
          · exact h
        have c1 := (hw.cell (p := ⟨g1, o1 + k, none⟩) (by exact hg1)).trans (hc1 k _ (bV_get hx))
        have c2 := (hw.cell (p := ⟨g2, o2 + k, none⟩) (by exact hg2)).trans (hc2 k _ (bV_get hy))
        have hg1' : g1 < wr.heap.size := Nat.lt_of_lt_of_le hg1 hw.size
        have hg2' : g2 < wr.heap.size := Nat.lt_of_lt_of_le hg2 hw.size
        clear hc1 hc2
        by_cases hxy : x = y
        · subst hxy
          have hP2 := Lib.hid (take_eq hP.out hx hy)
          obtain ⟨z, hz⟩ : ∃ z : Int, z = (x : Int) := ⟨_, rfl⟩
          rw [← hz] at c1 c2
          clear hz hx hy hP
          go_wp2_with fail
          refine wb_begin ([g1, g2]) [] (by kernel_rfl) (fun u0 hb0' hz0' => ?_)
          replace c1 := (hb0'.cell (by exact hg1')).trans c1
          replace c2 := (hb0'.cell (by exact hg2')).trans c2
          replace hw := hw.trans (hb0'.mono hw.size)
          clear hb0' hz0'
          refine wb_pure (i := 0) (d := some 16) (v := ?_) (by simp only [List.getElem?_toArray, List.getElem?_cons_succ, List.getElem?_cons_zero] <;> rfl) (by rfl) (by kernel_rfl) (by kernel_rfl) (by kernel_rfl) (fun _ _ _ h => h) (by rfl) ?_ ?_
          rotate_left
          · ((intro u); go_simp; try with_reducible rfl)
          try simp only [Act.put, List.setIfInBounds_toArray, List.set_cons_zero, List.set_cons_succ]
          refine wb_pure (i := 1) (d := some 17) (v := ?_) (by simp only [List.getElem?_toArray, List.getElem?_cons_succ, List.getElem?_cons_zero] <;> rfl) (by rfl) (by kernel_rfl) (by kernel_rfl) (by kernel_rfl) (fun _ _ _ h => h) (by rfl) ?_ ?_
          rotate_left
          · ((intro u); go_simp; try with_reducible rfl)
          try simp only [Act.put, List.setIfInBounds_toArray, List.set_cons_zero, List.set_cons_succ]
          refine wb_pure (i := 2) (d := some 18) (v := ?_) (by simp only [List.getElem?_toArray, List.getElem?_cons_succ, List.getElem?_cons_zero] <;> rfl) (by rfl) (by kernel_rfl) (by kernel_rfl) (by kernel_rfl) (fun _ _ _ h => h) (by rfl) ?_ ?_
          rotate_left
          · ((intro u); go_simp; try with_reducible rfl)
          try simp only [Act.put, List.setIfInBounds_toArray, List.set_cons_zero, List.set_cons_succ]
          refine wb_take (i := 3) (d := some 19) (v := ?_) (by simp only [List.getElem?_toArray, List.getElem?_cons_succ, List.getElem?_cons_zero] <;> rfl) (by rfl) (by kernel_rfl) (by kernel_rfl) (by kernel_rfl) (fun _ _ _ h => h) (by rfl) (by kernel_rfl) ?_ ?_
          rotate_left
          · ((intro u hu); have k1 := hu.cellAt (p := g1) (by simp) c1; have k2 := hu.cellAt (p := g2) (by simp) c2; go_simp; try with_reducible rfl)
          try simp only [Act.put, List.setIfInBounds_toArray, List.set_cons_zero, List.set_cons_succ]
          refine wb_pure (i := 4) (d := some 20) (v := ?_) (by simp only [List.getElem?_toArray, List.getElem?_cons_succ, List.getElem?_cons_zero] <;> rfl) (by rfl) (by kernel_rfl) (by kernel_rfl) (by kernel_rfl) (fun _ _ _ h => h) (by rfl) ?_ ?_
          rotate_left
          · ((intro u); go_simp; try with_reducible rfl)
          try simp only [Act.put, List.setIfInBounds_toArray, List.set_cons_zero, List.set_cons_succ]
          refine wb_pure (i := 5) (d := some 21) (v := ?_) (by simp only [List.getElem?_toArray, List.getElem?_cons_succ, List.getElem?_cons_zero] <;> rfl) (by rfl) (by kernel_rfl) (by kernel_rfl) (by kernel_rfl) (fun _ _ _ h => h) (by rfl) ?_ ?_
          rotate_left
          · ((intro u); go_simp; try with_reducible rfl)
          try simp only [Act.put, List.setIfInBounds_toArray, List.set_cons_zero, List.set_cons_succ]
          refine wb_pure (i := 6) (d := some 22) (v := ?_) (by simp only [List.getElem?_toArray, List.getElem?_cons_succ, List.getElem?_cons_zero] <;> rfl) (by rfl) (by kernel_rfl) (by kernel_rfl) (by kernel_rfl) (fun _ _ _ h => h) (by rfl) ?_ ?_
          rotate_left
          · ((intro u); go_simp; try with_reducible rfl)
          try simp only [Act.put, List.setIfInBounds_toArray, List.set_cons_zero, List.set_cons_succ]
          refine wb_take (i := 7) (d := some 23) (v := ?_) (by simp only [List.getElem?_toArray, List.getElem?_cons_succ, List.getElem?_cons_zero] <;> rfl) (by rfl) (by kernel_rfl) (by kernel_rfl) (by kernel_rfl) (fun _ _ _ h => h) (by rfl) (by kernel_rfl) ?_ ?_
          rotate_left
          · ((intro u hu); have k1 := hu.cellAt (p := g1) (by simp) c1; have k2 := hu.cellAt (p := g2) (by simp) c2; go_simp; try with_reducible rfl)
          try simp only [Act.put, List.setIfInBounds_toArray, List.set_cons_zero, List.set_cons_succ]
          refine wb_pure (i := 8) (d := some 24) (v := ?_) (by simp only [List.getElem?_toArray, List.getElem?_cons_succ, List.getElem?_cons_zero] <;> rfl) (by rfl) (by kernel_rfl) (by kernel_rfl) (by kernel_rfl) (fun _ _ _ h => h) (by rfl) ?_ ?_
          rotate_left
          · ((intro u); go_simp; try with_reducible rfl)
          try simp only [Act.put, List.setIfInBounds_toArray, List.set_cons_zero, List.set_cons_succ]
          refine wb_done (by kernel_rfl) ?_ _
          skip
          go_wp2_with fail
          go_roundw
          case rel => exact ⟨k + 1, by omega, by go_num, hw, hP2⟩
          case measure => simp [intOf]; omega
        · have hE := Lib.hid (hF.out (fun h => by rw [h, hy] at hx; injection hx with h2; exact hxy h2.symm))
          obtain ⟨z, hz⟩ : ∃ z : Int, z = (x : Int) := ⟨_, rfl⟩
          obtain ⟨z', hz'⟩ : ∃ z' : Int, z' = (y : Int) := ⟨_, rfl⟩
          rw [← hz] at c1
          rw [← hz'] at c2
          have hzz : ¬ z = z' := by omega
          replace hz := Lib.hid hz
          replace hz' := Lib.hid hz'
          clear hx hy hP hxy
          go_wp2_with fail
          refine wb_begin ([g1, g2]) [] (by kernel_rfl) (fun u0 hb0' hz0' => ?_)
          replace c1 := (hb0'.cell (by exact hg1')).trans c1
          replace c2 := (hb0'.cell (by exact hg2')).trans c2
          replace hw := hw.trans (hb0'.mono hw.size)
          clear hb0' hz0'
          refine wb_pure (i := 0) (d := some 16) (v := ?_) (by simp only [List.getElem?_toArray, List.getElem?_cons_succ, List.getElem?_cons_zero] <;> rfl) (by rfl) (by kernel_rfl) (by kernel_rfl) (by kernel_rfl) (fun _ _ _ h => h) (by rfl) ?_ ?_
          rotate_left
          · ((intro u); go_simp; try with_reducible rfl)
          try simp only [Act.put, List.setIfInBounds_toArray, List.set_cons_zero, List.set_cons_succ]
          refine wb_pure (i := 1) (d := some 17) (v := ?_) (by simp only [List.getElem?_toArray, List.getElem?_cons_succ, List.getElem?_cons_zero] <;> rfl) (by rfl) (by kernel_rfl) (by kernel_rfl) (by kernel_rfl) (fun _ _ _ h => h) (by rfl) ?_ ?_
          rotate_left
          · ((intro u); go_simp; try with_reducible rfl)
          try simp only [Act.put, List.setIfInBounds_toArray, List.set_cons_zero, List.set_cons_succ]
          refine wb_pure (i := 2) (d := some 18) (v := ?_) (by simp only [List.getElem?_toArray, List.getElem?_cons_succ, List.getElem?_cons_zero] <;> rfl) (by rfl) (by kernel_rfl) (by kernel_rfl) (by kernel_rfl) (fun _ _ _ h => h) (by rfl) ?_ ?_
          rotate_left
          · ((intro u); go_simp; try with_reducible rfl)
          try simp only [Act.put, List.setIfInBounds_toArray, List.set_cons_zero, List.set_cons_succ]
          refine wb_take (i := 3) (d := some 19) (v := ?_) (by simp only [List.getElem?_toArray, List.getElem?_cons_succ, List.getElem?_cons_zero] <;> rfl) (by rfl) (by kernel_rfl) (by kernel_rfl) (by kernel_rfl) (fun _ _ _ h => h) (by rfl) (by kernel_rfl) ?_ ?_
          rotate_left
          · ((intro u hu); have k1 := hu.cellAt (p := g1) (by simp) c1; have k2 := hu.cellAt (p := g2) (by simp) c2; go_simp; try with_reducible rfl)
          try simp only [Act.put, List.setIfInBounds_toArray, List.set_cons_zero, List.set_cons_succ]
          refine wb_pure (i := 4) (d := some 20) (v := ?_) (by simp only [List.getElem?_toArray, List.getElem?_cons_succ, List.getElem?_cons_zero] <;> rfl) (by rfl) (by kernel_rfl) (by kernel_rfl) (by kernel_rfl) (fun _ _ _ h => h) (by rfl) ?_ ?_
          rotate_left
          · ((intro u); go_simp; try with_reducible rfl)
          try simp only [Act.put, List.setIfInBounds_toArray, List.set_cons_zero, List.set_cons_succ]
          refine wb_pure (i := 5) (d := some 21) (v := ?_) (by simp only [List.getElem?_toArray, List.getElem?_cons_succ, List.getElem?_cons_zero] <;> rfl) (by rfl) (by kernel_rfl) (by kernel_rfl) (by kernel_rfl) (fun _ _ _ h => h) (by rfl) ?_ ?_
          rotate_left
          · ((intro u); go_simp; try with_reducible rfl)
          try simp only [Act.put, List.setIfInBounds_toArray, List.set_cons_zero, List.set_cons_succ]
          refine wb_pure (i := 6) (d := some 22) (v := ?_) (by simp only [List.getElem?_toArray, List.getElem?_cons_succ, List.getElem?_cons_zero] <;> rfl) (by rfl) (by kernel_rfl) (by kernel_rfl) (by kernel_rfl) (fun _ _ _ h => h) (by rfl) ?_ ?_
          rotate_left
          · ((intro u); go_simp; try with_reducible rfl)
          try simp only [Act.put, List.setIfInBounds_toArray, List.set_cons_zero, List.set_cons_succ]
          refine wb_take (i := 7) (d := some 23) (v := ?_) (by simp only [List.getElem?_toArray, List.getElem?_cons_succ, List.getElem?_cons_zero] <;> rfl) (by rfl) (by kernel_rfl) (by kernel_rfl) (by kernel_rfl) (fun _ _ _ h => h) (by rfl) (by kernel_rfl) ?_ ?_
          rotate_left
          · ((intro u hu); have k1 := hu.cellAt (p := g1) (by simp) c1; have k2 := hu.cellAt (p := g2) (by simp) c2; go_simp; try with_reducible rfl)
          try simp only [Act.put, List.setIfInBounds_toArray, List.set_cons_zero, List.set_cons_succ]
          refine wb_pure (i := 8) (d := some 24) (v := ?_) (by simp only [List.getElem?_toArray, List.getElem?_cons_succ, List.getElem?_cons_zero] <;> rfl) (by rfl) (by kernel_rfl) (by kernel_rfl) (by kernel_rfl) (fun _ _ _ h => h) (by rfl) ?_ ?_
          rotate_left
          · ((intro u); go_simp; try with_reducible rfl)
          try simp only [Act.put, List.setIfInBounds_toArray, List.set_cons_zero, List.set_cons_succ]
          refine wb_done (by kernel_rfl) ?_ _
          skip
          go_wp2_with fail
          go_ret
          exact ⟨by rw [hE.out]; rfl, hw⟩
      · have hkn : k = n := by omega
        have hE := Lib.hid (hT.out (by have := hP.out; rw [hkn, List.take_of_length_le (by have := hl.out; omega), List.take_of_length_le (by have := hm.out; omega)] at this; exact this))
        replace hkn := Lib.hid hkn
        go_wp2_with fail
        go_ret
        exact ⟨by rw [hE.out]; rfl, hw⟩
  · have hE := Lib.hid (show r = false by rw [hr]; exact decide_eq_false (fun h => hnm (by have := hl.out; have := hm.out; rw [h] at *; omega)))
    have hnm' : ¬ (n : Int) = m := by omega
    replace hnm := Lib.hid hnm
    clear h1 h2 hr
    go_enter Tryz.func10, Tryz.ntmps10
    go_wp2_with fail
    go_ret
    exact ⟨by rw [hE.out]; rfl, Below.refl _ _⟩
end Go.Proofs.YtijlahgmnpnmfaaGreatDoor
