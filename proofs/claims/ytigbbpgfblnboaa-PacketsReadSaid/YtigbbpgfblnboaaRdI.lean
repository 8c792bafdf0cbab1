/- Packets that are read: ReadPacket. -/
import Derived.Test.YtigbbpgfblnboaaRdH
namespace Go.Proofs.Ytigbbpgfblnboaa
open Go.RowKit
set_option linter.unusedVariables false
set_option linter.unusedSimpArgs false

/-- Nothing. -/
def zq : Pk := ⟨false, 0, 0, false, 0, 0, 0, 0, 0, 0, false, false, false, false, 0, 0, false, 0⟩
theorem stZ {w : World} {p : Nat} {old : List Value} {t : TypeId} (h : Blk w p old t) (ho : old.length = 19) : (stPk (.pointer (some ⟨p, 0, none⟩)) (.agg #[.bool false, .int .u64 0, .int .u64 0, .bool false, .int .u64 0, .int .u64 0, .int .i64 0, .int .i64 0, .int .i64 0, .int .i64 0, .bool false, .bool false, .bool false, .bool false, .int .i64 0, .int .i64 0, .bool false, .int .i64 0, .slice none 0 0])).run Try.prog w = .ok .skip (w.setRow p (pkL zq (.slice none 0 0)).toArray) := stPk_run (q := zq) (v := .slice none 0 0) h ho rfl
theorem res_pk {fn : Func} {p u : Tmp} (h : fn.results = #[.cell p 45, .tmp u]) (tmps : Array Value) (w : World) (g : Nat) (q : Pk) (v : Value) (hp : tmps.getD p undef = .pointer (some ⟨g, 0, none⟩)) (hg : w.heap[g]? = some (.cells (pkL q v).toArray 45 (0, 0))) (x : Value) (hx : tmps.getD u undef = x) :
    (results fn tmps).run Try.prog w = .ok (.tuple #[pkV q v, x]) w := by
  have hl := run_loadVar_row (P := Try.prog) w g 45 45 (pkL q v).toArray (0, 0) _ hg Try.underlying45 rfl (by kernel_rfl)
  rw [results_cell_tmp h, hp, hx]
  simp only [asAddr, Sem.run_pure, Result.andThen_ok, hl]
/-- What stands while a packet is read: its block, the block of the result. -/
structure AtQ (w : World) (pb : Nat) (q : Pk) (v : Value) (u : World) : Prop where
  x : Blk u pb (pkL q v) 45
  r : Blk u w.heap.size zeroP 45
  b : Below w.heap.size w u
  lt : w.heap.size < pb
theorem AtQ.rdp {w u u' : World} {pb : Nat} {q q' : Pk} {v v' : Value} (h : AtQ w pb q v u) (k : RdP u pb q' v' u') : AtQ w pb q' v' u' :=
  ⟨k.blk, (k.gb.block _ h.r.lt (by intro e; cases e; have := h.lt; omega)).trans h.r, h.b.trans (gb_toBelow k.gb (by have := h.lt; omega) (by have := h.x.lt; omega)), h.lt⟩
theorem row_gb {u : World} {p : Nat} (cs : Array Value) : u.grownBy (u.setRow p cs) (some p) := ⟨rfl, rfl, rfl, by simp [World.setRow], fun k hk hne => setRow_other _ p k _ (fun e => hne (by rw [e]))⟩
theorem AtQ.fin {w u : World} {pb : Nat} {q : Pk} {v : Value} (h : AtQ w pb q v u) (cs : Array Value) : Below w.heap.size w (u.setRow w.heap.size cs) :=
  h.b.trans (gb_toBelow (row_gb cs) (Nat.le_refl _) (by have := h.r.lt; omega))
theorem own_fin {w u1 u : World} {pb : Nat} {q : Pk} {v x : Value} {bs : List Nat} (h : Own u1.heap.size u x bs) (hQ : AtQ w pb q v u) (hlt : w.heap.size < u1.heap.size) (cs : Array Value) : Own w.heap.size (u.setRow w.heap.size cs) x bs :=
  (h.gbb (row_gb cs) hlt).mono (by omega)

set_option maxHeartbeats 2000000 in
set_option maxRecDepth 100000 in
theorem readPacket_any (A : Option Addr) (n cap : Nat) (bs : List Nat) (w : World) (hS : SlB w A n cap bs) (hn2 : n ≤ 1000) (hb : Byt bs) :
    Calls Try.prog 29 #[.slice A n cap] w fun e w' => ∃ q' v', e = .returned (.tuple #[pkV q' v', .int .i64 (rdE bs)]) ∧ Below w.heap.size w w' ∧ (rdE bs ≠ 0 → q' = zq ∧ v' = .slice none 0 0) ∧
      (rdE bs = 0 → q' = rdBody (headQ bs) (bs.drop (headN bs)) ∧ ∃ A' n' c', v' = .slice A' n' c' ∧ Own w.heap.size w' (.slice A' n' c') ((bs.drop (headN bs)).drop (szP (headQ bs)))) := by
  have hl := Lib.hid hS.len
  replace hb := Lib.hid hb
  have Z1 := Blk.new w zeroP 45
  have hw1 : Below w.heap.size w (w.alloc (.cells #[.bool false, .int .u64 0, .int .u64 0, .bool false, .int .u64 0, .int .u64 0, .int .i64 0, .int .i64 0, .int .i64 0, .int .i64 0, .bool false, .bool false, .bool false, .bool false, .int .i64 0, .int .i64 0, .bool false, .int .i64 0, .slice none 0 0] 45)) := (Below.refl _ _).alloc (Nat.le_refl _) _
  by_cases hlt : n < 20
  · have hi : (n : Int) < 20 := by omega
    have hR := Lib.hid (show rdE bs = 3 by
      have h : headE bs = 3 := by unfold headE; rw [if_pos (by have := hl.out; omega)]
      unfold rdE; rw [h, if_pos (by decide)])
    have S0 := stZ Z1 rfl
    have hfin : Hid (Below w.heap.size w ((w.alloc (.cells #[.bool false, .int .u64 0, .int .u64 0, .bool false, .int .u64 0, .int .u64 0, .int .i64 0, .int .i64 0, .int .i64 0, .int .i64 0, .bool false, .bool false, .bool false, .bool false, .int .i64 0, .int .i64 0, .bool false, .int .i64 0, .slice none 0 0] 45)).setRow w.heap.size (pkL zq (.slice none 0 0)).toArray)) := Lib.hid (hw1.trans (gb_toBelow (row_gb _) (Nat.le_refl _) (by simp)))
    replace Z1 := Lib.hid Z1
    clear hS hw1 hlt
    go_enter Try.func29, Try.ntmps29
    go_wp2_with fail
    refine bodyPost_ret (v := .tuple #[pkV zq (.slice none 0 0), .int .i64 3]) (res_pk rfl _ _ w.heap.size zq (.slice none 0 0) rfl (setRow_heap _ _ _ _ _ _ Z1.out) _ rfl) rfl ⟨zq, .slice none 0 0, by rw [hR.out], hfin.out, fun _ => ⟨rfl, rfl⟩, fun h => by rw [hR.out] at h; cases h⟩
  · have hi : ¬ (n : Int) < 20 := by omega
    have hi0 : (0 : Int) < n := by omega
    have hi0' : 0 < n := by omega
    obtain ⟨g, off, rfl, hgw⟩ : ∃ g off, A = some ⟨g, off, none⟩ ∧ g < w.heap.size := by
      rcases hS.2.2 with h | ⟨g, off, h, h2, _⟩
      · omega
      · exact ⟨g, off, h, h2⟩
    have hw2 : Below w.heap.size w ((w.alloc (.cells #[.bool false, .int .u64 0, .int .u64 0, .bool false, .int .u64 0, .int .u64 0, .int .i64 0, .int .i64 0, .int .i64 0, .int .i64 0, .bool false, .bool false, .bool false, .bool false, .int .i64 0, .int .i64 0, .bool false, .int .i64 0, .slice none 0 0] 45)).alloc (.cells #[.bool false, .int .u64 0, .int .u64 0, .bool false, .int .u64 0, .int .u64 0, .int .i64 0, .int .i64 0, .int .i64 0, .int .i64 0, .bool false, .bool false, .bool false, .bool false, .int .i64 0, .int .i64 0, .bool false, .int .i64 0, .slice none 0 0] 45)) := hw1.alloc (by simp) _
    replace hS := hS.below hw2
    have hQ : AtQ w (w.heap.size + 1) zq (.slice none 0 0) ((w.alloc (.cells #[.bool false, .int .u64 0, .int .u64 0, .bool false, .int .u64 0, .int .u64 0, .int .i64 0, .int .i64 0, .int .i64 0, .int .i64 0, .bool false, .bool false, .bool false, .bool false, .int .i64 0, .int .i64 0, .bool false, .int .i64 0, .slice none 0 0] 45)).alloc (.cells #[.bool false, .int .u64 0, .int .u64 0, .bool false, .int .u64 0, .int .u64 0, .int .i64 0, .int .i64 0, .int .i64 0, .int .i64 0, .bool false, .bool false, .bool false, .bool false, .int .i64 0, .int .i64 0, .bool false, .int .i64 0, .slice none 0 0] 45)) := ⟨by
      have := Blk.new (w.alloc (.cells #[.bool false, .int .u64 0, .int .u64 0, .bool false, .int .u64 0, .int .u64 0, .int .i64 0, .int .i64 0, .int .i64 0, .int .i64 0, .bool false, .bool false, .bool false, .bool false, .int .i64 0, .int .i64 0, .bool false, .int .i64 0, .slice none 0 0] 45)) zeroP 45
      rw [show (w.alloc (.cells #[.bool false, .int .u64 0, .int .u64 0, .bool false, .int .u64 0, .int .u64 0, .int .i64 0, .int .i64 0, .int .i64 0, .int .i64 0, .bool false, .bool false, .bool false, .bool false, .int .i64 0, .int .i64 0, .bool false, .int .i64 0, .slice none 0 0] 45)).heap.size = w.heap.size + 1 by simp] at this
      exact this, Z1.alloc _, hw2, by omega⟩
    obtain ⟨c0, _⟩ := hS.byte 0 (by omega)
    rw [Nat.add_zero] at c0
    obtain ⟨x, hx⟩ : ∃ x : Int, x = (bs.getD 0 0 : Nat) := ⟨_, rfl⟩
    rw [← hx] at c0
    have hl20 := Lib.hid (show ¬ bs.length < 20 by have := hl.out; omega)
    clear Z1 hw1 hw2
    by_cases h69 : x = 69
    · have hb0 : bs.getD 0 0 = 69 := by omega
      have hN := Lib.hid (show headN bs = 20 by unfold headN; rw [if_pos hb0])
      have hHd := Lib.hid (show headE bs = fourE bs by unfold headE; rw [if_neg hl20.out, if_pos hb0])
      have hqq := Lib.hid (show ({ zq with fs := false, fh := 0, fl := nb bs 12 4, ts := false, th := 0, tl := nb bs 16 4, proto := protoN false (bs.getD 9 0), hops := (bs.getD 8 0 : Nat) } : Pk) = headQ bs by unfold headQ; rw [if_pos hb0]; rfl)
      have hge : Hid (headE bs = 0 → 20 ≤ n) := Lib.hid (fun _ => by omega)
      subst h69
      clear hb0
      go_enter Try.func29, Try.ntmps29
      have HF := Lib.hid (readFour_any zq (.slice none 0 0) (w.heap.size + 1) g off n cap bs _ hQ.x hS (by omega) (by omega) (by omega) hb.out)
      go_wp2_with fail
      refine HF.out.mono ?_
      rintro e u1 ⟨q1, rfl, hx1, hq1⟩
      replace hS := hS.rdp hx1 (by omega)
      replace hQ := hQ.rdp hx1
      obtain ⟨E, hEe⟩ : ∃ E : Int, E = fourE bs := ⟨_, rfl⟩
      rw [← hEe] at hq1 ⊢
      have hHE : headE bs = E := by rw [hEe]; exact hHd.out
      clear HF hx1 hEe
      by_cases hE : E = 0
      · have hH := Lib.hid (hHE.trans hE)
        have hq1' : q1 = headQ bs := (hq1 hE).trans hqq.out
        subst hE hq1'
        have hlen := Lib.hid (show 20 ≤ n from hge.out hH.out)
        have hge' := hlen.out
        have hok := ok_head hb.out (head_proto hH.out)
        have hQ1 := Lib.hid hQ.x.lt
        clear hq1 hHE
        by_cases hcz : cap = 20
        · have hn0 : n = 20 := by have := hS.2.1; omega
          subst hcz hn0
          have HP := readPart_any (headQ bs) (w.heap.size + 1) (some ⟨g, off, none⟩) 0 0 (bs.drop 20) u1 hQ.x (by rw [List.drop_eq_nil_iff.2 (by have := hl.out; omega)]; exact ⟨rfl, Nat.le_refl _, .inl rfl⟩) (fun h => by omega) hok (by omega) (fun b h => hb.out b (List.mem_of_mem_drop h))
          replace HP := Lib.hid HP
          clear hS
          go_wp2_with fail
          refine HP.out.mono ?_
          rintro e u2 ⟨q2, v2, rfl, hx2, h2⟩
          replace hQ := hQ.rdp hx2
          obtain ⟨E, hEe⟩ : ∃ E : Int, E = partE (headQ bs) (bs.drop 20) := ⟨_, rfl⟩
          rw [← hEe] at h2 ⊢
          have hR : Hid (rdE bs = E) := Lib.hid (by rw [hEe, ← hN.out]; unfold rdE; rw [if_neg (fun h => h hH.out)])
          clear hx2 HP hEe
          by_cases hE : E = 0
          · obtain ⟨rfl, A', n', c', rfl, ho⟩ := h2 hE
            subst hE
            have L := ldPk_run hQ.x
            have S := stPk_run (q := rdBody (headQ bs) (bs.drop 20)) (v := .slice A' n' c') hQ.r rfl rfl
            have hfin := Lib.hid (show Own w.heap.size _ (.slice A' n' c') (bs.drop 20 |>.drop (szP (headQ bs))) from own_fin ho hQ (by have := hQ1.out; omega) (pkL (rdBody (headQ bs) (bs.drop 20)) (.slice A' n' c')).toArray)
            go_wp2_with fail
            refine bodyPost_ret (v := .tuple #[pkV (rdBody (headQ bs) (bs.drop 20)) (.slice A' n' c'), .int .i64 0]) (res_pk rfl _ _ w.heap.size _ (.slice A' n' c') rfl (setRow_heap _ _ _ _ _ _ hQ.r) _ rfl) rfl ⟨_, _, by rw [hR.out], hQ.fin _, fun h => absurd hR.out h, fun _ => ⟨by rw [hN.out], A', n', c', rfl, by rw [hN.out]; exact hfin.out⟩⟩
          · clear h2
            have S0 := stZ hQ.r rfl
            have hEb : (E == 0) = false := by simp [hE]
            replace hE := Lib.hid hE
            go_wp2_with fail
            refine bodyPost_ret (v := .tuple #[pkV zq (.slice none 0 0), .int .i64 E]) (res_pk rfl _ _ w.heap.size zq (.slice none 0 0) rfl (setRow_heap _ _ _ _ _ _ hQ.r) _ rfl) rfl ⟨zq, .slice none 0 0, by rw [hR.out], hQ.fin _, fun _ => ⟨rfl, rfl⟩, fun h => absurd (hR.out.symm.trans h) hE.out⟩
        · have j1 : (20 : Int) ≤ n := by omega
          have j2 : (20 : Int) ≤ cap := by have := hS.2.1; omega
          have HP := readPart_any (headQ bs) (w.heap.size + 1) (some ⟨g, off + 20, none⟩) (n - 20) (cap - 20) (bs.drop 20) u1 hQ.x (by
            have h := hS.part 20 (n - 20) (cap - 20) (by omega) (by have := hS.2.1; omega)
            rwa [List.take_of_length_le (by rw [List.length_drop]; have := hl.out; omega)] at h) (fun h => ⟨g, off + 20, rfl, by omega⟩) hok (by omega) (fun b h => hb.out b (List.mem_of_mem_drop h))
          replace HP := Lib.hid HP
          clear hS
          go_wp2_with fail
          refine HP.out.mono ?_
          rintro e u2 ⟨q2, v2, rfl, hx2, h2⟩
          replace hQ := hQ.rdp hx2
          obtain ⟨E, hEe⟩ : ∃ E : Int, E = partE (headQ bs) (bs.drop 20) := ⟨_, rfl⟩
          rw [← hEe] at h2 ⊢
          have hR : Hid (rdE bs = E) := Lib.hid (by rw [hEe, ← hN.out]; unfold rdE; rw [if_neg (fun h => h hH.out)])
          clear hx2 HP hEe
          by_cases hE : E = 0
          · obtain ⟨rfl, A', n', c', rfl, ho⟩ := h2 hE
            subst hE
            have L := ldPk_run hQ.x
            have S := stPk_run (q := rdBody (headQ bs) (bs.drop 20)) (v := .slice A' n' c') hQ.r rfl rfl
            have hfin := Lib.hid (show Own w.heap.size _ (.slice A' n' c') (bs.drop 20 |>.drop (szP (headQ bs))) from own_fin ho hQ (by have := hQ1.out; omega) (pkL (rdBody (headQ bs) (bs.drop 20)) (.slice A' n' c')).toArray)
            go_wp2_with fail
            refine bodyPost_ret (v := .tuple #[pkV (rdBody (headQ bs) (bs.drop 20)) (.slice A' n' c'), .int .i64 0]) (res_pk rfl _ _ w.heap.size _ (.slice A' n' c') rfl (setRow_heap _ _ _ _ _ _ hQ.r) _ rfl) rfl ⟨_, _, by rw [hR.out], hQ.fin _, fun h => absurd hR.out h, fun _ => ⟨by rw [hN.out], A', n', c', rfl, by rw [hN.out]; exact hfin.out⟩⟩
          · clear h2
            have S0 := stZ hQ.r rfl
            have hEb : (E == 0) = false := by simp [hE]
            replace hE := Lib.hid hE
            go_wp2_with fail
            refine bodyPost_ret (v := .tuple #[pkV zq (.slice none 0 0), .int .i64 E]) (res_pk rfl _ _ w.heap.size zq (.slice none 0 0) rfl (setRow_heap _ _ _ _ _ _ hQ.r) _ rfl) rfl ⟨zq, .slice none 0 0, by rw [hR.out], hQ.fin _, fun _ => ⟨rfl, rfl⟩, fun h => absurd (hR.out.symm.trans h) hE.out⟩
      · have hR : Hid (rdE bs = E) := Lib.hid (by unfold rdE; rw [hHE, if_pos hE])
        clear hq1 hHE hS
        have S0 := stZ hQ.r rfl
        have hEb : (E == 0) = false := by simp [hE]
        replace hE := Lib.hid hE
        go_wp2_with fail
        refine bodyPost_ret (v := .tuple #[pkV zq (.slice none 0 0), .int .i64 E]) (res_pk rfl _ _ w.heap.size zq (.slice none 0 0) rfl (setRow_heap _ _ _ _ _ _ hQ.r) _ rfl) rfl ⟨zq, .slice none 0 0, by rw [hR.out], hQ.fin _, fun _ => ⟨rfl, rfl⟩, fun h => absurd (hR.out.symm.trans h) hE.out⟩
    · have hx69 : (x == 69) = false := by simp [h69]
      by_cases h96 : x = 96
      · have hb0 : bs.getD 0 0 = 96 := by omega
        have hb1 : ¬ bs.getD 0 0 = 69 := by omega
        have hN := Lib.hid (show headN bs = 40 by unfold headN; rw [if_neg hb1])
        have hHd := Lib.hid (show headE bs = sixE bs by unfold headE; rw [if_neg hl20.out, if_neg hb1, if_pos hb0])
        have hqq := Lib.hid (show ({ zq with fs := true, fh := nb bs 8 8, fl := nb bs 16 8, ts := true, th := nb bs 24 8, tl := nb bs 32 8, proto := protoN true (bs.getD 6 0), hops := (bs.getD 7 0 : Nat) } : Pk) = headQ bs by unfold headQ; rw [if_neg hb1]; rfl)
        have hge : Hid (headE bs = 0 → 40 ≤ n) := Lib.hid (fun h => by rw [hHd.out] at h; have := (head_six hb.out hb0 h).1; have := hl.out; omega)
        have hx96 : (x == 96) = true := by simp [h96]
        replace h96 := Lib.hid h96
        replace hx := Lib.hid hx
        replace h69 := Lib.hid h69
        clear hb0 hb1
        go_enter Try.func29, Try.ntmps29
        have HF := Lib.hid (readSix_any zq (.slice none 0 0) (w.heap.size + 1) g off n cap bs _ hQ.x hS (by omega) (by omega) (by omega) hb.out)
        go_wp2_with fail
        refine HF.out.mono ?_
        rintro e u1 ⟨q1, rfl, hx1, hq1⟩
        replace hS := hS.rdp hx1 (by omega)
        replace hQ := hQ.rdp hx1
        obtain ⟨E, hEe⟩ : ∃ E : Int, E = sixE bs := ⟨_, rfl⟩
        rw [← hEe] at hq1 ⊢
        have hHE : headE bs = E := by rw [hEe]; exact hHd.out
        clear HF hx1 hEe
        by_cases hE : E = 0
        · have hH := Lib.hid (hHE.trans hE)
          have hq1' : q1 = headQ bs := (hq1 hE).trans hqq.out
          subst hE hq1'
          have hlen := Lib.hid (show 40 ≤ n from hge.out hH.out)
          have hge' := hlen.out
          have hok := ok_head hb.out (head_proto hH.out)
          have hQ1 := Lib.hid hQ.x.lt
          clear hq1 hHE
          by_cases hcz : cap = 40
          · have hn0 : n = 40 := by have := hS.2.1; omega
            subst hcz hn0
            have HP := readPart_any (headQ bs) (w.heap.size + 1) (some ⟨g, off, none⟩) 0 0 (bs.drop 40) u1 hQ.x (by rw [List.drop_eq_nil_iff.2 (by have := hl.out; omega)]; exact ⟨rfl, Nat.le_refl _, .inl rfl⟩) (fun h => by omega) hok (by omega) (fun b h => hb.out b (List.mem_of_mem_drop h))
            replace HP := Lib.hid HP
            clear hS
            go_wp2_with fail
            refine HP.out.mono ?_
            rintro e u2 ⟨q2, v2, rfl, hx2, h2⟩
            replace hQ := hQ.rdp hx2
            obtain ⟨E, hEe⟩ : ∃ E : Int, E = partE (headQ bs) (bs.drop 40) := ⟨_, rfl⟩
            rw [← hEe] at h2 ⊢
            have hR : Hid (rdE bs = E) := Lib.hid (by rw [hEe, ← hN.out]; unfold rdE; rw [if_neg (fun h => h hH.out)])
            clear hx2 HP hEe
            by_cases hE : E = 0
            · obtain ⟨rfl, A', n', c', rfl, ho⟩ := h2 hE
              subst hE
              have L := ldPk_run hQ.x
              have S := stPk_run (q := rdBody (headQ bs) (bs.drop 40)) (v := .slice A' n' c') hQ.r rfl rfl
              have hfin := Lib.hid (show Own w.heap.size _ (.slice A' n' c') (bs.drop 40 |>.drop (szP (headQ bs))) from own_fin ho hQ (by have := hQ1.out; omega) (pkL (rdBody (headQ bs) (bs.drop 40)) (.slice A' n' c')).toArray)
              go_wp2_with fail
              refine bodyPost_ret (v := .tuple #[pkV (rdBody (headQ bs) (bs.drop 40)) (.slice A' n' c'), .int .i64 0]) (res_pk rfl _ _ w.heap.size _ (.slice A' n' c') rfl (setRow_heap _ _ _ _ _ _ hQ.r) _ rfl) rfl ⟨_, _, by rw [hR.out], hQ.fin _, fun h => absurd hR.out h, fun _ => ⟨by rw [hN.out], A', n', c', rfl, by rw [hN.out]; exact hfin.out⟩⟩
            · clear h2
              have S0 := stZ hQ.r rfl
              have hEb : (E == 0) = false := by simp [hE]
              replace hE := Lib.hid hE
              go_wp2_with fail
              refine bodyPost_ret (v := .tuple #[pkV zq (.slice none 0 0), .int .i64 E]) (res_pk rfl _ _ w.heap.size zq (.slice none 0 0) rfl (setRow_heap _ _ _ _ _ _ hQ.r) _ rfl) rfl ⟨zq, .slice none 0 0, by rw [hR.out], hQ.fin _, fun _ => ⟨rfl, rfl⟩, fun h => absurd (hR.out.symm.trans h) hE.out⟩
          · have j1 : (40 : Int) ≤ n := by omega
            have j2 : (40 : Int) ≤ cap := by have := hS.2.1; omega
            have HP := readPart_any (headQ bs) (w.heap.size + 1) (some ⟨g, off + 40, none⟩) (n - 40) (cap - 40) (bs.drop 40) u1 hQ.x (by
              have h := hS.part 40 (n - 40) (cap - 40) (by omega) (by have := hS.2.1; omega)
              rwa [List.take_of_length_le (by rw [List.length_drop]; have := hl.out; omega)] at h) (fun h => ⟨g, off + 40, rfl, by omega⟩) hok (by omega) (fun b h => hb.out b (List.mem_of_mem_drop h))
            replace HP := Lib.hid HP
            clear hS
            go_wp2_with fail
            refine HP.out.mono ?_
            rintro e u2 ⟨q2, v2, rfl, hx2, h2⟩
            replace hQ := hQ.rdp hx2
            obtain ⟨E, hEe⟩ : ∃ E : Int, E = partE (headQ bs) (bs.drop 40) := ⟨_, rfl⟩
            rw [← hEe] at h2 ⊢
            have hR : Hid (rdE bs = E) := Lib.hid (by rw [hEe, ← hN.out]; unfold rdE; rw [if_neg (fun h => h hH.out)])
            clear hx2 HP hEe
            by_cases hE : E = 0
            · obtain ⟨rfl, A', n', c', rfl, ho⟩ := h2 hE
              subst hE
              have L := ldPk_run hQ.x
              have S := stPk_run (q := rdBody (headQ bs) (bs.drop 40)) (v := .slice A' n' c') hQ.r rfl rfl
              have hfin := Lib.hid (show Own w.heap.size _ (.slice A' n' c') (bs.drop 40 |>.drop (szP (headQ bs))) from own_fin ho hQ (by have := hQ1.out; omega) (pkL (rdBody (headQ bs) (bs.drop 40)) (.slice A' n' c')).toArray)
              go_wp2_with fail
              refine bodyPost_ret (v := .tuple #[pkV (rdBody (headQ bs) (bs.drop 40)) (.slice A' n' c'), .int .i64 0]) (res_pk rfl _ _ w.heap.size _ (.slice A' n' c') rfl (setRow_heap _ _ _ _ _ _ hQ.r) _ rfl) rfl ⟨_, _, by rw [hR.out], hQ.fin _, fun h => absurd hR.out h, fun _ => ⟨by rw [hN.out], A', n', c', rfl, by rw [hN.out]; exact hfin.out⟩⟩
            · clear h2
              have S0 := stZ hQ.r rfl
              have hEb : (E == 0) = false := by simp [hE]
              replace hE := Lib.hid hE
              go_wp2_with fail
              refine bodyPost_ret (v := .tuple #[pkV zq (.slice none 0 0), .int .i64 E]) (res_pk rfl _ _ w.heap.size zq (.slice none 0 0) rfl (setRow_heap _ _ _ _ _ _ hQ.r) _ rfl) rfl ⟨zq, .slice none 0 0, by rw [hR.out], hQ.fin _, fun _ => ⟨rfl, rfl⟩, fun h => absurd (hR.out.symm.trans h) hE.out⟩
        · have hR : Hid (rdE bs = E) := Lib.hid (by unfold rdE; rw [hHE, if_pos hE])
          clear hq1 hHE hS
          have S0 := stZ hQ.r rfl
          have hEb : (E == 0) = false := by simp [hE]
          replace hE := Lib.hid hE
          go_wp2_with fail
          refine bodyPost_ret (v := .tuple #[pkV zq (.slice none 0 0), .int .i64 E]) (res_pk rfl _ _ w.heap.size zq (.slice none 0 0) rfl (setRow_heap _ _ _ _ _ _ hQ.r) _ rfl) rfl ⟨zq, .slice none 0 0, by rw [hR.out], hQ.fin _, fun _ => ⟨rfl, rfl⟩, fun h => absurd (hR.out.symm.trans h) hE.out⟩
      · have hx96 : (x == 96) = false := by simp [h96]
        obtain ⟨E, hEe⟩ : ∃ E : Int, E = 4 := ⟨_, rfl⟩
        have hR := Lib.hid (show rdE bs = 4 by
          have h : headE bs = 4 := by unfold headE; rw [if_neg hl20.out, if_neg (by omega), if_neg (by omega)]
          unfold rdE; rw [h, if_pos (by decide)])
        have S0 := stZ hQ.r rfl
        replace hx := Lib.hid hx
        clear hS hEe
        go_enter Try.func29, Try.ntmps29
        go_wp2_with fail
        refine bodyPost_ret (v := .tuple #[pkV zq (.slice none 0 0), .int .i64 4]) (res_pk rfl _ _ w.heap.size zq (.slice none 0 0) rfl (setRow_heap _ _ _ _ _ _ hQ.r) _ rfl) rfl ⟨zq, .slice none 0 0, by rw [hR.out], hQ.fin _, fun _ => ⟨rfl, rfl⟩, fun h => by rw [hR.out] at h; cases h⟩
end Go.Proofs.Ytigbbpgfblnboaa
