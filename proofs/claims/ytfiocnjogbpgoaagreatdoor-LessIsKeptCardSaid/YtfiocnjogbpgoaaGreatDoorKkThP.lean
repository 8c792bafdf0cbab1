/- Reports whose addresses are hidden: one report; a list. -/
import Derived.Test.YtfiocnjogbpgoaaGreatDoorKkThH
import Derived.Test.YtfiocnjogbpgoaaGreatDoorKkShelf
import Derived.Test.YtfiocnjogbpgoaaGreatDoorKkThC
import Derived.Test.YtfiocnjogbpgoaaGreatDoorKkSiteA
import Derived.Laws.EntriesVeiled
namespace Go.Proofs.YtfiocnjogbpgoaaGreatDoor
open Go.RowKit
set_option linter.unusedVariables false
set_option linter.unusedSimpArgs false

/-- A right report, as far as it matters here. -/
def Rp.G (x : Rp) : Prop := x.U ∧ x.N ∧ 0 ≤ x.hour ∧ x.hour ≤ 96023
theorem dayR_U {r : Rp} (h : r.G) : (dayR r).U ∧ (dayR r).N := by
  obtain ⟨⟨⟨h1, h2, h3, h4, h5⟩, h6, h7⟩, hN, h8, h9⟩ := h
  have m0 := Int.emod_nonneg r.hour (show (24 : Int) ≠ 0 by decide)
  have m1 := Int.emod_lt_of_pos r.hour (show (0 : Int) < 24 by decide)
  refine ⟨⟨⟨h1, h2, h3, ?_, ?_⟩, ?_, h7⟩, hN⟩
  · show i60 0; exact ⟨by decide, by decide⟩
  · show i60 0; exact ⟨by decide, by decide⟩
  · show i60 (r.hour - r.hour % 24)
    exact ⟨by omega, by omega⟩
theorem thinR_U {d : Int} {r : Rp} (h : r.G) : (thinR d r).U ∧ (thinR d r).N := by
  unfold thinR
  split
  · exact dayR_U h
  · exact ⟨h.1, h.2.1⟩

/-- What putting together gives: a list. -/
def TogP (w : World) (ms : List Rp) (e : Ending) (w' : World) : Prop := ∃ A' m' cap' zs, e = .returned (.slice A' m' cap') ∧ SlE eRp w' A' m' cap' zs ∧ Tog ms zs ∧ Below w.heap.size w w'

set_option maxHeartbeats 4000000 in
set_option maxRecDepth 100000 in
theorem togetherThin_any (bs : Nat) (d : Int) (A : Option Addr) (n cap : Nat) (ms : List Rp) (w : World) (hB : Blk w bs [.int .i64 d] 3) (hd : 0 ≤ d ∧ d ≤ 4001) (hS : SlE eRp w A n cap ms) (hn : n ≤ 20) (hG : ∀ x ∈ ms, x.G) :
    Calls Tryz.prog 63 #[.slice A n cap, .func (.func 64) #[] #[.pointer (some ⟨bs, 0, none⟩)]] w (TogP w (ms.map (thinR d))) := by
  have HM := Lib.hid (mapThin_any bs (thinR d) A n cap ms w (fun x hx W hW => thin1_any bs d x W (hB.below hW) hd (hG x hx).2.2) hS (by omega))
  have hU := Lib.hid (show ∀ x ∈ ms.map (thinR d), x.U from fun x hx => by
    obtain ⟨y, hy, rfl⟩ := List.mem_map.1 hx
    exact (thinR_U (hG y hy)).1)
  have hN := Lib.hid (show ∀ x ∈ ms.map (thinR d), x.N from fun x hx => by
    obtain ⟨y, hy, rfl⟩ := List.mem_map.1 hx
    exact (thinR_U (hG y hy)).2)
  have hl := Lib.hid (show (ms.map (thinR d)).length = n by rw [List.length_map]; exact hS.1.symm)
  generalize ms.map (thinR d) = ts at *
  clear hB hd hS hG
  go_enter Tryz.func63, Tryz.ntmps63
  go_wp2_with fail
  refine HM.out.mono ?_
  rintro e w1 ⟨⟨A', c', rfl, hown⟩, hb⟩
  obtain ⟨A2, c2, hv, hS1⟩ := hown.sl
  rw [hl.out] at hv hS1
  injection hv with e1 e2 e3
  subst e1 e3
  have HGa := Lib.hid (gather_any A' n c' ts w1 hS1 hn hU.out hN.out)
  clear HM hown hS1
  go_wp2_with fail
  refine HGa.out.mono ?_
  intro e w2 hq
  obtain ⟨A3, m3, c3, zs, rfl, hS3, hT, hb2⟩ := hq
  have hbF := hb.trans (hb2.mono hb.size)
  replace hS3 := Lib.hid hS3
  replace hT := Lib.hid hT
  clear HGa hb hb2
  go_wp2_with fail
  go_ret
  exact ⟨A3, m3, c3, zs, rfl, hS3.out, hT.out, hbF⟩
end Go.Proofs.YtfiocnjogbpgoaaGreatDoor
namespace Go.Proofs.YtfiocnjogbpgoaaGreatDoor
open Go.RowKit
set_option linter.unusedVariables false
set_option linter.unusedSimpArgs false

theorem firstZ_zero_all : ∀ {l : List Int}, firstZ l = 0 → ∀ z ∈ l, z = 0
  | [], _, z, hz => by cases hz
  | a :: l, h, z, hz => by
    rw [firstZ_thn] at h
    by_cases e : a = 0
    · rw [if_pos e] at h
      rcases List.mem_cons.1 hz with k | k
      · rw [k]; exact e
      · exact firstZ_zero_all h z k
    · rw [if_neg e] at h; exact absurd h e
theorem numE_zero {z a b : Int} (h : numE z a b = 0) : a ≤ z ∧ z ≤ b := by
  unfold numE at h
  by_cases k : a ≤ z ∧ z ≤ b
  · exact k
  · rw [if_neg k] at h; cases h
theorem repF_G {x : Rp} (hU : x.U) (h : repF x = 0) : x.G := by
  unfold repF at h
  have h1 := firstZ_zero_all h
  have h2 := firstZ_zero_all (h1 _ (List.mem_cons_self ..))
  have e1 := numE_zero (h2 (numE x.hour 0 96023) (by simp))
  have e2 := numE_zero (h1 (numE x.pk 1 1000000000000) (by simp))
  have e3 := numE_zero (h1 (numE x.by_ 0 1000000000000) (by simp))
  exact ⟨hU, ⟨by omega, e2.2, e3.1, e3.2⟩, e1.1, e1.2⟩
theorem risL_zero : ∀ {l : List Rp} {p : Option Rp}, risL p l = 0 → (∀ x ∈ l, repF x = 0) ∧ l.Pairwise LtR ∧ ∀ q, p = some q → ∀ x ∈ l, LtR q x
  | [], p, _ => ⟨by simp, List.Pairwise.nil, by simp⟩
  | r :: l, p, h => by
    unfold risL at h
    by_cases e : repF r = 0
    · rw [if_pos e] at h
      by_cases b : badO p r = true
      · rw [if_pos b] at h; cases h
      · rw [if_neg b] at h
        obtain ⟨h1, h2, h3⟩ := risL_zero h
        have h4 := h3 r rfl
        have h5 : ∀ q, p = some q → LtR q r := fun q hq => by
          subst hq
          unfold badO at b
          unfold LtR
          simp at b
          have := cm_rp.anti q r
          omega
        refine ⟨fun x hx => ?_, List.pairwise_cons.2 ⟨h4, h2⟩, fun q hq x hx => ?_⟩
        · rcases List.mem_cons.1 hx with k | k
          · rw [k]; exact e
          · exact h1 x k
        · rcases List.mem_cons.1 hx with k | k
          · rw [k]; exact h5 q hq
          · exact LtR.trans (h5 q hq) (h4 x k)
    · rw [if_neg e] at h; exact absurd h e
theorem repsF_zero {rs : List Rp} (hU : ∀ x ∈ rs, x.U) (h : repsF rs = 0) : (∀ x ∈ rs, x.G) ∧ rs.Pairwise LtR := by
  unfold repsF at h
  by_cases k : 3000 < rs.length
  · rw [if_pos k] at h; cases h
  · rw [if_neg k] at h
    obtain ⟨h1, h2, _⟩ := risL_zero h
    exact ⟨fun x hx => repF_G (hU x hx) (h1 x hx), h2⟩
end Go.Proofs.YtfiocnjogbpgoaaGreatDoor
namespace Go.Proofs.YtfiocnjogbpgoaaGreatDoor
open Go.RowKit
set_option linter.unusedVariables false
set_option linter.unusedSimpArgs false

/-- What Thin gives. -/
def ThP (w : World) (E : Int) (ts : List Rp) (e : Ending) (w' : World) : Prop := Below w.heap.size w w' ∧ ((E ≠ 0 ∧ e = .returned (.tuple #[.slice none 0 0, .int .i64 E])) ∨ (E = 0 ∧ ∃ A m cap zs, e = .returned (.tuple #[.slice A m cap, .int .i64 0]) ∧ SlE eRp w' A m cap zs ∧ Tog ts zs))

set_option maxHeartbeats 4000000 in
set_option maxRecDepth 100000 in
theorem flowThin_any (d : Int) (A : Option Addr) (n cap : Nat) (ms : List Rp) (w : World) (hS : SlE eRp w A n cap ms) (hn : n ≤ 20) (hU : ∀ x ∈ ms, x.U) :
    Calls Tryz.prog 21 #[.slice A n cap, .int .i64 d] w (ThP w (firstZ [repsF ms, numE d 0 4001]) (ms.map (thinR d))) := by
  have C1 := Lib.hid (fun W (hW : Below w.heap.size w W) => check_any A n cap ms W (hS.below hW) (by omega) hU)
  have C2 := Lib.hid (fun w' => (show Calls Tryz.prog 62 #[.int .i64 d, .int .i64 0, .int .i64 4001] w' fun e w2 => e = .returned (.int .i64 (numE d 0 4001)) ∧ w' = w2 from numberI_any d 0 4001 w'))
  have HT := Lib.hid (fun (bs : Nat) W (hW : Below w.heap.size w W) (hB : Blk W bs [.int .i64 d] 3) (h1 : repsF ms = 0) (h2 : numE d 0 4001 = 0) => togetherThin_any bs d A n cap ms W hB (numE_zero h2) (hS.below hW) hn (repsF_zero hU h1).1)
  clear hS hn hU
  generalize ms.map (thinR d) = ts at *
  generalize repsF ms = z1 at *
  generalize numE d 0 4001 = z2 at *
  obtain ⟨Z, hZ⟩ : ∃ Z, Z = firstZ [z1, z2] := ⟨_, rfl⟩
  rw [← hZ]
  replace hZ := Lib.hid hZ
  have hA := Blk.new w [.int .i64 d] 3
  have hbw : Below w.heap.size w (w.alloc (.cells [.int .i64 d].toArray 3)) := (Below.refl _ _).alloc (Nat.le_refl _) _
  go_enter Tryz.func21, Tryz.ntmps21
  go_upto_region 1 with fail
  refine wb_begin ([w.heap.size]) [] (by kernel_rfl) (fun u0 hb0' hz0' => ?_)
  replace hA := hA.below hb0'
  replace hbw := hbw.trans (hb0'.mono hbw.size)
  clear hb0' hz0'
  refine wb_pure (i := 0) (d := some 7) (v := ?_) (by simp only [List.getElem?_toArray, List.getElem?_cons_succ, List.getElem?_cons_zero] <;> rfl) (by rfl) (by kernel_rfl) (by kernel_rfl) (by kernel_rfl) (fun _ _ _ h => h) (by rfl) ?_ ?_
  rotate_left
  · ((intro u); go_simp; try with_reducible rfl)
  try simp only [Act.put, List.setIfInBounds_toArray, List.set_cons_zero, List.set_cons_succ]
  refine wb_take (i := 2) (d := some 9) (v := ?_) (by simp only [List.getElem?_toArray, List.getElem?_cons_succ, List.getElem?_cons_zero] <;> rfl) (by rfl) (by kernel_rfl) (by kernel_rfl) (by kernel_rfl) (fun _ _ _ h => h) (by rfl) (by kernel_rfl) ?_ ?_
  rotate_left
  · ((intro u hu); have ka := hA.kb hu (List.mem_singleton.2 rfl); have a0 := ka.cell (i := 0) (v := .int .i64 d) rfl; clear ka; go_simp; try with_reducible rfl)
  try simp only [Act.put, List.setIfInBounds_toArray, List.set_cons_zero, List.set_cons_succ]
  refine wb_one (i := 1) (by simp only [List.getElem?_toArray, List.getElem?_cons_succ, List.getElem?_cons_zero] <;> rfl) (by kernel_rfl) (by rfl) (fun K hK => ?_)
  go_simp
  refine (C1.out _ hbw).mono ?_
  rintro e wq1 ⟨rfl, hv1⟩
  refine hK _ _ (Kb.below hv1 (by intro q hq; rw [List.mem_singleton.1 hq]; exact hA.lt)) ?_
  replace hA := hA.below hv1
  replace hbw := hbw.trans (hv1.mono hbw.size)
  clear hK K hv1
  try simp only [Act.put, List.setIfInBounds_toArray, List.set_cons_zero, List.set_cons_succ]
  refine wb_one (i := 3) (by simp only [List.getElem?_toArray, List.getElem?_cons_succ, List.getElem?_cons_zero] <;> rfl) (by kernel_rfl) (by rfl) (fun K hK => ?_)
  go_simp
  refine (C2.out _).mono ?_
  rintro e wq3 ⟨rfl, rfl⟩
  refine hK _ _ (Kb.refl _ _) ?_
  clear hK K
  try simp only [Act.put, List.setIfInBounds_toArray, List.set_cons_zero, List.set_cons_succ]
  refine wb_one (i := 4) (by simp only [List.getElem?_toArray, List.getElem?_cons_succ, List.getElem?_cons_zero] <;> rfl) (by kernel_rfl) (by rfl) (fun K hK => ?_)
  go_simp
  refine hK _ _ (Kb.gb (World.grownBy_alloc _ _ none) (by intro q hq; rw [List.mem_singleton.1 hq]; exact ⟨hA.lt, by simp⟩)) ?_
  refine wb_new (cs := [z1, z2].map (Value.int .i64)) (t := 33) (fun u91 hv3 hL3 hz3 => ?_)
  replace hA := hA.below hv3
  replace hbw := hbw.trans (hv3.mono hbw.size)
  clear hK K hv3 hz3
  try simp only [Act.put, List.setIfInBounds_toArray, List.set_cons_zero, List.set_cons_succ]
  refine wb_one (i := 5) (by simp only [List.getElem?_toArray, List.getElem?_cons_succ, List.getElem?_cons_zero] <;> rfl) (by kernel_rfl) (by rfl) (fun K hK => ?_)
  go_simp
  refine (orF_blk [z1, z2] _ _ _ _ hL3 (by simp)).mono ?_
  rintro e w' ⟨rfl, rfl⟩
  refine hK _ _ (Kb.refl _ _) ?_
  clear hK K hL3
  try simp only [Act.put, List.setIfInBounds_toArray, List.set_cons_zero, List.set_cons_succ]
  refine wb_pure (i := 6) (d := some 6) (v := ?_) (by simp only [List.getElem?_toArray, List.getElem?_cons_succ, List.getElem?_cons_zero] <;> rfl) (by rfl) (by kernel_rfl) (by kernel_rfl) (by kernel_rfl) (fun _ _ _ h => h) (by rfl) ?_ ?_
  rotate_left
  · ((intro u); go_simp; try with_reducible rfl)
  try simp only [Act.put, List.setIfInBounds_toArray, List.set_cons_zero, List.set_cons_succ]
  refine wb_done (by kernel_rfl) ?_ _
  skip
  rw [← hZ.out]
  by_cases h0 : Z = 0
  · subst h0
    have hz := firstZ_zero_all hZ.out.symm
    have HT2 := Lib.hid (HT.out w.heap.size _ hbw hA (hz z1 (by simp)) (hz z2 (by simp)))
    clear HT C1 C2 hz
    go_wp2_with fail
    refine HT2.out.mono ?_
    intro e w5 hq
    obtain ⟨A3, m3, c3, zs, rfl, hS3, hT, hb2⟩ := hq
    have hbF := hbw.trans (hb2.mono hbw.size)
    replace hS3 := Lib.hid hS3
    replace hT := Lib.hid hT
    clear HT2 hb2 hA hbw
    go_wp2_with fail
    go_ret2
    exact ⟨hbF, .inr ⟨rfl, A3, m3, c3, zs, rfl, hS3.out, hT.out⟩⟩
  · have hb : (Z != 0) = true := by simpa using h0
    clear HT C1 C2 hA
    go_wp2_with fail
    go_ret2
    exact ⟨hbw, .inl ⟨h0, rfl⟩⟩
end Go.Proofs.YtfiocnjogbpgoaaGreatDoor
namespace Go.Proofs.YtfiocnjogbpgoaaGreatDoor
open Go.RowKit
set_option linter.unusedVariables false
set_option linter.unusedSimpArgs false

end Go.Proofs.YtfiocnjogbpgoaaGreatDoor
namespace Go.Proofs.YtfiocnjogbpgoaaGreatDoor
open Go.RowKit Go.Shelf
set_option linter.unusedVariables false
set_option linter.unusedSimpArgs false

end Go.Proofs.YtfiocnjogbpgoaaGreatDoor
namespace Go.Proofs.YtfiocnjogbpgoaaGreatDoor
open Go.RowKit
set_option linter.unusedVariables false
set_option linter.unusedSimpArgs false

end Go.Proofs.YtfiocnjogbpgoaaGreatDoor
namespace Go.Proofs.YtfiocnjogbpgoaaGreatDoor
open Go.RowKit
set_option linter.unusedVariables false
set_option linter.unusedSimpArgs false

/-- An address whose last bits are hidden. -/
def bitsH (b4 b6 : Int) (s : Bool) : Int := if s then b6 else b4
def hidV (b4 b6 : Int) (a : Ad) : Nat := clr (num a.hi a.lo) (lenZ a.s - bitsH b4 b6 a.s).toNat
def hidA (b4 b6 : Int) (a : Ad) : Ad := ⟨a.s, ((hidV b4 b6 a / 2 ^ 64 : Nat) : Int), ((hidV b4 b6 a % 2 ^ 64 : Nat) : Int)⟩
def hidR (b4 b6 : Int) (r : Rp) : Rp := { r with fl := { r.fl with f := hidA b4 b6 r.fl.f, t := hidA b4 b6 r.fl.t } }
def InB (b4 b6 : Int) : Prop := (0 ≤ b4 ∧ b4 ≤ 32) ∧ 0 ≤ b6 ∧ b6 ≤ 128
theorem InB.lo {b4 b6 : Int} (h : InB b4 b6) (s : Bool) : 0 ≤ bitsH b4 b6 s := by
  obtain ⟨h1, h2⟩ := h
  cases s
  · exact h1.1
  · exact h2.1
theorem InB.hi {b4 b6 : Int} (h : InB b4 b6) (s : Bool) : bitsH b4 b6 s ≤ lenZ s := by
  obtain ⟨h1, h2⟩ := h
  cases s
  · exact h1.2
  · exact h2.2
theorem hidA_U {b4 b6 : Int} {a : Ad} (h : a.U) : (hidA b4 b6 a).U := by
  have hl : hidV b4 b6 a < 2 ^ 128 := clr_lt (num_lt h.1.2 h.2.2)
  unfold hidA Ad.U U64
  simp only
  generalize hidV b4 b6 a = v at *
  refine ⟨⟨by omega, ?_⟩, by omega, ?_⟩ <;> omega
theorem hidR_U {b4 b6 : Int} {r : Rp} (h : r.G) : (hidR b4 b6 r).U ∧ (hidR b4 b6 r).N :=
  ⟨⟨⟨hidA_U h.1.1.1, hidA_U h.1.1.2.1, h.1.1.2.2⟩, h.1.2⟩, h.2.1⟩

set_option maxHeartbeats 2000000 in
set_option maxRecDepth 100000 in
theorem hide1_any (p q : Nat) (b4 b6 : Int) (a : Ad) (w : World) (hp : Blk w p [.int .i64 b4] 3) (hq : Blk w q [.int .i64 b6] 3) (hI : InB b4 b6) (hU : a.U) (hA : adF a.s a.hi a.lo = 0) :
    Calls Tryz.prog 65 #[adA a, .pointer (some ⟨p, 0, none⟩), .pointer (some ⟨q, 0, none⟩)] w (GivesV (adA (hidA b4 b6 a)) w) := by
  have HM := Lib.hid (fun W => (show Calls Tryz.prog 66 #[adA a, .int .i64 (bitsH b4 b6 a.s)] W (GivesV (.tuple #[pfA (hidA b4 b6 a, bitsH b4 b6 a.s), .int .i64 0]) W) from mask_ok a.s a.hi a.lo (bitsH b4 b6 a.s) W hU.1.1 hU.1.2 hU.2.1 hU.2.2 hA (hI.lo _) (hI.hi _)))
  clear hI hU hA
  obtain ⟨s, hi, lo⟩ := a

  have hX := (Blk.new w (adC ⟨s, hi, lo⟩) 28).alloc (.cells #[.bool false, .int .u64 0, .int .u64 0] 28)
  have hR := Blk.new (w.alloc (.cells (adC ⟨s, hi, lo⟩).toArray 28)) [.bool false, .int .u64 0, .int .u64 0] 28
  rw [World.size_alloc] at hR
  obtain ⟨wE, hwE⟩ : ∃ wE, wE = (w.alloc (.cells (adC ⟨s, hi, lo⟩).toArray 28)).alloc (.cells #[.bool false, .int .u64 0, .int .u64 0] 28) := ⟨_, rfl⟩
  have hbw : Below w.heap.size w wE := by rw [hwE]; exact ((Below.refl _ _).alloc (Nat.le_refl _) _).alloc (by simp) _
  replace hX : Blk wE w.heap.size (adC ⟨s, hi, lo⟩) 28 := by rw [hwE]; exact hX
  replace hR : Blk wE (w.heap.size + 1) [.bool false, .int .u64 0, .int .u64 0] 28 := by rw [hwE]; exact hR
  have hp2 := (hp.below hbw).cell (i := 0) (v := .int .i64 b4) rfl
  have hq2 := (hq.below hbw).cell (i := 0) (v := .int .i64 b6) rfl
  clear hp hq
  generalize hidA b4 b6 ⟨s, hi, lo⟩ = m at *

  cases s
  · change Hid (∀ W, Calls Tryz.prog 66 #[adA ⟨false, hi, lo⟩, .int .i64 b4] W (GivesV (.tuple #[pfA (m, b4), .int .i64 0]) W)) at HM
    obtain ⟨n, hn⟩ : ∃ n, n = b4 := ⟨_, rfl⟩
    rw [← hn] at HM hp2
    clear hn

    have l1 := hX.ld rowAd (adC_len ⟨false, hi, lo⟩)
    have l0 : wE.cell? ⟨w.heap.size, 0, none⟩ = some (.bool false) := hX.cell (i := 0) rfl
    go_enter Tryz.func65, Tryz.ntmps65
    go_upto_region 1 with fail
    rw [← hwE]
    clear hwE hX
    go_wp2_with fail
    refine (HM.out _).mono ?_
    rintro e w1 ⟨rfl, hb1⟩
    have hR1 := hR.below hb1
    have hbw1 := hbw.trans (hb1.mono hbw.size)
    have S4 : (stT 31 (.pointer (some ⟨w1.heap.size, 0, none⟩)) (pfA (m, n))).run Tryz.prog (w1.alloc (.cells #[.bool false, .int .u64 0, .int .u64 0, .int .i64 0] 31)) = .ok .skip (w1.alloc (.cells (pfC (m, n)).toArray 31)) :=
      stT_new rowPf w1 _ rfl [.bool false, .int .u64 0, .int .u64 0, .int .i64 0] (pfC (m, n)) rfl (pfC_len _) (pfC_one _)
    have hP := Blk.new w1 (pfC (m, n)) 31
    have l5 := hP.ldAt rowAd 0 (adC m) [.int .i64 n] rfl rfl
    have hR2 := hR1.alloc (.cells (pfC (m, n)).toArray 31)
    have S5 := stT_row rowAd hR2 rfl (adC_len m) (adC_one m)
    have hbw2 := hbw1.alloc hbw1.size (.cells (pfC (m, n)).toArray 31)
    clear HM hp2 hq2 hb1 hR hR1 hbw hbw1 l0 l1 hP
    go_wp2_with fail
    refine bodyPost_ret (v := adA m) (results_cell_row rfl _ _ (w.heap.size + 1) _ _ (0, 0) _ rfl (setRow_heap _ (w.heap.size + 1) _ _ _ _ hR2) Tryz.underlying28 rfl (by rw [rowAd.size]; rfl)) rfl ⟨rfl, ?_⟩
    exact below_row (p := w.heap.size + 1) hbw2 (by omega) _

  · change Hid (∀ W, Calls Tryz.prog 66 #[adA ⟨true, hi, lo⟩, .int .i64 b6] W (GivesV (.tuple #[pfA (m, b6), .int .i64 0]) W)) at HM
    obtain ⟨n, hn⟩ : ∃ n, n = b6 := ⟨_, rfl⟩
    rw [← hn] at HM hq2
    clear hn

    have l1 := hX.ld rowAd (adC_len ⟨true, hi, lo⟩)
    have l0 : wE.cell? ⟨w.heap.size, 0, none⟩ = some (.bool true) := hX.cell (i := 0) rfl
    go_enter Tryz.func65, Tryz.ntmps65
    go_upto_region 1 with fail
    rw [← hwE]
    clear hwE hX
    go_wp2_with fail
    refine (HM.out _).mono ?_
    rintro e w1 ⟨rfl, hb1⟩
    have hR1 := hR.below hb1
    have hbw1 := hbw.trans (hb1.mono hbw.size)
    have S4 : (stT 31 (.pointer (some ⟨w1.heap.size, 0, none⟩)) (pfA (m, n))).run Tryz.prog (w1.alloc (.cells #[.bool false, .int .u64 0, .int .u64 0, .int .i64 0] 31)) = .ok .skip (w1.alloc (.cells (pfC (m, n)).toArray 31)) :=
      stT_new rowPf w1 _ rfl [.bool false, .int .u64 0, .int .u64 0, .int .i64 0] (pfC (m, n)) rfl (pfC_len _) (pfC_one _)
    have hP := Blk.new w1 (pfC (m, n)) 31
    have l5 := hP.ldAt rowAd 0 (adC m) [.int .i64 n] rfl rfl
    have hR2 := hR1.alloc (.cells (pfC (m, n)).toArray 31)
    have S5 := stT_row rowAd hR2 rfl (adC_len m) (adC_one m)
    have hbw2 := hbw1.alloc hbw1.size (.cells (pfC (m, n)).toArray 31)
    clear HM hp2 hq2 hb1 hR hR1 hbw hbw1 l0 l1 hP
    go_wp2_with fail
    refine bodyPost_ret (v := adA m) (results_cell_row rfl _ _ (w.heap.size + 1) _ _ (0, 0) _ rfl (setRow_heap _ (w.heap.size + 1) _ _ _ _ hR2) Tryz.underlying28 rfl (by rw [rowAd.size]; rfl)) rfl ⟨rfl, ?_⟩
    exact below_row (p := w.heap.size + 1) hbw2 (by omega) _

@[go_sem] theorem run_fieldPf (m : Ad) (n : Int) (w : World) : (Instr.field 31 (.agg (pfC (m, n)).toArray) 0).run Tryz.prog w = .ok (.agg (adC m).toArray) w := by kernel_rfl

end Go.Proofs.YtfiocnjogbpgoaaGreatDoor
namespace Go.Proofs.YtfiocnjogbpgoaaGreatDoor
open Go.RowKit
set_option linter.unusedVariables false
set_option linter.unusedSimpArgs false

theorem rpC_split (r : Rp) : rpC r = [.string ⟨r.node.toArray⟩, .int .i64 r.hour, .bool r.out, .int .i64 r.fl.p] ++ (adC r.fl.f ++ (adC r.fl.t ++ [.int .i64 r.fl.fp, .int .i64 r.fl.tp, .int .i64 r.pk, .int .i64 r.by_])) := rfl
theorem setL_len' : ∀ (vs : List Value) (o : Nat) (xs : List Value), (setL xs o vs).length = xs.length
  | [], _, _ => rfl
  | v :: r, o, xs => by unfold setL; rw [setL_len' r, List.length_set]
/-- A right address of a flow, a right report's. -/
def Rp.A (x : Rp) : Prop := adF x.fl.f.s x.fl.f.hi x.fl.f.lo = 0 ∧ adF x.fl.t.s x.fl.t.hi x.fl.t.lo = 0

set_option maxHeartbeats 4000000 in
set_option maxRecDepth 100000 in
theorem hide2_any (f p q : Nat) (b4 b6 : Int) (r : Rp) (w : World) (hF : Blk w f [.func (.func 65) #[] #[.pointer (some ⟨p, 0, none⟩), .pointer (some ⟨q, 0, none⟩)]] 126) (hp : Blk w p [.int .i64 b4] 3) (hq : Blk w q [.int .i64 b6] 3) (hI : InB b4 b6) (hU : r.U) (hA : r.A) :
    Calls Tryz.prog 67 #[rpA r, .pointer (some ⟨f, 0, none⟩)] w (GivesV (rpA (hidR b4 b6 r)) w) := by
  have H1 := Lib.hid (fun W (hW : Below w.heap.size w W) => hide1_any p q b4 b6 r.fl.f W (hp.below hW) (hq.below hW) hI hU.1.1 hA.1)
  have H2 := Lib.hid (fun W (hW : Below w.heap.size w W) => hide1_any p q b4 b6 r.fl.t W (hp.below hW) (hq.below hW) hI hU.1.2.1 hA.2)
  have hfl := hF.lt
  have hX := (Blk.new w (rpC r) 56).alloc (.cells #[.string ⟨#[]⟩, .int .i64 0, .bool false, .int .i64 0, .bool false, .int .u64 0, .int .u64 0, .bool false, .int .u64 0, .int .u64 0, .int .i64 0, .int .i64 0, .int .i64 0, .int .i64 0] 56)
  have hE := Blk.new (w.alloc (.cells (rpC r).toArray 56)) zRpC 56
  rw [World.size_alloc] at hE
  obtain ⟨wE, hwE⟩ : ∃ wE, wE = (w.alloc (.cells (rpC r).toArray 56)).alloc (.cells #[.string ⟨#[]⟩, .int .i64 0, .bool false, .int .i64 0, .bool false, .int .u64 0, .int .u64 0, .bool false, .int .u64 0, .int .u64 0, .int .i64 0, .int .i64 0, .int .i64 0, .int .i64 0] 56) := ⟨_, rfl⟩
  have hbw : Below w.heap.size w wE := by rw [hwE]; exact ((Below.refl _ _).alloc (Nat.le_refl _) _).alloc (by simp) _
  replace hX : Blk wE w.heap.size (rpC r) 56 := by rw [hwE]; exact hX
  replace hE : Blk wE (w.heap.size + 1) zRpC 56 := by rw [hwE]; exact hE
  clear hp hq hI hU hA
  have hR : rpC (hidR b4 b6 r) = setL (setL (rpC r) 4 (adC (hidA b4 b6 r.fl.f))) 7 (adC (hidA b4 b6 r.fl.t)) := rfl
  replace hR := Lib.hid hR
  obtain ⟨fin, hfin⟩ : ∃ fin, fin = hidR b4 b6 r := ⟨_, rfl⟩
  rw [← hfin] at hR ⊢
  clear hfin
  generalize hidA b4 b6 r.fl.f = m1 at *
  generalize hidA b4 b6 r.fl.t = m2 at *
  go_enter Tryz.func67, Tryz.ntmps67
  go_upto_region 1 with fail
  rw [← hwE]
  clear hwE
  refine wx_begin (none) [12, 15] (by kernel_rfl) (fun u0 hb0' hz0' => ?_)
  replace hX := hX.below hb0'
  replace hE := hE.below hb0'
  replace hbw := hbw.trans (hb0'.mono hbw.size)
  clear hb0' hz0'
  refine wx_take (i := 0) (d := some 4) (v := ?_) (by simp only [List.getElem?_toArray, List.getElem?_cons_succ, List.getElem?_cons_zero] <;> rfl) (by rfl) (by kernel_rfl) (by kernel_rfl) (by kernel_rfl) (fun _ _ _ h => h) (by rfl) (by kernel_rfl) ?_ ?_
  rotate_left
  · ((intro u hu); have kw := hbw.grown hu hbw.size (fun k h => by cases h); have k0 := (hF.below kw).cell (i := 0) (v := .func (.func 65) #[] #[.pointer (some ⟨p, 0, none⟩), .pointer (some ⟨q, 0, none⟩)]) rfl; have kx := hX.gn hu; have k1 := kx.ldAt rowAd 4 (adC r.fl.f) _ rfl (by rw [rpC_split]; rfl); have k2 := kx.ldAt rowAd 7 (adC r.fl.t) _ rfl (by rw [rpC_split]; rfl); clear kw kx; go_simp; try with_reducible rfl)
  try simp only [Act.put, List.setIfInBounds_toArray, List.set_cons_zero, List.set_cons_succ]
  refine wx_pure (i := 1) (d := some 5) (v := ?_) (by simp only [List.getElem?_toArray, List.getElem?_cons_succ, List.getElem?_cons_zero] <;> rfl) (by rfl) (by kernel_rfl) (by kernel_rfl) (by kernel_rfl) (fun _ _ _ h => h) (by rfl) ?_ ?_
  rotate_left
  · ((intro u); go_simp; try with_reducible rfl)
  try simp only [Act.put, List.setIfInBounds_toArray, List.set_cons_zero, List.set_cons_succ]
  refine wx_pure (i := 2) (d := some 6) (v := ?_) (by simp only [List.getElem?_toArray, List.getElem?_cons_succ, List.getElem?_cons_zero] <;> rfl) (by rfl) (by kernel_rfl) (by kernel_rfl) (by kernel_rfl) (fun _ _ _ h => h) (by rfl) ?_ ?_
  rotate_left
  · ((intro u); go_simp; try with_reducible rfl)
  try simp only [Act.put, List.setIfInBounds_toArray, List.set_cons_zero, List.set_cons_succ]
  refine wx_take (i := 3) (d := some 7) (v := ?_) (by simp only [List.getElem?_toArray, List.getElem?_cons_succ, List.getElem?_cons_zero] <;> rfl) (by rfl) (by kernel_rfl) (by kernel_rfl) (by kernel_rfl) (fun _ _ _ h => h) (by rfl) (by kernel_rfl) ?_ ?_
  rotate_left
  · ((intro u hu); have kw := hbw.grown hu hbw.size (fun k h => by cases h); have k0 := (hF.below kw).cell (i := 0) (v := .func (.func 65) #[] #[.pointer (some ⟨p, 0, none⟩), .pointer (some ⟨q, 0, none⟩)]) rfl; have kx := hX.gn hu; have k1 := kx.ldAt rowAd 4 (adC r.fl.f) _ rfl (by rw [rpC_split]; rfl); have k2 := kx.ldAt rowAd 7 (adC r.fl.t) _ rfl (by rw [rpC_split]; rfl); clear kw kx; go_simp; try with_reducible rfl)
  try simp only [Act.put, List.setIfInBounds_toArray, List.set_cons_zero, List.set_cons_succ]
  refine wx_pure (i := 6) (d := some 10) (v := ?_) (by simp only [List.getElem?_toArray, List.getElem?_cons_succ, List.getElem?_cons_zero] <;> rfl) (by rfl) (by kernel_rfl) (by kernel_rfl) (by kernel_rfl) (fun _ _ _ h => h) (by rfl) ?_ ?_
  rotate_left
  · ((intro u); go_simp; try with_reducible rfl)
  try simp only [Act.put, List.setIfInBounds_toArray, List.set_cons_zero, List.set_cons_succ]
  refine wx_pure (i := 7) (d := some 11) (v := ?_) (by simp only [List.getElem?_toArray, List.getElem?_cons_succ, List.getElem?_cons_zero] <;> rfl) (by rfl) (by kernel_rfl) (by kernel_rfl) (by kernel_rfl) (fun _ _ _ h => h) (by rfl) ?_ ?_
  rotate_left
  · ((intro u); go_simp; try with_reducible rfl)
  try simp only [Act.put, List.setIfInBounds_toArray, List.set_cons_zero, List.set_cons_succ]
  refine wx_take (i := 8) (d := some 12) (v := ?_) (by simp only [List.getElem?_toArray, List.getElem?_cons_succ, List.getElem?_cons_zero] <;> rfl) (by rfl) (by kernel_rfl) (by kernel_rfl) (by kernel_rfl) (fun _ _ _ h => h) (by rfl) (by kernel_rfl) ?_ ?_
  rotate_left
  · ((intro u hu); have kw := hbw.grown hu hbw.size (fun k h => by cases h); have k0 := (hF.below kw).cell (i := 0) (v := .func (.func 65) #[] #[.pointer (some ⟨p, 0, none⟩), .pointer (some ⟨q, 0, none⟩)]) rfl; have kx := hX.gn hu; have k1 := kx.ldAt rowAd 4 (adC r.fl.f) _ rfl (by rw [rpC_split]; rfl); have k2 := kx.ldAt rowAd 7 (adC r.fl.t) _ rfl (by rw [rpC_split]; rfl); clear kw kx; go_simp; try with_reducible rfl)
  try simp only [Act.put, List.setIfInBounds_toArray, List.set_cons_zero, List.set_cons_succ]
  refine wx_two (i := 4) (k := 5) (by simp only [List.getElem?_toArray, List.getElem?_cons_succ, List.getElem?_cons_zero] <;> rfl) (by simp only [List.getElem?_toArray, List.getElem?_cons_succ, List.getElem?_cons_zero] <;> rfl) (by kernel_rfl) (by rfl) (by rfl) (fun K hK => ?_) (fun K hK => ?_)
  · go_simp
    refine (H1.out _ hbw).mono ?_
    rintro e wq4 ⟨rfl, hv1⟩
    refine hK.out _ _ (gbB hv1) ?_
    replace hX := hX.below hv1
    replace hE := hE.below hv1
    replace hbw := hbw.trans (hv1.mono hbw.size)
    clear hK K hv1
    try simp only [Act.put, List.setIfInBounds_toArray, List.set_cons_zero, List.set_cons_succ]
    refine wx_pure (i := 10) (d := some 14) (v := ?_) (by simp only [List.getElem?_toArray, List.getElem?_cons_succ, List.getElem?_cons_zero] <;> rfl) (by rfl) (by kernel_rfl) (by kernel_rfl) (by kernel_rfl) (fun _ _ _ h => h) (by rfl) ?_ ?_
    rotate_left
    · ((intro u); go_simp; try with_reducible rfl)
    try simp only [Act.put, List.setIfInBounds_toArray, List.set_cons_zero, List.set_cons_succ]
    refine wx_pure (i := 11) (d := some 15) (v := ?_) (by simp only [List.getElem?_toArray, List.getElem?_cons_succ, List.getElem?_cons_zero] <;> rfl) (by rfl) (by kernel_rfl) (by kernel_rfl) (by kernel_rfl) (fun _ _ _ h => h) (by rfl) ?_ ?_
    rotate_left
    · ((intro u); go_simp; try with_reducible rfl)
    try simp only [Act.put, List.setIfInBounds_toArray, List.set_cons_zero, List.set_cons_succ]
    refine wx_one (i := 5) (by simp only [List.getElem?_toArray, List.getElem?_cons_succ, List.getElem?_cons_zero] <;> rfl) (by kernel_rfl) (by rfl) (fun K hK => ?_)
    go_simp
    have k0 := (hF.below hbw).cell (i := 0) (v := .func (.func 65) #[] #[.pointer (some ⟨p, 0, none⟩), .pointer (some ⟨q, 0, none⟩)]) rfl
    go_simp
    refine hK.out _ _ (gb_refl _ _) ?_
    clear hK K k0
    try simp only [Act.put, List.setIfInBounds_toArray, List.set_cons_zero, List.set_cons_succ]
    refine wx_one (i := 9) (by simp only [List.getElem?_toArray, List.getElem?_cons_succ, List.getElem?_cons_zero] <;> rfl) (by kernel_rfl) (by rfl) (fun K hK => ?_)
    go_simp
    refine (H2.out _ hbw).mono ?_
    rintro e wq9 ⟨rfl, hv1⟩
    refine hK.out _ _ (gbB hv1) ?_
    replace hX := hX.below hv1
    replace hE := hE.below hv1
    replace hbw := hbw.trans (hv1.mono hbw.size)
    clear hK K hv1
    try simp only [Act.put, List.setIfInBounds_toArray, List.set_cons_zero, List.set_cons_succ]
    refine wx_store (i := 12) (by simp only [List.getElem?_toArray, List.getElem?_cons_succ, List.getElem?_cons_zero] <;> rfl) (by kernel_rfl) (by rfl) (by kernel_rfl) (fun K hK => ?_)
    go_simp
    have S := stT_mid rowAd hX 4 (by simp only [setL_len', rpC_len]; decide) (adC_len m1) (adC_one m1)
    go_simp
    refine hK _ _ ?_
    have hX2 := blk_cellsN (adC m1) 4 _ _ hX
    have hE2 := gb_heapAt (gb_cellsN (g := w.heap.size) (adC m1) 4 _) hE (by intro e; have := Option.some.inj e; omega)
    have hb2 := below_setC (B := w.heap.size) (b := w.heap.size) (Nat.le_refl _) (adC m1) 4 _ hbw
    clear hK K S hX hE hbw
    have hX := hX2
    have hE := hE2
    have hbw := hb2
    clear hX2 hE2 hb2
    try simp only [Act.put, List.setIfInBounds_toArray, List.set_cons_zero, List.set_cons_succ]
    refine wx_pure (i := 13) (d := some 16) (v := ?_) (by simp only [List.getElem?_toArray, List.getElem?_cons_succ, List.getElem?_cons_zero] <;> rfl) (by rfl) (by kernel_rfl) (by kernel_rfl) (by kernel_rfl) (fun _ _ _ h => h) (by rfl) ?_ ?_
    rotate_left
    · ((intro u); go_simp; try with_reducible rfl)
    try simp only [Act.put, List.setIfInBounds_toArray, List.set_cons_zero, List.set_cons_succ]
    refine wx_pure (i := 14) (d := some 17) (v := ?_) (by simp only [List.getElem?_toArray, List.getElem?_cons_succ, List.getElem?_cons_zero] <;> rfl) (by rfl) (by kernel_rfl) (by kernel_rfl) (by kernel_rfl) (fun _ _ _ h => h) (by rfl) ?_ ?_
    rotate_left
    · ((intro u); go_simp; try with_reducible rfl)
    try simp only [Act.put, List.setIfInBounds_toArray, List.set_cons_zero, List.set_cons_succ]
    refine wx_store (i := 15) (by simp only [List.getElem?_toArray, List.getElem?_cons_succ, List.getElem?_cons_zero] <;> rfl) (by kernel_rfl) (by rfl) (by kernel_rfl) (fun K hK => ?_)
    go_simp
    have S := stT_mid rowAd hX 7 (by simp only [setL_len', rpC_len]; decide) (adC_len m2) (adC_one m2)
    go_simp
    refine hK _ _ ?_
    have hX2 := blk_cellsN (adC m2) 7 _ _ hX
    have hE2 := gb_heapAt (gb_cellsN (g := w.heap.size) (adC m2) 7 _) hE (by intro e; have := Option.some.inj e; omega)
    have hb2 := below_setC (B := w.heap.size) (b := w.heap.size) (Nat.le_refl _) (adC m2) 7 _ hbw
    clear hK K S hX hE hbw
    have hX := hX2
    have hE := hE2
    have hbw := hb2
    clear hX2 hE2 hb2
    try simp only [Act.put, List.setIfInBounds_toArray, List.set_cons_zero, List.set_cons_succ]
    refine wx_done (by kernel_rfl) ?_ _
    rw [← hR.out] at hX
    clear H1 H2 hF
    have l9 := hX.ld rowRp (rpC_len fin)
    have S9 := stT_row rowRp hE rfl (rpC_len fin) (rpC_one fin)
    clear hX hR
    go_wp2_with fail
    refine bodyPost_ret (v := rpA fin) (results_cell_row rfl _ _ (w.heap.size + 1) _ _ (0, 0) _ rfl (setRow_heap _ (w.heap.size + 1) _ _ _ _ hE) Tryz.underlying56 rfl (by rw [rowRp.size]; rfl)) rfl ⟨rfl, ?_⟩
    exact below_row (p := w.heap.size + 1) hbw (by omega) _
  · go_simp
    have k0 := (hF.below hbw).cell (i := 0) (v := .func (.func 65) #[] #[.pointer (some ⟨p, 0, none⟩), .pointer (some ⟨q, 0, none⟩)]) rfl
    go_simp
    refine hK.out _ _ (gb_refl _ _) ?_
    clear hK K k0
    try simp only [Act.put, List.setIfInBounds_toArray, List.set_cons_zero, List.set_cons_succ]
    refine wx_one (i := 4) (by simp only [List.getElem?_toArray, List.getElem?_cons_succ, List.getElem?_cons_zero] <;> rfl) (by kernel_rfl) (by rfl) (fun K hK => ?_)
    go_simp
    refine (H1.out _ hbw).mono ?_
    rintro e wq4 ⟨rfl, hv1⟩
    refine hK.out _ _ (gbB hv1) ?_
    replace hX := hX.below hv1
    replace hE := hE.below hv1
    replace hbw := hbw.trans (hv1.mono hbw.size)
    clear hK K hv1
    try simp only [Act.put, List.setIfInBounds_toArray, List.set_cons_zero, List.set_cons_succ]
    refine wx_pure (i := 10) (d := some 14) (v := ?_) (by simp only [List.getElem?_toArray, List.getElem?_cons_succ, List.getElem?_cons_zero] <;> rfl) (by rfl) (by kernel_rfl) (by kernel_rfl) (by kernel_rfl) (fun _ _ _ h => h) (by rfl) ?_ ?_
    rotate_left
    · ((intro u); go_simp; try with_reducible rfl)
    try simp only [Act.put, List.setIfInBounds_toArray, List.set_cons_zero, List.set_cons_succ]
    refine wx_pure (i := 11) (d := some 15) (v := ?_) (by simp only [List.getElem?_toArray, List.getElem?_cons_succ, List.getElem?_cons_zero] <;> rfl) (by rfl) (by kernel_rfl) (by kernel_rfl) (by kernel_rfl) (fun _ _ _ h => h) (by rfl) ?_ ?_
    rotate_left
    · ((intro u); go_simp; try with_reducible rfl)
    try simp only [Act.put, List.setIfInBounds_toArray, List.set_cons_zero, List.set_cons_succ]
    refine wx_one (i := 9) (by simp only [List.getElem?_toArray, List.getElem?_cons_succ, List.getElem?_cons_zero] <;> rfl) (by kernel_rfl) (by rfl) (fun K hK => ?_)
    go_simp
    refine (H2.out _ hbw).mono ?_
    rintro e wq9 ⟨rfl, hv1⟩
    refine hK.out _ _ (gbB hv1) ?_
    replace hX := hX.below hv1
    replace hE := hE.below hv1
    replace hbw := hbw.trans (hv1.mono hbw.size)
    clear hK K hv1
    try simp only [Act.put, List.setIfInBounds_toArray, List.set_cons_zero, List.set_cons_succ]
    refine wx_store (i := 12) (by simp only [List.getElem?_toArray, List.getElem?_cons_succ, List.getElem?_cons_zero] <;> rfl) (by kernel_rfl) (by rfl) (by kernel_rfl) (fun K hK => ?_)
    go_simp
    have S := stT_mid rowAd hX 4 (by simp only [setL_len', rpC_len]; decide) (adC_len m1) (adC_one m1)
    go_simp
    refine hK _ _ ?_
    have hX2 := blk_cellsN (adC m1) 4 _ _ hX
    have hE2 := gb_heapAt (gb_cellsN (g := w.heap.size) (adC m1) 4 _) hE (by intro e; have := Option.some.inj e; omega)
    have hb2 := below_setC (B := w.heap.size) (b := w.heap.size) (Nat.le_refl _) (adC m1) 4 _ hbw
    clear hK K S hX hE hbw
    have hX := hX2
    have hE := hE2
    have hbw := hb2
    clear hX2 hE2 hb2
    try simp only [Act.put, List.setIfInBounds_toArray, List.set_cons_zero, List.set_cons_succ]
    refine wx_pure (i := 13) (d := some 16) (v := ?_) (by simp only [List.getElem?_toArray, List.getElem?_cons_succ, List.getElem?_cons_zero] <;> rfl) (by rfl) (by kernel_rfl) (by kernel_rfl) (by kernel_rfl) (fun _ _ _ h => h) (by rfl) ?_ ?_
    rotate_left
    · ((intro u); go_simp; try with_reducible rfl)
    try simp only [Act.put, List.setIfInBounds_toArray, List.set_cons_zero, List.set_cons_succ]
    refine wx_pure (i := 14) (d := some 17) (v := ?_) (by simp only [List.getElem?_toArray, List.getElem?_cons_succ, List.getElem?_cons_zero] <;> rfl) (by rfl) (by kernel_rfl) (by kernel_rfl) (by kernel_rfl) (fun _ _ _ h => h) (by rfl) ?_ ?_
    rotate_left
    · ((intro u); go_simp; try with_reducible rfl)
    try simp only [Act.put, List.setIfInBounds_toArray, List.set_cons_zero, List.set_cons_succ]
    refine wx_store (i := 15) (by simp only [List.getElem?_toArray, List.getElem?_cons_succ, List.getElem?_cons_zero] <;> rfl) (by kernel_rfl) (by rfl) (by kernel_rfl) (fun K hK => ?_)
    go_simp
    have S := stT_mid rowAd hX 7 (by simp only [setL_len', rpC_len]; decide) (adC_len m2) (adC_one m2)
    go_simp
    refine hK _ _ ?_
    have hX2 := blk_cellsN (adC m2) 7 _ _ hX
    have hE2 := gb_heapAt (gb_cellsN (g := w.heap.size) (adC m2) 7 _) hE (by intro e; have := Option.some.inj e; omega)
    have hb2 := below_setC (B := w.heap.size) (b := w.heap.size) (Nat.le_refl _) (adC m2) 7 _ hbw
    clear hK K S hX hE hbw
    have hX := hX2
    have hE := hE2
    have hbw := hb2
    clear hX2 hE2 hb2
    try simp only [Act.put, List.setIfInBounds_toArray, List.set_cons_zero, List.set_cons_succ]
    refine wx_done (by kernel_rfl) ?_ _
    rw [← hR.out] at hX
    clear H1 H2 hF
    have l9 := hX.ld rowRp (rpC_len fin)
    have S9 := stT_row rowRp hE rfl (rpC_len fin) (rpC_one fin)
    clear hX hR
    go_wp2_with fail
    refine bodyPost_ret (v := rpA fin) (results_cell_row rfl _ _ (w.heap.size + 1) _ _ (0, 0) _ rfl (setRow_heap _ (w.heap.size + 1) _ _ _ _ hE) Tryz.underlying56 rfl (by rw [rowRp.size]; rfl)) rfl ⟨rfl, ?_⟩
    exact below_row (p := w.heap.size + 1) hbw (by omega) _

set_option maxHeartbeats 4000000 in
set_option maxRecDepth 100000 in
theorem mapHide_any (fb : Nat) (f : Rp → Rp) (A : Option Addr) (n cap : Nat) (zs : List Rp) (w : World) (HF : ∀ x ∈ zs, ∀ W, Below w.heap.size w W → Calls Tryz.prog 67 #[rpA x, .pointer (some ⟨fb, 0, none⟩)] W (GivesV (rpA (f x)) W)) (hS : SlE eRp w A n cap zs) (hn : n ≤ 3000) :
    Calls Tryz.prog 113 #[.slice A n cap, .func (.func 67) #[] #[.pointer (some ⟨fb, 0, none⟩)]] w fun e w' => (∃ A' cap', e = .returned (.slice A' n cap') ∧ OwnE eRp 56 w.heap.size w' (.slice A' n cap') (zs.map f)) ∧ Below w.heap.size w w' := by
  obtain ⟨i0, hi0, hz0, hz1, hz2⟩ := info_parts infoRp
  have hl := Lib.hid hS.1
  replace HF := Lib.hid HF
  replace hS := Lib.hid hS
  go_enter Tryz.func113, Tryz.ntmps113
  go_wp2_with (at_make; refine wpList_make_own _ rfl _ _ 49 rfl w.heap.size 56 i0 zRp 14 Tryz.underlying49 hi0 hz0 hz1 .i64 .i64 _ n rfl rfl rfl ?c1 ?c2 (Nat.le_refl _) ?_)
  case c1 => rw [hz2]; omega
  case c2 => unfold maxLen; omega
  intro w1 hown hg1
  have hbw : Below w.heap.size w w1 := (Below.refl _ _).grown hg1 (Nat.le_refl _) (fun k h => by cases h)
  replace hown : OwnE eRp 56 w.heap.size w1 (.slice (some ⟨w.heap.size, 0, none⟩) 0 n) [] := hown
  clear hg1
  go_wp2_with fail
  go_loopw [5, 13] (fun vo vi wr => ∃ k : Nat, k ≤ n ∧ vi = .int .i64 k ∧ OwnE eRp 56 w.heap.size wr vo ((zs.take k).map f) ∧ Below w.heap.size w wr) (fun _ vi _ => n - (intOf vi).toNat)
  case atStart => exact ⟨0, Nat.zero_le _, rfl, hown, hbw⟩
  case round =>
    clear hown hbw
    obtain ⟨k, hk, rfl, hown, hbw⟩ := hrel
    by_cases hlt : k < n
    · obtain ⟨z, hzk⟩ : ∃ z, zs[k]? = some z := ⟨zs[k]'(by have := hl.out; omega), List.getElem?_eq_getElem _⟩
      obtain ⟨g, off, hA, hS2⟩ : ∃ g off, A = some ⟨g, off, none⟩ ∧ SlE eRp wr (some ⟨g, off, none⟩) n cap zs := by
        have h := hS.out.below hbw
        rcases h.2.2.2 with h0 | ⟨g, off, hA, _⟩
        · omega
        · exact ⟨g, off, hA, hA ▸ h⟩
      subst hA
      have l1 : (ldT 56 (.pointer (some ⟨g, off + k * 14, none⟩))).run Tryz.prog wr = .ok (.value (rpA z)) wr := hS2.ld rowRp hzk
      have hcap := hS2.2.1
      have hlt' : (k : Int) < n := by omega
      have S4 : (stT 56 (.pointer (some ⟨wr.heap.size, 0, none⟩)) (rpA z)).run Tryz.prog (wr.alloc (.cells #[.string ⟨#[]⟩, .int .i64 0, .bool false, .int .i64 0, .bool false, .int .u64 0, .int .u64 0, .bool false, .int .u64 0, .int .u64 0, .int .i64 0, .int .i64 0, .int .i64 0, .int .i64 0] 56)) = .ok .skip (wr.alloc (.cells (rpC z).toArray 56)) :=
        stT_new rowRp wr wr.heap.size rfl zRpC (rpC z) rfl (rpC_len z) (rpC_one z)
      have hbs := hbw.size
      have hbA : Below w.heap.size w (wr.alloc (.cells (rpC z).toArray 56)) := hbw.alloc hbs _
      have hQ := (Blk.new wr (rpC z) 56).ld rowRp (rpC_len z)
      have HD1 := Lib.hid (HF.out z (List.mem_of_getElem? hzk) _ hbA)
      have hownA := hown.below ((Below.refl _ _).alloc (Nat.le_refl _) (.cells (rpC z).toArray 56))
      have hstep := Lib.hid (show (zs.take (k + 1)).map f = (zs.take k).map f ++ [f z] by rw [List.take_add_one, hzk, List.map_append]; rfl)
      have hpl := Lib.hid (show ((zs.take k).map f).length = k by rw [List.length_map, List.length_take]; have := hl.out; omega)
      generalize (zs.take k).map f = pre at *
      generalize f z = d at *
      clear hzk hS2 hown
      go_wp2_with fail
      refine HD1.out.mono ?_
      rintro e w2 ⟨rfl, hb2⟩
      have hbw2 := hbA.trans (hb2.mono hbA.size)
      have hown2 := hownA.below hb2
      have hbs2 := hbw2.size
      clear HD1 hb2 hbA hownA l1 S4 hQ hbw hbs
      go_wp2_with (at_builtin; refine wpList_app tyeRp rfl _ _ rfl w.heap.size _ pre [d] rfl (hown2.below ((Below.refl _ _).alloc (Nat.le_refl _) _)) ⟨_, 0, none⟩ 1 1 rfl rfl ?d1 ?d2 ?d3 ?_)
      case d1 => exact cell_row_at _ _ _ _ rfl
      case d2 => have := hpl.out; simp only [List.length_singleton]; omega
      case d3 => simp; omega
      intro v' w3 hown3 hg3 hd3
      have hb3 : Below w.heap.size w w3 := (hbw2.alloc hbs2 _).grown hg3 (by simp; omega) (fun k h => (hown2.lt k h).1)
      clear hg3 hd3 hown2 hbw2
      replace hown3 := Lib.hid hown3
      replace hb3 := Lib.hid hb3
      go_wp2_with fail
      go_roundw
      case rel => exact ⟨k + 1, by omega, by go_num, by rw [hstep.out]; exact hown3.out, hb3.out⟩
      case measure => simp [intOf]; omega
    · have hkn : k = n := by omega
      subst hkn
      rw [hl.out, List.take_length] at hown
      have hln := Lib.hid (show (zs.map f).length = k by rw [List.length_map]; exact hl.out.symm)
      obtain ⟨A', cap', hv, _⟩ := hown.sl
      rw [hln.out] at hv
      subst hv
      replace hown := Lib.hid hown
      go_wp2_with fail
      go_ret
      exact ⟨⟨A', cap', rfl, hown.out⟩, hbw⟩
end Go.Proofs.YtfiocnjogbpgoaaGreatDoor
