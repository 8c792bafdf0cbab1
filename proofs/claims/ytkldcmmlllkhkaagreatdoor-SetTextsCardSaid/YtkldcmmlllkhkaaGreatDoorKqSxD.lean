/- strings.Builder: copyCheck and WriteString as this program has them. -/
import Derived.Test.YtkldcmmlllkhkaaGreatDoorKqPtB
import Derived.Test.YtkldcmmlllkhkaaGreatDoorKqStD
import Derived.Test.YtkldcmmlllkhkaaGreatDoorKqStX
import Derived.Test.YtkldcmmlllkhkaaGreatDoorKqStG
import Derived.Test.YtkldcmmlllkhkaaGreatDoorKqStO
import Derived.Test.YtkldcmmlllkhkaaGreatDoorKqShelf
import Derived.Shelf.Strings.Builder1
set_option linter.unusedVariables false
set_option linter.unusedSimpArgs false
set_option maxRecDepth 100000
namespace Go.Proofs.YtkldcmmlllkhkaaGreatDoor
open Go.RowKit

def pfxP (p : Pf) : List UInt8 := pfxText p.1.s p.1.hi p.1.lo p.2
def setTxt (ps : List Pf) : List UInt8 := ps.flatMap fun p => pfxP p ++ [10]
theorem setTxt_app (ps : List Pf) (p : Pf) : setTxt (ps ++ [p]) = setTxt ps ++ (pfxP p ++ [10]) := by
  unfold setTxt
  rw [List.flatMap_append, List.flatMap_singleton]
theorem setTxt_next {ps : List Pf} {k : Nat} {p : Pf} (hp : ps[k]? = some p) : setTxt (ps.take (k + 1)) = setTxt (ps.take k) ++ (pfxP p ++ [10]) := by
  have h : ps.take (k + 1) = ps.take k ++ [p] := by rw [List.take_add_one, hp]; rfl
  rw [h, setTxt_app]
theorem setTxt_len {m : Nat} : ∀ ps : List Pf, (∀ p ∈ ps, (pfxP p).length ≤ m) → (setTxt ps).length ≤ ps.length * (m + 1)
  | [], _ => by show (0 : Nat) ≤ _; exact Nat.zero_le _
  | p :: r, h => by
    have h1 := setTxt_len r fun q hq => h q (List.mem_cons_of_mem _ hq)
    have h2 := h p List.mem_cons_self
    show ((pfxP p ++ [10]) ++ setTxt r).length ≤ _
    rw [List.length_append, List.length_append, List.length_cons, List.length_cons, List.length_nil, Nat.succ_mul]
    omega
def prePf (l : List UInt8) : Option Pf := (prefixL l).map fun x => (⟨x.1, (x.2.1 : Int), (x.2.2.1 : Int)⟩, (x.2.2.2 : Int))
def prePfD (l : List UInt8) : Pf := (prePf l).getD (⟨false, 0, 0⟩, 0)
theorem pfEP_pre (l : List UInt8) : pfEP (prefixL l) = .tuple #[pfA (prePfD l), .int .i64 (if (prePf l).isSome then 0 else 9)] := by
  unfold prePfD prePf
  cases h : prefixL l with
  | none => rfl
  | some x => obtain ⟨s, a, b, c⟩ := x; rfl
def rdL : Nat → List UInt8 → Nat → List Pf → Option (List Pf) × Nat
  | 0, _, n, _ => (none, n)
  | k + 1, l, n, out => if l = [] then (some out, 0) else if (Lib.cut l [10]).2.2 = true ∧ (prePf (Lib.cut l [10]).1).isSome = true then rdL k (Lib.cut l [10]).2.1 (n + 1) (out ++ [prePfD (Lib.cut l [10]).1]) else (none, n)
theorem rdL_end (k n : Nat) (out : List Pf) : rdL (k + 1) [] n out = (some out, 0) := by unfold rdL; rw [if_pos rfl]
theorem rdL_good {k : Nat} {l : List UInt8} (h0 : l ≠ []) (h1 : (Lib.cut l [10]).2.2 = true) (h2 : (prePf (Lib.cut l [10]).1).isSome = true) (n : Nat) (out : List Pf) : rdL (k + 1) l n out = rdL k (Lib.cut l [10]).2.1 (n + 1) (out ++ [prePfD (Lib.cut l [10]).1]) := by
  rw [rdL, if_neg h0, if_pos ⟨h1, h2⟩]
theorem rdL_bad {k : Nat} {l : List UInt8} (h0 : l ≠ []) (h : (Lib.cut l [10]).2.2 = false ∨ (prePf (Lib.cut l [10]).1).isSome = false) (n : Nat) (out : List Pf) : rdL (k + 1) l n out = (none, n) := by
  rw [rdL, if_neg h0, if_neg]
  rintro ⟨h1, h2⟩
  rcases h with h | h
  · rw [h] at h1; cases h1
  · rw [h] at h2; cases h2
theorem cutL_len (l : List UInt8) : (Lib.cut l [10]).1.length ≤ l.length ∧ (Lib.cut l [10]).2.1.length ≤ l.length ∧ (l ≠ [] → (Lib.cut l [10]).2.1.length < l.length) := by
  have hne : l ≠ [] → 0 < l.length := fun h => by cases l with | nil => exact absurd rfl h | cons a r => simp
  unfold Lib.cut
  split
  · refine ⟨by rw [List.length_take]; exact Nat.min_le_right _ _, by rw [List.length_drop]; exact Nat.sub_le _ _, fun h => ?_⟩
    have := hne h
    show (l.drop ((Lib.index l [10]).toNat + 1)).length < l.length
    rw [List.length_drop]
    omega
  · exact ⟨Nat.le_refl _, Nat.zero_le _, fun h => hne h⟩
theorem prePf_R {l : List UInt8} {p : Pf} (h : prePf l = some p) : p.R := by
  unfold prePf at h
  cases hx : prefixL l with
  | none => rw [hx] at h; cases h
  | some x =>
    obtain ⟨s, a, b, c⟩ := x
    rw [hx] at h
    have h' : ((⟨s, (a : Int), (b : Int)⟩, (c : Int)) : Pf) = p := Option.some.inj h
    subst h'
    unfold prefixL at hx
    split at hx
    · rename_i s' h1 lo1 e
      split at hx
      · rename_i n1 k
        split at hx
        · rename_i hp
          obtain ⟨g1, g2⟩ := parseL_lt e
          injection hx with hx
          injection hx with e1 hx
          injection hx with e2 hx
          injection hx with e3 e4
          subst e1 e2 e3 e4
          have hU : Ad.U ⟨s', (h1 : Int), (lo1 : Int)⟩ := by
            refine ⟨⟨?_, ?_⟩, ?_, ?_⟩
            · show (0 : Int) ≤ (h1 : Int); omega
            · show (h1 : Int) < 18446744073709551616; omega
            · show (0 : Int) ≤ (lo1 : Int); omega
            · show (lo1 : Int) < 18446744073709551616; omega
          exact (pfE_iff (p := (⟨s', (h1 : Int), (lo1 : Int)⟩, (n1 : Int))) hU).1 hp
        · cases hx
      · cases hx
    · cases hx
theorem prePfD_R {l : List UInt8} (h : (prePf l).isSome = true) : (prePfD l).R := by
  unfold prePfD
  cases hp : prePf l with
  | none => rw [hp] at h; cases h
  | some p => exact prePf_R hp
theorem prePf_nil : (prePf []).isSome = false := by decide +kernel
theorem cutL_two {l : List UInt8} (h1 : (Lib.cut l [10]).2.2 = true) (h2 : (Lib.cut l [10]).1 ≠ []) : (Lib.cut l [10]).2.1.length + 2 ≤ l.length := by
  unfold Lib.cut at h1 h2 ⊢
  split at h1
  · rename_i h0
    rw [if_pos h0] at h2 ⊢
    have hr := Lib.index_room l [10] h0
    have hi : (Lib.index l [10]).toNat ≠ 0 := fun e => h2 (by show l.take (Lib.index l [10]).toNat = []; rw [e]; rfl)
    show (l.drop ((Lib.index l [10]).toNat + 1)).length + 2 ≤ l.length
    rw [List.length_drop]
    simp only [List.length_singleton] at hr
    omega
  · cases h1
theorem rdL_R : ∀ (k : Nat) (l : List UInt8) (n : Nat) (out ps : List Pf) (j : Nat), (∀ p ∈ out, p.R) → rdL k l n out = (some ps, j) → (∀ p ∈ ps, p.R) ∧ 2 * ps.length ≤ 2 * out.length + l.length ∧ j = 0
  | 0, l, n, out, ps, j, _, h => by cases h
  | k + 1, l, n, out, ps, j, hO, h => by
    unfold rdL at h
    split at h
    · injection h with h1 h2
      injection h1 with h1
      subst h1
      exact ⟨hO, Nat.le_add_right _ _, h2.symm⟩
    · rename_i h0
      split at h
      · rename_i hc
        obtain ⟨h1, h2, h3⟩ := rdL_R k _ _ _ ps j (fun p hp => by
          rcases List.mem_append.1 hp with hp | hp
          · exact hO p hp
          · rw [List.mem_singleton.1 hp]; exact prePfD_R hc.2) h
        have hne : (Lib.cut l [10]).1 ≠ [] := fun e => by
          have h4 := hc.2
          rw [e, prePf_nil] at h4
          cases h4
        have := cutL_two hc.1 hne
        rw [List.length_append, List.length_singleton] at h2
        exact ⟨h1, by omega, h3⟩
      · cases h

theorem cut10_any (l : List UInt8) (w : World) (hC : Cons w) (hl : l.length ≤ 100000) :
    Calls Tryz.prog 56 #[.string ⟨l.toArray⟩, .string ⟨#[10]⟩] w (GivesV (.tuple #[.string ⟨(Lib.cut l [10]).1.toArray⟩, .string ⟨(Lib.cut l [10]).2.1.toArray⟩, .bool (Lib.cut l [10]).2.2]) w) := by
  obtain ⟨m, hm⟩ := hC.maxl
  refine (Tryz.strings_Cut ⟨l.toArray⟩ ⟨#[10]⟩ m w (by rw [Lib.size_eq]; exact Nat.lt_of_le_of_lt hl (by decide)) hm).mono ?_
  rintro e w' ⟨rfl, n, rfl⟩
  exact ⟨rfl, below_drewN (Below.refl _ _) n⟩
structure RdS (B q : Nat) (out : List Pf) (w : World) : Prop where
  own : ∃ v, Blk w q [v] 26 ∧ OwnE ePf 41 B w v out
  lt : q < B
theorem RdS.below {B q : Nat} {out : List Pf} {w w' : World} (h : RdS B q out w) (hb : Below w.heap.size w w') : RdS B q out w' := by
  obtain ⟨⟨v, h1, h2⟩, h3⟩ := h
  exact ⟨⟨v, h1.below hb, h2.below hb⟩, h3⟩
theorem own_setQ {α : Type} {E : Enc α} {t : TypeId} {B q i : Nat} {w : World} {v : Value} {xs : List α} (h : OwnE E t B w v xs) (hq : q < B) (x : Value) : OwnE E t B (w.setCell ⟨q, i, none⟩ x) v xs := ownsRow_setCell_below h (a := ⟨q, i, none⟩) hq x
def TkQ (B q b0 : Nat) (l : List UInt8) (out : List Pf) (w : World) (e : Ending) (w' : World) : Prop := e = .returned (.bool (prePf l).isSome) ∧ RdS B q (out ++ [prePfD l]) w' ∧ Below b0 w w'
theorem parse_pre (l : List UInt8) (w : World) (hC : Cons w) (hl : l.length ≤ 100000) : Calls Tryz.prog 27 #[.string ⟨l.toArray⟩] w (GivesV (.tuple #[pfA (prePfD l), .int .i64 (if (prePf l).isSome then 0 else 9)]) w) := by
  rw [← pfEP_pre]; exact parsePrefix_any l w hC hl
theorem refParse_pre (l : List UInt8) (w : World) (hC : Cons w) (hl : l.length ≤ 100000) : Calls Tryz.prog 31 #[.string ⟨l.toArray⟩] w (GivesV (.tuple #[pfA (prePfD l), .int .i64 (if (prePf l).isSome then 0 else 9)]) w) := by
  rw [← pfEP_pre]; exact prefixParseR_any l w hC hl

set_option maxHeartbeats 2000000 in
theorem readSet1_any (l : List UInt8) (w : World) (hC : Cons w) (hl : l.length ≤ 100000) :
    Calls Tryz.prog 26 #[.string ⟨l.toArray⟩] w (GivesV (.tuple #[pfA (prePfD l), .bool (prePf l).isSome]) w) := by
  have hZ := Blk.new w [.bool false, .int .u64 0, .int .u64 0, .int .i64 0] 41
  have hb0 : Below w.heap.size w (w.alloc (.cells #[.bool false, .int .u64 0, .int .u64 0, .int .i64 0] 41)) := (Below.refl _ _).alloc (Nat.le_refl _) _
  have HP := Lib.hid (parse_pre l _ (hC.alloc (.cells #[.bool false, .int .u64 0, .int .u64 0, .int .i64 0] 41)) hl)
  clear hC
  obtain ⟨p, hp⟩ : ∃ p, p = prePfD l := ⟨_, rfl⟩
  obtain ⟨ok, hok⟩ : ∃ ok, ok = (prePf l).isSome := ⟨_, rfl⟩
  rw [← hp, ← hok] at HP ⊢
  clear hp hok
  obtain ⟨E, hE⟩ : ∃ E : Int, E = if ok = true then 0 else 9 := ⟨_, rfl⟩
  rw [← hE] at HP
  replace hE := Lib.hid hE
  go_enter Tryz.func26, Tryz.ntmps26
  go_wp2_with fail
  refine HP.out.mono ?_
  rintro e w1 ⟨rfl, hv1⟩
  replace hZ := hZ.below hv1
  replace hb0 := hb0.trans (hv1.mono hb0.size)
  clear hv1 HP
  have S1 := stT_new rowPf (te := 41) w1 w1.heap.size rfl [.bool false, .int .u64 0, .int .u64 0, .int .i64 0] (pfC p) rfl rfl (pfC_one p)
  have hP := Blk.new w1 (pfC p) 41
  replace hZ := hZ.alloc (.cells (pfC p).toArray 41)
  replace hb0 := hb0.alloc hb0.size (.cells (pfC p).toArray 41)
  go_upto_region 2 with fail
  clear S1
  generalize w1.alloc (.cells (pfC p).toArray 41) = w2 at *
  generalize w1.heap.size = g at *
  have k1 := hP.ldAt rowPf 0 (pfC p) [] rfl rfl
  have S8 := stT_row rowPf hZ rfl (pfC_len p) (pfC_one p)
  replace hZ := hZ.row (pfC p)
  replace hb0 := below_row hb0 (Nat.le_refl _) (pfC p).toArray
  have e1 : (E == 0) = ok := by rw [hE.out]; cases ok <;> rfl
  cases ok with
  | true =>
    go_wp2_with fail
    (try simp only [Exit.inBlock, Exit.then])
    refine bodyPost_ret (v := .tuple #[pfA p, .bool true]) (results_cell_tmp_row rowPf rfl _ _ w.heap.size _ _ _ rfl rfl hZ rfl) rfl ?_
    exact ⟨rfl, hb0⟩
  | false =>
    go_wp2_with fail
    (try simp only [Exit.inBlock, Exit.then])
    refine bodyPost_ret (v := .tuple #[pfA p, .bool false]) (results_cell_tmp_row rowPf rfl _ _ w.heap.size _ _ _ rfl rfl hZ rfl) rfl ?_
    exact ⟨rfl, hb0⟩

set_option maxHeartbeats 2000000 in
theorem takeR_any (B q b0 : Nat) (l : List UInt8) (out : List Pf) (w : World) (hC : Cons w) (hl : l.length ≤ 100000) (hS : RdS B q out w) (hq : b0 ≤ q) (hB0 : B ≤ w.heap.size) (hlo : out.length ≤ 100000) :
    Calls Tryz.prog 30 #[.string ⟨l.toArray⟩, .pointer (some ⟨q, 0, none⟩)] w (TkQ B q b0 l out w) := by
  obtain ⟨⟨v, hB, hown⟩, hlt⟩ := hS
  have hql := hB.lt
  have HP := Lib.hid (refParse_pre l w hC hl)
  clear hC
  unfold TkQ
  obtain ⟨p, hp⟩ : ∃ p, p = prePfD l := ⟨_, rfl⟩
  obtain ⟨ok, hok⟩ : ∃ ok, ok = (prePf l).isSome := ⟨_, rfl⟩
  rw [← hp, ← hok] at HP ⊢
  clear hp hok
  obtain ⟨E, hE⟩ : ∃ E : Int, E = if ok = true then 0 else 9 := ⟨_, rfl⟩
  rw [← hE] at HP
  replace hE := Lib.hid hE
  obtain ⟨A, cap, rfl, hS⟩ := hown.sl
  obtain ⟨n, hn⟩ : ∃ n, n = out.length := ⟨_, rfl⟩
  rw [← hn] at hB hown
  replace hn := Lib.hid hn
  clear hS
  go_enter Tryz.func30, Tryz.ntmps30
  go_wp2_with fail
  refine HP.out.mono ?_
  rintro e w1 ⟨rfl, hv1⟩
  replace hB := hB.below hv1
  replace hown := hown.below hv1
  have hb1 : Below b0 w w1 := hv1.mono (by omega)
  have hB1 : B ≤ w1.heap.size := Nat.le_trans hB0 hv1.size
  clear hv1 HP
  have S1 := stT_new rowPf (te := 41) w1 w1.heap.size rfl [.bool false, .int .u64 0, .int .u64 0, .int .i64 0] (pfC p) rfl rfl (pfC_one p)
  have hP := Blk.new w1 (pfC p) 41
  replace hB := hB.alloc (.cells (pfC p).toArray 41)
  replace hown := hown.alloc' (.cells (pfC p).toArray 41)
  replace hb1 := hb1.alloc (by omega) (.cells (pfC p).toArray 41)
  have hB2 : B ≤ (w1.alloc (.cells (pfC p).toArray 41)).heap.size := by simp; omega
  go_upto_region 2 with fail
  clear S1
  generalize w1.alloc (.cells (pfC p).toArray 41) = w2 at *
  generalize w1.heap.size = g at *
  have c1 := hB.cell (i := 0) (v := .slice A n cap) rfl
  have k1 := hP.ldAt rowPf 0 (pfC p) [] rfl rfl
  have hs2 := run_bsPf p w2
  have hql2 := hB.lt
  go_wp2_with (at_builtin; refine wpList_app tyePf rfl _ _ rfl B _ _ [p] rfl (hown.alloc' _) ⟨_, 0, none⟩ 1 1 rfl rfl ?c1 ?c2 ?c3 ?_)
  case c1 => exact cell_row_at _ _ _ _ rfl
  case c2 => simp only [List.length_singleton]; omega
  case c3 => simp; omega
  intro v3 w3 hown3 hg3 hk3
  have hB3 : Blk w3 q [.slice A n cap] 26 := (hg3.block q (by simp; omega) (by first | (intro e; have := (hown.lt q e).1; omega) | (intro e; have := (hown.lt q e.symm).1; omega))).trans (hB.alloc _)
  have hb3 := (hb1.alloc (by omega) (.cells (pfC p).toArray 41)).grown hg3 (by simp; omega) (fun k h => by have := (hown.lt k h).1; omega)
  obtain ⟨g3, c3, rfl, _⟩ := hown3.form (by simp)
  have hown4 := own_setQ (i := 0) hown3 hlt (.slice (some ⟨g3, 0, none⟩) (out ++ [p]).length c3)
  have hB4 := hB3.set 0 (.slice (some ⟨g3, 0, none⟩) (out ++ [p]).length c3)
  have hb4 := hb3.setCell (p := ⟨q, 0, none⟩) hq (.slice (some ⟨g3, 0, none⟩) (out ++ [p]).length c3)
  have c2 := hB3.cell (i := 0) (v := .slice A n cap) rfl
  have f2 := hB3.free 0
  obtain ⟨m, hm⟩ : ∃ m, m = (out ++ [p]).length := ⟨_, rfl⟩
  rw [← hm] at hown4 hB4 hb4 ⊢
  replace hown4 := Lib.hid hown4
  replace hB4 := Lib.hid hB4
  replace hb4 := Lib.hid hb4
  clear hB hown hown3 hg3 hk3 hB3 hb3 hb1 hm hP c1 k1 hs2
  have e1 : (E == 0) = ok := by rw [hE.out]; cases ok <;> rfl
  cases ok with
  | true =>
    go_wp2_with fail
    go_ret
    exact ⟨rfl, ⟨⟨_, hB4.out, hown4.out⟩, hlt⟩, hb4.out⟩
  | false =>
    go_wp2_with fail
    go_ret
    exact ⟨rfl, ⟨⟨_, hB4.out, hown4.out⟩, hlt⟩, hb4.out⟩

def TkA (B c q b0 : Nat) (l : List UInt8) (out : List Pf) (w : World) (e : Ending) (w' : World) : Prop := TkQ B q b0 l out w e w' ∧ Blk w' c [.func (.func 26) #[] #[]] 56
set_option maxHeartbeats 2000000 in
theorem takeA_any (B c q b0 : Nat) (l : List UInt8) (out : List Pf) (w : World) (hC : Cons w) (hl : l.length ≤ 100000) (hS : RdS B q out w) (hq : b0 ≤ q) (hB0 : B ≤ w.heap.size) (hlo : out.length ≤ 100000) (hF : Blk w c [.func (.func 26) #[] #[]] 56) (hcB : c < B) (hcq : c ≠ q) :
    Calls Tryz.prog 60 #[.string ⟨l.toArray⟩, .pointer (some ⟨c, 0, none⟩), .pointer (some ⟨q, 0, none⟩)] w (TkA B c q b0 l out w) := by
  obtain ⟨⟨v, hB, hown⟩, hlt⟩ := hS
  have hql := hB.lt
  have HP := Lib.hid (readSet1_any l w hC hl)
  clear hC
  unfold TkA TkQ
  obtain ⟨p, hp⟩ : ∃ p, p = prePfD l := ⟨_, rfl⟩
  obtain ⟨ok, hok⟩ : ∃ ok, ok = (prePf l).isSome := ⟨_, rfl⟩
  rw [← hp, ← hok] at HP ⊢
  clear hp hok
  have c0 := hF.cell (i := 0) (v := .func (.func 26) #[] #[]) rfl
  obtain ⟨A, cap, rfl, hS⟩ := hown.sl
  obtain ⟨n, hn⟩ : ∃ n, n = out.length := ⟨_, rfl⟩
  rw [← hn] at hB hown
  replace hn := Lib.hid hn
  clear hS
  go_enter Tryz.func60, Tryz.ntmps60
  go_wp2_with fail
  refine HP.out.mono ?_
  rintro e w1 ⟨rfl, hv1⟩
  replace hB := hB.below hv1
  replace hF := hF.below hv1
  replace hown := hown.below hv1
  have hb1 : Below b0 w w1 := hv1.mono (by omega)
  have hB1 : B ≤ w1.heap.size := Nat.le_trans hB0 hv1.size
  clear hv1 HP
  have S1 := stT_new rowPf (te := 41) w1 w1.heap.size rfl [.bool false, .int .u64 0, .int .u64 0, .int .i64 0] (pfC p) rfl rfl (pfC_one p)
  have hP := Blk.new w1 (pfC p) 41
  replace hF := hF.alloc (.cells (pfC p).toArray 41)
  replace hB := hB.alloc (.cells (pfC p).toArray 41)
  replace hown := hown.alloc' (.cells (pfC p).toArray 41)
  replace hb1 := hb1.alloc (by omega) (.cells (pfC p).toArray 41)
  have hB2 : B ≤ (w1.alloc (.cells (pfC p).toArray 41)).heap.size := by simp; omega
  go_upto_region 2 with fail
  clear S1
  generalize w1.alloc (.cells (pfC p).toArray 41) = w2 at *
  generalize w1.heap.size = g at *
  have c1 := hB.cell (i := 0) (v := .slice A n cap) rfl
  have k1 := hP.ldAt rowPf 0 (pfC p) [] rfl rfl
  have hs2 := run_bsPf p w2
  have hql2 := hB.lt
  go_wp2_with (at_builtin; refine wpList_app tyePf rfl _ _ rfl B _ _ [p] rfl (hown.alloc' _) ⟨_, 0, none⟩ 1 1 rfl rfl ?c1 ?c2 ?c3 ?_)
  case c1 => exact cell_row_at _ _ _ _ rfl
  case c2 => simp only [List.length_singleton]; omega
  case c3 => simp; omega
  intro v3 w3 hown3 hg3 hk3
  have hB3 : Blk w3 q [.slice A n cap] 26 := (hg3.block q (by simp; omega) (by first | (intro e; have := (hown.lt q e).1; omega) | (intro e; have := (hown.lt q e.symm).1; omega))).trans (hB.alloc _)
  have hF3 : Blk w3 c [.func (.func 26) #[] #[]] 56 := (hg3.block c (by have := hF.lt; simp; omega) (by first | (intro e; have := (hown.lt c e).1; omega) | (intro e; have := (hown.lt c e.symm).1; omega))).trans (hF.alloc _)
  have hb3 := (hb1.alloc (by omega) (.cells (pfC p).toArray 41)).grown hg3 (by simp; omega) (fun k h => by have := (hown.lt k h).1; omega)
  obtain ⟨g3, c3, rfl, _⟩ := hown3.form (by simp)
  have hown4 := own_setQ (i := 0) hown3 hlt (.slice (some ⟨g3, 0, none⟩) (out ++ [p]).length c3)
  have hF4 := Lib.hid (show Blk (w3.setCell ⟨q, 0, none⟩ (.slice (some ⟨g3, 0, none⟩) (out ++ [p]).length c3)) c [.func (.func 26) #[] #[]] 56 from hF3.other (a := ⟨q, 0, none⟩) hcq _)
  have hB4 := hB3.set 0 (.slice (some ⟨g3, 0, none⟩) (out ++ [p]).length c3)
  have hb4 := hb3.setCell (p := ⟨q, 0, none⟩) hq (.slice (some ⟨g3, 0, none⟩) (out ++ [p]).length c3)
  have c2 := hB3.cell (i := 0) (v := .slice A n cap) rfl
  have f2 := hB3.free 0
  obtain ⟨m, hm⟩ : ∃ m, m = (out ++ [p]).length := ⟨_, rfl⟩
  rw [← hm] at hown4 hB4 hb4 hF4 ⊢
  replace hown4 := Lib.hid hown4
  replace hB4 := Lib.hid hB4
  replace hb4 := Lib.hid hb4
  clear hF hF3 c0 hB hown hown3 hg3 hk3 hB3 hb3 hb1 hm hP c1 k1 hs2
  cases ok with
  | true =>
    go_wp2_with fail
    go_ret
    exact ⟨⟨rfl, ⟨⟨_, hB4.out, hown4.out⟩, hlt⟩, hb4.out⟩, hF4.out⟩
  | false =>
    go_wp2_with fail
    go_ret
    exact ⟨⟨rfl, ⟨⟨_, hB4.out, hown4.out⟩, hlt⟩, hb4.out⟩, hF4.out⟩

def RlQE (B q b0 : Nat) (r : Option (List Pf) × Nat) (w : World) (e : Ending) (w' : World) : Prop := ∃ (j : Nat) (E : Int), e = .returned (.tuple #[.int .i64 j, .int .i64 E]) ∧ ((∃ ps, r = (some ps, 0) ∧ j = 0 ∧ E = 0 ∧ RdS B q ps w') ∨ (r = (none, j) ∧ E = 9)) ∧ Below b0 w w'
def RlQB (B q b0 : Nat) (r : Option (List Pf) × Nat) (w : World) (e : Ending) (w' : World) : Prop := ∃ (j : Nat) (ok : Bool), e = .returned (.tuple #[.int .i64 j, .bool ok]) ∧ ((∃ ps, r = (some ps, 0) ∧ j = 0 ∧ ok = true ∧ RdS B q ps w') ∨ (r = (none, j) ∧ ok = false)) ∧ Below b0 w w'

set_option maxHeartbeats 4000000 in
theorem readLines_any (B q b0 : Nat) (l : List UInt8) (w : World) (HC : ∀ W, Below b0 w W → Cons W) (hl : l.length ≤ 2000) (hS : RdS B q [] w) (hq : b0 ≤ q) (hB0 : B ≤ w.heap.size) (c : Nat) (hF : Blk w c [.func (.func 26) #[] #[]] 56) (hcB : c < B) (hcq : c ≠ q) :
    Calls Tryz.prog 59 #[.string ⟨l.toArray⟩, .func (.func 60) #[] #[.pointer (some ⟨c, 0, none⟩), .pointer (some ⟨q, 0, none⟩)]] w (RlQE B q b0 (rdL (l.length + 1) l 0 []) w) := by
  obtain ⟨R, hR⟩ : ∃ R, R = rdL (l.length + 1) l 0 [] := ⟨_, rfl⟩
  rw [← hR]
  obtain ⟨N, hN⟩ : ∃ N, N = l.length := ⟨_, rfl⟩
  have hNl : N ≤ 2000 := by omega
  have hI0 := Lib.hid (show rdL (N + 1) l 0 [] = R ∧ l.length < N + 1 ∧ (List.length ([] : List Pf)) + l.length ≤ N ∧ 0 + l.length ≤ N by rw [hR, hN]; exact ⟨rfl, by omega, by simp, by omega⟩)
  have hl2 : ¬ (200000 : Int) < (l.length : Int) := by omega
  replace HC := Lib.hid HC
  have hqB := hS.lt
  clear hR hN hl
  go_enter Tryz.func59, Tryz.ntmps59
  go_wp2_with fail
  clear hl2
  go_loopw [0, 6] (fun v0 v6 wr => ∃ (k n : Nat) (l' : List UInt8) (out : List Pf), v0 = .string ⟨l'.toArray⟩ ∧ v6 = .int .i64 n ∧ Hid (rdL k l' n out = R ∧ l'.length < k ∧ out.length + l'.length ≤ N ∧ n + l'.length ≤ N) ∧ RdS B q out wr ∧ Blk wr c [.func (.func 26) #[] #[]] 56 ∧ Below b0 w wr) (fun _ v6 _ => N + 1 - (intOf v6).toNat)
  case atStart => exact ⟨N + 1, 0, l, [], rfl, rfl, hI0, hS, hF, Below.refl _ _⟩
  case round =>
    clear hI0 hS hF
    obtain ⟨k, n, l', out, rfl, rfl, hI, hS, hF, hbw⟩ := hrel
    obtain ⟨k, rfl⟩ : ∃ k', k = k' + 1 := ⟨k - 1, by have := hI.out.2.1; omega⟩
    have hsz := hbw.size
    by_cases h0 : l' = []
    · subst h0
      have hR := Lib.hid (show R = (some out, 0) by rw [← hI.out.1, rdL_end])
      clear hI
      go_wp2_with fail
      go_ret2
      exact ⟨0, _, rfl, .inl ⟨out, hR.out, rfl, rfl, hS⟩, hbw⟩
    · have e1 : (l' == []) = false := by simp [h0]
      have e2 : l'.isEmpty = false := by cases l' with | nil => exact absurd rfl h0 | cons a r => rfl
      have hn : n < N + 1 := by have := hI.out.2.2.2; omega
      have hlN : l'.length ≤ 2000 := by have := hI.out.2.2.1; omega
      have hoN : out.length ≤ 2000 := by have := hI.out.2.2.1; omega
      have HX := Lib.hid (cut10_any l' wr (HC.out wr hbw) (by omega))
      have hcl := Lib.hid (cutL_len l')
      have hgood := Lib.hid (fun h1 h2 => rdL_good (k := k) h0 h1 h2 n out)
      have hbad := Lib.hid (fun h => rdL_bad (k := k) h0 h n out)
      replace h0 := Lib.hid h0
      generalize (Lib.cut l' [10]).1 = ln at *
      generalize (Lib.cut l' [10]).2.1 = rs at *
      generalize (Lib.cut l' [10]).2.2 = fd at *
      have hlL : ln.length ≤ 2000 := by have := hcl.out.1; omega
      go_wp2_with fail
      refine HX.out.mono ?_
      rintro e w1 ⟨rfl, hv1⟩
      replace hS := hS.below hv1
      replace hF := hF.below hv1
      replace hbw := hbw.trans (hv1.mono (by omega))
      clear hv1 HX
      cases fd with
      | false =>
        have hR := Lib.hid (show R = (none, n) by rw [← hI.out.1]; exact hbad.out (.inl rfl))
        clear hI hgood hbad hcl h0
        go_wp2_with fail
        go_ret2
        exact ⟨n, _, rfl, .inr ⟨hR.out, rfl⟩, hbw⟩
      | true =>
        have HT := Lib.hid (takeA_any B c q b0 ln out w1 (HC.out w1 hbw) (by omega) hS hq (Nat.le_trans hB0 hbw.size) (by omega) hF hcB hcq)
        obtain ⟨ok, hok⟩ : ∃ ok, ok = (prePf ln).isSome := ⟨_, rfl⟩
        have hT2 := Lib.hid (fun e w' (h : TkQ B q b0 ln out w1 e w') => (show e = .returned (.bool ok) ∧ RdS B q (out ++ [prePfD ln]) w' ∧ Below b0 w1 w' by rw [hok]; exact h))
        replace hok := Lib.hid hok
        go_wp2_with fail
        refine HT.out.mono ?_
        rintro e w2 h2
        obtain ⟨h2, hF2⟩ := h2
        replace hF := hF2
        clear hF2
        obtain ⟨rfl, hS2, hv1⟩ := hT2.out _ _ h2
        replace hbw := hbw.trans hv1
        clear hS hv1 HT hT2 h2
        cases ok with
        | false =>
          have hR := Lib.hid (show R = (none, n) by rw [← hI.out.1]; exact hbad.out (.inr hok.out.symm))
          clear hI hgood hbad hcl h0
          go_wp2_with fail
          go_ret2
          exact ⟨n, _, rfl, .inr ⟨hR.out, rfl⟩, hbw⟩
        | true =>
          have hI2 := Lib.hid (show rdL k rs (n + 1) (out ++ [prePfD ln]) = R ∧ rs.length < k ∧ (out ++ [prePfD ln]).length + rs.length ≤ N ∧ (n + 1) + rs.length ≤ N by
            have h1 := hcl.out.2.2 h0.out
            have h2 := hI.out
            refine ⟨by rw [← h2.1]; exact (hgood.out (by trivial) hok.out.symm).symm, by omega, by rw [List.length_append, List.length_singleton]; omega, by omega⟩)
          clear hI hgood hbad hcl h0
          go_wp2_with fail
          go_roundw
          case rel => exact ⟨k, n + 1, rs, _, rfl, by go_num, hI2, hS2, hF, hbw⟩
          case measure => simp [intOf]; omega

set_option maxHeartbeats 4000000 in
theorem refLines_any (B q b0 : Nat) (l : List UInt8) (w : World) (HC : ∀ W, Below b0 w W → Cons W) (hl : l.length ≤ 2000) (hS : RdS B q [] w) (hq : b0 ≤ q) (hB0 : B ≤ w.heap.size) :
    Calls Tryz.prog 29 #[.string ⟨l.toArray⟩, .func (.func 30) #[] #[.pointer (some ⟨q, 0, none⟩)]] w (RlQB B q b0 (rdL (l.length + 1) l 0 []) w) := by
  obtain ⟨R, hR⟩ : ∃ R, R = rdL (l.length + 1) l 0 [] := ⟨_, rfl⟩
  rw [← hR]
  obtain ⟨N, hN⟩ : ∃ N, N = l.length := ⟨_, rfl⟩
  have hNl : N ≤ 2000 := by omega
  have hI0 := Lib.hid (show rdL (N + 1) l 0 [] = R ∧ l.length < N + 1 ∧ (List.length ([] : List Pf)) + l.length ≤ N ∧ 0 + l.length ≤ N by rw [hR, hN]; exact ⟨rfl, by omega, by simp, by omega⟩)
  have hl2 : ¬ (200000 : Int) < (l.length : Int) := by omega
  replace HC := Lib.hid HC
  have hqB := hS.lt
  clear hR hN hl
  go_enter Tryz.func29, Tryz.ntmps29
  go_wp2_with fail
  clear hl2
  go_loopw [0, 6] (fun v0 v6 wr => ∃ (k n : Nat) (l' : List UInt8) (out : List Pf), v0 = .string ⟨l'.toArray⟩ ∧ v6 = .int .i64 n ∧ Hid (rdL k l' n out = R ∧ l'.length < k ∧ out.length + l'.length ≤ N ∧ n + l'.length ≤ N) ∧ RdS B q out wr ∧ Below b0 w wr) (fun _ v6 _ => N + 1 - (intOf v6).toNat)
  case atStart => exact ⟨N + 1, 0, l, [], rfl, rfl, hI0, hS, Below.refl _ _⟩
  case round =>
    clear hI0 hS
    obtain ⟨k, n, l', out, rfl, rfl, hI, hS, hbw⟩ := hrel
    obtain ⟨k, rfl⟩ : ∃ k', k = k' + 1 := ⟨k - 1, by have := hI.out.2.1; omega⟩
    have hsz := hbw.size
    by_cases h0 : l' = []
    · subst h0
      have hR := Lib.hid (show R = (some out, 0) by rw [← hI.out.1, rdL_end])
      clear hI
      go_wp2_with fail
      go_ret2
      exact ⟨0, _, rfl, .inl ⟨out, hR.out, rfl, rfl, hS⟩, hbw⟩
    · have e1 : (l' == []) = false := by simp [h0]
      have e2 : l'.isEmpty = false := by cases l' with | nil => exact absurd rfl h0 | cons a r => rfl
      have hn : n < N + 1 := by have := hI.out.2.2.2; omega
      have hlN : l'.length ≤ 2000 := by have := hI.out.2.2.1; omega
      have hoN : out.length ≤ 2000 := by have := hI.out.2.2.1; omega
      have HX := Lib.hid (cut10_any l' wr (HC.out wr hbw) (by omega))
      have hcl := Lib.hid (cutL_len l')
      have hgood := Lib.hid (fun h1 h2 => rdL_good (k := k) h0 h1 h2 n out)
      have hbad := Lib.hid (fun h => rdL_bad (k := k) h0 h n out)
      replace h0 := Lib.hid h0
      generalize (Lib.cut l' [10]).1 = ln at *
      generalize (Lib.cut l' [10]).2.1 = rs at *
      generalize (Lib.cut l' [10]).2.2 = fd at *
      have hlL : ln.length ≤ 2000 := by have := hcl.out.1; omega
      go_wp2_with fail
      refine HX.out.mono ?_
      rintro e w1 ⟨rfl, hv1⟩
      replace hS := hS.below hv1
      replace hbw := hbw.trans (hv1.mono (by omega))
      clear hv1 HX
      cases fd with
      | false =>
        have hR := Lib.hid (show R = (none, n) by rw [← hI.out.1]; exact hbad.out (.inl rfl))
        clear hI hgood hbad hcl h0
        go_wp2_with fail
        go_ret2
        exact ⟨n, _, rfl, .inr ⟨hR.out, rfl⟩, hbw⟩
      | true =>
        have HT := Lib.hid (takeR_any B q b0 ln out w1 (HC.out w1 hbw) (by omega) hS hq (Nat.le_trans hB0 hbw.size) (by omega))
        obtain ⟨ok, hok⟩ : ∃ ok, ok = (prePf ln).isSome := ⟨_, rfl⟩
        have hT2 := Lib.hid (fun e w' (h : TkQ B q b0 ln out w1 e w') => (show e = .returned (.bool ok) ∧ RdS B q (out ++ [prePfD ln]) w' ∧ Below b0 w1 w' by rw [hok]; exact h))
        replace hok := Lib.hid hok
        go_wp2_with fail
        refine HT.out.mono ?_
        rintro e w2 h2
        obtain ⟨rfl, hS2, hv1⟩ := hT2.out _ _ h2
        replace hbw := hbw.trans hv1
        clear hS hv1 HT hT2 h2
        cases ok with
        | false =>
          have hR := Lib.hid (show R = (none, n) by rw [← hI.out.1]; exact hbad.out (.inr hok.out.symm))
          clear hI hgood hbad hcl h0
          go_wp2_with fail
          go_ret2
          exact ⟨n, _, rfl, .inr ⟨hR.out, rfl⟩, hbw⟩
        | true =>
          have hI2 := Lib.hid (show rdL k rs (n + 1) (out ++ [prePfD ln]) = R ∧ rs.length < k ∧ (out ++ [prePfD ln]).length + rs.length ≤ N ∧ (n + 1) + rs.length ≤ N by
            have h1 := hcl.out.2.2 h0.out
            have h2 := hI.out
            refine ⟨by rw [← h2.1]; exact (hgood.out (by trivial) hok.out.symm).symm, by omega, by rw [List.length_append, List.length_singleton]; omega, by omega⟩)
          clear hI hgood hbad hcl h0
          go_wp2_with fail
          go_roundw
          case rel => exact ⟨k, n + 1, rs, _, rfl, by go_num, hI2, hS2, hbw⟩
          case measure => simp [intOf]; omega

abbrev BldP (B b : Nat) (p : Value) (bs : List Value) (w : World) : Prop := Lib.BuilderAt 70 5 B b p bs w
theorem bld_size : (Tryz.prog.info? 70).map (·.size) = some 2 := by kernel_rfl
theorem bld_lies : liesAt Tryz.prog Tryz.prog.depth 70 (2 / Tryz.prog.cellsOf 70) 0 70 1 = true := by kernel_rfl
theorem bld_byte : (Tryz.prog.info? 5).map (fun i => (i.zero, i.size, i.bytes)) = some (some (.int .u8 0), 1, 1) := by kernel_rfl

set_option maxHeartbeats 1000000 in
theorem copyFresh_any (b : Nat) (w : World) (h0 : w.cell? ⟨b, 0, none⟩ = some (.pointer none)) (hsh : w.shape? b = some (70, 2)) (hfz : w.frozen? ⟨b, 0, none⟩ = false) :
    Calls Tryz.prog 75 #[.pointer (some ⟨b, 0, none⟩)] w fun e w' => e = .returned (.tuple #[]) ∧ w' = w.setCell ⟨b, 0, none⟩ (.pointer (some ⟨b, 0, none⟩)) := by
  obtain ⟨j, hj, hjs⟩ := Option.map_eq_some_iff.1 bld_size
  have k1 := Lib.run_to_unsafe w ⟨b, 0, none⟩ Tryz.underlying67 Tryz.underlying126 hj (by rw [hjs]; decide) hsh (Nat.zero_lt_succ 1)
  have k2 := Lib.run_from_unsafe w ⟨b, 0, none⟩ Tryz.underlying126 Tryz.underlying67 hj hsh bld_lies
  go_enter Tryz.func75, Tryz.ntmps75
  go_wp2_with fail
  rw [run_callFunc_extern Tryz.func100 (by kernel_rfl) (by kernel_rfl) (by kernel_rfl) (e := Extern.AbiNoEscape.same) (by kernel_rfl)]
  rw [Lib.run_noEscape]
  simp only [Result.andThen]
  rw [Oper.upon_value]
  go_wp2_with fail
  go_end0
  exact ⟨rfl, rfl⟩

set_option maxHeartbeats 1000000 in
theorem copyUsed_any (b : Nat) (w : World) (h0 : w.cell? ⟨b, 0, none⟩ = some (.pointer (some ⟨b, 0, none⟩))) :
    Calls Tryz.prog 75 #[.pointer (some ⟨b, 0, none⟩)] w fun e w' => e = .returned (.tuple #[]) ∧ w' = w := by
  obtain ⟨j, hj, hjs⟩ := Option.map_eq_some_iff.1 bld_size
  have k1 := Lib.run_neq_ptr_same (P := Tryz.prog) w (tp := 67) ⟨b, 0, none⟩ Tryz.underlying67 hj
  go_enter Tryz.func75, Tryz.ntmps75
  go_wp2_with fail
  go_end0
  exact ⟨rfl, rfl⟩
theorem copyCheck_any (B b : Nat) (bs : List Value) (w : World) (h : Lib.IsBuilder 70 5 B b bs w) :
    Calls Tryz.prog 75 #[.pointer (some ⟨b, 0, none⟩)] w fun e w' => e = .returned (.tuple #[]) ∧ BldP B b (.pointer (some ⟨b, 0, none⟩)) bs w' ∧ Below B w w' := by
  rcases h with h | h
  · refine (copyFresh_any b w h.cell0 h.shape h.frozen0).mono ?_
    rintro e w' ⟨rfl, rfl⟩
    exact ⟨rfl, h.used _, (Below.refl B w).setCell (p := ⟨b, 0, none⟩) h.1 _⟩
  · refine (copyUsed_any b w h.cell0).mono ?_
    rintro e w' ⟨rfl, rfl⟩
    exact ⟨rfl, h, Below.refl B _⟩

set_option maxHeartbeats 2000000 in
theorem writeString_any (B b : Nat) (bs : List Value) (s : ByteArray) (w : World) (h : Lib.IsBuilder 70 5 B b bs w) (hlen : bs.length + s.size ≤ 1000000) (hBw : B ≤ w.heap.size) :
    Calls Tryz.prog 43 #[.pointer (some ⟨b, 0, none⟩), .string s] w fun e w' => (∃ v, e = .returned v) ∧ Lib.IsBuilder 70 5 B b (bs ++ Lib.strCells s) w' ∧ Below B w w' := by
  obtain ⟨i0, hi, hz0, hz1, hz2⟩ := info_parts bld_byte
  have HC := Lib.hid (copyCheck_any B b bs w h)
  clear h
  go_enter Tryz.func43, Tryz.ntmps43
  go_wp2_with fail
  refine HC.out.mono ?_
  rintro e w1 ⟨rfl, ⟨hB, v, hbk, hown, hne⟩, hb1⟩
  have c1 : w1.cell? ⟨b, 1, none⟩ = some v := by rw [Lib.cell_of_heap hbk]; rfl
  obtain ⟨n, hn⟩ : ∃ n, n = bs.length := ⟨_, rfl⟩
  rw [← hn] at hown hlen
  replace hn := Lib.hid hn
  clear HC
  go_wp2_with (at_builtin; refine Lib.wpList_append_own_string _ rfl _ _ 68 9 rfl B 5 i0 Tryz.underlying68 Tryz.underlying9 hi hz0 hz1 hz2 _ _ _ rfl hown s rfl ?c3 ?c4 ?c5 ?_)
  case c3 => unfold maxLen; omega
  case c4 => omega
  case c5 => have := hb1.size; omega
  intro v' w2 hown' hgrow _
  have hlt : b < w1.heap.size := (Array.getElem?_eq_some_iff.1 hbk).1
  have hb2 : w2.heap[b]? = some (.cells #[.pointer (some ⟨b, 0, none⟩), v] 70 (0, 0)) := (hgrow.block b hlt (fun e => hne e.symm)).trans hbk
  have d1 : w2.cell? ⟨b, 1, none⟩ = some v := by rw [Lib.cell_of_heap hb2]; rfl
  have f1 : w2.frozen? ⟨b, 1, none⟩ = false := Lib.frozen_of_heap hb2 1
  obtain ⟨ao, n', cap, rfl⟩ : ∃ ao n' cap, v' = .slice ao n' cap := by
    rcases hown'.2 with ⟨hv, _⟩ | ⟨g, cap, cur, hv, _⟩
    · exact ⟨_, _, _, hv⟩
    · exact ⟨_, _, _, hv⟩
  have hfin := Lib.hid (Lib.BuilderAt.put (T := 70) (e := 5) hB hb2 (bs' := bs ++ Lib.strCells s) (by rw [List.length_append, Lib.strCells_length, ← hn.out]; exact hown') (by decide))
  have hbF := Lib.hid ((hb1.grown hgrow (by have := hb1.size; omega) (fun k hk => (hown.lt k hk).1)).setCell (p := ⟨b, 1, none⟩) hB (.slice ao n' cap))
  clear hown hown' hgrow hb1 hbk hb2 c1
  go_wp2_with fail
  go_ret2
  exact ⟨⟨_, rfl⟩, .inr hfin.out, hbF.out⟩
end Go.Proofs.YtkldcmmlllkhkaaGreatDoor
