/- Sets: what sets make is the same. -/
import Derived.Test.YthjhokicojgpbaaGreatDoorKdSvN
import Derived.Lib.AppendZerosOnto
import Derived.Laws.AppendOwnNone
namespace Go.Proofs.YthjhokicojgpbaaGreatDoor
open Go.RowKit
set_option linter.unusedVariables false
set_option linter.unusedSimpArgs false

theorem wpList_appS {ps : List Pf} {w : World} {ops : Array Oper} {rest : List Oper} {o : Oper} {a : Act} {Q : Exit → Act → World → Prop} (hgd : o.guard = none) (s x : Operand)
    (ho : o.op = .call { callee := .builtin .append, args := #[s, x], argTypes := #[44, 44] })
    (B : Nat) (v : Value) (xs : List Pf) (hs : a.eval s = v) (hown : OwnE ePf 52 B w v xs)
    (A : Option Addr) (m c : Nat) (hx : a.eval x = .slice A m c) (hS : SlE ePf w A m c ps) (hn : xs.length + ps.length ≤ 1000000) (hbase : B ≤ w.heap.size)
    (h : ∀ v' w', OwnE ePf 52 B w' v' (xs ++ ps) → w.grownBy w' v.ownBlock → wpList Tryz.prog ops Q rest (a.put o.dst v') w') : wpList Tryz.prog ops Q (o :: rest) a w := by
  cases A with
  | none =>
    obtain rfl := hS.2.2.1 rfl
    have hm : m = 0 := by have := hS.2.1; omega
    subst hm
    have hp : ps = [] := List.eq_nil_of_length_eq_zero hS.1.symm
    subst hp
    obtain ⟨i0, hi0, hz0, hz1, hz2⟩ := info_parts infoPf
    have hown' := hown
    unfold OwnE at hown'
    refine wpList_append_own_none hgd s x 44 ho B 52 i0 4 Tryz.underlying44 hi0 v xs.length (ePf.cells xs) hs hown' hx ?_
    refine h v w (by simpa using hown) ?_
    exact World.grownBy.refl _ _
  | some ad =>
    exact wpList_app tyePf hgd s x ho B v xs ps hs hown ad m c hx hS.1 (fun j u hj => hS.cells j u hj) hn hbase (fun v' w' h1 h2 _ => h v' w' h1 h2)

set_option maxHeartbeats 2000000 in
set_option maxRecDepth 100000 in
theorem growPf_any (t : Nat) (w : World) (ht : t ≤ 100000) :
    Calls Tryz.prog 135 #[.slice none 0 0, .int .i64 t] w fun e w' => ∃ v, e = .returned v ∧ OwnE ePf 52 w.heap.size w' v [] ∧ Below w.heap.size w w' := by
  by_cases h0 : t = 0
  · subst h0
    go_enter Tryz.func135, Tryz.ntmps135
    go_wp2_with fail
    go_ret
    exact ⟨_, rfl, OwnE.nil _ _, Below.refl _ _⟩
  · have h1t : 1 ≤ t := by omega
    clear h0
    obtain ⟨i0, hi0, hz0, hz1, hz2⟩ := info_parts infoPf
    have hrz : ∀ ty, (Builtin.append_ #[44, 3] ty #[.slice none 0 0, .int .i64 t]).run Tryz.prog w =
        .ok (.slice (some ⟨w.heap.size, 0, none⟩) (0 + t) (grownCap w (0 + t) 0 52)) (w.drew.alloc (.cells (#[] ++ Builtin.zeroCells zPf.cells t ++ Builtin.zeroCells zPf.cells (grownCap w (0 + t) 0 52 - (0 + t))) 52)) := fun ty => by
      have h := Lib.run_append_grow_zeros w 44 3 ty 52 i0 zPf .i64 .i64 Tryz.underlying44 Tryz.underlying3 hi0 hz0 none 0 0 [] (run_firstCells_none w.drew i0.size 0 0 0) t (by first | omega | (rw [hz2]; omega) | (rw [hz1]; omega)) (by first | omega | (rw [hz2]; omega) | (rw [hz1]; omega)) (by first | omega | (rw [hz2]; omega) | (rw [hz1]; omega)) (by first | omega | (rw [hz2]; omega) | (rw [hz1]; omega)) (by first | omega | (rw [hz2]; omega) | (rw [hz1]; omega)) (growslice_fits (by first | omega | (rw [hz2]; omega)) (by first | omega | (rw [hz2]; omega)))
      exact h
    obtain ⟨G, hG⟩ : ∃ G, G = grownCap w (0 + t) 0 52 := ⟨_, rfl⟩
    have hG8 : t ≤ G := by rw [hG]; have := grownCap_ge w (0 + t) 0 52; omega
    have hG63 : G ≤ maxLen := by rw [hG]; exact grownCap_le_maxLen w (0 + t) 0 52 (by unfold maxLen; omega)
    rw [← hG] at hrz
    have hzc : zPf.cells.size = 4 := rfl
    have hZ : (#[] ++ Builtin.zeroCells zPf.cells t ++ Builtin.zeroCells zPf.cells (G - (0 + t))).size = G * 4 := by
      simp only [Builtin.zeroCells, Array.size_append, Array.size_map, Array.size_range, hzc, List.size_toArray, List.length_nil]
      omega
    obtain ⟨Z, hZ0⟩ : ∃ Z, Z = (#[] ++ Builtin.zeroCells zPf.cells t ++ Builtin.zeroCells zPf.cells (G - (0 + t))) := ⟨_, rfl⟩
    rw [← hZ0] at hrz hZ
    have hW : OwnE ePf 52 w.heap.size (w.drew.alloc (.cells Z 52)) (.slice (some ⟨w.heap.size, 0, none⟩) 0 G) [] := by
      refine ⟨rfl, .inr ⟨w.heap.size, G, Z, rfl, Nat.le_refl _, ?_, Nat.zero_le _, hG63, hZ, by simp [Enc.cells]⟩⟩
      simp [World.alloc, World.drew, -World.alloc_eq, -World.drew_eq]
    have hb : Below w.heap.size w (w.drew.alloc (.cells Z 52)) := (Below.drew (Below.refl _ w)).alloc (Nat.le_refl _) _
    have hG63' : G ≤ 9223372036854775807 := by unfold maxLen at hG63; omega
    clear hZ0 hZ hG hG63
    replace hW := Lib.hid hW
    replace hb := Lib.hid hb
    go_enter Tryz.func135, Tryz.ntmps135
    go_wp2_with (at_builtin; refine Lib.wpList_append_run _ rfl _ _ _ _ rfl _ _ rfl rfl _ _ (hrz _) ?_)
    go_ret
    exact ⟨_, rfl, hW.out, hb.out⟩

set_option maxHeartbeats 4000000 in
set_option maxRecDepth 100000 in
theorem concatPf_any (q n1 c1 n2 c2 : Nat) (A1 A2 : Option Addr) (ps qs : List Pf) (w : World) (hQ : Blk w q [.slice A1 n1 c1, .slice A2 n2 c2] 44) (s1 : SlE ePf w A1 n1 c1 ps) (s2 : SlE ePf w A2 n2 c2 qs) (h1 : n1 ≤ 50000) (h2 : n2 ≤ 50000) :
    Calls Tryz.prog 81 #[.slice (some ⟨q, 0, none⟩) 2 2] w fun e w' => GivesO ePf 52 w.heap.size (ps ++ qs) e w' ∧ Below w.heap.size w w' := by
  have HG := Lib.hid (growPf_any (n1 + n2) w (by omega))
  have m1 := Lib.hid s1.1
  have m2 := Lib.hid s2.1
  have hql := hQ.lt
  have q1 := hQ.cell (i := 0) rfl
  have q2 := hQ.cell (i := 1) rfl
  replace hQ := Lib.hid hQ
  replace s1 := Lib.hid s1
  replace s2 := Lib.hid s2
  have hw0 : ¬ (n1 : Int) < 0 := by omega
  have hw1 : ¬ (n1 : Int) + n2 < 0 := by omega
  have r1 : IntKind.i64.wrap ((n1 : Int) + n2) = (n1 : Int) + n2 := IntWalk.i64_in _ (by omega)
  go_enter Tryz.func81, Tryz.ntmps81
  go_wp2_with fail
  refine wp_loop_rounds 3 ?_
  rw [rounds_succ]
  go_wp2_with fail
  rw [rounds_succ]
  go_wp2_with fail
  rw [rounds_succ]
  go_wp2_with fail
  refine HG.out.mono ?_
  rintro e w1 ⟨v, rfl, hown, hb1⟩
  clear HG q1 q2
  have hQ1 := Blk.below hQ.out hb1
  have q1 := hQ1.cell (i := 0) rfl
  have q2 := hQ1.cell (i := 1) rfl
  have t1 := Lib.hid (s1.out.below hb1)
  have hz1 := hb1.size
  clear hQ1
  go_wp2_with fail
  refine wp_loop_rounds 3 ?_
  rw [rounds_succ]
  go_wp2_with (at_builtin; refine wpList_appS rfl _ _ rfl w.heap.size _ [] rfl hown A1 n1 c1 rfl t1.out ?c1 hz1 ?_)
  case c1 => have := m1.out; simp; omega
  intro v2 w2 hown2 hg2
  have hb2 : Below w.heap.size w w2 := hb1.grown hg2 hz1 (fun k h => (hown.lt k h).1)
  have hQ2 := Blk.below hQ.out hb2
  clear hown hg2 q1 q2
  have q2 := hQ2.cell (i := 1) rfl
  have t2 := Lib.hid (s2.out.below hb2)
  have hz2 := hb2.size
  clear hQ2
  go_wp2_with fail
  rw [rounds_succ]
  go_wp2_with (at_builtin; refine wpList_appS rfl _ _ rfl w.heap.size _ _ rfl hown2 A2 n2 c2 rfl t2.out ?d1 hz2 ?_)
  case d1 => have := m1.out; have := m2.out; simp; omega
  intro v3 w3 hown3 hg3
  have hb3 : Below w.heap.size w w3 := hb2.grown hg3 hz2 (fun k h => (hown2.lt k h).1)
  clear hown2 hg3 q2
  go_wp2_with fail
  rw [rounds_succ]
  go_wp2_with fail
  go_ret
  exact ⟨⟨v3, rfl, by simpa using hown3⟩, hb3⟩
end Go.Proofs.YthjhokicojgpbaaGreatDoor
namespace Go.Proofs.YthjhokicojgpbaaGreatDoor
open Go.RowKit
set_option linter.unusedVariables false
set_option linter.unusedSimpArgs false

theorem cuts_pts : ∀ (l : List (Nat × Nat)), (∀ x ∈ l, Row x) → ∀ k : Int, InP ((cuts l).map ivB) k ↔ InP (l.map toP) k
  | [], _, k => Iff.rfl
  | x :: t, h, k => by
    have hx := h x List.mem_cons_self
    have ih := cuts_pts t (fun y hy => h y (List.mem_cons_of_mem _ hy)) k
    have e : cuts (x :: t) = cutN x.1 x.2 ++ cuts t := rfl
    rw [e, List.map_append, inP_append, cut_pts x.2 _ x.1 (Nat.le_refl _) hx.2.small k, ih, List.map_cons, inP_cons]
    show _ ↔ ((x.1 : Int) ≤ k ∧ k ≤ (x.2 : Int) - 1) ∨ _
    constructor
    · rintro (a | a)
      · exact .inl (by omega)
      · exact .inr a
    · rintro (a | a)
      · exact .inl (by omega)
      · exact .inr a
theorem pfs_inA {zs : List (Ad × Ad)} {P : Nat → Prop} (h : Tells zs P) (m : Nat) : InA ((pfsOf (zs.map rowA)).map rgP) m ↔ P m := by
  rw [← inA_iff, map_iv_rgP _ (pfsOf_R h.2.2)]
  unfold pfsOf
  rw [map_blk_pfOf _ (fun b hb => (cuts_ok (rows_R h.2.2) b hb).2), cuts_pts _ (rows_R h.2.2), toP_rowA, inA_iff]
  exact h.2.1 m
/-- There are at most N ranges in a list of prefixes. -/
def RowsLe (ps : List Pf) (N : Nat) : Prop := ∀ ys, Joined ys (ps.map rgP) → ys.length ≤ N
theorem rowsLe_len (ps : List Pf) : RowsLe ps ps.length := fun ys h => by
  have := h.tells.rows
  rwa [List.length_map] at this
theorem rowsLe_pfs {zs : List (Ad × Ad)} {P : Nat → Prop} (h : Tells zs P) : RowsLe (pfsOf (zs.map rowA)) zs.length := fun ys hj => by
  have e : ys = zs := hj.tells.unique h (fun m => pfs_inA h m)
  rw [e]; exact Nat.le_refl _
theorem rowsLe_two {zs xs : List (Ad × Ad)} {P Q : Nat → Prop} (h : Tells zs P) (h' : Tells xs Q) : RowsLe (pfsOf (zs.map rowA) ++ pfsOf (xs.map rowA)) (zs.length + xs.length) := fun ys hj => by
  have h1 : Tells ys (InA (zs ++ xs)) := hj.tells.iff (fun m => by
    rw [List.map_append, inA_append, inA_append, pfs_inA h, pfs_inA h', h.2.1, h'.2.1])
  have := h1.rows
  rwa [List.length_append] at this

set_option maxRecDepth 100000 in
theorem leastOfN_any (N : Nat) (A : Option Addr) (n cap : Nat) (ps : List Pf) (w : World) (hS : SlE ePf w A n cap ps) (hn : n ≤ 100000) (hR : ∀ p ∈ ps, p.R) (hN : RowsLe ps N) (hN1 : N ≤ 1000) :
    Calls Tryz.prog 32 #[.slice A n cap] w fun e w' => ∃ ys, Joined ys (ps.map rgP) ∧ ys.length ≤ N ∧ GivesO ePf 52 w.heap.size (pfsOf (ys.map rowA)) e w' ∧ Below w.heap.size w w' := by
  have HS := Lib.hid (ofS_any A n cap ps w hS hn hR)
  clear hS hR
  go_enter Tryz.func32, Tryz.ntmps32
  go_wp2_with fail
  refine HS.out.mono ?_
  rintro e w1 ⟨ys, hj, _, ⟨A2, c2, rfl, hS2, hA2⟩, hb1⟩
  have hl := hN ys hj
  have HP := Lib.hid (prefixesR_any A2 _ c2 ys w1 hS2 (by omega) hj.2.2)
  replace hj := Lib.hid hj
  replace hl := Lib.hid hl
  clear HS hS2 hA2 hN
  generalize hm : ys.length = L at *
  replace hm := Lib.hid hm
  go_wp2_with fail
  refine HP.out.mono ?_
  rintro e w2 ⟨⟨v, rfl, ho⟩, hb2⟩
  have hz := hb1.size
  replace hb1 := hb1.trans (hb2.mono hz)
  clear HP hb2
  go_wp2_with fail
  go_ret
  exact ⟨ys, hj.out, by rw [hm.out]; exact hl.out, ⟨v, rfl, OwnE.mono ho hz⟩, hb1⟩

set_option maxRecDepth 100000 in
theorem restOf_any (N : Nat) (A : Option Addr) (n cap : Nat) (ps : List Pf) (w : World) (hS : SlE ePf w A n cap ps) (hn : n ≤ 100000) (hR : ∀ p ∈ ps, p.R) (hN : RowsLe ps N) (hN1 : N ≤ 400) :
    Calls Tryz.prog 40 #[.slice A n cap] w fun e w' => ∃ zs, Tells zs (fun m => Val m ∧ ¬ InA (ps.map rgP) m) ∧ zs.length ≤ 2 * (N + 1) ∧ GivesO ePf 52 w.heap.size (pfsOf (zs.map rowA)) e w' ∧ Below w.heap.size w w' := by
  have HS := Lib.hid (ofS_any A n cap ps w hS hn hR)
  clear hS hR
  go_enter Tryz.func40, Tryz.ntmps40
  go_wp2_with fail
  refine HS.out.mono ?_
  rintro e w1 ⟨ys, hj, _, ⟨A2, c2, rfl, hS2, hA2⟩, hb1⟩
  have hl := hN ys hj
  have HG := Lib.hid (gaps_any A2 _ c2 ys w1 hS2 (by omega) hj.2.2 hj.tells.1)
  have he := Lib.hid (show ∀ m, (Val m ∧ ¬ InA ys m) ↔ (Val m ∧ ¬ InA (ps.map rgP) m) from fun m => by rw [hj.tells.2.1])
  clear HS hS2 hA2 hN hj
  generalize ys.length = L at *
  go_wp2_with fail
  refine HG.out.mono ?_
  rintro e w2 ⟨zs, hz, hlz, ⟨A3, c3, rfl, hS3, hA3⟩, hb2⟩
  have HP := Lib.hid (prefixesR_any A3 _ c3 zs w2 hS3 (by omega) hz.2.2)
  have hfin := Lib.hid (hz.iff he.out)
  have hl2 := Lib.hid (show zs.length ≤ 2 * (N + 1) by omega)
  have hz1 := hb1.size
  replace hb1 := hb1.trans (hb2.mono hz1)
  clear HG hb2 hz hlz hS3 hA3
  generalize hm : zs.length = L3 at *
  replace hm := Lib.hid hm
  go_wp2_with fail
  refine HP.out.mono ?_
  rintro e w3 ⟨⟨v, rfl, ho⟩, hb3⟩
  have hz := hb1.size
  replace hb1 := hb1.trans (hb3.mono hz)
  clear HP hb3
  go_wp2_with fail
  go_ret
  exact ⟨zs, hfin.out, by rw [hm.out]; exact hl2.out, ⟨v, rfl, OwnE.mono ho hz⟩, hb1⟩

set_option maxRecDepth 100000 in
theorem unionOf_any (N : Nat) (A1 A2 : Option Addr) (n1 c1 n2 c2 : Nat) (ps qs : List Pf) (w : World) (s1 : SlE ePf w A1 n1 c1 ps) (s2 : SlE ePf w A2 n2 c2 qs) (h1 : n1 ≤ 50000) (h2 : n2 ≤ 50000) (hR : ∀ p ∈ ps, p.R) (hR' : ∀ p ∈ qs, p.R) (hN : RowsLe (ps ++ qs) N) (hN1 : N ≤ 1000) :
    Calls Tryz.prog 37 #[.slice A1 n1 c1, .slice A2 n2 c2] w fun e w' => ∃ zs, Tells zs (fun m => InA (ps.map rgP) m ∨ InA (qs.map rgP) m) ∧ zs.length ≤ N ∧ GivesO ePf 52 w.heap.size (pfsOf (zs.map rowA)) e w' ∧ Below w.heap.size w w' := by
  have hQ := Blk.new w [.slice A1 n1 c1, .slice A2 n2 c2] 44
  have hb0 : Below w.heap.size w (w.alloc (.cells [Value.slice A1 n1 c1, .slice A2 n2 c2].toArray 44)) := (Below.refl _ _).alloc (Nat.le_refl _) _
  have HC := Lib.hid (concatPf_any _ n1 c1 n2 c2 A1 A2 ps qs _ hQ (s1.below hb0) (s2.below hb0) h1 h2)
  have hpl := Lib.hid (show (ps ++ qs).length ≤ 100000 by rw [List.length_append, ← s1.1, ← s2.1]; omega)
  have hRR := Lib.hid (show ∀ p ∈ ps ++ qs, p.R from fun p hp => by
    rcases List.mem_append.1 hp with h | h
    · exact hR p h
    · exact hR' p h)
  have he := Lib.hid (show ∀ m, InA ((ps ++ qs).map rgP) m ↔ (InA (ps.map rgP) m ∨ InA (qs.map rgP) m) from fun m => by rw [List.map_append, inA_append])
  replace hN := Lib.hid hN
  clear hQ s1 s2 hR hR'
  go_enter Tryz.func37, Tryz.ntmps37
  go_wp2_with fail
  refine HC.out.mono ?_
  rintro e w1 ⟨⟨v, rfl, ho⟩, hb1⟩
  obtain ⟨A3, c3, rfl, hS3⟩ := ho.sl
  have hz0 := hb0.size
  replace hb0 := hb0.trans (hb1.mono hz0)
  have HL := Lib.hid (leastOfN_any N A3 _ c3 (ps ++ qs) w1 hS3 hpl.out hRR.out hN.out hN1)
  clear HC hb1 ho hS3
  generalize (ps ++ qs).length = L at *
  go_wp2_with fail
  refine HL.out.mono ?_
  rintro e w2 ⟨ys, hj, hl, ⟨v, rfl, ho⟩, hb2⟩
  have hz1 := hb0.size
  replace hb0 := hb0.trans (hb2.mono hz1)
  have hfin := Lib.hid (hj.tells.iff he.out)
  replace hl := Lib.hid hl
  clear HL hb2 hj
  go_wp2_with fail
  go_ret
  exact ⟨ys, hfin.out, hl.out, ⟨v, rfl, OwnE.mono ho hz1⟩, hb0⟩

theorem pfs_len (zs : List (Ad × Ad)) (h : ∀ z ∈ zs, RgR z) : (pfsOf (zs.map rowA)).length ≤ zs.length * 258 := by
  have := pfsOf_len (l := zs.map rowA) (n := zs.length) (rows_R h) (by rw [List.length_map]; exact Nat.le_refl _)
  exact this

set_option maxRecDepth 100000 in
set_option maxHeartbeats 4000000 in
theorem bothOf_any (N M : Nat) (A1 A2 : Option Addr) (n1 c1 n2 c2 : Nat) (ps qs : List Pf) (w : World) (s1 : SlE ePf w A1 n1 c1 ps) (s2 : SlE ePf w A2 n2 c2 qs) (h1 : n1 ≤ 50000) (h2 : n2 ≤ 50000) (hR : ∀ p ∈ ps, p.R) (hR' : ∀ p ∈ qs, p.R) (hN : RowsLe ps N) (hM : RowsLe qs M) (hN1 : N ≤ 20) (hM1 : M ≤ 20) :
    Calls Tryz.prog 38 #[.slice A1 n1 c1, .slice A2 n2 c2] w fun e w' => ∃ zs, Tells zs (fun m => InA (ps.map rgP) m ∧ InA (qs.map rgP) m) ∧ GivesO ePf 52 w.heap.size (pfsOf (zs.map rowA)) e w' ∧ Below w.heap.size w w' := by
  have H1 := Lib.hid (restOf_any N A1 n1 c1 ps w s1 (by omega) hR hN (by omega))
  have H2 := Lib.hid (fun W (hW : Below w.heap.size w W) => restOf_any M A2 n2 c2 qs W (s2.below hW) (by omega) hR' hM (by omega))
  have hv1 := Lib.hid (fun m (h : InA (ps.map rgP) m) => inA_val (fun x hx => by obtain ⟨p, hp, rfl⟩ := List.mem_map.1 hx; exact rgP_R (hR p hp)) h)
  clear s1 s2 hR hR' hN hM
  go_enter Tryz.func38, Tryz.ntmps38
  go_wp2_with fail
  refine H1.out.mono ?_
  rintro e w1 ⟨z1, ht1, hl1, ⟨v1, rfl, ho1⟩, hb1⟩
  obtain ⟨B1, d1, rfl, t1⟩ := ho1.sl
  have H2' := Lib.hid (H2.out _ hb1)
  replace t1 := Lib.hid t1
  replace ht1 := Lib.hid ht1
  have g1 := Lib.hid (pfs_len z1 ht1.out.2.2)
  replace hl1 := Lib.hid hl1
  obtain ⟨m1, hm1⟩ : ∃ m, m = (pfsOf (z1.map rowA)).length := ⟨_, rfl⟩
  rw [← hm1] at t1 g1 ⊢
  replace hm1 := Lib.hid hm1
  clear H1 H2 ho1
  go_wp2_with fail
  refine H2'.out.mono ?_
  rintro e w2 ⟨z2, ht2, hl2, ⟨v2, rfl, ho2⟩, hb2⟩
  obtain ⟨B2, d2, rfl, t2⟩ := ho2.sl
  have g2 := pfs_len z2 ht2.2.2
  have HU := Lib.hid (unionOf_any (z1.length + z2.length) B1 B2 m1 d1 _ d2 (pfsOf (z1.map rowA)) (pfsOf (z2.map rowA)) w2 (t1.out.below hb2) t2 (by have := g1.out; have := hl1.out; omega) (by omega) (pfsOf_R ht1.out.2.2) (pfsOf_R ht2.2.2) (rowsLe_two ht1.out ht2) (by have := hl1.out; omega))
  have he := Lib.hid (show ∀ m, (InA ((pfsOf (z1.map rowA)).map rgP) m ∨ InA ((pfsOf (z2.map rowA)).map rgP) m) ↔ ((Val m ∧ ¬ InA (ps.map rgP) m) ∨ (Val m ∧ ¬ InA (qs.map rgP) m)) from fun m => by rw [pfs_inA ht1.out, pfs_inA ht2])
  have hz1 := hb1.size
  have hb3 := hb1.trans (hb2.mono hz1)
  have hlz := Lib.hid (show z1.length + z2.length ≤ 84 by have := hl1.out; omega)
  clear H2' hb2 hb1 t1 t2 ho2 g1 g2 ht1 ht2 hl2 hl1
  generalize (pfsOf (z2.map rowA)).length = m2 at *
  go_wp2_with fail
  refine HU.out.mono ?_
  rintro e w4 ⟨z3, ht3, hl3, ⟨v3, rfl, ho3⟩, hb4⟩
  obtain ⟨B3, d3, rfl, t3⟩ := ho3.sl
  have g3 := pfs_len z3 ht3.2.2
  have H4 := Lib.hid (restOf_any z3.length B3 _ d3 (pfsOf (z3.map rowA)) w4 t3 (by have := hlz.out; omega) (pfsOf_R ht3.2.2) (rowsLe_pfs ht3) (by have := hlz.out; omega))
  have he2 := Lib.hid (show ∀ m, (Val m ∧ ¬ InA ((pfsOf (z3.map rowA)).map rgP) m) ↔ (InA (ps.map rgP) m ∧ InA (qs.map rgP) m) from fun m => by
    rw [pfs_inA ht3, he.out m]
    constructor
    · rintro ⟨hv, hn⟩
      refine ⟨Classical.byContradiction fun h => hn (.inl ⟨hv, h⟩), Classical.byContradiction fun h => hn (.inr ⟨hv, h⟩)⟩
    · rintro ⟨ha, hb⟩
      refine ⟨hv1.out m ha, ?_⟩
      rintro (⟨_, h⟩ | ⟨_, h⟩)
      · exact h ha
      · exact h hb)
  have hz3 := hb3.size
  have hb5 := hb3.trans (hb4.mono hz3)
  clear HU hb4 hb3 t3 ho3 g3 ht3 hl3
  generalize (pfsOf (z3.map rowA)).length = m3 at *
  go_wp2_with fail
  refine H4.out.mono ?_
  rintro e w6 ⟨z4, ht4, hl4, ⟨v4, rfl, ho4⟩, hb6⟩
  have hz5 := hb5.size
  have hb7 := hb5.trans (hb6.mono hz5)
  have hfin := Lib.hid (ht4.iff he2.out)
  clear H4 hb6 ht4 hl4
  go_wp2_with fail
  go_ret
  exact ⟨z4, hfin.out, ⟨v4, rfl, OwnE.mono ho4 hz5⟩, hb7⟩

set_option maxRecDepth 100000 in
set_option maxHeartbeats 4000000 in
theorem withoutOf_any (N M : Nat) (A1 A2 : Option Addr) (n1 c1 n2 c2 : Nat) (ps qs : List Pf) (w : World) (s1 : SlE ePf w A1 n1 c1 ps) (s2 : SlE ePf w A2 n2 c2 qs) (h1 : n1 ≤ 50000) (h2 : n2 ≤ 50000) (hR : ∀ p ∈ ps, p.R) (hR' : ∀ p ∈ qs, p.R) (hN : RowsLe ps N) (hM : RowsLe qs M) (hN1 : N ≤ 9) (hM1 : M ≤ 9) :
    Calls Tryz.prog 39 #[.slice A1 n1 c1, .slice A2 n2 c2] w fun e w' => ∃ zs, Tells zs (fun m => InA (ps.map rgP) m ∧ ¬ InA (qs.map rgP) m) ∧ GivesO ePf 52 w.heap.size (pfsOf (zs.map rowA)) e w' ∧ Below w.heap.size w w' := by
  have H2 := Lib.hid (restOf_any M A2 n2 c2 qs w s2 (by omega) hR' hM (by omega))
  have HB := Lib.hid (fun W (hW : Below w.heap.size w W) B m d (rs : List Pf) (t : SlE ePf W B m d rs) (hm : m ≤ 50000) (hr : ∀ p ∈ rs, p.R) (hl : RowsLe rs 20) => bothOf_any N 20 A1 B n1 c1 m d ps rs W (s1.below hW) t h1 hm hR hr hN hl (by omega) (by omega))
  have hv1 := Lib.hid (fun m (h : InA (ps.map rgP) m) => inA_val (fun x hx => by obtain ⟨p, hp, rfl⟩ := List.mem_map.1 hx; exact rgP_R (hR p hp)) h)
  clear s1 s2 hR hR' hN hM
  go_enter Tryz.func39, Tryz.ntmps39
  go_wp2_with fail
  refine H2.out.mono ?_
  rintro e w2 ⟨z2, ht2, hl2, ⟨v2, rfl, ho2⟩, hb2⟩
  obtain ⟨B2, d2, rfl, t2⟩ := ho2.sl
  have g2 := pfs_len z2 ht2.2.2
  have HB' := Lib.hid (HB.out _ hb2 B2 _ d2 _ t2 (by omega) (pfsOf_R ht2.2.2) (fun ys hj => by have := rowsLe_pfs ht2 ys hj; omega))
  have he := Lib.hid (show ∀ m, (InA (ps.map rgP) m ∧ InA ((pfsOf (z2.map rowA)).map rgP) m) ↔ (InA (ps.map rgP) m ∧ ¬ InA (qs.map rgP) m) from fun m => by
    rw [pfs_inA ht2]
    exact ⟨fun h => ⟨h.1, h.2.2⟩, fun h => ⟨h.1, hv1.out m h.1, h.2⟩⟩)
  clear H2 HB t2 ho2 g2 ht2 hl2
  generalize (pfsOf (z2.map rowA)).length = m2 at *
  go_wp2_with fail
  refine HB'.out.mono ?_
  rintro e w3 ⟨z3, ht3, ⟨v3, rfl, ho3⟩, hb3⟩
  have hz2 := hb2.size
  replace hb2 := hb2.trans (hb3.mono hz2)
  have hfin := Lib.hid (ht3.iff he.out)
  clear HB' hb3 ht3
  go_wp2_with fail
  go_ret
  exact ⟨z3, hfin.out, ⟨v3, rfl, OwnE.mono ho3 hz2⟩, hb2⟩
end Go.Proofs.YthjhokicojgpbaaGreatDoor
namespace Go.Proofs.YthjhokicojgpbaaGreatDoor
open Go.RowKit
set_option linter.unusedVariables false
set_option linter.unusedSimpArgs false

theorem inA_rgP {ps : List Pf} (hR : ∀ p ∈ ps, p.R) (m : Nat) : InA (ps.map rgP) m ↔ ∃ p ∈ ps, InB (blk p) m := by
  unfold InA InB
  constructor
  · rintro ⟨x, hx, h1, h2⟩
    obtain ⟨p, hp, rfl⟩ := List.mem_map.1 hx
    have hn := rgP_n (hR p hp)
    have hpos := Nat.two_pow_pos (freeB p)
    have h1' : p.1.n ≤ m := h1
    exact ⟨p, hp, h1', by show m < p.1.n + 2 ^ freeB p; omega⟩
  · rintro ⟨p, hp, h1, h2⟩
    have hn := rgP_n (hR p hp)
    have hpos := Nat.two_pow_pos (freeB p)
    have h2' : m < p.1.n + 2 ^ freeB p := h2
    exact ⟨rgP p, List.mem_map_of_mem hp, h1, by omega⟩
theorem inA_rgP_val {ps : List Pf} (hR : ∀ p ∈ ps, p.R) {m : Nat} (h : InA (ps.map rgP) m) : Val m :=
  inA_val (fun x hx => by obtain ⟨p, hp, rfl⟩ := List.mem_map.1 hx; exact rgP_R (hR p hp)) h
theorem cmb_union {xs ys : List Pf} (hR : ∀ p ∈ xs, p.R) (hR' : ∀ p ∈ ys, p.R) (m : Nat) : CmbP (fun p q => p || q) xs ys m ↔ InA (xs.map rgP) m ∨ InA (ys.map rgP) m := by
  unfold CmbP
  rw [Bool.or_eq_true, hasB_iff, hasB_iff]
  exact ⟨fun h => h.2, fun h => ⟨h.elim (inA_rgP_val hR) (inA_rgP_val hR'), h⟩⟩
theorem cmb_both {xs ys : List Pf} (hR : ∀ p ∈ xs, p.R) (m : Nat) : CmbP (fun p q => p && q) xs ys m ↔ InA (xs.map rgP) m ∧ InA (ys.map rgP) m := by
  unfold CmbP
  rw [Bool.and_eq_true, hasB_iff, hasB_iff]
  exact ⟨fun h => h.2, fun h => ⟨inA_rgP_val hR h.1, h⟩⟩
theorem hasB_not (xs : List (Ad × Ad)) (m : Nat) : (!hasB xs m) = true ↔ ¬ InA xs m := by
  rw [← hasB_iff]; cases hasB xs m <;> simp
theorem cmb_without {xs ys : List Pf} (hR : ∀ p ∈ xs, p.R) (m : Nat) : CmbP (fun p q => p && !q) xs ys m ↔ InA (xs.map rgP) m ∧ ¬ InA (ys.map rgP) m := by
  unfold CmbP
  rw [Bool.and_eq_true, hasB_iff, hasB_not]
  exact ⟨fun h => h.2, fun h => ⟨inA_rgP_val hR h.1, h⟩⟩
theorem cmb_rest {xs : List Pf} (m : Nat) : CmbP (fun p _ => !p) xs [] m ↔ Val m ∧ ¬ InA (xs.map rgP) m := by
  unfold CmbP
  rw [hasB_not]

theorem pfs_blocks {zs : List (Ad × Ad)} {P : Nat → Prop} (h : Tells zs P) (es qs : List Bk) (hes : AlL es) (hqs : AlL qs) (hl : es.length + qs.length * 128 + 2 ≤ 1000)
    (hk : ∀ m m', P m → Val m' → ¬ P m' → (∃ a ∈ es, InB a m ∧ ¬ InB a m') ∨ (∃ q ∈ qs, ¬ InB q m ∧ InB q m')) : (pfsOf (zs.map rowA)).length ≤ 1000 := by
  unfold pfsOf
  rw [List.length_map]
  exact Nat.le_trans (blocks_le h es qs hes hqs hk) hl
theorem alL_nil : AlL [] := fun b hb => by cases hb
theorem alL_app {l m : List Bk} (h : AlL l) (h' : AlL m) : AlL (l ++ m) := fun b hb => by
  rcases List.mem_append.1 hb with k | k
  · exact h b k
  · exact h' b k
theorem bound_union {xs ys : List Pf} (hx : xs.length ≤ 6) (hy : ys.length ≤ 6) (hR : ∀ p ∈ xs, p.R) (hR' : ∀ p ∈ ys, p.R) (zs : List (Ad × Ad)) (h : Tells zs (CmbP (fun p q => p || q) xs ys)) : (pfsOf (zs.map rowA)).length ≤ 1000 := by
  refine pfs_blocks h (xs.map blk ++ ys.map blk) [] (alL_app (blks_ok hR).1 (blks_ok hR').1) alL_nil (by rw [List.length_append, List.length_map, List.length_map, List.length_nil]; omega) (fun m m' h1 hv h2 => .inl ?_)
  rw [cmb_union hR hR', inA_rgP hR, inA_rgP hR'] at h1 h2
  rcases h1 with ⟨p, hp, hm⟩ | ⟨p, hp, hm⟩
  · exact ⟨blk p, List.mem_append_left _ (List.mem_map_of_mem hp), hm, fun h => h2 (.inl ⟨p, hp, h⟩)⟩
  · exact ⟨blk p, List.mem_append_right _ (List.mem_map_of_mem hp), hm, fun h => h2 (.inr ⟨p, hp, h⟩)⟩
theorem bound_both {xs ys : List Pf} (hx : xs.length ≤ 6) (hy : ys.length ≤ 6) (hR : ∀ p ∈ xs, p.R) (hR' : ∀ p ∈ ys, p.R) (zs : List (Ad × Ad)) (h : Tells zs (CmbP (fun p q => p && q) xs ys)) : (pfsOf (zs.map rowA)).length ≤ 1000 := by
  refine pfs_blocks h (xs.map blk ++ ys.map blk) [] (alL_app (blks_ok hR).1 (blks_ok hR').1) alL_nil (by rw [List.length_append, List.length_map, List.length_map, List.length_nil]; omega) (fun m m' h1 hv h2 => .inl ?_)
  rw [cmb_both hR, inA_rgP hR, inA_rgP hR'] at h1 h2
  obtain ⟨⟨p, hp, hm⟩, ⟨q, hq, hm'⟩⟩ := h1
  by_cases hh : ∃ p ∈ xs, InB (blk p) m'
  · exact ⟨blk q, List.mem_append_right _ (List.mem_map_of_mem hq), hm', fun h => h2 ⟨hh, ⟨q, hq, h⟩⟩⟩
  · exact ⟨blk p, List.mem_append_left _ (List.mem_map_of_mem hp), hm, fun h => hh ⟨p, hp, h⟩⟩
theorem bound_without {xs ys : List Pf} (hx : xs.length ≤ 6) (hy : ys.length ≤ 6) (hR : ∀ p ∈ xs, p.R) (hR' : ∀ p ∈ ys, p.R) (zs : List (Ad × Ad)) (h : Tells zs (CmbP (fun p q => p && !q) xs ys)) : (pfsOf (zs.map rowA)).length ≤ 1000 := by
  refine pfs_blocks h (xs.map blk) (ys.map blk) (blks_ok hR).1 (blks_ok hR').1 (by rw [List.length_map, List.length_map]; omega) (fun m m' h1 hv h2 => ?_)
  rw [cmb_without hR, inA_rgP hR, inA_rgP hR'] at h1 h2
  obtain ⟨⟨p, hp, hm⟩, hn⟩ := h1
  by_cases hh : ∃ p ∈ ys, InB (blk p) m'
  · obtain ⟨q, hq, hm'⟩ := hh
    exact .inr ⟨blk q, List.mem_map_of_mem hq, fun h => hn ⟨q, hq, h⟩, hm'⟩
  · exact .inl ⟨blk p, List.mem_map_of_mem hp, hm, fun h => h2 ⟨⟨p, hp, h⟩, hh⟩⟩
theorem bound_rest {xs : List Pf} (hx : xs.length ≤ 6) (hR : ∀ p ∈ xs, p.R) (zs : List (Ad × Ad)) (h : Tells zs (CmbP (fun p _ => !p) xs [])) : (pfsOf (zs.map rowA)).length ≤ 1000 := by
  refine pfs_blocks h [] (xs.map blk) alL_nil (blks_ok hR).1 (by rw [List.length_map, List.length_nil]; omega) (fun m m' h1 hv h2 => .inr ?_)
  rw [cmb_rest, inA_rgP hR] at h1 h2
  have hh : ∃ p ∈ xs, InB (blk p) m' := Classical.byContradiction fun hn => h2 ⟨hv, hn⟩
  obtain ⟨q, hq, hm'⟩ := hh
  exact ⟨blk q, List.mem_map_of_mem hq, fun h => h1.2 ⟨q, hq, h⟩, hm'⟩
theorem setF_nil : setF [] = 0 := by
  unfold setF
  have e : scanF none [] = 0 := rfl
  rw [if_neg (fun h => h e), if_pos (by trivial)]
/-- A set that is combined is the one that the reference makes. -/
theorem same_pfs {k : Bool → Bool → Bool} {xs ys ps qs : List Pf} {P : Nat → Prop} (h : CmbS k xs ys ps) (hq : ∃ zs, Tells zs P ∧ qs = pfsOf (zs.map rowA)) (he : ∀ m, CmbP k xs ys m ↔ P m) : ps = qs := by
  obtain ⟨_, _, zs, h1, rfl⟩ := h
  obtain ⟨zs', h2, rfl⟩ := hq
  rw [h1.unique h2 he]
/-- Equal says so. -/
theorem equal_got {w : World} {v v' : Value} {B B' : Nat} {t t' : TypeId} {ps qs : List Pf} (h : OwnE ePf t B w v ps) (h' : OwnE ePf t' B' w v' qs) (he : ps = qs) (hl : ps.length ≤ 1000000) :
    Calls Tryz.prog 31 #[v, v'] w (GivesV (.bool true) w) := by
  subst he
  obtain ⟨A, c, rfl, hS⟩ := h.sl
  obtain ⟨A', c', rfl, hS'⟩ := h'.sl
  refine (equalPf_any A A' _ _ c c' ps ps w hS hS' hl hl).mono ?_
  rintro e w2 ⟨b, rfl, hb, hb2⟩
  exact ⟨by rw [hb.2 rfl], hb2⟩
end Go.Proofs.YthjhokicojgpbaaGreatDoor
