/- PortsLeast: the law. -/
import Derived.Test.YtigbbpgfblnboaaPlH
import Derived.Test.YtigbbpgfblnboaaPkB
namespace Go.Proofs.Ytigbbpgfblnboaa
open Go.RowKit
set_option linter.unusedVariables false
set_option linter.unusedSimpArgs false

theorem slB_lit (w : World) (bs : List Nat) (n : Nat) (cs : Array Value) (hc : cs = (bV bs).toArray) (hn : n = bs.length) : SlB (w.alloc (.cells cs 5)) (some ⟨w.heap.size, 0, none⟩) n n bs := by
  subst hc hn
  refine ⟨(bV_len bs).symm, Nat.le_refl _, .inr ⟨w.heap.size, 0, rfl, by simp, fun j u hu => ?_⟩⟩
  rw [Nat.zero_add]
  exact (Blk.new w (bV bs) 5).cell hu

theorem filtered_any (w : World) : Calls Try.prog 16 #[] w (GivesV (.bool true) w) := by
  have hS := slB_lit w [0, 1] 2 _ rfl rfl
  have hs : sumR [0, 1] = 65534 := by decide
  have HS := Lib.hid (sum_any _ 2 2 [0, 1] _ hS (by omega) (by intro b hb; simp at hb; omega))
  rw [hs] at HS
  clear hS hs
  go_enter Try.func16, Try.ntmps16
  go_wp2_with fail
  refine HS.out.mono ?_
  rintro e w1 ⟨rfl, hb1⟩
  go_wp2_with fail
  go_ret
  exact ⟨rfl, ((Below.refl _ _).alloc (Nat.le_refl _) _).trans (hb1.mono (by simp))⟩


theorem own_gb {w w' : World} {base b : Nat} {e : TypeId} {size n : Nat} {v : Value} {xs : List Value} (h : w.ownsRow base e size v n xs) (hg : w.grownBy w' (some b)) (hb : b < base) : w'.ownsRow base e size v n xs :=
  h.kept hg (by
    cases hv : v.ownBlock with
    | none => exact .inl rfl
    | some k => exact .inr (by intro e; cases e; have := (h.lt b hv).1; omega))
/-- The slice's block is younger than the stream. -/
def Young (A : Option Addr) (n b : Nat) : Prop := n = 0 ∨ ∀ g off, A = some ⟨g, off, none⟩ → g ≠ b
theorem slP_gb {w w' : World} {b n cap : Nat} {A : Option Addr} {ps : List Pt} (h : SlP w A n cap ps) (hg : w.grownBy w' (some b)) (hb : Young A n b) : SlP w' A n cap ps := by
  obtain ⟨h1, h2, h3⟩ := h
  refine ⟨h1, h2, ?_⟩
  rcases h3 with h3 | ⟨g, off, rfl, hl, hc⟩
  · exact .inl h3
  · rcases hb with hb | hb
    · exact .inl hb
    · have hne := hb g off rfl
      have hblk := hg.block g hl (by intro e; cases e; exact hne rfl)
      refine .inr ⟨g, off, rfl, Nat.lt_of_lt_of_le hl hg.size, fun j p hp => ?_⟩
      obtain ⟨a, c⟩ := hc j p hp
      exact ⟨(World.cell?_of_block (w := w) hblk).trans a, (World.cell?_of_block (w := w) hblk).trans c⟩
theorem young_own {w : World} {base b n cap : Nat} {A : Option Addr} {e : TypeId} {size : Nat} {xs : List Value} (h : w.ownsRow base e size (.slice A n cap) n xs) (hb : b < base) : Young A n b := by
  rcases h.2 with ⟨hv, h0⟩ | ⟨g, cap', cur, hv, hg, _⟩
  · exact .inl h0
  · cases hv
    refine .inr (fun g' off e => ?_)
    cases e; omega
theorem least_eq {ps R Q : List Pt} {h : Int → Bool} (hc : CanR 65536 R) (hin : ∀ k, InP R k ↔ InP ps k) (hQ : ScanI h Q 65536) (hh : ∀ k : Int, 0 ≤ k → k < 65537 → (h k = true ↔ InP ps k)) (hok : ps.all rightB = true) : Q = R := by
  refine canR_unique Q R _ _ hQ.1 hc (fun k => ?_)
  rw [hQ.2 k, hin k]
  constructor
  · rintro ⟨a, b, c⟩; exact (hh k a (by omega)).1 c
  · intro hk
    obtain ⟨p, hp, hp2⟩ := hk
    have hr : 0 ≤ p.1 ∧ p.1 ≤ p.2 ∧ p.2 ≤ 65535 := of_decide_eq_true (List.all_eq_true.1 hok p hp)
    exact ⟨by omega, by omega, (hh k (by omega) (by omega)).2 ⟨p, hp, hp2⟩⟩

set_option maxHeartbeats 8000000 in
set_option maxRecDepth 100000 in
theorem portsLeast_walk (a : Option Addr) (len cap0 : Nat) (w : World) (hs : Str (w.alloc (.cells #[.slice a len cap0, .int .i64 0] 25)) w.heap.size 1000) :
    Calls Try.prog 3 #[.slice a len cap0] w fun e w' => e = .returned (.bool true) ∧ Below w.heap.size w w' := by
  have hB0 : Below w.heap.size w (w.alloc (.cells #[.slice a len cap0, .int .i64 0] 25)) := (Below.refl _ _).alloc (Nat.le_refl _) _
  obtain ⟨i0, hi0, hz0, hz1, hz2⟩ := info_parts info_ports
  go_enter Try.func3, Try.ntmps3
  go_wp2_with fail
  refine (range_any _ _ _ _ 999 (by omega) (by omega) (by omega) hs).mono ?_
  rintro e w1 ⟨rr, ⟨hr1, hr2⟩, rfl, hs1, hg1⟩
  have hB1 : Below w.heap.size w w1 := hB0.trans (gb_toBelow hg1 (Nat.le_refl _) (by simp))
  have hlt1 := hs1.lt
  replace hs1 := Lib.hid hs1
  clear hs hB0 hg1
  go_wp2_with fail
  go_loopw [4, 13] (fun o i wr => ∃ (k : Nat) (ps : List Pt), (k : Int) ≤ rr ∧ i = .int .i64 k ∧ Hid (ps.length = k) ∧ wr.ownsRow w1.heap.size 29 2 o ps.length (cellsP ps) ∧ Hid (Str wr w.heap.size (999 - 3 * k)) ∧ Below w.heap.size w wr ∧ w1.heap.size ≤ wr.heap.size) (fun _ i _ => (rr - intOf i).toNat)
  case atStart => exact ⟨0, [], by omega, rfl, Lib.hid rfl, World.ownsRow_nil _ _ _ _, hs1, hB1, Nat.le_refl _⟩
  case round =>
    obtain ⟨k, ps, hk, rfl, hLen, hown, hs, hB, hlow⟩ := hrel
    by_cases hlt : (k : Int) < rr
    · have hk5 : k < 5 := by omega
      have hsP : Str wr w.heap.size ((996 - 3 * k) + 3) := by
        have := hs.out
        rwa [show 999 - 3 * k = (996 - 3 * k) + 3 by omega] at this
      go_wp2_with fail
      refine (portRange_any _ _ (996 - 3 * k) hsP).mono ?_
      rintro e w2 ⟨x, y, rfl, hs2, hg2⟩
      have hown2 := own_gb hown hg2 hlt1
      have hB2 := hB.trans (gb_toBelow hg2 (Nat.le_refl _) (Nat.le_of_lt hsP.lt))
      have hlow2 : w1.heap.size ≤ w2.heap.size := Nat.le_trans hlow hg2.size
      replace hs2 := Lib.hid hs2
      clear hown hg2 hB hsP hs hlow
      go_wp2_with (at_builtin; refine wpList_append_own _ rfl _ _ 26 rfl w1.heap.size 29 i0 (.agg #[.int .i64 0, .int .i64 0]) 2 16 Try.underlying26 hi0 hz0 hz1 hz2 rfl (by decide) _ _ _ rfl (hown2.alloc _) ⟨w2.heap.size, 0, none⟩ 1 1 [.int .i64 x, .int .i64 y] rfl ?c1 ?c2 ?c3 ?c4 ?c5 ?c6 ?_)
      try case c1 => rfl
      try case c2 => exact cell_two_at _ _ _ _ _ rfl
      case c3 => first | exact ⟨rfl, rfl⟩ | (intro u hu; simp at hu; rcases hu with rfl | rfl <;> rfl)
      case c4 => have hQ := hLen.out; unfold maxLen; omega
      case c5 => have hQ := hLen.out; omega
      case c6 => first | omega | (simp; done) | (simp; omega)
      intro v3 x3 hown3 hg3 _
      have hb3 : Below w1.heap.size w2 x3 := ((Below.refl _ w2).alloc hlow2 _).grown hg3 (by first | omega | (simp; done) | (simp; omega)) (fun k h => (hown2.lt k h).1)
      have hs3 : Hid (Str x3 w.heap.size (999 - 3 * (k + 1))) := Lib.hid ((hs2.out.upto (fun j hj => hb3.block j (by omega))).le (by omega))
      have hB3 := hB2.trans (hb3.mono (Nat.le_of_lt hlt1))
      have hlow3 := Nat.le_trans hlow2 hb3.size
      clear hg3 hown2 hB2 hb3 hs2
      go_wp2_with fail
      go_roundw
      case rel => exact ⟨k + 1, ps ++ [(x, y)], by omega, by go_num, Lib.hid (by have := hLen.out; simp; omega), by rw [cellsP_append, List.length_append]; exact hown3, hs3, hB3, hlow3⟩
      case measure => simp [intOf]; omega
    · have hk5 : k ≤ 5 := by omega
      replace hLen : Hid (ps.length ≤ 5) := Lib.hid (by have := hLen.out; omega)
      replace hs : Str wr w.heap.size (980 + 1) := hs.out.le (by omega)
      go_wp2_with fail
      refine (flip_any _ _ _ 980 (by omega) (by omega) hs).mono ?_
      rintro e w2 ⟨rf, rfl, hs2, hg2⟩
      have hown2 := own_gb hown hg2 hlt1
      have hB2 := hB.trans (gb_toBelow hg2 (Nat.le_refl _) (Nat.le_of_lt hs.lt))
      have hlow2 : w1.heap.size ≤ w2.heap.size := Nat.le_trans hlow hg2.size
      clear hown hg2 hB hs hlow
      cases rf
      · obtain ⟨A, cap, rfl, hSl⟩ := slP_own hown2
        have hAb := Lib.hid (young_own hown2 hlt1)
        obtain ⟨n, hn⟩ : ∃ n, n = ps.length := ⟨_, rfl⟩
        rw [← hn] at hSl hAb hLen ⊢
        clear hown2
        replace hn := Lib.hid hn
        have hs : Str w2 w.heap.size (900 + 1) := hs2.le (by omega)
        have hB := hB2
        clear hs2 hB2
        have hsu := hs
        have hLP := Lib.hid (leastPorts_any A n cap ps _ hSl (by have := hLen.out; omega))
        have hAP := Lib.hid (fun v (hv : Below _ _ v) => anyPorts_any A n cap ps v (hSl.below hv) (by have := hLen.out; omega))
        go_wp2_with fail
        refine hLP.out.mono ?_
        rintro e y1 hE
        clear hLP
        obtain ⟨hv1, hE⟩ := hE
        have hAP1 := Lib.hid (hAP.out _ hv1)
        replace hSl := hSl.below hv1
        replace hs := hs.below hv1
        replace hB := hB.trans (hv1.mono hB.size)
        clear hAP hsu hv1
        obtain ⟨hbad, rfl⟩ | ⟨hok, R, A1, cap1, rfl, hS1, hcan, hin, hR12⟩ := hE
        · rw [show anyF ps = 1 from if_neg (by rw [hbad]; decide)] at hAP1
          go_wp2_with fail
          refine hAP1.out.mono ?_
          rintro e y2 ⟨rfl, hv1⟩
          replace hSl := hSl.below hv1
          replace hs := hs.below hv1
          replace hB := hB.trans (hv1.mono hB.size)
          clear hv1 hAP1 hbad
          go_wp2_with fail
          refine (flip_any _ _ _ 900 (by omega) (by omega) hs).mono ?_
          rintro e y3 ⟨rf, rfl, hs1, hg1⟩
          replace hSl := slP_gb hSl hg1 hAb.out
          replace hB := hB.trans (gb_toBelow hg1 (Nat.le_refl _) (Nat.le_of_lt hs.lt))
          clear hs hs1 hg1
          cases rf
          · skip
            have hCP := Lib.hid (checkPorts_any A n cap ps _ hSl (by have := hLen.out; omega))
            have hPF := Lib.hid (fun v (hv : Below _ _ v) => portsFault_any A n cap ps v (hSl.below hv) (by have := hLen.out; omega))
            generalize portsF none ps = pf at hCP hPF
            go_wp2_with fail
            refine hCP.out.mono ?_
            rintro e y1 ⟨rfl, hv1⟩
            have hPF1 := Lib.hid (hPF.out _ hv1)
            replace hB := hB.trans (hv1.mono hB.size)
            clear hv1 hCP hPF hSl
            go_wp2_with fail
            refine hPF1.out.mono ?_
            rintro e y2 ⟨rfl, hv1⟩
            replace hB := hB.trans (hv1.mono hB.size)
            clear hv1 hPF1
            go_wp2_with fail
            refine (filtered_any _).mono ?_
            rintro e y3 ⟨rfl, hv1⟩
            replace hB := hB.trans (hv1.mono hB.size)
            clear hv1
            go_wp2_with fail
            go_ret
            exact ⟨rfl, hB⟩
          · skip
            have hCP := Lib.hid (checkPorts_any A n cap ps _ hSl (by have := hLen.out; omega))
            have hPF := Lib.hid (fun v (hv : Below _ _ v) => portsFault_any A n cap ps v (hSl.below hv) (by have := hLen.out; omega))
            generalize portsF none ps = pf at hCP hPF
            go_wp2_with fail
            refine hCP.out.mono ?_
            rintro e y1 ⟨rfl, hv1⟩
            have hPF1 := Lib.hid (hPF.out _ hv1)
            replace hB := hB.trans (hv1.mono hB.size)
            clear hv1 hCP hPF hSl
            go_wp2_with fail
            refine hPF1.out.mono ?_
            rintro e y2 ⟨rfl, hv1⟩
            replace hB := hB.trans (hv1.mono hB.size)
            clear hv1 hPF1
            go_wp2_with fail
            refine (filtered_any _).mono ?_
            rintro e y3 ⟨rfl, hv1⟩
            replace hB := hB.trans (hv1.mono hB.size)
            clear hv1
            go_wp2_with fail
            go_ret
            exact ⟨rfl, hB⟩
        · rw [show anyF ps = 0 from if_pos hok] at hAP1
          have hLO := Lib.hid (fun v (hv : Below _ _ v) => leastOf_any A n cap ps v (hSl.below hv) (by have := hLen.out; omega) hok)
          have hsame : Hid (∀ (Q : List Pt) (h : Int → Bool), ScanI h Q 65536 → (∀ k : Int, 0 ≤ k → k < 65537 → (h k = true ↔ InP ps k)) → Q = R) := Lib.hid (fun Q h hQ hh => least_eq hcan hin hQ hh hok)
          have hS1 := Lib.hid hS1
          replace hR12 := Lib.hid hR12
          clear hcan hin
          go_wp2_with fail
          refine hAP1.out.mono ?_
          rintro e y2 ⟨rfl, hv1⟩
          have hLO1 := Lib.hid (hLO.out _ hv1)
          replace hS1 := Lib.hid (hS1.out.below hv1)
          replace hSl := hSl.below hv1
          replace hs := hs.below hv1
          replace hB := hB.trans (hv1.mono hB.size)
          clear hv1 hAP1 hLO
          go_wp2_with fail
          refine hLO1.out.mono ?_
          rintro e y3 ⟨Q, h, A2, cap2, rfl, hS2, hQ, hh, _, hv1⟩
          obtain rfl := hsame.out Q h hQ hh
          have hEq := Lib.hid (equal_same A1 A2 Q.length cap1 cap2 Q.reverse y3 (hS1.out.below hv1) hS2 (by have := hR12.out; omega))
          replace hSl := hSl.below hv1
          replace hs := hs.below hv1
          replace hB := hB.trans (hv1.mono hB.size)
          clear hv1 hLO1 hS1 hS2 hQ hh
          go_wp2_with fail
          refine hEq.out.mono ?_
          rintro e y4 ⟨rfl, hv1⟩
          replace hSl := hSl.below hv1
          replace hs := hs.below hv1
          replace hB := hB.trans (hv1.mono hB.size)
          clear hv1 hEq
          go_wp2_with fail
          refine (flip_any _ _ _ 900 (by omega) (by omega) hs).mono ?_
          rintro e y5 ⟨rf, rfl, hs1, hg1⟩
          replace hSl := slP_gb hSl hg1 hAb.out
          replace hB := hB.trans (gb_toBelow hg1 (Nat.le_refl _) (Nat.le_of_lt hs.lt))
          clear hs hs1 hg1
          cases rf
          · skip
            have hCP := Lib.hid (checkPorts_any A n cap ps _ hSl (by have := hLen.out; omega))
            have hPF := Lib.hid (fun v (hv : Below _ _ v) => portsFault_any A n cap ps v (hSl.below hv) (by have := hLen.out; omega))
            generalize portsF none ps = pf at hCP hPF
            go_wp2_with fail
            refine hCP.out.mono ?_
            rintro e y1 ⟨rfl, hv1⟩
            have hPF1 := Lib.hid (hPF.out _ hv1)
            replace hB := hB.trans (hv1.mono hB.size)
            clear hv1 hCP hPF hSl
            go_wp2_with fail
            refine hPF1.out.mono ?_
            rintro e y2 ⟨rfl, hv1⟩
            replace hB := hB.trans (hv1.mono hB.size)
            clear hv1 hPF1
            go_wp2_with fail
            refine (filtered_any _).mono ?_
            rintro e y3 ⟨rfl, hv1⟩
            replace hB := hB.trans (hv1.mono hB.size)
            clear hv1
            go_wp2_with fail
            go_ret
            exact ⟨rfl, hB⟩
          · have hLO := Lib.hid (leastOf_any A n cap ps _ hSl (by have := hLen.out; omega) hok)
            clear hSl
            go_wp2_with fail
            refine hLO.out.mono ?_
            rintro e y6 ⟨Q2, h, A2, cap2, rfl, hSl, hQ, hh, _, hv1⟩
            obtain rfl := hsame.out Q2 h hQ hh
            replace hB := hB.trans (hv1.mono hB.size)
            clear hv1 hLO hQ hh hsame
            have hCP := Lib.hid (checkPorts_any A2 Q2.length cap2 Q2.reverse _ hSl hR12.out)
            have hPF := Lib.hid (fun v (hv : Below _ _ v) => portsFault_any A2 Q2.length cap2 Q2.reverse v (hSl.below hv) hR12.out)
            generalize portsF none Q2.reverse = pf at hCP hPF
            go_wp2_with fail
            refine hCP.out.mono ?_
            rintro e y1 ⟨rfl, hv1⟩
            have hPF1 := Lib.hid (hPF.out _ hv1)
            replace hB := hB.trans (hv1.mono hB.size)
            clear hv1 hCP hPF hSl
            go_wp2_with fail
            refine hPF1.out.mono ?_
            rintro e y2 ⟨rfl, hv1⟩
            replace hB := hB.trans (hv1.mono hB.size)
            clear hv1 hPF1
            go_wp2_with fail
            refine (filtered_any _).mono ?_
            rintro e y3 ⟨rfl, hv1⟩
            replace hB := hB.trans (hv1.mono hB.size)
            clear hv1
            go_wp2_with fail
            go_ret
            exact ⟨rfl, hB⟩
      · go_wp2_with fail
        refine (odd_any _ _ _ _ 978 (by omega) (by omega) (by omega) hs2).mono ?_
        rintro e w3 ⟨x, _, rfl, hs3, hg3⟩
        have hown3 := own_gb hown2 hg3 hlt1
        have hB3 := hB2.trans (gb_toBelow hg3 (Nat.le_refl _) (Nat.le_of_lt hs2.lt))
        have hlow3 : w1.heap.size ≤ w3.heap.size := Nat.le_trans hlow2 hg3.size
        clear hown2 hg3 hB2 hs2 hlow2
        go_wp2_with fail
        refine (odd_any _ _ _ _ 976 (by omega) (by omega) (by omega) hs3).mono ?_
        rintro e w4 ⟨y, _, rfl, hs4, hg4⟩
        have hown4 := own_gb hown3 hg4 hlt1
        have hB4 := hB3.trans (gb_toBelow hg4 (Nat.le_refl _) (Nat.le_of_lt hs3.lt))
        have hlow4 : w1.heap.size ≤ w4.heap.size := Nat.le_trans hlow3 hg4.size
        clear hown3 hg4 hB3 hs3 hlow3
        go_wp2_with (at_builtin; refine wpList_append_own _ rfl _ _ 26 rfl w1.heap.size 29 i0 (.agg #[.int .i64 0, .int .i64 0]) 2 16 Try.underlying26 hi0 hz0 hz1 hz2 rfl (by decide) _ _ _ rfl (hown4.alloc _) ⟨w4.heap.size, 0, none⟩ 1 1 [.int .i64 x, .int .i64 y] rfl ?d1 ?d2 ?d3 ?d4 ?d5 ?d6 ?_)
        try case d1 => rfl
        try case d2 => exact cell_two_at _ _ _ _ _ rfl
        case d3 => first | exact ⟨rfl, rfl⟩ | (intro u hu; simp at hu; rcases hu with rfl | rfl <;> rfl)
        case d4 => have hQ := hLen.out; unfold maxLen; omega
        case d5 => have hQ := hLen.out; omega
        case d6 => first | omega | (simp; done) | (simp; omega)
        intro v3 x3 hown5 hg5 _
        have hb3 : Below w1.heap.size w4 x3 := ((Below.refl _ w4).alloc hlow4 _).grown hg5 (by first | omega | (simp; done) | (simp; omega)) (fun k h => (hown4.lt k h).1)
        have hs5 : Str x3 w.heap.size (900 + 1) := (hs4.upto (fun j hj => hb3.block j (by omega))).le (by omega)
        have hB5 := hB4.trans (hb3.mono (Nat.le_of_lt hlt1))
        clear hg5 hown4 hB4 hb3 hs4 hlow4
        have hown6 : x3.ownsRow w1.heap.size 29 2 v3 (ps ++ [(x, y)]).length (cellsP (ps ++ [(x, y)])) := by rw [cellsP_append, List.length_append]; exact hown5
        replace hLen : Hid ((ps ++ [(x, y)]).length ≤ 6) := Lib.hid (by have := hLen.out; simp; omega)
        clear hown5
        generalize ps ++ [(x, y)] = ps at hown6 hLen
        obtain ⟨A, cap, rfl, hSl⟩ := slP_own hown6
        have hAb := Lib.hid (young_own hown6 hlt1)
        obtain ⟨n, hn⟩ : ∃ n, n = ps.length := ⟨_, rfl⟩
        rw [← hn] at hSl hAb hLen ⊢
        clear hown6
        replace hn := Lib.hid hn
        have hs := hs5
        have hB := hB5
        clear hs5 hB5
        have hsu := hs
        have hLP := Lib.hid (leastPorts_any A n cap ps _ hSl (by have := hLen.out; omega))
        have hAP := Lib.hid (fun v (hv : Below _ _ v) => anyPorts_any A n cap ps v (hSl.below hv) (by have := hLen.out; omega))
        go_wp2_with fail
        refine hLP.out.mono ?_
        rintro e y1 hE
        clear hLP
        obtain ⟨hv1, hE⟩ := hE
        have hAP1 := Lib.hid (hAP.out _ hv1)
        replace hSl := hSl.below hv1
        replace hs := hs.below hv1
        replace hB := hB.trans (hv1.mono hB.size)
        clear hAP hsu hv1
        obtain ⟨hbad, rfl⟩ | ⟨hok, R, A1, cap1, rfl, hS1, hcan, hin, hR12⟩ := hE
        · rw [show anyF ps = 1 from if_neg (by rw [hbad]; decide)] at hAP1
          go_wp2_with fail
          refine hAP1.out.mono ?_
          rintro e y2 ⟨rfl, hv1⟩
          replace hSl := hSl.below hv1
          replace hs := hs.below hv1
          replace hB := hB.trans (hv1.mono hB.size)
          clear hv1 hAP1 hbad
          go_wp2_with fail
          refine (flip_any _ _ _ 900 (by omega) (by omega) hs).mono ?_
          rintro e y3 ⟨rf, rfl, hs1, hg1⟩
          replace hSl := slP_gb hSl hg1 hAb.out
          replace hB := hB.trans (gb_toBelow hg1 (Nat.le_refl _) (Nat.le_of_lt hs.lt))
          clear hs hs1 hg1
          cases rf
          · skip
            have hCP := Lib.hid (checkPorts_any A n cap ps _ hSl (by have := hLen.out; omega))
            have hPF := Lib.hid (fun v (hv : Below _ _ v) => portsFault_any A n cap ps v (hSl.below hv) (by have := hLen.out; omega))
            generalize portsF none ps = pf at hCP hPF
            go_wp2_with fail
            refine hCP.out.mono ?_
            rintro e y1 ⟨rfl, hv1⟩
            have hPF1 := Lib.hid (hPF.out _ hv1)
            replace hB := hB.trans (hv1.mono hB.size)
            clear hv1 hCP hPF hSl
            go_wp2_with fail
            refine hPF1.out.mono ?_
            rintro e y2 ⟨rfl, hv1⟩
            replace hB := hB.trans (hv1.mono hB.size)
            clear hv1 hPF1
            go_wp2_with fail
            refine (filtered_any _).mono ?_
            rintro e y3 ⟨rfl, hv1⟩
            replace hB := hB.trans (hv1.mono hB.size)
            clear hv1
            go_wp2_with fail
            go_ret
            exact ⟨rfl, hB⟩
          · skip
            have hCP := Lib.hid (checkPorts_any A n cap ps _ hSl (by have := hLen.out; omega))
            have hPF := Lib.hid (fun v (hv : Below _ _ v) => portsFault_any A n cap ps v (hSl.below hv) (by have := hLen.out; omega))
            generalize portsF none ps = pf at hCP hPF
            go_wp2_with fail
            refine hCP.out.mono ?_
            rintro e y1 ⟨rfl, hv1⟩
            have hPF1 := Lib.hid (hPF.out _ hv1)
            replace hB := hB.trans (hv1.mono hB.size)
            clear hv1 hCP hPF hSl
            go_wp2_with fail
            refine hPF1.out.mono ?_
            rintro e y2 ⟨rfl, hv1⟩
            replace hB := hB.trans (hv1.mono hB.size)
            clear hv1 hPF1
            go_wp2_with fail
            refine (filtered_any _).mono ?_
            rintro e y3 ⟨rfl, hv1⟩
            replace hB := hB.trans (hv1.mono hB.size)
            clear hv1
            go_wp2_with fail
            go_ret
            exact ⟨rfl, hB⟩
        · rw [show anyF ps = 0 from if_pos hok] at hAP1
          have hLO := Lib.hid (fun v (hv : Below _ _ v) => leastOf_any A n cap ps v (hSl.below hv) (by have := hLen.out; omega) hok)
          have hsame : Hid (∀ (Q : List Pt) (h : Int → Bool), ScanI h Q 65536 → (∀ k : Int, 0 ≤ k → k < 65537 → (h k = true ↔ InP ps k)) → Q = R) := Lib.hid (fun Q h hQ hh => least_eq hcan hin hQ hh hok)
          have hS1 := Lib.hid hS1
          replace hR12 := Lib.hid hR12
          clear hcan hin
          go_wp2_with fail
          refine hAP1.out.mono ?_
          rintro e y2 ⟨rfl, hv1⟩
          have hLO1 := Lib.hid (hLO.out _ hv1)
          replace hS1 := Lib.hid (hS1.out.below hv1)
          replace hSl := hSl.below hv1
          replace hs := hs.below hv1
          replace hB := hB.trans (hv1.mono hB.size)
          clear hv1 hAP1 hLO
          go_wp2_with fail
          refine hLO1.out.mono ?_
          rintro e y3 ⟨Q, h, A2, cap2, rfl, hS2, hQ, hh, _, hv1⟩
          obtain rfl := hsame.out Q h hQ hh
          have hEq := Lib.hid (equal_same A1 A2 Q.length cap1 cap2 Q.reverse y3 (hS1.out.below hv1) hS2 (by have := hR12.out; omega))
          replace hSl := hSl.below hv1
          replace hs := hs.below hv1
          replace hB := hB.trans (hv1.mono hB.size)
          clear hv1 hLO1 hS1 hS2 hQ hh
          go_wp2_with fail
          refine hEq.out.mono ?_
          rintro e y4 ⟨rfl, hv1⟩
          replace hSl := hSl.below hv1
          replace hs := hs.below hv1
          replace hB := hB.trans (hv1.mono hB.size)
          clear hv1 hEq
          go_wp2_with fail
          refine (flip_any _ _ _ 900 (by omega) (by omega) hs).mono ?_
          rintro e y5 ⟨rf, rfl, hs1, hg1⟩
          replace hSl := slP_gb hSl hg1 hAb.out
          replace hB := hB.trans (gb_toBelow hg1 (Nat.le_refl _) (Nat.le_of_lt hs.lt))
          clear hs hs1 hg1
          cases rf
          · skip
            have hCP := Lib.hid (checkPorts_any A n cap ps _ hSl (by have := hLen.out; omega))
            have hPF := Lib.hid (fun v (hv : Below _ _ v) => portsFault_any A n cap ps v (hSl.below hv) (by have := hLen.out; omega))
            generalize portsF none ps = pf at hCP hPF
            go_wp2_with fail
            refine hCP.out.mono ?_
            rintro e y1 ⟨rfl, hv1⟩
            have hPF1 := Lib.hid (hPF.out _ hv1)
            replace hB := hB.trans (hv1.mono hB.size)
            clear hv1 hCP hPF hSl
            go_wp2_with fail
            refine hPF1.out.mono ?_
            rintro e y2 ⟨rfl, hv1⟩
            replace hB := hB.trans (hv1.mono hB.size)
            clear hv1 hPF1
            go_wp2_with fail
            refine (filtered_any _).mono ?_
            rintro e y3 ⟨rfl, hv1⟩
            replace hB := hB.trans (hv1.mono hB.size)
            clear hv1
            go_wp2_with fail
            go_ret
            exact ⟨rfl, hB⟩
          · have hLO := Lib.hid (leastOf_any A n cap ps _ hSl (by have := hLen.out; omega) hok)
            clear hSl
            go_wp2_with fail
            refine hLO.out.mono ?_
            rintro e y6 ⟨Q2, h, A2, cap2, rfl, hSl, hQ, hh, _, hv1⟩
            obtain rfl := hsame.out Q2 h hQ hh
            replace hB := hB.trans (hv1.mono hB.size)
            clear hv1 hLO hQ hh hsame
            have hCP := Lib.hid (checkPorts_any A2 Q2.length cap2 Q2.reverse _ hSl hR12.out)
            have hPF := Lib.hid (fun v (hv : Below _ _ v) => portsFault_any A2 Q2.length cap2 Q2.reverse v (hSl.below hv) hR12.out)
            generalize portsF none Q2.reverse = pf at hCP hPF
            go_wp2_with fail
            refine hCP.out.mono ?_
            rintro e y1 ⟨rfl, hv1⟩
            have hPF1 := Lib.hid (hPF.out _ hv1)
            replace hB := hB.trans (hv1.mono hB.size)
            clear hv1 hCP hPF hSl
            go_wp2_with fail
            refine hPF1.out.mono ?_
            rintro e y2 ⟨rfl, hv1⟩
            replace hB := hB.trans (hv1.mono hB.size)
            clear hv1 hPF1
            go_wp2_with fail
            refine (filtered_any _).mono ?_
            rintro e y3 ⟨rfl, hv1⟩
            replace hB := hB.trans (hv1.mono hB.size)
            clear hv1
            go_wp2_with fail
            go_ret
            exact ⟨rfl, hB⟩
end Go.Proofs.Ytigbbpgfblnboaa
