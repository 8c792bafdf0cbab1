/- SetsAreAlgebra: two sizes are added. -/
import Derived.Test.YtmgdkefoehlamaaGreatDoorKoSgE
set_option linter.unusedVariables false
set_option linter.unusedSimpArgs false
set_option maxRecDepth 100000
namespace Go.Proofs.YtmgdkefoehlamaaGreatDoor
open Go.RowKit

theorem digS_atG {ds : List Nat} {j q a : Nat} (hq : q + j + 1 = ds.length) (ha : ds[j]? = some a) (h10 : a < 10) (hs : q < (txt (ds.reverse.map (48 + ·))).size) : ((txt (ds.reverse.map (48 + ·)))[q]'hs).toNat = 48 + a := by
  have e0 : ds.length - 1 - q = j := by omega
  have e1 : (txt (ds.reverse.map (48 + ·))).data[q]? = some (UInt8.ofNat (48 + a)) := by
    show ((ds.reverse.map (48 + ·)).map UInt8.ofNat).toArray[q]? = _
    rw [List.getElem?_toArray, List.getElem?_map, List.getElem?_map, List.getElem?_reverse (by omega), e0, ha]
    rfl
  show ((txt (ds.reverse.map (48 + ·))).data[q]'hs).toNat = _
  rw [(Array.getElem?_eq_some_iff.1 e1).2, UInt8.toNat_ofNat']
  omega
theorem decS_sizeG (C : Nat) : (decS C).size = (decR C).length := by
  show ((((decR C).reverse.map (48 + ·)).map UInt8.ofNat).toArray).size = _
  simp
theorem decR_lenG : ∀ (k C : Nat), C < 10 ^ k → 0 < k → (decR C).length ≤ k
  | 0, _, _, h => absurd h (by decide)
  | k + 1, C, h, _ => by
    by_cases h10 : C < 10
    · rw [decR_small h10]; simp
    · rw [decR_big h10, List.length_cons]
      rw [Nat.pow_succ] at h
      rcases Nat.eq_zero_or_pos k with e | e
      · subst e; simp at h; omega
      · have := decR_lenG k (C / 10) (by omega) e
        omega
theorem trim_txt (l : List Nat) (h : ∀ d ∈ l, d < 10) : (⟨(Lib.trimLeftB (txt (l.map (48 + ·))).data.toList 48).toArray⟩ : ByteArray) = txt ((l.dropWhile (· == 0)).map (48 + ·)) := by
  unfold Lib.trimLeftB txt
  have e : ∀ l : List Nat, (∀ d ∈ l, d < 10) → (((l.map (48 + ·)).map UInt8.ofNat).dropWhile (· == 48)) = ((l.dropWhile (· == 0)).map (48 + ·)).map UInt8.ofNat := by
    intro l
    induction l with
    | nil => intro _; rfl
    | cons d r ih =>
      intro h
      have hd := h d List.mem_cons_self
      rw [List.map_cons, List.map_cons]
      by_cases h0 : d = 0
      · subst h0
        rw [List.dropWhile_cons_of_pos (by rfl), List.dropWhile_cons_of_pos (by rfl), ih (fun x hx => h x (List.mem_cons_of_mem _ hx))]
      · rw [List.dropWhile_cons_of_neg, List.dropWhile_cons_of_neg (by simpa using h0)]
        · rfl
        · intro k
          have k1 : UInt8.ofNat (48 + d) = 48 := by simpa using k
          have k2 := congrArg UInt8.toNat k1
          rw [UInt8.toNat_ofNat'] at k2
          have k3 : (48 : UInt8).toNat = 48 := rfl
          rw [k3] at k2
          omega
  show (⟨((((l.map (48 + ·)).map UInt8.ofNat)).dropWhile (· == 48)).toArray⟩ : ByteArray) = _
  rw [e l h]
theorem byt48 {out : List Nat} (h : ∀ d ∈ out, d < 10) : ∀ b ∈ out.map (48 + ·), b < 256 := by
  intro b hb
  obtain ⟨d, hd, rfl⟩ := List.mem_map.1 hb
  have := h d hd
  omega

set_option maxHeartbeats 8000000 in
theorem sizes_any {a b : List Pf} (Aa Ab : Option Addr) (na nb ca cb : Nat) (w : World) (ha : SlE ePf w Aa na ca a) (hb : SlE ePf w Ab nb cb b) (hna : na ≤ 1000) (hnb : nb ≤ 1000) (hRa : RtS a) (hRb : RtS b) :
    Calls Tryz.prog 16 #[.slice Aa na ca, .slice Ab nb cb] w (GivesV (.tuple #[.string (txt ((msd (sizeN a + sizeN b)).map (48 + ·))), .bool true]) w) := by
  have HX := Lib.hid (size_any Aa na ca a w ha hna hRa.u)
  have HY := Lib.hid (fun W (hW : Below w.heap.size w W) => size_any Ab nb cb b W (hb.below hW) hnb hRb.u)
  unfold sizeV at HX HY
  rw [if_pos hRa.f] at HX
  rw [if_pos hRb.f] at HY
  have hx60 := decR_lenG 60 _ (size_small hRa) (by decide)
  have hy60 := decR_lenG 60 _ (size_small hRb) (by decide)
  generalize sizeN a = X at *
  generalize sizeN b = Y at *
  clear ha hb hRa hRb
  have s1 := decS_sizeG X
  have s2 := decS_sizeG Y
  obtain ⟨n, hn⟩ : ∃ n, n = (decR X).length := ⟨_, rfl⟩
  obtain ⟨m, hm⟩ : ∃ m, m = (decR Y).length := ⟨_, rfl⟩
  rw [← hn] at s1 hx60
  rw [← hm] at s2 hy60
  have hcX := decR_lt X
  have hcY := decR_lt Y
  have HA0 := Lib.hid (fun (j q p : Nat) (hq : q + j + 1 = n) (ha : (decR X)[j]? = some p) => (show ∀ hs, ((decS X)[q]'hs).toNat = 48 + p from fun hs => digS_atG (by rw [← hn]; exact hq) ha (hcX p (List.mem_of_getElem? ha)) hs))
  have HB0 := Lib.hid (fun (j q p : Nat) (hq : q + j + 1 = m) (ha : (decR Y)[j]? = some p) => (show ∀ hs, ((decS Y)[q]'hs).toNat = 48 + p from fun hs => digS_atG (by rw [← hm]; exact hq) ha (hcY p (List.mem_of_getElem? ha)) hs))
  replace hcX := Lib.hid hcX
  replace hcY := Lib.hid hcY
  generalize decS X = sx at *
  generalize decS Y = sy at *
  obtain ⟨N, hN⟩ : ∃ N, N = max n m + 1 := ⟨_, rfl⟩
  have hNn : n < N := by omega
  have hNm : m < N := by omega
  have hN62 : N ≤ 61 := by omega
  have hmax : IntKind.i64.wrap (max (n : Int) m + 1) = (N : Int) := by rw [show max (n : Int) m + 1 = (N : Int) by omega]; exact IntWalk.i64_in _ (by omega)
  have hmax2 : n ≤ m → IntKind.i64.wrap ((m : Int) + 1) = (N : Int) := fun h => by rw [show (m : Int) + 1 = (N : Int) by omega]; exact IntWalk.i64_in _ (by omega)
  have hmax3 : m ≤ n → IntKind.i64.wrap ((n : Int) + 1) = (N : Int) := fun h => by rw [show (n : Int) + 1 = (N : Int) by omega]; exact IntWalk.i64_in _ (by omega)
  have hnp : IntKind.i64.wrap ((n : Int) - 1) = (n : Int) - 1 := IntWalk.i64_in _ (by omega)
  have hmp : IntKind.i64.wrap ((m : Int) - 1) = (m : Int) - 1 := IntWalk.i64_in _ (by omega)
  have hst := Lib.hid (SuI.start (decR X) (decR Y))
  have hown0 := Lib.hid (fun (W : World) (hW : w.heap.size ≤ W.heap.size) => (show OwnE eBy 5 w.heap.size (W.alloc (.cells #[] 5)) (.slice (some ⟨W.heap.size, 0, none⟩) 0 0) [] from World.ownsRow.mono (World.ownsRow_made W #[] 0 (Nat.le_refl _) (Nat.zero_le _) (by simp)) hW))
  replace hn := Lib.hid hn
  replace hm := Lib.hid hm
  replace hN := Lib.hid hN
  replace hmax := Lib.hid hmax
  replace hmax2 := Lib.hid hmax2
  replace hmax3 := Lib.hid hmax3
  go_enter Tryz.func16, Tryz.ntmps16
  go_wp2_with fail
  refine HX.out.mono ?_
  rintro e w1 ⟨rfl, hb1⟩
  have HY1 := Lib.hid (HY.out w1 hb1)
  clear HX HY
  go_wp2_with fail
  refine HY1.out.mono ?_
  rintro e w2 ⟨rfl, hv⟩
  have hbw := hb1.trans (hv.mono hb1.size)
  clear hb1 hv HY1
  have hown := hown0.out w2 hbw.size
  have hbw2 := hbw.alloc hbw.size (.cells #[] 5)
  clear hown0
  go_upto_block 0 with fail
  replace hbw := hbw2
  clear hbw2
  generalize w2.alloc (.cells #[] 5) = w3 at *
  have hzN : max (n : Int) m + 1 = (N : Int) := by have := hN.out; omega
  rw [hzN]
  clear hzN
  go_wp2_with fail
  go_loopw [10, 11, 31] (fun o c i wr => ∃ (out : List Nat) (cc : Nat), out.length ≤ N ∧ c = .int .i64 (cc : Int) ∧ i = .int .i64 (out.length : Int) ∧ Hid (SuI (decR X) (decR Y) out.length out cc) ∧ OwnE eBy 5 w.heap.size wr o (out.map (48 + ·)) ∧ Below w.heap.size w wr) (fun _ _ i _ => N - (intOf i).toNat)
  case atStart => exact ⟨[], 0, Nat.zero_le _, rfl, rfl, hst, hown, hbw⟩
  case round =>
    clear hown hbw hst
    obtain ⟨out, cc, hj, rfl, rfl, hI, hown, hbw⟩ := hrel
    by_cases hlt : out.length < N
    · have hlt' : (out.length : Int) < N := by omega
      have hc1 : cc ≤ 1 := hI.out.2.2.2
      rcases Nat.lt_or_ge out.length n with hltA | hltA
      · obtain ⟨qa, hqa⟩ : ∃ q, q + out.length + 1 = n := ⟨n - out.length - 1, by omega⟩
        obtain ⟨pa, hpa⟩ : ∃ a, (decR X)[out.length]? = some a := ⟨_, List.getElem?_eq_getElem (by have := hn.out; omega)⟩
        have hpa10 := hcX.out pa (List.mem_of_getElem? hpa)
        have HA := HA0.out out.length qa pa hqa hpa
        have gA := Lib.hid (show (decR X).getD out.length 0 = pa by rw [List.getD_eq_getElem?_getD, hpa]; rfl)
        obtain ⟨pa', hpa'⟩ : ∃ z, z = 48 + pa := ⟨_, rfl⟩
        rw [← hpa'] at HA
        have hla : (out.length : Int) < n := by omega
        have hwa : IntKind.i64.wrap ((n : Int) - 1 - out.length) = qa := by rw [show (n : Int) - 1 - out.length = qa by omega]; exact IntWalk.i64_in _ (by omega)
        have hia : (qa : Int) < n := by omega
        rcases Nat.lt_or_ge out.length m with hltB | hltB
        · obtain ⟨qb, hqb⟩ : ∃ q, q + out.length + 1 = m := ⟨m - out.length - 1, by omega⟩
          obtain ⟨pb, hpb⟩ : ∃ a, (decR Y)[out.length]? = some a := ⟨_, List.getElem?_eq_getElem (by have := hm.out; omega)⟩
          have hpb10 := hcY.out pb (List.mem_of_getElem? hpb)
          have HB := HB0.out out.length qb pb hqb hpb
          have gB := Lib.hid (show (decR Y).getD out.length 0 = pb by rw [List.getD_eq_getElem?_getD, hpb]; rfl)
          obtain ⟨pb', hpb'⟩ : ∃ z, z = 48 + pb := ⟨_, rfl⟩
          rw [← hpb'] at HB
          have hlb : (out.length : Int) < m := by omega
          have hwb : IntKind.i64.wrap ((m : Int) - 1 - out.length) = qb := by rw [show (m : Int) - 1 - out.length = qb by omega]; exact IntWalk.i64_in _ (by omega)
          have hib : (qb : Int) < m := by omega
          obtain ⟨s2, hs2⟩ : ∃ z, z = pa + pb + cc := ⟨_, rfl⟩
          obtain ⟨r, hr⟩ : ∃ z, z = s2 % 10 := ⟨_, rfl⟩
          obtain ⟨c', hc'⟩ : ∃ z, z = s2 / 10 := ⟨_, rfl⟩
          obtain ⟨d, hd⟩ : ∃ z, z = 48 + r := ⟨_, rfl⟩
          have hstep := Lib.hid (hI.out.step (n := s2) (by rw [gA.out, gB.out]; omega) (getD_lt hcX.out _) (getD_lt hcY.out _))
          rw [← hr, ← hc'] at hstep
          have hdr := Lib.hid (show 48 + r = d from hd.symm)
          have t12 := Lib.hid (show c' = s2 / 10 ∧ s2 ≤ 100 by omega)
          have t7 : (s2 : Int).tmod 10 = r := by rw [Int.tmod_eq_emod_of_nonneg (by omega)]; omega
          have t8 : IntKind.i64.wrap (48 + (r : Int)) = d := by rw [show 48 + (r : Int) = d by omega]; exact IntWalk.i64_in _ (by omega)
          have t9 : IntKind.u8.wrap (d : Int) = d := by rw [IntKind.wrap_u8]; omega
          have t10 : IntKind.i64.wrap ((s2 : Int).tdiv 10) = c' := by rw [Int.tdiv_eq_ediv_of_nonneg (by omega)]; rw [show (s2 : Int) / 10 = c' by omega]; exact IntWalk.i64_in _ (by omega)
          have t1 : IntKind.u8.wrap ((pa' : Int) - 48) = pa := by rw [IntKind.wrap_u8]; omega
          have t2 : IntKind.i64.wrap (pa : Int) = pa := IntWalk.i64_in _ (by omega)
          have t3 : IntKind.u8.wrap ((pb' : Int) - 48) = pb := by rw [IntKind.wrap_u8]; omega
          have t4 : IntKind.i64.wrap (pb : Int) = pb := IntWalk.i64_in _ (by omega)
          obtain ⟨sA, hsA⟩ : ∃ z, z = cc + pa := ⟨_, rfl⟩
          have t5 : IntKind.i64.wrap ((cc : Int) + pa) = sA := by rw [show (cc : Int) + pa = sA by omega]; exact IntWalk.i64_in _ (by omega)
          have t6 : IntKind.i64.wrap ((sA : Int) + pb) = s2 := by rw [show (sA : Int) + pb = s2 by omega]; exact IntWalk.i64_in _ (by omega)
          have hbs := hbw.size
          have hjl : out.length ≤ 61 := by omega
          clear hN62 hNn hNm hj hc1 hlt hltA hltB hx60 hy60 HA0 HB0 hcX hcY hn hm hN hmax hmax2 hmax3 hI hr hc' hd gA gB hs2 hpa hpa10 hpa' hqa hpb hpb10 hpb' hqb hsA
          go_wp2_with (at_builtin; refine wpList_app tyeBy rfl _ _ rfl w.heap.size _ (out.map (48 + ·)) [d] rfl (hown.alloc' _) ⟨_, 0, none⟩ 1 1 rfl rfl ?c1 ?c2 ?c3 ?_)
          case c1 => first | exact cell_row_at _ _ _ _ rfl | (intro j u hj; rw [eBy.cells_single] at hj; exact hj)
          case c2 => first | omega | (simp; omega)
          case c3 => first | omega | (simp; omega)
          intro v9 w9 hown9 hg9 _
          have hb9 : Below w.heap.size w w9 := (hbw.alloc hbw.size _).grown hg9 (by first | omega | (simp; omega)) (fun k h => (hown.lt k h).1)
          have hsnoc : out.map (48 + ·) ++ [d] = (out ++ [r]).map (48 + ·) := by rw [List.map_append, ← hdr.out]; rfl
          rw [hsnoc] at hown9
          clear hsnoc hg9 hown hbw
          go_wp2_with fail
          go_roundw
          case rel => exact ⟨out ++ [r], c', by simp only [List.length_append, List.length_singleton]; omega, by first | rfl | (simp only [Value.int.injEq, true_and]; unfold wrap64; have := t12.out; omega), by rw [List.length_append]; go_num, Lib.hid (by rw [List.length_append]; exact hstep.out), hown9, hb9⟩
          case measure => simp [intOf]; omega
        · have hlb : ¬ (out.length : Int) < m := by omega
          have gB := Lib.hid (show (decR Y).getD out.length 0 = 0 by rw [List.getD_eq_getElem?_getD, List.getElem?_eq_none (by have := hm.out; omega)]; rfl)
          obtain ⟨s2, hs2⟩ : ∃ z, z = pa + 0 + cc := ⟨_, rfl⟩
          obtain ⟨r, hr⟩ : ∃ z, z = s2 % 10 := ⟨_, rfl⟩
          obtain ⟨c', hc'⟩ : ∃ z, z = s2 / 10 := ⟨_, rfl⟩
          obtain ⟨d, hd⟩ : ∃ z, z = 48 + r := ⟨_, rfl⟩
          have hstep := Lib.hid (hI.out.step (n := s2) (by rw [gA.out, gB.out]; omega) (getD_lt hcX.out _) (getD_lt hcY.out _))
          rw [← hr, ← hc'] at hstep
          have hdr := Lib.hid (show 48 + r = d from hd.symm)
          have t12 := Lib.hid (show c' = s2 / 10 ∧ s2 ≤ 100 by omega)
          have t7 : (s2 : Int).tmod 10 = r := by rw [Int.tmod_eq_emod_of_nonneg (by omega)]; omega
          have t8 : IntKind.i64.wrap (48 + (r : Int)) = d := by rw [show 48 + (r : Int) = d by omega]; exact IntWalk.i64_in _ (by omega)
          have t9 : IntKind.u8.wrap (d : Int) = d := by rw [IntKind.wrap_u8]; omega
          have t10 : IntKind.i64.wrap ((s2 : Int).tdiv 10) = c' := by rw [Int.tdiv_eq_ediv_of_nonneg (by omega)]; rw [show (s2 : Int) / 10 = c' by omega]; exact IntWalk.i64_in _ (by omega)
          have t1 : IntKind.u8.wrap ((pa' : Int) - 48) = pa := by rw [IntKind.wrap_u8]; omega
          have t2 : IntKind.i64.wrap (pa : Int) = pa := IntWalk.i64_in _ (by omega)
          have t5 : IntKind.i64.wrap ((cc : Int) + pa) = s2 := by rw [show (cc : Int) + pa = s2 by omega]; exact IntWalk.i64_in _ (by omega)
          have hbs := hbw.size
          have hjl : out.length ≤ 61 := by omega
          clear hN62 hNn hNm hj hc1 hlt hltA hltB hx60 hy60 HA0 HB0 hcX hcY hn hm hN hmax hmax2 hmax3 hI hr hc' hd gA gB hs2 hpa hpa10 hpa' hqa
          go_wp2_with (at_builtin; refine wpList_app tyeBy rfl _ _ rfl w.heap.size _ (out.map (48 + ·)) [d] rfl (hown.alloc' _) ⟨_, 0, none⟩ 1 1 rfl rfl ?c1 ?c2 ?c3 ?_)
          case c1 => first | exact cell_row_at _ _ _ _ rfl | (intro j u hj; rw [eBy.cells_single] at hj; exact hj)
          case c2 => first | omega | (simp; omega)
          case c3 => first | omega | (simp; omega)
          intro v9 w9 hown9 hg9 _
          have hb9 : Below w.heap.size w w9 := (hbw.alloc hbw.size _).grown hg9 (by first | omega | (simp; omega)) (fun k h => (hown.lt k h).1)
          have hsnoc : out.map (48 + ·) ++ [d] = (out ++ [r]).map (48 + ·) := by rw [List.map_append, ← hdr.out]; rfl
          rw [hsnoc] at hown9
          clear hsnoc hg9 hown hbw
          go_wp2_with fail
          go_roundw
          case rel => exact ⟨out ++ [r], c', by simp only [List.length_append, List.length_singleton]; omega, by first | rfl | (simp only [Value.int.injEq, true_and]; unfold wrap64; have := t12.out; omega), by rw [List.length_append]; go_num, Lib.hid (by rw [List.length_append]; exact hstep.out), hown9, hb9⟩
          case measure => simp [intOf]; omega
      · have hla : ¬ (out.length : Int) < n := by omega
        have gA := Lib.hid (show (decR X).getD out.length 0 = 0 by rw [List.getD_eq_getElem?_getD, List.getElem?_eq_none (by have := hn.out; omega)]; rfl)
        rcases Nat.lt_or_ge out.length m with hltB | hltB
        · obtain ⟨qb, hqb⟩ : ∃ q, q + out.length + 1 = m := ⟨m - out.length - 1, by omega⟩
          obtain ⟨pb, hpb⟩ : ∃ a, (decR Y)[out.length]? = some a := ⟨_, List.getElem?_eq_getElem (by have := hm.out; omega)⟩
          have hpb10 := hcY.out pb (List.mem_of_getElem? hpb)
          have HB := HB0.out out.length qb pb hqb hpb
          have gB := Lib.hid (show (decR Y).getD out.length 0 = pb by rw [List.getD_eq_getElem?_getD, hpb]; rfl)
          obtain ⟨pb', hpb'⟩ : ∃ z, z = 48 + pb := ⟨_, rfl⟩
          rw [← hpb'] at HB
          have hlb : (out.length : Int) < m := by omega
          have hwb : IntKind.i64.wrap ((m : Int) - 1 - out.length) = qb := by rw [show (m : Int) - 1 - out.length = qb by omega]; exact IntWalk.i64_in _ (by omega)
          have hib : (qb : Int) < m := by omega
          obtain ⟨s2, hs2⟩ : ∃ z, z = 0 + pb + cc := ⟨_, rfl⟩
          obtain ⟨r, hr⟩ : ∃ z, z = s2 % 10 := ⟨_, rfl⟩
          obtain ⟨c', hc'⟩ : ∃ z, z = s2 / 10 := ⟨_, rfl⟩
          obtain ⟨d, hd⟩ : ∃ z, z = 48 + r := ⟨_, rfl⟩
          have hstep := Lib.hid (hI.out.step (n := s2) (by rw [gA.out, gB.out]; omega) (getD_lt hcX.out _) (getD_lt hcY.out _))
          rw [← hr, ← hc'] at hstep
          have hdr := Lib.hid (show 48 + r = d from hd.symm)
          have t12 := Lib.hid (show c' = s2 / 10 ∧ s2 ≤ 100 by omega)
          have t7 : (s2 : Int).tmod 10 = r := by rw [Int.tmod_eq_emod_of_nonneg (by omega)]; omega
          have t8 : IntKind.i64.wrap (48 + (r : Int)) = d := by rw [show 48 + (r : Int) = d by omega]; exact IntWalk.i64_in _ (by omega)
          have t9 : IntKind.u8.wrap (d : Int) = d := by rw [IntKind.wrap_u8]; omega
          have t10 : IntKind.i64.wrap ((s2 : Int).tdiv 10) = c' := by rw [Int.tdiv_eq_ediv_of_nonneg (by omega)]; rw [show (s2 : Int) / 10 = c' by omega]; exact IntWalk.i64_in _ (by omega)
          have t3 : IntKind.u8.wrap ((pb' : Int) - 48) = pb := by rw [IntKind.wrap_u8]; omega
          have t4 : IntKind.i64.wrap (pb : Int) = pb := IntWalk.i64_in _ (by omega)
          have t5 : IntKind.i64.wrap ((cc : Int) + pb) = s2 := by rw [show (cc : Int) + pb = s2 by omega]; exact IntWalk.i64_in _ (by omega)
          have hbs := hbw.size
          have hjl : out.length ≤ 61 := by omega
          clear hN62 hNn hNm hj hc1 hlt hltA hltB hx60 hy60 HA0 HB0 hcX hcY hn hm hN hmax hmax2 hmax3 hI hr hc' hd gA gB hs2 hpb hpb10 hpb' hqb
          go_wp2_with (at_builtin; refine wpList_app tyeBy rfl _ _ rfl w.heap.size _ (out.map (48 + ·)) [d] rfl (hown.alloc' _) ⟨_, 0, none⟩ 1 1 rfl rfl ?c1 ?c2 ?c3 ?_)
          case c1 => first | exact cell_row_at _ _ _ _ rfl | (intro j u hj; rw [eBy.cells_single] at hj; exact hj)
          case c2 => first | omega | (simp; omega)
          case c3 => first | omega | (simp; omega)
          intro v9 w9 hown9 hg9 _
          have hb9 : Below w.heap.size w w9 := (hbw.alloc hbw.size _).grown hg9 (by first | omega | (simp; omega)) (fun k h => (hown.lt k h).1)
          have hsnoc : out.map (48 + ·) ++ [d] = (out ++ [r]).map (48 + ·) := by rw [List.map_append, ← hdr.out]; rfl
          rw [hsnoc] at hown9
          clear hsnoc hg9 hown hbw
          go_wp2_with fail
          go_roundw
          case rel => exact ⟨out ++ [r], c', by simp only [List.length_append, List.length_singleton]; omega, by first | rfl | (simp only [Value.int.injEq, true_and]; unfold wrap64; have := t12.out; omega), by rw [List.length_append]; go_num, Lib.hid (by rw [List.length_append]; exact hstep.out), hown9, hb9⟩
          case measure => simp [intOf]; omega
        · have hlb : ¬ (out.length : Int) < m := by omega
          have gB := Lib.hid (show (decR Y).getD out.length 0 = 0 by rw [List.getD_eq_getElem?_getD, List.getElem?_eq_none (by have := hm.out; omega)]; rfl)
          obtain ⟨r, hr⟩ : ∃ z, z = cc % 10 := ⟨_, rfl⟩
          obtain ⟨c', hc'⟩ : ∃ z, z = cc / 10 := ⟨_, rfl⟩
          obtain ⟨d, hd⟩ : ∃ z, z = 48 + r := ⟨_, rfl⟩
          have hstep := Lib.hid (hI.out.step (n := cc) (by rw [gA.out, gB.out]; omega) (getD_lt hcX.out _) (getD_lt hcY.out _))
          rw [← hr, ← hc'] at hstep
          have hdr := Lib.hid (show 48 + r = d from hd.symm)
          have t12 := Lib.hid (show c' = cc / 10 ∧ cc ≤ 100 by omega)
          have t7 : (cc : Int).tmod 10 = r := by rw [Int.tmod_eq_emod_of_nonneg (by omega)]; omega
          have t8 : IntKind.i64.wrap (48 + (r : Int)) = d := by rw [show 48 + (r : Int) = d by omega]; exact IntWalk.i64_in _ (by omega)
          have t9 : IntKind.u8.wrap (d : Int) = d := by rw [IntKind.wrap_u8]; omega
          have t10 : IntKind.i64.wrap ((cc : Int).tdiv 10) = c' := by rw [Int.tdiv_eq_ediv_of_nonneg (by omega)]; rw [show (cc : Int) / 10 = c' by omega]; exact IntWalk.i64_in _ (by omega)
          have hbs := hbw.size
          have hjl : out.length ≤ 61 := by omega
          clear hN62 hNn hNm hj hc1 hlt hltA hltB hx60 hy60 HA0 HB0 hcX hcY hn hm hN hmax hmax2 hmax3 hI hr hc' hd gA gB
          go_wp2_with (at_builtin; refine wpList_app tyeBy rfl _ _ rfl w.heap.size _ (out.map (48 + ·)) [d] rfl (hown.alloc' _) ⟨_, 0, none⟩ 1 1 rfl rfl ?c1 ?c2 ?c3 ?_)
          case c1 => first | exact cell_row_at _ _ _ _ rfl | (intro j u hj; rw [eBy.cells_single] at hj; exact hj)
          case c2 => first | omega | (simp; omega)
          case c3 => first | omega | (simp; omega)
          intro v9 w9 hown9 hg9 _
          have hb9 : Below w.heap.size w w9 := (hbw.alloc hbw.size _).grown hg9 (by first | omega | (simp; omega)) (fun k h => (hown.lt k h).1)
          have hsnoc : out.map (48 + ·) ++ [d] = (out ++ [r]).map (48 + ·) := by rw [List.map_append, ← hdr.out]; rfl
          rw [hsnoc] at hown9
          clear hsnoc hg9 hown hbw
          go_wp2_with fail
          go_roundw
          case rel => exact ⟨out ++ [r], c', by simp only [List.length_append, List.length_singleton]; omega, by first | rfl | (simp only [Value.int.injEq, true_and]; unfold wrap64; have := t12.out; omega), by rw [List.length_append]; go_num, Lib.hid (by rw [List.length_append]; exact hstep.out), hown9, hb9⟩
          case measure => simp [intOf]; omega
    · have hjn : out.length = N := by omega
      have hfin := Lib.hid (hI.out.done (by have := hn.out; omega) (by have := hm.out; omega)).2
      have hd10 := Lib.hid hI.out.2.2.1
      have hne : out ≠ [] := by intro e; rw [e] at hjn; simp at hjn; omega
      obtain ⟨g', cap', hv, _⟩ := hown.form (by simpa using hne)
      subst hv
      have hlm : (out.map (48 + ·)).length = out.length := List.length_map _
      rw [hlm] at hown ⊢
      have HR := Lib.hid (rev_any w.heap.size g' cap' (out.map (48 + ·)) wr (by rw [hlm]; exact hown) (by simpa using hne) (by omega))
      rw [hlm] at HR
      have hnlt : ¬ (out.length : Int) < N := by omega
      have hlt9 : g' < wr.heap.size ∧ w.heap.size ≤ g' := by have := hown.lt g' rfl; omega
      have h60 : out.length ≤ 61 := by omega
      clear hown hI hlm hlt hj hjn hne hN62 hNn hNm HA0 HB0 hcX hcY
      go_wp2_with fail
      refine HR.out.mono ?_
      rintro e w8 ⟨rfl, hown, hg⟩
      have hb8 := hbw.grown hg hbw.size (fun k h => by have := Option.some.inj h; omega)
      have hrv : (out.map (48 + ·)).reverse = out.reverse.map (48 + ·) := by rw [List.map_reverse]
      rw [hrv] at hown
      have cv := conv_eBy hown (by simp) (byt48 (fun d hd => hd10.out d (List.mem_reverse.1 hd)))
      have HT := Lib.hid (Tryz.strings_TrimLeft_one (txt (out.reverse.map (48 + ·))) 48 (by decide) w8)
      rw [trim_txt _ (fun d hd => hd10.out d (List.mem_reverse.1 hd)), hfin.out] at HT
      clear hown hg hrv HR hbw
      generalize txt (out.reverse.map (48 + ·)) = S8 at *
      obtain ⟨S9, hS9⟩ : ∃ S, S = txt ((msd (X + Y)).map (48 + ·)) := ⟨_, rfl⟩
      rw [← hS9] at HT
      replace hS9 := Lib.hid hS9
      clear hfin hd10
      go_wp2_with fail
      refine HT.out.mono ?_
      rintro e w9 ⟨rfl, rfl⟩
      go_wp2_with fail
      go_ret2
      exact ⟨by simp; exact hS9.out, hb8⟩
end Go.Proofs.YtmgdkefoehlamaaGreatDoor
