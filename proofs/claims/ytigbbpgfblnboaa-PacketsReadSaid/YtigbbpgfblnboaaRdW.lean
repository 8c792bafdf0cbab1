/- PacketsRead: the law. -/
import Derived.Test.YtigbbpgfblnboaaRdS
import Derived.Test.YtigbbpgfblnboaaRdV
import Derived.Test.YtigbbpgfblnboaaRdT
namespace Go.Proofs.Ytigbbpgfblnboaa
open Go.RowKit
set_option linter.unusedVariables false
set_option linter.unusedSimpArgs false

theorem filtered_any (w : World) : Calls Try.prog 16 #[] w (GivesV (.bool true) w) := by
  have hS := slB_lit w [0, 1] 2 _ rfl rfl
  have hs : sumR [0, 1] = 65534 := by decide
  have HS := Lib.hid (sum_any _ 2 2 [0, 1] _ hS (by omega) (by intro b hb; simp at hb; omega))
  rw [hs] at HS
  clear hS hs
  go_enter Try.func16, Try.ntmps16
  go_wp2_with fail
  refine HS.out.mono ?_
  rintro e w1 ⟨rfl, hb1⟩
  go_wp2_with fail
  go_ret
  exact ⟨rfl, ((Below.refl _ _).alloc (Nat.le_refl _) _).trans (hb1.mono (by simp))⟩

/-- What is read. -/
def qX (bs : List Nat) : Pk := if rdE bs = 0 then rdBody (headQ bs) (bs.drop (headN bs)) else zq
def plX (bs : List Nat) : List Nat := if rdE bs = 0 then (bs.drop (headN bs)).drop (szP (headQ bs)) else []
theorem plX_len (bs : List Nat) : (plX bs).length ≤ bs.length := by
  unfold plX; split
  · rw [List.length_drop, List.length_drop]; omega
  · simp
/-- A packet and an error are handed back. -/
def BothPost (bs : List Nat) (w : World) (e : Ending) (w' : World) : Prop := ∃ A' n' c', e = .returned (.tuple #[pkV (qX bs) (.slice A' n' c'), .int .i64 (rdE bs)]) ∧ Below w.heap.size w w' ∧ SlB w' A' n' c' (plX bs)
theorem readPacket_both (A : Option Addr) (n cap : Nat) (bs : List Nat) (w : World) (hS : SlB w A n cap bs) (hn2 : n ≤ 1000) (hb : Byt bs) :
    Calls Try.prog 29 #[.slice A n cap] w (BothPost bs w) := by
  refine (readPacket_any A n cap bs w hS hn2 hb).mono ?_
  rintro e w' ⟨q', v', rfl, hb', h0, h1⟩
  unfold BothPost qX plX
  by_cases hE : rdE bs = 0
  · obtain ⟨rfl, A', n', c', rfl, ho⟩ := h1 hE
    rw [if_pos hE, if_pos hE]
    exact ⟨A', n', c', rfl, hb', ho.slv⟩
  · obtain ⟨rfl, rfl⟩ := h0 hE
    rw [if_neg hE, if_neg hE]
    exact ⟨none, 0, 0, rfl, hb', rfl, Nat.le_refl _, .inl rfl⟩
theorem packetRead_both (A : Option Addr) (n cap : Nat) (bs : List Nat) (w : World) (hS : SlB w A n cap bs) (hn2 : n ≤ 1000) (hb : Byt bs) :
    Calls Try.prog 30 #[.slice A n cap] w (BothPost bs w) := by
  refine (packetRead_any A n cap bs w hS hn2 hb).mono ?_
  rintro e w' ⟨q', v', rfl, hb', h0, h1⟩
  have hs := rd_same hb
  unfold BothPost qX plX
  by_cases hE : rdE bs = 0
  · obtain ⟨rfl, A', n', c', rfl, ho⟩ := h1 (hs.1.trans hE)
    rw [if_pos hE, if_pos hE]
    exact ⟨A', n', c', by rw [hs.1, hs.2 hE], hb', ho⟩
  · obtain ⟨rfl, rfl⟩ := h0 (fun h => hE (hs.1.symm.trans h))
    rw [if_neg hE, if_neg hE]
    exact ⟨none, 0, 0, by rw [hs.1], hb', rfl, Nat.le_refl _, .inl rfl⟩
/-- What stands: the bytes. -/
structure AtL (w : World) (A : Option Addr) (L c : Nat) (bs : List Nat) (u : World) : Prop where
  s : SlB u A L c bs
  b : Below w.heap.size w u
theorem AtL.below {w u u' : World} {A : Option Addr} {L c : Nat} {bs : List Nat} (h : AtL w A L c bs u) (hb : Below u.heap.size u u') : AtL w A L c bs u' := ⟨h.s.below hb, h.b.trans (hb.mono h.b.size)⟩
/-- A packet in its block, with its payload. -/
structure AtY (p : Nat) (q : Pk) (A : Option Addr) (n c : Nat) (pl : List Nat) (u : World) : Prop where
  p : Blk u p (pkL q (.slice A n c)) 45
  s : SlB u A n c pl
theorem AtY.below {p : Nat} {q : Pk} {A : Option Addr} {n c : Nat} {pl : List Nat} {u u' : World} (h : AtY p q A n c pl u) (hb : Below u.heap.size u u') : AtY p q A n c pl u' := ⟨h.p.below hb, h.s.below hb⟩
theorem new_row (u : World) (q : Pk) (v : Value) : Below u.heap.size u ((u.alloc (.cells #[.bool false, .int .u64 0, .int .u64 0, .bool false, .int .u64 0, .int .u64 0, .int .i64 0, .int .i64 0, .int .i64 0, .int .i64 0, .bool false, .bool false, .bool false, .bool false, .int .i64 0, .int .i64 0, .bool false, .int .i64 0, .slice none 0 0] 45)).setRow u.heap.size (pkL q v).toArray) :=
  ((Below.refl _ _).alloc (Nat.le_refl _) _).trans ((Blk.new u zeroP 45).rowB u.heap.size (Nat.le_refl _) _)

set_option maxHeartbeats 2000000 in
set_option maxRecDepth 100000 in
theorem packetsRead_walk (a : Option Addr) (len cap : Nat) (w : World) (hs : Str (w.alloc (.cells #[.slice a len cap, .int .i64 0] 25)) w.heap.size 1000) :
    Calls Try.prog 5 #[.slice a len cap] w fun e w' => e = .returned (.bool true) ∧ Below w.heap.size w w' := by
  have hB0 : Below w.heap.size w (w.alloc (.cells #[.slice a len cap, .int .i64 0] 25)) := (Below.refl _ _).alloc (Nat.le_refl _) _
  have HPK := Lib.hid (packetBytesG_any _ w.heap.size 800 (hs.le (by omega)))
  clear hs
  go_enter Try.func5, Try.ntmps5
  go_wp2_with fail
  refine HPK.out.mono ?_
  rintro e u1 ⟨v, bs, rfl, hby, hln, hG⟩
  obtain ⟨L, hL⟩ : ∃ L, L = bs.length := ⟨_, rfl⟩
  obtain ⟨A, c, rfl, hSl, hA⟩ := hG.o.sln hL.symm
  have hX : AtL w A L c bs u1 := ⟨hSl, hB0.trans (gb_toBelow hG.g (Nat.le_refl _) (by simp))⟩
  have hL2 : L ≤ 150 := by omega
  have hpl := plX_len bs
  have HR1 := Lib.hid (fun u h => readPacket_both A L c bs u h (by omega) hby)
  have HR2 := Lib.hid (fun u h => packetRead_both A L c bs u h (by omega) hby)
  unfold BothPost at HR1 HR2
  have HS1 := Lib.hid (fun u h => sum_any A L c bs u h (by omega) hby)
  have HS2 := Lib.hid (fun u h => checkSumOf_any A L c bs u h (by omega) hby)
  have hpn : Hid ((plX bs).length ≤ 1000) := Lib.hid (by omega)
  generalize rdE bs = E at HR1 HR2
  generalize qX bs = q at HR1 HR2
  generalize plX bs = pl at HR1 HR2 hpn
  generalize sumR bs = sm at HS1 HS2
  replace hX := Lib.hid hX
  replace hL := Lib.hid hL
  clear HPK hB0 hG hSl hA hby hln hpl
  have HR1' := Lib.hid (HR1.out _ hX.out.s)
  go_wp2_with fail
  refine HR1'.out.mono ?_
  rintro e u2 ⟨A1, n1, c1, rfl, hb2, hs2⟩
  replace hX := Lib.hid (hX.out.below hb2)
  have S1 := stPk_run (q := q) (v := .slice A1 n1 c1) (Blk.new u2 zeroP 45) rfl rfl
  have hn := new_row u2 q (.slice A1 n1 c1)
  have hY : Hid (AtY u2.heap.size q A1 n1 c1 pl ((u2.alloc (.cells #[.bool false, .int .u64 0, .int .u64 0, .bool false, .int .u64 0, .int .u64 0, .int .i64 0, .int .i64 0, .int .i64 0, .int .i64 0, .bool false, .bool false, .bool false, .bool false, .int .i64 0, .int .i64 0, .bool false, .int .i64 0, .slice none 0 0] 45)).setRow u2.heap.size (pkL q (.slice A1 n1 c1)).toArray)) := Lib.hid ⟨(Blk.new u2 zeroP 45).rowS _, hs2.below hn⟩
  replace hX := Lib.hid (hX.out.below hn)
  have HR2' := Lib.hid (HR2.out _ hX.out.s)
  clear HR1 HR1' HR2 hb2 hs2 hn
  go_wp2_with fail
  obtain ⟨p1, hp1⟩ : ∃ p1, p1 = u2.heap.size := ⟨_, rfl⟩
  rw [← hp1] at hX hY HR2' ⊢
  replace hp1 := Lib.hid hp1
  refine HR2'.out.mono ?_
  rintro e u4 ⟨A2, n2, c2, rfl, hb4, hs4⟩
  replace hX := Lib.hid (hX.out.below hb4)
  replace hY := Lib.hid (hY.out.below hb4)
  have S2 := stPk_run (q := q) (v := .slice A2 n2 c2) (Blk.new u4 zeroP 45) rfl rfl
  have hn := new_row u4 q (.slice A2 n2 c2)
  have hZ : Hid (AtY u4.heap.size q A2 n2 c2 pl ((u4.alloc (.cells #[.bool false, .int .u64 0, .int .u64 0, .bool false, .int .u64 0, .int .u64 0, .int .i64 0, .int .i64 0, .int .i64 0, .int .i64 0, .bool false, .bool false, .bool false, .bool false, .int .i64 0, .int .i64 0, .bool false, .int .i64 0, .slice none 0 0] 45)).setRow u4.heap.size (pkL q (.slice A2 n2 c2)).toArray)) := Lib.hid ⟨(Blk.new u4 zeroP 45).rowS _, hs4.below hn⟩
  replace hX := Lib.hid (hX.out.below hn)
  replace hY := Lib.hid (hY.out.below hn)
  have hnn : n2 = n1 := by rw [hs4.len, hY.out.s.len]
  subst hnn
  have L1 := ldPk_run hY.out.p
  have L2 := ldPk_run hZ.out.p
  have HSm := Lib.hid (same_any q A1 A2 n2 c1 c2 pl _ hY.out.s hZ.out.s (by have := hpn.out; have := hs4.len; omega))
  have hEE : (E == E) = true := by simp
  clear HR2' hb4 hs4 hn S1
  go_wp2_with fail
  refine HSm.out.mono ?_
  rintro e u6 ⟨rfl, hb6⟩
  replace hX := Lib.hid (hX.out.below hb6)
  have H1 := Lib.hid (HS1.out _ hX.out.s)
  clear HSm hY hZ L1 L2 hb6 S2 HS1
  go_wp2_with fail
  refine H1.out.mono ?_
  rintro e u7 ⟨rfl, hb7⟩
  replace hX := Lib.hid (hX.out.below hb7)
  have H2 := Lib.hid (HS2.out _ hX.out.s)
  have hss : (sm == sm) = true := by simp
  clear H1 hb7 HS2
  go_wp2_with fail
  refine H2.out.mono ?_
  rintro e u8 ⟨rfl, hb8⟩
  replace hX := Lib.hid (hX.out.below hb8)
  clear H2 hb8
  go_wp2_with fail
  refine (filtered_any _).mono ?_
  rintro e u9 ⟨rfl, hb9⟩
  replace hX := Lib.hid (hX.out.below hb9)
  clear hb9
  go_wp2_with fail
  go_ret
  exact ⟨rfl, hX.out.b⟩
end Go.Proofs.Ytigbbpgfblnboaa
