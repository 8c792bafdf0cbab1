/- Packets come back: what is written is read as it was, what is read is written so (pure). -/
import Derived.Test.YtijlahgmnpnmfaaGreatDoorKmPdZ
import Derived.Test.YtijlahgmnpnmfaaGreatDoorKmPdN
namespace Go.Proofs.YtijlahgmnpnmfaaGreatDoor
open Go.RowKit
set_option linter.unusedVariables false
set_option linter.unusedSimpArgs false

/-- What is read. -/
def qX (bs : List Nat) : Pk := if rdE bs = 0 then rdBody (headQ bs) (bs.drop (headN bs)) else zq
def plX (bs : List Nat) : List Nat := if rdE bs = 0 then (bs.drop (headN bs)).drop (szP (headQ bs)) else []
theorem plX_len (bs : List Nat) : (plX bs).length ≤ bs.length := by
  unfold plX; split
  · rw [List.length_drop, List.length_drop]; omega
  · simp
theorem be2 (n : Nat) : ∃ x y, be n 2 = [x, y] ∧ numF [x, y] = n % 65536 :=
  ⟨_, _, rfl, by have := numF_be n 2; simpa [be] using this⟩
theorem be4 (n : Nat) : ∃ a b c d, be n 4 = [a, b, c, d] ∧ numF [a, b, c, d] = n % 4294967296 :=
  ⟨_, _, _, _, rfl, by have := numF_be n 4; simpa [be] using this⟩
theorem be8 (n : Nat) : ∃ a b c d e f g h, be n 8 = [a, b, c, d, e, f, g, h] ∧ numF [a, b, c, d, e, f, g, h] = n % 18446744073709551616 :=
  ⟨_, _, _, _, _, _, _, _, rfl, by have := numF_be n 8; simpa [be] using this⟩
/-- What the head tells of a packet. -/
def baseQ (q : Pk) : Pk := ⟨q.fs, q.fh, q.fl, q.ts, q.th, q.tl, q.hops, q.proto, 0, 0, false, false, false, false, 0, 0, false, 0⟩
theorem proto_code {q : Pk} (h : PkOk q) : protoN q.fs (codeN q.proto q.fs).toNat = q.proto := by
  rcases h.proto with e | e | e <;> cases hs : q.fs <;> simp [codeN, protoN, e]
/-- What is wrong with a packet, taken apart. -/
theorem pkF_more {q : Pk} {n : Nat} (h : pkF q n = 0) : adF q.fs q.fh q.fl = 0 ∧ adF q.ts q.th q.tl = 0 ∧ q.fs = q.ts ∧ fldB q = true := by
  unfold pkF at h
  split at h
  · rename_i h0; exact absurd h h0
  split at h
  · rename_i h0; exact absurd h h0
  split at h
  · cases h
  split at h
  · cases h
  split at h
  · cases h
  split at h
  · cases h
  split at h
  · cases h
  rename_i a1 a2 a3 _ _ _ a7
  exact ⟨Classical.not_not.1 a1, Classical.not_not.1 a2, Classical.not_not.1 a3, by simpa using a7⟩
theorem adF_zero {hi lo : Int} (h : adF false hi lo = 0) : hi = 0 ∧ lo < 4294967296 := by
  unfold adF at h
  split at h
  · cases h
  · rename_i k
    exact ⟨Classical.byContradiction fun e => k ⟨rfl, .inl e⟩, Classical.byContradiction fun e => k ⟨rfl, .inr (by omega)⟩⟩
/-- The head of a written packet is read as it was: addresses of 32 bits. -/
theorem four_back {q : Pk} {P : List Nat} (hk : PkOk q) (hs : q.fs = false) (ha : adF q.fs q.fh q.fl = 0) (hb : adF q.ts q.th q.tl = 0) (hl : P.length ≤ 2000) :
    headE (headL q (P.length : Int) ++ P) = 0 ∧ headN (headL q (P.length : Int) ++ P) = (headL q (P.length : Int)).length ∧ headQ (headL q (P.length : Int) ++ P) = baseQ q := by
  have ht : q.ts = false := hk.six ▸ hs
  have hpc := proto_code hk
  have hc := codeN_in (s := q.fs) hk.proto
  rw [hs] at ha hpc hc
  rw [ht] at hb
  obtain ⟨ha1, ha2⟩ := adF_zero ha
  obtain ⟨hb1, hb2⟩ := adF_zero hb
  have hn : (20 + (P.length : Int)).toNat = 20 + P.length := by omega
  have hp0 := hk.hops0
  have hf0 := hk.f.2.2.1
  have ht0 := hk.t.2.2.1
  unfold headL
  rw [if_neg (by rw [hs]; simp), hn]
  simp only [adBy, hs, ht]
  generalize hcd : (codeN q.proto false).toNat = c at *
  obtain ⟨l1, l2, el, nl⟩ := be2 (20 + P.length)
  obtain ⟨f1, f2, f3, f4, ef, nf⟩ := be4 q.fl.toNat
  obtain ⟨t1, t2, t3, t4, et, nt⟩ := be4 q.tl.toNat
  have hX := sumR_in ([69, 0] ++ be (20 + P.length) 2 ++ [0, 0, 0, 0, q.hops.toNat, c, 0, 0] ++ be q.fl.toNat 4 ++ be q.tl.toNat 4)
  obtain ⟨s1, s2, es, ns⟩ := be2 (sumR ([69, 0] ++ be (20 + P.length) 2 ++ [0, 0, 0, 0, q.hops.toNat, c, 0, 0] ++ be q.fl.toNat 4 ++ be q.tl.toNat 4)).toNat
  simp only [Bool.false_eq_true, if_false]
  rw [es]
  rw [el, ef, et] at *
  simp only [List.cons_append, List.nil_append] at *
  have e1 : splice [69, 0, l1, l2, 0, 0, 0, 0, q.hops.toNat, c, 0, 0, f1, f2, f3, f4, t1, t2, t3, t4] 10 [s1, s2] = [69, 0, l1, l2, 0, 0, 0, 0, q.hops.toNat, c, s1, s2, f1, f2, f3, f4, t1, t2, t3, t4] := rfl
  rw [e1]
  simp only [List.cons_append, List.nil_append]
  generalize hB : (69 :: 0 :: l1 :: l2 :: 0 :: 0 :: 0 :: 0 :: q.hops.toNat :: c :: s1 :: s2 :: f1 :: f2 :: f3 :: f4 :: t1 :: t2 :: t3 :: t4 :: P) = bs
  have k0 : bs.getD 0 0 = 69 := by rw [← hB]; rfl
  have k1 : nb bs 2 2 = numF [l1, l2] := by rw [← hB]; rfl
  have k2 : nb bs 4 4 = 0 := (show nb bs 4 4 = numF [0, 0, 0, 0] by rw [← hB]; rfl).trans (by simp [numF])
  have k3 : bs.getD 9 0 = c := by rw [← hB]; rfl
  have k4 : bs.getD 8 0 = q.hops.toNat := by rw [← hB]; rfl
  have k5 : nb bs 12 4 = numF [f1, f2, f3, f4] := by rw [← hB]; rfl
  have k6 : nb bs 16 4 = numF [t1, t2, t3, t4] := by rw [← hB]; rfl
  have k7 : nb bs 10 2 = numF [s1, s2] := by rw [← hB]; rfl
  have k8 : splice (bs.take 20) 10 [0, 0] = [69, 0, l1, l2, 0, 0, 0, 0, q.hops.toNat, c, 0, 0, f1, f2, f3, f4, t1, t2, t3, t4] := by rw [← hB]; rfl
  have k9 : bs.getD 1 0 = 0 := by rw [← hB]; rfl
  have kl : bs.length = P.length + 20 := by rw [← hB]; simp only [List.length_cons]
  clear hB
  refine ⟨?_, by unfold headN; rw [if_pos k0]; rfl, ?_⟩
  · unfold headE
    rw [if_neg (by omega), if_pos k0]
    unfold fourE
    rw [k8, k7, ns, k1, nl, k9, k2, k3, hpc]
    rw [if_neg (by omega), if_neg (by omega), if_neg (by have := hk.proto; omega)]
  · unfold headQ
    rw [if_pos k0]
    unfold q4 baseQ
    rw [k3, k4, k5, k6, hpc, nf, nt, hs, ht, ha1, hb1]
    congr 1 <;> omega
/-- The same: addresses of 128 bits. -/
theorem six_back {q : Pk} {P : List Nat} (hk : PkOk q) (hs : q.fs = true) (hl : P.length ≤ 2000) :
    headE (headL q (P.length : Int) ++ P) = 0 ∧ headN (headL q (P.length : Int) ++ P) = (headL q (P.length : Int)).length ∧ headQ (headL q (P.length : Int) ++ P) = baseQ q := by
  have ht : q.ts = true := hk.six ▸ hs
  have hpc := proto_code hk
  have hc := codeN_in (s := q.fs) hk.proto
  rw [hs] at hpc hc
  have hp0 := hk.hops0
  obtain ⟨f1, f2, f3, f4⟩ := hk.f
  obtain ⟨g1, g2, g3, g4⟩ := hk.t
  unfold headL
  rw [if_pos hs]
  simp only [adBy, hs, ht, Int.toNat_natCast, if_true]
  generalize hcd : (codeN q.proto true).toNat = c at *
  obtain ⟨l1, l2, el, nl⟩ := be2 P.length
  obtain ⟨a0, a1, a2, a3, a4, a5, a6, a7, ea, na⟩ := be8 q.fh.toNat
  obtain ⟨b0, b1, b2, b3, b4, b5, b6, b7, eb, nb'⟩ := be8 q.fl.toNat
  obtain ⟨c0, c1, c2, c3, c4, c5, c6, c7, ec, nc⟩ := be8 q.th.toNat
  obtain ⟨d0, d1, d2, d3, d4, d5, d6, d7, ed, nd⟩ := be8 q.tl.toNat
  rw [el, ea, eb, ec, ed]
  simp only [List.cons_append, List.nil_append]
  generalize hB : (96 :: 0 :: 0 :: 0 :: l1 :: l2 :: c :: q.hops.toNat :: a0 :: a1 :: a2 :: a3 :: a4 :: a5 :: a6 :: a7 :: b0 :: b1 :: b2 :: b3 :: b4 :: b5 :: b6 :: b7 :: c0 :: c1 :: c2 :: c3 :: c4 :: c5 :: c6 :: c7 :: d0 :: d1 :: d2 :: d3 :: d4 :: d5 :: d6 :: d7 :: P) = bs
  have k0 : bs.getD 0 0 = 96 := by rw [← hB]; rfl
  have k1 : nb bs 4 2 = numF [l1, l2] := by rw [← hB]; rfl
  have k2 : nb bs 1 3 = 0 := (show nb bs 1 3 = numF [0, 0, 0] by rw [← hB]; rfl).trans (by simp [numF])
  have k3 : bs.getD 6 0 = c := by rw [← hB]; rfl
  have k4 : bs.getD 7 0 = q.hops.toNat := by rw [← hB]; rfl
  have k5 : nb bs 8 8 = numF [a0, a1, a2, a3, a4, a5, a6, a7] := by rw [← hB]; rfl
  have k6 : nb bs 16 8 = numF [b0, b1, b2, b3, b4, b5, b6, b7] := by rw [← hB]; rfl
  have k7 : nb bs 24 8 = numF [c0, c1, c2, c3, c4, c5, c6, c7] := by rw [← hB]; rfl
  have k8 : nb bs 32 8 = numF [d0, d1, d2, d3, d4, d5, d6, d7] := by rw [← hB]; rfl
  have kl : bs.length = P.length + 40 := by rw [← hB]; simp only [List.length_cons]
  clear hB
  refine ⟨?_, by unfold headN; rw [if_neg (by rw [k0]; decide)]; rfl, ?_⟩
  · unfold headE
    rw [if_neg (by omega), if_neg (by rw [k0]; decide), if_pos k0]
    unfold sixE
    rw [if_neg (by rw [k1, k2, nl]; omega), if_neg (by rw [k3, hpc]; have := hk.proto; omega)]
  · unfold headQ
    rw [if_neg (by rw [k0]; decide)]
    unfold q6 baseQ
    rw [k3, k4, k5, k6, k7, k8, hpc, na, nb', nc, nd, hs, ht]
    congr 1 <;> omega

/-- The flags that a number tells. -/
theorem flg_back (q : Pk) : decide (flgN q % 2 = 1) = q.fin ∧ decide (flgN q / 2 % 2 = 1) = q.syn ∧ decide (flgN q / 4 % 2 = 1) = q.rst ∧ decide (flgN q / 16 % 2 = 1) = q.has := by
  unfold flgN
  cases q.fin <;> cases q.syn <;> cases q.rst <;> cases q.has <;> decide
theorem fld_more {q : Pk} (h : fldB q = true) : (q.proto = 1 → q.fp = 0 ∧ q.tp = 0) ∧ (q.proto ≠ 6 → q.syn = false ∧ q.fin = false ∧ q.rst = false ∧ q.has = false ∧ q.ack = 0) ∧ (q.proto ≠ 1 → q.reply = false ∧ q.id = 0) ∧ (q.proto = 17 → q.seq = 0) := by
  unfold fldB hpB htB hiB at h
  simp only [Bool.and_eq_true, Bool.not_eq_true', Bool.or_eq_false_iff, Bool.and_eq_false_iff, Bool.or_eq_true, decide_eq_false_iff_not, decide_eq_true_eq, Bool.not_eq_false', Classical.not_not] at h
  obtain ⟨⟨h1, h2, h3⟩, h4, h5⟩ := h
  refine ⟨fun e => ?_, fun e => ?_, fun e => ?_, fun e => ?_⟩
  · rcases h1 with h | h
    · exact h
    · exact absurd e h
  · rcases h2 with h | h
    · exact h
    · exact absurd h e
  · rcases h3 with h | h
    · exact h
    · exact absurd h e
  · rcases h4 with h | h
    · exact h
    · exact absurd e h
theorem kind_back (s r : Bool) : decide (kindN s r = kindN s true) = r := by cases s <;> cases r <;> decide
/-- What a part tells: the packet itself. -/
theorem body_back {q : Pk} {pl : List Nat} (hk : PkOk q) (hf : fldB q = true) {bd : List Nat} (hb : ∃ t, bd = splice (headP q pl.length) (atP q) t ++ pl ∧ t.length = 2) : rdBody (baseQ q) bd = q := by
  obtain ⟨t, rfl, ht⟩ := hb
  obtain ⟨x, y, rfl⟩ : ∃ x y, t = [x, y] := by
    match t, ht with
    | [x, y], _ => exact ⟨x, y, rfl⟩
  obtain ⟨m1, m2, m3, m4⟩ := fld_more hf
  obtain ⟨g1, g2, g3, g4⟩ := flg_back q
  have r1 := hk.fp0
  have r2 := hk.fp1
  have r3 := hk.tp0
  have r4 := hk.tp1
  have r5 := hk.seq0
  have r6 := hk.seq1
  have r7 := hk.ack0
  have r8 := hk.ack1
  have r9 := hk.id0
  have r10 := hk.id1
  obtain ⟨p1, p2, ep, np⟩ := be2 q.fp.toNat
  obtain ⟨o1, o2, eo, no⟩ := be2 q.tp.toNat
  rcases hk.proto with h | h | h
  · obtain ⟨i1, i2, ei, ni⟩ := be2 q.id.toNat
    obtain ⟨s1, s2, es, ns⟩ := be2 q.seq.toNat
    have r11 := hk.seqI h
    obtain ⟨a1, a2⟩ := m1 h
    obtain ⟨a3, a4, a5, a6, a7⟩ := m2 (by omega)
    unfold headP atP
    rw [if_neg (by omega), if_neg (by omega), if_neg (by omega), if_neg (by omega), ei, es]
    have e : splice ([kindN q.fs q.reply, 0, 0, 0] ++ [i1, i2] ++ [s1, s2]) 2 [x, y] ++ pl = kindN q.fs q.reply :: 0 :: x :: y :: i1 :: i2 :: s1 :: s2 :: pl := rfl
    rw [e]
    generalize hB : (kindN q.fs q.reply :: 0 :: x :: y :: i1 :: i2 :: s1 :: s2 :: pl) = bd
    have k1 : bd.getD 0 0 = kindN q.fs q.reply := by rw [← hB]; rfl
    have k2 : nb bd 4 2 = numF [i1, i2] := by rw [← hB]; rfl
    have k3 : nb bd 6 2 = numF [s1, s2] := by rw [← hB]; rfl
    clear hB
    unfold rdBody
    rw [if_neg (by show ¬ q.proto = 6; omega), if_neg (by show ¬ q.proto = 17; omega)]
    unfold rdIcmp
    rw [k1, k2, k3, ni, ns]
    show Pk.mk q.fs q.fh q.fl q.ts q.th q.tl q.hops q.proto 0 0 false false false false _ 0 (decide (kindN q.fs q.reply = kindN q.fs true)) _ = q
    rw [kind_back]
    obtain ⟨fs, fh, fl, ts, th, tl, hops, proto, fp, tp, syn, fin, rst, has, seq, ack, reply, id⟩ := q
    dsimp only at *
    subst a1 a2 a3 a4 a5 a6 a7
    congr 1 <;> omega
  · obtain ⟨s1, s2, s3, s4, es, ns⟩ := be4 q.seq.toNat
    obtain ⟨k1, k2, k3, k4, ek, nk⟩ := be4 q.ack.toNat
    obtain ⟨w1, w2, ew, nw⟩ := be2 65535
    obtain ⟨a1, a2⟩ := m3 (by omega)
    unfold headP atP
    rw [if_pos h, if_pos h, ep, eo, es, ek, ew]
    have e : splice ([p1, p2] ++ [o1, o2] ++ [s1, s2, s3, s4] ++ [k1, k2, k3, k4] ++ [80, flgN q] ++ [w1, w2] ++ [0, 0, 0, 0]) 16 [x, y] ++ pl = p1 :: p2 :: o1 :: o2 :: s1 :: s2 :: s3 :: s4 :: k1 :: k2 :: k3 :: k4 :: 80 :: flgN q :: w1 :: w2 :: x :: y :: 0 :: 0 :: pl := rfl
    rw [e]
    generalize hB : (p1 :: p2 :: o1 :: o2 :: s1 :: s2 :: s3 :: s4 :: k1 :: k2 :: k3 :: k4 :: 80 :: flgN q :: w1 :: w2 :: x :: y :: 0 :: 0 :: pl) = bd
    have j1 : nb bd 0 2 = numF [p1, p2] := by rw [← hB]; rfl
    have j2 : nb bd 2 2 = numF [o1, o2] := by rw [← hB]; rfl
    have j3 : nb bd 4 4 = numF [s1, s2, s3, s4] := by rw [← hB]; rfl
    have j4 : nb bd 8 4 = numF [k1, k2, k3, k4] := by rw [← hB]; rfl
    have j5 : bd.getD 13 0 = flgN q := by rw [← hB]; rfl
    clear hB
    unfold rdBody
    rw [if_pos (show (baseQ q).proto = 6 from h)]
    unfold rdTcp
    rw [j1, j2, j3, j4, j5, np, no, ns, nk, g1, g2, g3, g4]
    obtain ⟨fs, fh, fl, ts, th, tl, hops, proto, fp, tp, syn, fin, rst, has, seq, ack, reply, id⟩ := q
    dsimp only [baseQ] at *
    subst a1 a2
    congr 1 <;> omega
  · obtain ⟨l1, l2, el, nl⟩ := be2 (8 + pl.length)
    obtain ⟨a1, a2⟩ := m3 (by omega)
    obtain ⟨a3, a4, a5, a6, a7⟩ := m2 (by omega)
    have a8 := m4 h
    unfold headP atP
    rw [if_neg (by omega), if_pos h, if_neg (by omega), if_pos h, ep, eo, el]
    have e : splice ([p1, p2] ++ [o1, o2] ++ [l1, l2] ++ [0, 0]) 6 [x, y] ++ pl = p1 :: p2 :: o1 :: o2 :: l1 :: l2 :: x :: y :: pl := rfl
    rw [e]
    generalize hB : (p1 :: p2 :: o1 :: o2 :: l1 :: l2 :: x :: y :: pl) = bd
    have j1 : nb bd 0 2 = numF [p1, p2] := by rw [← hB]; rfl
    have j2 : nb bd 2 2 = numF [o1, o2] := by rw [← hB]; rfl
    clear hB
    unfold rdBody
    rw [if_neg (by show ¬ q.proto = 6; omega), if_pos (show (baseQ q).proto = 17 from h)]
    unfold rdUdp
    rw [j1, j2, np, no]
    obtain ⟨fs, fh, fl, ts, th, tl, hops, proto, fp, tp, syn, fin, rst, has, seq, ack, reply, id⟩ := q
    dsimp only [baseQ] at *
    subst a1 a2 a3 a4 a5 a6 a7 a8
    congr 1 <;> omega
/-- The sum's place holds zeros. -/
theorem headP_zero (q : Pk) (n : Nat) : splice (headP q n) (atP q) [0, 0] = headP q n := by
  obtain ⟨p1, p2, ep, np⟩ := be2 q.fp.toNat
  obtain ⟨o1, o2, eo, no⟩ := be2 q.tp.toNat
  obtain ⟨i1, i2, ei, ni⟩ := be2 q.id.toNat
  obtain ⟨s1, s2, s3, s4, es, ns⟩ := be4 q.seq.toNat
  obtain ⟨t1, t2, et, nt⟩ := be2 q.seq.toNat
  obtain ⟨k1, k2, k3, k4, ek, nk⟩ := be4 q.ack.toNat
  obtain ⟨w1, w2, ew, nw⟩ := be2 65535
  obtain ⟨l1, l2, el, nl⟩ := be2 (8 + n)
  unfold headP atP
  split
  · rw [ep, eo, es, ek, ew]; rfl
  · split
    · rw [ep, eo, el]; rfl
    · rw [ei, et]; rfl
/-- A written packet is read as it was. -/
theorem come_back {q : Pk} {pl : List Nat} (h : pkF q pl.length = 0) (hf : Wd q.fh q.fl) (ht : Wd q.th q.tl) (hB : Byt pl) :
    rdE (bytesL q pl) = 0 ∧ qX (bytesL q pl) = q ∧ plX (bytesL q pl) = pl := by
  obtain ⟨hk, hn⟩ := pkF_zero h hf ht
  obtain ⟨f1, f2, f3, f4⟩ := pkF_more h
  have hPl := partL_len q pl
  have hsz := headP_len q pl.length
  have hle := (atP_fits q pl.length).2
  have hat := at_fits q
  have hhead : headE (bytesL q pl) = 0 ∧ headN (bytesL q pl) = (headL q ((partL q pl).length : Int)).length ∧ headQ (bytesL q pl) = baseQ q := by
    unfold bytesL
    cases hs : q.fs with
    | false => exact four_back hk hs f1 f2 (by omega)
    | true => exact six_back hk hs (by omega)
  obtain ⟨e1, e2, e3⟩ := hhead
  have hd : (bytesL q pl).drop (headN (bytesL q pl)) = partL q pl := by rw [e2]; unfold bytesL; rw [List.drop_left]
  have hs : szP (baseQ q) = szP q := rfl
  have ha : atP (baseQ q) = atP q := rfl
  have hsp : ∀ t : List Nat, t.length = 2 → splice (headP q pl.length ++ pl) (atP q) t = splice (headP q pl.length) (atP q) t ++ pl := fun t h2 => splice_app _ _ _ _ (by omega)
  have hP : partL q pl = splice (headP q pl.length) (atP q) (be (sumF q (headP q pl.length ++ pl)).toNat 2) ++ pl := by
    unfold partL; exact hsp _ (be_len _ _)
  have hlen : ∀ t : List Nat, t.length = 2 → (splice (headP q pl.length) (atP q) t).length = szP q := fun t h2 => by rw [splice_len' _ _ _ (by omega), hsz]
  have hb := body_back hk f4 (pl := pl) (bd := partL q pl) ⟨_, hP, be_len _ _⟩
  have ht1 : (partL q pl).take (szP q) = splice (headP q pl.length) (atP q) (be (sumF q (headP q pl.length ++ pl)).toNat 2) := by
    rw [hP, List.take_append_of_le_length (by rw [hlen _ (be_len _ _)]; omega), List.take_of_length_le (by rw [hlen _ (be_len _ _)]; omega)]
  have ht2 : (partL q pl).drop (szP q) = pl := by
    have := hlen _ (be_len (sumF q (headP q pl.length ++ pl)).toNat 2)
    rw [hP, ← this, List.drop_left]
  have hz : splice (partL q pl) (atP q) [0, 0] = headP q pl.length ++ pl := by
    rw [hP, splice_app _ _ _ _ (by rw [hlen _ (be_len _ _)]; simpa using hat), splice_twice _ _ _ _ (by rw [be_len]; omega) (by rw [be_len]; rfl), headP_zero]
  have hr : rdE (bytesL q pl) = 0 := by
    unfold rdE
    rw [if_neg (fun k => k e1), hd, e3]
    unfold partE
    rw [hs, ha, hb, if_neg (by omega), show (partL q pl).length - szP q = pl.length by omega, ht1, splice_twice _ _ _ _ (by rw [be_len]; omega) (by rw [be_len]; rfl), headP_zero, f4, if_neg (by simp), hz]
    have hn2 : nb (partL q pl) (atP q) 2 = (sumF q (headP q pl.length ++ pl)).toNat % 65536 := by
      have hx : ((partL q pl).drop (atP q)).take 2 = be (sumF q (headP q pl.length ++ pl)).toNat 2 := by
        rw [hP]
        unfold splice
        have hal : ((headP q pl.length).take (atP q)).length = atP q := by rw [List.length_take]; omega
        have hm : ∀ (A t C : List Nat) (k : Nat), A.length = k → t.length = 2 → ((A ++ (t ++ C)).drop k).take 2 = t := by
          intro A t C k h1 h2
          subst h1
          rw [List.drop_left, List.take_append_of_le_length (by omega), List.take_of_length_le (by omega)]
        rw [List.append_assoc, List.append_assoc]
        exact hm _ _ _ _ hal (be_len _ _)
      unfold nb
      rw [hx, numF_be]
    have := sumF_in q (headP q pl.length ++ pl)
    rw [hn2, if_neg (fun k => k (by omega))]
  refine ⟨hr, ?_, ?_⟩
  · unfold qX; rw [if_pos hr, hd, e3, hb]
  · unfold plX; rw [if_pos hr, hd, e3, hs, ht2]
theorem rd_wide {bs : List Nat} (hB : Byt bs) : adF (headQ bs).fs (headQ bs).fh (headQ bs).fl = 0 ∧ adF (headQ bs).ts (headQ bs).th (headQ bs).tl = 0 := by
  have n4 : ∀ i, nb bs i 4 < 4294967296 := fun i => nb_lt hB i 4
  unfold headQ
  split
  · have h1 := n4 12
    have h2 := n4 16
    unfold q4 adF
    exact ⟨if_neg (by simp; omega), if_neg (by simp; omega)⟩
  · unfold q6 adF
    exact ⟨if_neg (by simp), if_neg (by simp)⟩
theorem rd_same_adr (q : Pk) (bd : List Nat) : (rdBody q bd).fs = q.fs ∧ (rdBody q bd).fh = q.fh ∧ (rdBody q bd).fl = q.fl ∧ (rdBody q bd).ts = q.ts ∧ (rdBody q bd).th = q.th ∧ (rdBody q bd).tl = q.tl := by
  unfold rdBody; split <;> (try split) <;> exact ⟨rfl, rfl, rfl, rfl, rfl, rfl⟩
theorem pk_zero {q : Pk} {n : Nat} (hk : PkOk q) (h1 : adF q.fs q.fh q.fl = 0) (h2 : adF q.ts q.th q.tl = 0) (hf : fldB q = true) (hn : n ≤ 1400) : pkF q n = 0 := by
  have hi : ∀ x lo hi : Int, lo ≤ x → x ≤ hi → inB x lo hi = true := fun x lo hi a b => by unfold inB; simp [a, b]
  unfold pkF
  rw [if_neg (fun k => k h1), if_neg (fun k => k h2), if_neg (fun k => k hk.six), if_neg (by rw [hi _ _ _ hk.hops0 hk.hops1]; simp), if_neg (fun k => k hk.proto), if_neg, if_neg (by rw [hf]; simp), if_neg (by omega)]
  unfold numB
  rw [hi _ _ _ hk.fp0 hk.fp1, hi _ _ _ hk.tp0 hk.tp1, hi _ _ _ hk.ack0 hk.ack1, hi _ _ _ hk.id0 hk.id1, hi _ _ _ hk.seq0]
  · simp
  · split
    · rename_i h; exact hk.seqI h
    · exact hk.seq1
theorem partE_fld {q0 : Pk} {bd : List Nat} (h : partE q0 bd = 0) : fldB (rdBody q0 bd) = true := by
  unfold partE at h
  split at h
  · cases h
  split at h
  · cases h
  rename_i k
  cases hf : fldB (rdBody q0 bd) with
  | true => rfl
  | false => exact absurd (.inr hf) k
/-- What is read is written so. -/
theorem go_back {bs : List Nat} (hB : Byt bs) (hn : bs.length ≤ 1000) (h : rdE bs = 0) :
    pkF (qX bs) (plX bs).length = 0 ∧ bytesL (qX bs) (plX bs) = bs ∧ Wd (qX bs).fh (qX bs).fl ∧ Wd (qX bs).th (qX bs).tl ∧ Byt (plX bs) := by
  obtain ⟨hs, hb⟩ := rd_same hB
  have hR := hs.trans h
  have he : headE bs = 0 := by
    unfold rdE at h
    split at h
    · rename_i k; exact absurd h k
    · rename_i k; exact Classical.not_not.1 k
  have hp := partE_fld (q0 := headQ bs) (bd := bs.drop (headN bs)) (by unfold rdE at h; rw [if_neg (fun k => k he)] at h; exact h)
  have hk0 := ok_head hB (head_proto he)
  have hk := ok_body (bd := bs.drop (headN bs)) hk0 (fun b hb => hB b (List.mem_of_mem_drop hb))
  have hqX : qX bs = rdBody (headQ bs) (bs.drop (headN bs)) := by unfold qX; rw [if_pos h]
  have hpX : plX bs = (bs.drop (headN bs)).drop (szP (headQ bs)) := by unfold plX; rw [if_pos h]
  have hl := plX_len bs
  obtain ⟨w1, w2⟩ := rd_wide hB
  obtain ⟨a1, a2, a3, a4, a5, a6⟩ := rd_same_adr (headQ bs) (bs.drop (headN bs))
  refine ⟨?_, ?_, ?_, ?_, ?_⟩
  · rw [hqX]
    exact pk_zero hk (by rw [a1, a2, a3]; exact w1) (by rw [a4, a5, a6]; exact w2) hp (by omega)
  · rw [hqX, hpX, ← hb h]
    unfold rdER at hR
    rw [if_neg (fun k => k he)] at hR
    unfold partER at hR
    split at hR
    · cases hR
    split at hR
    · cases hR
    split at hR
    · cases hR
    split at hR
    · cases hR
    rename_i k
    exact Classical.not_not.1 k
  · rw [hqX]; exact hk.f
  · rw [hqX]; exact hk.t
  · rw [hpX]; exact fun b hb => hB b (List.mem_of_mem_drop (List.mem_of_mem_drop hb))
/-- A right packet: nothing is wrong with it. -/
theorem rt_zero {q : Pk} {n : Nat} (h : RtP q) (hn : n ≤ 1400) : pkF q n = 0 := pk_zero h.1 h.2.2.1 h.2.2.2 h.2.1 hn
theorem flip_dec : ∀ j : Fin 8, ∀ b : Fin 256, bits .xor .u8 ((b.val : Nat) : Int) (IntKind.u8.wrap ((2 : Int) ^ j.val)) ≠ ((b.val : Nat) : Int) := by
  decide +kernel
/-- A bit that is turned makes another byte. -/
theorem flip_ne (b j : Nat) (hb : b < 256) (hj : j < 8) : bits .xor .u8 (b : Int) (IntKind.u8.wrap ((2 : Int) ^ j)) ≠ (b : Int) := flip_dec ⟨j, hj⟩ ⟨b, hb⟩
theorem set_ne {bs : List Nat} {i b y : Nat} (h : bs[i]? = some b) (hy : y ≠ b) : bs.set i y ≠ bs := by
  intro e
  have hi := (List.getElem?_eq_some_iff.1 h).1
  have h1 : (bs.set i y)[i]? = some y := List.getElem?_set_self hi
  rw [e, h] at h1
  exact hy (Option.some.inj h1).symm
theorem Byt.set {bs : List Nat} (h : Byt bs) (i y : Nat) (hy : y < 256) : Byt (bs.set i y) := fun x hx => by
  rcases List.mem_or_eq_of_mem_set hx with h1 | rfl
  · exact h x h1
  · exact hy
end Go.Proofs.YtijlahgmnpnmfaaGreatDoor
