/- Packets that are read: the reference's whole. -/
import Derived.Test.YtigbbpgfblnboaaRdN
namespace Go.Proofs.Ytigbbpgfblnboaa
open Go.RowKit
set_option linter.unusedVariables false
set_option linter.unusedSimpArgs false

/-- What PacketRead hands back. -/
def PRPost (bs : List Nat) (w : World) (e : Ending) (w' : World) : Prop := ∃ q' v', e = .returned (.tuple #[pkV q' v', .int .i64 (rdER bs)]) ∧ Below w.heap.size w w' ∧ (rdER bs ≠ 0 → q' = zq ∧ v' = .slice none 0 0) ∧
  (rdER bs = 0 → q' = rdBodyR (headQ bs) (bs.drop (headN bs)) ∧ ∃ A' n' c', v' = .slice A' n' c' ∧ SlB w' A' n' c' ((bs.drop (headN bs)).drop (szP (headQ bs))))
/-- What stands when the fields are read. -/
structure AtB (bs : List Nat) (w : World) (pb : Nat) (q : Pk) (A : Option Addr) (n1 c1 : Nat) (pl : List Nat) (g off n cap : Nat) (u : World) : Prop where
  q : AtQ w pb q (.slice A n1 c1) u
  s : SlB u (some ⟨g, off, none⟩) n cap bs
  p : SlB u A n1 c1 pl
  a : A = none → c1 = 0
  n : n1 ≤ 1000
  k : ∀ k, (Value.slice A n1 c1).ownBlock = some k → k ≠ w.heap.size
theorem AtB.below {bs : List Nat} {w u u' : World} {pb : Nat} {q : Pk} {A : Option Addr} {n1 c1 : Nat} {pl : List Nat} {g off n cap : Nat} (h : AtB bs w pb q A n1 c1 pl g off n cap u) (hb : Below u.heap.size u u') : AtB bs w pb q A n1 c1 pl g off n cap u' := ⟨h.q.below hb, h.s.below hb, h.p.below hb, h.a, h.n, h.k⟩
theorem gt_bit (x k : Nat) (hx : x < 256) (hk : k < 8) : decide (0 < bits .and .u8 (x : Int) ((2 ^ k : Nat) : Int)) = decide (x / 2 ^ k % 2 = 1) := by
  have ha := and_bit x k hx hk
  have hp : 0 < 2 ^ k := Nat.pow_pos (by decide)
  rw [ha]
  generalize 2 ^ k = P at hp ⊢
  by_cases h : x / P % 2 = 1
  · rw [if_pos h]; simp [h]; omega
  · rw [if_neg h]; simp [h]

def sndC : Code → Code
  | .seq _ b => b
  | c => c
set_option maxHeartbeats 4000000 in
set_option maxRecDepth 100000 in
theorem pr_tail (g off n cap of1 : Nat) (bs : List Nat) (w : World) (pb : Nat) (q1 : Pk) (kN m cm sz at' : Nat) (bd pl : List Nat) (u : World)
    (hQ : AtQ w pb q1 (.slice none 0 0) u) (hS : SlB u (some ⟨g, off, none⟩) n cap bs) (hsub : ∀ u, SlB u (some ⟨g, off, none⟩) n cap bs → SlB u (some ⟨g, of1, none⟩) m cm bd) (hq1 : PkOk q1) (hne : g ≠ pb)
    (hn2 : n ≤ 1000) (hm2 : m ≤ 1000) (hsm : sz ≤ m) (hmc : m ≤ cm) (has : at' + 2 ≤ sz) (hs20 : sz ≤ 20) (hbb : Byt bd) (hbl : m = bd.length) (hpld : pl = bd.drop sz)
    (hq1d : q1 = rdBodyR (headQ bs) bd) (hszP : szP (headQ bs) = sz) (hatP : atP (headQ bs) = at') (hR0 : ∀ E, partER (headQ bs) bd bs = E → rdER bs = E) (hR1 : bs.drop (headN bs) = bd) (u1 u3 u6 : Value) (u10 u11 u12 u13 u14 u15 u16 u17 u18 u19 u20 u21 u22 u23 u24 u25 u26 u27 u28 u29 u30 u31 u32 u33 u34 u35 u36 u37 u38 u39 u40 u41 u42 u43 u44 u45 u46 u47 u48 u49 u50 u51 u52 u53 u54 u55 u56 u57 u58 u59 u60 u61 u62 u63 u64 u65 u66 u67 u68 u69 u70 u71 u72 u73 u74 u75 u76 u77 u78 u79 u80 u81 u82 u83 u84 u85 u86 u87 u88 u89 u90 u91 u92 u93 u94 u95 u96 u97 u98 u99 u100 u101 u102 u103 u104 u105 u106 u107 u108 u109 u110 u111 u112 u113 u114 u115 u116 u117 u118 u119 u120 u121 u122 u123 u124 u125 u126 u127 u128 u129 u130 u131 u132 u133 u134 u135 u136 u137 u138 u139 u140 u141 u142 u143 u144 u145 u146 u147 u148 u149 u150 u151 u152 u153 u154 u155 u156 u157 u158 u159 u160 u161 u162 u163 u164 u165 u166 u167 : Value) :
    Code.wp Try.prog (sndC (sndC (sndC (sndC (sndC (sndC (sndC (sndC (sndC (Try.f30.body.getD .skip)))))))))) (bodyPost Try.prog Try.f30 (PRPost bs w)) ⟨#[.slice (some ⟨g, off, none⟩) n cap, u1, .pointer (some ⟨w.heap.size, 0, none⟩), u3, .pointer (some ⟨pb, 0, none⟩), .int .i64 kN, u6, .slice (some ⟨g, of1, none⟩) m cm, .int .i64 sz, .int .i64 at', u10, u11, u12, u13, u14, u15, u16, u17, u18, u19, u20, u21, u22, u23, u24, u25, u26, u27, u28, u29, u30, u31, u32, u33, u34, u35, u36, u37, u38, u39, u40, u41, u42, u43, u44, u45, u46, u47, u48, u49, u50, u51, u52, u53, u54, u55, u56, u57, u58, u59, u60, u61, u62, u63, u64, u65, u66, u67, u68, u69, u70, u71, u72, u73, u74, u75, u76, u77, u78, u79, u80, u81, u82, u83, u84, u85, u86, u87, u88, u89, u90, u91, u92, u93, u94, u95, u96, u97, u98, u99, u100, u101, u102, u103, u104, u105, u106, u107, u108, u109, u110, u111, u112, u113, u114, u115, u116, u117, u118, u119, u120, u121, u122, u123, u124, u125, u126, u127, u128, u129, u130, u131, u132, u133, u134, u135, u136, u137, u138, u139, u140, u141, u142, u143, u144, u145, u146, u147, u148, u149, u150, u151, u152, u153, u154, u155, u156, u157, u158, u159, u160, u161, u162, u163, u164, u165, u166, u167], []⟩ u := by
  have hpz : Hid ((headQ bs).proto = q1.proto) := Lib.hid (by rw [hq1d, rdR_proto])
  have hplb : Hid (Byt pl) := Lib.hid (by rw [hpld]; exact fun b h => hbb b (List.mem_of_mem_drop h))
  replace hpld := Lib.hid hpld
  replace hq1d := Lib.hid hq1d
  replace hszP := Lib.hid hszP
  replace hatP := Lib.hid hatP
  replace hR0 := Lib.hid hR0
  replace hR1 := Lib.hid hR1
  replace hbl := Lib.hid hbl
  replace hbb := Lib.hid hbb
  replace hsub := Lib.hid hsub
  replace hq1 := Lib.hid hq1
  replace hQ := Lib.hid hQ
  replace hS := Lib.hid hS
  conv =>
    arg 2
    dsimp only [sndC, Try.f30, Option.getD]
  go_upto_if 114 with fail
  go_cut [] (fun wx => ∃ A1 n1 c1, Hid (AtB bs w pb q1 A1 n1 c1 pl g off n cap wx) ∧ Hid (n1 = pl.length))
  case first =>
    by_cases hms : m = sz
    · have hpl0 : pl = [] := by rw [hpld.out, List.drop_eq_nil_iff]; have := hbl.out; omega
      have hms2 : ¬ (sz : Int) < (m : Int) := by omega
      replace hms := Lib.hid hms
      replace hpl0 := Lib.hid hpl0
      clear hsm hmc has hs20
      go_wp2_with fail
      go_meet
      exact ⟨none, 0, 0, Lib.hid ⟨hQ.out, hS.out, by rw [hpl0.out]; exact ⟨rfl, Nat.le_refl _, .inl rfl⟩, fun _ => rfl, by omega, fun k h => by cases h⟩, Lib.hid (by rw [hpl0.out]; rfl)⟩
    · have hms2 : (sz : Int) < (m : Int) := by omega
      have hms3 : ¬ cm = sz := by omega
      have hms4 : (sz : Int) ≤ m := by omega
      have hms5 : (m : Int) ≤ cm := by omega
      obtain ⟨m2, hm2e⟩ : ∃ m2, m2 = m - sz := ⟨_, rfl⟩
      obtain ⟨cm2, hcm2⟩ : ∃ cm2, cm2 = cm - sz := ⟨_, rfl⟩
      obtain ⟨of2, hof2⟩ : ∃ of2, of2 = of1 + sz := ⟨_, rfl⟩
      have i20 : m - sz = m2 := hm2e.symm
      have i21 : cm - sz = cm2 := hcm2.symm
      have i22 : of1 + sz = of2 := hof2.symm
      have HC := Lib.hid (fun w' h => cloneB_any (some ⟨g, of2, none⟩) m2 cm2 pl w' h (by omega))
      have hsp := Lib.hid (show ∀ u, SlB u (some ⟨g, off, none⟩) n cap bs → SlB u (some ⟨g, of2, none⟩) m2 cm2 pl from fun u h => by
        have h1 := (hsub.out u h).part sz m2 cm2 (by omega) (by omega)
        rwa [← hof2, ← hpld.out, List.take_of_length_le (by rw [hpld.out, List.length_drop]; have := hbl.out; omega)] at h1)
      have HC1 := Lib.hid (HC.out _ (hsp.out _ hS.out))
      have hpll := Lib.hid (show pl.length = m2 by rw [hpld.out, List.length_drop]; have := hbl.out; omega)
      have hm3 : m2 ≤ 1000 := by omega
      replace hm2e := Lib.hid hm2e
      replace hcm2 := Lib.hid hcm2
      replace hof2 := Lib.hid hof2
      clear HC hsp has hs20
      replace hms := Lib.hid hms
      go_wp2_with fail
      refine HC1.out.mono ?_
      rintro e w3 ⟨v3, rfl, o3, hv3⟩
      have hszw := hQ.out.b.size
      have hlt3 := hQ.out.x.lt
      have hrl := hQ.out.r.lt
      replace hQ := Lib.hid (hQ.out.below hv3)
      replace hS := Lib.hid (hS.out.below hv3)
      obtain ⟨A3, c3, rfl, hS3, hA3⟩ := o3.sln (n := m2) hpll.out
      have ho := Lib.hid (fun x => (o3.setOther (p := pb) (i := 18) (x := x) hlt3))
      have c18 := hQ.out.x.cell (i := 18) rfl
      have f18 := hQ.out.x.free 18
      clear HC1 o3 hS3 hv3
      replace hA3 := Lib.hid hA3
      go_wp2_with fail
      go_meet
      exact ⟨A3, m2, c3, Lib.hid ⟨hQ.out.set (q' := q1) 18 (.slice A3 m2 c3) rfl, hS.out.setPk hne 18 _, (ho.out _).slv, hA3.out, by omega, fun k h => by have := hszw; have := ((ho.out (.slice A3 m2 c3)).lt k h).1; omega⟩, Lib.hid hpll.out.symm⟩
  case rest =>
  clear hQ hS
  obtain ⟨A1, n1, c1, hB, hn1⟩ := hcut
  obtain ⟨ag, hag⟩ : ∃ ag, ag = headP q1 n1 ++ pl := ⟨_, rfl⟩
  obtain ⟨pn, hpn⟩ : ∃ pn, pn = splice bd at' [0, 0] := ⟨_, rfl⟩
  obtain ⟨L1, hL1⟩ : ∃ L1, L1 = ag.length := ⟨_, rfl⟩
  have hlen0 : ¬ bd.length < szP (headQ bs) := by rw [hszP.out]; have := hbl.out; omega
  have hn1' : n1 = (bd.drop (szP (headQ bs))).length := by rw [hszP.out, ← hpld.out]; exact hn1.out
  have hage : headP (rdBodyR (headQ bs) bd) (bd.drop (szP (headQ bs))).length ++ bd.drop (szP (headQ bs)) = ag := by rw [hag, ← hn1', ← hq1d.out, hszP.out, ← hpld.out]
  have hpne : splice bd (atP (headQ bs)) [0, 0] = pn := by rw [hpn, hatP.out]
  have hbye : bytesL (rdBodyR (headQ bs) bd) (bd.drop (szP (headQ bs))) = bytesL q1 pl := by rw [← hq1d.out, hszP.out, ← hpld.out]
  have hP1 : Hid (((headQ bs).proto = 6 ∧ q1.has = false ∧ q1.ack ≠ 0) → partER (headQ bs) bd bs = 3) := Lib.hid (fun h => by unfold partER; rw [if_neg hlen0, ← hq1d.out, if_pos h])
  have hP2 : Hid (¬ ((headQ bs).proto = 6 ∧ q1.has = false ∧ q1.ack ≠ 0) → ¬ ag = pn → partER (headQ bs) bd bs = 3) := Lib.hid (fun h k => by unfold partER; rw [hage, hpne, if_neg hlen0, ← hq1d.out, if_neg h, if_pos k])
  have hP3 : Hid (¬ ((headQ bs).proto = 6 ∧ q1.has = false ∧ q1.ack ≠ 0) → ag = pn → ¬ bytesL q1 pl = bs → partER (headQ bs) bd bs = 15) := Lib.hid (fun h k l => by unfold partER; rw [hage, hpne, hbye, if_neg hlen0, ← hq1d.out, if_neg h, if_neg (fun x => x k), if_pos l])
  have hP4 : Hid (¬ ((headQ bs).proto = 6 ∧ q1.has = false ∧ q1.ack ≠ 0) → ag = pn → bytesL q1 pl = bs → partER (headQ bs) bd bs = 0) := Lib.hid (fun h k l => by unfold partER; rw [hage, hpne, hbye, if_neg hlen0, ← hq1d.out, if_neg h, if_neg (fun x => x k), if_neg (fun x => x l)])
  have hLb : Hid ((bytesL q1 pl).length ≤ 100000) := Lib.hid (by
    unfold bytesL
    rw [List.length_append]
    have h1 := headL_len q1 (partL q1 pl).length
    have h2 := partL_len q1 pl
    have h3 := atP_fits q1 pl.length
    have h4 := hn1.out
    have h5 := hB.out.n
    omega)
  have hL1b : Hid (L1 ≤ 100000) := Lib.hid (by
    rw [hL1, hag, List.length_append]
    have h3 := atP_fits q1 n1
    have h4 := hn1.out
    have h5 := hB.out.n
    omega)
  clear hlen0 hn1' hage hpne hbye
  replace hag := Lib.hid hag
  replace hpn := Lib.hid hpn
  replace hL1 := Lib.hid hL1.symm
  by_cases hbad : (headQ bs).proto = 6 ∧ q1.has = false ∧ q1.ack ≠ 0
  · have d7 := hB.out.q.x.cell (i := 7) (v := .int .i64 6) (by show some (Value.int .i64 q1.proto) = _; rw [← hpz.out, hbad.1])
    have d13 := hB.out.q.x.cell (i := 13) (v := .bool false) (by show some (Value.bool q1.has) = _; rw [hbad.2.1])
    have d15 := hB.out.q.x.cell (i := 15) (v := .int .i64 q1.ack) rfl
    have hE := Lib.hid (hR0.out _ (hP1.out hbad))
    have hbn : ¬ q1.ack = 0 := hbad.2.2
    replace hbad := Lib.hid hbad
    clear hP1 hP2 hP3 hP4
    have S0 := stZ hB.out.q.r rfl
    go_wp2_with fail
    refine bodyPost_ret (v := .tuple #[pkV zq (.slice none 0 0), .int .i64 3]) (res_pk (fn := Try.f30) rfl _ _ w.heap.size zq (.slice none 0 0) rfl (setRow_heap _ _ _ _ _ _ hB.out.q.r) (.int .i64 3) rfl) rfl ⟨zq, .slice none 0 0, by rw [hE.out], hB.out.q.fin _, fun _ => ⟨rfl, rfl⟩, fun h => by rw [hE.out] at h; cases h⟩
  replace hP2 := Lib.hid (hP2.out hbad)
  replace hP3 := Lib.hid (hP3.out hbad)
  replace hP4 := Lib.hid (hP4.out hbad)
  clear hP1
  have d7 := hB.out.q.x.cell (i := 7) (v := .int .i64 q1.proto) rfl
  have d13 := hB.out.q.x.cell (i := 13) (v := .bool q1.has) rfl
  have d15 := hB.out.q.x.cell (i := 15) (v := .int .i64 q1.ack) rfl
  go_upto_region 24 with fail
  go_cut [132] (fun s132 wx => s132 = .bool false ∧ Hid (AtB bs w pb q1 A1 n1 c1 pl g off n cap wx))
  case first =>
    by_cases h6 : q1.proto = 6
    · cases hhas : q1.has
      · have hbz : q1.ack = 0 := Classical.byContradiction fun h => hbad ⟨hpz.out.trans h6, hhas, h⟩
        rw [h6] at d7
        rw [hhas] at d13
        rw [hbz] at d15
        replace hbad := Lib.hid hbad
        replace hbz := Lib.hid hbz
        replace hhas := Lib.hid hhas
        replace h6 := Lib.hid h6
        go_wp2_with fail
        go_meet
        exact ⟨rfl, hB⟩
      · rw [h6] at d7
        rw [hhas] at d13
        replace hbad := Lib.hid hbad
        replace hhas := Lib.hid hhas
        replace h6 := Lib.hid h6
        go_wp2_with fail
        go_meet
        exact ⟨rfl, hB⟩
    · have h6' : (q1.proto == 6) = false := by simp [h6]
      replace hbad := Lib.hid hbad
      go_wp2_with fail
      go_meet
      exact ⟨rfl, hB⟩
  case rest =>
  clear hB d7 d13 d15
  obtain ⟨rfl, hB⟩ := hcut
  replace hbad := Lib.hid hbad
  have L := ldPk_run hB.out.q.x
  have d18 := hB.out.q.x.cell (i := 18) (v := .slice A1 n1 c1) rfl
  have HPt := Lib.hid (partR_any q1 A1 n1 c1 pl _ hq1.out hB.out.p hB.out.a (by have := hB.out.n; omega))
  go_wp2_with fail
  refine HPt.out.mono ?_
  rintro e u1 ⟨v1, rfl, o1, hv1⟩
  replace hB := Lib.hid (hB.out.below hv1)
  obtain ⟨A3, c3, rfl, hS3, hA3⟩ := o1.sln (n := L1) (by rw [← hag.out]; exact hL1.out)
  rw [← hag.out] at hS3
  replace hS3 := Lib.hid hS3
  have HC := Lib.hid (cloneB_any (some ⟨g, of1, none⟩) m cm bd _ (hsub.out _ hB.out.s) (by omega))
  clear o1 hA3 HPt L d18 hv1
  go_wp2_with fail
  refine HC.out.mono ?_
  rintro e u2 ⟨v2, rfl, o2, hv2⟩
  obtain ⟨g2, c2, rfl, hS2⟩ := o2.form (by rw [← hbl.out]; omega)
  rw [← hbl.out] at o2 hS2 ⊢
  have a2 := o2.atB
  have o4 := (o2.setB at' 0 (by omega)).setB (at' + 1) 0 (by omega)
  rw [set_two (k := at') (by rw [← hbl.out]; omega), ← hpn.out] at o4
  have k10 := o2.cellB at' (by omega)
  have k11 := o2.cellB (at' + 1) (by omega)
  have f10 := o2.freeB at'
  have f11 := o2.freeB (at' + 1)
  have hB2 := (hv2.setCell (p := ⟨g2, at', none⟩) a2.1 (.int .u8 (0 : Nat))).setCell (p := ⟨g2, at' + 1, none⟩) a2.1 (.int .u8 (0 : Nat))
  replace hB := Lib.hid (hB.out.below hB2)
  replace hS3 := Lib.hid (hS3.out.below hB2)
  have j1 : (at' : Int) < m := by omega
  have j2 : (at' : Int) + 1 < m := by omega
  have j3 : at' < m := by omega
  have j4 : at' + 1 < m := by omega
  have j6 : ((at' : Int) + 1).toNat = at' + 1 := by omega
  have j7 : IntKind.i64.wrap ((at' : Int) + 1) = (at' : Int) + 1 := wrapI _ (by omega) (by omega)
  replace hS2 := Lib.hid o4.cap.2.2
  obtain ⟨r, hr⟩ : ∃ r, r = decide (ag = pn) := ⟨_, rfl⟩
  have HE1 := Lib.hid (equalS_any A3 (some ⟨g2, 0, none⟩) L1 m c3 c2 ag pn _ hS3.out hS2.out (by have := hL1b.out; omega) r hr)
  replace a2 := Lib.hid a2
  clear HC o2 hv2 hB2 o4
  go_wp2_with fail
  refine HE1.out.mono ?_
  rintro e u3 ⟨rfl, hv3⟩
  replace hB := Lib.hid (hB.out.below hv3)
  clear HE1 hS2 hS3 k10 k11 f10 f11 hv3 j1 j2 j3 j4 j6 j7
  cases r
  · have hag2 : ¬ ag = pn := of_decide_eq_false hr.symm
    have hE := Lib.hid (hR0.out _ (hP2.out hag2))
    replace hr := Lib.hid hr
    clear hP2 hP3 hP4 hag2
    have S0 := stZ hB.out.q.r rfl
    go_wp2_with fail
    refine bodyPost_ret (v := .tuple #[pkV zq (.slice none 0 0), .int .i64 3]) (res_pk (fn := Try.f30) rfl _ _ w.heap.size zq (.slice none 0 0) rfl (setRow_heap _ _ _ _ _ _ hB.out.q.r) (.int .i64 3) rfl) rfl ⟨zq, .slice none 0 0, by rw [hE.out], hB.out.q.fin _, fun _ => ⟨rfl, rfl⟩, fun h => by rw [hE.out] at h; cases h⟩
  · have hag2 : ag = pn := of_decide_eq_true hr.symm
    have d18 := hB.out.q.x.cell (i := 18) (v := .slice A1 n1 c1) rfl
    have j5 : ¬ 1400 < (n1 : Int) := by have := hB.out.n; omega
    have L := ldPk_run hB.out.q.x
    have HPB := Lib.hid (packetBytes_any q1 A1 n1 c1 pl _ hq1.out hB.out.p hB.out.a (by have := hB.out.n; omega) hplb.out)
    replace hP3 := Lib.hid (hP3.out hag2)
    replace hP4 := Lib.hid (hP4.out hag2)
    replace hr := Lib.hid hr
    replace hag2 := Lib.hid hag2
    clear hP2
    go_wp2_with fail
    refine HPB.out.mono ?_
    rintro e u4 ⟨v4, rfl, o5, hv4⟩
    replace hB := Lib.hid (hB.out.below hv4)
    obtain ⟨L2, hL2⟩ : ∃ L2, L2 = (bytesL q1 pl).length := ⟨_, rfl⟩
    obtain ⟨A5, c5, rfl, hS5, hA5⟩ := o5.sln (n := L2) hL2.symm
    have hL2b := hLb.out
    rw [← hL2] at hL2b
    replace hL2 := Lib.hid hL2
    obtain ⟨r2, hr2⟩ : ∃ r, r = decide (bytesL q1 pl = bs) := ⟨_, rfl⟩
    have HE2 := Lib.hid (equalS_any A5 (some ⟨g, off, none⟩) L2 n c5 cap (bytesL q1 pl) bs _ hS5 hB.out.s (by omega) r2 hr2)
    clear HPB o5 hA5 hS5 L d18 hv4
    go_wp2_with fail
    refine HE2.out.mono ?_
    rintro e u5 ⟨rfl, hv5⟩
    replace hB := Lib.hid (hB.out.below hv5)
    clear HE2 hv5
    cases r2
    · have hE := Lib.hid (hR0.out _ (hP3.out (of_decide_eq_false hr2.symm)))
      replace hr2 := Lib.hid hr2
      clear hP3 hP4
      have S0 := stZ hB.out.q.r rfl
      go_wp2_with fail
      refine bodyPost_ret (v := .tuple #[pkV zq (.slice none 0 0), .int .i64 15]) (res_pk (fn := Try.f30) rfl _ _ w.heap.size zq (.slice none 0 0) rfl (setRow_heap _ _ _ _ _ _ hB.out.q.r) (.int .i64 15) rfl) rfl ⟨zq, .slice none 0 0, by rw [hE.out], hB.out.q.fin _, fun _ => ⟨rfl, rfl⟩, fun h => by rw [hE.out] at h; cases h⟩
    · have hE := Lib.hid (hR0.out _ (hP4.out (of_decide_eq_true hr2.symm)))
      replace hr2 := Lib.hid hr2
      clear hP3 hP4
      have L := ldPk_run hB.out.q.x
      have S := stPk_run (q := q1) (v := .slice A1 n1 c1) hB.out.q.r rfl rfl
      go_wp2_with fail
      refine bodyPost_ret (v := .tuple #[pkV q1 (.slice A1 n1 c1), .int .i64 0]) (res_pk (fn := Try.f30) rfl _ _ w.heap.size q1 (.slice A1 n1 c1) rfl (setRow_heap _ _ _ _ _ _ hB.out.q.r) (.int .i64 0) rfl) rfl ⟨q1, _, by rw [hE.out], hB.out.q.fin _, fun h => absurd hE.out h, fun _ => ⟨by rw [hR1.out]; exact hq1d.out, A1, n1, c1, rfl, ?_⟩⟩
      rw [hR1.out, hszP.out, ← hpld.out]
      exact SlB.gb hB.out.p (row_gb _) hB.out.k
end Go.Proofs.Ytigbbpgfblnboaa
