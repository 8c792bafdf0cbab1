/- Packets: PacketBytes. -/
import Derived.Test.YtigbbpgfblnboaaPkT
namespace Go.Proofs.Ytigbbpgfblnboaa
open Go.RowKit
set_option linter.unusedVariables false
set_option linter.unusedSimpArgs false

theorem partR_any (q : Pk) (A : Option Addr) (n cap : Nat) (pl : List Nat) (w : World) (hq : PkOk q) (hS : SlB w A n cap pl) (hA : A = none → cap = 0) (hn : n ≤ 1400) :
    Calls Try.prog 49 #[pkV q (.slice A n cap)] w fun e w' => ∃ v, e = .returned (.tuple #[v, .int .i64 (atP q : Nat)]) ∧ Own w.heap.size w' v (headP q n ++ pl) ∧ Below w.heap.size w w' := by
  rcases hq.proto with h | h | h
  · have e2 : atP q = 2 := by unfold atP; rw [if_neg (by omega), if_neg (by omega)]
    rw [e2]; exact part_icmp q A n cap pl w hq h hS hA hn
  · have e2 : atP q = 16 := by unfold atP; rw [if_pos h]
    rw [e2]; exact part_tcp q A n cap pl w hq h hS hA hn
  · have e2 : atP q = 6 := by unfold atP; rw [if_neg (by omega), if_pos h]
    rw [e2]; exact part_udp q A n cap pl w hq h hS hA hn
theorem own_apart {B m c3 g3 : Nat} {u u' : World} {v : Value} {xs bz : List Nat} (h : Own u.heap.size u' v xs) (h3 : Own B u (.slice (some ⟨g3, 0, none⟩) m c3) bz) : ∀ k, v.ownBlock = some k → k ≠ g3 := by
  intro k hk e
  have h1 := (h.lt k hk).1
  have h2 := (h3.lt g3 rfl).2
  omega
theorem SlB.gb {w w' : World} {A : Option Addr} {n c g : Nat} {bs : List Nat} (h : SlB w A n c bs) (hg : w.grownBy w' (some g)) (hne : ∀ k, (Value.slice A n c).ownBlock = some k → k ≠ g) : SlB w' A n c bs := by
  obtain ⟨h1, h2, h3⟩ := h
  refine ⟨h1, h2, ?_⟩
  rcases h3 with h3 | ⟨b, off, rfl, hb, hc⟩
  · exact .inl h3
  · refine .inr ⟨b, off, rfl, Nat.lt_of_lt_of_le hb hg.size, fun j u hu => ?_⟩
    rw [World.cell?_of_block (w := w) (hg.block b hb (fun e => hne b rfl (by cases e; rfl)))]
    exact hc j u hu
theorem Own.cap {B w g n cap} {bs : List Nat} (h : Own B w (.slice (some ⟨g, 0, none⟩) n cap) bs) : n = bs.length ∧ n ≤ cap ∧ SlB w (some ⟨g, 0, none⟩) n cap bs := by
  obtain ⟨A, c, hv, hS, _⟩ := h.sl
  cases hv
  exact ⟨rfl, hS.2.1, hS⟩
theorem headL_six (q : Pk) (m c hp : Nat) (hc : codeN q.proto q.fs = (c : Int)) (hh : q.hops = (hp : Int)) (hs : q.fs = true) : headL q m = [96, 0, 0, 0] ++ (be (m : Int).toNat 2 ++ ([c, hp] ++ (adB q.fs q.fh q.fl ++ adB q.ts q.th q.tl))) := by
  unfold headL; rw [if_pos hs, hc, hh, Int.toNat_natCast c, Int.toNat_natCast hp]; simp
theorem headL_four (q : Pk) (m c hp : Nat) (hc : codeN q.proto q.fs = (c : Int)) (hh : q.hops = (hp : Int)) (hs : q.fs = false) : headL q m =
    splice ([69, 0] ++ (be (20 + (m : Int)).toNat 2 ++ ([0, 0, 0, 0, hp, c, 0, 0] ++ (adB q.fs q.fh q.fl ++ adB q.ts q.th q.tl)))) 10 (be (sumR ([69, 0] ++ (be (20 + (m : Int)).toNat 2 ++ ([0, 0, 0, 0, hp, c, 0, 0] ++ (adB q.fs q.fh q.fl ++ adB q.ts q.th q.tl))))).toNat 2) := by
  unfold headL
  rw [if_neg (by simp [hs]), hc, hh, Int.toNat_natCast c, Int.toNat_natCast hp]
  simp only [List.append_assoc]
theorem be_code2 (c : Nat) (h : c < 256) : be c 2 = [0, c] := by simp [be]; omega
theorem be_code4 (c : Nat) (h : c < 256) : be c 4 = [0, 0, 0, c] := by simp [be]; omega
theorem aheadL_six (q : Pk) (m c : Nat) (hc : codeN q.proto q.fs = (c : Int)) (h : c < 256) (hs : q.fs = true) : aheadL q m = adB q.fs q.fh q.fl ++ (adB q.ts q.th q.tl ++ (be (m : Int).toNat 4 ++ [0, 0, 0, c])) := by
  unfold aheadL; rw [if_pos hs, hc, Int.toNat_natCast c, be_code4 c h]; simp
theorem aheadL_four (q : Pk) (m c : Nat) (hc : codeN q.proto q.fs = (c : Int)) (h : c < 256) (hs : q.fs = false) : aheadL q m = if q.proto = 1 then [] else adB q.fs q.fh q.fl ++ (adB q.ts q.th q.tl ++ ([0, c] ++ be (m : Int).toNat 2)) := by
  unfold aheadL; rw [if_neg (by simp [hs]), hc, Int.toNat_natCast c, be_code2 c h]; split <;> simp

set_option maxHeartbeats 2000000 in
set_option maxRecDepth 100000 in
theorem packetBytes_any (q : Pk) (A : Option Addr) (n cap : Nat) (pl : List Nat) (w : World) (hq : PkOk q) (hS : SlB w A n cap pl) (hA : A = none → cap = 0) (hn : n ≤ 1400) (hb : Byt pl) :
    Calls Try.prog 24 #[pkV q (.slice A n cap)] w (GivesB (bytesL q pl) w) := by
  have hP := Blk.new w (pkL q (.slice A n cap)) 45
  have hw : Below w.heap.size w (w.alloc (.cells #[.bool q.fs, .int .u64 q.fh, .int .u64 q.fl, .bool q.ts, .int .u64 q.th, .int .u64 q.tl, .int .i64 q.hops, .int .i64 q.proto, .int .i64 q.fp, .int .i64 q.tp, .bool q.syn, .bool q.fin, .bool q.rst, .bool q.has, .int .i64 q.seq, .int .i64 q.ack, .bool q.reply, .int .i64 q.id, .slice A n cap] 45)) := (Below.refl _ _).alloc (Nat.le_refl _) _
  have L := ldPk_run hP
  have hl := hS.len
  have HPR := Lib.hid (partR_any q A n cap pl _ hq (hS.below hw) hA hn)
  obtain ⟨hc0, hc1⟩ := codeN_in (s := q.fs) hq.proto
  obtain ⟨c, hc⟩ := Int.eq_ofNat_of_zero_le hc0
  obtain ⟨hp, hhp⟩ := Int.eq_ofNat_of_zero_le hq.hops0
  have hp256 : hp < 256 := by have := hq.hops1; omega
  have hc256 : c < 256 := by omega
  have HCO := Lib.hid (fun w' => code_any q (.slice A n cap) w')
  rw [hc] at HCO
  have HA6 := Lib.hid (fun (m : Nat) => aheadL_six q m c hc hc256)
  have HA4 := Lib.hid (fun (m : Nat) => aheadL_four q m c hc hc256)
  have hfit := atP_fits q n
  have HB : Hid (bytesL q pl = headL q ((splice (headP q n ++ pl) (atP q) (be (sumF q (headP q n ++ pl)).toNat 2)).length : Int) ++ splice (headP q n ++ pl) (atP q) (be (sumF q (headP q n ++ pl)).toNat 2)) := Lib.hid (by rw [hl]; rfl)
  have HSF := Lib.hid (show ∀ part : List Nat, sumF q part = if sumR (aheadL q part.length ++ part) = 0 ∧ q.proto = 17 then 65535 else sumR (aheadL q part.length ++ part) from fun _ => rfl)
  have hbz : Byt (headP q n ++ pl) := Byt.app (headP_byt q n) hb
  have hzl : (headP q n ++ pl).length = (headP q n).length + n := by rw [List.length_append, hl]
  generalize bytesL q pl = BL at HB ⊢
  have HH6 := Lib.hid (fun (m : Nat) => headL_six q m c hp hc hhp)
  have HH4 := Lib.hid (fun (m : Nat) => headL_four q m c hp hc hhp)
  generalize headP q n ++ pl = bz at HPR HB hbz hzl
  generalize (headP q n).length = hz at hfit hzl
  generalize atP q = k at HPR HB hfit
  have HLA := Lib.hid (show (adB q.fs q.fh q.fl).length ≤ 16 from adB_len _ _ _)
  have HLB := Lib.hid (show (adB q.ts q.th q.tl).length ≤ 16 from adB_len _ _ _)
  have hxx := Lib.hid (show Byt (adB q.fs q.fh q.fl) ∧ Byt (adB q.ts q.th q.tl) from ⟨adB_byt _ _ _, adB_byt _ _ _⟩)
  have hALB := Lib.hid (fun m => aheadL_byt q m)
  have hALL := Lib.hid (fun m => aheadL_len q m)
  have HQ : Hid (PkOk q) := Lib.hid hq
  have hcf : q.fs = false → (c : Int) = q.proto := fun e => by rw [← hc, e]; simp [codeN]
  obtain ⟨q', hq'⟩ : ∃ q', q' = q := ⟨_, rfl⟩
  rw [← hq'] at HB HSF HA6 HA4 hALB hALL HH6 HH4
  replace hq := Lib.hid hq
  replace hbz := Lib.hid hbz
  replace hzl := Lib.hid hzl
  replace hfit := Lib.hid hfit
  have hS := Lib.hid hS
  replace hhp := Lib.hid hhp
  replace hq' := Lib.hid hq'
  replace hc := Lib.hid hc
  replace hcf := Lib.hid hcf
  clear hA hb hl hc0 hc1
  go_enter Try.func24, Try.ntmps24
  go_wp2_with fail
  refine HPR.out.mono ?_
  rintro e u1 ⟨v3, rfl, o3, hv1⟩
  have hB1 : w.heap.size + 1 ≤ (w.alloc (.cells #[.bool q.fs, .int .u64 q.fh, .int .u64 q.fl, .bool q.ts, .int .u64 q.th, .int .u64 q.tl, .int .i64 q.hops, .int .i64 q.proto, .int .i64 q.fp, .int .i64 q.tp, .bool q.syn, .bool q.fin, .bool q.rst, .bool q.has, .int .i64 q.seq, .int .i64 q.ack, .bool q.reply, .int .i64 q.id, .slice A n cap] 45)).heap.size := by simp
  replace o3 := o3.mono hB1
  replace hP := hP.below hv1
  replace hw := hw.trans (hv1.mono hw.size)
  obtain ⟨g3, c3, rfl, _⟩ := o3.form (by have := hzl.out; have := hfit.out; omega)
  obtain ⟨m, hm⟩ : ∃ m, m = bz.length := ⟨_, rfl⟩
  rw [← hm] at o3 hzl ⊢
  have hmm : Hid (2 ≤ m ∧ m ≤ 1420 ∧ k + 2 ≤ m) := Lib.hid (by have := hzl.out; have := hfit.out; omega)
  have hm2 : (m : Int) ≤ 1420 := by have := hmm.out; omega
  replace hm := Lib.hid hm
  replace o3 := Lib.hid o3
  clear hv1 HPR L hB1 hzl hfit
  have wm := wrapU (m : Int) (by omega) (by omega)
  have wc := wrap8 c hc256
  have mc : (c : Int) % 256 = c := by omega
  have wh := wrap8 hp hp256
  have mh : (hp : Int) % 256 = hp := by omega
  obtain ⟨fs, fh, fl, ts, th, tl, hops, proto, fp, tp, syn, fin, rst, has, seq, ack, reply, id⟩ := q
  dsimp only at *
  replace hhp := hhp.out
  subst hhp
  go_wp2_with fail
  refine wb_begin ([w.heap.size]) [] (by kernel_rfl) (fun u0 hb0' hz0' => ?_)
  try (replace o3 := Lib.hid (o3.out.below hb0'))
  try (replace hSa := Lib.hid (hSa.out.below hb0'))
  try (replace hSb := Lib.hid (hSb.out.below hb0'))
  try (replace hSh := Lib.hid (hSh.out.below hb0'))
  replace hP := hP.below hb0'
  replace hw := hw.trans (hb0'.mono hw.size)
  clear hb0' hz0'
  refine wb_pure (i := 0) (d := some 15) (v := ?_) (by simp only [List.getElem?_toArray, List.getElem?_cons_succ, List.getElem?_cons_zero] <;> rfl) (by rfl) (by kernel_rfl) (by kernel_rfl) (by kernel_rfl) (fun _ _ _ h => h) (by rfl) ?_ ?_
  rotate_left
  · ((intro u); go_simp; try with_reducible rfl)
  try simp only [Act.put, List.setIfInBounds_toArray, List.set_cons_zero, List.set_cons_succ]
  refine wb_take (i := 1) (d := some 16) (v := ?_) (by simp only [List.getElem?_toArray, List.getElem?_cons_succ, List.getElem?_cons_zero] <;> rfl) (by rfl) (by kernel_rfl) (by kernel_rfl) (by kernel_rfl) (fun _ _ _ h => h) (by rfl) (by kernel_rfl) ?_ ?_
  rotate_left
  · ((intro u hu); have k0 := (hP.kb hu (by simp)).cell (i := 0) (v := .bool fs) rfl; have k1 := (hP.kb hu (by simp)).cell (i := 1) (v := .int .u64 fh) rfl; have k2 := (hP.kb hu (by simp)).cell (i := 2) (v := .int .u64 fl) rfl; have k3 := (hP.kb hu (by simp)).cell (i := 3) (v := .bool ts) rfl; have k4 := (hP.kb hu (by simp)).cell (i := 4) (v := .int .u64 th) rfl; have k5 := (hP.kb hu (by simp)).cell (i := 5) (v := .int .u64 tl) rfl; go_simp; try with_reducible rfl)
  try simp only [Act.put, List.setIfInBounds_toArray, List.set_cons_zero, List.set_cons_succ]
  refine wb_pure (i := 3) (d := some 18) (v := ?_) (by simp only [List.getElem?_toArray, List.getElem?_cons_succ, List.getElem?_cons_zero] <;> rfl) (by rfl) (by kernel_rfl) (by kernel_rfl) (by kernel_rfl) (fun _ _ _ h => h) (by rfl) ?_ ?_
  rotate_left
  · ((intro u); go_simp; try with_reducible rfl)
  try simp only [Act.put, List.setIfInBounds_toArray, List.set_cons_zero, List.set_cons_succ]
  refine wb_take (i := 4) (d := some 19) (v := ?_) (by simp only [List.getElem?_toArray, List.getElem?_cons_succ, List.getElem?_cons_zero] <;> rfl) (by rfl) (by kernel_rfl) (by kernel_rfl) (by kernel_rfl) (fun _ _ _ h => h) (by rfl) (by kernel_rfl) ?_ ?_
  rotate_left
  · ((intro u hu); have k0 := (hP.kb hu (by simp)).cell (i := 0) (v := .bool fs) rfl; have k1 := (hP.kb hu (by simp)).cell (i := 1) (v := .int .u64 fh) rfl; have k2 := (hP.kb hu (by simp)).cell (i := 2) (v := .int .u64 fl) rfl; have k3 := (hP.kb hu (by simp)).cell (i := 3) (v := .bool ts) rfl; have k4 := (hP.kb hu (by simp)).cell (i := 4) (v := .int .u64 th) rfl; have k5 := (hP.kb hu (by simp)).cell (i := 5) (v := .int .u64 tl) rfl; go_simp; try with_reducible rfl)
  try simp only [Act.put, List.setIfInBounds_toArray, List.set_cons_zero, List.set_cons_succ]
  refine wb_one (i := 2) (by simp only [List.getElem?_toArray, List.getElem?_cons_succ, List.getElem?_cons_zero] <;> rfl) (by kernel_rfl) (by rfl) (fun K hK => ?_)
  go_simp
  refine (addrBytesR_any fs fh fl _ hq.out.f).mono ?_
  rintro e u2 ⟨v2, rfl, o2, hv2⟩
  have hNa := own_apart o2 o3.out
  refine hK.out _ _ (Kb.below hv2 (by intro p hp; rw [List.mem_singleton.1 hp]; exact hP.lt)) ?_
  replace hP := hP.below hv2
  replace hw := hw.trans (hv2.mono hw.size)
  try (replace o3 := Lib.hid (o3.out.below hv2))
  try (replace hSa := Lib.hid (hSa.out.below hv2))
  try (replace hSb := Lib.hid (hSb.out.below hv2))
  try (replace hSh := Lib.hid (hSh.out.below hv2))
  obtain ⟨Aa, ca, rfl, hSa, hAa⟩ := o2.sl
  replace hSa := Lib.hid hSa
  replace hAa := Lib.hid hAa
  replace hNa := Lib.hid hNa
  clear hK K hv2 o2
  try simp only [Act.put, List.setIfInBounds_toArray, List.set_cons_zero, List.set_cons_succ]
  refine wb_one (i := 5) (by simp only [List.getElem?_toArray, List.getElem?_cons_succ, List.getElem?_cons_zero] <;> rfl) (by kernel_rfl) (by rfl) (fun K hK => ?_)
  go_simp
  refine (addrBytesR_any ts th tl _ hq.out.t).mono ?_
  rintro e u5 ⟨v5, rfl, o5, hv5⟩
  have hNb := own_apart o5 o3.out
  refine hK.out _ _ (Kb.below hv5 (by intro p hp; rw [List.mem_singleton.1 hp]; exact hP.lt)) ?_
  replace hP := hP.below hv5
  replace hw := hw.trans (hv5.mono hw.size)
  try (replace o3 := Lib.hid (o3.out.below hv5))
  try (replace hSa := Lib.hid (hSa.out.below hv5))
  try (replace hSb := Lib.hid (hSb.out.below hv5))
  try (replace hSh := Lib.hid (hSh.out.below hv5))
  obtain ⟨Ab, cb, rfl, hSb, hAb⟩ := o5.sl
  replace hSb := Lib.hid hSb
  replace hAb := Lib.hid hAb
  replace hNb := Lib.hid hNb
  clear hK K hv5 o5
  try simp only [Act.put, List.setIfInBounds_toArray, List.set_cons_zero, List.set_cons_succ]
  refine wb_pure (i := 6) (d := some 5) (v := ?_) (by simp only [List.getElem?_toArray, List.getElem?_cons_succ, List.getElem?_cons_zero] <;> rfl) (by rfl) (by kernel_rfl) (by kernel_rfl) (by kernel_rfl) (fun _ _ _ h => h) (by rfl) ?_ ?_
  rotate_left
  · ((intro u); go_simp; try with_reducible rfl)
  try simp only [Act.put, List.setIfInBounds_toArray, List.set_cons_zero, List.set_cons_succ]
  refine wb_pure (i := 7) (d := some 6) (v := ?_) (by simp only [List.getElem?_toArray, List.getElem?_cons_succ, List.getElem?_cons_zero] <;> rfl) (by rfl) (by kernel_rfl) (by kernel_rfl) (by kernel_rfl) (fun _ _ _ h => h) (by rfl) ?_ ?_
  rotate_left
  · ((intro u); go_simp; try with_reducible rfl)
  try simp only [Act.put, List.setIfInBounds_toArray, List.set_cons_zero, List.set_cons_succ]
  refine wb_done (by kernel_rfl) ?_ _
  skip
  obtain ⟨xa, hxa⟩ : ∃ x, x = adB fs fh fl := ⟨_, rfl⟩
  obtain ⟨xb, hxb⟩ : ∃ x, x = adB ts th tl := ⟨_, rfl⟩
  rw [← hxa] at hSa hNa HLA hxx ⊢
  rw [← hxb] at hSb hNb HLB hxx ⊢
  obtain ⟨la, hla'⟩ : ∃ l, l = xa.length := ⟨_, rfl⟩
  obtain ⟨lb, hlb'⟩ : ∃ l, l = xb.length := ⟨_, rfl⟩
  rw [← hla'] at hSa hNa ⊢
  rw [← hlb'] at hSb hNb ⊢
  have hla : Hid (la = xa.length ∧ la ≤ 16) := Lib.hid ⟨hla', by have := HLA.out; omega⟩
  have hlb : Hid (lb = xb.length ∧ lb ≤ 16) := Lib.hid ⟨hlb', by have := HLB.out; omega⟩
  replace hxa := Lib.hid hxa
  replace hxb := Lib.hid hxb
  clear hla' hlb' HLA HLB
  have L := ldPk_run hP
  go_wp2_with fail
  refine (HCO.out _).mono ?_
  rintro e u24 ⟨rfl, hv24⟩
  replace hP := hP.below hv24
  replace hw := hw.trans (hv24.mono hw.size)
  try (replace o3 := Lib.hid (o3.out.below hv24))
  try (replace hSa := Lib.hid (hSa.out.below hv24))
  try (replace hSb := Lib.hid (hSb.out.below hv24))
  try (replace hSh := Lib.hid (hSh.out.below hv24))
  try (replace hS26 := Lib.hid (hS26.out.below hv24))
  try (replace hS30 := Lib.hid (hS30.out.below hv24))
  clear hv24 L
  have hv26 := (Below.refl u24.heap.size u24).alloc (Nat.le_refl _) (.cells #[.int .u8 0, .int .u8 c] 5)
  have hS26' : SlB (u24.alloc (.cells #[.int .u8 0, .int .u8 c] 5)) (some ⟨u24.heap.size, 0, none⟩) 2 2 [0, c] := slB_lit u24 [0, c] 2 _ rfl rfl
  replace hP := hP.below hv26
  replace hw := hw.trans (hv26.mono hw.size)
  try (replace o3 := Lib.hid (o3.out.below hv26))
  try (replace hSa := Lib.hid (hSa.out.below hv26))
  try (replace hSb := Lib.hid (hSb.out.below hv26))
  try (replace hSh := Lib.hid (hSh.out.below hv26))
  try (replace hS26 := Lib.hid (hS26.out.below hv26))
  try (replace hS30 := Lib.hid (hS30.out.below hv26))
  have hS26 := Lib.hid hS26'
  clear hv26 hS26'
  have HBG := Lib.hid (big_sl 2 (m : Int) (u24.alloc (.cells #[.int .u8 0, .int .u8 c] 5)) (by omega) (by omega) (by omega))
  go_wp2_with fail
  refine HBG.out.mono ?_
  rintro e u30 ⟨A30, c30, rfl, hS30', hA30, hv30⟩
  replace hP := hP.below hv30
  replace hw := hw.trans (hv30.mono hw.size)
  try (replace o3 := Lib.hid (o3.out.below hv30))
  try (replace hSa := Lib.hid (hSa.out.below hv30))
  try (replace hSb := Lib.hid (hSb.out.below hv30))
  try (replace hSh := Lib.hid (hSh.out.below hv30))
  try (replace hS26 := Lib.hid (hS26.out.below hv30))
  try (replace hS30 := Lib.hid (hS30.out.below hv30))
  have hS30 := Lib.hid hS30'
  replace hA30 := Lib.hid hA30
  clear hv30 hS30' HBG
  have hvL := (Below.refl u30.heap.size u30).alloc (Nat.le_refl _) (.cells #[.slice Aa la ca, .slice Ab lb cb, .slice (some ⟨u24.heap.size, 0, none⟩) 2 2, .slice A30 2 c30] 43)
  have hL := Blk.new u30 [.slice Aa la ca, .slice Ab lb cb, .slice (some ⟨u24.heap.size, 0, none⟩) 2 2, .slice A30 2 c30] 43
  replace hP := hP.below hvL
  replace hw := hw.trans (hvL.mono hw.size)
  try (replace o3 := Lib.hid (o3.out.below hvL))
  try (replace hSa := Lib.hid (hSa.out.below hvL))
  try (replace hSb := Lib.hid (hSb.out.below hvL))
  try (replace hSh := Lib.hid (hSh.out.below hvL))
  try (replace hS26 := Lib.hid (hS26.out.below hvL))
  try (replace hS30 := Lib.hid (hS30.out.below hvL))
  have hok : ∀ s ∈ ([SS.mk Aa la ca xa, SS.mk Ab lb cb xb, SS.mk (some ⟨u24.heap.size, 0, none⟩) 2 2 ([0, c]), SS.mk A30 2 c30 ((be (m : Int).toNat 2))] : List SS), s.ok _ := ok4 ⟨hSa.out, hAa.out⟩ ⟨hSb.out, hAb.out⟩ ⟨hS26.out, (fun h => by cases h)⟩ ⟨hS30.out, hA30.out⟩
  have hfl : flatS [SS.mk Aa la ca xa, SS.mk Ab lb cb xb, SS.mk (some ⟨u24.heap.size, 0, none⟩) 2 2 ([0, c]), SS.mk A30 2 c30 ((be (m : Int).toNat 2))] = xa ++ (xb ++ ([0, c] ++ be (m : Int).toNat 2)) := by simp [flatS]
  have hCC := Lib.hid (concat_blk u30.heap.size 4 [SS.mk Aa la ca xa, SS.mk Ab lb cb xb, SS.mk (some ⟨u24.heap.size, 0, none⟩) 2 2 ([0, c]), SS.mk A30 2 c30 ((be (m : Int).toNat 2))] 43 _ hL rfl hok (by rw [hfl]; simp only [List.length_append, be_len, List.length_cons, List.length_nil]; have := hla.out; have := hlb.out; have := hmm.out; have := hm.out; omega) (by rw [hfl]; simp only [List.length_append, be_len, List.length_cons, List.length_nil]; have := hla.out; have := hlb.out; have := hmm.out; have := hm.out; omega) (by omega))
  rw [hfl] at hCC
  clear hvL hL hok hfl
  go_wp2_with fail
  refine hCC.out.mono ?_
  rintro e u32 ⟨v32, rfl, o32, hv32⟩
  have hwzC := hw.size
  replace hP := hP.below hv32
  replace hw := hw.trans (hv32.mono hw.size)
  try (replace o3 := Lib.hid (o3.out.below hv32))
  try (replace hSa := Lib.hid (hSa.out.below hv32))
  try (replace hSb := Lib.hid (hSb.out.below hv32))
  try (replace hSh := Lib.hid (hSh.out.below hv32))
  try (replace hS26 := Lib.hid (hS26.out.below hv32))
  try (replace hS30 := Lib.hid (hS30.out.below hv32))
  replace o32 := o32.mono (B := w.heap.size) hwzC
  obtain ⟨A32, c32, rfl, hS32, hA32⟩ := o32.sl
  clear hv32 hCC hwzC o32
  clear hS26 hS30 hA30
  obtain ⟨xh, hxh⟩ : ∃ x, x = xa ++ (xb ++ ([0, c] ++ be (m : Int).toNat 2)) := ⟨_, rfl⟩
  rw [← hxh] at hS32 ⊢
  obtain ⟨lh, hlh⟩ : ∃ l, l = xh.length := ⟨_, rfl⟩
  rw [← hlh] at hS32 ⊢
  replace hxh := Lib.hid hxh
  replace hlh := Lib.hid hlh
  replace hS32 := Lib.hid hS32
  replace hA32 := Lib.hid hA32

  have c0 := hP.cell (i := 0) (v := .bool fs) rfl
  have c7 := hP.cell (i := 7) (v := .int .i64 proto) rfl
  cases fs
  case true =>
    have HAL : Hid (aheadL q' m = xa ++ (xb ++ (be (m : Int).toNat 4 ++ [0, 0, 0, c]))) := Lib.hid (by rw [HA6.out m (by rw [hq'.out]), hxa.out, hxb.out, hq'.out])
    have hall : Hid ((aheadL q' m).length ≤ 100) := Lib.hid (hALL.out m)
    clear c7 hS32 hA32 hxh hlh
    go_wp2_with fail
    clear c0
    refine wb_begin ([w.heap.size]) [] (by kernel_rfl) (fun u0 hb0' hz0' => ?_)
    try (replace o3 := Lib.hid (o3.out.below hb0'))
    try (replace hSa := Lib.hid (hSa.out.below hb0'))
    try (replace hSb := Lib.hid (hSb.out.below hb0'))
    try (replace hS5 := Lib.hid (hS5.out.below hb0'))
    try (replace hS9 := Lib.hid (hS9.out.below hb0'))
    replace hP := hP.below hb0'
    replace hw := hw.trans (hb0'.mono hw.size)
    clear hb0' hz0'
    refine wb_pure (i := 0) (d := some 36) (v := ?_) (by simp only [List.getElem?_toArray, List.getElem?_cons_succ, List.getElem?_cons_zero] <;> rfl) (by rfl) (by kernel_rfl) (by kernel_rfl) (by kernel_rfl) (fun _ _ _ h => h) (by rfl) ?_ ?_
    rotate_left
    · ((intro u); go_simp; try with_reducible rfl)
    try simp only [Act.put, List.setIfInBounds_toArray, List.set_cons_zero, List.set_cons_succ]
    refine wb_pure (i := 1) (d := some 37) (v := ?_) (by simp only [List.getElem?_toArray, List.getElem?_cons_succ, List.getElem?_cons_zero] <;> rfl) (by rfl) (by kernel_rfl) (by kernel_rfl) (by kernel_rfl) (fun _ _ _ h => h) (by rfl) ?_ ?_
    rotate_left
    · ((intro u); go_simp; try with_reducible rfl)
    try simp only [Act.put, List.setIfInBounds_toArray, List.set_cons_zero, List.set_cons_succ]
    refine wb_pure (i := 2) (d := some 38) (v := ?_) (by simp only [List.getElem?_toArray, List.getElem?_cons_succ, List.getElem?_cons_zero] <;> rfl) (by rfl) (by kernel_rfl) (by kernel_rfl) (by kernel_rfl) (fun _ _ _ h => h) (by rfl) ?_ ?_
    rotate_left
    · ((intro u); go_simp; try with_reducible rfl)
    try simp only [Act.put, List.setIfInBounds_toArray, List.set_cons_zero, List.set_cons_succ]
    refine wb_take (i := 6) (d := some 42) (v := ?_) (by simp only [List.getElem?_toArray, List.getElem?_cons_succ, List.getElem?_cons_zero] <;> rfl) (by rfl) (by kernel_rfl) (by kernel_rfl) (by kernel_rfl) (fun _ _ _ h => h) (by rfl) (by kernel_rfl) ?_ ?_
    rotate_left
    · ((intro u hu); have L := ldPk_run (hP.kb hu (by simp)); go_simp; try with_reducible rfl)
    try simp only [Act.put, List.setIfInBounds_toArray, List.set_cons_zero, List.set_cons_succ]
    refine wb_one (i := 3) (by simp only [List.getElem?_toArray, List.getElem?_cons_succ, List.getElem?_cons_zero] <;> rfl) (by kernel_rfl) (by rfl) (fun K hK => ?_)
    go_simp
    refine hK.out _ _ (Kb.refl _ _) ?_
    clear hK K
    try simp only [Act.put, List.setIfInBounds_toArray, List.set_cons_zero, List.set_cons_succ]
    refine wb_pure (i := 4) (d := some 40) (v := ?_) (by simp only [List.getElem?_toArray, List.getElem?_cons_succ, List.getElem?_cons_zero] <;> rfl) (by rfl) (by kernel_rfl) (by kernel_rfl) (by kernel_rfl) (fun _ _ _ h => h) (by rfl) ?_ ?_
    rotate_left
    · ((intro u); go_simp; try with_reducible rfl)
    try simp only [Act.put, List.setIfInBounds_toArray, List.set_cons_zero, List.set_cons_succ]
    refine wb_one (i := 5) (by simp only [List.getElem?_toArray, List.getElem?_cons_succ, List.getElem?_cons_zero] <;> rfl) (by kernel_rfl) (by rfl) (fun K hK => ?_)
    go_simp
    refine (big_sl 4 (m : Int) _ (by omega) (by omega) (by omega)).mono ?_
    rintro e u5 ⟨A5, c5, rfl, hS5, hA5, hv5⟩
    refine hK.out _ _ (Kb.below hv5 (by intro p hp; rw [List.mem_singleton.1 hp]; exact hP.lt)) ?_
    replace hP := hP.below hv5
    replace hw := hw.trans (hv5.mono hw.size)
    try (replace o3 := Lib.hid (o3.out.below hv5))
    try (replace hSa := Lib.hid (hSa.out.below hv5))
    try (replace hSb := Lib.hid (hSb.out.below hv5))
    try (replace hS5 := Lib.hid (hS5.out.below hv5))
    try (replace hS9 := Lib.hid (hS9.out.below hv5))
    replace hS5 := Lib.hid hS5
    replace hA5 := Lib.hid hA5
    clear hK K hv5
    try simp only [Act.put, List.setIfInBounds_toArray, List.set_cons_zero, List.set_cons_succ]
    refine wb_one (i := 7) (by simp only [List.getElem?_toArray, List.getElem?_cons_succ, List.getElem?_cons_zero] <;> rfl) (by kernel_rfl) (by rfl) (fun K hK => ?_)
    go_simp
    refine (HCO.out _).mono ?_
    rintro e u7 ⟨rfl, hv7⟩
    refine hK.out _ _ (Kb.below hv7 (by intro p hp; rw [List.mem_singleton.1 hp]; exact hP.lt)) ?_
    replace hP := hP.below hv7
    replace hw := hw.trans (hv7.mono hw.size)
    try (replace o3 := Lib.hid (o3.out.below hv7))
    try (replace hSa := Lib.hid (hSa.out.below hv7))
    try (replace hSb := Lib.hid (hSb.out.below hv7))
    try (replace hS5 := Lib.hid (hS5.out.below hv7))
    try (replace hS9 := Lib.hid (hS9.out.below hv7))
    clear hK K hv7
    try simp only [Act.put, List.setIfInBounds_toArray, List.set_cons_zero, List.set_cons_succ]
    refine wb_pure (i := 8) (d := some 44) (v := ?_) (by simp only [List.getElem?_toArray, List.getElem?_cons_succ, List.getElem?_cons_zero] <;> rfl) (by rfl) (by kernel_rfl) (by kernel_rfl) (by kernel_rfl) (fun _ _ _ h => h) (by rfl) ?_ ?_
    rotate_left
    · ((intro u); go_simp; try with_reducible rfl)
    try simp only [Act.put, List.setIfInBounds_toArray, List.set_cons_zero, List.set_cons_succ]
    refine wb_one (i := 9) (by simp only [List.getElem?_toArray, List.getElem?_cons_succ, List.getElem?_cons_zero] <;> rfl) (by kernel_rfl) (by rfl) (fun K hK => ?_)
    go_simp
    refine hK.out _ _ (Kb.gb (World.grownBy_alloc _ _ none) (by intro p hp; rw [List.mem_singleton.1 hp]; exact ⟨hP.lt, by simp⟩)) ?_
    refine wb_new (cs := bV [0, 0, 0, c]) (t := 5) (fun u9 hv9 hL9 hz9 => ?_)
    obtain ⟨A9, hS9, hA9, hE9⟩ := lit_ex (slB_blk (n := 4) hL9 rfl)
    rw [hE9]
    replace hS9 := Lib.hid hS9
    replace hA9 := Lib.hid hA9
    replace hP := hP.below hv9
    replace hw := hw.trans (hv9.mono hw.size)
    try (replace o3 := Lib.hid (o3.out.below hv9))
    try (replace hSa := Lib.hid (hSa.out.below hv9))
    try (replace hSb := Lib.hid (hSb.out.below hv9))
    try (replace hS5 := Lib.hid (hS5.out.below hv9))
    try (replace hS9 := Lib.hid (hS9.out.below hv9))
    clear hK K hz9 hL9 hv9 hE9
    try simp only [Act.put, List.setIfInBounds_toArray, List.set_cons_zero, List.set_cons_succ]
    refine wb_one (i := 10) (by simp only [List.getElem?_toArray, List.getElem?_cons_succ, List.getElem?_cons_zero] <;> rfl) (by kernel_rfl) (by rfl) (fun K hK => ?_)
    go_simp
    refine hK.out _ _ (Kb.gb (World.grownBy_alloc _ _ none) (by intro p hp; rw [List.mem_singleton.1 hp]; exact ⟨hP.lt, by simp⟩)) ?_
    refine wb_new (cs := [.slice Aa la ca, .slice Ab lb cb, .slice A5 4 c5, .slice A9 4 4]) (t := 43) (fun u10 hv10 hL10 hz10 => ?_)
    replace hP := hP.below hv10
    replace hw := hw.trans (hv10.mono hw.size)
    try (replace o3 := Lib.hid (o3.out.below hv10))
    try (replace hSa := Lib.hid (hSa.out.below hv10))
    try (replace hSb := Lib.hid (hSb.out.below hv10))
    try (replace hS5 := Lib.hid (hS5.out.below hv10))
    try (replace hS9 := Lib.hid (hS9.out.below hv10))
    clear hK K hz10 hv10
    try simp only [Act.put, List.setIfInBounds_toArray, List.set_cons_zero, List.set_cons_succ]
    refine wb_one (i := 11) (by simp only [List.getElem?_toArray, List.getElem?_cons_succ, List.getElem?_cons_zero] <;> rfl) (by kernel_rfl) (by rfl) (fun K hK => ?_)
    go_simp
    have hok : ∀ s ∈ ([SS.mk Aa la ca xa, SS.mk Ab lb cb xb, SS.mk A5 4 c5 ((be (m : Int).toNat 4)), SS.mk A9 4 4 ([0, 0, 0, c])] : List SS), s.ok _ := ok4 ⟨hSa.out, hAa.out⟩ ⟨hSb.out, hAb.out⟩ ⟨hS5.out, hA5.out⟩ ⟨hS9.out, hA9.out⟩
    have hfl : flatS [SS.mk Aa la ca xa, SS.mk Ab lb cb xb, SS.mk A5 4 c5 ((be (m : Int).toNat 4)), SS.mk A9 4 4 ([0, 0, 0, c])] = xa ++ (xb ++ (be (m : Int).toNat 4 ++ [0, 0, 0, c])) := by simp [flatS]
    have hCC := concat_blk _ 4 [SS.mk Aa la ca xa, SS.mk Ab lb cb xb, SS.mk A5 4 c5 ((be (m : Int).toNat 4)), SS.mk A9 4 4 ([0, 0, 0, c])] 43 _ hL10 rfl hok (by rw [hfl]; simp only [List.length_append, be_len, List.length_cons, List.length_nil]; have := hla.out; have := hlb.out; have := hmm.out; have := hm.out; omega) (by rw [hfl]; simp only [List.length_append, be_len, List.length_cons, List.length_nil]; have := hla.out; have := hlb.out; have := hmm.out; have := hm.out; omega) (by omega)
    rw [hfl] at hCC
    have hwzC := hw.size
    refine hCC.mono ?_
    rintro e u11 ⟨v11, rfl, o11, hv11⟩
    refine hK.out _ _ (Kb.below hv11 (by intro p hp; rw [List.mem_singleton.1 hp]; exact hP.lt)) ?_
    replace hP := hP.below hv11
    replace hw := hw.trans (hv11.mono hw.size)
    try (replace o3 := Lib.hid (o3.out.below hv11))
    try (replace hSa := Lib.hid (hSa.out.below hv11))
    try (replace hSb := Lib.hid (hSb.out.below hv11))
    try (replace hS5 := Lib.hid (hS5.out.below hv11))
    try (replace hS9 := Lib.hid (hS9.out.below hv11))
    replace o11 := Lib.hid (o11.mono (B := w.heap.size) hwzC)
    clear hK K hv11 hok hfl hCC hwzC hL10
    try simp only [Act.put, List.setIfInBounds_toArray, List.set_cons_zero, List.set_cons_succ]
    refine wb_pure (i := 12) (d := some 7) (v := ?_) (by simp only [List.getElem?_toArray, List.getElem?_cons_succ, List.getElem?_cons_zero] <;> rfl) (by rfl) (by kernel_rfl) (by kernel_rfl) (by kernel_rfl) (fun _ _ _ h => h) (by rfl) ?_ ?_
    rotate_left
    · ((intro u); go_simp; try with_reducible rfl)
    try simp only [Act.put, List.setIfInBounds_toArray, List.set_cons_zero, List.set_cons_succ]
    refine wb_done (by kernel_rfl) ?_ _
    obtain ⟨Ah, ch, rfl, hSh, hAh⟩ := o11.out.sl
    obtain ⟨xh, hxh⟩ : ∃ x, x = xa ++ (xb ++ (be (m : Int).toNat 4 ++ [0, 0, 0, c])) := ⟨_, rfl⟩
    rw [← hxh] at hSh HAL ⊢
    obtain ⟨lh, hlh⟩ : ∃ l, l = xh.length := ⟨_, rfl⟩
    rw [← hlh] at hSh ⊢
    replace hSh := Lib.hid hSh
    replace hAh := Lib.hid hAh
    replace hxh := Lib.hid hxh
    replace hlh := Lib.hid hlh
    clear o11
    have hall : Hid (xh.length ≤ 100) := Lib.hid (by rw [← HAL.out]; exact hALL.out m)
    have hvL := (Below.refl u11.heap.size u11).alloc (Nat.le_refl _) (.cells #[.slice Ah lh ch, .slice (some ⟨g3, 0, none⟩) m c3] 43)
    have hL := Blk.new u11 [.slice Ah lh ch, .slice (some ⟨g3, 0, none⟩) m c3] 43
    replace hP := hP.below hvL
    replace hw := hw.trans (hvL.mono hw.size)
    try (replace o3 := Lib.hid (o3.out.below hvL))
    try (replace hSa := Lib.hid (hSa.out.below hvL))
    try (replace hSb := Lib.hid (hSb.out.below hvL))
    try (replace hSh := Lib.hid (hSh.out.below hvL))
    try (replace hS26 := Lib.hid (hS26.out.below hvL))
    try (replace hS30 := Lib.hid (hS30.out.below hvL))
    have hok : ∀ s ∈ ([SS.mk Ah lh ch xh, SS.mk (some ⟨g3, 0, none⟩) m c3 bz] : List SS), s.ok _ := ok2 ⟨hSh.out, hAh.out⟩ ⟨o3.out.cap.2.2, (fun h => by cases h)⟩
    have hfl : flatS [SS.mk Ah lh ch xh, SS.mk (some ⟨g3, 0, none⟩) m c3 bz] = xh ++ bz := by simp [flatS]
    have hCC := Lib.hid (concat_blk u11.heap.size 2 [SS.mk Ah lh ch xh, SS.mk (some ⟨g3, 0, none⟩) m c3 bz] 43 _ hL rfl hok (by rw [hfl]; simp only [List.length_append]; have := hall.out; have := hmm.out; have := hm.out; omega) (by rw [hfl]; simp only [List.length_append]; have := hall.out; have := hmm.out; have := hm.out; omega) (by omega))
    rw [hfl] at hCC
    clear hvL hL hok hfl
    go_wp2_with fail
    refine hCC.out.mono ?_
    rintro e u54 ⟨v54, rfl, o54, hv54⟩
    have hwzC := hw.size
    replace hP := hP.below hv54
    replace hw := hw.trans (hv54.mono hw.size)
    try (replace o3 := Lib.hid (o3.out.below hv54))
    try (replace hSa := Lib.hid (hSa.out.below hv54))
    try (replace hSb := Lib.hid (hSb.out.below hv54))
    try (replace hSh := Lib.hid (hSh.out.below hv54))
    try (replace hS26 := Lib.hid (hS26.out.below hv54))
    try (replace hS30 := Lib.hid (hS30.out.below hv54))
    replace o54 := o54.mono (B := w.heap.size) hwzC
    obtain ⟨A54, c54, rfl, hS54, hA54⟩ := o54.sl
    clear hv54 hCC hwzC o54
    have hsmb : Byt (xh ++ bz) := Byt.app (by rw [← HAL.out]; exact hALB.out m) hbz.out
    have hsml : (xh ++ bz).length ≤ 100000 := by rw [List.length_append]; have := hall.out; have := hmm.out; have := hm.out; omega
    have HS : Hid (sumF q' bz = if sumR (xh ++ bz) = 0 ∧ proto = 17 then 65535 else sumR (xh ++ bz)) := Lib.hid (by
      have h := HSF.out bz
      rw [← hm.out, HAL.out, show q'.proto = proto by rw [hq'.out]] at h
      exact h)
    generalize xh ++ bz = sm at hS54 hsmb hsml HS ⊢
    obtain ⟨l54, hl54⟩ : ∃ l, l = sm.length := ⟨_, rfl⟩
    rw [← hl54] at hS54 hsml ⊢
    have HCS := Lib.hid (checkSumOf_any A54 l54 c54 sm u54 hS54 hsml hsmb)
    clear hsmb hsml hl54 hS54 hA54 hall hSh hAh
    go_wp2_with fail
    refine HCS.out.mono ?_
    rintro e u55 ⟨rfl, hv55⟩
    replace hP := hP.below hv55
    replace hw := hw.trans (hv55.mono hw.size)
    try (replace o3 := Lib.hid (o3.out.below hv55))
    try (replace hSa := Lib.hid (hSa.out.below hv55))
    try (replace hSb := Lib.hid (hSb.out.below hv55))
    clear hv55 HCS
    have hsf := sumF_in q' bz
    generalize sumR sm = sr at HS ⊢
    generalize sumF q' bz = sf at HS HB hsf
    obtain ⟨hsf0, hsf1⟩ := hsf
    obtain ⟨bq, hbq⟩ : ∃ b : Bool, b = decide (sr = 0 ∧ proto = 17) := ⟨_, rfl⟩
    have c7 := hP.cell (i := 7) (v := .int .i64 proto) rfl
    replace hP := Lib.hid hP
    replace hw := Lib.hid hw
    replace hbq := Lib.hid hbq
    go_upto_region 9 with fail
    go_cut [62] (fun s62 wx => s62 = .bool bq ∧ wx = u55)
    case first =>
      by_cases h0 : sr = 0
      · by_cases h1 : proto = 17
        · have e0 : (sr == 0) = true := by simp [h0]
          have e1 : (proto == 17) = true := by simp [h1]
          replace h0 := Lib.hid h0
          replace h1 := Lib.hid h1
          go_wp2_with fail
          go_meet
          exact ⟨by rw [hbq.out, decide_eq_true ⟨h0.out, h1.out⟩], rfl⟩
        · have e0 : (sr == 0) = true := by simp [h0]
          have e1 : (proto == 17) = false := by simp [h1]
          replace h0 := Lib.hid h0
          replace h1 := Lib.hid h1
          go_wp2_with fail
          go_meet
          exact ⟨by rw [hbq.out, decide_eq_false (fun h => h1.out h.2)], rfl⟩
      · have e0 : (sr == 0) = false := by simp [h0]
        replace h0 := Lib.hid h0
        go_wp2_with fail
        go_meet
        exact ⟨by rw [hbq.out, decide_eq_false (fun h => h0.out h.1)], rfl⟩
    case rest =>
    obtain ⟨rfl, rfl⟩ := hcut
    go_upto_if 62 with fail
    go_cut [8] (fun s8 wx => s8 = .int .i64 sf ∧ wx = wc)
    case first =>
      cases bq
      · have hn : sf = sr := HS.out.trans (if_neg (of_decide_eq_false hbq.out.symm))
        replace hn := Lib.hid hn
        go_wp2_with fail
        go_meet
        exact ⟨by rw [hn.out], rfl⟩
      · have hn : sf = 65535 := HS.out.trans (if_pos (of_decide_eq_true hbq.out.symm))
        replace hn := Lib.hid hn
        go_wp2_with fail
        go_meet
        exact ⟨by rw [hn.out], rfl⟩
    case rest =>
    obtain ⟨rfl, rfl⟩ := hcut
    replace hP := hP.out
    replace hw := hw.out
    clear HS hbq c7
    have hmc := o3.out.cap.2.1
    have hkn : k ≤ m := by have := hmm.out; omega
    have hck : ¬ c3 = k := by have := hmm.out; omega
    have wsf := wrapU sf hsf0 (by omega)
    go_wp2_with fail
    refine wb_begin ([w.heap.size]) [] (by kernel_rfl) (fun u0 hb0' hz0' => ?_)
    try (replace hSa := Lib.hid (hSa.out.below hb0'))
    try (replace hSb := Lib.hid (hSb.out.below hb0'))
    try (replace o3 := Lib.hid (o3.out.below hb0'))
    replace hP := hP.below hb0'
    replace hw := hw.trans (hb0'.mono hw.size)
    clear hb0' hz0'
    refine wb_pure (i := 0) (d := some 63) (v := ?_) (by simp only [List.getElem?_toArray, List.getElem?_cons_succ, List.getElem?_cons_zero] <;> rfl) (by rfl) (by kernel_rfl) (by kernel_rfl) (by kernel_rfl) (fun _ _ _ h => h) (by rfl) ?_ ?_
    rotate_left
    · ((intro u); go_simp; try with_reducible rfl)
    try simp only [Act.put, List.setIfInBounds_toArray, List.set_cons_zero, List.set_cons_succ]
    refine wb_pure (i := 1) (d := some 64) (v := ?_) (by simp only [List.getElem?_toArray, List.getElem?_cons_succ, List.getElem?_cons_zero] <;> rfl) (by rfl) (by kernel_rfl) (by kernel_rfl) (by kernel_rfl) (fun _ _ _ h => h) (by rfl) ?_ ?_
    rotate_left
    · ((intro u); go_simp; try with_reducible rfl)
    try simp only [Act.put, List.setIfInBounds_toArray, List.set_cons_zero, List.set_cons_succ]
    refine wb_take (i := 2) (d := some 65) (v := ?_) (by simp only [List.getElem?_toArray, List.getElem?_cons_succ, List.getElem?_cons_zero] <;> rfl) (by rfl) (by kernel_rfl) (by kernel_rfl) (by kernel_rfl) (fun _ _ _ h => h) (by rfl) (by kernel_rfl) ?_ ?_
    rotate_left
    · ((intro u hu); skip; go_simp; try with_reducible rfl)
    try simp only [Act.put, List.setIfInBounds_toArray, List.set_cons_zero, List.set_cons_succ]
    refine wb_pure (i := 3) (d := some 66) (v := ?_) (by simp only [List.getElem?_toArray, List.getElem?_cons_succ, List.getElem?_cons_zero] <;> rfl) (by rfl) (by kernel_rfl) (by kernel_rfl) (by kernel_rfl) (fun _ _ _ h => h) (by rfl) ?_ ?_
    rotate_left
    · ((intro u); go_simp; try with_reducible rfl)
    try simp only [Act.put, List.setIfInBounds_toArray, List.set_cons_zero, List.set_cons_succ]
    refine wb_pure (i := 4) (d := some 67) (v := ?_) (by simp only [List.getElem?_toArray, List.getElem?_cons_succ, List.getElem?_cons_zero] <;> rfl) (by rfl) (by kernel_rfl) (by kernel_rfl) (by kernel_rfl) (fun _ _ _ h => h) (by rfl) ?_ ?_
    rotate_left
    · ((intro u); go_simp; try with_reducible rfl)
    try simp only [Act.put, List.setIfInBounds_toArray, List.set_cons_zero, List.set_cons_succ]
    refine wb_one (i := 5) (by simp only [List.getElem?_toArray, List.getElem?_cons_succ, List.getElem?_cons_zero] <;> rfl) (by kernel_rfl) (by rfl) (fun K hK => ?_)
    go_simp
    refine (big_sl 2 sf _ (by omega) hsf0 (by omega)).mono ?_
    rintro e u5 ⟨A5, c5, rfl, hS5, hA5, hv5⟩
    refine hK.out _ _ (Kb.below hv5 (by intro p hp; rw [List.mem_singleton.1 hp]; exact hP.lt)) ?_
    replace hP := hP.below hv5
    replace hw := hw.trans (hv5.mono hw.size)
    try (replace hSa := Lib.hid (hSa.out.below hv5))
    try (replace hSb := Lib.hid (hSb.out.below hv5))
    try (replace o3 := Lib.hid (o3.out.below hv5))
    replace hS5 := Lib.hid hS5
    replace hA5 := Lib.hid hA5
    clear hK K hv5
    try simp only [Act.put, List.setIfInBounds_toArray, List.set_cons_zero, List.set_cons_succ]
    refine wb_one (i := 6) (by simp only [List.getElem?_toArray, List.getElem?_cons_succ, List.getElem?_cons_zero] <;> rfl) (by kernel_rfl) (by rfl) (fun K hK => ?_)
    have hgB := (o3.out.lt g3 rfl).1
    refine wp_copy_own _ _ rfl (w.heap.size + 1) g3 m c3 k bz o3.out _ _ rfl A5 2 c5 (be sf.toNat 2) rfl hS5.out (by omega) (by have := hmm.out; omega) (by have := hmm.out; omega) ?_
    intro u6 ho6 hg6
    have hv6 : Below (w.heap.size + 1) u5 u6 := (Below.refl _ _).grown hg6 hP.lt (fun k h => by cases h; exact hgB)
    refine hK.out _ _ (Kb.below hv6 (by intro p hp; rw [List.mem_singleton.1 hp]; omega)) ?_
    replace hP := hP.upB (Nat.lt_succ_self _) hv6
    replace hw := hw.trans (hv6.mono (by omega))
    replace hSa := Lib.hid (hSa.out.gb hg6 hNa.out)
    replace hSb := Lib.hid (hSb.out.gb hg6 hNb.out)
    replace o3 := Lib.hid ho6
    clear hK K hv6 hg6 hS5 hA5 hgB
    try simp only [Act.put, List.setIfInBounds_toArray, List.set_cons_zero, List.set_cons_succ]
    refine wb_done (by kernel_rfl) ?_ _
    skip
    have hbd : (splice bz k (be sf.toNat 2)).length = m := by rw [splice_len (by rw [be_len]; have := hmm.out; have := hm.out; omega)]; exact hm.out.symm
    rw [hbd] at HB
    generalize splice bz k (be sf.toNat 2) = bd at HB hbd o3
    replace hm := Lib.hid hbd.symm
    clear hbd hkn hck wsf

    have HBE : Hid (BL = [96, 0, 0, 0] ++ (be (m : Int).toNat 2 ++ ([c, hp] ++ (xa ++ (xb ++ bd))))) := Lib.hid (by rw [HB.out, HH6.out m (by rw [hq'.out]), hxa.out, hxb.out, hq'.out]; simp)
    have c0 := hP.cell (i := 0) (v := .bool true) rfl
    go_wp2_with fail
    clear c0
    refine wb_begin ([w.heap.size]) [] (by kernel_rfl) (fun u0 hb0' hz0' => ?_)
    try (replace hSa := Lib.hid (hSa.out.below hb0'))
    try (replace hSb := Lib.hid (hSb.out.below hb0'))
    try (replace o3 := Lib.hid (o3.out.below hb0'))
    try (replace hS0 := Lib.hid (hS0.out.below hb0'))
    try (replace hS4 := Lib.hid (hS4.out.below hb0'))
    try (replace hS11 := Lib.hid (hS11.out.below hb0'))
    replace hP := hP.below hb0'
    replace hw := hw.trans (hb0'.mono hw.size)
    clear hb0' hz0'
    refine wb_pure (i := 1) (d := some 74) (v := ?_) (by simp only [List.getElem?_toArray, List.getElem?_cons_succ, List.getElem?_cons_zero] <;> rfl) (by rfl) (by kernel_rfl) (by kernel_rfl) (by kernel_rfl) (fun _ _ _ h => h) (by rfl) ?_ ?_
    rotate_left
    · ((intro u); go_simp; try with_reducible rfl)
    try simp only [Act.put, List.setIfInBounds_toArray, List.set_cons_zero, List.set_cons_succ]
    refine wb_take (i := 2) (d := some 75) (v := ?_) (by simp only [List.getElem?_toArray, List.getElem?_cons_succ, List.getElem?_cons_zero] <;> rfl) (by rfl) (by kernel_rfl) (by kernel_rfl) (by kernel_rfl) (fun _ _ _ h => h) (by rfl) (by kernel_rfl) ?_ ?_
    rotate_left
    · ((intro u hu); have L := ldPk_run (hP.kb hu (by simp)); have k6 := (hP.kb hu (by simp)).cell (i := 6) (v := .int .i64 hp) rfl; go_simp; try with_reducible rfl)
    try simp only [Act.put, List.setIfInBounds_toArray, List.set_cons_zero, List.set_cons_succ]
    refine wb_pure (i := 3) (d := some 76) (v := ?_) (by simp only [List.getElem?_toArray, List.getElem?_cons_succ, List.getElem?_cons_zero] <;> rfl) (by rfl) (by kernel_rfl) (by kernel_rfl) (by kernel_rfl) (fun _ _ _ h => h) (by rfl) ?_ ?_
    rotate_left
    · ((intro u); go_simp; try with_reducible rfl)
    try simp only [Act.put, List.setIfInBounds_toArray, List.set_cons_zero, List.set_cons_succ]
    refine wb_take (i := 5) (d := some 78) (v := ?_) (by simp only [List.getElem?_toArray, List.getElem?_cons_succ, List.getElem?_cons_zero] <;> rfl) (by rfl) (by kernel_rfl) (by kernel_rfl) (by kernel_rfl) (fun _ _ _ h => h) (by rfl) (by kernel_rfl) ?_ ?_
    rotate_left
    · ((intro u hu); have L := ldPk_run (hP.kb hu (by simp)); have k6 := (hP.kb hu (by simp)).cell (i := 6) (v := .int .i64 hp) rfl; go_simp; try with_reducible rfl)
    try simp only [Act.put, List.setIfInBounds_toArray, List.set_cons_zero, List.set_cons_succ]
    refine wb_pure (i := 8) (d := some 81) (v := ?_) (by simp only [List.getElem?_toArray, List.getElem?_cons_succ, List.getElem?_cons_zero] <;> rfl) (by rfl) (by kernel_rfl) (by kernel_rfl) (by kernel_rfl) (fun _ _ _ h => h) (by rfl) ?_ ?_
    rotate_left
    · ((intro u); go_simp; try with_reducible rfl)
    try simp only [Act.put, List.setIfInBounds_toArray, List.set_cons_zero, List.set_cons_succ]
    refine wb_take (i := 9) (d := some 82) (v := ?_) (by simp only [List.getElem?_toArray, List.getElem?_cons_succ, List.getElem?_cons_zero] <;> rfl) (by rfl) (by kernel_rfl) (by kernel_rfl) (by kernel_rfl) (fun _ _ _ h => h) (by rfl) (by kernel_rfl) ?_ ?_
    rotate_left
    · ((intro u hu); have L := ldPk_run (hP.kb hu (by simp)); have k6 := (hP.kb hu (by simp)).cell (i := 6) (v := .int .i64 hp) rfl; go_simp; try with_reducible rfl)
    try simp only [Act.put, List.setIfInBounds_toArray, List.set_cons_zero, List.set_cons_succ]
    refine wb_pure (i := 10) (d := some 83) (v := ?_) (by simp only [List.getElem?_toArray, List.getElem?_cons_succ, List.getElem?_cons_zero] <;> rfl) (by rfl) (by kernel_rfl) (by kernel_rfl) (by kernel_rfl) (fun _ _ _ h => h) (by rfl) ?_ ?_
    rotate_left
    · ((intro u); go_simp; try with_reducible rfl)
    try simp only [Act.put, List.setIfInBounds_toArray, List.set_cons_zero, List.set_cons_succ]
    refine wb_pure (i := 12) (d := some 85) (v := ?_) (by simp only [List.getElem?_toArray, List.getElem?_cons_succ, List.getElem?_cons_zero] <;> rfl) (by rfl) (by kernel_rfl) (by kernel_rfl) (by kernel_rfl) (fun _ _ _ h => h) (by rfl) ?_ ?_
    rotate_left
    · ((intro u); go_simp; try with_reducible rfl)
    try simp only [Act.put, List.setIfInBounds_toArray, List.set_cons_zero, List.set_cons_succ]
    refine wb_pure (i := 13) (d := some 86) (v := ?_) (by simp only [List.getElem?_toArray, List.getElem?_cons_succ, List.getElem?_cons_zero] <;> rfl) (by rfl) (by kernel_rfl) (by kernel_rfl) (by kernel_rfl) (fun _ _ _ h => h) (by rfl) ?_ ?_
    rotate_left
    · ((intro u); go_simp; try with_reducible rfl)
    try simp only [Act.put, List.setIfInBounds_toArray, List.set_cons_zero, List.set_cons_succ]
    refine wb_pure (i := 14) (d := some 87) (v := ?_) (by simp only [List.getElem?_toArray, List.getElem?_cons_succ, List.getElem?_cons_zero] <;> rfl) (by rfl) (by kernel_rfl) (by kernel_rfl) (by kernel_rfl) (fun _ _ _ h => h) (by rfl) ?_ ?_
    rotate_left
    · ((intro u); go_simp; try with_reducible rfl)
    try simp only [Act.put, List.setIfInBounds_toArray, List.set_cons_zero, List.set_cons_succ]
    refine wb_two (i := 0) (k := 4) (by simp only [List.getElem?_toArray, List.getElem?_cons_succ, List.getElem?_cons_zero] <;> rfl) (by simp only [List.getElem?_toArray, List.getElem?_cons_succ, List.getElem?_cons_zero] <;> rfl) (by kernel_rfl) (by rfl) (by rfl) (fun K hK => ?_) (fun K hK => ?_)
    · go_simp
      refine hK.out _ _ (Kb.gb (World.grownBy_alloc _ _ none) (by intro p hp; rw [List.mem_singleton.1 hp]; exact ⟨hP.lt, by simp⟩)) ?_
      refine wb_new (cs := bV [96, 0, 0, 0]) (t := 5) (fun u0 hv0 hL0 hz0 => ?_)
      obtain ⟨A0, hS0, hA0, hE0⟩ := lit_ex (slB_blk (n := 4) hL0 rfl)
      rw [hE0]
      replace hS0 := Lib.hid hS0
      replace hA0 := Lib.hid hA0
      replace hP := hP.below hv0
      replace hw := hw.trans (hv0.mono hw.size)
      try (replace hSa := Lib.hid (hSa.out.below hv0))
      try (replace hSb := Lib.hid (hSb.out.below hv0))
      try (replace o3 := Lib.hid (o3.out.below hv0))
      try (replace hS0 := Lib.hid (hS0.out.below hv0))
      try (replace hS4 := Lib.hid (hS4.out.below hv0))
      try (replace hS11 := Lib.hid (hS11.out.below hv0))
      clear hK K hz0 hL0 hv0 hE0
      try simp only [Act.put, List.setIfInBounds_toArray, List.set_cons_zero, List.set_cons_succ]
      refine wb_one (i := 4) (by simp only [List.getElem?_toArray, List.getElem?_cons_succ, List.getElem?_cons_zero] <;> rfl) (by kernel_rfl) (by rfl) (fun K hK => ?_)
      go_simp
      refine (big_sl 2 (m : Int) _ (by omega) (by omega) (by omega)).mono ?_
      rintro e u4 ⟨A4, c4, rfl, hS4, hA4, hv4⟩
      refine hK.out _ _ (Kb.below hv4 (by intro p hp; rw [List.mem_singleton.1 hp]; exact hP.lt)) ?_
      replace hP := hP.below hv4
      replace hw := hw.trans (hv4.mono hw.size)
      try (replace hSa := Lib.hid (hSa.out.below hv4))
      try (replace hSb := Lib.hid (hSb.out.below hv4))
      try (replace o3 := Lib.hid (o3.out.below hv4))
      try (replace hS0 := Lib.hid (hS0.out.below hv4))
      try (replace hS4 := Lib.hid (hS4.out.below hv4))
      try (replace hS11 := Lib.hid (hS11.out.below hv4))
      replace hS4 := Lib.hid hS4
      replace hA4 := Lib.hid hA4
      clear hK K hv4
      try simp only [Act.put, List.setIfInBounds_toArray, List.set_cons_zero, List.set_cons_succ]
      refine wb_one (i := 6) (by simp only [List.getElem?_toArray, List.getElem?_cons_succ, List.getElem?_cons_zero] <;> rfl) (by kernel_rfl) (by rfl) (fun K hK => ?_)
      go_simp
      refine (HCO.out _).mono ?_
      rintro e u6 ⟨rfl, hv6⟩
      refine hK.out _ _ (Kb.below hv6 (by intro p hp; rw [List.mem_singleton.1 hp]; exact hP.lt)) ?_
      replace hP := hP.below hv6
      replace hw := hw.trans (hv6.mono hw.size)
      try (replace hSa := Lib.hid (hSa.out.below hv6))
      try (replace hSb := Lib.hid (hSb.out.below hv6))
      try (replace o3 := Lib.hid (o3.out.below hv6))
      try (replace hS0 := Lib.hid (hS0.out.below hv6))
      try (replace hS4 := Lib.hid (hS4.out.below hv6))
      try (replace hS11 := Lib.hid (hS11.out.below hv6))
      clear hK K hv6
      try simp only [Act.put, List.setIfInBounds_toArray, List.set_cons_zero, List.set_cons_succ]
      refine wb_pure (i := 7) (d := some 80) (v := ?_) (by simp only [List.getElem?_toArray, List.getElem?_cons_succ, List.getElem?_cons_zero] <;> rfl) (by rfl) (by kernel_rfl) (by kernel_rfl) (by kernel_rfl) (fun _ _ _ h => h) (by rfl) ?_ ?_
      rotate_left
      · ((intro u); go_simp; try with_reducible rfl)
      try simp only [Act.put, List.setIfInBounds_toArray, List.set_cons_zero, List.set_cons_succ]
      refine wb_one (i := 11) (by simp only [List.getElem?_toArray, List.getElem?_cons_succ, List.getElem?_cons_zero] <;> rfl) (by kernel_rfl) (by rfl) (fun K hK => ?_)
      go_simp
      refine hK.out _ _ (Kb.gb (World.grownBy_alloc _ _ none) (by intro p hp; rw [List.mem_singleton.1 hp]; exact ⟨hP.lt, by simp⟩)) ?_
      refine wb_new (cs := bV [c, hp]) (t := 5) (fun u11 hv11 hL11 hz11 => ?_)
      obtain ⟨A11, hS11, hA11, hE11⟩ := lit_ex (slB_blk (n := 2) hL11 rfl)
      rw [hE11]
      replace hS11 := Lib.hid hS11
      replace hA11 := Lib.hid hA11
      replace hP := hP.below hv11
      replace hw := hw.trans (hv11.mono hw.size)
      try (replace hSa := Lib.hid (hSa.out.below hv11))
      try (replace hSb := Lib.hid (hSb.out.below hv11))
      try (replace o3 := Lib.hid (o3.out.below hv11))
      try (replace hS0 := Lib.hid (hS0.out.below hv11))
      try (replace hS4 := Lib.hid (hS4.out.below hv11))
      try (replace hS11 := Lib.hid (hS11.out.below hv11))
      clear hK K hz11 hL11 hv11 hE11
      try simp only [Act.put, List.setIfInBounds_toArray, List.set_cons_zero, List.set_cons_succ]
      refine wb_one (i := 15) (by simp only [List.getElem?_toArray, List.getElem?_cons_succ, List.getElem?_cons_zero] <;> rfl) (by kernel_rfl) (by rfl) (fun K hK => ?_)
      go_simp
      refine hK.out _ _ (Kb.gb (World.grownBy_alloc _ _ none) (by intro p hp; rw [List.mem_singleton.1 hp]; exact ⟨hP.lt, by simp⟩)) ?_
      refine wb_new (cs := [.slice A0 4 4, .slice A4 2 c4, .slice A11 2 2, .slice Aa la ca, .slice Ab lb cb, .slice (some ⟨g3, 0, none⟩) m c3]) (t := 43) (fun u15 hv15 hL15 hz15 => ?_)
      replace hP := hP.below hv15
      replace hw := hw.trans (hv15.mono hw.size)
      try (replace hSa := Lib.hid (hSa.out.below hv15))
      try (replace hSb := Lib.hid (hSb.out.below hv15))
      try (replace o3 := Lib.hid (o3.out.below hv15))
      try (replace hS0 := Lib.hid (hS0.out.below hv15))
      try (replace hS4 := Lib.hid (hS4.out.below hv15))
      try (replace hS11 := Lib.hid (hS11.out.below hv15))
      clear hK K hz15 hv15
      try simp only [Act.put, List.setIfInBounds_toArray, List.set_cons_zero, List.set_cons_succ]
      refine wb_one (i := 16) (by simp only [List.getElem?_toArray, List.getElem?_cons_succ, List.getElem?_cons_zero] <;> rfl) (by kernel_rfl) (by rfl) (fun K hK => ?_)
      go_simp
      have hok : ∀ s ∈ ([SS.mk A0 4 4 ([96, 0, 0, 0]), SS.mk A4 2 c4 ((be (m : Int).toNat 2)), SS.mk A11 2 2 ([c, hp]), SS.mk Aa la ca xa, SS.mk Ab lb cb xb, SS.mk (some ⟨g3, 0, none⟩) m c3 bd] : List SS), s.ok _ := ok6 ⟨hS0.out, hA0.out⟩ ⟨hS4.out, hA4.out⟩ ⟨hS11.out, hA11.out⟩ ⟨hSa.out, hAa.out⟩ ⟨hSb.out, hAb.out⟩ ⟨o3.out.cap.2.2, (fun h => by cases h)⟩
      have hfl : flatS [SS.mk A0 4 4 ([96, 0, 0, 0]), SS.mk A4 2 c4 ((be (m : Int).toNat 2)), SS.mk A11 2 2 ([c, hp]), SS.mk Aa la ca xa, SS.mk Ab lb cb xb, SS.mk (some ⟨g3, 0, none⟩) m c3 bd] = [96, 0, 0, 0] ++ (be (m : Int).toNat 2 ++ ([c, hp] ++ (xa ++ (xb ++ bd)))) := by simp [flatS]
      have hCC := concat_blk _ 6 [SS.mk A0 4 4 ([96, 0, 0, 0]), SS.mk A4 2 c4 ((be (m : Int).toNat 2)), SS.mk A11 2 2 ([c, hp]), SS.mk Aa la ca xa, SS.mk Ab lb cb xb, SS.mk (some ⟨g3, 0, none⟩) m c3 bd] 43 _ hL15 rfl hok (by rw [hfl]; simp only [List.length_append, be_len, List.length_cons, List.length_nil]; have := hla.out; have := hlb.out; have := hmm.out; have := hm.out; omega) (by rw [hfl]; simp only [List.length_append, be_len, List.length_cons, List.length_nil]; have := hla.out; have := hlb.out; have := hmm.out; have := hm.out; omega) (by omega)
      rw [hfl] at hCC
      have hwzC := hw.size
      refine hCC.mono ?_
      rintro e u16 ⟨v16, rfl, o16, hv16⟩
      refine hK.out _ _ (Kb.below hv16 (by intro p hp; rw [List.mem_singleton.1 hp]; exact hP.lt)) ?_
      replace hP := hP.below hv16
      replace hw := hw.trans (hv16.mono hw.size)
      try (replace hSa := Lib.hid (hSa.out.below hv16))
      try (replace hSb := Lib.hid (hSb.out.below hv16))
      try (replace o3 := Lib.hid (o3.out.below hv16))
      try (replace hS0 := Lib.hid (hS0.out.below hv16))
      try (replace hS4 := Lib.hid (hS4.out.below hv16))
      try (replace hS11 := Lib.hid (hS11.out.below hv16))
      replace o16 := Lib.hid (o16.mono (B := w.heap.size) hwzC)
      clear hK K hv16 hok hfl hCC hwzC hL15
      try simp only [Act.put, List.setIfInBounds_toArray, List.set_cons_zero, List.set_cons_succ]
      refine wb_pure (i := 17) (d := some 2) (v := ?_) (by simp only [List.getElem?_toArray, List.getElem?_cons_succ, List.getElem?_cons_zero] <;> rfl) (by rfl) (by kernel_rfl) (by kernel_rfl) (by kernel_rfl) (fun _ _ _ h => h) (by rfl) ?_ ?_
      rotate_left
      · ((intro u); go_simp; try with_reducible rfl)
      try simp only [Act.put, List.setIfInBounds_toArray, List.set_cons_zero, List.set_cons_succ]
      refine wb_done (by kernel_rfl) ?_ _
      go_wp2_with fail
      go_ret
      exact ⟨_, rfl, by rw [HBE.out]; exact o16.out, hw⟩
    · go_simp
      refine (big_sl 2 (m : Int) _ (by omega) (by omega) (by omega)).mono ?_
      rintro e u4 ⟨A4, c4, rfl, hS4, hA4, hv4⟩
      refine hK.out _ _ (Kb.below hv4 (by intro p hp; rw [List.mem_singleton.1 hp]; exact hP.lt)) ?_
      replace hP := hP.below hv4
      replace hw := hw.trans (hv4.mono hw.size)
      try (replace hSa := Lib.hid (hSa.out.below hv4))
      try (replace hSb := Lib.hid (hSb.out.below hv4))
      try (replace o3 := Lib.hid (o3.out.below hv4))
      try (replace hS0 := Lib.hid (hS0.out.below hv4))
      try (replace hS4 := Lib.hid (hS4.out.below hv4))
      try (replace hS11 := Lib.hid (hS11.out.below hv4))
      replace hS4 := Lib.hid hS4
      replace hA4 := Lib.hid hA4
      clear hK K hv4
      try simp only [Act.put, List.setIfInBounds_toArray, List.set_cons_zero, List.set_cons_succ]
      refine wb_two (i := 0) (k := 6) (by simp only [List.getElem?_toArray, List.getElem?_cons_succ, List.getElem?_cons_zero] <;> rfl) (by simp only [List.getElem?_toArray, List.getElem?_cons_succ, List.getElem?_cons_zero] <;> rfl) (by kernel_rfl) (by rfl) (by rfl) (fun K hK => ?_) (fun K hK => ?_)
      · go_simp
        refine hK.out _ _ (Kb.gb (World.grownBy_alloc _ _ none) (by intro p hp; rw [List.mem_singleton.1 hp]; exact ⟨hP.lt, by simp⟩)) ?_
        refine wb_new (cs := bV [96, 0, 0, 0]) (t := 5) (fun u0 hv0 hL0 hz0 => ?_)
        obtain ⟨A0, hS0, hA0, hE0⟩ := lit_ex (slB_blk (n := 4) hL0 rfl)
        rw [hE0]
        replace hS0 := Lib.hid hS0
        replace hA0 := Lib.hid hA0
        replace hP := hP.below hv0
        replace hw := hw.trans (hv0.mono hw.size)
        try (replace hSa := Lib.hid (hSa.out.below hv0))
        try (replace hSb := Lib.hid (hSb.out.below hv0))
        try (replace o3 := Lib.hid (o3.out.below hv0))
        try (replace hS0 := Lib.hid (hS0.out.below hv0))
        try (replace hS4 := Lib.hid (hS4.out.below hv0))
        try (replace hS11 := Lib.hid (hS11.out.below hv0))
        clear hK K hz0 hL0 hv0 hE0
        try simp only [Act.put, List.setIfInBounds_toArray, List.set_cons_zero, List.set_cons_succ]
        refine wb_one (i := 6) (by simp only [List.getElem?_toArray, List.getElem?_cons_succ, List.getElem?_cons_zero] <;> rfl) (by kernel_rfl) (by rfl) (fun K hK => ?_)
        go_simp
        refine (HCO.out _).mono ?_
        rintro e u6 ⟨rfl, hv6⟩
        refine hK.out _ _ (Kb.below hv6 (by intro p hp; rw [List.mem_singleton.1 hp]; exact hP.lt)) ?_
        replace hP := hP.below hv6
        replace hw := hw.trans (hv6.mono hw.size)
        try (replace hSa := Lib.hid (hSa.out.below hv6))
        try (replace hSb := Lib.hid (hSb.out.below hv6))
        try (replace o3 := Lib.hid (o3.out.below hv6))
        try (replace hS0 := Lib.hid (hS0.out.below hv6))
        try (replace hS4 := Lib.hid (hS4.out.below hv6))
        try (replace hS11 := Lib.hid (hS11.out.below hv6))
        clear hK K hv6
        try simp only [Act.put, List.setIfInBounds_toArray, List.set_cons_zero, List.set_cons_succ]
        refine wb_pure (i := 7) (d := some 80) (v := ?_) (by simp only [List.getElem?_toArray, List.getElem?_cons_succ, List.getElem?_cons_zero] <;> rfl) (by rfl) (by kernel_rfl) (by kernel_rfl) (by kernel_rfl) (fun _ _ _ h => h) (by rfl) ?_ ?_
        rotate_left
        · ((intro u); go_simp; try with_reducible rfl)
        try simp only [Act.put, List.setIfInBounds_toArray, List.set_cons_zero, List.set_cons_succ]
        refine wb_one (i := 11) (by simp only [List.getElem?_toArray, List.getElem?_cons_succ, List.getElem?_cons_zero] <;> rfl) (by kernel_rfl) (by rfl) (fun K hK => ?_)
        go_simp
        refine hK.out _ _ (Kb.gb (World.grownBy_alloc _ _ none) (by intro p hp; rw [List.mem_singleton.1 hp]; exact ⟨hP.lt, by simp⟩)) ?_
        refine wb_new (cs := bV [c, hp]) (t := 5) (fun u11 hv11 hL11 hz11 => ?_)
        obtain ⟨A11, hS11, hA11, hE11⟩ := lit_ex (slB_blk (n := 2) hL11 rfl)
        rw [hE11]
        replace hS11 := Lib.hid hS11
        replace hA11 := Lib.hid hA11
        replace hP := hP.below hv11
        replace hw := hw.trans (hv11.mono hw.size)
        try (replace hSa := Lib.hid (hSa.out.below hv11))
        try (replace hSb := Lib.hid (hSb.out.below hv11))
        try (replace o3 := Lib.hid (o3.out.below hv11))
        try (replace hS0 := Lib.hid (hS0.out.below hv11))
        try (replace hS4 := Lib.hid (hS4.out.below hv11))
        try (replace hS11 := Lib.hid (hS11.out.below hv11))
        clear hK K hz11 hL11 hv11 hE11
        try simp only [Act.put, List.setIfInBounds_toArray, List.set_cons_zero, List.set_cons_succ]
        refine wb_one (i := 15) (by simp only [List.getElem?_toArray, List.getElem?_cons_succ, List.getElem?_cons_zero] <;> rfl) (by kernel_rfl) (by rfl) (fun K hK => ?_)
        go_simp
        refine hK.out _ _ (Kb.gb (World.grownBy_alloc _ _ none) (by intro p hp; rw [List.mem_singleton.1 hp]; exact ⟨hP.lt, by simp⟩)) ?_
        refine wb_new (cs := [.slice A0 4 4, .slice A4 2 c4, .slice A11 2 2, .slice Aa la ca, .slice Ab lb cb, .slice (some ⟨g3, 0, none⟩) m c3]) (t := 43) (fun u15 hv15 hL15 hz15 => ?_)
        replace hP := hP.below hv15
        replace hw := hw.trans (hv15.mono hw.size)
        try (replace hSa := Lib.hid (hSa.out.below hv15))
        try (replace hSb := Lib.hid (hSb.out.below hv15))
        try (replace o3 := Lib.hid (o3.out.below hv15))
        try (replace hS0 := Lib.hid (hS0.out.below hv15))
        try (replace hS4 := Lib.hid (hS4.out.below hv15))
        try (replace hS11 := Lib.hid (hS11.out.below hv15))
        clear hK K hz15 hv15
        try simp only [Act.put, List.setIfInBounds_toArray, List.set_cons_zero, List.set_cons_succ]
        refine wb_one (i := 16) (by simp only [List.getElem?_toArray, List.getElem?_cons_succ, List.getElem?_cons_zero] <;> rfl) (by kernel_rfl) (by rfl) (fun K hK => ?_)
        go_simp
        have hok : ∀ s ∈ ([SS.mk A0 4 4 ([96, 0, 0, 0]), SS.mk A4 2 c4 ((be (m : Int).toNat 2)), SS.mk A11 2 2 ([c, hp]), SS.mk Aa la ca xa, SS.mk Ab lb cb xb, SS.mk (some ⟨g3, 0, none⟩) m c3 bd] : List SS), s.ok _ := ok6 ⟨hS0.out, hA0.out⟩ ⟨hS4.out, hA4.out⟩ ⟨hS11.out, hA11.out⟩ ⟨hSa.out, hAa.out⟩ ⟨hSb.out, hAb.out⟩ ⟨o3.out.cap.2.2, (fun h => by cases h)⟩
        have hfl : flatS [SS.mk A0 4 4 ([96, 0, 0, 0]), SS.mk A4 2 c4 ((be (m : Int).toNat 2)), SS.mk A11 2 2 ([c, hp]), SS.mk Aa la ca xa, SS.mk Ab lb cb xb, SS.mk (some ⟨g3, 0, none⟩) m c3 bd] = [96, 0, 0, 0] ++ (be (m : Int).toNat 2 ++ ([c, hp] ++ (xa ++ (xb ++ bd)))) := by simp [flatS]
        have hCC := concat_blk _ 6 [SS.mk A0 4 4 ([96, 0, 0, 0]), SS.mk A4 2 c4 ((be (m : Int).toNat 2)), SS.mk A11 2 2 ([c, hp]), SS.mk Aa la ca xa, SS.mk Ab lb cb xb, SS.mk (some ⟨g3, 0, none⟩) m c3 bd] 43 _ hL15 rfl hok (by rw [hfl]; simp only [List.length_append, be_len, List.length_cons, List.length_nil]; have := hla.out; have := hlb.out; have := hmm.out; have := hm.out; omega) (by rw [hfl]; simp only [List.length_append, be_len, List.length_cons, List.length_nil]; have := hla.out; have := hlb.out; have := hmm.out; have := hm.out; omega) (by omega)
        rw [hfl] at hCC
        have hwzC := hw.size
        refine hCC.mono ?_
        rintro e u16 ⟨v16, rfl, o16, hv16⟩
        refine hK.out _ _ (Kb.below hv16 (by intro p hp; rw [List.mem_singleton.1 hp]; exact hP.lt)) ?_
        replace hP := hP.below hv16
        replace hw := hw.trans (hv16.mono hw.size)
        try (replace hSa := Lib.hid (hSa.out.below hv16))
        try (replace hSb := Lib.hid (hSb.out.below hv16))
        try (replace o3 := Lib.hid (o3.out.below hv16))
        try (replace hS0 := Lib.hid (hS0.out.below hv16))
        try (replace hS4 := Lib.hid (hS4.out.below hv16))
        try (replace hS11 := Lib.hid (hS11.out.below hv16))
        replace o16 := Lib.hid (o16.mono (B := w.heap.size) hwzC)
        clear hK K hv16 hok hfl hCC hwzC hL15
        try simp only [Act.put, List.setIfInBounds_toArray, List.set_cons_zero, List.set_cons_succ]
        refine wb_pure (i := 17) (d := some 2) (v := ?_) (by simp only [List.getElem?_toArray, List.getElem?_cons_succ, List.getElem?_cons_zero] <;> rfl) (by rfl) (by kernel_rfl) (by kernel_rfl) (by kernel_rfl) (fun _ _ _ h => h) (by rfl) ?_ ?_
        rotate_left
        · ((intro u); go_simp; try with_reducible rfl)
        try simp only [Act.put, List.setIfInBounds_toArray, List.set_cons_zero, List.set_cons_succ]
        refine wb_done (by kernel_rfl) ?_ _
        go_wp2_with fail
        go_ret
        exact ⟨_, rfl, by rw [HBE.out]; exact o16.out, hw⟩
      · go_simp
        refine (HCO.out _).mono ?_
        rintro e u6 ⟨rfl, hv6⟩
        refine hK.out _ _ (Kb.below hv6 (by intro p hp; rw [List.mem_singleton.1 hp]; exact hP.lt)) ?_
        replace hP := hP.below hv6
        replace hw := hw.trans (hv6.mono hw.size)
        try (replace hSa := Lib.hid (hSa.out.below hv6))
        try (replace hSb := Lib.hid (hSb.out.below hv6))
        try (replace o3 := Lib.hid (o3.out.below hv6))
        try (replace hS0 := Lib.hid (hS0.out.below hv6))
        try (replace hS4 := Lib.hid (hS4.out.below hv6))
        try (replace hS11 := Lib.hid (hS11.out.below hv6))
        clear hK K hv6
        try simp only [Act.put, List.setIfInBounds_toArray, List.set_cons_zero, List.set_cons_succ]
        refine wb_pure (i := 7) (d := some 80) (v := ?_) (by simp only [List.getElem?_toArray, List.getElem?_cons_succ, List.getElem?_cons_zero] <;> rfl) (by rfl) (by kernel_rfl) (by kernel_rfl) (by kernel_rfl) (fun _ _ _ h => h) (by rfl) ?_ ?_
        rotate_left
        · ((intro u); go_simp; try with_reducible rfl)
        try simp only [Act.put, List.setIfInBounds_toArray, List.set_cons_zero, List.set_cons_succ]
        refine wb_two (i := 0) (k := 11) (by simp only [List.getElem?_toArray, List.getElem?_cons_succ, List.getElem?_cons_zero] <;> rfl) (by simp only [List.getElem?_toArray, List.getElem?_cons_succ, List.getElem?_cons_zero] <;> rfl) (by kernel_rfl) (by rfl) (by rfl) (fun K hK => ?_) (fun K hK => ?_)
        · go_simp
          refine hK.out _ _ (Kb.gb (World.grownBy_alloc _ _ none) (by intro p hp; rw [List.mem_singleton.1 hp]; exact ⟨hP.lt, by simp⟩)) ?_
          refine wb_new (cs := bV [96, 0, 0, 0]) (t := 5) (fun u0 hv0 hL0 hz0 => ?_)
          obtain ⟨A0, hS0, hA0, hE0⟩ := lit_ex (slB_blk (n := 4) hL0 rfl)
          rw [hE0]
          replace hS0 := Lib.hid hS0
          replace hA0 := Lib.hid hA0
          replace hP := hP.below hv0
          replace hw := hw.trans (hv0.mono hw.size)
          try (replace hSa := Lib.hid (hSa.out.below hv0))
          try (replace hSb := Lib.hid (hSb.out.below hv0))
          try (replace o3 := Lib.hid (o3.out.below hv0))
          try (replace hS0 := Lib.hid (hS0.out.below hv0))
          try (replace hS4 := Lib.hid (hS4.out.below hv0))
          try (replace hS11 := Lib.hid (hS11.out.below hv0))
          clear hK K hz0 hL0 hv0 hE0
          try simp only [Act.put, List.setIfInBounds_toArray, List.set_cons_zero, List.set_cons_succ]
          refine wb_one (i := 11) (by simp only [List.getElem?_toArray, List.getElem?_cons_succ, List.getElem?_cons_zero] <;> rfl) (by kernel_rfl) (by rfl) (fun K hK => ?_)
          go_simp
          refine hK.out _ _ (Kb.gb (World.grownBy_alloc _ _ none) (by intro p hp; rw [List.mem_singleton.1 hp]; exact ⟨hP.lt, by simp⟩)) ?_
          refine wb_new (cs := bV [c, hp]) (t := 5) (fun u11 hv11 hL11 hz11 => ?_)
          obtain ⟨A11, hS11, hA11, hE11⟩ := lit_ex (slB_blk (n := 2) hL11 rfl)
          rw [hE11]
          replace hS11 := Lib.hid hS11
          replace hA11 := Lib.hid hA11
          replace hP := hP.below hv11
          replace hw := hw.trans (hv11.mono hw.size)
          try (replace hSa := Lib.hid (hSa.out.below hv11))
          try (replace hSb := Lib.hid (hSb.out.below hv11))
          try (replace o3 := Lib.hid (o3.out.below hv11))
          try (replace hS0 := Lib.hid (hS0.out.below hv11))
          try (replace hS4 := Lib.hid (hS4.out.below hv11))
          try (replace hS11 := Lib.hid (hS11.out.below hv11))
          clear hK K hz11 hL11 hv11 hE11
          try simp only [Act.put, List.setIfInBounds_toArray, List.set_cons_zero, List.set_cons_succ]
          refine wb_one (i := 15) (by simp only [List.getElem?_toArray, List.getElem?_cons_succ, List.getElem?_cons_zero] <;> rfl) (by kernel_rfl) (by rfl) (fun K hK => ?_)
          go_simp
          refine hK.out _ _ (Kb.gb (World.grownBy_alloc _ _ none) (by intro p hp; rw [List.mem_singleton.1 hp]; exact ⟨hP.lt, by simp⟩)) ?_
          refine wb_new (cs := [.slice A0 4 4, .slice A4 2 c4, .slice A11 2 2, .slice Aa la ca, .slice Ab lb cb, .slice (some ⟨g3, 0, none⟩) m c3]) (t := 43) (fun u15 hv15 hL15 hz15 => ?_)
          replace hP := hP.below hv15
          replace hw := hw.trans (hv15.mono hw.size)
          try (replace hSa := Lib.hid (hSa.out.below hv15))
          try (replace hSb := Lib.hid (hSb.out.below hv15))
          try (replace o3 := Lib.hid (o3.out.below hv15))
          try (replace hS0 := Lib.hid (hS0.out.below hv15))
          try (replace hS4 := Lib.hid (hS4.out.below hv15))
          try (replace hS11 := Lib.hid (hS11.out.below hv15))
          clear hK K hz15 hv15
          try simp only [Act.put, List.setIfInBounds_toArray, List.set_cons_zero, List.set_cons_succ]
          refine wb_one (i := 16) (by simp only [List.getElem?_toArray, List.getElem?_cons_succ, List.getElem?_cons_zero] <;> rfl) (by kernel_rfl) (by rfl) (fun K hK => ?_)
          go_simp
          have hok : ∀ s ∈ ([SS.mk A0 4 4 ([96, 0, 0, 0]), SS.mk A4 2 c4 ((be (m : Int).toNat 2)), SS.mk A11 2 2 ([c, hp]), SS.mk Aa la ca xa, SS.mk Ab lb cb xb, SS.mk (some ⟨g3, 0, none⟩) m c3 bd] : List SS), s.ok _ := ok6 ⟨hS0.out, hA0.out⟩ ⟨hS4.out, hA4.out⟩ ⟨hS11.out, hA11.out⟩ ⟨hSa.out, hAa.out⟩ ⟨hSb.out, hAb.out⟩ ⟨o3.out.cap.2.2, (fun h => by cases h)⟩
          have hfl : flatS [SS.mk A0 4 4 ([96, 0, 0, 0]), SS.mk A4 2 c4 ((be (m : Int).toNat 2)), SS.mk A11 2 2 ([c, hp]), SS.mk Aa la ca xa, SS.mk Ab lb cb xb, SS.mk (some ⟨g3, 0, none⟩) m c3 bd] = [96, 0, 0, 0] ++ (be (m : Int).toNat 2 ++ ([c, hp] ++ (xa ++ (xb ++ bd)))) := by simp [flatS]
          have hCC := concat_blk _ 6 [SS.mk A0 4 4 ([96, 0, 0, 0]), SS.mk A4 2 c4 ((be (m : Int).toNat 2)), SS.mk A11 2 2 ([c, hp]), SS.mk Aa la ca xa, SS.mk Ab lb cb xb, SS.mk (some ⟨g3, 0, none⟩) m c3 bd] 43 _ hL15 rfl hok (by rw [hfl]; simp only [List.length_append, be_len, List.length_cons, List.length_nil]; have := hla.out; have := hlb.out; have := hmm.out; have := hm.out; omega) (by rw [hfl]; simp only [List.length_append, be_len, List.length_cons, List.length_nil]; have := hla.out; have := hlb.out; have := hmm.out; have := hm.out; omega) (by omega)
          rw [hfl] at hCC
          have hwzC := hw.size
          refine hCC.mono ?_
          rintro e u16 ⟨v16, rfl, o16, hv16⟩
          refine hK.out _ _ (Kb.below hv16 (by intro p hp; rw [List.mem_singleton.1 hp]; exact hP.lt)) ?_
          replace hP := hP.below hv16
          replace hw := hw.trans (hv16.mono hw.size)
          try (replace hSa := Lib.hid (hSa.out.below hv16))
          try (replace hSb := Lib.hid (hSb.out.below hv16))
          try (replace o3 := Lib.hid (o3.out.below hv16))
          try (replace hS0 := Lib.hid (hS0.out.below hv16))
          try (replace hS4 := Lib.hid (hS4.out.below hv16))
          try (replace hS11 := Lib.hid (hS11.out.below hv16))
          replace o16 := Lib.hid (o16.mono (B := w.heap.size) hwzC)
          clear hK K hv16 hok hfl hCC hwzC hL15
          try simp only [Act.put, List.setIfInBounds_toArray, List.set_cons_zero, List.set_cons_succ]
          refine wb_pure (i := 17) (d := some 2) (v := ?_) (by simp only [List.getElem?_toArray, List.getElem?_cons_succ, List.getElem?_cons_zero] <;> rfl) (by rfl) (by kernel_rfl) (by kernel_rfl) (by kernel_rfl) (fun _ _ _ h => h) (by rfl) ?_ ?_
          rotate_left
          · ((intro u); go_simp; try with_reducible rfl)
          try simp only [Act.put, List.setIfInBounds_toArray, List.set_cons_zero, List.set_cons_succ]
          refine wb_done (by kernel_rfl) ?_ _
          go_wp2_with fail
          go_ret
          exact ⟨_, rfl, by rw [HBE.out]; exact o16.out, hw⟩
        · go_simp
          refine hK.out _ _ (Kb.gb (World.grownBy_alloc _ _ none) (by intro p hp; rw [List.mem_singleton.1 hp]; exact ⟨hP.lt, by simp⟩)) ?_
          refine wb_new (cs := bV [c, hp]) (t := 5) (fun u11 hv11 hL11 hz11 => ?_)
          obtain ⟨A11, hS11, hA11, hE11⟩ := lit_ex (slB_blk (n := 2) hL11 rfl)
          rw [hE11]
          replace hS11 := Lib.hid hS11
          replace hA11 := Lib.hid hA11
          replace hP := hP.below hv11
          replace hw := hw.trans (hv11.mono hw.size)
          try (replace hSa := Lib.hid (hSa.out.below hv11))
          try (replace hSb := Lib.hid (hSb.out.below hv11))
          try (replace o3 := Lib.hid (o3.out.below hv11))
          try (replace hS0 := Lib.hid (hS0.out.below hv11))
          try (replace hS4 := Lib.hid (hS4.out.below hv11))
          try (replace hS11 := Lib.hid (hS11.out.below hv11))
          clear hK K hz11 hL11 hv11 hE11
          try simp only [Act.put, List.setIfInBounds_toArray, List.set_cons_zero, List.set_cons_succ]
          refine wb_one (i := 0) (by simp only [List.getElem?_toArray, List.getElem?_cons_succ, List.getElem?_cons_zero] <;> rfl) (by kernel_rfl) (by rfl) (fun K hK => ?_)
          go_simp
          refine hK.out _ _ (Kb.gb (World.grownBy_alloc _ _ none) (by intro p hp; rw [List.mem_singleton.1 hp]; exact ⟨hP.lt, by simp⟩)) ?_
          refine wb_new (cs := bV [96, 0, 0, 0]) (t := 5) (fun u0 hv0 hL0 hz0 => ?_)
          obtain ⟨A0, hS0, hA0, hE0⟩ := lit_ex (slB_blk (n := 4) hL0 rfl)
          rw [hE0]
          replace hS0 := Lib.hid hS0
          replace hA0 := Lib.hid hA0
          replace hP := hP.below hv0
          replace hw := hw.trans (hv0.mono hw.size)
          try (replace hSa := Lib.hid (hSa.out.below hv0))
          try (replace hSb := Lib.hid (hSb.out.below hv0))
          try (replace o3 := Lib.hid (o3.out.below hv0))
          try (replace hS0 := Lib.hid (hS0.out.below hv0))
          try (replace hS4 := Lib.hid (hS4.out.below hv0))
          try (replace hS11 := Lib.hid (hS11.out.below hv0))
          clear hK K hz0 hL0 hv0 hE0
          try simp only [Act.put, List.setIfInBounds_toArray, List.set_cons_zero, List.set_cons_succ]
          refine wb_one (i := 15) (by simp only [List.getElem?_toArray, List.getElem?_cons_succ, List.getElem?_cons_zero] <;> rfl) (by kernel_rfl) (by rfl) (fun K hK => ?_)
          go_simp
          refine hK.out _ _ (Kb.gb (World.grownBy_alloc _ _ none) (by intro p hp; rw [List.mem_singleton.1 hp]; exact ⟨hP.lt, by simp⟩)) ?_
          refine wb_new (cs := [.slice A0 4 4, .slice A4 2 c4, .slice A11 2 2, .slice Aa la ca, .slice Ab lb cb, .slice (some ⟨g3, 0, none⟩) m c3]) (t := 43) (fun u15 hv15 hL15 hz15 => ?_)
          replace hP := hP.below hv15
          replace hw := hw.trans (hv15.mono hw.size)
          try (replace hSa := Lib.hid (hSa.out.below hv15))
          try (replace hSb := Lib.hid (hSb.out.below hv15))
          try (replace o3 := Lib.hid (o3.out.below hv15))
          try (replace hS0 := Lib.hid (hS0.out.below hv15))
          try (replace hS4 := Lib.hid (hS4.out.below hv15))
          try (replace hS11 := Lib.hid (hS11.out.below hv15))
          clear hK K hz15 hv15
          try simp only [Act.put, List.setIfInBounds_toArray, List.set_cons_zero, List.set_cons_succ]
          refine wb_one (i := 16) (by simp only [List.getElem?_toArray, List.getElem?_cons_succ, List.getElem?_cons_zero] <;> rfl) (by kernel_rfl) (by rfl) (fun K hK => ?_)
          go_simp
          have hok : ∀ s ∈ ([SS.mk A0 4 4 ([96, 0, 0, 0]), SS.mk A4 2 c4 ((be (m : Int).toNat 2)), SS.mk A11 2 2 ([c, hp]), SS.mk Aa la ca xa, SS.mk Ab lb cb xb, SS.mk (some ⟨g3, 0, none⟩) m c3 bd] : List SS), s.ok _ := ok6 ⟨hS0.out, hA0.out⟩ ⟨hS4.out, hA4.out⟩ ⟨hS11.out, hA11.out⟩ ⟨hSa.out, hAa.out⟩ ⟨hSb.out, hAb.out⟩ ⟨o3.out.cap.2.2, (fun h => by cases h)⟩
          have hfl : flatS [SS.mk A0 4 4 ([96, 0, 0, 0]), SS.mk A4 2 c4 ((be (m : Int).toNat 2)), SS.mk A11 2 2 ([c, hp]), SS.mk Aa la ca xa, SS.mk Ab lb cb xb, SS.mk (some ⟨g3, 0, none⟩) m c3 bd] = [96, 0, 0, 0] ++ (be (m : Int).toNat 2 ++ ([c, hp] ++ (xa ++ (xb ++ bd)))) := by simp [flatS]
          have hCC := concat_blk _ 6 [SS.mk A0 4 4 ([96, 0, 0, 0]), SS.mk A4 2 c4 ((be (m : Int).toNat 2)), SS.mk A11 2 2 ([c, hp]), SS.mk Aa la ca xa, SS.mk Ab lb cb xb, SS.mk (some ⟨g3, 0, none⟩) m c3 bd] 43 _ hL15 rfl hok (by rw [hfl]; simp only [List.length_append, be_len, List.length_cons, List.length_nil]; have := hla.out; have := hlb.out; have := hmm.out; have := hm.out; omega) (by rw [hfl]; simp only [List.length_append, be_len, List.length_cons, List.length_nil]; have := hla.out; have := hlb.out; have := hmm.out; have := hm.out; omega) (by omega)
          rw [hfl] at hCC
          have hwzC := hw.size
          refine hCC.mono ?_
          rintro e u16 ⟨v16, rfl, o16, hv16⟩
          refine hK.out _ _ (Kb.below hv16 (by intro p hp; rw [List.mem_singleton.1 hp]; exact hP.lt)) ?_
          replace hP := hP.below hv16
          replace hw := hw.trans (hv16.mono hw.size)
          try (replace hSa := Lib.hid (hSa.out.below hv16))
          try (replace hSb := Lib.hid (hSb.out.below hv16))
          try (replace o3 := Lib.hid (o3.out.below hv16))
          try (replace hS0 := Lib.hid (hS0.out.below hv16))
          try (replace hS4 := Lib.hid (hS4.out.below hv16))
          try (replace hS11 := Lib.hid (hS11.out.below hv16))
          replace o16 := Lib.hid (o16.mono (B := w.heap.size) hwzC)
          clear hK K hv16 hok hfl hCC hwzC hL15
          try simp only [Act.put, List.setIfInBounds_toArray, List.set_cons_zero, List.set_cons_succ]
          refine wb_pure (i := 17) (d := some 2) (v := ?_) (by simp only [List.getElem?_toArray, List.getElem?_cons_succ, List.getElem?_cons_zero] <;> rfl) (by rfl) (by kernel_rfl) (by kernel_rfl) (by kernel_rfl) (fun _ _ _ h => h) (by rfl) ?_ ?_
          rotate_left
          · ((intro u); go_simp; try with_reducible rfl)
          try simp only [Act.put, List.setIfInBounds_toArray, List.set_cons_zero, List.set_cons_succ]
          refine wb_done (by kernel_rfl) ?_ _
          go_wp2_with fail
          go_ret
          exact ⟨_, rfl, by rw [HBE.out]; exact o16.out, hw⟩
  case false =>
    have hpc : Hid (proto = (c : Int)) := Lib.hid (hcf.out rfl).symm
    go_upto_if 50 with fail
    go_cut [7] (fun s7 wx => ∃ Ah lh ch xh, s7 = .slice Ah lh ch ∧ Hid (SlB wx Ah lh ch xh) ∧ Hid (Ah = none → ch = 0) ∧ Hid (aheadL q' m = xh) ∧ Hid (lh = xh.length) ∧ wx = u32)
    case first =>
      by_cases h1 : proto = 1
      · have e1 : (proto == 1) = true := by simp [h1]
        replace h1 := Lib.hid h1
        go_wp2_with fail
        go_meet
        exact ⟨none, 0, 0, [], rfl, Lib.hid ⟨rfl, Nat.le_refl _, .inl rfl⟩, Lib.hid (fun _ => rfl), Lib.hid (by rw [HA4.out m (by rw [hq'.out]), hq'.out]; exact if_pos h1.out), Lib.hid rfl, rfl⟩
      · have e1 : (proto == 1) = false := by simp [h1]
        replace h1 := Lib.hid h1
        go_wp2_with fail
        go_meet
        exact ⟨A32, lh, c32, xh, rfl, hS32, hA32, Lib.hid (by rw [HA4.out m (by rw [hq'.out]), hq'.out, hxh.out, hxa.out, hxb.out]; exact if_neg h1.out), hlh, rfl⟩
    case rest =>
    clear hxh hlh hS32 hA32 c0 c7
    obtain ⟨Ah, lh, ch, xh, rfl, hSh, hAh, HAL, hlh, rfl⟩ := hcut
    have hall : Hid (xh.length ≤ 100) := Lib.hid (by rw [← HAL.out]; exact hALL.out m)
    have hvL := (Below.refl wc.heap.size wc).alloc (Nat.le_refl _) (.cells #[.slice Ah lh ch, .slice (some ⟨g3, 0, none⟩) m c3] 43)
    have hL := Blk.new wc [.slice Ah lh ch, .slice (some ⟨g3, 0, none⟩) m c3] 43
    replace hP := hP.below hvL
    replace hw := hw.trans (hvL.mono hw.size)
    try (replace o3 := Lib.hid (o3.out.below hvL))
    try (replace hSa := Lib.hid (hSa.out.below hvL))
    try (replace hSb := Lib.hid (hSb.out.below hvL))
    try (replace hSh := Lib.hid (hSh.out.below hvL))
    try (replace hS26 := Lib.hid (hS26.out.below hvL))
    try (replace hS30 := Lib.hid (hS30.out.below hvL))
    have hok : ∀ s ∈ ([SS.mk Ah lh ch xh, SS.mk (some ⟨g3, 0, none⟩) m c3 bz] : List SS), s.ok _ := ok2 ⟨hSh.out, hAh.out⟩ ⟨o3.out.cap.2.2, (fun h => by cases h)⟩
    have hfl : flatS [SS.mk Ah lh ch xh, SS.mk (some ⟨g3, 0, none⟩) m c3 bz] = xh ++ bz := by simp [flatS]
    have hCC := Lib.hid (concat_blk wc.heap.size 2 [SS.mk Ah lh ch xh, SS.mk (some ⟨g3, 0, none⟩) m c3 bz] 43 _ hL rfl hok (by rw [hfl]; simp only [List.length_append]; have := hall.out; have := hmm.out; have := hm.out; omega) (by rw [hfl]; simp only [List.length_append]; have := hall.out; have := hmm.out; have := hm.out; omega) (by omega))
    rw [hfl] at hCC
    clear hvL hL hok hfl
    go_wp2_with fail
    refine hCC.out.mono ?_
    rintro e u54 ⟨v54, rfl, o54, hv54⟩
    have hwzC := hw.size
    replace hP := hP.below hv54
    replace hw := hw.trans (hv54.mono hw.size)
    try (replace o3 := Lib.hid (o3.out.below hv54))
    try (replace hSa := Lib.hid (hSa.out.below hv54))
    try (replace hSb := Lib.hid (hSb.out.below hv54))
    try (replace hSh := Lib.hid (hSh.out.below hv54))
    try (replace hS26 := Lib.hid (hS26.out.below hv54))
    try (replace hS30 := Lib.hid (hS30.out.below hv54))
    replace o54 := o54.mono (B := w.heap.size) hwzC
    obtain ⟨A54, c54, rfl, hS54, hA54⟩ := o54.sl
    clear hv54 hCC hwzC o54
    have hsmb : Byt (xh ++ bz) := Byt.app (by rw [← HAL.out]; exact hALB.out m) hbz.out
    have hsml : (xh ++ bz).length ≤ 100000 := by rw [List.length_append]; have := hall.out; have := hmm.out; have := hm.out; omega
    have HS : Hid (sumF q' bz = if sumR (xh ++ bz) = 0 ∧ proto = 17 then 65535 else sumR (xh ++ bz)) := Lib.hid (by
      have h := HSF.out bz
      rw [← hm.out, HAL.out, show q'.proto = proto by rw [hq'.out]] at h
      exact h)
    generalize xh ++ bz = sm at hS54 hsmb hsml HS ⊢
    obtain ⟨l54, hl54⟩ : ∃ l, l = sm.length := ⟨_, rfl⟩
    rw [← hl54] at hS54 hsml ⊢
    have HCS := Lib.hid (checkSumOf_any A54 l54 c54 sm u54 hS54 hsml hsmb)
    clear hsmb hsml hl54 hS54 hA54 hall hSh hAh
    go_wp2_with fail
    refine HCS.out.mono ?_
    rintro e u55 ⟨rfl, hv55⟩
    replace hP := hP.below hv55
    replace hw := hw.trans (hv55.mono hw.size)
    try (replace o3 := Lib.hid (o3.out.below hv55))
    try (replace hSa := Lib.hid (hSa.out.below hv55))
    try (replace hSb := Lib.hid (hSb.out.below hv55))
    clear hv55 HCS
    have hsf := sumF_in q' bz
    generalize sumR sm = sr at HS ⊢
    generalize sumF q' bz = sf at HS HB hsf
    obtain ⟨hsf0, hsf1⟩ := hsf
    obtain ⟨bq, hbq⟩ : ∃ b : Bool, b = decide (sr = 0 ∧ proto = 17) := ⟨_, rfl⟩
    have c7 := hP.cell (i := 7) (v := .int .i64 proto) rfl
    replace hP := Lib.hid hP
    replace hw := Lib.hid hw
    replace hbq := Lib.hid hbq
    go_upto_region 9 with fail
    go_cut [62] (fun s62 wx => s62 = .bool bq ∧ wx = u55)
    case first =>
      by_cases h0 : sr = 0
      · by_cases h1 : proto = 17
        · have e0 : (sr == 0) = true := by simp [h0]
          have e1 : (proto == 17) = true := by simp [h1]
          replace h0 := Lib.hid h0
          replace h1 := Lib.hid h1
          go_wp2_with fail
          go_meet
          exact ⟨by rw [hbq.out, decide_eq_true ⟨h0.out, h1.out⟩], rfl⟩
        · have e0 : (sr == 0) = true := by simp [h0]
          have e1 : (proto == 17) = false := by simp [h1]
          replace h0 := Lib.hid h0
          replace h1 := Lib.hid h1
          go_wp2_with fail
          go_meet
          exact ⟨by rw [hbq.out, decide_eq_false (fun h => h1.out h.2)], rfl⟩
      · have e0 : (sr == 0) = false := by simp [h0]
        replace h0 := Lib.hid h0
        go_wp2_with fail
        go_meet
        exact ⟨by rw [hbq.out, decide_eq_false (fun h => h0.out h.1)], rfl⟩
    case rest =>
    obtain ⟨rfl, rfl⟩ := hcut
    go_upto_if 62 with fail
    go_cut [8] (fun s8 wx => s8 = .int .i64 sf ∧ wx = wc)
    case first =>
      cases bq
      · have hn : sf = sr := HS.out.trans (if_neg (of_decide_eq_false hbq.out.symm))
        replace hn := Lib.hid hn
        go_wp2_with fail
        go_meet
        exact ⟨by rw [hn.out], rfl⟩
      · have hn : sf = 65535 := HS.out.trans (if_pos (of_decide_eq_true hbq.out.symm))
        replace hn := Lib.hid hn
        go_wp2_with fail
        go_meet
        exact ⟨by rw [hn.out], rfl⟩
    case rest =>
    obtain ⟨rfl, rfl⟩ := hcut
    replace hP := hP.out
    replace hw := hw.out
    clear HS hbq c7
    have hmc := o3.out.cap.2.1
    have hkn : k ≤ m := by have := hmm.out; omega
    have hck : ¬ c3 = k := by have := hmm.out; omega
    have wsf := wrapU sf hsf0 (by omega)
    go_wp2_with fail
    refine wb_begin ([w.heap.size]) [] (by kernel_rfl) (fun u0 hb0' hz0' => ?_)
    try (replace hSa := Lib.hid (hSa.out.below hb0'))
    try (replace hSb := Lib.hid (hSb.out.below hb0'))
    try (replace o3 := Lib.hid (o3.out.below hb0'))
    replace hP := hP.below hb0'
    replace hw := hw.trans (hb0'.mono hw.size)
    clear hb0' hz0'
    refine wb_pure (i := 0) (d := some 63) (v := ?_) (by simp only [List.getElem?_toArray, List.getElem?_cons_succ, List.getElem?_cons_zero] <;> rfl) (by rfl) (by kernel_rfl) (by kernel_rfl) (by kernel_rfl) (fun _ _ _ h => h) (by rfl) ?_ ?_
    rotate_left
    · ((intro u); go_simp; try with_reducible rfl)
    try simp only [Act.put, List.setIfInBounds_toArray, List.set_cons_zero, List.set_cons_succ]
    refine wb_pure (i := 1) (d := some 64) (v := ?_) (by simp only [List.getElem?_toArray, List.getElem?_cons_succ, List.getElem?_cons_zero] <;> rfl) (by rfl) (by kernel_rfl) (by kernel_rfl) (by kernel_rfl) (fun _ _ _ h => h) (by rfl) ?_ ?_
    rotate_left
    · ((intro u); go_simp; try with_reducible rfl)
    try simp only [Act.put, List.setIfInBounds_toArray, List.set_cons_zero, List.set_cons_succ]
    refine wb_take (i := 2) (d := some 65) (v := ?_) (by simp only [List.getElem?_toArray, List.getElem?_cons_succ, List.getElem?_cons_zero] <;> rfl) (by rfl) (by kernel_rfl) (by kernel_rfl) (by kernel_rfl) (fun _ _ _ h => h) (by rfl) (by kernel_rfl) ?_ ?_
    rotate_left
    · ((intro u hu); skip; go_simp; try with_reducible rfl)
    try simp only [Act.put, List.setIfInBounds_toArray, List.set_cons_zero, List.set_cons_succ]
    refine wb_pure (i := 3) (d := some 66) (v := ?_) (by simp only [List.getElem?_toArray, List.getElem?_cons_succ, List.getElem?_cons_zero] <;> rfl) (by rfl) (by kernel_rfl) (by kernel_rfl) (by kernel_rfl) (fun _ _ _ h => h) (by rfl) ?_ ?_
    rotate_left
    · ((intro u); go_simp; try with_reducible rfl)
    try simp only [Act.put, List.setIfInBounds_toArray, List.set_cons_zero, List.set_cons_succ]
    refine wb_pure (i := 4) (d := some 67) (v := ?_) (by simp only [List.getElem?_toArray, List.getElem?_cons_succ, List.getElem?_cons_zero] <;> rfl) (by rfl) (by kernel_rfl) (by kernel_rfl) (by kernel_rfl) (fun _ _ _ h => h) (by rfl) ?_ ?_
    rotate_left
    · ((intro u); go_simp; try with_reducible rfl)
    try simp only [Act.put, List.setIfInBounds_toArray, List.set_cons_zero, List.set_cons_succ]
    refine wb_one (i := 5) (by simp only [List.getElem?_toArray, List.getElem?_cons_succ, List.getElem?_cons_zero] <;> rfl) (by kernel_rfl) (by rfl) (fun K hK => ?_)
    go_simp
    refine (big_sl 2 sf _ (by omega) hsf0 (by omega)).mono ?_
    rintro e u5 ⟨A5, c5, rfl, hS5, hA5, hv5⟩
    refine hK.out _ _ (Kb.below hv5 (by intro p hp; rw [List.mem_singleton.1 hp]; exact hP.lt)) ?_
    replace hP := hP.below hv5
    replace hw := hw.trans (hv5.mono hw.size)
    try (replace hSa := Lib.hid (hSa.out.below hv5))
    try (replace hSb := Lib.hid (hSb.out.below hv5))
    try (replace o3 := Lib.hid (o3.out.below hv5))
    replace hS5 := Lib.hid hS5
    replace hA5 := Lib.hid hA5
    clear hK K hv5
    try simp only [Act.put, List.setIfInBounds_toArray, List.set_cons_zero, List.set_cons_succ]
    refine wb_one (i := 6) (by simp only [List.getElem?_toArray, List.getElem?_cons_succ, List.getElem?_cons_zero] <;> rfl) (by kernel_rfl) (by rfl) (fun K hK => ?_)
    have hgB := (o3.out.lt g3 rfl).1
    refine wp_copy_own _ _ rfl (w.heap.size + 1) g3 m c3 k bz o3.out _ _ rfl A5 2 c5 (be sf.toNat 2) rfl hS5.out (by omega) (by have := hmm.out; omega) (by have := hmm.out; omega) ?_
    intro u6 ho6 hg6
    have hv6 : Below (w.heap.size + 1) u5 u6 := (Below.refl _ _).grown hg6 hP.lt (fun k h => by cases h; exact hgB)
    refine hK.out _ _ (Kb.below hv6 (by intro p hp; rw [List.mem_singleton.1 hp]; omega)) ?_
    replace hP := hP.upB (Nat.lt_succ_self _) hv6
    replace hw := hw.trans (hv6.mono (by omega))
    replace hSa := Lib.hid (hSa.out.gb hg6 hNa.out)
    replace hSb := Lib.hid (hSb.out.gb hg6 hNb.out)
    replace o3 := Lib.hid ho6
    clear hK K hv6 hg6 hS5 hA5 hgB
    try simp only [Act.put, List.setIfInBounds_toArray, List.set_cons_zero, List.set_cons_succ]
    refine wb_done (by kernel_rfl) ?_ _
    skip
    have hbd : (splice bz k (be sf.toNat 2)).length = m := by rw [splice_len (by rw [be_len]; have := hmm.out; have := hm.out; omega)]; exact hm.out.symm
    rw [hbd] at HB
    generalize splice bz k (be sf.toNat 2) = bd at HB hbd o3
    replace hm := Lib.hid hbd.symm
    clear hbd hkn hck wsf

    have c0 := hP.cell (i := 0) (v := .bool false) rfl
    go_upto_region 14 with fail
    clear c0
    have wI := wrapI (20 + (m : Int)) (by omega) (by omega)
    have wU := wrapU (20 + (m : Int)) (by omega) (by omega)
    go_cut [9] (fun s9 wx => ∃ v16, s9 = v16 ∧ Hid (Own (w.heap.size + 1) wx v16 ([69, 0] ++ (be (20 + (m : Int)).toNat 2 ++ ([0, 0, 0, 0, hp, c, 0, 0] ++ (xa ++ xb))))) ∧ Hid (∀ k, v16.ownBlock = some k → k ≠ g3) ∧ Hid (Own (w.heap.size + 1) wx (.slice (some ⟨g3, 0, none⟩) m c3) bd) ∧ Hid (Blk wx w.heap.size (pkL ⟨false, fh, fl, ts, th, tl, hp, proto, fp, tp, syn, fin, rst, has, seq, ack, reply, id⟩ (.slice A n cap)) 45) ∧ Hid (Below w.heap.size w wx))
    case first =>
      refine wb_begin ([w.heap.size]) [] (by kernel_rfl) (fun u0 hb0' hz0' => ?_)
      try (replace hSa := Lib.hid (hSa.out.below hb0'))
      try (replace hSb := Lib.hid (hSb.out.below hb0'))
      try (replace o3 := Lib.hid (o3.out.below hb0'))
      try (replace hS0 := Lib.hid (hS0.out.below hb0'))
      try (replace hS5 := Lib.hid (hS5.out.below hb0'))
      try (replace hS12 := Lib.hid (hS12.out.below hb0'))
      replace hP := hP.below hb0'
      replace hw := hw.trans (hb0'.mono hw.size)
      clear hb0' hz0'
      refine wb_pure (i := 1) (d := some 91) (v := ?_) (by simp only [List.getElem?_toArray, List.getElem?_cons_succ, List.getElem?_cons_zero] <;> rfl) (by rfl) (by kernel_rfl) (by kernel_rfl) (by kernel_rfl) (fun _ _ _ h => h) (by rfl) ?_ ?_
      rotate_left
      · ((intro u); go_simp; try with_reducible rfl)
      try simp only [Act.put, List.setIfInBounds_toArray, List.set_cons_zero, List.set_cons_succ]
      refine wb_take (i := 2) (d := some 92) (v := ?_) (by simp only [List.getElem?_toArray, List.getElem?_cons_succ, List.getElem?_cons_zero] <;> rfl) (by rfl) (by kernel_rfl) (by kernel_rfl) (by kernel_rfl) (fun _ _ _ h => h) (by rfl) (by kernel_rfl) ?_ ?_
      rotate_left
      · ((intro u hu); have k6 := (hP.kb hu (by simp)).cell (i := 6) (v := .int .i64 hp) rfl; have k7 := (hP.kb hu (by simp)).cell (i := 7) (v := .int .i64 proto) rfl; rw [hpc.out] at k7; go_simp; try with_reducible rfl)
      try simp only [Act.put, List.setIfInBounds_toArray, List.set_cons_zero, List.set_cons_succ]
      refine wb_pure (i := 3) (d := some 93) (v := ?_) (by simp only [List.getElem?_toArray, List.getElem?_cons_succ, List.getElem?_cons_zero] <;> rfl) (by rfl) (by kernel_rfl) (by kernel_rfl) (by kernel_rfl) (fun _ _ _ h => h) (by rfl) ?_ ?_
      rotate_left
      · ((intro u); go_simp; try with_reducible rfl)
      try simp only [Act.put, List.setIfInBounds_toArray, List.set_cons_zero, List.set_cons_succ]
      refine wb_pure (i := 4) (d := some 94) (v := ?_) (by simp only [List.getElem?_toArray, List.getElem?_cons_succ, List.getElem?_cons_zero] <;> rfl) (by rfl) (by kernel_rfl) (by kernel_rfl) (by kernel_rfl) (fun _ _ _ h => h) (by rfl) ?_ ?_
      rotate_left
      · ((intro u); go_simp; try with_reducible rfl)
      try simp only [Act.put, List.setIfInBounds_toArray, List.set_cons_zero, List.set_cons_succ]
      refine wb_pure (i := 6) (d := some 96) (v := ?_) (by simp only [List.getElem?_toArray, List.getElem?_cons_succ, List.getElem?_cons_zero] <;> rfl) (by rfl) (by kernel_rfl) (by kernel_rfl) (by kernel_rfl) (fun _ _ _ h => h) (by rfl) ?_ ?_
      rotate_left
      · ((intro u); go_simp; try with_reducible rfl)
      try simp only [Act.put, List.setIfInBounds_toArray, List.set_cons_zero, List.set_cons_succ]
      refine wb_take (i := 7) (d := some 97) (v := ?_) (by simp only [List.getElem?_toArray, List.getElem?_cons_succ, List.getElem?_cons_zero] <;> rfl) (by rfl) (by kernel_rfl) (by kernel_rfl) (by kernel_rfl) (fun _ _ _ h => h) (by rfl) (by kernel_rfl) ?_ ?_
      rotate_left
      · ((intro u hu); have k6 := (hP.kb hu (by simp)).cell (i := 6) (v := .int .i64 hp) rfl; have k7 := (hP.kb hu (by simp)).cell (i := 7) (v := .int .i64 proto) rfl; rw [hpc.out] at k7; go_simp; try with_reducible rfl)
      try simp only [Act.put, List.setIfInBounds_toArray, List.set_cons_zero, List.set_cons_succ]
      refine wb_pure (i := 8) (d := some 98) (v := ?_) (by simp only [List.getElem?_toArray, List.getElem?_cons_succ, List.getElem?_cons_zero] <;> rfl) (by rfl) (by kernel_rfl) (by kernel_rfl) (by kernel_rfl) (fun _ _ _ h => h) (by rfl) ?_ ?_
      rotate_left
      · ((intro u); go_simp; try with_reducible rfl)
      try simp only [Act.put, List.setIfInBounds_toArray, List.set_cons_zero, List.set_cons_succ]
      refine wb_pure (i := 9) (d := some 99) (v := ?_) (by simp only [List.getElem?_toArray, List.getElem?_cons_succ, List.getElem?_cons_zero] <;> rfl) (by rfl) (by kernel_rfl) (by kernel_rfl) (by kernel_rfl) (fun _ _ _ h => h) (by rfl) ?_ ?_
      rotate_left
      · ((intro u); go_simp; try with_reducible rfl)
      try simp only [Act.put, List.setIfInBounds_toArray, List.set_cons_zero, List.set_cons_succ]
      refine wb_take (i := 10) (d := some 100) (v := ?_) (by simp only [List.getElem?_toArray, List.getElem?_cons_succ, List.getElem?_cons_zero] <;> rfl) (by rfl) (by kernel_rfl) (by kernel_rfl) (by kernel_rfl) (fun _ _ _ h => h) (by rfl) (by kernel_rfl) ?_ ?_
      rotate_left
      · ((intro u hu); have k6 := (hP.kb hu (by simp)).cell (i := 6) (v := .int .i64 hp) rfl; have k7 := (hP.kb hu (by simp)).cell (i := 7) (v := .int .i64 proto) rfl; rw [hpc.out] at k7; go_simp; try with_reducible rfl)
      try simp only [Act.put, List.setIfInBounds_toArray, List.set_cons_zero, List.set_cons_succ]
      refine wb_pure (i := 11) (d := some 101) (v := ?_) (by simp only [List.getElem?_toArray, List.getElem?_cons_succ, List.getElem?_cons_zero] <;> rfl) (by rfl) (by kernel_rfl) (by kernel_rfl) (by kernel_rfl) (fun _ _ _ h => h) (by rfl) ?_ ?_
      rotate_left
      · ((intro u); go_simp; try with_reducible rfl)
      try simp only [Act.put, List.setIfInBounds_toArray, List.set_cons_zero, List.set_cons_succ]
      refine wb_pure (i := 13) (d := some 103) (v := ?_) (by simp only [List.getElem?_toArray, List.getElem?_cons_succ, List.getElem?_cons_zero] <;> rfl) (by rfl) (by kernel_rfl) (by kernel_rfl) (by kernel_rfl) (fun _ _ _ h => h) (by rfl) ?_ ?_
      rotate_left
      · ((intro u); go_simp; try with_reducible rfl)
      try simp only [Act.put, List.setIfInBounds_toArray, List.set_cons_zero, List.set_cons_succ]
      refine wb_pure (i := 14) (d := some 104) (v := ?_) (by simp only [List.getElem?_toArray, List.getElem?_cons_succ, List.getElem?_cons_zero] <;> rfl) (by rfl) (by kernel_rfl) (by kernel_rfl) (by kernel_rfl) (fun _ _ _ h => h) (by rfl) ?_ ?_
      rotate_left
      · ((intro u); go_simp; try with_reducible rfl)
      try simp only [Act.put, List.setIfInBounds_toArray, List.set_cons_zero, List.set_cons_succ]
      refine wb_three (i := 0) (k := 5) (l := 12) (by simp only [List.getElem?_toArray, List.getElem?_cons_succ, List.getElem?_cons_zero] <;> rfl) (by simp only [List.getElem?_toArray, List.getElem?_cons_succ, List.getElem?_cons_zero] <;> rfl) (by simp only [List.getElem?_toArray, List.getElem?_cons_succ, List.getElem?_cons_zero] <;> rfl) (by kernel_rfl) (by rfl) (by rfl) (by rfl) (fun K hK => ?_) (fun K hK => ?_) (fun K hK => ?_)
      · go_simp
        refine hK.out _ _ (Kb.gb (World.grownBy_alloc _ _ none) (by intro p hp; rw [List.mem_singleton.1 hp]; exact ⟨hP.lt, by simp⟩)) ?_
        refine wb_new (cs := bV [69, 0]) (t := 5) (fun u0 hv0 hL0 hz0 => ?_)
        obtain ⟨A0, hS0, hA0, hE0⟩ := lit_ex (slB_blk (n := 2) hL0 rfl)
        rw [hE0]
        replace hS0 := Lib.hid hS0
        replace hA0 := Lib.hid hA0
        replace hP := hP.below hv0
        replace hw := hw.trans (hv0.mono hw.size)
        try (replace hSa := Lib.hid (hSa.out.below hv0))
        try (replace hSb := Lib.hid (hSb.out.below hv0))
        try (replace o3 := Lib.hid (o3.out.below hv0))
        try (replace hS0 := Lib.hid (hS0.out.below hv0))
        try (replace hS5 := Lib.hid (hS5.out.below hv0))
        try (replace hS12 := Lib.hid (hS12.out.below hv0))
        clear hK K hz0 hL0 hv0 hE0
        try simp only [Act.put, List.setIfInBounds_toArray, List.set_cons_zero, List.set_cons_succ]
        refine wb_two (i := 5) (k := 12) (by simp only [List.getElem?_toArray, List.getElem?_cons_succ, List.getElem?_cons_zero] <;> rfl) (by simp only [List.getElem?_toArray, List.getElem?_cons_succ, List.getElem?_cons_zero] <;> rfl) (by kernel_rfl) (by rfl) (by rfl) (fun K hK => ?_) (fun K hK => ?_)
        · go_simp
          refine (big_sl 2 (20 + (m : Int)) _ (by omega) (by omega) (by omega)).mono ?_
          rintro e u5 ⟨A5, c5, rfl, hS5, hA5, hv5⟩
          refine hK.out _ _ (Kb.below hv5 (by intro p hp; rw [List.mem_singleton.1 hp]; exact hP.lt)) ?_
          replace hP := hP.below hv5
          replace hw := hw.trans (hv5.mono hw.size)
          try (replace hSa := Lib.hid (hSa.out.below hv5))
          try (replace hSb := Lib.hid (hSb.out.below hv5))
          try (replace o3 := Lib.hid (o3.out.below hv5))
          try (replace hS0 := Lib.hid (hS0.out.below hv5))
          try (replace hS5 := Lib.hid (hS5.out.below hv5))
          try (replace hS12 := Lib.hid (hS12.out.below hv5))
          replace hS5 := Lib.hid hS5
          replace hA5 := Lib.hid hA5
          clear hK K hv5
          try simp only [Act.put, List.setIfInBounds_toArray, List.set_cons_zero, List.set_cons_succ]
          refine wb_one (i := 12) (by simp only [List.getElem?_toArray, List.getElem?_cons_succ, List.getElem?_cons_zero] <;> rfl) (by kernel_rfl) (by rfl) (fun K hK => ?_)
          go_simp
          refine hK.out _ _ (Kb.gb (World.grownBy_alloc _ _ none) (by intro p hp; rw [List.mem_singleton.1 hp]; exact ⟨hP.lt, by simp⟩)) ?_
          refine wb_new (cs := bV [0, 0, 0, 0, hp, c, 0, 0]) (t := 5) (fun u12 hv12 hL12 hz12 => ?_)
          obtain ⟨A12, hS12, hA12, hE12⟩ := lit_ex (slB_blk (n := 8) hL12 rfl)
          rw [hE12]
          replace hS12 := Lib.hid hS12
          replace hA12 := Lib.hid hA12
          replace hP := hP.below hv12
          replace hw := hw.trans (hv12.mono hw.size)
          try (replace hSa := Lib.hid (hSa.out.below hv12))
          try (replace hSb := Lib.hid (hSb.out.below hv12))
          try (replace o3 := Lib.hid (o3.out.below hv12))
          try (replace hS0 := Lib.hid (hS0.out.below hv12))
          try (replace hS5 := Lib.hid (hS5.out.below hv12))
          try (replace hS12 := Lib.hid (hS12.out.below hv12))
          clear hK K hz12 hL12 hv12 hE12
          try simp only [Act.put, List.setIfInBounds_toArray, List.set_cons_zero, List.set_cons_succ]
          refine wb_one (i := 15) (by simp only [List.getElem?_toArray, List.getElem?_cons_succ, List.getElem?_cons_zero] <;> rfl) (by kernel_rfl) (by rfl) (fun K hK => ?_)
          go_simp
          refine hK.out _ _ (Kb.gb (World.grownBy_alloc _ _ none) (by intro p hp; rw [List.mem_singleton.1 hp]; exact ⟨hP.lt, by simp⟩)) ?_
          refine wb_new (cs := [.slice A0 2 2, .slice A5 2 c5, .slice A12 8 8, .slice Aa la ca, .slice Ab lb cb]) (t := 43) (fun u15 hv15 hL15 hz15 => ?_)
          replace hP := hP.below hv15
          replace hw := hw.trans (hv15.mono hw.size)
          try (replace hSa := Lib.hid (hSa.out.below hv15))
          try (replace hSb := Lib.hid (hSb.out.below hv15))
          try (replace o3 := Lib.hid (o3.out.below hv15))
          try (replace hS0 := Lib.hid (hS0.out.below hv15))
          try (replace hS5 := Lib.hid (hS5.out.below hv15))
          try (replace hS12 := Lib.hid (hS12.out.below hv15))
          clear hK K hz15 hv15
          try simp only [Act.put, List.setIfInBounds_toArray, List.set_cons_zero, List.set_cons_succ]
          refine wb_one (i := 16) (by simp only [List.getElem?_toArray, List.getElem?_cons_succ, List.getElem?_cons_zero] <;> rfl) (by kernel_rfl) (by rfl) (fun K hK => ?_)
          go_simp
          have hok : ∀ s ∈ ([SS.mk A0 2 2 ([69, 0]), SS.mk A5 2 c5 ((be (20 + (m : Int)).toNat 2)), SS.mk A12 8 8 ([0, 0, 0, 0, hp, c, 0, 0]), SS.mk Aa la ca xa, SS.mk Ab lb cb xb] : List SS), s.ok _ := ok5 ⟨hS0.out, hA0.out⟩ ⟨hS5.out, hA5.out⟩ ⟨hS12.out, hA12.out⟩ ⟨hSa.out, hAa.out⟩ ⟨hSb.out, hAb.out⟩
          have hfl : flatS [SS.mk A0 2 2 ([69, 0]), SS.mk A5 2 c5 ((be (20 + (m : Int)).toNat 2)), SS.mk A12 8 8 ([0, 0, 0, 0, hp, c, 0, 0]), SS.mk Aa la ca xa, SS.mk Ab lb cb xb] = [69, 0] ++ (be (20 + (m : Int)).toNat 2 ++ ([0, 0, 0, 0, hp, c, 0, 0] ++ (xa ++ xb))) := by simp [flatS]
          have hCC := concat_blk _ 5 [SS.mk A0 2 2 ([69, 0]), SS.mk A5 2 c5 ((be (20 + (m : Int)).toNat 2)), SS.mk A12 8 8 ([0, 0, 0, 0, hp, c, 0, 0]), SS.mk Aa la ca xa, SS.mk Ab lb cb xb] 43 _ hL15 rfl hok (by rw [hfl]; simp only [List.length_append, be_len, List.length_cons, List.length_nil]; have := hla.out; have := hlb.out; have := hmm.out; have := hm.out; omega) (by rw [hfl]; simp only [List.length_append, be_len, List.length_cons, List.length_nil]; have := hla.out; have := hlb.out; have := hmm.out; have := hm.out; omega) (by omega)
          rw [hfl] at hCC
          have hwzC := hP.lt
          refine hCC.mono ?_
          rintro e u16 ⟨v16, rfl, o16, hv16⟩
          have hN16 := own_apart o16 o3.out
          refine hK.out _ _ (Kb.below hv16 (by intro p hp; rw [List.mem_singleton.1 hp]; exact hP.lt)) ?_
          replace hP := hP.below hv16
          replace hw := hw.trans (hv16.mono hw.size)
          try (replace hSa := Lib.hid (hSa.out.below hv16))
          try (replace hSb := Lib.hid (hSb.out.below hv16))
          try (replace o3 := Lib.hid (o3.out.below hv16))
          try (replace hS0 := Lib.hid (hS0.out.below hv16))
          try (replace hS5 := Lib.hid (hS5.out.below hv16))
          try (replace hS12 := Lib.hid (hS12.out.below hv16))
          replace o16 := Lib.hid (o16.mono (B := w.heap.size + 1) hwzC)
          clear hK K hv16 hok hfl hCC hwzC hL15
          try simp only [Act.put, List.setIfInBounds_toArray, List.set_cons_zero, List.set_cons_succ]
          refine wb_pure (i := 17) (d := some 9) (v := ?_) (by simp only [List.getElem?_toArray, List.getElem?_cons_succ, List.getElem?_cons_zero] <;> rfl) (by rfl) (by kernel_rfl) (by kernel_rfl) (by kernel_rfl) (fun _ _ _ h => h) (by rfl) ?_ ?_
          rotate_left
          · ((intro u); go_simp; try with_reducible rfl)
          try simp only [Act.put, List.setIfInBounds_toArray, List.set_cons_zero, List.set_cons_succ]
          refine wb_done (by kernel_rfl) ?_ _
          go_wp2_with fail
          go_meet
          exact ⟨_, rfl, o16, Lib.hid hN16, o3, Lib.hid hP, Lib.hid hw⟩
        · go_simp
          refine hK.out _ _ (Kb.gb (World.grownBy_alloc _ _ none) (by intro p hp; rw [List.mem_singleton.1 hp]; exact ⟨hP.lt, by simp⟩)) ?_
          refine wb_new (cs := bV [0, 0, 0, 0, hp, c, 0, 0]) (t := 5) (fun u12 hv12 hL12 hz12 => ?_)
          obtain ⟨A12, hS12, hA12, hE12⟩ := lit_ex (slB_blk (n := 8) hL12 rfl)
          rw [hE12]
          replace hS12 := Lib.hid hS12
          replace hA12 := Lib.hid hA12
          replace hP := hP.below hv12
          replace hw := hw.trans (hv12.mono hw.size)
          try (replace hSa := Lib.hid (hSa.out.below hv12))
          try (replace hSb := Lib.hid (hSb.out.below hv12))
          try (replace o3 := Lib.hid (o3.out.below hv12))
          try (replace hS0 := Lib.hid (hS0.out.below hv12))
          try (replace hS5 := Lib.hid (hS5.out.below hv12))
          try (replace hS12 := Lib.hid (hS12.out.below hv12))
          clear hK K hz12 hL12 hv12 hE12
          try simp only [Act.put, List.setIfInBounds_toArray, List.set_cons_zero, List.set_cons_succ]
          refine wb_one (i := 5) (by simp only [List.getElem?_toArray, List.getElem?_cons_succ, List.getElem?_cons_zero] <;> rfl) (by kernel_rfl) (by rfl) (fun K hK => ?_)
          go_simp
          refine (big_sl 2 (20 + (m : Int)) _ (by omega) (by omega) (by omega)).mono ?_
          rintro e u5 ⟨A5, c5, rfl, hS5, hA5, hv5⟩
          refine hK.out _ _ (Kb.below hv5 (by intro p hp; rw [List.mem_singleton.1 hp]; exact hP.lt)) ?_
          replace hP := hP.below hv5
          replace hw := hw.trans (hv5.mono hw.size)
          try (replace hSa := Lib.hid (hSa.out.below hv5))
          try (replace hSb := Lib.hid (hSb.out.below hv5))
          try (replace o3 := Lib.hid (o3.out.below hv5))
          try (replace hS0 := Lib.hid (hS0.out.below hv5))
          try (replace hS5 := Lib.hid (hS5.out.below hv5))
          try (replace hS12 := Lib.hid (hS12.out.below hv5))
          replace hS5 := Lib.hid hS5
          replace hA5 := Lib.hid hA5
          clear hK K hv5
          try simp only [Act.put, List.setIfInBounds_toArray, List.set_cons_zero, List.set_cons_succ]
          refine wb_one (i := 15) (by simp only [List.getElem?_toArray, List.getElem?_cons_succ, List.getElem?_cons_zero] <;> rfl) (by kernel_rfl) (by rfl) (fun K hK => ?_)
          go_simp
          refine hK.out _ _ (Kb.gb (World.grownBy_alloc _ _ none) (by intro p hp; rw [List.mem_singleton.1 hp]; exact ⟨hP.lt, by simp⟩)) ?_
          refine wb_new (cs := [.slice A0 2 2, .slice A5 2 c5, .slice A12 8 8, .slice Aa la ca, .slice Ab lb cb]) (t := 43) (fun u15 hv15 hL15 hz15 => ?_)
          replace hP := hP.below hv15
          replace hw := hw.trans (hv15.mono hw.size)
          try (replace hSa := Lib.hid (hSa.out.below hv15))
          try (replace hSb := Lib.hid (hSb.out.below hv15))
          try (replace o3 := Lib.hid (o3.out.below hv15))
          try (replace hS0 := Lib.hid (hS0.out.below hv15))
          try (replace hS5 := Lib.hid (hS5.out.below hv15))
          try (replace hS12 := Lib.hid (hS12.out.below hv15))
          clear hK K hz15 hv15
          try simp only [Act.put, List.setIfInBounds_toArray, List.set_cons_zero, List.set_cons_succ]
          refine wb_one (i := 16) (by simp only [List.getElem?_toArray, List.getElem?_cons_succ, List.getElem?_cons_zero] <;> rfl) (by kernel_rfl) (by rfl) (fun K hK => ?_)
          go_simp
          have hok : ∀ s ∈ ([SS.mk A0 2 2 ([69, 0]), SS.mk A5 2 c5 ((be (20 + (m : Int)).toNat 2)), SS.mk A12 8 8 ([0, 0, 0, 0, hp, c, 0, 0]), SS.mk Aa la ca xa, SS.mk Ab lb cb xb] : List SS), s.ok _ := ok5 ⟨hS0.out, hA0.out⟩ ⟨hS5.out, hA5.out⟩ ⟨hS12.out, hA12.out⟩ ⟨hSa.out, hAa.out⟩ ⟨hSb.out, hAb.out⟩
          have hfl : flatS [SS.mk A0 2 2 ([69, 0]), SS.mk A5 2 c5 ((be (20 + (m : Int)).toNat 2)), SS.mk A12 8 8 ([0, 0, 0, 0, hp, c, 0, 0]), SS.mk Aa la ca xa, SS.mk Ab lb cb xb] = [69, 0] ++ (be (20 + (m : Int)).toNat 2 ++ ([0, 0, 0, 0, hp, c, 0, 0] ++ (xa ++ xb))) := by simp [flatS]
          have hCC := concat_blk _ 5 [SS.mk A0 2 2 ([69, 0]), SS.mk A5 2 c5 ((be (20 + (m : Int)).toNat 2)), SS.mk A12 8 8 ([0, 0, 0, 0, hp, c, 0, 0]), SS.mk Aa la ca xa, SS.mk Ab lb cb xb] 43 _ hL15 rfl hok (by rw [hfl]; simp only [List.length_append, be_len, List.length_cons, List.length_nil]; have := hla.out; have := hlb.out; have := hmm.out; have := hm.out; omega) (by rw [hfl]; simp only [List.length_append, be_len, List.length_cons, List.length_nil]; have := hla.out; have := hlb.out; have := hmm.out; have := hm.out; omega) (by omega)
          rw [hfl] at hCC
          have hwzC := hP.lt
          refine hCC.mono ?_
          rintro e u16 ⟨v16, rfl, o16, hv16⟩
          have hN16 := own_apart o16 o3.out
          refine hK.out _ _ (Kb.below hv16 (by intro p hp; rw [List.mem_singleton.1 hp]; exact hP.lt)) ?_
          replace hP := hP.below hv16
          replace hw := hw.trans (hv16.mono hw.size)
          try (replace hSa := Lib.hid (hSa.out.below hv16))
          try (replace hSb := Lib.hid (hSb.out.below hv16))
          try (replace o3 := Lib.hid (o3.out.below hv16))
          try (replace hS0 := Lib.hid (hS0.out.below hv16))
          try (replace hS5 := Lib.hid (hS5.out.below hv16))
          try (replace hS12 := Lib.hid (hS12.out.below hv16))
          replace o16 := Lib.hid (o16.mono (B := w.heap.size + 1) hwzC)
          clear hK K hv16 hok hfl hCC hwzC hL15
          try simp only [Act.put, List.setIfInBounds_toArray, List.set_cons_zero, List.set_cons_succ]
          refine wb_pure (i := 17) (d := some 9) (v := ?_) (by simp only [List.getElem?_toArray, List.getElem?_cons_succ, List.getElem?_cons_zero] <;> rfl) (by rfl) (by kernel_rfl) (by kernel_rfl) (by kernel_rfl) (fun _ _ _ h => h) (by rfl) ?_ ?_
          rotate_left
          · ((intro u); go_simp; try with_reducible rfl)
          try simp only [Act.put, List.setIfInBounds_toArray, List.set_cons_zero, List.set_cons_succ]
          refine wb_done (by kernel_rfl) ?_ _
          go_wp2_with fail
          go_meet
          exact ⟨_, rfl, o16, Lib.hid hN16, o3, Lib.hid hP, Lib.hid hw⟩
      · go_simp
        refine (big_sl 2 (20 + (m : Int)) _ (by omega) (by omega) (by omega)).mono ?_
        rintro e u5 ⟨A5, c5, rfl, hS5, hA5, hv5⟩
        refine hK.out _ _ (Kb.below hv5 (by intro p hp; rw [List.mem_singleton.1 hp]; exact hP.lt)) ?_
        replace hP := hP.below hv5
        replace hw := hw.trans (hv5.mono hw.size)
        try (replace hSa := Lib.hid (hSa.out.below hv5))
        try (replace hSb := Lib.hid (hSb.out.below hv5))
        try (replace o3 := Lib.hid (o3.out.below hv5))
        try (replace hS0 := Lib.hid (hS0.out.below hv5))
        try (replace hS5 := Lib.hid (hS5.out.below hv5))
        try (replace hS12 := Lib.hid (hS12.out.below hv5))
        replace hS5 := Lib.hid hS5
        replace hA5 := Lib.hid hA5
        clear hK K hv5
        try simp only [Act.put, List.setIfInBounds_toArray, List.set_cons_zero, List.set_cons_succ]
        refine wb_two (i := 0) (k := 12) (by simp only [List.getElem?_toArray, List.getElem?_cons_succ, List.getElem?_cons_zero] <;> rfl) (by simp only [List.getElem?_toArray, List.getElem?_cons_succ, List.getElem?_cons_zero] <;> rfl) (by kernel_rfl) (by rfl) (by rfl) (fun K hK => ?_) (fun K hK => ?_)
        · go_simp
          refine hK.out _ _ (Kb.gb (World.grownBy_alloc _ _ none) (by intro p hp; rw [List.mem_singleton.1 hp]; exact ⟨hP.lt, by simp⟩)) ?_
          refine wb_new (cs := bV [69, 0]) (t := 5) (fun u0 hv0 hL0 hz0 => ?_)
          obtain ⟨A0, hS0, hA0, hE0⟩ := lit_ex (slB_blk (n := 2) hL0 rfl)
          rw [hE0]
          replace hS0 := Lib.hid hS0
          replace hA0 := Lib.hid hA0
          replace hP := hP.below hv0
          replace hw := hw.trans (hv0.mono hw.size)
          try (replace hSa := Lib.hid (hSa.out.below hv0))
          try (replace hSb := Lib.hid (hSb.out.below hv0))
          try (replace o3 := Lib.hid (o3.out.below hv0))
          try (replace hS0 := Lib.hid (hS0.out.below hv0))
          try (replace hS5 := Lib.hid (hS5.out.below hv0))
          try (replace hS12 := Lib.hid (hS12.out.below hv0))
          clear hK K hz0 hL0 hv0 hE0
          try simp only [Act.put, List.setIfInBounds_toArray, List.set_cons_zero, List.set_cons_succ]
          refine wb_one (i := 12) (by simp only [List.getElem?_toArray, List.getElem?_cons_succ, List.getElem?_cons_zero] <;> rfl) (by kernel_rfl) (by rfl) (fun K hK => ?_)
          go_simp
          refine hK.out _ _ (Kb.gb (World.grownBy_alloc _ _ none) (by intro p hp; rw [List.mem_singleton.1 hp]; exact ⟨hP.lt, by simp⟩)) ?_
          refine wb_new (cs := bV [0, 0, 0, 0, hp, c, 0, 0]) (t := 5) (fun u12 hv12 hL12 hz12 => ?_)
          obtain ⟨A12, hS12, hA12, hE12⟩ := lit_ex (slB_blk (n := 8) hL12 rfl)
          rw [hE12]
          replace hS12 := Lib.hid hS12
          replace hA12 := Lib.hid hA12
          replace hP := hP.below hv12
          replace hw := hw.trans (hv12.mono hw.size)
          try (replace hSa := Lib.hid (hSa.out.below hv12))
          try (replace hSb := Lib.hid (hSb.out.below hv12))
          try (replace o3 := Lib.hid (o3.out.below hv12))
          try (replace hS0 := Lib.hid (hS0.out.below hv12))
          try (replace hS5 := Lib.hid (hS5.out.below hv12))
          try (replace hS12 := Lib.hid (hS12.out.below hv12))
          clear hK K hz12 hL12 hv12 hE12
          try simp only [Act.put, List.setIfInBounds_toArray, List.set_cons_zero, List.set_cons_succ]
          refine wb_one (i := 15) (by simp only [List.getElem?_toArray, List.getElem?_cons_succ, List.getElem?_cons_zero] <;> rfl) (by kernel_rfl) (by rfl) (fun K hK => ?_)
          go_simp
          refine hK.out _ _ (Kb.gb (World.grownBy_alloc _ _ none) (by intro p hp; rw [List.mem_singleton.1 hp]; exact ⟨hP.lt, by simp⟩)) ?_
          refine wb_new (cs := [.slice A0 2 2, .slice A5 2 c5, .slice A12 8 8, .slice Aa la ca, .slice Ab lb cb]) (t := 43) (fun u15 hv15 hL15 hz15 => ?_)
          replace hP := hP.below hv15
          replace hw := hw.trans (hv15.mono hw.size)
          try (replace hSa := Lib.hid (hSa.out.below hv15))
          try (replace hSb := Lib.hid (hSb.out.below hv15))
          try (replace o3 := Lib.hid (o3.out.below hv15))
          try (replace hS0 := Lib.hid (hS0.out.below hv15))
          try (replace hS5 := Lib.hid (hS5.out.below hv15))
          try (replace hS12 := Lib.hid (hS12.out.below hv15))
          clear hK K hz15 hv15
          try simp only [Act.put, List.setIfInBounds_toArray, List.set_cons_zero, List.set_cons_succ]
          refine wb_one (i := 16) (by simp only [List.getElem?_toArray, List.getElem?_cons_succ, List.getElem?_cons_zero] <;> rfl) (by kernel_rfl) (by rfl) (fun K hK => ?_)
          go_simp
          have hok : ∀ s ∈ ([SS.mk A0 2 2 ([69, 0]), SS.mk A5 2 c5 ((be (20 + (m : Int)).toNat 2)), SS.mk A12 8 8 ([0, 0, 0, 0, hp, c, 0, 0]), SS.mk Aa la ca xa, SS.mk Ab lb cb xb] : List SS), s.ok _ := ok5 ⟨hS0.out, hA0.out⟩ ⟨hS5.out, hA5.out⟩ ⟨hS12.out, hA12.out⟩ ⟨hSa.out, hAa.out⟩ ⟨hSb.out, hAb.out⟩
          have hfl : flatS [SS.mk A0 2 2 ([69, 0]), SS.mk A5 2 c5 ((be (20 + (m : Int)).toNat 2)), SS.mk A12 8 8 ([0, 0, 0, 0, hp, c, 0, 0]), SS.mk Aa la ca xa, SS.mk Ab lb cb xb] = [69, 0] ++ (be (20 + (m : Int)).toNat 2 ++ ([0, 0, 0, 0, hp, c, 0, 0] ++ (xa ++ xb))) := by simp [flatS]
          have hCC := concat_blk _ 5 [SS.mk A0 2 2 ([69, 0]), SS.mk A5 2 c5 ((be (20 + (m : Int)).toNat 2)), SS.mk A12 8 8 ([0, 0, 0, 0, hp, c, 0, 0]), SS.mk Aa la ca xa, SS.mk Ab lb cb xb] 43 _ hL15 rfl hok (by rw [hfl]; simp only [List.length_append, be_len, List.length_cons, List.length_nil]; have := hla.out; have := hlb.out; have := hmm.out; have := hm.out; omega) (by rw [hfl]; simp only [List.length_append, be_len, List.length_cons, List.length_nil]; have := hla.out; have := hlb.out; have := hmm.out; have := hm.out; omega) (by omega)
          rw [hfl] at hCC
          have hwzC := hP.lt
          refine hCC.mono ?_
          rintro e u16 ⟨v16, rfl, o16, hv16⟩
          have hN16 := own_apart o16 o3.out
          refine hK.out _ _ (Kb.below hv16 (by intro p hp; rw [List.mem_singleton.1 hp]; exact hP.lt)) ?_
          replace hP := hP.below hv16
          replace hw := hw.trans (hv16.mono hw.size)
          try (replace hSa := Lib.hid (hSa.out.below hv16))
          try (replace hSb := Lib.hid (hSb.out.below hv16))
          try (replace o3 := Lib.hid (o3.out.below hv16))
          try (replace hS0 := Lib.hid (hS0.out.below hv16))
          try (replace hS5 := Lib.hid (hS5.out.below hv16))
          try (replace hS12 := Lib.hid (hS12.out.below hv16))
          replace o16 := Lib.hid (o16.mono (B := w.heap.size + 1) hwzC)
          clear hK K hv16 hok hfl hCC hwzC hL15
          try simp only [Act.put, List.setIfInBounds_toArray, List.set_cons_zero, List.set_cons_succ]
          refine wb_pure (i := 17) (d := some 9) (v := ?_) (by simp only [List.getElem?_toArray, List.getElem?_cons_succ, List.getElem?_cons_zero] <;> rfl) (by rfl) (by kernel_rfl) (by kernel_rfl) (by kernel_rfl) (fun _ _ _ h => h) (by rfl) ?_ ?_
          rotate_left
          · ((intro u); go_simp; try with_reducible rfl)
          try simp only [Act.put, List.setIfInBounds_toArray, List.set_cons_zero, List.set_cons_succ]
          refine wb_done (by kernel_rfl) ?_ _
          go_wp2_with fail
          go_meet
          exact ⟨_, rfl, o16, Lib.hid hN16, o3, Lib.hid hP, Lib.hid hw⟩
        · go_simp
          refine hK.out _ _ (Kb.gb (World.grownBy_alloc _ _ none) (by intro p hp; rw [List.mem_singleton.1 hp]; exact ⟨hP.lt, by simp⟩)) ?_
          refine wb_new (cs := bV [0, 0, 0, 0, hp, c, 0, 0]) (t := 5) (fun u12 hv12 hL12 hz12 => ?_)
          obtain ⟨A12, hS12, hA12, hE12⟩ := lit_ex (slB_blk (n := 8) hL12 rfl)
          rw [hE12]
          replace hS12 := Lib.hid hS12
          replace hA12 := Lib.hid hA12
          replace hP := hP.below hv12
          replace hw := hw.trans (hv12.mono hw.size)
          try (replace hSa := Lib.hid (hSa.out.below hv12))
          try (replace hSb := Lib.hid (hSb.out.below hv12))
          try (replace o3 := Lib.hid (o3.out.below hv12))
          try (replace hS0 := Lib.hid (hS0.out.below hv12))
          try (replace hS5 := Lib.hid (hS5.out.below hv12))
          try (replace hS12 := Lib.hid (hS12.out.below hv12))
          clear hK K hz12 hL12 hv12 hE12
          try simp only [Act.put, List.setIfInBounds_toArray, List.set_cons_zero, List.set_cons_succ]
          refine wb_one (i := 0) (by simp only [List.getElem?_toArray, List.getElem?_cons_succ, List.getElem?_cons_zero] <;> rfl) (by kernel_rfl) (by rfl) (fun K hK => ?_)
          go_simp
          refine hK.out _ _ (Kb.gb (World.grownBy_alloc _ _ none) (by intro p hp; rw [List.mem_singleton.1 hp]; exact ⟨hP.lt, by simp⟩)) ?_
          refine wb_new (cs := bV [69, 0]) (t := 5) (fun u0 hv0 hL0 hz0 => ?_)
          obtain ⟨A0, hS0, hA0, hE0⟩ := lit_ex (slB_blk (n := 2) hL0 rfl)
          rw [hE0]
          replace hS0 := Lib.hid hS0
          replace hA0 := Lib.hid hA0
          replace hP := hP.below hv0
          replace hw := hw.trans (hv0.mono hw.size)
          try (replace hSa := Lib.hid (hSa.out.below hv0))
          try (replace hSb := Lib.hid (hSb.out.below hv0))
          try (replace o3 := Lib.hid (o3.out.below hv0))
          try (replace hS0 := Lib.hid (hS0.out.below hv0))
          try (replace hS5 := Lib.hid (hS5.out.below hv0))
          try (replace hS12 := Lib.hid (hS12.out.below hv0))
          clear hK K hz0 hL0 hv0 hE0
          try simp only [Act.put, List.setIfInBounds_toArray, List.set_cons_zero, List.set_cons_succ]
          refine wb_one (i := 15) (by simp only [List.getElem?_toArray, List.getElem?_cons_succ, List.getElem?_cons_zero] <;> rfl) (by kernel_rfl) (by rfl) (fun K hK => ?_)
          go_simp
          refine hK.out _ _ (Kb.gb (World.grownBy_alloc _ _ none) (by intro p hp; rw [List.mem_singleton.1 hp]; exact ⟨hP.lt, by simp⟩)) ?_
          refine wb_new (cs := [.slice A0 2 2, .slice A5 2 c5, .slice A12 8 8, .slice Aa la ca, .slice Ab lb cb]) (t := 43) (fun u15 hv15 hL15 hz15 => ?_)
          replace hP := hP.below hv15
          replace hw := hw.trans (hv15.mono hw.size)
          try (replace hSa := Lib.hid (hSa.out.below hv15))
          try (replace hSb := Lib.hid (hSb.out.below hv15))
          try (replace o3 := Lib.hid (o3.out.below hv15))
          try (replace hS0 := Lib.hid (hS0.out.below hv15))
          try (replace hS5 := Lib.hid (hS5.out.below hv15))
          try (replace hS12 := Lib.hid (hS12.out.below hv15))
          clear hK K hz15 hv15
          try simp only [Act.put, List.setIfInBounds_toArray, List.set_cons_zero, List.set_cons_succ]
          refine wb_one (i := 16) (by simp only [List.getElem?_toArray, List.getElem?_cons_succ, List.getElem?_cons_zero] <;> rfl) (by kernel_rfl) (by rfl) (fun K hK => ?_)
          go_simp
          have hok : ∀ s ∈ ([SS.mk A0 2 2 ([69, 0]), SS.mk A5 2 c5 ((be (20 + (m : Int)).toNat 2)), SS.mk A12 8 8 ([0, 0, 0, 0, hp, c, 0, 0]), SS.mk Aa la ca xa, SS.mk Ab lb cb xb] : List SS), s.ok _ := ok5 ⟨hS0.out, hA0.out⟩ ⟨hS5.out, hA5.out⟩ ⟨hS12.out, hA12.out⟩ ⟨hSa.out, hAa.out⟩ ⟨hSb.out, hAb.out⟩
          have hfl : flatS [SS.mk A0 2 2 ([69, 0]), SS.mk A5 2 c5 ((be (20 + (m : Int)).toNat 2)), SS.mk A12 8 8 ([0, 0, 0, 0, hp, c, 0, 0]), SS.mk Aa la ca xa, SS.mk Ab lb cb xb] = [69, 0] ++ (be (20 + (m : Int)).toNat 2 ++ ([0, 0, 0, 0, hp, c, 0, 0] ++ (xa ++ xb))) := by simp [flatS]
          have hCC := concat_blk _ 5 [SS.mk A0 2 2 ([69, 0]), SS.mk A5 2 c5 ((be (20 + (m : Int)).toNat 2)), SS.mk A12 8 8 ([0, 0, 0, 0, hp, c, 0, 0]), SS.mk Aa la ca xa, SS.mk Ab lb cb xb] 43 _ hL15 rfl hok (by rw [hfl]; simp only [List.length_append, be_len, List.length_cons, List.length_nil]; have := hla.out; have := hlb.out; have := hmm.out; have := hm.out; omega) (by rw [hfl]; simp only [List.length_append, be_len, List.length_cons, List.length_nil]; have := hla.out; have := hlb.out; have := hmm.out; have := hm.out; omega) (by omega)
          rw [hfl] at hCC
          have hwzC := hP.lt
          refine hCC.mono ?_
          rintro e u16 ⟨v16, rfl, o16, hv16⟩
          have hN16 := own_apart o16 o3.out
          refine hK.out _ _ (Kb.below hv16 (by intro p hp; rw [List.mem_singleton.1 hp]; exact hP.lt)) ?_
          replace hP := hP.below hv16
          replace hw := hw.trans (hv16.mono hw.size)
          try (replace hSa := Lib.hid (hSa.out.below hv16))
          try (replace hSb := Lib.hid (hSb.out.below hv16))
          try (replace o3 := Lib.hid (o3.out.below hv16))
          try (replace hS0 := Lib.hid (hS0.out.below hv16))
          try (replace hS5 := Lib.hid (hS5.out.below hv16))
          try (replace hS12 := Lib.hid (hS12.out.below hv16))
          replace o16 := Lib.hid (o16.mono (B := w.heap.size + 1) hwzC)
          clear hK K hv16 hok hfl hCC hwzC hL15
          try simp only [Act.put, List.setIfInBounds_toArray, List.set_cons_zero, List.set_cons_succ]
          refine wb_pure (i := 17) (d := some 9) (v := ?_) (by simp only [List.getElem?_toArray, List.getElem?_cons_succ, List.getElem?_cons_zero] <;> rfl) (by rfl) (by kernel_rfl) (by kernel_rfl) (by kernel_rfl) (fun _ _ _ h => h) (by rfl) ?_ ?_
          rotate_left
          · ((intro u); go_simp; try with_reducible rfl)
          try simp only [Act.put, List.setIfInBounds_toArray, List.set_cons_zero, List.set_cons_succ]
          refine wb_done (by kernel_rfl) ?_ _
          go_wp2_with fail
          go_meet
          exact ⟨_, rfl, o16, Lib.hid hN16, o3, Lib.hid hP, Lib.hid hw⟩
      · go_simp
        refine hK.out _ _ (Kb.gb (World.grownBy_alloc _ _ none) (by intro p hp; rw [List.mem_singleton.1 hp]; exact ⟨hP.lt, by simp⟩)) ?_
        refine wb_new (cs := bV [0, 0, 0, 0, hp, c, 0, 0]) (t := 5) (fun u12 hv12 hL12 hz12 => ?_)
        obtain ⟨A12, hS12, hA12, hE12⟩ := lit_ex (slB_blk (n := 8) hL12 rfl)
        rw [hE12]
        replace hS12 := Lib.hid hS12
        replace hA12 := Lib.hid hA12
        replace hP := hP.below hv12
        replace hw := hw.trans (hv12.mono hw.size)
        try (replace hSa := Lib.hid (hSa.out.below hv12))
        try (replace hSb := Lib.hid (hSb.out.below hv12))
        try (replace o3 := Lib.hid (o3.out.below hv12))
        try (replace hS0 := Lib.hid (hS0.out.below hv12))
        try (replace hS5 := Lib.hid (hS5.out.below hv12))
        try (replace hS12 := Lib.hid (hS12.out.below hv12))
        clear hK K hz12 hL12 hv12 hE12
        try simp only [Act.put, List.setIfInBounds_toArray, List.set_cons_zero, List.set_cons_succ]
        refine wb_two (i := 0) (k := 5) (by simp only [List.getElem?_toArray, List.getElem?_cons_succ, List.getElem?_cons_zero] <;> rfl) (by simp only [List.getElem?_toArray, List.getElem?_cons_succ, List.getElem?_cons_zero] <;> rfl) (by kernel_rfl) (by rfl) (by rfl) (fun K hK => ?_) (fun K hK => ?_)
        · go_simp
          refine hK.out _ _ (Kb.gb (World.grownBy_alloc _ _ none) (by intro p hp; rw [List.mem_singleton.1 hp]; exact ⟨hP.lt, by simp⟩)) ?_
          refine wb_new (cs := bV [69, 0]) (t := 5) (fun u0 hv0 hL0 hz0 => ?_)
          obtain ⟨A0, hS0, hA0, hE0⟩ := lit_ex (slB_blk (n := 2) hL0 rfl)
          rw [hE0]
          replace hS0 := Lib.hid hS0
          replace hA0 := Lib.hid hA0
          replace hP := hP.below hv0
          replace hw := hw.trans (hv0.mono hw.size)
          try (replace hSa := Lib.hid (hSa.out.below hv0))
          try (replace hSb := Lib.hid (hSb.out.below hv0))
          try (replace o3 := Lib.hid (o3.out.below hv0))
          try (replace hS0 := Lib.hid (hS0.out.below hv0))
          try (replace hS5 := Lib.hid (hS5.out.below hv0))
          try (replace hS12 := Lib.hid (hS12.out.below hv0))
          clear hK K hz0 hL0 hv0 hE0
          try simp only [Act.put, List.setIfInBounds_toArray, List.set_cons_zero, List.set_cons_succ]
          refine wb_one (i := 5) (by simp only [List.getElem?_toArray, List.getElem?_cons_succ, List.getElem?_cons_zero] <;> rfl) (by kernel_rfl) (by rfl) (fun K hK => ?_)
          go_simp
          refine (big_sl 2 (20 + (m : Int)) _ (by omega) (by omega) (by omega)).mono ?_
          rintro e u5 ⟨A5, c5, rfl, hS5, hA5, hv5⟩
          refine hK.out _ _ (Kb.below hv5 (by intro p hp; rw [List.mem_singleton.1 hp]; exact hP.lt)) ?_
          replace hP := hP.below hv5
          replace hw := hw.trans (hv5.mono hw.size)
          try (replace hSa := Lib.hid (hSa.out.below hv5))
          try (replace hSb := Lib.hid (hSb.out.below hv5))
          try (replace o3 := Lib.hid (o3.out.below hv5))
          try (replace hS0 := Lib.hid (hS0.out.below hv5))
          try (replace hS5 := Lib.hid (hS5.out.below hv5))
          try (replace hS12 := Lib.hid (hS12.out.below hv5))
          replace hS5 := Lib.hid hS5
          replace hA5 := Lib.hid hA5
          clear hK K hv5
          try simp only [Act.put, List.setIfInBounds_toArray, List.set_cons_zero, List.set_cons_succ]
          refine wb_one (i := 15) (by simp only [List.getElem?_toArray, List.getElem?_cons_succ, List.getElem?_cons_zero] <;> rfl) (by kernel_rfl) (by rfl) (fun K hK => ?_)
          go_simp
          refine hK.out _ _ (Kb.gb (World.grownBy_alloc _ _ none) (by intro p hp; rw [List.mem_singleton.1 hp]; exact ⟨hP.lt, by simp⟩)) ?_
          refine wb_new (cs := [.slice A0 2 2, .slice A5 2 c5, .slice A12 8 8, .slice Aa la ca, .slice Ab lb cb]) (t := 43) (fun u15 hv15 hL15 hz15 => ?_)
          replace hP := hP.below hv15
          replace hw := hw.trans (hv15.mono hw.size)
          try (replace hSa := Lib.hid (hSa.out.below hv15))
          try (replace hSb := Lib.hid (hSb.out.below hv15))
          try (replace o3 := Lib.hid (o3.out.below hv15))
          try (replace hS0 := Lib.hid (hS0.out.below hv15))
          try (replace hS5 := Lib.hid (hS5.out.below hv15))
          try (replace hS12 := Lib.hid (hS12.out.below hv15))
          clear hK K hz15 hv15
          try simp only [Act.put, List.setIfInBounds_toArray, List.set_cons_zero, List.set_cons_succ]
          refine wb_one (i := 16) (by simp only [List.getElem?_toArray, List.getElem?_cons_succ, List.getElem?_cons_zero] <;> rfl) (by kernel_rfl) (by rfl) (fun K hK => ?_)
          go_simp
          have hok : ∀ s ∈ ([SS.mk A0 2 2 ([69, 0]), SS.mk A5 2 c5 ((be (20 + (m : Int)).toNat 2)), SS.mk A12 8 8 ([0, 0, 0, 0, hp, c, 0, 0]), SS.mk Aa la ca xa, SS.mk Ab lb cb xb] : List SS), s.ok _ := ok5 ⟨hS0.out, hA0.out⟩ ⟨hS5.out, hA5.out⟩ ⟨hS12.out, hA12.out⟩ ⟨hSa.out, hAa.out⟩ ⟨hSb.out, hAb.out⟩
          have hfl : flatS [SS.mk A0 2 2 ([69, 0]), SS.mk A5 2 c5 ((be (20 + (m : Int)).toNat 2)), SS.mk A12 8 8 ([0, 0, 0, 0, hp, c, 0, 0]), SS.mk Aa la ca xa, SS.mk Ab lb cb xb] = [69, 0] ++ (be (20 + (m : Int)).toNat 2 ++ ([0, 0, 0, 0, hp, c, 0, 0] ++ (xa ++ xb))) := by simp [flatS]
          have hCC := concat_blk _ 5 [SS.mk A0 2 2 ([69, 0]), SS.mk A5 2 c5 ((be (20 + (m : Int)).toNat 2)), SS.mk A12 8 8 ([0, 0, 0, 0, hp, c, 0, 0]), SS.mk Aa la ca xa, SS.mk Ab lb cb xb] 43 _ hL15 rfl hok (by rw [hfl]; simp only [List.length_append, be_len, List.length_cons, List.length_nil]; have := hla.out; have := hlb.out; have := hmm.out; have := hm.out; omega) (by rw [hfl]; simp only [List.length_append, be_len, List.length_cons, List.length_nil]; have := hla.out; have := hlb.out; have := hmm.out; have := hm.out; omega) (by omega)
          rw [hfl] at hCC
          have hwzC := hP.lt
          refine hCC.mono ?_
          rintro e u16 ⟨v16, rfl, o16, hv16⟩
          have hN16 := own_apart o16 o3.out
          refine hK.out _ _ (Kb.below hv16 (by intro p hp; rw [List.mem_singleton.1 hp]; exact hP.lt)) ?_
          replace hP := hP.below hv16
          replace hw := hw.trans (hv16.mono hw.size)
          try (replace hSa := Lib.hid (hSa.out.below hv16))
          try (replace hSb := Lib.hid (hSb.out.below hv16))
          try (replace o3 := Lib.hid (o3.out.below hv16))
          try (replace hS0 := Lib.hid (hS0.out.below hv16))
          try (replace hS5 := Lib.hid (hS5.out.below hv16))
          try (replace hS12 := Lib.hid (hS12.out.below hv16))
          replace o16 := Lib.hid (o16.mono (B := w.heap.size + 1) hwzC)
          clear hK K hv16 hok hfl hCC hwzC hL15
          try simp only [Act.put, List.setIfInBounds_toArray, List.set_cons_zero, List.set_cons_succ]
          refine wb_pure (i := 17) (d := some 9) (v := ?_) (by simp only [List.getElem?_toArray, List.getElem?_cons_succ, List.getElem?_cons_zero] <;> rfl) (by rfl) (by kernel_rfl) (by kernel_rfl) (by kernel_rfl) (fun _ _ _ h => h) (by rfl) ?_ ?_
          rotate_left
          · ((intro u); go_simp; try with_reducible rfl)
          try simp only [Act.put, List.setIfInBounds_toArray, List.set_cons_zero, List.set_cons_succ]
          refine wb_done (by kernel_rfl) ?_ _
          go_wp2_with fail
          go_meet
          exact ⟨_, rfl, o16, Lib.hid hN16, o3, Lib.hid hP, Lib.hid hw⟩
        · go_simp
          refine (big_sl 2 (20 + (m : Int)) _ (by omega) (by omega) (by omega)).mono ?_
          rintro e u5 ⟨A5, c5, rfl, hS5, hA5, hv5⟩
          refine hK.out _ _ (Kb.below hv5 (by intro p hp; rw [List.mem_singleton.1 hp]; exact hP.lt)) ?_
          replace hP := hP.below hv5
          replace hw := hw.trans (hv5.mono hw.size)
          try (replace hSa := Lib.hid (hSa.out.below hv5))
          try (replace hSb := Lib.hid (hSb.out.below hv5))
          try (replace o3 := Lib.hid (o3.out.below hv5))
          try (replace hS0 := Lib.hid (hS0.out.below hv5))
          try (replace hS5 := Lib.hid (hS5.out.below hv5))
          try (replace hS12 := Lib.hid (hS12.out.below hv5))
          replace hS5 := Lib.hid hS5
          replace hA5 := Lib.hid hA5
          clear hK K hv5
          try simp only [Act.put, List.setIfInBounds_toArray, List.set_cons_zero, List.set_cons_succ]
          refine wb_one (i := 0) (by simp only [List.getElem?_toArray, List.getElem?_cons_succ, List.getElem?_cons_zero] <;> rfl) (by kernel_rfl) (by rfl) (fun K hK => ?_)
          go_simp
          refine hK.out _ _ (Kb.gb (World.grownBy_alloc _ _ none) (by intro p hp; rw [List.mem_singleton.1 hp]; exact ⟨hP.lt, by simp⟩)) ?_
          refine wb_new (cs := bV [69, 0]) (t := 5) (fun u0 hv0 hL0 hz0 => ?_)
          obtain ⟨A0, hS0, hA0, hE0⟩ := lit_ex (slB_blk (n := 2) hL0 rfl)
          rw [hE0]
          replace hS0 := Lib.hid hS0
          replace hA0 := Lib.hid hA0
          replace hP := hP.below hv0
          replace hw := hw.trans (hv0.mono hw.size)
          try (replace hSa := Lib.hid (hSa.out.below hv0))
          try (replace hSb := Lib.hid (hSb.out.below hv0))
          try (replace o3 := Lib.hid (o3.out.below hv0))
          try (replace hS0 := Lib.hid (hS0.out.below hv0))
          try (replace hS5 := Lib.hid (hS5.out.below hv0))
          try (replace hS12 := Lib.hid (hS12.out.below hv0))
          clear hK K hz0 hL0 hv0 hE0
          try simp only [Act.put, List.setIfInBounds_toArray, List.set_cons_zero, List.set_cons_succ]
          refine wb_one (i := 15) (by simp only [List.getElem?_toArray, List.getElem?_cons_succ, List.getElem?_cons_zero] <;> rfl) (by kernel_rfl) (by rfl) (fun K hK => ?_)
          go_simp
          refine hK.out _ _ (Kb.gb (World.grownBy_alloc _ _ none) (by intro p hp; rw [List.mem_singleton.1 hp]; exact ⟨hP.lt, by simp⟩)) ?_
          refine wb_new (cs := [.slice A0 2 2, .slice A5 2 c5, .slice A12 8 8, .slice Aa la ca, .slice Ab lb cb]) (t := 43) (fun u15 hv15 hL15 hz15 => ?_)
          replace hP := hP.below hv15
          replace hw := hw.trans (hv15.mono hw.size)
          try (replace hSa := Lib.hid (hSa.out.below hv15))
          try (replace hSb := Lib.hid (hSb.out.below hv15))
          try (replace o3 := Lib.hid (o3.out.below hv15))
          try (replace hS0 := Lib.hid (hS0.out.below hv15))
          try (replace hS5 := Lib.hid (hS5.out.below hv15))
          try (replace hS12 := Lib.hid (hS12.out.below hv15))
          clear hK K hz15 hv15
          try simp only [Act.put, List.setIfInBounds_toArray, List.set_cons_zero, List.set_cons_succ]
          refine wb_one (i := 16) (by simp only [List.getElem?_toArray, List.getElem?_cons_succ, List.getElem?_cons_zero] <;> rfl) (by kernel_rfl) (by rfl) (fun K hK => ?_)
          go_simp
          have hok : ∀ s ∈ ([SS.mk A0 2 2 ([69, 0]), SS.mk A5 2 c5 ((be (20 + (m : Int)).toNat 2)), SS.mk A12 8 8 ([0, 0, 0, 0, hp, c, 0, 0]), SS.mk Aa la ca xa, SS.mk Ab lb cb xb] : List SS), s.ok _ := ok5 ⟨hS0.out, hA0.out⟩ ⟨hS5.out, hA5.out⟩ ⟨hS12.out, hA12.out⟩ ⟨hSa.out, hAa.out⟩ ⟨hSb.out, hAb.out⟩
          have hfl : flatS [SS.mk A0 2 2 ([69, 0]), SS.mk A5 2 c5 ((be (20 + (m : Int)).toNat 2)), SS.mk A12 8 8 ([0, 0, 0, 0, hp, c, 0, 0]), SS.mk Aa la ca xa, SS.mk Ab lb cb xb] = [69, 0] ++ (be (20 + (m : Int)).toNat 2 ++ ([0, 0, 0, 0, hp, c, 0, 0] ++ (xa ++ xb))) := by simp [flatS]
          have hCC := concat_blk _ 5 [SS.mk A0 2 2 ([69, 0]), SS.mk A5 2 c5 ((be (20 + (m : Int)).toNat 2)), SS.mk A12 8 8 ([0, 0, 0, 0, hp, c, 0, 0]), SS.mk Aa la ca xa, SS.mk Ab lb cb xb] 43 _ hL15 rfl hok (by rw [hfl]; simp only [List.length_append, be_len, List.length_cons, List.length_nil]; have := hla.out; have := hlb.out; have := hmm.out; have := hm.out; omega) (by rw [hfl]; simp only [List.length_append, be_len, List.length_cons, List.length_nil]; have := hla.out; have := hlb.out; have := hmm.out; have := hm.out; omega) (by omega)
          rw [hfl] at hCC
          have hwzC := hP.lt
          refine hCC.mono ?_
          rintro e u16 ⟨v16, rfl, o16, hv16⟩
          have hN16 := own_apart o16 o3.out
          refine hK.out _ _ (Kb.below hv16 (by intro p hp; rw [List.mem_singleton.1 hp]; exact hP.lt)) ?_
          replace hP := hP.below hv16
          replace hw := hw.trans (hv16.mono hw.size)
          try (replace hSa := Lib.hid (hSa.out.below hv16))
          try (replace hSb := Lib.hid (hSb.out.below hv16))
          try (replace o3 := Lib.hid (o3.out.below hv16))
          try (replace hS0 := Lib.hid (hS0.out.below hv16))
          try (replace hS5 := Lib.hid (hS5.out.below hv16))
          try (replace hS12 := Lib.hid (hS12.out.below hv16))
          replace o16 := Lib.hid (o16.mono (B := w.heap.size + 1) hwzC)
          clear hK K hv16 hok hfl hCC hwzC hL15
          try simp only [Act.put, List.setIfInBounds_toArray, List.set_cons_zero, List.set_cons_succ]
          refine wb_pure (i := 17) (d := some 9) (v := ?_) (by simp only [List.getElem?_toArray, List.getElem?_cons_succ, List.getElem?_cons_zero] <;> rfl) (by rfl) (by kernel_rfl) (by kernel_rfl) (by kernel_rfl) (fun _ _ _ h => h) (by rfl) ?_ ?_
          rotate_left
          · ((intro u); go_simp; try with_reducible rfl)
          try simp only [Act.put, List.setIfInBounds_toArray, List.set_cons_zero, List.set_cons_succ]
          refine wb_done (by kernel_rfl) ?_ _
          go_wp2_with fail
          go_meet
          exact ⟨_, rfl, o16, Lib.hid hN16, o3, Lib.hid hP, Lib.hid hw⟩
    case rest =>
    clear hP hw o3 hSa hSb
    obtain ⟨v16, rfl, o16, hN16, o3, hP, hw⟩ := hcut
    replace hN16 := hN16.out
    replace hP := hP.out
    replace hw := hw.out
    clear wI wU
    obtain ⟨X, hX⟩ : ∃ X, X = [69, 0] ++ (be (20 + (m : Int)).toNat 2 ++ ([0, 0, 0, 0, hp, c, 0, 0] ++ (xa ++ xb))) := ⟨_, rfl⟩
    replace o16 := o16.out
    rw [← hX] at o16
    have hXl : 12 ≤ X.length ∧ X.length ≤ 100 := by
      rw [hX]; simp only [List.length_append, be_len, List.length_cons, List.length_nil]; have := hla.out; have := hlb.out; omega
    have hXb : Hid (Byt X) := Lib.hid (by
      rw [hX]
      refine Byt.app ?_ (Byt.app (be_lt _ _) (Byt.app ?_ (Byt.app hxx.out.1 hxx.out.2)))
      · intro b hb; simp at hb; omega
      · intro b hb; simp at hb; omega)
    obtain ⟨gh, cx, rfl, _⟩ := o16.form (by omega)
    have hgg : g3 ≠ gh := fun e => hN16 gh rfl e.symm
    obtain ⟨lx, hlx⟩ : ∃ l, l = X.length := ⟨_, rfl⟩
    rw [← hlx] at o16 hXl ⊢
    obtain ⟨hxl1, hxl2⟩ := hXl
    have hxc := o16.cap.2.1
    have hcx : ¬ cx = 10 := by omega
    have hxs10 : 10 ≤ lx := by omega
    have hxi : (10 : Int) ≤ (lx : Int) := by omega
    have hsx := sumR_in X
    have wsx := wrapU (sumR X) hsx.1 (by have := hsx.2; omega)
    have hXs : Hid ((splice X 10 (be (sumR X).toNat 2)).length ≤ 100) := Lib.hid (by rw [splice_len (by rw [be_len]; omega)]; omega)
    have HBE : Hid (BL = splice X 10 (be (sumR X).toNat 2) ++ bd) := Lib.hid (by rw [HB.out, HH4.out m (by rw [hq'.out]), hX, hxa.out, hxb.out, hq'.out])
    replace o16 := Lib.hid o16
    replace hX := Lib.hid hX
    replace hlx := Lib.hid hlx
    clear hN16
    go_wp2_with fail
    refine wb_begin ([w.heap.size]) [] (by kernel_rfl) (fun u0 hb0' hz0' => ?_)
    try (replace o3 := Lib.hid (o3.out.below hb0'))
    try (replace o16 := Lib.hid (o16.out.below hb0'))
    replace hP := hP.below hb0'
    replace hw := hw.trans (hb0'.mono hw.size)
    clear hb0' hz0'
    refine wb_pure (i := 0) (d := some 107) (v := ?_) (by simp only [List.getElem?_toArray, List.getElem?_cons_succ, List.getElem?_cons_zero] <;> rfl) (by rfl) (by kernel_rfl) (by kernel_rfl) (by kernel_rfl) (fun _ _ _ h => h) (by rfl) ?_ ?_
    rotate_left
    · ((intro u); go_simp; try with_reducible rfl)
    try simp only [Act.put, List.setIfInBounds_toArray, List.set_cons_zero, List.set_cons_succ]
    refine wb_take (i := 1) (d := some 108) (v := ?_) (by simp only [List.getElem?_toArray, List.getElem?_cons_succ, List.getElem?_cons_zero] <;> rfl) (by rfl) (by kernel_rfl) (by kernel_rfl) (by kernel_rfl) (fun _ _ _ h => h) (by rfl) (by kernel_rfl) ?_ ?_
    rotate_left
    · ((intro u hu); skip; go_simp; try with_reducible rfl)
    try simp only [Act.put, List.setIfInBounds_toArray, List.set_cons_zero, List.set_cons_succ]
    refine wb_pure (i := 2) (d := some 109) (v := ?_) (by simp only [List.getElem?_toArray, List.getElem?_cons_succ, List.getElem?_cons_zero] <;> rfl) (by rfl) (by kernel_rfl) (by kernel_rfl) (by kernel_rfl) (fun _ _ _ h => h) (by rfl) ?_ ?_
    rotate_left
    · ((intro u); go_simp; try with_reducible rfl)
    try simp only [Act.put, List.setIfInBounds_toArray, List.set_cons_zero, List.set_cons_succ]
    refine wb_one (i := 3) (by simp only [List.getElem?_toArray, List.getElem?_cons_succ, List.getElem?_cons_zero] <;> rfl) (by kernel_rfl) (by rfl) (fun K hK => ?_)
    go_simp
    refine (checkSumOf_any _ lx cx X _ o16.out.cap.2.2 (by omega) hXb.out).mono ?_
    rintro e u3 ⟨rfl, hv3⟩
    refine hK.out _ _ (Kb.below hv3 (by intro p hp; rw [List.mem_singleton.1 hp]; exact hP.lt)) ?_
    replace hP := hP.below hv3
    replace hw := hw.trans (hv3.mono hw.size)
    try (replace o3 := Lib.hid (o3.out.below hv3))
    try (replace o16 := Lib.hid (o16.out.below hv3))
    clear hK K hv3
    try simp only [Act.put, List.setIfInBounds_toArray, List.set_cons_zero, List.set_cons_succ]
    refine wb_pure (i := 4) (d := some 111) (v := ?_) (by simp only [List.getElem?_toArray, List.getElem?_cons_succ, List.getElem?_cons_zero] <;> rfl) (by rfl) (by kernel_rfl) (by kernel_rfl) (by kernel_rfl) (fun _ _ _ h => h) (by rfl) ?_ ?_
    rotate_left
    · ((intro u); go_simp; try with_reducible rfl)
    try simp only [Act.put, List.setIfInBounds_toArray, List.set_cons_zero, List.set_cons_succ]
    refine wb_one (i := 5) (by simp only [List.getElem?_toArray, List.getElem?_cons_succ, List.getElem?_cons_zero] <;> rfl) (by kernel_rfl) (by rfl) (fun K hK => ?_)
    go_simp
    refine (big_sl 2 (sumR X) _ (by omega) hsx.1 (by have := hsx.2; omega)).mono ?_
    rintro e u5 ⟨A5, c5, rfl, hS5, hA5, hv5⟩
    refine hK.out _ _ (Kb.below hv5 (by intro p hp; rw [List.mem_singleton.1 hp]; exact hP.lt)) ?_
    replace hP := hP.below hv5
    replace hw := hw.trans (hv5.mono hw.size)
    try (replace o3 := Lib.hid (o3.out.below hv5))
    try (replace o16 := Lib.hid (o16.out.below hv5))
    replace hS5 := Lib.hid hS5
    replace hA5 := Lib.hid hA5
    clear hK K hv5
    try simp only [Act.put, List.setIfInBounds_toArray, List.set_cons_zero, List.set_cons_succ]
    refine wb_one (i := 6) (by simp only [List.getElem?_toArray, List.getElem?_cons_succ, List.getElem?_cons_zero] <;> rfl) (by kernel_rfl) (by rfl) (fun K hK => ?_)
    have hgB := (o16.out.lt gh rfl).1
    refine wp_copy_own _ _ rfl (w.heap.size + 1) gh lx cx 10 X o16.out _ _ rfl A5 2 c5 (be (sumR X).toNat 2) rfl hS5.out (by omega) (by omega) (by omega) ?_
    intro u6 ho6 hg6
    have hv6 : Below (w.heap.size + 1) u5 u6 := (Below.refl _ _).grown hg6 hP.lt (fun k h => by cases h; exact hgB)
    refine hK.out _ _ (Kb.below hv6 (by intro p hp; rw [List.mem_singleton.1 hp]; omega)) ?_
    replace hP := hP.upB (Nat.lt_succ_self _) hv6
    replace hw := hw.trans (hv6.mono (by omega))
    replace o3 := Lib.hid (World.ownsRow.kept o3.out hg6 (.inr (fun e => hgg (by cases e; rfl))))
    replace o16 := Lib.hid ho6
    clear hK K hv6 hg6 hS5 hA5 hgB
    try simp only [Act.put, List.setIfInBounds_toArray, List.set_cons_zero, List.set_cons_succ]
    refine wb_done (by kernel_rfl) ?_ _
    replace hw := Lib.hid hw
    have o3o : Own (w.heap.size + 1) u6 (.slice (some ⟨g3, 0, none⟩) m c3) bd := o3.out
    have hsl := o3o.cap.2.2
    replace o16 := o16.out
    have hwz := hw.out.size
    have hz1 := hP.lt
    replace hsl := Lib.hid hsl
    clear o3 o3o
    go_wp2_with (at_builtin; refine append_slB' rfl _ _ rfl (w.heap.size + 1) _ _ rfl o16 (some ⟨g3, 0, none⟩) m c3 bd rfl hsl.out (fun h => by cases h) (by have := hXs.out; have := hmm.out; omega) hz1 ?_)
    intro v7 u7 o7 hv7
    replace hw := hw.out.trans (hv7.mono (by omega))
    replace o7 := Lib.hid o7
    clear hv7 o16 hsl
    go_wp2_with fail
    go_ret
    exact ⟨_, rfl, by rw [HBE.out]; exact o7.out.mono (by omega), hw⟩
end Go.Proofs.Ytigbbpgfblnboaa
