/- Packets: flags, ports, protocols. -/
import Derived.Test.YtigbbpgfblnboaaPkL
namespace Go.Proofs.Ytigbbpgfblnboaa
open Go.RowKit
set_option linter.unusedVariables false
set_option linter.unusedSimpArgs false

theorem wrapU (x : Int) (h0 : 0 ≤ x) (h1 : x < 18446744073709551616) : IntKind.u64.wrap x = x := by rw [IntKind.wrap_u64]; omega
/-- Bytes are returned in a new row. -/
def GivesB (bs : List Nat) (w : World) (e : Ending) (w' : World) : Prop := ∃ v, e = .returned v ∧ Own w.heap.size w' v bs ∧ Below w.heap.size w w'

theorem kind_any (six reply : Bool) (w : World) :
    Calls Try.prog 115 #[.bool six, .bool reply] w fun e w' => e = .returned (.int .u8 ((if six then (if reply then 129 else 128) else (if reply then 0 else 8) : Nat) : Int)) ∧ w = w' := by
  cases six <;> cases reply <;> (
    go_enter Try.func115, Try.ntmps115
    go_wp2_with fail
    go_ret
    exact ⟨rfl, rfl⟩)
/-- The number of a protocol beside addresses. -/
def codeN (p : Int) (six : Bool) : Int := if six = true ∧ p = 1 then 58 else p
theorem proto_any (p : Int) (six : Bool) (w : World) :
    Calls Try.prog 71 #[.int .i64 p, .bool six] w fun e w' => e = .returned (.int .i64 (codeN p six)) ∧ w = w' := by
  cases six
  · go_enter Try.func71, Try.ntmps71
    go_wp2_with fail
    go_ret
    exact ⟨by simp [codeN], rfl⟩
  · by_cases h : p = 1
    · have hc := Lib.hid (show codeN p true = 58 from if_pos ⟨rfl, h⟩)
      subst h
      go_enter Try.func71, Try.ntmps71
      go_wp2_with fail
      go_ret
      exact ⟨by rw [hc.out]; rfl, rfl⟩
    · have hc := Lib.hid (show codeN p true = p from if_neg (fun x => h x.2))
      have e : (p == 1) = false := by simp [h]
      replace h := Lib.hid h
      go_enter Try.func71, Try.ntmps71
      go_wp2_with fail
      go_ret
      exact ⟨by rw [hc.out]; rfl, rfl⟩
theorem code_any (q : Pk) (v : Value) (w : World) :
    Calls Try.prog 52 #[pkV q v] w (GivesV (.int .i64 (codeN q.proto q.fs)) w) := by
  have hP := Blk.new w (pkL q v) 45
  have hw : Hid (Below w.heap.size w (w.alloc (.cells #[.bool q.fs, .int .u64 q.fh, .int .u64 q.fl, .bool q.ts, .int .u64 q.th, .int .u64 q.tl, .int .i64 q.hops, .int .i64 q.proto, .int .i64 q.fp, .int .i64 q.tp, .bool q.syn, .bool q.fin, .bool q.rst, .bool q.has, .int .i64 q.seq, .int .i64 q.ack, .bool q.reply, .int .i64 q.id, v] 45))) := Lib.hid ((Below.refl _ _).alloc (Nat.le_refl _) _)
  have c0 := hP.cell (i := 0) (v := .bool q.fs) rfl
  have c7 := hP.cell (i := 7) (v := .int .i64 q.proto) rfl
  clear hP
  obtain ⟨fs, fh, fl, ts, th, tl, hops, proto, fp, tp, syn, fin, rst, has, seq, ack, reply, id⟩ := q
  dsimp only at *
  cases fs
  · have hc := Lib.hid (show codeN proto false = proto from if_neg (by simp))
    go_enter Try.func52, Try.ntmps52
    go_wp2_with fail
    go_ret
    exact ⟨by rw [hc.out]; rfl, hw.out⟩
  · by_cases h : proto = 1
    · have hc := Lib.hid (show codeN proto true = 58 from if_pos ⟨rfl, h⟩)
      have e : (proto == 1) = true := by simp [h]
      replace h := Lib.hid h
      go_enter Try.func52, Try.ntmps52
      go_wp2_with fail
      go_ret
      exact ⟨by rw [hc.out]; rfl, hw.out⟩
    · have hc := Lib.hid (show codeN proto true = proto from if_neg (fun x => h x.2))
      have e : (proto == 1) = false := by simp [h]
      replace h := Lib.hid h
      go_enter Try.func52, Try.ntmps52
      go_wp2_with fail
      go_ret
      exact ⟨by rw [hc.out]; rfl, hw.out⟩
theorem bit_any (b : Bool) (n : Int) (w : World) :
    Calls Try.prog 75 #[.bool b, .int .u8 n] w fun e w' => e = .returned (.int .u8 (if b then n else 0)) ∧ w = w' := by
  cases b <;> (
    go_enter Try.func75, Try.ntmps75
    go_wp2_with fail
    go_ret
    exact ⟨rfl, rfl⟩)

/-- The flags as a number. -/
def flgN (q : Pk) : Nat := (if q.fin then 1 else 0) + (if q.syn then 2 else 0) + (if q.rst then 4 else 0) + (if q.has then 16 else 0)
theorem add_any (b : Bool) (bit x : Int) (g : Nat) (w : World) (t : TypeId) (hc : Blk w g [.int .i64 x] t) :
    Calls Try.prog 122 #[.bool b, .int .i64 bit, .pointer (some ⟨g, 0, none⟩)] w fun e w' => e = .returned (.tuple #[]) ∧ Blk w' g [.int .i64 (if b then bits .or .i64 x bit else x)] t ∧ Below g w w' := by
  have c0 := hc.cell (i := 0) (v := .int .i64 x) rfl
  have f0 := hc.free 0
  cases b
  · go_enter Try.func122, Try.ntmps122
    go_wp2_with fail
    go_end0
    exact ⟨rfl, hc, Below.refl _ _⟩
  · have hs := Lib.hid (hc.set 0 (.int .i64 (bits .or .i64 x bit)))
    have hb := Lib.hid ((Below.refl g w).setCell (p := ⟨g, 0, none⟩) (Nat.le_refl _) (.int .i64 (bits .or .i64 x bit)))
    clear hc
    go_enter Try.func122, Try.ntmps122
    go_wp2_with fail
    go_end0
    exact ⟨rfl, hs.out, hb.out⟩

set_option maxHeartbeats 2000000 in
set_option maxRecDepth 100000 in
theorem portBytes_any (q : Pk) (v : Value) (pb : Nat) (w : World) (hP : Blk w pb (pkL q v) 45) (hr : 0 ≤ q.fp ∧ q.fp ≤ 65535 ∧ 0 ≤ q.tp ∧ q.tp ≤ 65535) :
    Calls Try.prog 111 #[.pointer (some ⟨pb, 0, none⟩)] w (GivesB (be q.fp.toNat 2 ++ be q.tp.toNat 2) w) := by
  have hpb := hP.lt
  have hw := Below.refl w.heap.size w
  obtain ⟨fs, fh, fl, ts, th, tl, hops, proto, fp, tp, syn, fin, rst, has, seq, ack, reply, id⟩ := q
  dsimp only at *
  have hfp0 := hr.1
  have hfp1 := hr.2.1
  have htp0 := hr.2.2.1
  have htp1 := hr.2.2.2
  have wfp := wrapU fp hfp0 (by omega)
  have wtp := wrapU tp htp0 (by omega)
  replace hr := Lib.hid hr
  go_enter Try.func111, Try.ntmps111
  go_wp2_with fail
  refine wb_begin ([pb]) [] (by kernel_rfl) (fun u0 hb0' hz0' => ?_)
  replace hP := hP.below hb0'
  replace hw := hw.trans (hb0'.mono hw.size)
  clear hb0' hz0'
  refine wb_pure (i := 0) (d := some 3) (v := ?_) (by simp only [List.getElem?_toArray, List.getElem?_cons_succ, List.getElem?_cons_zero] <;> rfl) (by rfl) (by kernel_rfl) (by kernel_rfl) (by kernel_rfl) (fun _ _ _ h => h) (by rfl) ?_ ?_
  rotate_left
  · ((intro u); go_simp; try with_reducible rfl)
  try simp only [Act.put, List.setIfInBounds_toArray, List.set_cons_zero, List.set_cons_succ]
  refine wb_pure (i := 1) (d := some 4) (v := ?_) (by simp only [List.getElem?_toArray, List.getElem?_cons_succ, List.getElem?_cons_zero] <;> rfl) (by rfl) (by kernel_rfl) (by kernel_rfl) (by kernel_rfl) (fun _ _ _ h => h) (by rfl) ?_ ?_
  rotate_left
  · ((intro u); go_simp; try with_reducible rfl)
  try simp only [Act.put, List.setIfInBounds_toArray, List.set_cons_zero, List.set_cons_succ]
  refine wb_pure (i := 2) (d := some 5) (v := ?_) (by simp only [List.getElem?_toArray, List.getElem?_cons_succ, List.getElem?_cons_zero] <;> rfl) (by rfl) (by kernel_rfl) (by kernel_rfl) (by kernel_rfl) (fun _ _ _ h => h) (by rfl) ?_ ?_
  rotate_left
  · ((intro u); go_simp; try with_reducible rfl)
  try simp only [Act.put, List.setIfInBounds_toArray, List.set_cons_zero, List.set_cons_succ]
  refine wb_take (i := 3) (d := some 6) (v := ?_) (by simp only [List.getElem?_toArray, List.getElem?_cons_succ, List.getElem?_cons_zero] <;> rfl) (by rfl) (by kernel_rfl) (by kernel_rfl) (by kernel_rfl) (fun _ _ _ h => h) (by rfl) (by kernel_rfl) ?_ ?_
  rotate_left
  · ((intro u hu); have k8 := (hP.kb hu (by simp)).cell (i := 8) (v := .int .i64 fp) rfl; have k9 := (hP.kb hu (by simp)).cell (i := 9) (v := .int .i64 tp) rfl; go_simp; try with_reducible rfl)
  try simp only [Act.put, List.setIfInBounds_toArray, List.set_cons_zero, List.set_cons_succ]
  refine wb_pure (i := 4) (d := some 7) (v := ?_) (by simp only [List.getElem?_toArray, List.getElem?_cons_succ, List.getElem?_cons_zero] <;> rfl) (by rfl) (by kernel_rfl) (by kernel_rfl) (by kernel_rfl) (fun _ _ _ h => h) (by rfl) ?_ ?_
  rotate_left
  · ((intro u); go_simp; try with_reducible rfl)
  try simp only [Act.put, List.setIfInBounds_toArray, List.set_cons_zero, List.set_cons_succ]
  refine wb_pure (i := 6) (d := some 9) (v := ?_) (by simp only [List.getElem?_toArray, List.getElem?_cons_succ, List.getElem?_cons_zero] <;> rfl) (by rfl) (by kernel_rfl) (by kernel_rfl) (by kernel_rfl) (fun _ _ _ h => h) (by rfl) ?_ ?_
  rotate_left
  · ((intro u); go_simp; try with_reducible rfl)
  try simp only [Act.put, List.setIfInBounds_toArray, List.set_cons_zero, List.set_cons_succ]
  refine wb_pure (i := 7) (d := some 10) (v := ?_) (by simp only [List.getElem?_toArray, List.getElem?_cons_succ, List.getElem?_cons_zero] <;> rfl) (by rfl) (by kernel_rfl) (by kernel_rfl) (by kernel_rfl) (fun _ _ _ h => h) (by rfl) ?_ ?_
  rotate_left
  · ((intro u); go_simp; try with_reducible rfl)
  try simp only [Act.put, List.setIfInBounds_toArray, List.set_cons_zero, List.set_cons_succ]
  refine wb_pure (i := 8) (d := some 11) (v := ?_) (by simp only [List.getElem?_toArray, List.getElem?_cons_succ, List.getElem?_cons_zero] <;> rfl) (by rfl) (by kernel_rfl) (by kernel_rfl) (by kernel_rfl) (fun _ _ _ h => h) (by rfl) ?_ ?_
  rotate_left
  · ((intro u); go_simp; try with_reducible rfl)
  try simp only [Act.put, List.setIfInBounds_toArray, List.set_cons_zero, List.set_cons_succ]
  refine wb_take (i := 9) (d := some 12) (v := ?_) (by simp only [List.getElem?_toArray, List.getElem?_cons_succ, List.getElem?_cons_zero] <;> rfl) (by rfl) (by kernel_rfl) (by kernel_rfl) (by kernel_rfl) (fun _ _ _ h => h) (by rfl) (by kernel_rfl) ?_ ?_
  rotate_left
  · ((intro u hu); have k8 := (hP.kb hu (by simp)).cell (i := 8) (v := .int .i64 fp) rfl; have k9 := (hP.kb hu (by simp)).cell (i := 9) (v := .int .i64 tp) rfl; go_simp; try with_reducible rfl)
  try simp only [Act.put, List.setIfInBounds_toArray, List.set_cons_zero, List.set_cons_succ]
  refine wb_pure (i := 10) (d := some 13) (v := ?_) (by simp only [List.getElem?_toArray, List.getElem?_cons_succ, List.getElem?_cons_zero] <;> rfl) (by rfl) (by kernel_rfl) (by kernel_rfl) (by kernel_rfl) (fun _ _ _ h => h) (by rfl) ?_ ?_
  rotate_left
  · ((intro u); go_simp; try with_reducible rfl)
  try simp only [Act.put, List.setIfInBounds_toArray, List.set_cons_zero, List.set_cons_succ]
  refine wb_one (i := 5) (by simp only [List.getElem?_toArray, List.getElem?_cons_succ, List.getElem?_cons_zero] <;> rfl) (by kernel_rfl) (by rfl) (fun K hK => ?_)
  go_simp
  refine (number_own w.heap.size 2 _ [] fp _ (Own.nil _ _) hw.size (by simp [be_len]) (by omega) hr.out.1 (by have := hr.out.2.1; omega)).mono ?_
  rintro e u5 ⟨v5, rfl, o5, hv5, hf5⟩
  refine hK.out _ _ (Kb.below hv5 (by intro p hp; rw [List.mem_singleton.1 hp]; exact hpb)) ?_
  replace hP := hP.upB hpb hv5
  replace hw := hw.trans hv5
  clear hK K hv5 hf5
  try simp only [Act.put, List.setIfInBounds_toArray, List.set_cons_zero, List.set_cons_succ]
  refine wb_one (i := 11) (by simp only [List.getElem?_toArray, List.getElem?_cons_succ, List.getElem?_cons_zero] <;> rfl) (by kernel_rfl) (by rfl) (fun K hK => ?_)
  go_simp
  refine (number_own w.heap.size 2 _ _ tp _ o5 hw.size (by simp [be_len]) (by omega) hr.out.2.2.1 (by have := hr.out.2.2.2; omega)).mono ?_
  rintro e u11 ⟨v11, rfl, o11, hv11, hf11⟩
  refine hK.out _ _ (Kb.below hv11 (by intro p hp; rw [List.mem_singleton.1 hp]; exact hpb)) ?_
  replace hP := hP.upB hpb hv11
  replace hw := hw.trans hv11
  clear hK K hv11 hf11
  try simp only [Act.put, List.setIfInBounds_toArray, List.set_cons_zero, List.set_cons_succ]
  refine wb_pure (i := 12) (d := some 2) (v := ?_) (by simp only [List.getElem?_toArray, List.getElem?_cons_succ, List.getElem?_cons_zero] <;> rfl) (by rfl) (by kernel_rfl) (by kernel_rfl) (by kernel_rfl) (fun _ _ _ h => h) (by rfl) ?_ ?_
  rotate_left
  · ((intro u); go_simp; try with_reducible rfl)
  try simp only [Act.put, List.setIfInBounds_toArray, List.set_cons_zero, List.set_cons_succ]
  refine wb_done (by kernel_rfl) ?_ _
  go_wp2_with fail
  go_ret
  exact ⟨_, rfl, o11, hw⟩
end Go.Proofs.Ytigbbpgfblnboaa
