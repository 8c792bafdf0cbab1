/- Packets: their values; what is wrong with one, as the program has it. -/
import Derived.Test.YtigbbpgfblnboaaPkE
import Derived.Test.YtigbbpgfblnboaaPkFlt
import Derived.Deep.DeepCutAuto
namespace Go.Proofs.Ytigbbpgfblnboaa
open Go.RowKit
set_option linter.unusedVariables false
set_option linter.unusedSimpArgs false

/-- A packet but for its payload. -/
structure Pk where
  fs : Bool
  fh : Int
  fl : Int
  ts : Bool
  th : Int
  tl : Int
  hops : Int
  proto : Int
  fp : Int
  tp : Int
  syn : Bool
  fin : Bool
  rst : Bool
  has : Bool
  seq : Int
  ack : Int
  reply : Bool
  id : Int
abbrev pkL (q : Pk) (v : Value) : List Value := [.bool q.fs, .int .u64 q.fh, .int .u64 q.fl, .bool q.ts, .int .u64 q.th, .int .u64 q.tl, .int .i64 q.hops, .int .i64 q.proto, .int .i64 q.fp, .int .i64 q.tp, .bool q.syn, .bool q.fin, .bool q.rst, .bool q.has, .int .i64 q.seq, .int .i64 q.ack, .bool q.reply, .int .i64 q.id, v]
abbrev pkV (q : Pk) (v : Value) : Value := .agg #[.bool q.fs, .int .u64 q.fh, .int .u64 q.fl, .bool q.ts, .int .u64 q.th, .int .u64 q.tl, .int .i64 q.hops, .int .i64 q.proto, .int .i64 q.fp, .int .i64 q.tp, .bool q.syn, .bool q.fin, .bool q.rst, .bool q.has, .int .i64 q.seq, .int .i64 q.ack, .bool q.reply, .int .i64 q.id, v]
theorem Blk.pk {w : World} {p : Nat} {q : Pk} {v : Value} {t : TypeId} (h : Blk w p (pkL q v) t) :
    w.cell? ⟨p, 0, none⟩ = some (.bool q.fs) ∧ w.cell? ⟨p, 1, none⟩ = some (.int .u64 q.fh) ∧ w.cell? ⟨p, 2, none⟩ = some (.int .u64 q.fl) ∧ w.cell? ⟨p, 3, none⟩ = some (.bool q.ts) ∧ w.cell? ⟨p, 4, none⟩ = some (.int .u64 q.th) ∧ w.cell? ⟨p, 5, none⟩ = some (.int .u64 q.tl) ∧ w.cell? ⟨p, 6, none⟩ = some (.int .i64 q.hops) ∧ w.cell? ⟨p, 7, none⟩ = some (.int .i64 q.proto) ∧ w.cell? ⟨p, 8, none⟩ = some (.int .i64 q.fp) ∧ w.cell? ⟨p, 9, none⟩ = some (.int .i64 q.tp) ∧ w.cell? ⟨p, 10, none⟩ = some (.bool q.syn) ∧ w.cell? ⟨p, 11, none⟩ = some (.bool q.fin) ∧ w.cell? ⟨p, 12, none⟩ = some (.bool q.rst) ∧ w.cell? ⟨p, 13, none⟩ = some (.bool q.has) ∧ w.cell? ⟨p, 14, none⟩ = some (.int .i64 q.seq) ∧ w.cell? ⟨p, 15, none⟩ = some (.int .i64 q.ack) ∧ w.cell? ⟨p, 16, none⟩ = some (.bool q.reply) ∧ w.cell? ⟨p, 17, none⟩ = some (.int .i64 q.id) ∧ w.cell? ⟨p, 18, none⟩ = some v :=
  ⟨h.cell (i := 0) rfl, h.cell (i := 1) rfl, h.cell (i := 2) rfl, h.cell (i := 3) rfl, h.cell (i := 4) rfl, h.cell (i := 5) rfl, h.cell (i := 6) rfl, h.cell (i := 7) rfl, h.cell (i := 8) rfl, h.cell (i := 9) rfl, h.cell (i := 10) rfl, h.cell (i := 11) rfl, h.cell (i := 12) rfl, h.cell (i := 13) rfl, h.cell (i := 14) rfl, h.cell (i := 15) rfl, h.cell (i := 16) rfl, h.cell (i := 17) rfl, h.cell (i := 18) rfl⟩

/-- Are the numbers behind the protocol in their ranges? -/
def numB (q : Pk) : Bool := inB q.fp 0 65535 && (inB q.tp 0 65535 && (inB q.seq 0 (if q.proto = 1 then 65535 else 4294967295) && (inB q.ack 0 4294967295 && inB q.id 0 65535)))
def hpB (q : Pk) : Bool := decide (q.fp ≠ 0) || decide (q.tp ≠ 0)
def htB (q : Pk) : Bool := q.syn || (q.fin || (q.rst || (q.has || decide (q.ack ≠ 0))))
def hiB (q : Pk) : Bool := q.reply || decide (q.id ≠ 0)
/-- Are the fields that the protocol does not use zero, and Ack without Has? -/
def fldB (q : Pk) : Bool := !((hpB q && decide (q.proto = 1)) || ((htB q && !decide (q.proto = 6)) || (hiB q && !decide (q.proto = 1)))) && (!(decide (q.seq ≠ 0) && decide (q.proto = 17)) && (decide (q.ack = 0) || q.has))
/-- What is wrong with a packet whose payload has n bytes. -/
def pkF (q : Pk) (n : Nat) : Int :=
  if adF q.fs q.fh q.fl ≠ 0 then adF q.fs q.fh q.fl else if adF q.ts q.th q.tl ≠ 0 then adF q.ts q.th q.tl
  else if q.fs ≠ q.ts then 10 else if inB q.hops 0 255 = false then 1 else if ¬ (q.proto = 1 ∨ q.proto = 6 ∨ q.proto = 17) then 4
  else if numB q = false then 1 else if fldB q = false then 3 else if 1400 < n then 2 else 0

theorem fits_any (n m : Int) (w : World) :
    Calls Try.prog 74 #[.int .i64 n, .int .i64 m] w fun e w' => e = .returned (.bool (inB n 0 m)) ∧ w = w' := by
  by_cases h1 : 0 ≤ n
  · by_cases h2 : n ≤ m
    · go_enter Try.func74, Try.ntmps74
      go_wp2_with fail
      go_ret
      exact ⟨by unfold inB; rw [decide_eq_true (by omega)]; rfl, rfl⟩
    · go_enter Try.func74, Try.ntmps74
      go_wp2_with fail
      go_ret
      exact ⟨by unfold inB; rw [decide_eq_false (by omega)]; rfl, rfl⟩
  · go_enter Try.func74, Try.ntmps74
    go_wp2_with fail
    go_ret
    exact ⟨by unfold inB; rw [decide_eq_false (by omega)]; rfl, rfl⟩

set_option maxHeartbeats 2000000 in
set_option maxRecDepth 100000 in
theorem numbersFit_any (q : Pk) (v : Value) (w : World) :
    Calls Try.prog 47 #[pkV q v] w (GivesV (.bool (numB q)) w) := by
  have hP := Blk.new w (pkL q v) 45
  have hw : Hid (Below w.heap.size w (w.alloc (.cells #[.bool q.fs, .int .u64 q.fh, .int .u64 q.fl, .bool q.ts, .int .u64 q.th, .int .u64 q.tl, .int .i64 q.hops, .int .i64 q.proto, .int .i64 q.fp, .int .i64 q.tp, .bool q.syn, .bool q.fin, .bool q.rst, .bool q.has, .int .i64 q.seq, .int .i64 q.ack, .bool q.reply, .int .i64 q.id, v] 45))) := Lib.hid ((Below.refl _ _).alloc (Nat.le_refl _) _)
  obtain ⟨c0, c1, c2, c3, c4, c5, c6, c7, c8, c9, c10, c11, c12, c13, c14, c15, c16, c17, c18⟩ := hP.pk
  have h1 := fun w' => fits_any q.fp 65535 w'
  have h2 := fun w' => fits_any q.tp 65535 w'
  have h3 := fun w' => fits_any q.seq (if q.proto = 1 then 65535 else 4294967295) w'
  have h4 := fun w' => fits_any q.ack 4294967295 w'
  have h5 := fun w' => fits_any q.id 65535 w'
  have HN : numB q = (inB q.fp 0 65535 && (inB q.tp 0 65535 && (inB q.seq 0 (if q.proto = 1 then 65535 else 4294967295) && (inB q.ack 0 4294967295 && inB q.id 0 65535)))) := rfl
  generalize inB q.fp 0 65535 = b1 at h1 HN
  generalize inB q.tp 0 65535 = b2 at h2 HN
  generalize inB q.seq 0 (if q.proto = 1 then 65535 else 4294967295) = b3 at h3 HN
  generalize inB q.ack 0 4294967295 = b4 at h4 HN
  generalize inB q.id 0 65535 = b5 at h5 HN
  generalize numB q = N at HN
  replace HN := Lib.hid HN
  replace h1 := Lib.hid h1
  replace h2 := Lib.hid h2
  replace h3 := Lib.hid h3
  replace h4 := Lib.hid h4
  replace h5 := Lib.hid h5
  clear hP
  obtain ⟨fs, fh, fl, ts, th, tl, hops, proto, fp, tp, syn, fin, rst, has, seq, ack, reply, id⟩ := q
  dsimp only at *
  by_cases hp : proto = 1
  · rw [if_pos hp] at h3
    subst hp
    go_enter Try.func47, Try.ntmps47
    go_wp2_with fail
    refine (h1.out _).mono ?_
    rintro e w1 ⟨rfl, rfl⟩
    cases b1
    · go_wp2_with fail
      go_ret
      exact ⟨by rw [HN.out]; rfl, hw.out⟩
    · skip
      go_wp2_with fail
      refine (h2.out _).mono ?_
      rintro e w1 ⟨rfl, rfl⟩
      cases b2
      · go_wp2_with fail
        go_ret
        exact ⟨by rw [HN.out]; rfl, hw.out⟩
      · skip
        go_wp2_with fail
        refine (h3.out _).mono ?_
        rintro e w1 ⟨rfl, rfl⟩
        cases b3
        · go_wp2_with fail
          go_ret
          exact ⟨by rw [HN.out]; rfl, hw.out⟩
        · skip
          go_wp2_with fail
          refine (h4.out _).mono ?_
          rintro e w1 ⟨rfl, rfl⟩
          cases b4
          · go_wp2_with fail
            go_ret
            exact ⟨by rw [HN.out]; rfl, hw.out⟩
          · skip
            go_wp2_with fail
            refine (h5.out _).mono ?_
            rintro e w1 ⟨rfl, rfl⟩
            cases b5
            · go_wp2_with fail
              go_ret
              exact ⟨by rw [HN.out]; rfl, hw.out⟩
            · go_wp2_with fail
              go_ret
              exact ⟨by rw [HN.out]; rfl, hw.out⟩
  · rw [if_neg hp] at h3
    go_enter Try.func47, Try.ntmps47
    go_wp2_with fail
    refine (h1.out _).mono ?_
    rintro e w1 ⟨rfl, rfl⟩
    cases b1
    · go_wp2_with fail
      go_ret
      exact ⟨by rw [HN.out]; rfl, hw.out⟩
    · skip
      go_wp2_with fail
      refine (h2.out _).mono ?_
      rintro e w1 ⟨rfl, rfl⟩
      cases b2
      · go_wp2_with fail
        go_ret
        exact ⟨by rw [HN.out]; rfl, hw.out⟩
      · skip
        go_wp2_with fail
        refine (h3.out _).mono ?_
        rintro e w1 ⟨rfl, rfl⟩
        cases b3
        · go_wp2_with fail
          go_ret
          exact ⟨by rw [HN.out]; rfl, hw.out⟩
        · skip
          go_wp2_with fail
          refine (h4.out _).mono ?_
          rintro e w1 ⟨rfl, rfl⟩
          cases b4
          · go_wp2_with fail
            go_ret
            exact ⟨by rw [HN.out]; rfl, hw.out⟩
          · skip
            go_wp2_with fail
            refine (h5.out _).mono ?_
            rintro e w1 ⟨rfl, rfl⟩
            cases b5
            · go_wp2_with fail
              go_ret
              exact ⟨by rw [HN.out]; rfl, hw.out⟩
            · go_wp2_with fail
              go_ret
              exact ⟨by rw [HN.out]; rfl, hw.out⟩

end Go.Proofs.Ytigbbpgfblnboaa
