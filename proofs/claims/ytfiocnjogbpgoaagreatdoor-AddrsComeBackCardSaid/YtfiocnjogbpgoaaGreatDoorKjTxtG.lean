/- Whether a slice of numerals has one that is not zero: slices.ContainsFunc with the reference's closure. -/
import Derived.Test.YtfiocnjogbpgoaaGreatDoorKjTxtA
namespace Go.Proofs.YtfiocnjogbpgoaaGreatDoor
open Go.RowKit

theorem tw_next : ∀ (l : List Bool) (k : Nat), k ≤ (l.takeWhile id).length → (l[k]? = some true → k + 1 ≤ (l.takeWhile id).length) ∧ (l[k]? ≠ some true → (l.takeWhile id).length = k)
  | [], k, h => by simp at h; subst h; simp
  | true :: r, 0, _ => by simp
  | false :: r, 0, _ => by simp
  | false :: r, k + 1, h => by simp at h
  | true :: r, k + 1, h => by
    have := tw_next r k (by simpa using h)
    simpa using this
theorem run_next (z : List Bool) (i k : Nat) (h : k ≤ runZ z i) : (z[i + k]? = some true → k + 1 ≤ runZ z i) ∧ (z[i + k]? ≠ some true → runZ z i = k) := by
  have := tw_next (z.drop i) k h
  simpa [runZ, List.getElem?_drop] using this
theorem run_le (z : List Bool) (i : Nat) (h : i ≤ z.length) : i + runZ z i ≤ z.length := by
  unfold runZ
  have := (List.takeWhile_prefix id (l := z.drop i)).length_le
  simp at this
  omega
theorem flag_at {gs : List Nat} {j g : Nat} (h : gs[j]? = some g) : (flagsZ gs)[j]? = some (g == 0) := by simp [flagsZ, h]

theorem lz_up {z : List Bool} {i k : Nat} (h : runZ z i = k) (hlt : (lzTo z i).2 < k) : i = (lzTo z (i + 1)).1 ∧ k = (lzTo z (i + 1)).2 := by
  rw [lzTo_succ, lzStep, h, if_pos hlt]; exact ⟨rfl, rfl⟩
theorem lz_stay {z : List Bool} {i k : Nat} (h : runZ z i = k) (hlt : ¬ (lzTo z i).2 < k) : lzTo z i = lzTo z (i + 1) := by
  rw [lzTo_succ, lzStep, h, if_neg hlt]

set_option maxHeartbeats 1000000 in
set_option maxRecDepth 100000 in
theorem longest_any (A : Option Addr) (cap : Nat) (gs : List Nat) (w : World) (h8 : gs.length = 8) (hS : SlN .u64 w A 8 cap gs) :
    Calls Tryz.prog 72 #[.slice A 8 cap] w fun e w' => e = .returned (.tuple #[.int .i64 ((lzTo (flagsZ gs) 8).1 : Int), .int .i64 ((lzTo (flagsZ gs) 8).2 : Int)]) ∧ w = w' := by
  obtain ⟨h9, _, h0 | ⟨b, off, rfl, hb, hc⟩⟩ := hS
  · omega
  clear h9
  have hz8 := flagsZ_length gs
  rw [h8] at hz8
  replace h8 := Lib.hid h8
  obtain ⟨z, hz⟩ : ∃ z, z = flagsZ gs := ⟨_, rfl⟩
  rw [← hz] at hz8
  rw [← hz]
  replace hz := Lib.hid hz
  have H8 := Lib.hid hz8
  clear hz8
  go_enter Tryz.func72, Tryz.ntmps72
  go_wp2_with fail
  go_loop [2, 3, 8] (fun a n i => ∃ k : Nat, k ≤ 8 ∧ i = .int .i64 k ∧ a = .int .i64 ((lzTo z k).1 : Int) ∧ n = .int .i64 ((lzTo z k).2 : Int)) (fun _ _ i => 8 - (intOf i).toNat)
  case atStart => exact ⟨0, by omega, rfl, rfl, rfl⟩
  case round =>
    obtain ⟨i, hi, rfl, rfl, rfl⟩ := hrel
    by_cases hlt : i < 8
    · go_wp2_with fail
      go_loop [5] (fun c => ∃ k : Nat, k ≤ runZ z i ∧ c = .int .i64 k) (fun c => 8 - (intOf c).toNat)
      case atStart => exact ⟨0, Nat.zero_le _, rfl⟩
      case round =>
        obtain ⟨k, hk, rfl⟩ := hrel
        have hr8 := run_le z i (by rw [H8.out]; omega)
        rw [H8.out] at hr8
        have HN := Lib.hid (run_next z i k hk)
        by_cases hin : i + k < 8
        · obtain ⟨g, hg⟩ : ∃ g, gs[i + k]? = some g := ⟨gs[i + k]'(by rw [h8.out]; omega), List.getElem?_eq_getElem _⟩
          have hcell := hc (i + k) (.int .u64 (g : Int)) (by rw [List.getElem?_map, hg]; rfl)
          have hfl : z[i + k]? = some (g == 0) := by rw [hz.out]; exact flag_at hg
          have hsum : (i : Int) + (k : Int) < 8 := by omega
          by_cases hg0 : g = 0
          · subst hg0
            have hnext := HN.out.1 (by simpa using hfl)
            clear hfl hg
            go_wp2_with fail
            go_round
            case rel => exact ⟨k + 1, hnext, by go_num⟩
            case measure => simp [intOf]; omega
          · have hb0 : ((g : Int) == 0) = false := by simp; omega
            have hnext := Lib.hid (HN.out.2 (by rw [hfl]; simpa using hg0))
            clear hfl hg hg0
            go_wp2_with fail
            · have hup : (lzTo z i).2 < k := by assumption
              go_round
              case rel => exact ⟨i + 1, by omega, by go_num, by rw [← (lz_up hnext.out hup).1], by rw [← (lz_up hnext.out hup).2]⟩
              case measure => simp [intOf]; omega
            · have hup : ¬ (lzTo z i).2 < k := by assumption
              go_round
              case rel => exact ⟨i + 1, by omega, by go_num, by rw [← lz_stay hnext.out hup], by rw [← lz_stay hnext.out hup]⟩
              case measure => simp [intOf]; omega
        · have hnext := Lib.hid (HN.out.2 (by rw [List.getElem?_eq_none (by rw [H8.out]; omega)]; simp))
          have hsum : ¬ (i : Int) + (k : Int) < 8 := by omega
          go_wp2_with fail
          · have hup : (lzTo z i).2 < k := by assumption
            go_round
            case rel => exact ⟨i + 1, by omega, by go_num, by rw [← (lz_up hnext.out hup).1], by rw [← (lz_up hnext.out hup).2]⟩
            case measure => simp [intOf]; omega
          · have hup : ¬ (lzTo z i).2 < k := by assumption
            go_round
            case rel => exact ⟨i + 1, by omega, by go_num, by rw [← lz_stay hnext.out hup], by rw [← lz_stay hnext.out hup]⟩
            case measure => simp [intOf]; omega
    · obtain rfl : i = 8 := by omega
      go_wp2_with fail
      go_ret2
      exact ⟨rfl, rfl⟩
end Go.Proofs.YtfiocnjogbpgoaaGreatDoor
namespace Go.Proofs.YtfiocnjogbpgoaaGreatDoor
open Go.RowKit

theorem own_below {w w' : World} {base : Nat} {e : TypeId} {size n : Nat} {v : Value} {xs : List Value} (h : w.ownsRow base e size v n xs) (hb : Below w.heap.size w w') : w'.ownsRow base e size v n xs := by
  refine ⟨h.1, ?_⟩
  rcases h.2 with h2 | ⟨g, cap, cur, hv, hg, hh, h3⟩
  · exact .inl h2
  · exact .inr ⟨g, cap, cur, hv, hg, (hb.block g (Array.getElem?_eq_some_iff.1 hh).1).trans hh, h3⟩

/-- A string of bytes. -/
abbrev sv (l : List UInt8) : Value := .string ⟨l.toArray⟩

theorem joinTail_len (sep : List UInt8) (m : Nat) : ∀ r : List (List UInt8), (∀ l ∈ r, l.length ≤ m) → (Lib.joinTail sep r).length ≤ r.length * (m + sep.length)
  | [], _ => by simp [Lib.joinTail]
  | x :: r, h => by
    have h1 := joinTail_len sep m r (fun l hl => h l (List.mem_cons_of_mem _ hl))
    have h2 := h x (List.mem_cons_self ..)
    have e : Lib.joinTail sep (x :: r) = (sep ++ x) ++ Lib.joinTail sep r := by simp [Lib.joinTail]
    rw [e, List.length_append, List.length_append, List.length_cons, Nat.succ_mul]
    omega
theorem join_len (sep : List UInt8) (m : Nat) (ls : List (List UInt8)) (h : ∀ l ∈ ls, l.length ≤ m) : (Lib.join ls sep).length ≤ ls.length * (m + sep.length) := by
  cases ls with
  | nil => simp [Lib.join_nil]
  | cons x r =>
    have h1 := joinTail_len sep m r (fun l hl => h l (List.mem_cons_of_mem _ hl))
    have h2 := h x (List.mem_cons_self ..)
    rw [Lib.join_cons, List.length_append, List.length_cons, Nat.succ_mul]
    omega

/-- strings.Join of a slice that reads as a list of strings. -/
theorem join_any (A : Option Addr) (n cap : Nat) (ls : List (List UInt8)) (sep : List UInt8) (w : World) (hS : Sl w A n cap (ls.map sv)) (hn : n ≤ 1000) (hlen : (Lib.join ls sep).length ≤ 100000) :
    Calls Tryz.prog 75 #[.slice A n cap, sv sep] w (GivesV (sv (Lib.join ls sep)) w) := by
  obtain ⟨h1, h2, h3⟩ := hS
  have hl : n = ls.length := by simpa using h1
  rcases h3 with h3 | ⟨g, off, rfl, hg, hc⟩
  · subst h3
    have : ls = [] := List.eq_nil_of_length_eq_zero hl.symm
    subst this
    refine (Tryz.strings_Join_none A cap ⟨sep.toArray⟩ w).mono ?_
    rintro e w' ⟨rfl, rfl⟩
    exact ⟨rfl, Below.refl _ _⟩
  · have e : (ls.map fun l : List UInt8 => (⟨l.toArray⟩ : ByteArray)).map (·.data.toList) = ls := by simp [Function.comp_def]
    have HJ := Tryz.strings_Join g off cap (ls.map fun l => ⟨l.toArray⟩) ⟨sep.toArray⟩ w (fun j x hx => by
      rw [List.getElem?_map] at hx
      obtain ⟨l, hl', rfl⟩ := Option.map_eq_some_iff.1 hx
      exact hc j _ (by rw [List.getElem?_map, hl']; rfl)) hg (by simp; omega) (by simp; omega) (by rw [e]; exact Nat.le_trans hlen (by decide))
    rw [e, List.length_map, ← hl] at HJ
    exact HJ

theorem info_str' : (Tryz.prog.info? 9).map (fun i => (i.zero, i.size, i.bytes)) = some (some (.string ⟨#[]⟩), 1, 16) := by kernel_rfl

theorem take_next {α : Type} {l : List α} {k : Nat} {g : α} (h : l[k]? = some g) : l.take (k + 1) = l.take k ++ [g] := by
  rw [List.take_add_one, h]; rfl

set_option maxHeartbeats 2000000 in
set_option maxRecDepth 100000 in
theorem joinGroups_any (A : Option Addr) (n cap : Nat) (gs : List Nat) (w : World) (htab : Tabs w) (hn : n ≤ 8) (hg : ∀ g ∈ gs, g < 65536) (hS : SlN .u64 w A n cap gs) :
    Calls Tryz.prog 73 #[.slice A n cap] w (GivesV (sv (Lib.join (gs.map hexL) [58])) w) := by
  have hlen : n = gs.length := by simpa using hS.1
  have hJ := join_len [58] 4 (gs.map hexL) (fun l hl => by
    obtain ⟨g, _, rfl⟩ := List.mem_map.1 hl
    exact hexL_length g)
  rw [List.length_map] at hJ
  have hJ' : (Lib.join (gs.map hexL) [58]).length ≤ 100000 := by simp at hJ; omega
  clear hJ
  replace hlen := Lib.hid hlen
  obtain ⟨i0, hi0, hz0, hz1, hz2⟩ := info_parts info_str'
  go_enter Tryz.func73, Tryz.ntmps73
  go_wp2_with fail
  go_loopw [3, 8] (fun v i wr => ∃ k : Nat, k ≤ n ∧ i = .int .i64 k ∧ wr.ownsRow w.heap.size 9 1 v k ((gs.take k).map fun g => sv (hexL g)) ∧ Below w.heap.size w wr) (fun _ i _ => n - (intOf i).toNat)
  case atStart => exact ⟨0, Nat.zero_le _, rfl, World.ownsRow_nil _ _ _ _, Below.refl _ _⟩
  case round =>
    obtain ⟨k, hk, rfl, hown, hbw⟩ := hrel
    by_cases hlt : k < n
    · obtain ⟨g, hgk⟩ : ∃ g, gs[k]? = some g := ⟨gs[k]'(by rw [← hlen.out]; omega), List.getElem?_eq_getElem _⟩
      have hg16 := hg g (List.mem_of_getElem? hgk)
      obtain ⟨b, off, rfl, hb, hc⟩ : ∃ b off, A = some ⟨b, off, none⟩ ∧ b < w.heap.size ∧ ∀ j u, (gs.map fun (g : Nat) => Value.int .u64 (g : Int))[j]? = some u → w.cell? ⟨b, off + j, none⟩ = some u := by
        rcases hS.2.2 with h | h
        · omega
        · exact h
      have hcell : wr.cell? ⟨b, off + k, none⟩ = some (.int .u64 (g : Int)) := by
        rw [hbw.cell (by exact hb)]; exact hc k _ (by rw [List.getElem?_map, hgk]; rfl)
      have HF := Lib.hid (fmtU16 g hg16 wr (htab.below hbw))
      have HT := Lib.hid (take_next hgk)
      have hsz := hbw.size
      have hlt' : (k : Int) < (n : Int) := by omega
      clear hc hgk hg htab
      go_wp2_with fail
      refine HF.out.mono ?_
      rintro e w1 ⟨rfl, hb1⟩
      have hown1 := own_below hown hb1
      have hs1 := hb1.size
      have hbw1 := hbw.trans (hb1.mono hsz)
      clear hb1 hcell
      go_wp2_with (at_builtin; refine wpList_append_own _ rfl _ _ 96 rfl w.heap.size 9 i0 (.string ⟨#[]⟩) 1 16 Tryz.underlying96 hi0 hz0 hz1 hz2 rfl (by decide) _ _ _ rfl (hown1.alloc _) ⟨w1.heap.size, 0, none⟩ 1 1 [sv (hexL g)] rfl rfl ?c1 ?c2 ?c3 ?c4 ?c5 ?_)
      case c1 => exact cell_one_new _ _ _
      case c2 => simp; rfl
      case c3 => unfold maxLen; omega
      case c4 => omega
      case c5 => simp; omega
      intro v2 w2 hown2 hg2 _
      have hbw2 : Below w.heap.size w w2 := (hbw1.alloc hbw1.size _).grown hg2 (by simp; omega) (fun k h => (hown1.lt k h).1)
      clear hg2 hown hown1 hbw hbw1 HF
      go_wp2_with fail
      go_roundw
      case rel => exact ⟨k + 1, by omega, by go_num, by rw [← List.map_take] at hown2; rw [HT.out, List.map_append]; exact hown2, hbw2⟩
      case measure => simp [intOf]; omega
    · obtain rfl : k = n := by omega
      obtain ⟨A', cap', rfl, hS'⟩ := Sl.of_own hown
      rw [List.take_of_length_le (by rw [← hlen.out]; omega)] at hS'
      have HJ := Lib.hid (join_any A' k cap' (gs.map hexL) [58] wr (by rw [List.map_map]; exact hS') (by omega) hJ')
      clear hown hS' hS htab
      go_wp2_with fail
      refine HJ.out.mono ?_
      rintro e w1 ⟨rfl, hb1⟩
      go_wp2_with fail
      go_ret
      exact ⟨rfl, hbw.trans (hb1.mono hbw.size)⟩
end Go.Proofs.YtfiocnjogbpgoaaGreatDoor
namespace Go.Proofs.YtfiocnjogbpgoaaGreatDoor
open Go.RowKit

structure Cons (w : World) : Prop where
  tabs : Tabs w
  maxl : ∃ m, w.cell? ⟨0, 0, none⟩ = some (.int .i64 m)
  esyn : ∃ tp p, w.var? Tryz.prog "strconv.ErrSyntax" = some #[.iface tp p]
  eran : ∃ tp p, w.var? Tryz.prog "strconv.ErrRange" = some #[.iface tp p]

theorem Cons.upto {w w' : World} (h : Cons w) (hb : ∀ j, j < 9 → w'.heap[j]? = w.heap[j]?) (hs : w.heap.size ≤ w'.heap.size) : Cons w' := by
  have g1 : Tryz.prog.globalNamed "strconv.ErrSyntax" = some 7 := by kernel_rfl
  have g2 : Tryz.prog.globalNamed "strconv.ErrRange" = some 8 := by kernel_rfl
  obtain ⟨m, hm⟩ := h.maxl
  obtain ⟨t1, p1, h1⟩ := h.esyn
  obtain ⟨t2, p2, h2⟩ := h.eran
  exact ⟨h.tabs.upto hb hs, ⟨m, by rw [World.cell?_of_block (w := w) (hb _ (by simp))]; exact hm⟩, ⟨t1, p1, by rw [var_block g1 (hb _ (by omega))]; exact h1⟩, ⟨t2, p2, by rw [var_block g2 (hb _ (by omega))]; exact h2⟩⟩
theorem Cons.below {w w' : World} (h : Cons w) (k : Below w.heap.size w w') : Cons w' :=
  have := h.tabs.2.2
  h.upto (fun j hj => k.block j (by omega)) k.size
theorem Cons.grown {w w' : World} {b : Nat} (h : Cons w) (k : w.grownBy w' (some b)) (hb : 9 ≤ b) : Cons w' :=
  have := h.tabs.2.2
  h.upto (fun j hj => k.block j (by omega) (by intro e; cases e; omega)) k.size
theorem Cons.alloc {w : World} (h : Cons w) (o : Obj) : Cons (w.alloc o) := h.below (.alloc (.refl _ _) (Nat.le_refl _) _)
theorem Cons.setCell {w : World} (h : Cons w) {p : Addr} (hp : 9 ≤ p.block) (v : Value) : Cons (w.setCell p v) :=
  h.upto (fun j hj => Below.heap_setCell _ _ _ _ (by omega)) (by simp [World.setCell])
end Go.Proofs.YtfiocnjogbpgoaaGreatDoor
namespace Go.Proofs.YtfiocnjogbpgoaaGreatDoor
open Go.RowKit

theorem ba_eq (l : List UInt8) : ((⟨l.toArray⟩ : ByteArray) = ⟨#[48]⟩) ↔ l = [48] := by
  constructor
  · intro h
    have := congrArg (fun b : ByteArray => b.data.toList) h
    simpa using this
  · rintro rfl; rfl

theorem ret_b {a b : Bool} (h : a = b) : Ending.returned (.bool a) = Ending.returned (.bool b) := by rw [h]

set_option maxHeartbeats 400000 in
theorem clo_any (l : List UInt8) (w : World) : Calls Tryz.prog 87 #[sv l] w fun e w' => e = .returned (.bool (decide (l ≠ [48]))) ∧ w = w' := by
  by_cases h : l = [48]
  · subst h
    go_enter Tryz.func87, Tryz.ntmps87
    go_wp2_with fail
    go_ret
    exact ⟨rfl, rfl⟩
  · have h' : ¬ ((⟨l.toArray⟩ : ByteArray) = ⟨#[48]⟩) := fun e => h ((ba_eq l).1 e)
    have HR : Hid ((!l == [48]) = decide (l ≠ [48])) := Lib.hid (by simp [h])
    clear h
    go_enter Tryz.func87, Tryz.ntmps87
    go_wp2_with fail
    go_ret
    exact ⟨ret_b HR.out, rfl⟩

/-- Is a numeral not that of zero? -/
def nz (l : List UInt8) : Bool := decide (l ≠ [48])
/-- An index is returned that is not below 0 just if b holds. -/
def IdxPost (b : Bool) (w : World) (e : Ending) (w' : World) : Prop := ∃ r : Int, decide (0 ≤ r) = b ∧ e = .returned (.int .i64 r) ∧ w = w'

theorem any_hit {ls : List (List UInt8)} {k : Nat} {l : List UInt8} (h : ls[k]? = some l) (hn : nz l = true) : ls.any nz = true := List.any_eq_true.2 ⟨l, List.mem_of_getElem? h, hn⟩
theorem any_miss {ls : List (List UInt8)} {k : Nat} {l : List UInt8} (h : ls[k]? = some l) (hn : nz l = false) (ha : (ls.take k).any nz = false) : (ls.take (k + 1)).any nz = false := by
  rw [take_next h, List.any_append, ha]; simp [hn]

set_option maxHeartbeats 1000000 in
set_option maxRecDepth 100000 in
theorem indexF_any (A : Option Addr) (n cap : Nat) (ls : List (List UInt8)) (w : World) (hn : n ≤ 1000) (hS : Sl w A n cap (ls.map sv)) :
    Calls Tryz.prog 127 #[.slice A n cap, .func (.func 87) #[] #[]] w (IdxPost (ls.any nz) w) := by
  have hlen : Hid (n = ls.length) := Lib.hid (by simpa using hS.1)
  have hS2 := Lib.hid hS.2.2
  clear hS
  go_enter Tryz.func127, Tryz.ntmps127
  go_wp2_with fail
  go_loop [8, 5] (fun i _ => ∃ k : Nat, k ≤ n ∧ i = .int .i64 k ∧ Hid ((ls.take k).any nz = false)) (fun i _ => n - (intOf i).toNat)
  case atStart => exact ⟨0, Nat.zero_le _, rfl, Lib.hid (by simp)⟩
  case round =>
    obtain ⟨k, hk, rfl, hno⟩ := hrel
    by_cases hlt : k < n
    · obtain ⟨l, hl⟩ : ∃ l, ls[k]? = some l := ⟨ls[k]'(by rw [← hlen.out]; omega), List.getElem?_eq_getElem _⟩
      obtain ⟨b, off, rfl, hb, hc⟩ : ∃ b off, A = some ⟨b, off, none⟩ ∧ b < w.heap.size ∧ ∀ j u, (ls.map sv)[j]? = some u → w.cell? ⟨b, off + j, none⟩ = some u := by
        rcases hS2.out with h | h
        · omega
        · exact h
      have hcell : w.cell? ⟨b, off + k, none⟩ = some (sv l) := hc k _ (by rw [List.getElem?_map, hl]; rfl)
      have hlt' : (k : Int) < (n : Int) := by omega
      have HL := Lib.hid hl
      have HC := fun w' => Lib.hid (clo_any l w')
      clear hc hl
      cases hq : decide (l ≠ [48])
      · rw [hq] at HC
        have HN := Lib.hid (any_miss HL.out hq hno.out)
        clear hq
        go_wp2_with fail
        refine (HC _).out.mono ?_
        rintro e w1 ⟨rfl, rfl⟩
        go_wp2_with fail
        go_round
        case rel => exact ⟨k + 1, by omega, by go_num, HN⟩
        case measure => simp [intOf]; omega
      · rw [hq] at HC
        have HN := Lib.hid (any_hit HL.out hq)
        clear hq
        go_wp2_with fail
        refine (HC _).out.mono ?_
        rintro e w1 ⟨rfl, rfl⟩
        go_wp2_with fail
        go_ret
        exact ⟨_, by rw [HN.out]; simp, rfl, rfl⟩
    · obtain rfl : k = n := by omega
      go_wp2_with fail
      go_ret
      refine ⟨_, ?_, rfl, rfl⟩
      have := hno.out
      rw [List.take_of_length_le (by rw [← hlen.out]; omega)] at this
      rw [this]; rfl

set_option maxHeartbeats 1000000 in
theorem containsF_any (A : Option Addr) (n cap : Nat) (ls : List (List UInt8)) (w : World) (hn : n ≤ 1000) (hS : Sl w A n cap (ls.map sv)) :
    Calls Tryz.prog 86 #[.slice A n cap, .func (.func 87) #[] #[]] w fun e w' => e = .returned (.bool (ls.any nz)) ∧ w = w' := by
  have HI := Lib.hid (indexF_any A n cap ls w hn hS)
  clear hS
  go_enter Tryz.func86, Tryz.ntmps86
  go_wp2_with fail
  refine HI.out.mono ?_
  rintro e w1 ⟨r, hr, rfl, rfl⟩
  have HR := Lib.hid hr
  clear hr
  go_wp2_with fail
  go_ret
  exact ⟨ret_b HR.out, rfl⟩
end Go.Proofs.YtfiocnjogbpgoaaGreatDoor
