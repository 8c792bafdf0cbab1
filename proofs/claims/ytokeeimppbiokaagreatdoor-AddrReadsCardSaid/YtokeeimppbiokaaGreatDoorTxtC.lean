/- The texts of groups and of bytes that the program writes. -/
import Derived.Test.YtokeeimppbiokaaGreatDoorTxtB
namespace Go.Proofs.YtokeeimppbiokaaGreatDoor
open Go.RowKit

theorem own_below {w w' : World} {base : Nat} {e : TypeId} {size n : Nat} {v : Value} {xs : List Value} (h : w.ownsRow base e size v n xs) (hb : Below w.heap.size w w') : w'.ownsRow base e size v n xs := by
  refine ⟨h.1, ?_⟩
  rcases h.2 with h2 | ⟨g, cap, cur, hv, hg, hh, h3⟩
  · exact .inl h2
  · exact .inr ⟨g, cap, cur, hv, hg, (hb.block g (Array.getElem?_eq_some_iff.1 hh).1).trans hh, h3⟩

/-- A string of bytes. -/
abbrev sv (l : List UInt8) : Value := .string ⟨l.toArray⟩

theorem joinTail_len (sep : List UInt8) (m : Nat) : ∀ r : List (List UInt8), (∀ l ∈ r, l.length ≤ m) → (Lib.joinTail sep r).length ≤ r.length * (m + sep.length)
  | [], _ => by simp [Lib.joinTail]
  | x :: r, h => by
    have h1 := joinTail_len sep m r (fun l hl => h l (List.mem_cons_of_mem _ hl))
    have h2 := h x (List.mem_cons_self ..)
    have e : Lib.joinTail sep (x :: r) = (sep ++ x) ++ Lib.joinTail sep r := by simp [Lib.joinTail]
    rw [e, List.length_append, List.length_append, List.length_cons, Nat.succ_mul]
    omega
theorem join_len (sep : List UInt8) (m : Nat) (ls : List (List UInt8)) (h : ∀ l ∈ ls, l.length ≤ m) : (Lib.join ls sep).length ≤ ls.length * (m + sep.length) := by
  cases ls with
  | nil => simp [Lib.join_nil]
  | cons x r =>
    have h1 := joinTail_len sep m r (fun l hl => h l (List.mem_cons_of_mem _ hl))
    have h2 := h x (List.mem_cons_self ..)
    rw [Lib.join_cons, List.length_append, List.length_cons, Nat.succ_mul]
    omega

/-- strings.Join of a slice that reads as a list of strings. -/
theorem join_any (A : Option Addr) (n cap : Nat) (ls : List (List UInt8)) (sep : List UInt8) (w : World) (hS : Sl w A n cap (ls.map sv)) (hn : n ≤ 1000) (hlen : (Lib.join ls sep).length ≤ 100000) :
    Calls Tryz.prog 44 #[.slice A n cap, sv sep] w (GivesV (sv (Lib.join ls sep)) w) := by
  obtain ⟨h1, h2, h3⟩ := hS
  have hl : n = ls.length := by simpa using h1
  rcases h3 with h3 | ⟨g, off, rfl, hg, hc⟩
  · subst h3
    have : ls = [] := List.eq_nil_of_length_eq_zero hl.symm
    subst this
    refine (Tryz.strings_Join_none A cap ⟨sep.toArray⟩ w).mono ?_
    rintro e w' ⟨rfl, rfl⟩
    exact ⟨rfl, Below.refl _ _⟩
  · have e : (ls.map fun l : List UInt8 => (⟨l.toArray⟩ : ByteArray)).map (·.data.toList) = ls := by simp [Function.comp_def]
    have HJ := Tryz.strings_Join g off cap (ls.map fun l => ⟨l.toArray⟩) ⟨sep.toArray⟩ w (fun j x hx => by
      rw [List.getElem?_map] at hx
      obtain ⟨l, hl', rfl⟩ := Option.map_eq_some_iff.1 hx
      exact hc j _ (by rw [List.getElem?_map, hl']; rfl)) hg (by simp; omega) (by simp; omega) (by rw [e]; exact Nat.le_trans hlen (by decide))
    rw [e, List.length_map, ← hl] at HJ
    exact HJ

theorem info_str' : (Tryz.prog.info? 9).map (fun i => (i.zero, i.size, i.bytes)) = some (some (.string ⟨#[]⟩), 1, 16) := by kernel_rfl

theorem take_next {α : Type} {l : List α} {k : Nat} {g : α} (h : l[k]? = some g) : l.take (k + 1) = l.take k ++ [g] := by
  rw [List.take_add_one, h]; rfl

set_option maxHeartbeats 2000000 in
set_option maxRecDepth 100000 in
theorem joinGroups_any (A : Option Addr) (n cap : Nat) (gs : List Nat) (w : World) (htab : Tabs w) (hn : n ≤ 8) (hg : ∀ g ∈ gs, g < 65536) (hS : SlN .u64 w A n cap gs) :
    Calls Tryz.prog 74 #[.slice A n cap] w (GivesV (sv (Lib.join (gs.map hexL) [58])) w) := by
  have hlen : n = gs.length := by simpa using hS.1
  have hJ := join_len [58] 4 (gs.map hexL) (fun l hl => by
    obtain ⟨g, _, rfl⟩ := List.mem_map.1 hl
    exact hexL_length g)
  rw [List.length_map] at hJ
  have hJ' : (Lib.join (gs.map hexL) [58]).length ≤ 100000 := by simp at hJ; omega
  clear hJ
  replace hlen := Lib.hid hlen
  obtain ⟨i0, hi0, hz0, hz1, hz2⟩ := info_parts info_str'
  go_enter Tryz.func74, Tryz.ntmps74
  go_wp2_with fail
  go_loopw [3, 8] (fun v i wr => ∃ k : Nat, k ≤ n ∧ i = .int .i64 k ∧ wr.ownsRow w.heap.size 9 1 v k ((gs.take k).map fun g => sv (hexL g)) ∧ Below w.heap.size w wr) (fun _ i _ => n - (intOf i).toNat)
  case atStart => exact ⟨0, Nat.zero_le _, rfl, World.ownsRow_nil _ _ _ _, Below.refl _ _⟩
  case round =>
    obtain ⟨k, hk, rfl, hown, hbw⟩ := hrel
    by_cases hlt : k < n
    · obtain ⟨g, hgk⟩ : ∃ g, gs[k]? = some g := ⟨gs[k]'(by rw [← hlen.out]; omega), List.getElem?_eq_getElem _⟩
      have hg16 := hg g (List.mem_of_getElem? hgk)
      obtain ⟨b, off, rfl, hb, hc⟩ : ∃ b off, A = some ⟨b, off, none⟩ ∧ b < w.heap.size ∧ ∀ j u, (gs.map fun (g : Nat) => Value.int .u64 (g : Int))[j]? = some u → w.cell? ⟨b, off + j, none⟩ = some u := by
        rcases hS.2.2 with h | h
        · omega
        · exact h
      have hcell : wr.cell? ⟨b, off + k, none⟩ = some (.int .u64 (g : Int)) := by
        rw [hbw.cell (by exact hb)]; exact hc k _ (by rw [List.getElem?_map, hgk]; rfl)
      have HF := Lib.hid (fmtU16 g hg16 wr (htab.below hbw))
      have HT := Lib.hid (take_next hgk)
      have hsz := hbw.size
      have hlt' : (k : Int) < (n : Int) := by omega
      clear hc hgk hg htab
      go_wp2_with fail
      refine HF.out.mono ?_
      rintro e w1 ⟨rfl, hb1⟩
      have hown1 := own_below hown hb1
      have hs1 := hb1.size
      have hbw1 := hbw.trans (hb1.mono hsz)
      clear hb1 hcell
      go_wp2_with (at_builtin; refine wpList_append_own _ rfl _ _ 77 rfl w.heap.size 9 i0 (.string ⟨#[]⟩) 1 16 Tryz.underlying77 hi0 hz0 hz1 hz2 rfl (by decide) _ _ _ rfl (hown1.alloc _) ⟨w1.heap.size, 0, none⟩ 1 1 [sv (hexL g)] rfl rfl ?c1 ?c2 ?c3 ?c4 ?c5 ?_)
      case c1 => exact cell_one_new _ _ _
      case c2 => simp; rfl
      case c3 => unfold maxLen; omega
      case c4 => omega
      case c5 => simp; omega
      intro v2 w2 hown2 hg2 _
      have hbw2 : Below w.heap.size w w2 := (hbw1.alloc hbw1.size _).grown hg2 (by simp; omega) (fun k h => (hown1.lt k h).1)
      clear hg2 hown hown1 hbw hbw1 HF
      go_wp2_with fail
      go_roundw
      case rel => exact ⟨k + 1, by omega, by go_num, by rw [← List.map_take] at hown2; rw [HT.out, List.map_append]; exact hown2, hbw2⟩
      case measure => simp [intOf]; omega
    · obtain rfl : k = n := by omega
      obtain ⟨A', cap', rfl, hS'⟩ := Sl.of_own hown
      rw [List.take_of_length_le (by rw [← hlen.out]; omega)] at hS'
      have HJ := Lib.hid (join_any A' k cap' (gs.map hexL) [58] wr (by rw [List.map_map]; exact hS') (by omega) hJ')
      clear hown hS' hS htab
      go_wp2_with fail
      refine HJ.out.mono ?_
      rintro e w1 ⟨rfl, hb1⟩
      go_wp2_with fail
      go_ret
      exact ⟨rfl, hbw.trans (hb1.mono hbw.size)⟩
end Go.Proofs.YtokeeimppbiokaaGreatDoor
