/- only: a string of digits to base 16. -/
import Derived.Test.YtkldcmmlllkhkaaGreatDoorKqPsD
import Derived.Test.YtkldcmmlllkhkaaGreatDoorKqPsB
import Derived.Test.YtkldcmmlllkhkaaGreatDoorKqPsF
import Derived.Test.YtkldcmmlllkhkaaGreatDoorKqDec
import Derived.Test.YtkldcmmlllkhkaaGreatDoorKqWideD
import Derived.Shelf.Strings.SlTrimAscii
set_option maxRecDepth 100000
namespace Go.Proofs.YtkldcmmlllkhkaaGreatDoor
open Go.RowKit

theorem parts_len (l : List UInt8) (c : UInt8) : (parts l c).length ≤ l.length + 1 := by
  have h1 := Lib.splitB_length_le ⟨#[c]⟩ 0 (Lib.countB ⟨l.toArray⟩ ⟨#[c]⟩) ⟨l.toArray⟩
  have h2 := Lib.countB_le ⟨#[c]⟩ (by show 1 ≤ 1; omega) _ (⟨l.toArray⟩ : ByteArray) (Nat.le_refl _)
  rw [Lib.size_eq] at h2
  have h2' : Lib.countB ⟨l.toArray⟩ ⟨#[c]⟩ ≤ l.length := h2
  unfold parts
  rw [List.length_map]
  omega

def rowAP (tail : Bool) : List Nat → List (List UInt8) → Option (List Nat)
  | acc, [] => some acc
  | acc, p :: r => match (if tail = true ∧ r = [] then fourL p else none) with
    | some n => rowAP tail (acc ++ [n / 65536, n % 65536]) r
    | none => match groupL p with
      | some g => rowAP tail (acc ++ [g]) r
      | none => none
def rowL (tail : Bool) (l : List UInt8) : Option (List Nat) := if l = [] then some [] else rowAP tail [] (parts l 58)

theorem rowA_four {tail : Bool} {acc : List Nat} {p : List UInt8} {r : List (List UInt8)} {n : Nat} (h : (if tail = true ∧ r = [] then fourL p else none) = some n) : rowAP tail acc (p :: r) = rowAP tail (acc ++ [n / 65536, n % 65536]) r := by rw [rowAP, h]
theorem rowA_group {tail : Bool} {acc : List Nat} {p : List UInt8} {r : List (List UInt8)} {g : Nat} (h : (if tail = true ∧ r = [] then fourL p else none) = none) (hg : groupL p = some g) : rowAP tail acc (p :: r) = rowAP tail (acc ++ [g]) r := by rw [rowAP, h, hg]
theorem rowA_none {tail : Bool} {acc : List Nat} {p : List UInt8} {r : List (List UInt8)} (h : (if tail = true ∧ r = [] then fourL p else none) = none) (hg : groupL p = none) : rowAP tail acc (p :: r) = none := by rw [rowAP, h, hg]

theorem goB_lt : ∀ (ps : List (List UInt8)) (n m k : Nat), n < 256 ^ k → goB ps n = some m → m < 256 ^ (k + ps.length)
  | [], n, m, k, hn, h => by rw [goB] at h; cases h; exact hn
  | p :: r, n, m, k, hn, h => by
    rw [goB] at h
    split at h
    · rename_i b hb
      have hb' : b < 256 := by
        unfold byteL at hb
        split at hb
        · split at hb
          · cases hb; omega
          · cases hb
        · cases hb
      have := goB_lt r (n * 256 + b) m (k + 1) (by rw [Nat.pow_succ]; omega) h
      rw [List.length_cons, show k + (r.length + 1) = k + 1 + r.length by omega]
      exact this
    · cases h
theorem fourL_lt {l : List UInt8} {n : Nat} (h : fourL l = some n) : n < 4294967296 := by
  unfold fourL fourP at h
  split at h
  · rename_i h4
    have := goB_lt _ 0 n 0 (by decide) h
    rw [h4] at this
    exact this
  · cases h

def isRow (w' : World) : Option (List Nat) → Ending → Prop
  | some gs, e => ∃ A cap, e = .returned (.tuple #[.slice A gs.length cap, .bool true]) ∧ SlN .u64 w' A gs.length cap gs ∧ (A = none → cap = 0)
  | none, e => e = .returned (.tuple #[.slice none 0 0, .bool false])
def GivesRow (o : Option (List Nat)) (w : World) (e : Ending) (w' : World) : Prop := isRow w' o e ∧ Below w.heap.size w w'
theorem isRow_none {w' : World} {o : Option (List Nat)} (h : o = none) : isRow w' o (.returned (.tuple #[.slice none 0 0, .bool false])) := by rw [h]; rfl
theorem isRow_some {w' : World} {o : Option (List Nat)} {gs : List Nat} {A : Option Addr} {cap n : Nat} (h : o = some gs) (hn : n = gs.length) (hS : SlN .u64 w' A n cap gs) (hA : A = none → cap = 0) : isRow w' o (.returned (.tuple #[.slice A n cap, .bool true])) := by rw [h]; subst hn; exact ⟨A, cap, rfl, hS, hA⟩

theorem own_sl {w : World} {base : Nat} {e : TypeId} {v : Value} {n : Nat} {xs : List Value} (h : w.ownsRow base e 1 v n xs) : ∃ A cap, v = .slice A n cap ∧ Sl w A n cap xs ∧ (A = none → cap = 0) := by
  obtain ⟨A, cap, rfl, hS⟩ := Sl.of_own h
  refine ⟨A, cap, rfl, hS, fun hA => ?_⟩
  subst hA
  rcases h.2 with ⟨hv, h0⟩ | ⟨g, cap', cur, hv, _⟩
  · cases hv; rfl
  · cases hv
theorem cell_two_at (w : World) (x y : Value) (t : TypeId) (b : Nat) (hb : b = w.heap.size) : ∀ (j : Nat) (u : Value), [x, y][j]? = some u → (w.alloc (.cells #[x, y] t)).cell? ((⟨b, 0, none⟩ : Addr).add j) = some u := by
  subst hb
  intro j u hj
  match j, hj with
  | 0, hj => simp at hj; subst hj; simp [Addr.add]
  | 1, hj => simp at hj; subst hj; simp [Addr.add]

theorem row_nil (t : Bool) (w : World) :
    Calls Tryz.prog 133 #[.string ⟨([] : List UInt8).toArray⟩, .bool t] w (GivesRow (some []) w) := by
  go_enter Tryz.func133, Tryz.ntmps133
  go_wp2_with fail
  go_ret2
  exact ⟨isRow_some rfl rfl Sl.none_ (fun _ => rfl), Below.refl _ _⟩

set_option maxHeartbeats 4000000 in
theorem row_some (l : List UInt8) (t : Bool) (w : World) (hC : Cons w) (hne : l ≠ []) (hl : l.length ≤ 100000) :
    Calls Tryz.prog 133 #[.string ⟨l.toArray⟩, .bool t] w (GivesRow (rowAP t [] (parts l 58)) w) := by
  have hemp : l.isEmpty = false := by
    cases l with
    | nil => exact absurd rfl hne
    | cons _ _ => rfl
  have HS := Lib.hid (split_any l 58 w hC hl)
  have hpn := parts_len l 58
  have hpl : ∀ p ∈ parts l 58, p.length ≤ 100000 := fun p hp => Nat.le_trans (parts_short l 58 p hp) hl
  obtain ⟨ps, hps⟩ : ∃ ps, ps = parts l 58 := ⟨_, rfl⟩
  rw [← hps] at HS hpn hpl ⊢
  replace hpl := Lib.hid hpl
  obtain ⟨i0, hi0, hz0, hz1, hz2⟩ := info_parts info_u64
  have hpn' : ps.length ≤ 100001 := by omega
  clear hps hl hne hpn
  replace hC := Lib.hid hC
  go_enter Tryz.func133, Tryz.ntmps133
  go_wp2_with fail
  refine HS.out.mono ?_
  rintro e w1 ⟨A, cap, rfl, hS, hb1⟩
  replace hC := Lib.hid (hC.out.below hb1)
  clear HS hemp
  have hz1' := hb1.size
  obtain ⟨m, hm⟩ : ∃ m, m = ps.length := ⟨_, rfl⟩
  rw [← hm] at hS hpn' ⊢
  replace hm := Lib.hid hm
  go_wp2_with fail
  go_loopw [6, 20] (fun v i wr => ∃ (k : Nat) (acc : List Nat), k ≤ m ∧ acc.length ≤ 2 * k ∧ i = .int .i64 k ∧ wr.ownsRow w1.heap.size 37 1 v acc.length (acc.map fun (g : Nat) => Value.int .u64 (g : Int)) ∧ Below w1.heap.size w1 wr ∧ Hid (rowAP t acc (ps.drop k) = rowAP t [] ps)) (fun _ i _ => m - (intOf i).toNat)
  case atStart => exact ⟨0, [], Nat.zero_le _, Nat.zero_le _, rfl, World.ownsRow_nil _ _ _ _, Below.refl _ _, Lib.hid rfl⟩
  case round =>
    obtain ⟨k, acc, hk, hacc, rfl, hown, hbw, hG⟩ := hrel
    by_cases hlt : k < m
    · obtain ⟨p, hp⟩ : ∃ p, ps[k]? = some p := ⟨ps[k]'(by rw [← hm.out]; exact hlt), List.getElem?_eq_getElem _⟩
      obtain ⟨b, off, rfl, hb, hc⟩ : ∃ b off, A = some ⟨b, off, none⟩ ∧ b < w1.heap.size ∧ ∀ j u, (ps.map sv)[j]? = some u → w1.cell? ⟨b, off + j, none⟩ = some u := by
        rcases hS.2.2 with h | h
        · omega
        · exact h
      have hcell : wr.cell? ⟨b, off + k, none⟩ = some (sv p) := by
        rw [hbw.cell (by exact hb)]; exact hc k _ (by rw [List.getElem?_map, hp]; rfl)
      have hlt' : (k : Int) < (m : Int) := by omega
      have hpl1 := hpl.out p (List.mem_of_getElem? hp)
      have hCr := hC.out.below hbw
      have HB := Lib.hid (readBytes_any p wr hCr hpl1)
      have HD := Lib.hid (drop_at hp)
      have hr : Hid (ps.drop (k + 1) = [] ↔ k + 1 = m) := Lib.hid (by rw [List.drop_eq_nil_iff, hm.out]; have := hm.out; omega)
      have hsw := hbw.size
      have HQ : ∀ x2, Below wr.heap.size wr x2 → Hid (Calls Tryz.prog 158 #[.string ⟨p.toArray⟩] x2 (GivesG (groupL p) x2)) := fun x2 hx => Lib.hid (readGroup_any p x2 (hCr.below hx) hpl1)
      clear hc hp hpl1 hCr
      by_cases hF : ∃ n, fourL p = some n ∧ t = true ∧ k + 1 = m
      · obtain ⟨n, hn, rfl, hk1⟩ := hF
        have hn32 := fourL_lt hn
        have HN : Hid (rowAP true (acc ++ [n / 65536, n % 65536]) (ps.drop (k + 1)) = rowAP true [] ps) := Lib.hid (by
          rw [← hG.out, HD.out, rowA_four (n := n)]
          rw [if_pos ⟨rfl, hr.out.2 hk1⟩]; exact hn)
        rw [hn] at HB
        have hk2 : (m : Int) - 1 = (k : Int) := by omega
        obtain ⟨x, hx⟩ : ∃ x, x = n / 65536 := ⟨_, rfl⟩
        obtain ⟨y, hy⟩ : ∃ y, y = n % 65536 := ⟨_, rfl⟩
        rw [← hx, ← hy] at HN
        obtain ⟨z, hz⟩ : ∃ z : Int, z = (n : Int) := ⟨_, rfl⟩
        have hand : bits .and .u64 z 65535 = (y : Int) := by rw [hz, and16' (n : Int) (by omega) (by omega), hy]; rfl
        have hdiv : z / 65536 = (x : Int) := by omega
        have hz0' : 0 ≤ z := by omega
        have hz1'' : z < 4294967296 := by omega
        have HB : Hid (Calls Tryz.prog 109 #[.string ⟨p.toArray⟩] wr (GivesV (.tuple #[.int .u64 z, .bool true]) wr)) := Lib.hid (by rw [hz]; exact HB.out)
        clear hx hy hz hn32 hn hG HD hr HQ
        go_wp2_with fail
        refine HB.out.mono ?_
        rintro e x2 ⟨rfl, hx2⟩
        have hown2 := own_below hown hx2
        have hbw2 := hbw.trans (hx2.mono hsw)
        have hs2 := hbw2.size
        clear hx2 hcell HB
        go_wp2_with (at_builtin; refine wpList_append_own _ rfl _ _ 98 rfl w1.heap.size 37 i0 (.int .u64 0) 1 8 Tryz.underlying98 hi0 hz0 hz1 hz2 rfl (by decide) _ _ _ rfl (hown2.alloc _) ⟨x2.heap.size, 0, none⟩ 2 2 [.int .u64 (x : Int), .int .u64 (y : Int)] rfl rfl ?c1 ?c2 ?c3 ?c4 ?c5 ?_)
        case c1 => exact cell_two_at _ _ _ _ _ (by simp)
        case c2 => intro u hu; simp at hu; rcases hu with rfl | rfl <;> rfl
        case c3 => unfold maxLen; omega
        case c4 => omega
        case c5 => first | omega | (simp; done) | (simp; omega)
        intro v3 x3 hown3 hg3 _
        have hbw3 : Below w1.heap.size w1 x3 := (hbw2.alloc hs2 _).grown hg3 (by first | omega | (simp; done) | (simp; omega)) (fun k h => (hown2.lt k h).1)
        clear hg3 hown2 hbw2 hbw hown
        go_wp2_with fail
        go_roundw
        case rel => exact ⟨k + 1, acc ++ [x, y], by omega, by simp; omega, by go_num, by rw [List.length_append, List.map_append]; exact hown3, hbw3, HN⟩
        case measure => simp [intOf]; omega
      · have hFn : ∀ n, fourL p = some n → t = true → k + 1 = m → False := fun n h1 h2 h3 => hF ⟨n, h1, h2, h3⟩
        clear hF
        cases hn : fourL p with
        | none =>
          have HI0 : (if t = true ∧ ps.drop (k + 1) = [] then fourL p else none) = none := (by rw [hn]; split <;> rfl)
          have HI : Hid ((groupL p = none → rowAP t [] ps = none) ∧ ∀ g, groupL p = some g → rowAP t (acc ++ [g]) (ps.drop (k + 1)) = rowAP t [] ps) := Lib.hid ⟨fun hg => by rw [← hG.out, HD.out, rowA_none HI0 hg], fun g hg => by rw [← hG.out, HD.out, rowA_group HI0 hg]⟩
          clear HI0
          rw [hn] at HB
          replace HB : Hid (Calls Tryz.prog 109 #[.string ⟨p.toArray⟩] wr (GivesV (.tuple #[.int .u64 0, .bool false]) wr)) := HB
          clear hn hFn hr hG HD
          go_wp2_with fail
          refine HB.out.mono ?_
          rintro e x1 ⟨rfl, hx1⟩
          have HR := HQ _ hx1
          have hown1 := own_below hown hx1
          have hbw1 := hbw.trans (hx1.mono hsw)
          have hs1 := hbw1.size
          clear hx1 hcell HB HQ hown hbw
          cases hg : groupL p with
          | none =>
            have HN : Hid (rowAP t [] ps = none) := Lib.hid (HI.out.1 hg)
            rw [hg] at HR
            clear hg HI
            go_wp2_with fail
            refine HR.out.mono ?_
            rintro e x2 ⟨⟨q, rfl⟩, hx2⟩
            have hbw2 := hbw1.trans (hx2.mono hs1)
            go_wp2_with fail
            go_ret2
            exact ⟨isRow_none HN.out, hb1.trans (hbw2.mono hz1')⟩
          | some g =>
            have HN : Hid (rowAP t (acc ++ [g]) (ps.drop (k + 1)) = rowAP t [] ps) := Lib.hid (HI.out.2 g hg)
            rw [hg] at HR
            clear hg HI
            go_wp2_with fail
            refine HR.out.mono ?_
            rintro e x2 ⟨rfl, hx2⟩
            have hown2 := own_below hown1 hx2
            have hbw2 := hbw1.trans (hx2.mono hs1)
            have hs2 := hbw2.size
            clear hx2 HR hown1 hbw1
            go_wp2_with (at_builtin; refine wpList_append_own _ rfl _ _ 98 rfl w1.heap.size 37 i0 (.int .u64 0) 1 8 Tryz.underlying98 hi0 hz0 hz1 hz2 rfl (by decide) _ _ _ rfl (hown2.alloc _) ⟨x2.heap.size, 0, none⟩ 1 1 [.int .u64 (g : Int)] rfl rfl ?c1 ?c2 ?c3 ?c4 ?c5 ?_)
            case c1 => exact cell_one_at _ _ _ _ (by simp)
            case c2 => simp; rfl
            case c3 => unfold maxLen; omega
            case c4 => omega
            case c5 => first | omega | (simp; done) | (simp; omega)
            intro v3 x3 hown3 hg3 _
            have hbw3 : Below w1.heap.size w1 x3 := (hbw2.alloc hs2 _).grown hg3 (by first | omega | (simp; done) | (simp; omega)) (fun k h => (hown2.lt k h).1)
            clear hg3 hown2 hbw2
            go_wp2_with fail
            go_roundw
            case rel => exact ⟨k + 1, acc ++ [g], by omega, by simp; omega, by go_num, by rw [List.length_append, List.map_append]; exact hown3, hbw3, HN⟩
            case measure => simp [intOf]; omega
        | some n =>
          rw [hn] at HB
          obtain ⟨z, hz⟩ : ∃ z : Int, z = (n : Int) := ⟨_, rfl⟩
          replace HB : Hid (Calls Tryz.prog 109 #[.string ⟨p.toArray⟩] wr (GivesV (.tuple #[.int .u64 z, .bool true]) wr)) := Lib.hid (by rw [hz]; exact HB.out)
          cases t with
          | false =>
            have HI0 : (if false = true ∧ ps.drop (k + 1) = [] then fourL p else none) = none := (if_neg (fun h => by cases h.1))
            have HI : Hid ((groupL p = none → rowAP false [] ps = none) ∧ ∀ g, groupL p = some g → rowAP false (acc ++ [g]) (ps.drop (k + 1)) = rowAP false [] ps) := Lib.hid ⟨fun hg => by rw [← hG.out, HD.out, rowA_none HI0 hg], fun g hg => by rw [← hG.out, HD.out, rowA_group HI0 hg]⟩
            clear HI0
            clear hn hFn hr hz hG HD
            go_wp2_with fail
            refine HB.out.mono ?_
            rintro e x1 ⟨rfl, hx1⟩
            have HR := HQ _ hx1
            have hown1 := own_below hown hx1
            have hbw1 := hbw.trans (hx1.mono hsw)
            have hs1 := hbw1.size
            clear hx1 hcell HB HQ hown hbw
            cases hg : groupL p with
            | none =>
              have HN : Hid (rowAP false [] ps = none) := Lib.hid (HI.out.1 hg)
              rw [hg] at HR
              clear hg HI
              go_wp2_with fail
              refine HR.out.mono ?_
              rintro e x2 ⟨⟨q, rfl⟩, hx2⟩
              have hbw2 := hbw1.trans (hx2.mono hs1)
              go_wp2_with fail
              go_ret2
              exact ⟨isRow_none HN.out, hb1.trans (hbw2.mono hz1')⟩
            | some g =>
              have HN : Hid (rowAP false (acc ++ [g]) (ps.drop (k + 1)) = rowAP false [] ps) := Lib.hid (HI.out.2 g hg)
              rw [hg] at HR
              clear hg HI
              go_wp2_with fail
              refine HR.out.mono ?_
              rintro e x2 ⟨rfl, hx2⟩
              have hown2 := own_below hown1 hx2
              have hbw2 := hbw1.trans (hx2.mono hs1)
              have hs2 := hbw2.size
              clear hx2 HR hown1 hbw1
              go_wp2_with (at_builtin; refine wpList_append_own _ rfl _ _ 98 rfl w1.heap.size 37 i0 (.int .u64 0) 1 8 Tryz.underlying98 hi0 hz0 hz1 hz2 rfl (by decide) _ _ _ rfl (hown2.alloc _) ⟨x2.heap.size, 0, none⟩ 1 1 [.int .u64 (g : Int)] rfl rfl ?c1 ?c2 ?c3 ?c4 ?c5 ?_)
              case c1 => exact cell_one_at _ _ _ _ (by simp)
              case c2 => simp; rfl
              case c3 => unfold maxLen; omega
              case c4 => omega
              case c5 => first | omega | (simp; done) | (simp; omega)
              intro v3 x3 hown3 hg3 _
              have hbw3 : Below w1.heap.size w1 x3 := (hbw2.alloc hs2 _).grown hg3 (by first | omega | (simp; done) | (simp; omega)) (fun k h => (hown2.lt k h).1)
              clear hg3 hown2 hbw2
              go_wp2_with fail
              go_roundw
              case rel => exact ⟨k + 1, acc ++ [g], by omega, by simp; omega, by go_num, by rw [List.length_append, List.map_append]; exact hown3, hbw3, HN⟩
              case measure => simp [intOf]; omega
          | true =>
            have hk1 : ¬ k + 1 = m := fun h => hFn n hn rfl h
            have HI0 : (if true = true ∧ ps.drop (k + 1) = [] then fourL p else none) = none := (if_neg (fun h => hk1 (hr.out.1 h.2)))
            have HI : Hid ((groupL p = none → rowAP true [] ps = none) ∧ ∀ g, groupL p = some g → rowAP true (acc ++ [g]) (ps.drop (k + 1)) = rowAP true [] ps) := Lib.hid ⟨fun hg => by rw [← hG.out, HD.out, rowA_none HI0 hg], fun g hg => by rw [← hG.out, HD.out, rowA_group HI0 hg]⟩
            clear HI0
            have hkm : ((k : Int) == (m : Int) - 1) = false := by rw [beq_eq_false_iff_ne]; omega
            clear hn hFn hr hz hk1 hG HD
            go_wp2_with fail
            refine HB.out.mono ?_
            rintro e x1 ⟨rfl, hx1⟩
            have HR := HQ _ hx1
            have hown1 := own_below hown hx1
            have hbw1 := hbw.trans (hx1.mono hsw)
            have hs1 := hbw1.size
            clear hx1 hcell HB HQ hown hbw
            cases hg : groupL p with
            | none =>
              have HN : Hid (rowAP true [] ps = none) := Lib.hid (HI.out.1 hg)
              rw [hg] at HR
              clear hg HI
              go_wp2_with fail
              refine HR.out.mono ?_
              rintro e x2 ⟨⟨q, rfl⟩, hx2⟩
              have hbw2 := hbw1.trans (hx2.mono hs1)
              go_wp2_with fail
              go_ret2
              exact ⟨isRow_none HN.out, hb1.trans (hbw2.mono hz1')⟩
            | some g =>
              have HN : Hid (rowAP true (acc ++ [g]) (ps.drop (k + 1)) = rowAP true [] ps) := Lib.hid (HI.out.2 g hg)
              rw [hg] at HR
              clear hg HI
              go_wp2_with fail
              refine HR.out.mono ?_
              rintro e x2 ⟨rfl, hx2⟩
              have hown2 := own_below hown1 hx2
              have hbw2 := hbw1.trans (hx2.mono hs1)
              have hs2 := hbw2.size
              clear hx2 HR hown1 hbw1
              go_wp2_with (at_builtin; refine wpList_append_own _ rfl _ _ 98 rfl w1.heap.size 37 i0 (.int .u64 0) 1 8 Tryz.underlying98 hi0 hz0 hz1 hz2 rfl (by decide) _ _ _ rfl (hown2.alloc _) ⟨x2.heap.size, 0, none⟩ 1 1 [.int .u64 (g : Int)] rfl rfl ?c1 ?c2 ?c3 ?c4 ?c5 ?_)
              case c1 => exact cell_one_at _ _ _ _ (by simp)
              case c2 => simp; rfl
              case c3 => unfold maxLen; omega
              case c4 => omega
              case c5 => first | omega | (simp; done) | (simp; omega)
              intro v3 x3 hown3 hg3 _
              have hbw3 : Below w1.heap.size w1 x3 := (hbw2.alloc hs2 _).grown hg3 (by first | omega | (simp; done) | (simp; omega)) (fun k h => (hown2.lt k h).1)
              clear hg3 hown2 hbw2
              go_wp2_with fail
              go_roundw
              case rel => exact ⟨k + 1, acc ++ [g], by omega, by simp; omega, by go_num, by rw [List.length_append, List.map_append]; exact hown3, hbw3, HN⟩
              case measure => simp [intOf]; omega
    · obtain rfl : k = m := by omega
      have HN : Hid (rowAP t [] ps = some acc) := Lib.hid (by rw [← hG.out, hm.out, List.drop_length]; rfl)
      obtain ⟨A', cap', rfl, hS', hA'⟩ := own_sl hown
      clear hown hG
      go_wp2_with fail
      go_ret2
      exact ⟨isRow_some HN.out rfl hS' hA', hb1.trans (hbw.mono hz1')⟩

theorem readRow_any (l : List UInt8) (t : Bool) (w : World) (hC : Cons w) (hl : l.length ≤ 100000) :
    Calls Tryz.prog 133 #[.string ⟨l.toArray⟩, .bool t] w (GivesRow (rowL t l) w) := by
  unfold rowL
  by_cases h : l = []
  · rw [if_pos h, h]; exact row_nil t w
  · rw [if_neg h]; exact row_some l t w hC h hl

theorem atoi_some {p : List UInt8} {n : Nat} (h : byteL p = some n) (w : World) (hl : p.length ≤ 100000) :
    Calls Tryz.prog 62 #[.string ⟨p.toArray⟩] w (GivesV (.tuple #[.int .i64 (n : Int), .nilIface]) w) := by
  refine (Tryz.strconv_Atoi_ok ⟨p.toArray⟩ (by rw [Lib.size_eq]; exact Nat.le_trans hl (by decide)) (n : Int) (by simpa using (byte_atoi h).2.1) w).mono ?_
  rintro e w' ⟨rfl, hw⟩
  refine ⟨rfl, ?_⟩
  rcases hw with rfl | ⟨t, rfl⟩
  · exact Below.refl _ _
  · exact Lib.bytesWorld_below _ _ _

theorem atoi_none {p : List UInt8} (h : byteL p = none) (w : World) (hC : Cons w) (hl : p.length ≤ 100000) :
    Calls Tryz.prog 62 #[.string ⟨p.toArray⟩] w fun e w' => ((∃ x T q, e = .returned (.tuple #[.int .i64 x, .iface T q])) ∨ (∃ v : Int, e = .returned (.tuple #[.int .i64 v, .nilIface]) ∧ (0 ≤ v → v ≤ 255 → Lib.itoa v ≠ p))) ∧ Below w.heap.size w w' := by
  have hsz : (⟨p.toArray⟩ : ByteArray).size ≤ 281474976710656 := by rw [Lib.size_eq]; exact Nat.le_trans hl (by decide)
  cases ha : Lib.atoiAll p with
  | ok v =>
    refine (Tryz.strconv_Atoi_ok ⟨p.toArray⟩ (by rw [Lib.size_eq]; exact Nat.le_trans hl (by decide)) v (by simpa using ha) w).mono ?_
    rintro e w' ⟨rfl, hw⟩
    refine ⟨.inr ⟨v, rfl, fun h0 h1 => byte_none h h0 h1⟩, ?_⟩
    rcases hw with rfl | ⟨t, rfl⟩
    · exact Below.refl _ _
    · exact Lib.bytesWorld_below _ _ _
  | range =>
    obtain ⟨ev, h1, h2⟩ := eran_cell hC
    refine (Tryz.strconv_Atoi_range ⟨p.toArray⟩ hsz (by simpa using ha) ev w h1 h2).mono ?_
    rintro e w' ⟨N, rfl, _, _, hb⟩
    exact ⟨.inl ⟨_, _, _, rfl⟩, hb⟩
  | _ =>
    obtain ⟨ev, h1, h2⟩ := esyn_cell hC
    refine (Any.strconv_Atoi_syntax Tryz.laysC172 ⟨p.toArray⟩ hsz (by simpa using ha) ev w h1 h2).mono ?_
    rintro e w' ⟨N, rfl, _, _, hb⟩
    exact ⟨.inl ⟨_, _, _, rfl⟩, hb⟩

theorem itoa_small (v : Int) (h0 : 0 ≤ v) (h1 : v ≤ 255) (w : World) (htab : Tabs w) :
    Calls Tryz.prog 46 #[.int .i64 v] w (GivesV (.string ⟨(Lib.itoa v).toArray⟩) w) := by
  refine (Tryz.strconv_Itoa v (by omega) (by omega) w htab.2.1).mono ?_
  rintro e w' ⟨rfl, k, os, rfl⟩
  exact ⟨rfl, Lib.below_grow _ _ (Nat.le_refl _) k os⟩

theorem inB_true {v : Int} (h0 : 0 ≤ v) (h1 : v ≤ 255) : inB v 0 255 = true := by unfold inB; simp; omega
theorem inB_false {v : Int} (h : ¬ (0 ≤ v ∧ v ≤ 255)) : inB v 0 255 = false := by unfold inB; simp; omega

set_option maxHeartbeats 2000000 in
theorem four_any (l : List UInt8) (w : World) (hC : Cons w) (hl : l.length ≤ 100000) :
    Calls Tryz.prog 111 #[.string ⟨l.toArray⟩] w (GivesV (numU (fourL l)) w) := by
  have HS := Lib.hid (split_any l 46 w hC hl)
  obtain ⟨ps, hps⟩ : ∃ ps, ps = parts l 46 := ⟨_, rfl⟩
  rw [← hps] at HS
  have HF : Hid (fourL l = fourP ps) := Lib.hid (by rw [hps]; rfl)
  have hpl : ∀ p ∈ ps, p.length ≤ 100000 := by
    rw [hps]; exact fun p hp => Nat.le_trans (parts_short l 46 p hp) hl
  replace hpl := Lib.hid hpl
  clear hps hl
  replace hC := Lib.hid hC
  go_enter Tryz.func111, Tryz.ntmps111
  go_wp2_with fail
  refine HS.out.mono ?_
  rintro e w1 ⟨A, cap, rfl, hS, hb1⟩
  replace hC := Lib.hid (hC.out.below hb1)
  have hs1 := hb1.size
  clear HS
  by_cases h4 : ps.length = 4
  · have HF' : Hid (goB (ps.drop 0) 0 = fourL l) := Lib.hid (by rw [HF.out, fourP, if_pos h4]; rfl)
    rw [h4] at hS ⊢
    replace h4 := Lib.hid h4
    go_wp2_with fail
    go_loopw [5, 17] (fun o i wr => ∃ k n : Nat, k ≤ 4 ∧ n < 256 ^ k ∧ i = .int .i64 k ∧ o = .int .u64 n ∧ Below w1.heap.size w1 wr ∧ Hid (goB (ps.drop k) n = fourL l)) (fun _ i _ => 4 - (intOf i).toNat)
    case atStart => exact ⟨0, 0, by omega, by omega, rfl, rfl, Below.refl _ _, HF'⟩
    case round =>
      obtain ⟨k, n, hk, hn, rfl, rfl, hbw, hG⟩ := hrel
      have hsw := hbw.size
      by_cases hlt : k < 4
      · obtain ⟨p, hp⟩ : ∃ p, ps[k]? = some p := ⟨ps[k]'(by rw [h4.out]; omega), List.getElem?_eq_getElem _⟩
        obtain ⟨b, off, rfl, hb, hc⟩ : ∃ b off, A = some ⟨b, off, none⟩ ∧ b < w1.heap.size ∧ ∀ j u, (ps.map sv)[j]? = some u → w1.cell? ⟨b, off + j, none⟩ = some u := by
          rcases hS.2.2 with h | h
          · omega
          · exact h
        have hcell : wr.cell? ⟨b, off + k, none⟩ = some (sv p) := by
          rw [hbw.cell (by exact hb)]; exact hc k _ (by rw [List.getElem?_map, hp]; rfl)
        have hlt' : (k : Int) < 4 := by omega
        have hCr := hC.out.below hbw
        have hpl1 := hpl.out p (List.mem_of_getElem? hp)
        have HD := Lib.hid (drop_at hp)
        have hn24 : n < 16777216 := by
          have : (256 : Nat) ^ k ≤ 256 ^ 3 := Nat.pow_le_pow_right (by decide) (by omega)
          omega
        clear hc hp
        cases hq : byteL p with
        | none =>
          have HB := Lib.hid (show fourL l = none by rw [← hG.out, HD.out, goB_none hq])
          have HA := Lib.hid (atoi_none hq wr hCr hpl1)
          have HT : Hid (Tabs wr) := Lib.hid hCr.tabs
          clear hq HD hG hpl1 hCr
          go_wp2_with fail
          refine HA.out.mono ?_
          rintro e w2 ⟨⟨x, T, q, rfl⟩ | ⟨v, rfl, hv⟩, hb2⟩
          · go_wp2_with fail
            go_ret2
            exact ⟨numU_none HB.out, hb1.trans ((hbw.trans (hb2.mono hsw)).mono hs1)⟩
          · by_cases hin : 0 ≤ v ∧ v ≤ 255
            · obtain ⟨h0, h1⟩ := hin
              have hne := hv h0 h1
              have HI : Hid (Calls Tryz.prog 48 #[.int .i64 v, .int .i64 0, .int .i64 255] w2 fun e w' => e = .returned (.bool true) ∧ w2 = w') := Lib.hid (by have := in_any v 0 255 w2; rw [inB_true h0 h1] at this; exact this)
              have HO := Lib.hid (itoa_small v h0 h1 w2 (HT.out.below hb2))
              have hbf : (Lib.itoa v == p) = false := beq_eq_false_iff_ne.2 hne
              clear hv hne HA HT
              go_wp2_with fail
              refine HI.out.mono ?_
              rintro e w3 ⟨rfl, rfl⟩
              go_wp2_with fail
              refine HO.out.mono ?_
              rintro e w3 ⟨rfl, hb3⟩
              go_wp2_with fail
              go_ret2
              exact ⟨numU_none HB.out, hb1.trans ((hbw.trans ((hb2.trans (hb3.mono hb2.size)).mono hsw)).mono hs1)⟩
            · have HI : Hid (Calls Tryz.prog 48 #[.int .i64 v, .int .i64 0, .int .i64 255] w2 fun e w' => e = .returned (.bool false) ∧ w2 = w') := Lib.hid (by have := in_any v 0 255 w2; rw [inB_false hin] at this; exact this)
              clear hv hin HA HT
              go_wp2_with fail
              refine HI.out.mono ?_
              rintro e w3 ⟨rfl, rfl⟩
              go_wp2_with fail
              go_ret2
              exact ⟨numU_none HB.out, hb1.trans ((hbw.trans (hb2.mono hsw)).mono hs1)⟩
        | some m =>
          have hB := byte_atoi hq
          have hm := hB.1
          have HB := Lib.hid (show goB (ps.drop (k + 1)) (n * 256 + m) = fourL l by rw [← hG.out, HD.out, goB_some hq])
          have HA := Lib.hid (atoi_some hq wr hpl1)
          have HI : ∀ w2, Hid (Calls Tryz.prog 48 #[.int .i64 (m : Int), .int .i64 0, .int .i64 255] w2 fun e w' => e = .returned (.bool true) ∧ w2 = w') := fun w2 => Lib.hid (by have := in_any (m : Int) 0 255 w2; rw [inB_true (by omega) (by omega)] at this; exact this)
          have HO : ∀ w2, Below wr.heap.size wr w2 → Hid (Calls Tryz.prog 46 #[.int .i64 (m : Int)] w2 (GivesV (.string ⟨p.toArray⟩) w2)) := fun w2 h2 => Lib.hid (by have := itoa_small (m : Int) (by omega) (by omega) w2 (hCr.tabs.below h2); rw [hB.2.2] at this; exact this)
          have hpw : n * 256 + m < 256 ^ (k + 1) := by rw [Nat.pow_succ]; omega
          clear hq HD hG hpl1 hCr hB
          go_wp2_with fail
          refine HA.out.mono ?_
          rintro e w2 ⟨rfl, hb2⟩
          have HI' := HI w2
          have HO' := HO w2 hb2
          clear HI HO HA
          go_wp2_with fail
          refine HI'.out.mono ?_
          rintro e w3 ⟨rfl, rfl⟩
          go_wp2_with fail
          refine HO'.out.mono ?_
          rintro e w3 ⟨rfl, hb3⟩
          have hbw3 := hbw.trans ((hb2.trans (hb3.mono hb2.size)).mono hsw)
          go_wp2_with fail
          go_roundw
          case rel => exact ⟨k + 1, n * 256 + m, by omega, hpw, by go_num, by go_num, hbw3, HB⟩
          case measure => simp [intOf]; omega
      · obtain rfl : k = 4 := by omega
        have HB := Lib.hid (show fourL l = some n by rw [← hG.out, List.drop_of_length_le (by rw [h4.out]; omega)]; rfl)
        clear hG
        go_wp2_with fail
        go_ret2
        exact ⟨numU_some HB.out, hb1.trans (hbw.mono hs1)⟩
  · have HB := Lib.hid (show fourL l = none by rw [HF.out]; exact if_neg h4)
    have b0 : ((ps.length : Int) == 4) = false := by rw [beq_eq_false_iff_ne]; omega
    clear h4
    go_wp2_with fail
    go_ret2
    exact ⟨numU_none HB.out, hb1⟩

def hexes : List UInt8 := [48, 49, 50, 51, 52, 53, 54, 55, 56, 57, 97, 98, 99, 100, 101, 102, 65, 66, 67, 68, 69, 70]
theorem hexes_all : ∀ n, n < 256 → hexes.contains (UInt8.ofNat n) = isHex (UInt8.ofNat n) := by decide
theorem hexes_is (c : UInt8) : hexes.contains c = isHex c := by
  have := hexes_all c.toNat c.toNat_lt
  rwa [show UInt8.ofNat c.toNat = c by simp] at this
theorem dropWhile_nil {α : Type} (p : α → Bool) : ∀ l : List α, l.dropWhile p = [] ↔ l.all p = true
  | [] => by simp
  | a :: r => by
    rw [List.dropWhile_cons, List.all_cons]
    cases h : p a
    · simp
    · simpa using dropWhile_nil p r
theorem dropWhile_head {α : Type} (p : α → Bool) : ∀ (l : List α) (a : α) (r : List α), l.dropWhile p = a :: r → p a = false
  | [], _, _, h => by cases h
  | b :: l, a, r, h => by
    rw [List.dropWhile_cons] at h
    split at h
    · exact dropWhile_head p l a r h
    · rename_i hb; cases h; simpa using hb
theorem trimS_nil (l cs : List UInt8) : Lib.trimS l cs = [] ↔ l.all (cs.contains ·) = true := by
  unfold Lib.trimS Lib.trimLeftS
  rw [dropWhile_nil]
  unfold Lib.trimRightS
  rw [List.all_reverse]
  constructor
  · intro h
    cases hd : l.reverse.dropWhile (cs.contains ·) with
    | nil => rw [dropWhile_nil, List.all_reverse] at hd; exact hd
    | cons a r =>
      have h1 := dropWhile_head _ _ _ _ hd
      rw [hd, List.all_cons, h1] at h
      cases h
  · intro h
    have : l.reverse.dropWhile (cs.contains ·) = [] := by rw [dropWhile_nil, List.all_reverse]; exact h
    rw [this]; rfl

theorem only_nil (l : List UInt8) : (Lib.trimS l hexes).isEmpty = l.all isHex := by
  have h := trimS_nil l hexes
  have e : l.all (hexes.contains ·) = l.all isHex := by congr 1; funext c; exact hexes_is c
  rw [e] at h
  cases hb : l.all isHex
  · rw [hb] at h
    cases ht : Lib.trimS l hexes with
    | nil => cases h.1 ht
    | cons _ _ => rfl
  · rw [h.2 hb]; rfl

set_option maxHeartbeats 1000000 in
theorem only_any (l : List UInt8) (w : World) (hl : l.length ≤ 100000) :
    Calls Tryz.prog 135 #[.string ⟨l.toArray⟩, .string ⟨#[48, 49, 50, 51, 52, 53, 54, 55, 56, 57, 97, 98, 99, 100, 101, 102, 65, 66, 67, 68, 69, 70]⟩] w (GivesV (.bool (l.all isHex)) w) := by
  have HT : Hid (Calls Tryz.prog 160 #[.string ⟨l.toArray⟩, .string ⟨#[48, 49, 50, 51, 52, 53, 54, 55, 56, 57, 97, 98, 99, 100, 101, 102, 65, 66, 67, 68, 69, 70]⟩] w fun e w' => e = .returned (.string ⟨(Lib.trimS l hexes).toArray⟩) ∧ Below w.heap.size w w') := Lib.hid (
    Any.strings_Trim_laid Tryz.lays160 (by kernel_rfl) ⟨l.toArray⟩ ⟨#[48, 49, 50, 51, 52, 53, 54, 55, 56, 57, 97, 98, 99, 100, 101, 102, 65, 66, 67, 68, 69, 70]⟩ w (by rw [Lib.size_eq]; exact Nat.le_trans hl (by decide)) (by decide) (ascii_of_all (by decide)))
  have HN := Lib.hid (only_nil l)
  go_enter Tryz.func135, Tryz.ntmps135
  go_wp2_with fail
  refine HT.out.mono ?_
  rintro e w1 ⟨rfl, hb⟩
  go_wp2_with fail
  go_ret
  exact ⟨ret_eq (congrArg Value.bool HN.out), hb⟩

theorem groupL_some {p : List UInt8} {g : Nat} (h : groupL p = some g) : 1 ≤ p.length ∧ p.length ≤ 4 ∧ p.all isHex = true ∧ hexB 4294967296 p = some g := by
  have h4 : p.length ≤ 4 := by
    by_cases h4 : p.length ≤ 4
    · exact h4
    · unfold groupL at h; rw [if_neg h4] at h; cases h
  have h' := h
  unfold groupL hexB at h'
  rw [if_pos h4] at h'
  split at h'
  · rename_i k
    refine ⟨?_, h4, k.2.1, by rw [groupL_eq p _ (by decide) h4, h]⟩
    cases p with
    | nil => exact absurd rfl k.1
    | cons _ _ => simp
  · cases h'
theorem groupL_not {p : List UInt8} (h : groupL p = none) : ¬ (1 ≤ p.length ∧ p.length ≤ 4) ∨ p.all isHex = false := by
  by_cases h4 : 1 ≤ p.length ∧ p.length ≤ 4
  · refine .inr ?_
    cases ha : p.all isHex
    · rfl
    · have hl := hexVal_lt p p.length (Nat.le_refl _)
      rw [List.take_length] at hl
      have h' : (16 : Nat) ^ p.length ≤ 16 ^ 4 := Nat.pow_le_pow_right (by decide) h4.2
      unfold groupL hexB at h
      rw [if_pos h4.2, if_pos ⟨fun k => by rw [k] at h4; simp at h4, ha, by omega⟩] at h
      cases h
  · exact .inl h4
end Go.Proofs.YtkldcmmlllkhkaaGreatDoor
