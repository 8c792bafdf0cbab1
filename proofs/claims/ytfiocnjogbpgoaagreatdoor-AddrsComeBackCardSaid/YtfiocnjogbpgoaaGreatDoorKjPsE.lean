/- A row of groups with colons between (the program's). -/
import Derived.Test.YtfiocnjogbpgoaaGreatDoorKjPsD
import Derived.Test.YtfiocnjogbpgoaaGreatDoorKjPsB
namespace Go.Proofs.YtfiocnjogbpgoaaGreatDoor
open Go.RowKit

theorem parts_len (l : List UInt8) (c : UInt8) : (parts l c).length ≤ l.length + 1 := by
  have h1 := Lib.splitB_length_le ⟨#[c]⟩ 0 (Lib.countB ⟨l.toArray⟩ ⟨#[c]⟩) ⟨l.toArray⟩
  have h2 := Lib.countB_le ⟨#[c]⟩ (by show 1 ≤ 1; omega) _ (⟨l.toArray⟩ : ByteArray) (Nat.le_refl _)
  rw [Lib.size_eq] at h2
  have h2' : Lib.countB ⟨l.toArray⟩ ⟨#[c]⟩ ≤ l.length := h2
  unfold parts
  rw [List.length_map]
  omega

/-- The groups of pieces, behind acc; at the end a number of four bytes may stand. -/
def rowA (tail : Bool) : List Nat → List (List UInt8) → Option (List Nat)
  | acc, [] => some acc
  | acc, p :: r => match (if tail = true ∧ r = [] then fourL p else none) with
    | some n => rowA tail (acc ++ [n / 65536, n % 65536]) r
    | none => match groupL p with
      | some g => rowA tail (acc ++ [g]) r
      | none => none
def rowL (tail : Bool) (l : List UInt8) : Option (List Nat) := if l = [] then some [] else rowA tail [] (parts l 58)

theorem rowA_four {tail : Bool} {acc : List Nat} {p : List UInt8} {r : List (List UInt8)} {n : Nat} (h : (if tail = true ∧ r = [] then fourL p else none) = some n) : rowA tail acc (p :: r) = rowA tail (acc ++ [n / 65536, n % 65536]) r := by rw [rowA, h]
theorem rowA_group {tail : Bool} {acc : List Nat} {p : List UInt8} {r : List (List UInt8)} {g : Nat} (h : (if tail = true ∧ r = [] then fourL p else none) = none) (hg : groupL p = some g) : rowA tail acc (p :: r) = rowA tail (acc ++ [g]) r := by rw [rowA, h, hg]
theorem rowA_none {tail : Bool} {acc : List Nat} {p : List UInt8} {r : List (List UInt8)} (h : (if tail = true ∧ r = [] then fourL p else none) = none) (hg : groupL p = none) : rowA tail acc (p :: r) = none := by rw [rowA, h, hg]

theorem goB_lt : ∀ (ps : List (List UInt8)) (n m k : Nat), n < 256 ^ k → goB ps n = some m → m < 256 ^ (k + ps.length)
  | [], n, m, k, hn, h => by rw [goB] at h; cases h; exact hn
  | p :: r, n, m, k, hn, h => by
    rw [goB] at h
    split at h
    · rename_i b hb
      have hb' : b < 256 := by
        unfold byteL at hb
        split at hb
        · split at hb
          · cases hb; omega
          · cases hb
        · cases hb
      have := goB_lt r (n * 256 + b) m (k + 1) (by rw [Nat.pow_succ]; omega) h
      rw [List.length_cons, show k + (r.length + 1) = k + 1 + r.length by omega]
      exact this
    · cases h
theorem fourL_lt {l : List UInt8} {n : Nat} (h : fourL l = some n) : n < 4294967296 := by
  unfold fourL fourP at h
  split at h
  · rename_i h4
    have := goB_lt _ 0 n 0 (by decide) h
    rw [h4] at this
    exact this
  · cases h

/-- Groups are returned, or none. -/
def isRow (w' : World) : Option (List Nat) → Ending → Prop
  | some gs, e => ∃ A cap, e = .returned (.tuple #[.slice A gs.length cap, .bool true]) ∧ SlN .u64 w' A gs.length cap gs ∧ (A = none → cap = 0)
  | none, e => e = .returned (.tuple #[.slice none 0 0, .bool false])
def GivesRow (o : Option (List Nat)) (w : World) (e : Ending) (w' : World) : Prop := isRow w' o e ∧ Below w.heap.size w w'
theorem isRow_none {w' : World} {o : Option (List Nat)} (h : o = none) : isRow w' o (.returned (.tuple #[.slice none 0 0, .bool false])) := by rw [h]; rfl
theorem isRow_some {w' : World} {o : Option (List Nat)} {gs : List Nat} {A : Option Addr} {cap n : Nat} (h : o = some gs) (hn : n = gs.length) (hS : SlN .u64 w' A n cap gs) (hA : A = none → cap = 0) : isRow w' o (.returned (.tuple #[.slice A n cap, .bool true])) := by rw [h]; subst hn; exact ⟨A, cap, rfl, hS, hA⟩

theorem own_sl {w : World} {base : Nat} {e : TypeId} {v : Value} {n : Nat} {xs : List Value} (h : w.ownsRow base e 1 v n xs) : ∃ A cap, v = .slice A n cap ∧ Sl w A n cap xs ∧ (A = none → cap = 0) := by
  obtain ⟨A, cap, rfl, hS⟩ := Sl.of_own h
  refine ⟨A, cap, rfl, hS, fun hA => ?_⟩
  subst hA
  rcases h.2 with ⟨hv, h0⟩ | ⟨g, cap', cur, hv, _⟩
  · cases hv; rfl
  · cases hv
theorem cell_two_at (w : World) (x y : Value) (t : TypeId) (b : Nat) (hb : b = w.heap.size) : ∀ (j : Nat) (u : Value), [x, y][j]? = some u → (w.alloc (.cells #[x, y] t)).cell? ((⟨b, 0, none⟩ : Addr).add j) = some u := by
  subst hb
  intro j u hj
  match j, hj with
  | 0, hj => simp at hj; subst hj; simp [Addr.add]
  | 1, hj => simp at hj; subst hj; simp [Addr.add]

theorem row_nil (t : Bool) (w : World) :
    Calls Tryz.prog 78 #[.string ⟨([] : List UInt8).toArray⟩, .bool t] w (GivesRow (some []) w) := by
  go_enter Tryz.func78, Tryz.ntmps78
  go_wp2_with fail
  go_ret2
  exact ⟨isRow_some rfl rfl Sl.none_ (fun _ => rfl), Below.refl _ _⟩

set_option maxHeartbeats 4000000 in
set_option maxRecDepth 100000 in
theorem row_some (l : List UInt8) (t : Bool) (w : World) (hC : Cons w) (hne : l ≠ []) (hl : l.length ≤ 100000) :
    Calls Tryz.prog 78 #[.string ⟨l.toArray⟩, .bool t] w (GivesRow (rowA t [] (parts l 58)) w) := by
  have hemp : l.isEmpty = false := by
    cases l with
    | nil => exact absurd rfl hne
    | cons _ _ => rfl
  have HS := Lib.hid (split_any l 58 w hC hl)
  have hpn := parts_len l 58
  have hpl : ∀ p ∈ parts l 58, p.length ≤ 100000 := fun p hp => Nat.le_trans (parts_short l 58 p hp) hl
  obtain ⟨ps, hps⟩ : ∃ ps, ps = parts l 58 := ⟨_, rfl⟩
  rw [← hps] at HS hpn hpl ⊢
  replace hpl := Lib.hid hpl
  obtain ⟨i0, hi0, hz0, hz1, hz2⟩ := info_parts info_u64
  have hpn' : ps.length ≤ 100001 := by omega
  clear hps hl hne hpn
  replace hC := Lib.hid hC
  go_enter Tryz.func78, Tryz.ntmps78
  go_wp2_with fail
  refine HS.out.mono ?_
  rintro e w1 ⟨A, cap, rfl, hS, hb1⟩
  replace hC := Lib.hid (hC.out.below hb1)
  clear HS hemp
  have hz1' := hb1.size
  obtain ⟨m, hm⟩ : ∃ m, m = ps.length := ⟨_, rfl⟩
  rw [← hm] at hS hpn' ⊢
  replace hm := Lib.hid hm
  go_wp2_with fail
  go_loopw [6, 20] (fun v i wr => ∃ (k : Nat) (acc : List Nat), k ≤ m ∧ acc.length ≤ 2 * k ∧ i = .int .i64 k ∧ wr.ownsRow w1.heap.size 26 1 v acc.length (acc.map fun (g : Nat) => Value.int .u64 (g : Int)) ∧ Below w1.heap.size w1 wr ∧ Hid (rowA t acc (ps.drop k) = rowA t [] ps)) (fun _ i _ => m - (intOf i).toNat)
  case atStart => exact ⟨0, [], Nat.zero_le _, Nat.zero_le _, rfl, World.ownsRow_nil _ _ _ _, Below.refl _ _, Lib.hid rfl⟩
  case round =>
    obtain ⟨k, acc, hk, hacc, rfl, hown, hbw, hG⟩ := hrel
    by_cases hlt : k < m
    · obtain ⟨p, hp⟩ : ∃ p, ps[k]? = some p := ⟨ps[k]'(by rw [← hm.out]; exact hlt), List.getElem?_eq_getElem _⟩
      obtain ⟨b, off, rfl, hb, hc⟩ : ∃ b off, A = some ⟨b, off, none⟩ ∧ b < w1.heap.size ∧ ∀ j u, (ps.map sv)[j]? = some u → w1.cell? ⟨b, off + j, none⟩ = some u := by
        rcases hS.2.2 with h | h
        · omega
        · exact h
      have hcell : wr.cell? ⟨b, off + k, none⟩ = some (sv p) := by
        rw [hbw.cell (by exact hb)]; exact hc k _ (by rw [List.getElem?_map, hp]; rfl)
      have hlt' : (k : Int) < (m : Int) := by omega
      have hpl1 := hpl.out p (List.mem_of_getElem? hp)
      have hCr := hC.out.below hbw
      have HB := Lib.hid (readBytes_any p wr hCr hpl1)
      have HD := Lib.hid (drop_at hp)
      have hr : Hid (ps.drop (k + 1) = [] ↔ k + 1 = m) := Lib.hid (by rw [List.drop_eq_nil_iff, hm.out]; have := hm.out; omega)
      have hsw := hbw.size
      have HQ : ∀ x2, Below wr.heap.size wr x2 → Hid (Calls Tryz.prog 124 #[.string ⟨p.toArray⟩] x2 (GivesG (groupL p) x2)) := fun x2 hx => Lib.hid (readGroup_any p x2 (hCr.below hx) hpl1)
      clear hc hp hpl1 hCr
      by_cases hF : ∃ n, fourL p = some n ∧ t = true ∧ k + 1 = m
      · obtain ⟨n, hn, rfl, hk1⟩ := hF
        have hn32 := fourL_lt hn
        have HN : Hid (rowA true (acc ++ [n / 65536, n % 65536]) (ps.drop (k + 1)) = rowA true [] ps) := Lib.hid (by
          rw [← hG.out, HD.out, rowA_four (n := n)]
          rw [if_pos ⟨rfl, hr.out.2 hk1⟩]; exact hn)
        rw [hn] at HB
        have hk2 : (m : Int) - 1 = (k : Int) := by omega
        obtain ⟨x, hx⟩ : ∃ x, x = n / 65536 := ⟨_, rfl⟩
        obtain ⟨y, hy⟩ : ∃ y, y = n % 65536 := ⟨_, rfl⟩
        rw [← hx, ← hy] at HN
        obtain ⟨z, hz⟩ : ∃ z : Int, z = (n : Int) := ⟨_, rfl⟩
        have hand : bits .and .u64 z 65535 = (y : Int) := by rw [hz, and16' (n : Int) (by omega) (by omega), hy]; rfl
        have hdiv : z / 65536 = (x : Int) := by omega
        have hz0' : 0 ≤ z := by omega
        have hz1'' : z < 4294967296 := by omega
        have HB : Hid (Calls Tryz.prog 34 #[.string ⟨p.toArray⟩] wr (GivesV (.tuple #[.int .u64 z, .bool true]) wr)) := Lib.hid (by rw [hz]; exact HB.out)
        clear hx hy hz hn32 hn hG HD hr HQ
        go_wp2_with fail
        refine HB.out.mono ?_
        rintro e x2 ⟨rfl, hx2⟩
        have hown2 := own_below hown hx2
        have hbw2 := hbw.trans (hx2.mono hsw)
        have hs2 := hbw2.size
        clear hx2 hcell HB
        go_wp2_with (at_builtin; refine wpList_append_own _ rfl _ _ 65 rfl w1.heap.size 26 i0 (.int .u64 0) 1 8 Tryz.underlying65 hi0 hz0 hz1 hz2 rfl (by decide) _ _ _ rfl (hown2.alloc _) ⟨x2.heap.size, 0, none⟩ 2 2 [.int .u64 (x : Int), .int .u64 (y : Int)] rfl rfl ?c1 ?c2 ?c3 ?c4 ?c5 ?_)
        case c1 => exact cell_two_at _ _ _ _ _ (by simp)
        case c2 => intro u hu; simp at hu; rcases hu with rfl | rfl <;> rfl
        case c3 => unfold maxLen; omega
        case c4 => omega
        case c5 => first | omega | (simp; done) | (simp; omega)
        intro v3 x3 hown3 hg3 _
        have hbw3 : Below w1.heap.size w1 x3 := (hbw2.alloc hs2 _).grown hg3 (by first | omega | (simp; done) | (simp; omega)) (fun k h => (hown2.lt k h).1)
        clear hg3 hown2 hbw2 hbw hown
        go_wp2_with fail
        go_roundw
        case rel => exact ⟨k + 1, acc ++ [x, y], by omega, by simp; omega, by go_num, by rw [List.length_append, List.map_append]; exact hown3, hbw3, HN⟩
        case measure => simp [intOf]; omega
      · have hFn : ∀ n, fourL p = some n → t = true → k + 1 = m → False := fun n h1 h2 h3 => hF ⟨n, h1, h2, h3⟩
        clear hF
        cases hn : fourL p with
        | none =>
          have HI0 : (if t = true ∧ ps.drop (k + 1) = [] then fourL p else none) = none := (by rw [hn]; split <;> rfl)
          have HI : Hid ((groupL p = none → rowA t [] ps = none) ∧ ∀ g, groupL p = some g → rowA t (acc ++ [g]) (ps.drop (k + 1)) = rowA t [] ps) := Lib.hid ⟨fun hg => by rw [← hG.out, HD.out, rowA_none HI0 hg], fun g hg => by rw [← hG.out, HD.out, rowA_group HI0 hg]⟩
          clear HI0
          rw [hn] at HB
          replace HB : Hid (Calls Tryz.prog 34 #[.string ⟨p.toArray⟩] wr (GivesV (.tuple #[.int .u64 0, .bool false]) wr)) := HB
          clear hn hFn hr hG HD
          go_wp2_with fail
          refine HB.out.mono ?_
          rintro e x1 ⟨rfl, hx1⟩
          have HR := HQ _ hx1
          have hown1 := own_below hown hx1
          have hbw1 := hbw.trans (hx1.mono hsw)
          have hs1 := hbw1.size
          clear hx1 hcell HB HQ hown hbw
          cases hg : groupL p with
          | none =>
            have HN : Hid (rowA t [] ps = none) := Lib.hid (HI.out.1 hg)
            rw [hg] at HR
            clear hg HI
            go_wp2_with fail
            refine HR.out.mono ?_
            rintro e x2 ⟨⟨q, rfl⟩, hx2⟩
            have hbw2 := hbw1.trans (hx2.mono hs1)
            go_wp2_with fail
            go_ret2
            exact ⟨isRow_none HN.out, hb1.trans (hbw2.mono hz1')⟩
          | some g =>
            have HN : Hid (rowA t (acc ++ [g]) (ps.drop (k + 1)) = rowA t [] ps) := Lib.hid (HI.out.2 g hg)
            rw [hg] at HR
            clear hg HI
            go_wp2_with fail
            refine HR.out.mono ?_
            rintro e x2 ⟨rfl, hx2⟩
            have hown2 := own_below hown1 hx2
            have hbw2 := hbw1.trans (hx2.mono hs1)
            have hs2 := hbw2.size
            clear hx2 HR hown1 hbw1
            go_wp2_with (at_builtin; refine wpList_append_own _ rfl _ _ 65 rfl w1.heap.size 26 i0 (.int .u64 0) 1 8 Tryz.underlying65 hi0 hz0 hz1 hz2 rfl (by decide) _ _ _ rfl (hown2.alloc _) ⟨x2.heap.size, 0, none⟩ 1 1 [.int .u64 (g : Int)] rfl rfl ?c1 ?c2 ?c3 ?c4 ?c5 ?_)
            case c1 => exact cell_one_at _ _ _ _ (by simp)
            case c2 => simp; rfl
            case c3 => unfold maxLen; omega
            case c4 => omega
            case c5 => first | omega | (simp; done) | (simp; omega)
            intro v3 x3 hown3 hg3 _
            have hbw3 : Below w1.heap.size w1 x3 := (hbw2.alloc hs2 _).grown hg3 (by first | omega | (simp; done) | (simp; omega)) (fun k h => (hown2.lt k h).1)
            clear hg3 hown2 hbw2
            go_wp2_with fail
            go_roundw
            case rel => exact ⟨k + 1, acc ++ [g], by omega, by simp; omega, by go_num, by rw [List.length_append, List.map_append]; exact hown3, hbw3, HN⟩
            case measure => simp [intOf]; omega
        | some n =>
          rw [hn] at HB
          obtain ⟨z, hz⟩ : ∃ z : Int, z = (n : Int) := ⟨_, rfl⟩
          replace HB : Hid (Calls Tryz.prog 34 #[.string ⟨p.toArray⟩] wr (GivesV (.tuple #[.int .u64 z, .bool true]) wr)) := Lib.hid (by rw [hz]; exact HB.out)
          cases t with
          | false =>
            have HI0 : (if false = true ∧ ps.drop (k + 1) = [] then fourL p else none) = none := (if_neg (fun h => by cases h.1))
            have HI : Hid ((groupL p = none → rowA false [] ps = none) ∧ ∀ g, groupL p = some g → rowA false (acc ++ [g]) (ps.drop (k + 1)) = rowA false [] ps) := Lib.hid ⟨fun hg => by rw [← hG.out, HD.out, rowA_none HI0 hg], fun g hg => by rw [← hG.out, HD.out, rowA_group HI0 hg]⟩
            clear HI0
            clear hn hFn hr hz hG HD
            go_wp2_with fail
            refine HB.out.mono ?_
            rintro e x1 ⟨rfl, hx1⟩
            have HR := HQ _ hx1
            have hown1 := own_below hown hx1
            have hbw1 := hbw.trans (hx1.mono hsw)
            have hs1 := hbw1.size
            clear hx1 hcell HB HQ hown hbw
            cases hg : groupL p with
            | none =>
              have HN : Hid (rowA false [] ps = none) := Lib.hid (HI.out.1 hg)
              rw [hg] at HR
              clear hg HI
              go_wp2_with fail
              refine HR.out.mono ?_
              rintro e x2 ⟨⟨q, rfl⟩, hx2⟩
              have hbw2 := hbw1.trans (hx2.mono hs1)
              go_wp2_with fail
              go_ret2
              exact ⟨isRow_none HN.out, hb1.trans (hbw2.mono hz1')⟩
            | some g =>
              have HN : Hid (rowA false (acc ++ [g]) (ps.drop (k + 1)) = rowA false [] ps) := Lib.hid (HI.out.2 g hg)
              rw [hg] at HR
              clear hg HI
              go_wp2_with fail
              refine HR.out.mono ?_
              rintro e x2 ⟨rfl, hx2⟩
              have hown2 := own_below hown1 hx2
              have hbw2 := hbw1.trans (hx2.mono hs1)
              have hs2 := hbw2.size
              clear hx2 HR hown1 hbw1
              go_wp2_with (at_builtin; refine wpList_append_own _ rfl _ _ 65 rfl w1.heap.size 26 i0 (.int .u64 0) 1 8 Tryz.underlying65 hi0 hz0 hz1 hz2 rfl (by decide) _ _ _ rfl (hown2.alloc _) ⟨x2.heap.size, 0, none⟩ 1 1 [.int .u64 (g : Int)] rfl rfl ?c1 ?c2 ?c3 ?c4 ?c5 ?_)
              case c1 => exact cell_one_at _ _ _ _ (by simp)
              case c2 => simp; rfl
              case c3 => unfold maxLen; omega
              case c4 => omega
              case c5 => first | omega | (simp; done) | (simp; omega)
              intro v3 x3 hown3 hg3 _
              have hbw3 : Below w1.heap.size w1 x3 := (hbw2.alloc hs2 _).grown hg3 (by first | omega | (simp; done) | (simp; omega)) (fun k h => (hown2.lt k h).1)
              clear hg3 hown2 hbw2
              go_wp2_with fail
              go_roundw
              case rel => exact ⟨k + 1, acc ++ [g], by omega, by simp; omega, by go_num, by rw [List.length_append, List.map_append]; exact hown3, hbw3, HN⟩
              case measure => simp [intOf]; omega
          | true =>
            have hk1 : ¬ k + 1 = m := fun h => hFn n hn rfl h
            have HI0 : (if true = true ∧ ps.drop (k + 1) = [] then fourL p else none) = none := (if_neg (fun h => hk1 (hr.out.1 h.2)))
            have HI : Hid ((groupL p = none → rowA true [] ps = none) ∧ ∀ g, groupL p = some g → rowA true (acc ++ [g]) (ps.drop (k + 1)) = rowA true [] ps) := Lib.hid ⟨fun hg => by rw [← hG.out, HD.out, rowA_none HI0 hg], fun g hg => by rw [← hG.out, HD.out, rowA_group HI0 hg]⟩
            clear HI0
            have hkm : ((k : Int) == (m : Int) - 1) = false := by rw [beq_eq_false_iff_ne]; omega
            clear hn hFn hr hz hk1 hG HD
            go_wp2_with fail
            refine HB.out.mono ?_
            rintro e x1 ⟨rfl, hx1⟩
            have HR := HQ _ hx1
            have hown1 := own_below hown hx1
            have hbw1 := hbw.trans (hx1.mono hsw)
            have hs1 := hbw1.size
            clear hx1 hcell HB HQ hown hbw
            cases hg : groupL p with
            | none =>
              have HN : Hid (rowA true [] ps = none) := Lib.hid (HI.out.1 hg)
              rw [hg] at HR
              clear hg HI
              go_wp2_with fail
              refine HR.out.mono ?_
              rintro e x2 ⟨⟨q, rfl⟩, hx2⟩
              have hbw2 := hbw1.trans (hx2.mono hs1)
              go_wp2_with fail
              go_ret2
              exact ⟨isRow_none HN.out, hb1.trans (hbw2.mono hz1')⟩
            | some g =>
              have HN : Hid (rowA true (acc ++ [g]) (ps.drop (k + 1)) = rowA true [] ps) := Lib.hid (HI.out.2 g hg)
              rw [hg] at HR
              clear hg HI
              go_wp2_with fail
              refine HR.out.mono ?_
              rintro e x2 ⟨rfl, hx2⟩
              have hown2 := own_below hown1 hx2
              have hbw2 := hbw1.trans (hx2.mono hs1)
              have hs2 := hbw2.size
              clear hx2 HR hown1 hbw1
              go_wp2_with (at_builtin; refine wpList_append_own _ rfl _ _ 65 rfl w1.heap.size 26 i0 (.int .u64 0) 1 8 Tryz.underlying65 hi0 hz0 hz1 hz2 rfl (by decide) _ _ _ rfl (hown2.alloc _) ⟨x2.heap.size, 0, none⟩ 1 1 [.int .u64 (g : Int)] rfl rfl ?c1 ?c2 ?c3 ?c4 ?c5 ?_)
              case c1 => exact cell_one_at _ _ _ _ (by simp)
              case c2 => simp; rfl
              case c3 => unfold maxLen; omega
              case c4 => omega
              case c5 => first | omega | (simp; done) | (simp; omega)
              intro v3 x3 hown3 hg3 _
              have hbw3 : Below w1.heap.size w1 x3 := (hbw2.alloc hs2 _).grown hg3 (by first | omega | (simp; done) | (simp; omega)) (fun k h => (hown2.lt k h).1)
              clear hg3 hown2 hbw2
              go_wp2_with fail
              go_roundw
              case rel => exact ⟨k + 1, acc ++ [g], by omega, by simp; omega, by go_num, by rw [List.length_append, List.map_append]; exact hown3, hbw3, HN⟩
              case measure => simp [intOf]; omega
    · obtain rfl : k = m := by omega
      have HN : Hid (rowA t [] ps = some acc) := Lib.hid (by rw [← hG.out, hm.out, List.drop_length]; rfl)
      obtain ⟨A', cap', rfl, hS', hA'⟩ := own_sl hown
      clear hown hG
      go_wp2_with fail
      go_ret2
      exact ⟨isRow_some HN.out rfl hS' hA', hb1.trans (hbw.mono hz1')⟩

theorem readRow_any (l : List UInt8) (t : Bool) (w : World) (hC : Cons w) (hl : l.length ≤ 100000) :
    Calls Tryz.prog 78 #[.string ⟨l.toArray⟩, .bool t] w (GivesRow (rowL t l) w) := by
  unfold rowL
  by_cases h : l = []
  · rw [if_pos h, h]; exact row_nil t w
  · rw [if_neg h]; exact row_some l t w hC h hl
end Go.Proofs.YtfiocnjogbpgoaaGreatDoor
