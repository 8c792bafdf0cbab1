/- Packets that are read: equal bytes. -/
import Derived.Test.YtigbbpgfblnboaaRdE
import Derived.Laws.IdiomStrings
namespace Go.Proofs.Ytigbbpgfblnboaa
open Go.RowKit
set_option linter.unusedVariables false
set_option linter.unusedSimpArgs false

/-- Bytes as a string. -/
def strB (bs : List Nat) : ByteArray := ⟨(bs.map UInt8.ofNat).toArray⟩
theorem strB_inj {xs ys : List Nat} (hx : Byt xs) (hy : Byt ys) (h : strB xs = strB ys) : xs = ys := by
  have h1 : (xs.map UInt8.ofNat).toArray = (ys.map UInt8.ofNat).toArray := congrArg ByteArray.data h
  have h2 : xs.map UInt8.ofNat = ys.map UInt8.ofNat := by simpa using h1
  have h3 := congrArg (List.map UInt8.toNat) h2
  rw [List.map_map, List.map_map] at h3
  have key : ∀ l : List Nat, Byt l → l.map (UInt8.toNat ∘ UInt8.ofNat) = l := by
    intro l hl
    conv => rhs; rw [← List.map_id l]
    apply List.map_congr_left
    intro b hb
    show (UInt8.ofNat b).toNat = b
    rw [UInt8.toNat_ofNat']
    exact Nat.mod_eq_of_lt (hl b hb)
  rwa [key xs hx, key ys hy] at h3
theorem conv_bytes (g off n cap : Nat) (bs : List Nat) (w : World) (hS : SlB w (some ⟨g, off, none⟩) n cap bs) (hb : Byt bs) : (convert 43 9 (.slice (some ⟨g, off, none⟩) n cap)).run Try.prog w = .ok (.string (strB bs)) w := by
  have hl := hS.len
  have h := run_convert_bytes_back (P := Try.prog) w 43 9 5 ⟨g, off, none⟩ cap (bs.map UInt8.ofNat) Try.underlying43 (by kernel_rfl) (by kernel_rfl) (fun j hj => by
    have hj' : j < bs.length := by simpa using hj
    have e : Addr.add ⟨g, off, none⟩ j = ⟨g, off + j, none⟩ := by
      unfold Addr.add
      split
      · rename_i h; subst h; rfl
      · rfl
    rw [e, (hS.byte j (by omega)).1]
    have : bs.getD j 0 = bs[j] := by simp [hj']
    rw [this, List.getElem_map]
    show some (Value.int .u8 (bs[j] : Nat)) = some (Value.int .u8 ((UInt8.ofNat bs[j]).toNat : Nat))
    rw [UInt8.toNat_ofNat', Nat.mod_eq_of_lt (hb _ (List.getElem_mem hj'))])
  rw [List.length_map, ← hl] at h
  exact h
set_option maxHeartbeats 1000000 in
theorem equalB_any (g off n cap g' off' n' cap' : Nat) (xs ys : List Nat) (w : World) (h1 : SlB w (some ⟨g, off, none⟩) n cap xs) (h2 : SlB w (some ⟨g', off', none⟩) n' cap' ys) (hx : Byt xs) (hy : Byt ys) :
    Calls Try.prog 82 #[.slice (some ⟨g, off, none⟩) n cap, .slice (some ⟨g', off', none⟩) n' cap'] w fun e w' => e = .returned (.bool (decide (xs = ys))) ∧ w = w' := by
  have c1 := conv_bytes g off n cap xs w h1 hx
  have c2 := conv_bytes g' off' n' cap' ys w h2 hy
  have hi : strB xs = strB ys ↔ xs = ys := ⟨strB_inj hx hy, fun h => by rw [h]⟩
  have hd : decide (xs = ys) = ((strB xs).toList == (strB ys).toList) := by
    apply Bool.eq_iff_iff.2
    rw [decide_eq_true_iff, beq_iff_eq, ByteArray.toList_eq, ByteArray.toList_eq]
    exact ⟨fun h => by rw [h], fun h => hi.1 (by have := Array.toList_inj.1 h; unfold strB at *; rw [ByteArray.mk.injEq]; exact this)⟩
  rw [hd]
  clear hi hd h1 h2 hx hy
  generalize strB xs = s at c1 ⊢
  generalize strB ys = t at c2 ⊢
  go_enter Try.func82, Try.ntmps82
  go_wp2_with fail
  go_ret
  exact ⟨rfl, rfl⟩
end Go.Proofs.Ytigbbpgfblnboaa
