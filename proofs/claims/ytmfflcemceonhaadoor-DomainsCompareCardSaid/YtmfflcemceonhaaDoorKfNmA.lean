/- Names of addresses (pure). -/
import Derived.Test.YtmfflcemceonhaaDoorKfPsF
import Derived.Test.YtmfflcemceonhaaDoorKfTxtPl
import Derived.Lib.SplitLaws
import Derived.Lib.Join
namespace Go.Proofs.YtmfflcemceonhaaDoor

/-- What stands between the bytes c. -/
def pieces (l : List UInt8) (c : UInt8) : List (List UInt8) := Lib.splitK [c] 0 (l.count c) l
theorem pieces_one {l : List UInt8} {c : UInt8} (h : c ∉ l) : pieces l c = [l] := by
  unfold pieces; rw [List.count_eq_zero.2 h]; rfl
theorem index_mid {c : UInt8} (b : List UInt8) : ∀ {a : List UInt8}, c ∉ a → Lib.index (a ++ c :: b) [c] = a.length
  | [], _ => by rw [List.nil_append, Lib.index]; simp [List.isPrefixOf]
  | x :: t, h => by
    have hx : x ≠ c := fun e => h (by rw [e]; exact List.mem_cons_self)
    have ih := index_mid b (a := t) (fun e => h (List.mem_cons_of_mem _ e))
    have hp : ([c] : List UInt8).isPrefixOf (x :: (t ++ c :: b)) = false := by simp [List.isPrefixOf, Ne.symm hx]
    rw [List.cons_append, Lib.index, hp, ih]
    have : ((t.length : Int) == -1) = false := by rw [beq_eq_false_iff_ne]; omega
    rw [this]
    simp
theorem pieces_cons {a b : List UInt8} {c : UInt8} (h : c ∉ a) : pieces (a ++ c :: b) c = a :: pieces b c := by
  unfold pieces
  have hc : (a ++ c :: b).count c = b.count c + 1 := by rw [List.count_append, List.count_eq_zero.2 h, List.count_cons_self]; omega
  rw [hc, Lib.splitK, index_mid b h, if_neg (by rw [beq_iff_eq]; omega)]
  simp
end Go.Proofs.YtmfflcemceonhaaDoor
