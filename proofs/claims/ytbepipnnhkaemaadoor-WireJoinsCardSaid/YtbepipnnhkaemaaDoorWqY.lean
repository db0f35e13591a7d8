/- A text's bytes as a list, by either road. -/
import Derived.Test.YtbepipnnhkaemaaDoorWqF
namespace Go.Wq
theorem loop_eq (bs : ByteArray) : ∀ (k i : Nat) (r : List UInt8), bs.size - i = k → ByteArray.toList.loop bs i r = r.reverse ++ bs.data.toList.drop i := by
  intro k
  induction k with
  | zero =>
    intro i r h
    rw [ByteArray.toList.loop, if_neg (by omega)]
    rw [List.drop_eq_nil_of_le (by rw [Array.length_toList]; show bs.size ≤ i; omega), List.append_nil]
  | succ k ih =>
    intro i r h
    have hi : i < bs.size := by omega
    rw [ByteArray.toList.loop, if_pos hi, ih (i + 1) _ (by omega)]
    have hd : bs.data.toList.drop i = bs.data.toList[i]'(by rw [Array.length_toList]; exact hi) :: bs.data.toList.drop (i + 1) := List.drop_eq_getElem_cons (by rw [Array.length_toList]; exact hi)
    have hg : bs.get! i = bs.data.toList[i]'(by rw [Array.length_toList]; exact hi) := by
      have h2 : i < bs.data.size := hi
      show bs.data[i]! = _
      rw [getElem!_pos bs.data i h2]
      simp
    rw [hd, List.reverse_cons, hg]
    simp
theorem toList_data (bs : ByteArray) : bs.toList = bs.data.toList := by
  have := loop_eq bs bs.size 0 [] (by omega)
  show ByteArray.toList.loop bs 0 [] = _
  rw [this]; simp
theorem toList_ne {s t : ByteArray} (h : s ≠ t) : (s.toList == t.toList) = false := by
  apply beq_eq_false_iff_ne.2
  intro e
  rw [toList_data, toList_data] at e
  exact h (ByteArray.ext (Array.toList_inj.1 e))
end Go.Wq
