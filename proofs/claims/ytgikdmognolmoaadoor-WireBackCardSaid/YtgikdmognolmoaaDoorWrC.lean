/- The reference's put: fields behind bytes. -/
import Derived.Test.YtgikdmognolmoaaDoorWrB
import Derived.Test.YtgikdmognolmoaaDoorWqAll
import Derived.StillTailTactics
import Derived.RegionCalls
import Derived.Deep.RegionWith
namespace Go.Proofs.YtgikdmognolmoaaDoor
open Go.RowKit Go.Lib Go.Wq
set_option linter.unusedVariables false
set_option linter.unusedSimpArgs false
set_option maxRecDepth 100000

theorem w_store (a : Addr) (n : Nat) (m : Mode) (w : World) : (store a (.float .f64 n) m).run Tryd.prog w = stored Tryd.prog w a (.float .f64 n) m := run_store Tryd.prog w a _ m rfl
theorem sz (s : ByteArray) : s.data.toList.isEmpty = (s.size == 0) := by
  rw [Bool.eq_iff_iff, List.isEmpty_iff_length_eq_zero, Array.length_toList]
  exact (beq_iff_eq (a := s.size) (b := 0)).symm
theorem ln {α : Type} (l : List α) : l.isEmpty = ((l.length : Int) == 0) := by
  rw [Bool.eq_iff_iff, List.isEmpty_iff_length_eq_zero]; simp
theorem un (u : Nat) : (u == 0) = ((u : Int) == 0) := by rw [Bool.eq_iff_iff]; simp
theorem zV_u (u : Nat) (i : Int) (f : Nat) (bb : Bool) (s : ByteArray) (l : List (List Fld)) : zeroV 117 u i f bb s l.length = zeroBut 'u' (.mk u i f bb s.data.toList l) := by
  simp [zeroV, zeroBut, Fld.U, Fld.I, Fld.F, Fld.B, Fld.T, Fld.L, sz, ln, un]
theorem zV_i (u : Nat) (i : Int) (f : Nat) (bb : Bool) (s : ByteArray) (l : List (List Fld)) : zeroV 105 u i f bb s l.length = zeroBut 'i' (.mk u i f bb s.data.toList l) := by
  simp [zeroV, zeroBut, Fld.U, Fld.I, Fld.F, Fld.B, Fld.T, Fld.L, sz, ln, un]
theorem zV_f (u : Nat) (i : Int) (f : Nat) (bb : Bool) (s : ByteArray) (l : List (List Fld)) : zeroV 102 u i f bb s l.length = zeroBut 'f' (.mk u i f bb s.data.toList l) := by
  simp [zeroV, zeroBut, Fld.U, Fld.I, Fld.F, Fld.B, Fld.T, Fld.L, sz, ln, un]
theorem zV_b (u : Nat) (i : Int) (f : Nat) (bb : Bool) (s : ByteArray) (l : List (List Fld)) : zeroV 98 u i f bb s l.length = zeroBut 'b' (.mk u i f bb s.data.toList l) := by
  simp [zeroV, zeroBut, Fld.U, Fld.I, Fld.F, Fld.B, Fld.T, Fld.L, sz, ln, un]
theorem zV_t (u : Nat) (i : Int) (f : Nat) (bb : Bool) (s : ByteArray) (l : List (List Fld)) : zeroV 116 u i f bb s l.length = zeroBut 't' (.mk u i f bb s.data.toList l) := by
  simp [zeroV, zeroBut, Fld.U, Fld.I, Fld.F, Fld.B, Fld.T, Fld.L, sz, ln, un]
theorem zV_l (u : Nat) (i : Int) (f : Nat) (bb : Bool) (s : ByteArray) (l : List (List Fld)) : zeroV 40 u i f bb s l.length = zeroBut 'l' (.mk u i f bb s.data.toList l) := by
  simp [zeroV, zeroBut, Fld.U, Fld.I, Fld.F, Fld.B, Fld.T, Fld.L, sz, ln, un]
theorem mk_size (l : List UInt8) : (⟨l.toArray⟩ : ByteArray).size = l.length := rfl
theorem one_byte (c : UInt8) (x : Int) (hx : x = (c.toNat : Int)) (w : World) : (convert 56 9 (.slice (some ⟨w.heap.size, 0, none⟩) 1 1)).run Tryd.prog (w.alloc (.cells #[.int .u8 x] 5)) = .ok (.string ⟨#[c]⟩) (w.alloc (.cells #[.int .u8 x] 5)) := by
  subst hx
  exact run_convert_bytes_back (P := Tryd.prog) (w.alloc (.cells #[.int .u8 (c.toNat : Int)] 5)) 56 9 5 ⟨w.heap.size, 0, none⟩ 1 [c] Tryd.underlying56 Tryd.underlying5 Tryd.underlying9 (fun j hj => by
    have : j = 0 := by simp at hj; omega
    subst this
    simp [Addr.add])
/-- How put ends. -/
def PutEnds (base : Nat) (its : List It) (fs : List Fld) (x : List UInt8) (v : Value) (w : World) (e : Ending) (w' : World) : Prop :=
  match encAll its fs with
  | some a => ∃ (v' : Value) (b' : List UInt8), e = .returned (.tuple #[v', .bool true]) ∧ w'.ownsRow base 5 1 v' b'.length (bcs b') ∧ Cap b' (x ++ a) ∧ Grew w w' v v'
  | none => ∃ v' : Value, e = .returned (.tuple #[v', .bool false]) ∧ Below base w w'

theorem put_none {base : Nat} {its : List It} {fs : List Fld} {x : List UInt8} {v v' : Value} {w w' : World} (h : encAll its fs = none) (hb : Below base w w') : PutEnds base its fs x v w (.returned (.tuple #[v', .bool false])) w' := by
  unfold PutEnds; rw [h]; exact ⟨v', rfl, hb⟩
theorem put_some {base : Nat} {its : List It} {fs : List Fld} {x a : List UInt8} {v v' : Value} {w w' : World} {b' : List UInt8} (h : encAll its fs = some a) (ho : w'.ownsRow base 5 1 v' b'.length (bcs b')) (hc : Cap b' (x ++ a)) (hg : Grew w w' v v') :
    PutEnds base its fs x v w (.returned (.tuple #[v', .bool true])) w' := by
  unfold PutEnds; rw [h]; exact ⟨v', b', rfl, ho, hc, hg⟩

theorem own_below {w w' : World} {base e size : Nat} {v : Value} {n : Nat} {xs : List Value} (h : w.ownsRow base e size v n xs) (b : Below w.heap.size w w') : w'.ownsRow base e size v n xs :=
  h.kept (row := none) ⟨b.os, b.tape, b.output, b.size, fun k hk _ => b.block k hk⟩ (by cases v.ownBlock <;> simp)

end Go.Proofs.YtgikdmognolmoaaDoor
