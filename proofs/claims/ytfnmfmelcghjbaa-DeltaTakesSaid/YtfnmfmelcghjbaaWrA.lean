/- Package beaconref04's small functions: Varint, add. The reference's zero. -/
import Derived.Test.YtfnmfmelcghjbaaProg
import Derived.WalkKit
import Derived.ProofKit
import Derived.Lib.Hide
import Derived.LoopTactic
import Derived.Outline
import Derived.IntWalk
import Derived.BigQuiet
import Derived.Deep.QuietTactic
import Derived.Laws.Bits64
import Derived.Test.YtfnmfmelcghjbaaWqAll
section
namespace Go.Proofs.Ytfnmfmelcghjbaa
open Go.RowKit Go.Lib Go.Wq
set_option linter.unusedVariables false
set_option linter.unusedSimpArgs false

set_option maxRecDepth 100000 in
theorem info8 : ∃ i : TypeInfo, Try.prog.info? 5 = some i ∧ i.zero = some (.int .u8 0) ∧ i.size = 1 ∧ i.bytes = 1 := by
  refine ⟨_, rfl, ?_, ?_, ?_⟩ <;> kernel_rfl

/-- What has been put so far: the bytes themselves, or so many that they are too many. -/
def Cap (b x : List UInt8) : Prop := (b = x ∧ x.length ≤ 65536) ∨ (65536 < b.length ∧ b.length ≤ 131073 ∧ 65536 < x.length)

theorem Cap.len {b x : List UInt8} (h : Cap b x) : b.length ≤ 131073 := by rcases h with ⟨rfl, h⟩ | ⟨_, h, _⟩ <;> omega
theorem Cap.keep {b x : List UInt8} (h : Cap b x) (hb : 65536 < b.length) (y : List UInt8) : Cap b (x ++ y) := by
  rcases h with ⟨rfl, h⟩ | ⟨h1, h2, h3⟩
  · omega
  · exact Or.inr ⟨h1, h2, by simp; omega⟩
theorem Cap.more {b x : List UInt8} (h : Cap b x) (hb : b.length ≤ 65536) (y : List UInt8) (hy : y.length ≤ 65536) : Cap (b ++ y) (x ++ y) := by
  rcases h with ⟨rfl, h⟩ | ⟨h1, h2, h3⟩
  · by_cases hl : (b ++ y).length ≤ 65536
    · exact Or.inl ⟨rfl, hl⟩
    · exact Or.inr ⟨by omega, by rw [List.length_append]; omega, by omega⟩
  · omega
theorem Cap.much {b x : List UInt8} (h : Cap b x) (hb : b.length ≤ 65536) (y : List UInt8) (hy : 65536 < y.length) : Cap (b ++ y.take 65537) (x ++ y) := by
  rcases h with ⟨rfl, h⟩ | ⟨h1, h2, h3⟩
  · exact Or.inr ⟨by rw [List.length_append, List.length_take]; omega, by rw [List.length_append, List.length_take]; omega, by rw [List.length_append]; omega⟩
  · omega

/-- How adding ends: with bytes that the call owns. -/
def Added (base : Nat) (x : List UInt8) (v : Value) (w : World) (e : Ending) (w' : World) : Prop :=
  ∃ (v' : Value) (b' : List UInt8), e = .returned v' ∧ w'.ownsRow base 5 1 v' b'.length (bcs b') ∧ Cap b' x ∧ Grew w w' v v'

end Go.Proofs.Ytfnmfmelcghjbaa
end

section
namespace Go.Proofs.Ytfnmfmelcghjbaa
open Go.RowKit Go.Lib Go.Wq
set_option linter.unusedVariables false
set_option linter.unusedSimpArgs false
set_option maxRecDepth 100000

theorem w_bits (b : Nat) (w : World) : (callFunc 37 #[.float .f64 b]).run Try.prog w = .ok (.value (.int .u64 b)) w := by
  rw [run_callFunc_extern Try.func37 (by kernel_rfl) (by kernel_rfl) (by kernel_rfl) (e := Extern.MathFloatBits.float64bits) (by kernel_rfl)]; rfl
theorem w_not (x : Bool) (w : World) : (Op.unary .not (.bool x)).run Try.prog w = .ok (.bool (!x)) w := rfl
def zeroV (c : Int) (u : Int) (i : Int) (f : Nat) (bb : Bool) (t : ByteArray) (n : Nat) : Bool :=
  (c == 117 || u == 0) && (c == 105 || i == 0) && (c == 102 || f == 0) && (c == 98 || !bb) && (c == 116 || t.size == 0) && (c == 40 || (n : Int) == 0)

theorem sz (s : ByteArray) : s.data.toList.isEmpty = (s.size == 0) := by
  rw [Bool.eq_iff_iff, List.isEmpty_iff_length_eq_zero, Array.length_toList]
  exact (beq_iff_eq (a := s.size) (b := 0)).symm
theorem ln {α : Type} (l : List α) : l.isEmpty = ((l.length : Int) == 0) := by
  rw [Bool.eq_iff_iff, List.isEmpty_iff_length_eq_zero]; simp
theorem un (u : Nat) : (u == 0) = ((u : Int) == 0) := by rw [Bool.eq_iff_iff]; simp
theorem zV_u (u : Nat) (i : Int) (f : Nat) (bb : Bool) (s : ByteArray) (l : List (List Fld)) : zeroV 117 u i f bb s l.length = zeroBut 'u' (.mk u i f bb s.data.toList l) := by
  simp [zeroV, zeroBut, Fld.U, Fld.I, Fld.F, Fld.B, Fld.T, Fld.L, sz, ln, un]
theorem zV_i (u : Nat) (i : Int) (f : Nat) (bb : Bool) (s : ByteArray) (l : List (List Fld)) : zeroV 105 u i f bb s l.length = zeroBut 'i' (.mk u i f bb s.data.toList l) := by
  simp [zeroV, zeroBut, Fld.U, Fld.I, Fld.F, Fld.B, Fld.T, Fld.L, sz, ln, un]
theorem zV_f (u : Nat) (i : Int) (f : Nat) (bb : Bool) (s : ByteArray) (l : List (List Fld)) : zeroV 102 u i f bb s l.length = zeroBut 'f' (.mk u i f bb s.data.toList l) := by
  simp [zeroV, zeroBut, Fld.U, Fld.I, Fld.F, Fld.B, Fld.T, Fld.L, sz, ln, un]
theorem zV_b (u : Nat) (i : Int) (f : Nat) (bb : Bool) (s : ByteArray) (l : List (List Fld)) : zeroV 98 u i f bb s l.length = zeroBut 'b' (.mk u i f bb s.data.toList l) := by
  simp [zeroV, zeroBut, Fld.U, Fld.I, Fld.F, Fld.B, Fld.T, Fld.L, sz, ln, un]
theorem zV_t (u : Nat) (i : Int) (f : Nat) (bb : Bool) (s : ByteArray) (l : List (List Fld)) : zeroV 116 u i f bb s l.length = zeroBut 't' (.mk u i f bb s.data.toList l) := by
  simp [zeroV, zeroBut, Fld.U, Fld.I, Fld.F, Fld.B, Fld.T, Fld.L, sz, ln, un]
theorem zV_l (u : Nat) (i : Int) (f : Nat) (bb : Bool) (s : ByteArray) (l : List (List Fld)) : zeroV 40 u i f bb s l.length = zeroBut 'l' (.mk u i f bb s.data.toList l) := by
  simp [zeroV, zeroBut, Fld.U, Fld.I, Fld.F, Fld.B, Fld.T, Fld.L, sz, ln, un]
/-- The bytes of some fields, or why there are none. -/
def encSays (s : List UInt8) (fs : List Fld) : List UInt8 × Int :=
  match Go.Wq.shape s with
  | none => ([], 40)
  | some its => match encAll its fs with
    | none => ([], 41)
    | some a => if 65536 < a.length then ([], 3) else (a, 0)

theorem shape_sm {s : List UInt8} {l : List It} (h : Go.Wq.shape s = some l) : l.length ≤ 256 ∧ ∀ x ∈ l, x.Sm := by
  unfold Go.Wq.shape at h
  split at h
  · cases h
  · split at h
    · rename_i l' hp
      injection h with h; subst h
      obtain ⟨h1, h2⟩ := parse_sm _ _ _ _ _ hp (by omega)
      exact ⟨by simp at h1; omega, h2⟩
    · cases h

end Go.Proofs.Ytfnmfmelcghjbaa
end
