/- How great the items of a text may be. -/
import Derived.Test.YtbepipnnhkaemaaDoorWqO
namespace Go.Wq
set_option linter.unusedVariables false

theorem letter_size {c : UInt8} {it : It} (h : letter c = some it) : SizeOf.sizeOf it = 1 := by
  unfold letter at h
  split at h
  · cases h; rfl
  · split at h
    · cases h; rfl
    · split at h
      · cases h; rfl
      · split at h
        · cases h; rfl
        · split at h
          · cases h; rfl
          · cases h
theorem parse_size : ∀ (n deep : Nat) (s : List UInt8) (l : List It) (q : List UInt8), parse n deep s = some (l, q) → SizeOf.sizeOf l + 4 * q.length ≤ 4 * s.length + 1 := by
  intro n
  induction n with
  | zero => intro deep s l q h; simp [parse] at h
  | succ n ih =>
    intro deep s l q h
    cases s with
    | nil => simp only [parse] at h; injection h with h; injection h with h1 h2; subst h1; subst h2; simp
    | cons c r =>
      simp only [List.length_cons]
      simp only [parse] at h
      split at h
      · injection h with h; injection h with h1 h2; subst h1; subst h2; simp; omega
      · split at h
        · rename_i it hit
          split at h
          · rename_i l' q' hp
            injection h with h; injection h with h1 h2; subst h1; subst h2
            have e1 := ih _ _ _ _ hp
            have e2 := letter_size hit
            simp only [List.cons.sizeOf_spec]
            omega
          · cases h
        · split at h
          · split at h
            · rename_i inn c' q1 hp
              split at h
              · cases h
              · rename_i hno
                split at h
                · rename_i l' q' hp2
                  injection h with h; injection h with h1 h2; subst h1; subst h2
                  have e1 := ih _ _ _ _ hp
                  simp only [List.length_cons] at e1
                  have e2 := ih _ _ _ _ hp2
                  simp only [List.cons.sizeOf_spec, It.l.sizeOf_spec]
                  omega
                · cases h
            · cases h
          · cases h
theorem shape_size {s : List UInt8} {l : List It} (h : Go.Wq.shape s = some l) : SizeOf.sizeOf l ≤ 1025 := by
  unfold Go.Wq.shape at h
  split at h
  · cases h
  · split at h
    · rename_i l' hp
      injection h with h; subst h
      have h1 := parse_size _ _ _ _ _ hp
      simp at h1; omega
    · cases h
theorem size_mem {its inner : List It} (h : It.l inner ∈ its) : SizeOf.sizeOf inner < SizeOf.sizeOf its := by
  have h1 := List.sizeOf_lt_of_mem h
  have h2 := size_l inner
  omega
theorem or8a : ∀ m : Fin 256, bits BinOp.or IntKind.u8 ((m.val : Nat) : Int) 128 = ((m.val % 128 + 128 : Nat) : Int) := by decide +kernel
theorem or8 (n : Nat) : bits BinOp.or IntKind.u8 ((n : Int) % 256) 128 = ((UInt8.ofNat (n % 128 + 128)).toNat : Int) := by
  have h := or8a ⟨n % 256, Nat.mod_lt _ (by omega)⟩
  have e : (n : Int) % 256 = ((n % 256 : Nat) : Int) := by omega
  rw [e, toNat_ofNat (by omega)]
  rw [h]
  have : n % 256 % 128 = n % 128 := by omega
  simp [this]
end Go.Wq
