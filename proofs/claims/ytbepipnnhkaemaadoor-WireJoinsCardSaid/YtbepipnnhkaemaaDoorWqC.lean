/- There and back; only so. -/
import Derived.Test.YtbepipnnhkaemaaDoorWqB
namespace Go.Wq

theorem only_u {x : Fld} (h : zeroBut 'u' x = true) : x = .mk x.U 0 0 false [] [] := by
  obtain ⟨u, i, f, b, t, l⟩ := x
  simp [zeroBut, Fld.U, Fld.I, Fld.F, Fld.B, Fld.T, Fld.L] at h ⊢
  simp [h]
theorem only_i {x : Fld} (h : zeroBut 'i' x = true) : x = .mk 0 x.I 0 false [] [] := by
  obtain ⟨u, i, f, b, t, l⟩ := x
  simp [zeroBut, Fld.U, Fld.I, Fld.F, Fld.B, Fld.T, Fld.L] at h ⊢
  simp [h]
theorem only_f {x : Fld} (h : zeroBut 'f' x = true) : x = .mk 0 0 x.F false [] [] := by
  obtain ⟨u, i, f, b, t, l⟩ := x
  simp [zeroBut, Fld.U, Fld.I, Fld.F, Fld.B, Fld.T, Fld.L] at h ⊢
  simp [h]
theorem only_b {x : Fld} (h : zeroBut 'b' x = true) : x = .mk 0 0 0 x.B [] [] := by
  obtain ⟨u, i, f, b, t, l⟩ := x
  simp [zeroBut, Fld.U, Fld.I, Fld.F, Fld.B, Fld.T, Fld.L] at h ⊢
  simp [h]
theorem only_t {x : Fld} (h : zeroBut 't' x = true) : x = .mk 0 0 0 false x.T [] := by
  obtain ⟨u, i, f, b, t, l⟩ := x
  simp [zeroBut, Fld.U, Fld.I, Fld.F, Fld.B, Fld.T, Fld.L] at h ⊢
  simp [h]
theorem only_l {x : Fld} (h : zeroBut 'l' x = true) : x = .mk 0 0 0 false [] x.L := by
  obtain ⟨u, i, f, b, t, l⟩ := x
  simp [zeroBut, Fld.U, Fld.I, Fld.F, Fld.B, Fld.T, Fld.L] at h ⊢
  simp [h]

theorem Fld.Ok.hu {x : Fld} (h : x.Ok) : x.U < 2 ^ 64 := by cases h; assumption
theorem Fld.Ok.h0 {x : Fld} (h : x.Ok) : -9223372036854775808 ≤ x.I := by cases h; assumption
theorem Fld.Ok.h1 {x : Fld} (h : x.Ok) : x.I ≤ 9223372036854775807 := by cases h; assumption
theorem Fld.Ok.hf {x : Fld} (h : x.Ok) : x.F < 2 ^ 64 := by cases h; assumption
theorem Fld.Ok.ht {x : Fld} (h : x.Ok) : x.T.length < 2 ^ 63 := by cases h; assumption
theorem Fld.Ok.hn {x : Fld} (h : x.Ok) : x.L.length < 2 ^ 63 := by cases h; assumption
theorem Fld.Ok.hl {x : Fld} (h : x.Ok) : ∀ r ∈ x.L, ∀ y ∈ r, y.Ok := by cases h; assumption

theorem rows_back {s : List UInt8} {enc : List Fld → Option (List UInt8)} {rd : Nat → R (List Fld)}
    (hb : ∀ x a p, enc x = some a → (∀ y ∈ x, y.Ok) → At s p a → rd p = .ok x (p + a.length)) :
    ∀ (l : List (List Fld)) (a : List UInt8) (p : Nat), rows enc l = some a → (∀ x ∈ l, ∀ y ∈ x, y.Ok) → At s p a → rdRows rd l.length p = .ok l (p + a.length) := by
  intro l
  induction l with
  | nil => intro a p h _ _; simp [rows] at h; subst h; simp [rdRows]
  | cons x r ih =>
    intro a p h hok hs
    simp only [rows] at h
    split at h
    · rename_i a1 a2 h1 h2
      injection h with h
      subst h
      have e1 := hb x a1 p h1 (hok x (List.mem_cons_self ..)) hs.left
      have e2 := ih a2 (p + a1.length) h2 (fun y hy => hok y (List.mem_cons_of_mem _ hy)) hs.right
      simp only [List.length_cons, rdRows, e1, e2, List.length_append]
      congr 1
      omega
    · cases h

mutual
theorem back_one (s : List UInt8) : ∀ (it : It) (x : Fld) (a : List UInt8) (p : Nat), encOne it x = some a → x.Ok → At s p a → rdOne s it p = .ok x (p + a.length)
  | .u, x, a, p, h, hx, hs => by
    simp only [encOne] at h
    split at h
    · rename_i hz
      injection h with h
      subst h
      rw [rdOne, rdVar_vint s p _ hx.hu hs]
      exact congrArg (fun y => R.ok y _) (only_u hz).symm
    · cases h
  | .i, x, a, p, h, hx, hs => by
    simp only [encOne] at h
    split at h
    · rename_i hz
      injection h with h
      subst h
      rw [rdOne, rdVar_vint s p _ (zig_lt hx.h0 hx.h1) hs]
      exact congrArg (fun y => R.ok y _) ((congrArg (fun n => Fld.mk 0 n 0 false [] []) (zag_zig _)).trans (only_i hz).symm)
    · cases h
  | .f, x, a, p, h, hx, hs => by
    simp only [encOne] at h
    split at h
    · rename_i hz
      injection h with h
      subst h
      have hl := hs.fits (by simp [bytesOf])
      have ht := hs.take
      rw [bytesOf_length] at hl ht ⊢
      rw [rdOne, if_neg (by omega), ht, numOf_bytesOf, Nat.zero_mul, Nat.zero_add, Nat.mod_eq_of_lt hx.hf]
      exact congrArg (fun y => R.ok y _) (only_f hz).symm
    · cases h
  | .b, x, a, p, h, hx, hs => by
    simp only [encOne] at h
    split at h
    · rename_i hz
      injection h with h
      subst h
      have h0 := hs 0 (by simp)
      simp only [Nat.add_zero, List.getElem?_cons_zero] at h0
      rw [rdOne, h0]
      have e : (if x.B = true then (1 : UInt8) else 0).toNat = if x.B = true then 1 else 0 := by split <;> rfl
      simp only [e]
      rw [if_neg (by split <;> omega)]
      have e2 : ((if x.B = true then 1 else 0 : Nat) == 1) = x.B := by cases x.B <;> rfl
      rw [e2]
      exact congrArg (fun y => R.ok y _) (only_b hz).symm
    · cases h
  | .t, x, a, p, h, hx, hs => by
    simp only [encOne] at h
    split at h
    · rename_i hz
      injection h with h
      subst h
      rw [rdOne, rdVar_vint s p _ (Nat.lt_trans hx.ht (by decide)) hs.left]
      have hr := hs.right
      have hne : vint x.T.length ++ x.T ≠ [] := by
        intro e
        have h1 := congrArg List.length e
        have h2 := vint_pos x.T.length
        rw [List.length_append, List.length_nil] at h1
        omega
      have hfit := hs.fits hne
      rw [List.length_append, ← Nat.add_assoc] at hfit
      simp only []
      rw [if_neg (by omega), hr.take, List.length_append, ← Nat.add_assoc]
      exact congrArg (fun y => R.ok y _) (only_t hz).symm
    · cases h
  | .l its, x, a, p, h, hx, hs => by
    simp only [encOne] at h
    split at h
    · rename_i hz
      split at h
      · rename_i a2 h2
        injection h with h
        subst h
        rw [rdOne, rdVar_vint s p _ (Nat.lt_trans hx.hn (by decide)) hs.left]
        simp only []
        rw [rows_back (fun x a p h1 h2 h3 => back_all s its x a p h1 h2 h3) _ a2 _ h2 hx.hl hs.right]
        simp only [List.length_append, ← Nat.add_assoc]
        exact congrArg (fun y => R.ok y _) (only_l hz).symm
      · cases h
    · cases h
theorem back_all (s : List UInt8) : ∀ (its : List It) (l : List Fld) (a : List UInt8) (p : Nat), encAll its l = some a → (∀ x ∈ l, x.Ok) → At s p a → rdAll s its p = .ok l (p + a.length)
  | [], [], a, p, h, _, _ => by simp only [encAll] at h; injection h with h; subst h; simp [rdAll]
  | [], _ :: _, a, p, h, _, _ => by simp [encAll] at h
  | _ :: _, [], a, p, h, _, _ => by simp [encAll] at h
  | it :: its, x :: r, a, p, h, hx, hs => by
    simp only [encAll] at h
    split at h
    · rename_i a1 a2 h1 h2
      injection h with h
      subst h
      have e1 := back_one s it x a1 p h1 (hx x (List.mem_cons_self ..)) hs.left
      have e2 := back_all s its r a2 (p + a1.length) h2 (fun y hy => hx y (List.mem_cons_of_mem _ hy)) hs.right
      simp only [rdAll, e1, e2, List.length_append]
      congr 1
      omega
    · cases h
end
end Go.Wq
