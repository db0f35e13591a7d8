/- What is read is what is written: only so. Unlike fields have unlike bytes. -/
import Derived.Test.YtbepipnnhkaemaaDoorWqC
namespace Go.Wq

/-- A list's items are one at least. -/
inductive It.Ok : It → Prop where
  | u : It.Ok .u
  | i : It.Ok .i
  | f : It.Ok .f
  | b : It.Ok .b
  | t : It.Ok .t
  | l {its : List It} (h : its ≠ []) (g : ∀ x ∈ its, It.Ok x) : It.Ok (.l its)

theorem enc_pos {it : It} {x : Fld} {a : List UInt8} (h : encOne it x = some a) : 0 < a.length := by
  have hv := fun n => vint_pos n
  cases it <;> simp only [encOne] at h <;> split at h <;> try (cases h; done)
  · injection h with h; subst h; exact hv _
  · injection h with h; subst h; exact hv _
  · injection h with h; subst h; rw [bytesOf_length]; omega
  · injection h with h; subst h; simp
  · injection h with h; subst h; have := hv x.T.length; simp; omega
  · split at h
    · injection h with h; subst h; have := hv x.L.length; simp; omega
    · cases h
theorem encAll_pos {its : List It} {l : List Fld} {a : List UInt8} (hne : its ≠ []) (h : encAll its l = some a) : 0 < a.length := by
  cases its with
  | nil => exact absurd rfl hne
  | cons it its =>
    cases l with
    | nil => simp [encAll] at h
    | cons x r =>
      simp only [encAll] at h
      split at h
      · rename_i a1 a2 h1 h2
        injection h with h
        subst h
        have := enc_pos h1
        simp; omega
      · cases h

theorem rows_pos {enc : List Fld → Option (List UInt8)} (hp : ∀ x a, enc x = some a → 0 < a.length) : ∀ (l : List (List Fld)) (a : List UInt8), rows enc l = some a → l.length ≤ a.length := by
  intro l
  induction l with
  | nil => intro a _; simp
  | cons x r ih =>
    intro a h
    simp only [rows] at h
    split at h
    · rename_i a1 a2 h1 h2
      injection h with h
      subst h
      have := hp x a1 h1
      have := ih a2 h2
      simp; omega
    · cases h

theorem rows_only {s : List UInt8} {enc : List Fld → Option (List UInt8)} {rd : Nat → R (List Fld)}
    (hb : ∀ x p q, rd p = .ok x q → ∃ a, enc x = some a ∧ (∀ y ∈ x, y.Ok) ∧ At s p a ∧ q = p + a.length) :
    ∀ (n p : Nat) (l : List (List Fld)) (q : Nat), rdRows rd n p = .ok l q → l.length = n ∧ ∃ a, rows enc l = some a ∧ (∀ x ∈ l, ∀ y ∈ x, y.Ok) ∧ At s p a ∧ q = p + a.length := by
  intro n
  induction n with
  | zero =>
    intro p l q h
    simp only [rdRows] at h
    injection h with h1 h2
    subst h1; subst h2
    exact ⟨rfl, [], rfl, by simp, At.nil s _, rfl⟩
  | succ n ih =>
    intro p l q h
    simp only [rdRows] at h
    cases hg : rd p with
    | bad e q' => simp [hg] at h
    | ok x q1 =>
      simp only [hg] at h
      cases hr : rdRows rd n q1 with
      | bad e q' => simp [hr] at h
      | ok r q2 =>
        simp only [hr] at h
        injection h with h1 h2
        subst h1; subst h2
        obtain ⟨a1, e1, o1, s1, rfl⟩ := hb x p q1 hg
        obtain ⟨hl, a2, e2, o2, s2, rfl⟩ := ih _ r q2 hr
        refine ⟨by simp [hl], a1 ++ a2, by simp only [rows, e1, e2], ?_, s1.join s2, by simp; omega⟩
        intro y hy
        rcases List.mem_cons.1 hy with rfl | hy
        · exact o1
        · exact o2 y hy

mutual
theorem only_one (s : List UInt8) (hs : s.length < 2 ^ 63) : ∀ (it : It) (_ : it.Ok) (x : Fld) (p q : Nat), rdOne s it p = .ok x q → ∃ a, encOne it x = some a ∧ x.Ok ∧ At s p a ∧ q = p + a.length
  | .u, _, x, p, q, h => by
    simp only [rdOne] at h
    split at h
    · rename_i n q' hr
      injection h with h1 h2
      subst h1; subst h2
      obtain ⟨hn, hq, hl, hat⟩ := rdVar_only hr
      exact ⟨vint n, by simp [encOne, zeroBut, Fld.U, Fld.I, Fld.F, Fld.B, Fld.T, Fld.L], .mk hn (by omega) (by omega) (by omega) (by simp) (by simp) (by simp), hat, hq⟩
    · cases h
  | .i, _, x, p, q, h => by
    simp only [rdOne] at h
    split at h
    · rename_i n q' hr
      injection h with h1 h2
      subst h1; subst h2
      obtain ⟨hn, hq, hl, hat⟩ := rdVar_only hr
      obtain ⟨z0, z1⟩ := zag_range hn
      exact ⟨vint n, by simp [encOne, zeroBut, Fld.U, Fld.I, Fld.F, Fld.B, Fld.T, Fld.L, zig_zag], .mk (by omega) z0 z1 (by omega) (by simp) (by simp) (by simp), hat, hq⟩
    · cases h
  | .f, _, x, p, q, h => by
    simp only [rdOne] at h
    split at h
    · cases h
    · rename_i hlt
      injection h with h1 h2
      subst h1; subst h2
      have hlen : ((s.drop p).take 8).length = 8 := by simp; omega
      obtain ⟨b1, b2⟩ := bytesOf_numOf ((s.drop p).take 8) 0
      rw [hlen] at b1 b2
      refine ⟨(s.drop p).take 8, ?_, .mk (by omega) (by omega) (by omega) ?_ (by simp) (by simp) (by simp), At.of_take, by rw [hlen]⟩
      · have hz : zeroBut 'f' (Fld.mk 0 0 (numOf ((s.drop p).take 8) 0) false [] []) = true := by simp [zeroBut, Fld.U, Fld.I, Fld.B, Fld.T, Fld.L]
        simp only [encOne, hz, if_true]
        exact congrArg some b1
      · rw [Nat.zero_mul, Nat.zero_add] at b2
        rw [b2]
        exact Nat.mod_lt _ (by decide)
  | .b, _, x, p, q, h => by
    simp only [rdOne] at h
    split at h
    · cases h
    · rename_i c hc
      split at h
      · cases h
      · rename_i hle
        injection h with h1 h2
        subst h1; subst h2
        refine ⟨[c], ?_, .mk (by omega) (by omega) (by omega) (by omega) (by simp) (by simp) (by simp), ?_, rfl⟩
        · have hz : zeroBut 'b' (Fld.mk 0 0 0 (c.toNat == 1) [] []) = true := by simp [zeroBut, Fld.U, Fld.I, Fld.F, Fld.T, Fld.L]
          simp only [encOne, hz, if_true, Fld.B]
          congr 1
          have : c.toNat = 0 ∨ c.toNat = 1 := by omega
          have hback : UInt8.ofNat c.toNat = c := by simp
          rcases this with h0 | h0 <;> rw [h0] at hback <;> rw [h0] <;> rw [← hback] <;> rfl
        · intro k hk
          have : k = 0 := by simpa using hk
          subst this
          simpa using hc
  | .t, _, x, p, q, h => by
    simp only [rdOne] at h
    split at h
    · rename_i n q' hr
      split at h
      · cases h
      · rename_i hle
        injection h with h1 h2
        subst h1; subst h2
        obtain ⟨hn, hq, hl, hat⟩ := rdVar_only hr
        have hlen : ((s.drop q').take n).length = n := by simp; omega
        refine ⟨vint n ++ (s.drop q').take n, ?_, .mk (by omega) (by omega) (by omega) (by omega) (by omega) (by simp) (by simp), ?_, ?_⟩
        · simp [encOne, zeroBut, Fld.U, Fld.I, Fld.F, Fld.B, Fld.T, Fld.L]
          have : min n (s.length - q') = n := by omega
          rw [this]
        · subst hq
          exact At.join hat At.of_take
        · rw [List.length_append, hlen, hq]; omega
    · cases h
  | .l its, hok, x, p, q, h => by
    simp only [rdOne] at h
    obtain ⟨hne, hg⟩ : its ≠ [] ∧ ∀ y ∈ its, y.Ok := by cases hok; exact ⟨by assumption, by assumption⟩
    split at h
    · rename_i n q' hr
      split at h
      · rename_i rs q2 hrs
        injection h with h1 h2
        subst h1; subst h2
        obtain ⟨hn, hq, hl, hat⟩ := rdVar_only hr
        obtain ⟨hlen, a2, e2, o2, s2, rfl⟩ := rows_only (fun x p q h => only_all s hs its hg x p q h) n q' rs q2 hrs
        have hle := rows_pos (fun x a h => encAll_pos hne h) rs a2 e2
        have hfit : rs.length < 2 ^ 63 := by
          by_cases ha : a2 = []
          · subst ha; simp at hle; rw [hle]; decide
          · have := s2.fits ha; omega
        refine ⟨vint n ++ a2, ?_, .mk (by omega) (by omega) (by omega) (by omega) (by simp) hfit o2, ?_, by simp; omega⟩
        · have hz : zeroBut 'l' (Fld.mk 0 0 0 false [] rs) = true := by simp [zeroBut, Fld.U, Fld.I, Fld.F, Fld.B, Fld.T]
          simp only [encOne, hz, if_true, Fld.L]
          rw [e2, hlen]
        · subst hq
          exact At.join hat s2
      · cases h
    · cases h
theorem only_all (s : List UInt8) (hs : s.length < 2 ^ 63) : ∀ (its : List It) (_ : ∀ y ∈ its, y.Ok) (l : List Fld) (p q : Nat), rdAll s its p = .ok l q → ∃ a, encAll its l = some a ∧ (∀ x ∈ l, x.Ok) ∧ At s p a ∧ q = p + a.length
  | [], _, l, p, q, h => by
    simp only [rdAll] at h
    injection h with h1 h2
    subst h1; subst h2
    exact ⟨[], by simp [encAll], by simp, At.nil s _, rfl⟩
  | it :: its, hok, l, p, q, h => by
    simp only [rdAll] at h
    split at h
    · cases h
    · rename_i x q1 h1
      split at h
      · cases h
      · rename_i r q2 h2
        injection h with e1 e2
        subst e1; subst e2
        obtain ⟨a1, g1, o1, s1, rfl⟩ := only_one s hs it (hok it (List.mem_cons_self ..)) x p q1 h1
        obtain ⟨a2, g2, o2, s2, rfl⟩ := only_all s hs its (fun y hy => hok y (List.mem_cons_of_mem _ hy)) r _ q2 h2
        refine ⟨a1 ++ a2, by simp only [encAll, g1, g2], ?_, s1.join s2, by simp; omega⟩
        intro y hy
        rcases List.mem_cons.1 hy with rfl | hy
        · exact o1
        · exact o2 y hy
end

theorem At.self (a b : List UInt8) : At (a ++ b) 0 a := fun k hk => by rw [Nat.zero_add, List.getElem?_append_left hk]

/-- Unlike fields have unlike bytes. -/
theorem enc_inj {its : List It} {l m : List Fld} {a : List UInt8} (hl : ∀ x ∈ l, x.Ok) (hm : ∀ x ∈ m, x.Ok) (h1 : encAll its l = some a) (h2 : encAll its m = some a) : l = m := by
  have e1 := back_all a its l a 0 h1 hl (by simpa using At.self a [])
  have e2 := back_all a its m a 0 h2 hm (by simpa using At.self a [])
  rw [e1] at e2
  injection e2

/-- Two shapes' bytes, one behind the other, are those of the shapes joined. -/
theorem enc_join : ∀ (its its' : List It) (l m : List Fld) (a b : List UInt8), encAll its l = some a → encAll its' m = some b → encAll (its ++ its') (l ++ m) = some (a ++ b) := by
  intro its
  induction its with
  | nil =>
    intro its' l m a b h1 h2
    cases l with
    | nil => simp only [encAll] at h1; injection h1 with h1; subst h1; simpa using h2
    | cons x r => simp [encAll] at h1
  | cons it its ih =>
    intro its' l m a b h1 h2
    cases l with
    | nil => simp [encAll] at h1
    | cons x r =>
      simp only [encAll] at h1
      split at h1
      · rename_i a1 a2 g1 g2
        injection h1 with h1
        subst h1
        have := ih its' r m a2 b g2 h2
        simp only [List.cons_append, encAll, g1, this, List.append_assoc]
      · cases h1
end Go.Wq
