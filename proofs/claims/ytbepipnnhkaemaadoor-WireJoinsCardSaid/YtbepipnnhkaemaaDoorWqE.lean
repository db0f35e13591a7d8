/- Shapes: texts as items. -/
import Derived.Test.YtbepipnnhkaemaaDoorWqD
namespace Go.Wq

def letter (c : UInt8) : Option It :=
  if c = 117 then some .u else if c = 105 then some .i else if c = 102 then some .f else if c = 98 then some .b else if c = 116 then some .t else none

/-- The items of a text up to its end or a parenthesis, and what is left: none, if there are none. (With fuel: one more than the text is long is enough.) -/
def parse : Nat → Nat → List UInt8 → Option (List It × List UInt8)
  | 0, _, _ => none
  | _ + 1, _, [] => some ([], [])
  | n + 1, deep, c :: r =>
    if c = 41 then some ([], c :: r)
    else match letter c with
      | some it => (match parse n deep r with | some (l, q) => some (it :: l, q) | none => none)
      | none =>
        if c = 40 then
          (match parse n (deep + 1) r with
            | some (inn, _ :: q) => if inn = [] ∨ 8 < deep + 1 then none else (match parse n deep q with | some (l, q') => some (.l inn :: l, q') | none => none)
            | _ => none)
        else none

/-- A text's items, if it is a shape. -/
def shape (s : List UInt8) : Option (List It) :=
  if 256 < s.length then none else match parse (s.length + 1) 0 s with | some (l, []) => some l | _ => none


/-- What is left is a text's end. -/
theorem parse_left : ∀ (n deep : Nat) (s : List UInt8) (l : List It) (q : List UInt8), parse n deep s = some (l, q) → ∃ p, s = p ++ q ∧ (q = [] ∨ ∃ r, q = 41 :: r) := by
  intro n
  induction n with
  | zero => intro deep s l q h; simp [parse] at h
  | succ n ih =>
    intro deep s l q h
    cases s with
    | nil => simp only [parse] at h; injection h with h; injection h with h1 h2; subst h2; exact ⟨[], rfl, Or.inl rfl⟩
    | cons c r =>
      simp only [parse] at h
      split at h
      · rename_i hc
        injection h with h; injection h with h1 h2; subst h2; subst hc
        exact ⟨[], rfl, Or.inr ⟨r, rfl⟩⟩
      · split at h
        · split at h
          · rename_i l' q' hp
            injection h with h; injection h with h1 h2; subst h2
            obtain ⟨p, hs, hq⟩ := ih _ _ _ _ hp
            exact ⟨c :: p, by rw [hs]; rfl, hq⟩
          · cases h
        · split at h
          · split at h
            · rename_i inn c' q1 hp
              split at h
              · cases h
              · split at h
                · rename_i l' q' hp2
                  injection h with h; injection h with h1 h2; subst h2
                  obtain ⟨p, hs, hq⟩ := ih _ _ _ _ hp
                  obtain ⟨p2, hs2, hq2⟩ := ih _ _ _ _ hp2
                  exact ⟨c :: p ++ c' :: p2, by rw [hs, hs2]; simp, hq2⟩
                · cases h
            · cases h
          · cases h

/-- More fuel turns nothing. -/
theorem parse_more : ∀ (n deep : Nat) (s : List UInt8) (x : List It × List UInt8), parse n deep s = some x → ∀ m, n ≤ m → parse m deep s = some x := by
  intro n
  induction n with
  | zero => intro deep s x h; simp [parse] at h
  | succ n ih =>
    intro deep s x h m hm
    obtain ⟨m, rfl⟩ : ∃ k, m = k + 1 := ⟨m - 1, by omega⟩
    cases s with
    | nil => simpa [parse] using h
    | cons c r =>
      simp only [parse] at h ⊢
      split at h
      · rename_i hc; rw [if_pos hc]; exact h
      · rename_i hc
        rw [if_neg hc]
        split at h
        · split at h
          · rename_i l' q' hp
            rw [ih _ _ _ hp m (by omega)]; exact h
          · cases h
        · split at h
          · rename_i h40
            rw [if_pos h40]
            split at h
            · rename_i inn c' q1 hp
              rw [ih _ _ _ hp m (by omega)]
              simp only []
              split at h
              · cases h
              · rename_i hno
                rw [if_neg hno]
                split at h
                · rename_i l' q' hp2
                  rw [ih _ _ _ hp2 m (by omega)]; exact h
                · cases h
            · cases h
          · cases h

/-- What parses whole, with more behind it that parses, parses joined. -/
theorem parse_join : ∀ (n deep : Nat) (s : List UInt8) (l : List It), parse n deep s = some (l, []) → ∀ (t : List UInt8) (m : Nat) (l' : List It) (q : List UInt8), parse m deep t = some (l', q) → parse (n + m) deep (s ++ t) = some (l ++ l', q) := by
  intro n
  induction n with
  | zero => intro deep s l h; simp [parse] at h
  | succ n ih =>
    intro deep s l h t m l' q ht
    cases s with
    | nil =>
      simp only [parse] at h
      injection h with h; injection h with h1 h2; subst h1
      exact parse_more m deep t _ ht _ (by omega)
    | cons c r =>
      rw [show n + 1 + m = (n + m) + 1 by omega]
      simp only [parse, List.cons_append] at h ⊢
      split at h
      · injection h with h; injection h with h1 h2; cases h2
      · rename_i hc
        rw [if_neg hc]
        split at h
        · split at h
          · rename_i l1 q1 hp
            injection h with h; injection h with h1 h2; subst h1; subst h2
            rw [ih _ _ _ hp t m l' q ht]; rfl
          · cases h
        · split at h
          · rename_i h40
            rw [if_pos h40]
            split at h
            · rename_i inn c' q1 hp
              split at h
              · cases h
              · rename_i hno
                split at h
                · rename_i l2 q2 hp2
                  injection h with h; injection h with h1 h2; subst h1; subst h2
                  -- the inner parse, with more behind its parenthesis
                  have hin : parse (n + m) (deep + 1) (r ++ t) = some (inn, c' :: (q1 ++ t)) := by
                    have key : ∀ (n deep : Nat) (s : List UInt8) (l : List It) (c : UInt8) (q : List UInt8), parse n deep s = some (l, c :: q) → ∀ t, parse n deep (s ++ t) = some (l, c :: (q ++ t)) := by
                      intro n
                      induction n with
                      | zero => intro deep s l c q h; simp [parse] at h
                      | succ n ih =>
                        intro deep s l c q h t
                        cases s with
                        | nil => simp only [parse] at h; injection h with h; injection h with h1 h2; cases h2
                        | cons d r =>
                          simp only [parse, List.cons_append] at h ⊢
                          split at h
                          · rename_i hd
                            injection h with h; injection h with h1 h2
                            injection h2 with h2 h3
                            subst h1; subst h2; subst h3
                            rw [if_pos hd]
                          · rename_i hd
                            rw [if_neg hd]
                            split at h
                            · split at h
                              · rename_i l1 q1 hp
                                injection h with h; injection h with h1 h2; subst h1; subst h2
                                rw [ih _ _ _ _ _ hp t]
                              · cases h
                            · split at h
                              · rename_i h40
                                rw [if_pos h40]
                                split at h
                                · rename_i inn c' q1 hp
                                  rw [ih _ _ _ _ _ hp t]
                                  simp only []
                                  split at h
                                  · cases h
                                  · rename_i hno
                                    rw [if_neg hno]
                                    split at h
                                    · rename_i l2 q2 hp2
                                      injection h with h; injection h with h1 h2; subst h1; subst h2
                                      rw [ih _ _ _ _ _ hp2 t]
                                    · cases h
                                · cases h
                              · cases h
                    exact parse_more n _ _ _ (key n _ _ _ _ _ hp t) _ (by omega)
                  rw [hin]
                  simp only []
                  rw [if_neg hno, ih _ _ _ hp2 t m l' q ht]; rfl
                · cases h
            · cases h
          · cases h

theorem letter_ok {c : UInt8} {it : It} (h : letter c = some it) : it.Ok := by
  unfold letter at h
  split at h
  · cases h; exact .u
  · split at h
    · cases h; exact .i
    · split at h
      · cases h; exact .f
      · split at h
        · cases h; exact .b
        · split at h
          · cases h; exact .t
          · cases h

/-- Enough fuel is enough. -/
theorem parse_fuel : ∀ (n m deep : Nat) (s : List UInt8), s.length < n → s.length < m → parse n deep s = parse m deep s := by
  intro n
  induction n with
  | zero => intro m deep s h; omega
  | succ n ih =>
    intro m deep s hn hm
    obtain ⟨m, rfl⟩ : ∃ k, m = k + 1 := ⟨m - 1, by omega⟩
    cases s with
    | nil => simp [parse]
    | cons c r =>
      simp only [List.length_cons] at hn hm
      simp only [parse]
      rw [ih m deep r (by omega) (by omega), ih m (deep + 1) r (by omega) (by omega)]
      have hq : ∀ inn c' q, parse m (deep + 1) r = some (inn, c' :: q) → parse n deep q = parse m deep q := by
        intro inn c' q hp
        obtain ⟨p, hr, -⟩ := parse_left _ _ _ _ _ hp
        have hlen : q.length < r.length := by rw [hr]; simp; omega
        exact ih m deep q (by omega) (by omega)
      cases hp : parse m (deep + 1) r with
      | none => rfl
      | some x =>
        obtain ⟨inn, q⟩ := x
        cases q with
        | nil => rfl
        | cons c' q => simp only [hq inn c' q hp]

/-- The items of a text are such as may be. -/
theorem parse_ok : ∀ (n deep : Nat) (s : List UInt8) (l : List It) (q : List UInt8), parse n deep s = some (l, q) → ∀ x ∈ l, x.Ok := by
  intro n
  induction n with
  | zero => intro deep s l q h; simp [parse] at h
  | succ n ih =>
    intro deep s l q h
    cases s with
    | nil => simp only [parse] at h; injection h with h; injection h with h1 h2; subst h1; simp
    | cons c r =>
      simp only [parse] at h
      split at h
      · injection h with h; injection h with h1 h2; subst h1; simp
      · split at h
        · rename_i it hit
          split at h
          · rename_i l' q' hp
            injection h with h; injection h with h1 h2; subst h1
            intro x hx
            rcases List.mem_cons.1 hx with rfl | hx
            · exact letter_ok hit
            · exact ih _ _ _ _ hp x hx
          · cases h
        · split at h
          · split at h
            · rename_i inn c' q1 hp
              split at h
              · cases h
              · rename_i hno
                split at h
                · rename_i l' q' hp2
                  injection h with h; injection h with h1 h2; subst h1
                  intro x hx
                  rcases List.mem_cons.1 hx with rfl | hx
                  · exact .l (fun e => hno (Or.inl e)) (ih _ _ _ _ hp)
                  · exact ih _ _ _ _ hp2 x hx
                · cases h
            · cases h
          · cases h

theorem shape_ok {s : List UInt8} {l : List It} (h : shape s = some l) : ∀ x ∈ l, x.Ok := by
  unfold shape at h
  split at h
  · cases h
  · split at h
    · rename_i l' hp
      injection h with h; subst h
      exact parse_ok _ _ _ _ _ hp
    · cases h
theorem shape_join {s t : List UInt8} {l m : List It} (hs : shape s = some l) (ht : shape t = some m) (hn : s.length + t.length ≤ 256) : shape (s ++ t) = some (l ++ m) := by
  unfold shape at hs ht ⊢
  split at hs
  · cases hs
  · split at ht
    · cases ht
    · split at hs
      · rename_i l' hp
        injection hs with hs; subst hs
        split at ht
        · rename_i m' hp2
          injection ht with ht; subst ht
          have hj := parse_join _ _ _ _ hp _ _ _ _ hp2
          rw [if_neg (by simp; omega)]
          rw [parse_fuel _ (s.length + 1 + (t.length + 1)) _ _ (by simp) (by simp; omega), hj]
        · cases ht
      · cases hs
end Go.Wq
