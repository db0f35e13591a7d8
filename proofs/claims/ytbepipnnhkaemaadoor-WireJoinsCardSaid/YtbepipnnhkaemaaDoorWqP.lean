/- Fields and items in memory. -/
import Derived.Test.YtbepipnnhkaemaaDoorWqG
namespace Go.Wq
set_option linter.unusedVariables false
open Go.RowKit Go.Lib

mutual
/-- A field at a place below block B. -/
def FldIn (w : World) (B : Nat) : Fld → Nat → Nat → Prop
  | .mk u i f bb t l, b, o => b < B ∧ w.cell? ⟨b, o, none⟩ = some (.int .u64 (u : Int)) ∧ w.cell? ⟨b, o + 1, none⟩ = some (.int .i64 i) ∧ w.cell? ⟨b, o + 2, none⟩ = some (.float .f64 f) ∧ w.cell? ⟨b, o + 3, none⟩ = some (.bool bb) ∧
      (∃ s : ByteArray, s.data.toList = t ∧ w.cell? ⟨b, o + 4, none⟩ = some (.string s)) ∧ ∃ (ra : Option Addr) (rn rc : Nat), w.cell? ⟨b, o + 5, none⟩ = some (.slice ra rn rc) ∧ RowsIn w B l ra rn
def RowsIn (w : World) (B : Nat) : List (List Fld) → Option Addr → Nat → Prop
  | [], _, n => n = 0
  | r :: l, a, n => ∃ b o m, a = some ⟨b, o, none⟩ ∧ n = m + 1 ∧ b < B ∧ (∃ (sa : Option Addr) (sn sc : Nat), w.cell? ⟨b, o, none⟩ = some (.slice sa sn sc) ∧ FldsIn w B r sa sn) ∧ RowsIn w B l (some ⟨b, o + 1, none⟩) m
def FldsIn (w : World) (B : Nat) : List Fld → Option Addr → Nat → Prop
  | [], _, n => n = 0
  | x :: r, a, n => ∃ b o m, a = some ⟨b, o, none⟩ ∧ n = m + 1 ∧ FldIn w B x b o ∧ FldsIn w B r (some ⟨b, o + 6, none⟩) m
end

theorem FldsIn.len {w : World} {B : Nat} : ∀ {l : List Fld} {a : Option Addr} {n : Nat}, FldsIn w B l a n → n = l.length
  | [], a, n, h => by simpa [FldsIn] using h
  | x :: r, a, n, h => by
    simp only [FldsIn] at h
    obtain ⟨b, o, m, rfl, rfl, h1, h2⟩ := h
    simp [FldsIn.len h2]
theorem RowsIn.len {w : World} {B : Nat} : ∀ {l : List (List Fld)} {a : Option Addr} {n : Nat}, RowsIn w B l a n → n = l.length
  | [], a, n, h => by simpa [RowsIn] using h
  | x :: r, a, n, h => by
    simp only [RowsIn] at h
    obtain ⟨b, o, m, rfl, rfl, h0, h1, h2⟩ := h
    simp [RowsIn.len h2]
theorem FldsIn.at {w : World} {B : Nat} : ∀ {l : List Fld} {a : Option Addr} {n : Nat}, FldsIn w B l a n → ∀ (k : Nat) (hk : k < l.length), ∃ b o, a = some ⟨b, o, none⟩ ∧ FldIn w B l[k] b (o + k * 6)
  | [], a, n, h, k, hk => by simp at hk
  | x :: r, a, n, h, k, hk => by
    simp only [FldsIn] at h
    obtain ⟨b, o, m, rfl, rfl, h1, h2⟩ := h
    cases k with
    | zero => exact ⟨b, o, rfl, by simpa using h1⟩
    | succ k =>
      obtain ⟨b', o', e, h3⟩ := FldsIn.at h2 k (by simpa using hk)
      injection e with e
      injection e with e1 e2 _
      subst e1; subst e2
      refine ⟨b, o, rfl, ?_⟩
      rw [show o + (k + 1) * 6 = o + 6 + k * 6 by omega]
      exact h3
theorem RowsIn.at {w : World} {B : Nat} : ∀ {l : List (List Fld)} {a : Option Addr} {n : Nat}, RowsIn w B l a n → ∀ (k : Nat) (hk : k < l.length), ∃ b o, a = some ⟨b, o, none⟩ ∧ b < B ∧ ∃ (sa : Option Addr) (sn sc : Nat), w.cell? ⟨b, o + k, none⟩ = some (.slice sa sn sc) ∧ FldsIn w B l[k] sa sn
  | [], a, n, h, k, hk => by simp at hk
  | x :: r, a, n, h, k, hk => by
    simp only [RowsIn] at h
    obtain ⟨b, o, m, rfl, rfl, hb, h1, h2⟩ := h
    cases k with
    | zero => exact ⟨b, o, rfl, hb, h1⟩
    | succ k =>
      obtain ⟨b', o', e, hb', h3⟩ := RowsIn.at h2 k (by simpa using hk)
      injection e with e
      injection e with e1 e2 _
      subst e1; subst e2
      refine ⟨b, o, rfl, hb, ?_⟩
      rw [show o + (k + 1) = o + 1 + k by omega]
      exact h3

mutual
theorem FldIn.kept {w w' : World} {B : Nat} (h : ∀ k, k < B → w'.heap[k]? = w.heap[k]?) : ∀ (x : Fld) (b o : Nat), FldIn w B x b o → FldIn w' B x b o
  | .mk u i f bb t l, b, o, hx => by
    simp only [FldIn] at hx ⊢
    obtain ⟨hb, c0, c1, c2, c3, ⟨s, hs, c4⟩, ra, rn, rc, c5, hr⟩ := hx
    have e : ∀ k, w'.cell? ⟨b, k, none⟩ = w.cell? ⟨b, k, none⟩ := fun k => World.cell?_of_block (h b hb)
    exact ⟨hb, (e _).trans c0, (e _).trans c1, (e _).trans c2, (e _).trans c3, ⟨s, hs, (e _).trans c4⟩, ra, rn, rc, (e _).trans c5, RowsIn.kept h l ra rn hr⟩
theorem RowsIn.kept {w w' : World} {B : Nat} (h : ∀ k, k < B → w'.heap[k]? = w.heap[k]?) : ∀ (l : List (List Fld)) (a : Option Addr) (n : Nat), RowsIn w B l a n → RowsIn w' B l a n
  | [], a, n, hx => by simpa [RowsIn] using hx
  | r :: l, a, n, hx => by
    simp only [RowsIn] at hx ⊢
    obtain ⟨b, o, m, ha, hn, hb, ⟨sa, sn, sc, c, h1⟩, h2⟩ := hx
    have e : ∀ k, w'.cell? ⟨b, k, none⟩ = w.cell? ⟨b, k, none⟩ := fun k => World.cell?_of_block (h b hb)
    exact ⟨b, o, m, ha, hn, hb, ⟨sa, sn, sc, (e _).trans c, FldsIn.kept h r sa sn h1⟩, RowsIn.kept h l _ m h2⟩
theorem FldsIn.kept {w w' : World} {B : Nat} (h : ∀ k, k < B → w'.heap[k]? = w.heap[k]?) : ∀ (l : List Fld) (a : Option Addr) (n : Nat), FldsIn w B l a n → FldsIn w' B l a n
  | [], a, n, hx => by simpa [FldsIn] using hx
  | x :: l, a, n, hx => by
    simp only [FldsIn] at hx ⊢
    obtain ⟨b, o, m, ha, hn, h1, h2⟩ := hx
    exact ⟨b, o, m, ha, hn, FldIn.kept h x b o h1, FldsIn.kept h l _ m h2⟩
end

def It.code : It → Int
  | .u => 117 | .i => 105 | .f => 102 | .b => 98 | .t => 116 | .l _ => 40
mutual
/-- An item at a place below block B. -/
def ItIn (w : World) (B : Nat) : It → Nat → Nat → Prop
  | .l its, b, o => b < B ∧ w.cell? ⟨b, o, none⟩ = some (.int .u8 40) ∧ ∃ (a : Option Addr) (n c : Nat), w.cell? ⟨b, o + 1, none⟩ = some (.slice a n c) ∧ ItsIn w B its a n
  | .u, b, o => b < B ∧ w.cell? ⟨b, o, none⟩ = some (.int .u8 117)
  | .i, b, o => b < B ∧ w.cell? ⟨b, o, none⟩ = some (.int .u8 105)
  | .f, b, o => b < B ∧ w.cell? ⟨b, o, none⟩ = some (.int .u8 102)
  | .b, b, o => b < B ∧ w.cell? ⟨b, o, none⟩ = some (.int .u8 98)
  | .t, b, o => b < B ∧ w.cell? ⟨b, o, none⟩ = some (.int .u8 116)
def ItsIn (w : World) (B : Nat) : List It → Option Addr → Nat → Prop
  | [], _, n => n = 0
  | x :: r, a, n => ∃ b o m, a = some ⟨b, o, none⟩ ∧ n = m + 1 ∧ ItIn w B x b o ∧ ItsIn w B r (some ⟨b, o + 2, none⟩) m
end
theorem ItsIn.len {w : World} {B : Nat} : ∀ {l : List It} {a : Option Addr} {n : Nat}, ItsIn w B l a n → n = l.length
  | [], a, n, h => by simpa [ItsIn] using h
  | x :: r, a, n, h => by
    simp only [ItsIn] at h
    obtain ⟨b, o, m, rfl, rfl, h1, h2⟩ := h
    simp [ItsIn.len h2]
theorem ItsIn.at {w : World} {B : Nat} : ∀ {l : List It} {a : Option Addr} {n : Nat}, ItsIn w B l a n → ∀ (k : Nat) (hk : k < l.length), ∃ b o, a = some ⟨b, o, none⟩ ∧ ItIn w B l[k] b (o + k * 2)
  | [], a, n, h, k, hk => by simp at hk
  | x :: r, a, n, h, k, hk => by
    simp only [ItsIn] at h
    obtain ⟨b, o, m, rfl, rfl, h1, h2⟩ := h
    cases k with
    | zero => exact ⟨b, o, rfl, by simpa using h1⟩
    | succ k =>
      obtain ⟨b', o', e, h3⟩ := ItsIn.at h2 k (by simpa using hk)
      injection e with e
      injection e with e1 e2 _
      subst e1; subst e2
      refine ⟨b, o, rfl, ?_⟩
      rw [show o + (k + 1) * 2 = o + 2 + k * 2 by omega]
      exact h3
mutual
theorem ItIn.kept {w w' : World} {B : Nat} (h : ∀ k, k < B → w'.heap[k]? = w.heap[k]?) : ∀ (x : It) (b o : Nat), ItIn w B x b o → ItIn w' B x b o
  | .l its, b, o, hx => by
    simp only [ItIn] at hx ⊢
    obtain ⟨hb, c0, a, n, c, c1, h1⟩ := hx
    have e : ∀ k, w'.cell? ⟨b, k, none⟩ = w.cell? ⟨b, k, none⟩ := fun k => World.cell?_of_block (h b hb)
    exact ⟨hb, (e _).trans c0, a, n, c, (e _).trans c1, ItsIn.kept h its a n h1⟩
  | .u, b, o, hx => by simp only [ItIn] at hx ⊢; exact ⟨hx.1, (World.cell?_of_block (h b hx.1)).trans hx.2⟩
  | .i, b, o, hx => by simp only [ItIn] at hx ⊢; exact ⟨hx.1, (World.cell?_of_block (h b hx.1)).trans hx.2⟩
  | .f, b, o, hx => by simp only [ItIn] at hx ⊢; exact ⟨hx.1, (World.cell?_of_block (h b hx.1)).trans hx.2⟩
  | .b, b, o, hx => by simp only [ItIn] at hx ⊢; exact ⟨hx.1, (World.cell?_of_block (h b hx.1)).trans hx.2⟩
  | .t, b, o, hx => by simp only [ItIn] at hx ⊢; exact ⟨hx.1, (World.cell?_of_block (h b hx.1)).trans hx.2⟩
theorem ItsIn.kept {w w' : World} {B : Nat} (h : ∀ k, k < B → w'.heap[k]? = w.heap[k]?) : ∀ (l : List It) (a : Option Addr) (n : Nat), ItsIn w B l a n → ItsIn w' B l a n
  | [], a, n, hx => by simpa [ItsIn] using hx
  | x :: l, a, n, hx => by
    simp only [ItsIn] at hx ⊢
    obtain ⟨b, o, m, ha, hn, h1, h2⟩ := hx
    exact ⟨b, o, m, ha, hn, ItIn.kept h x b o h1, ItsIn.kept h l _ m h2⟩
end
theorem ItIn.code {w : World} {B : Nat} {x : It} {b o : Nat} (h : ItIn w B x b o) : b < B ∧ w.cell? ⟨b, o, none⟩ = some (.int .u8 x.code) := by
  cases x <;> simp only [ItIn] at h <;> first | exact h | exact ⟨h.1, h.2.1⟩

/-- Texts that a machine may hold. -/
inductive Fld.Fit : Fld → Prop where
  | mk {u : Nat} {i : Int} {f : Nat} {b : Bool} {t : List UInt8} {l : List (List Fld)} (ht : t.length ≤ 140737488351232) (hl : ∀ r ∈ l, ∀ x ∈ r, Fld.Fit x) : Fld.Fit (.mk u i f b t l)
theorem Fld.Fit.t {x : Fld} (h : x.Fit) : x.T.length ≤ 140737488351232 := by cases h; assumption
theorem Fld.Fit.l {x : Fld} (h : x.Fit) : ∀ r ∈ x.L, ∀ y ∈ r, y.Fit := by cases h; assumption
/-- Lists of at most 256 items. -/
inductive It.Sm : It → Prop where
  | u : It.Sm .u
  | i : It.Sm .i
  | f : It.Sm .f
  | b : It.Sm .b
  | t : It.Sm .t
  | l {its : List It} (h : its.length ≤ 256) (g : ∀ x ∈ its, It.Sm x) : It.Sm (.l its)
theorem letter_sm {c : UInt8} {it : It} (h : letter c = some it) : it.Sm := by
  unfold letter at h
  split at h
  · cases h; exact .u
  · split at h
    · cases h; exact .i
    · split at h
      · cases h; exact .f
      · split at h
        · cases h; exact .b
        · split at h
          · cases h; exact .t
          · cases h
theorem parse_sm : ∀ (n deep : Nat) (s : List UInt8) (l : List It) (q : List UInt8), parse n deep s = some (l, q) → s.length ≤ 256 → l.length + q.length ≤ s.length ∧ ∀ x ∈ l, x.Sm := by
  intro n
  induction n with
  | zero => intro deep s l q h; simp [parse] at h
  | succ n ih =>
    intro deep s l q h hs
    cases s with
    | nil => simp only [parse] at h; injection h with h; injection h with h1 h2; subst h1; subst h2; simp
    | cons c r =>
      simp only [List.length_cons] at hs
      simp only [parse] at h
      split at h
      · injection h with h; injection h with h1 h2; subst h1; subst h2; simp
      · split at h
        · rename_i it hit
          split at h
          · rename_i l' q' hp
            injection h with h; injection h with h1 h2; subst h1; subst h2
            obtain ⟨e1, e2⟩ := ih _ _ _ _ hp (by omega)
            refine ⟨by simp; omega, ?_⟩
            intro x hx
            rcases List.mem_cons.1 hx with rfl | hx
            · exact letter_sm hit
            · exact e2 x hx
          · cases h
        · split at h
          · split at h
            · rename_i inn c' q1 hp
              split at h
              · cases h
              · rename_i hno
                split at h
                · rename_i l' q' hp2
                  injection h with h; injection h with h1 h2; subst h1; subst h2
                  obtain ⟨e1, e2⟩ := ih _ _ _ _ hp (by omega)
                  simp only [List.length_cons] at e1
                  obtain ⟨e3, e4⟩ := ih _ _ _ _ hp2 (by omega)
                  refine ⟨by simp; omega, ?_⟩
                  intro x hx
                  rcases List.mem_cons.1 hx with rfl | hx
                  · exact .l (by omega) e2
                  · exact e4 x hx
                · cases h
            · cases h
          · cases h

/-! ### encoding, item by item -/
theorem encAll_append : ∀ (p : List It) (l : List Fld) (q : List It) (r : List Fld), p.length = l.length → encAll (p ++ q) (l ++ r) = match encAll p l, encAll q r with | some a, some b => some (a ++ b) | _, _ => none
  | [], [], q, r, _ => by simp [encAll]; cases encAll q r <;> rfl
  | [], _ :: _, q, r, h => by simp at h
  | _ :: _, [], q, r, h => by simp at h
  | it :: p, x :: l, q, r, h => by
    have ih := encAll_append p l q r (by simpa using h)
    simp only [List.cons_append, encAll, ih]
    cases encOne it x <;> cases encAll p l <;> cases encAll q r <;> simp
theorem encAll_len : ∀ {p : List It} {l : List Fld} {a : List UInt8}, encAll p l = some a → p.length = l.length
  | [], [], a, _ => rfl
  | [], _ :: _, a, h => by simp [encAll] at h
  | _ :: _, [], a, h => by simp [encAll] at h
  | it :: p, x :: l, a, h => by
    simp only [encAll] at h
    split at h
    · rename_i a1 a2 h1 h2
      simp [encAll_len h2]
    · cases h
/-- One item more. -/
theorem encAll_snoc {its : List It} {l : List Fld} {k : Nat} (hk : k < its.length) (hl : k < l.length) :
    encAll (its.take (k + 1)) (l.take (k + 1)) = match encAll (its.take k) (l.take k), encOne its[k] l[k] with | some a, some b => some (a ++ b) | _, _ => none := by
  rw [List.take_succ_eq_append_getElem hk, List.take_succ_eq_append_getElem hl, encAll_append _ _ _ _ (by simp; omega)]
  have : encAll [its[k]] [l[k]] = encOne its[k] l[k] := by simp only [encAll]; cases encOne its[k] l[k] <;> simp
  rw [this]
/-- Where one item is none all are none. -/
theorem encAll_bad {its : List It} {l : List Fld} {k : Nat} (hk : k < its.length) (hl : k < l.length) (h : encOne its[k] l[k] = none) : encAll its l = none := by
  have e := encAll_append (its.take (k + 1)) (l.take (k + 1)) (its.drop (k + 1)) (l.drop (k + 1)) (by simp; omega)
  rw [List.take_append_drop, List.take_append_drop, encAll_snoc hk hl, h] at e
  rw [e]
  cases encAll (its.take k) (l.take k) <;> rfl
theorem rows_append (g : List Fld → Option (List UInt8)) : ∀ (l r : List (List Fld)), rows g (l ++ r) = match rows g l, rows g r with | some a, some b => some (a ++ b) | _, _ => none
  | [], r => by simp [rows]; cases rows g r <;> rfl
  | x :: l, r => by
    have ih := rows_append g l r
    simp only [List.cons_append, rows, ih]
    cases g x <;> cases rows g l <;> cases rows g r <;> simp
theorem rows_snoc {g : List Fld → Option (List UInt8)} {l : List (List Fld)} {k : Nat} (hk : k < l.length) : rows g (l.take (k + 1)) = match rows g (l.take k), g l[k] with | some a, some b => some (a ++ b) | _, _ => none := by
  rw [List.take_succ_eq_append_getElem hk, rows_append]
  have : rows g [l[k]] = g l[k] := by simp only [rows]; cases g l[k] <;> simp
  rw [this]
theorem rows_bad {g : List Fld → Option (List UInt8)} {l : List (List Fld)} {k : Nat} (hk : k < l.length) (h : g l[k] = none) : rows g l = none := by
  have e := rows_append g (l.take (k + 1)) (l.drop (k + 1))
  rw [List.take_append_drop, rows_snoc hk, h] at e
  rw [e]
  cases rows g (l.take k) <;> rfl
end Go.Wq
