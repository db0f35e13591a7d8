/- Items in memory, both cells of each. -/
import Derived.Test.YtbepipnnhkaemaaDoorWqV
namespace Go.Wq
set_option linter.unusedVariables false
open Go.RowKit Go.Lib

def It.inner : It → List It
  | .l its => its
  | _ => []
mutual
/-- An item at a place, in blocks that S lets by: its letter and what stands within. -/
def ItZ (w : World) (S : Nat → Prop) : It → Nat → Nat → Prop
  | .l its, b, o => S b ∧ w.cell? ⟨b, o, none⟩ = some (.int .u8 40) ∧ ∃ (a : Option Addr) (n c : Nat), w.cell? ⟨b, o + 1, none⟩ = some (.slice a n c) ∧ ItsZ w S its a n
  | .u, b, o => S b ∧ w.cell? ⟨b, o, none⟩ = some (.int .u8 117) ∧ ∃ (a : Option Addr) (c : Nat), w.cell? ⟨b, o + 1, none⟩ = some (.slice a 0 c)
  | .i, b, o => S b ∧ w.cell? ⟨b, o, none⟩ = some (.int .u8 105) ∧ ∃ (a : Option Addr) (c : Nat), w.cell? ⟨b, o + 1, none⟩ = some (.slice a 0 c)
  | .f, b, o => S b ∧ w.cell? ⟨b, o, none⟩ = some (.int .u8 102) ∧ ∃ (a : Option Addr) (c : Nat), w.cell? ⟨b, o + 1, none⟩ = some (.slice a 0 c)
  | .b, b, o => S b ∧ w.cell? ⟨b, o, none⟩ = some (.int .u8 98) ∧ ∃ (a : Option Addr) (c : Nat), w.cell? ⟨b, o + 1, none⟩ = some (.slice a 0 c)
  | .t, b, o => S b ∧ w.cell? ⟨b, o, none⟩ = some (.int .u8 116) ∧ ∃ (a : Option Addr) (c : Nat), w.cell? ⟨b, o + 1, none⟩ = some (.slice a 0 c)
def ItsZ (w : World) (S : Nat → Prop) : List It → Option Addr → Nat → Prop
  | [], _, n => n = 0
  | x :: r, a, n => ∃ b o m, a = some ⟨b, o, none⟩ ∧ n = m + 1 ∧ ItZ w S x b o ∧ ItsZ w S r (some ⟨b, o + 2, none⟩) m
end
theorem ItZ.all {w : World} {S : Nat → Prop} {x : It} {b o : Nat} (h : ItZ w S x b o) : S b ∧ w.cell? ⟨b, o, none⟩ = some (.int .u8 x.code) ∧ ∃ (a : Option Addr) (n c : Nat), w.cell? ⟨b, o + 1, none⟩ = some (.slice a n c) ∧ ItsZ w S x.inner a n := by
  cases x with
  | l its => simpa only [ItZ, It.inner, It.code] using h
  | _ =>
    simp only [ItZ] at h
    obtain ⟨h1, h2, a, c, h3⟩ := h
    exact ⟨h1, h2, a, 0, c, h3, by simp [It.inner, ItsZ]⟩
theorem ItZ.of {w : World} {S : Nat → Prop} {x : It} {b o : Nat} (h : S b ∧ w.cell? ⟨b, o, none⟩ = some (.int .u8 x.code) ∧ ∃ (a : Option Addr) (n c : Nat), w.cell? ⟨b, o + 1, none⟩ = some (.slice a n c) ∧ ItsZ w S x.inner a n) : ItZ w S x b o := by
  cases x with
  | l its => simpa only [ItZ, It.inner, It.code] using h
  | _ =>
    simp only [It.inner, ItsZ] at h
    obtain ⟨h1, h2, a, n, c, h3, rfl⟩ := h
    simp only [ItZ]
    exact ⟨h1, h2, a, c, h3⟩
mutual
theorem ItZ.kept {w w' : World} {S T : Nat → Prop} (h : ∀ k, S k → w'.heap[k]? = w.heap[k]?) (hT : ∀ k, S k → T k) : ∀ (x : It) (b o : Nat), ItZ w S x b o → ItZ w' T x b o
  | .l its, b, o, hx => by
    simp only [ItZ] at hx ⊢
    obtain ⟨hb, c0, a, n, c, c1, h1⟩ := hx
    have e : ∀ k, w'.cell? ⟨b, k, none⟩ = w.cell? ⟨b, k, none⟩ := fun k => World.cell?_of_block (h b hb)
    exact ⟨hT b hb, (e _).trans c0, a, n, c, (e _).trans c1, ItsZ.kept h hT its a n h1⟩
  | .u, b, o, hx => by simp only [ItZ] at hx ⊢; obtain ⟨h1, h2, a, c, h3⟩ := hx; exact ⟨hT b h1, (World.cell?_of_block (h b h1)).trans h2, a, c, (World.cell?_of_block (h b h1)).trans h3⟩
  | .i, b, o, hx => by simp only [ItZ] at hx ⊢; obtain ⟨h1, h2, a, c, h3⟩ := hx; exact ⟨hT b h1, (World.cell?_of_block (h b h1)).trans h2, a, c, (World.cell?_of_block (h b h1)).trans h3⟩
  | .f, b, o, hx => by simp only [ItZ] at hx ⊢; obtain ⟨h1, h2, a, c, h3⟩ := hx; exact ⟨hT b h1, (World.cell?_of_block (h b h1)).trans h2, a, c, (World.cell?_of_block (h b h1)).trans h3⟩
  | .b, b, o, hx => by simp only [ItZ] at hx ⊢; obtain ⟨h1, h2, a, c, h3⟩ := hx; exact ⟨hT b h1, (World.cell?_of_block (h b h1)).trans h2, a, c, (World.cell?_of_block (h b h1)).trans h3⟩
  | .t, b, o, hx => by simp only [ItZ] at hx ⊢; obtain ⟨h1, h2, a, c, h3⟩ := hx; exact ⟨hT b h1, (World.cell?_of_block (h b h1)).trans h2, a, c, (World.cell?_of_block (h b h1)).trans h3⟩
theorem ItsZ.kept {w w' : World} {S T : Nat → Prop} (h : ∀ k, S k → w'.heap[k]? = w.heap[k]?) (hT : ∀ k, S k → T k) : ∀ (l : List It) (a : Option Addr) (n : Nat), ItsZ w S l a n → ItsZ w' T l a n
  | [], a, n, hx => by simpa [ItsZ] using hx
  | x :: l, a, n, hx => by
    simp only [ItsZ] at hx ⊢
    obtain ⟨b, o, m, ha, hn, h1, h2⟩ := hx
    exact ⟨b, o, m, ha, hn, ItZ.kept h hT x b o h1, ItsZ.kept h hT l _ m h2⟩
end
theorem ItsZ.len {w : World} {S : Nat → Prop} : ∀ {l : List It} {a : Option Addr} {n : Nat}, ItsZ w S l a n → n = l.length
  | [], a, n, h => by simpa [ItsZ] using h
  | x :: r, a, n, h => by
    simp only [ItsZ] at h
    obtain ⟨b, o, m, rfl, rfl, h1, h2⟩ := h
    simp [ItsZ.len h2]
theorem ItsZ.at {w : World} {S : Nat → Prop} : ∀ {l : List It} {a : Option Addr} {n : Nat}, ItsZ w S l a n → ∀ (k : Nat) (hk : k < l.length), ∃ b o, a = some ⟨b, o, none⟩ ∧ ItZ w S l[k] b (o + k * 2)
  | [], a, n, h, k, hk => by simp at hk
  | x :: r, a, n, h, k, hk => by
    simp only [ItsZ] at h
    obtain ⟨b, o, m, rfl, rfl, h1, h2⟩ := h
    cases k with
    | zero => exact ⟨b, o, rfl, by simpa using h1⟩
    | succ k =>
      obtain ⟨b', o', e, h3⟩ := ItsZ.at h2 k (by simpa using hk)
      injection e with e
      injection e with e1 e2 _
      subst e1; subst e2
      refine ⟨b, o, rfl, ?_⟩
      rw [show o + (k + 1) * 2 = o + 2 + k * 2 by omega]
      exact h3

/-- The cells of items in a row: a letter's code and a list; what the list holds lies in blocks that S lets by. -/
inductive HoldsZ (w : World) (S : Nat → Prop) : List Value → List It → Prop where
  | nil : HoldsZ w S [] []
  | cons {it : It} {a : Option Addr} {n c : Nat} {xs : List Value} {m : List It} (hv : ItsZ w S it.inner a n) (h : HoldsZ w S xs m) : HoldsZ w S (.int .u8 it.code :: .slice a n c :: xs) (it :: m)
theorem HoldsZ.kept {w w' : World} {S T : Nat → Prop} (h : ∀ k, S k → w'.heap[k]? = w.heap[k]?) (hT : ∀ k, S k → T k) {xs : List Value} {m : List It} (hx : HoldsZ w S xs m) : HoldsZ w' T xs m := by
  induction hx with
  | nil => exact .nil
  | cons hv _ ih => exact .cons (ItsZ.kept h hT _ _ _ hv) ih
theorem HoldsZ.snoc {w : World} {S : Nat → Prop} {xs : List Value} {m : List It} (hx : HoldsZ w S xs m) (it : It) (a : Option Addr) (n c : Nat) (hv : ItsZ w S it.inner a n) : HoldsZ w S (xs ++ [.int .u8 it.code, .slice a n c]) (m ++ [it]) := by
  induction hx with
  | nil => exact .cons hv .nil
  | cons hv' _ ih => exact .cons hv' ih
theorem HoldsZ.its {w : World} {S T : Nat → Prop} {xs : List Value} {m : List It} (hx : HoldsZ w S xs m) : ∀ (g o : Nat), T g → (∀ k, S k → T k) → (∀ j u, xs[j]? = some u → w.cell? ⟨g, o + j, none⟩ = some u) → ItsZ w T m (some ⟨g, o, none⟩) m.length := by
  induction hx with
  | nil => intro g o _ _ _; simp [ItsZ]
  | @cons it a n c xs m hv h ih =>
    intro g o hg hST hc
    simp only [ItsZ, List.length_cons]
    refine ⟨g, o, m.length, rfl, rfl, ?_, ih g (o + 2) hg hST (fun j u hj => by have := hc (j + 2) u (by simpa using hj); rwa [show o + (j + 2) = o + 2 + j by omega] at this)⟩
    have h0 := hc 0 _ rfl
    have h1 := hc 1 _ rfl
    simp only [Nat.add_zero] at h0
    exact ItZ.of ⟨hg, h0, a, n, c, h1, ItsZ.kept (fun _ _ => rfl) hST _ _ _ hv⟩
theorem own_itsZ {w : World} {base e : Nat} {v : Value} {m : List It} {xs : List Value} (ho : w.ownsRow base e 2 v m.length xs) (hh : HoldsZ w (Mine base w v) xs m) :
    ∃ (a : Option Addr) (c : Nat), v = .slice a m.length c ∧ ItsZ w (fun k => base ≤ k ∧ k < w.heap.size) m a m.length := by
  have hl := ho.lt
  have hc := @World.ownsRow.cells w base e 2 v m.length xs ho
  rcases ho.2 with ⟨rfl, hn⟩ | ⟨g, cap, cur, rfl, hb, hg, hr⟩
  · have : m = [] := List.eq_nil_of_length_eq_zero hn
    subst this
    exact ⟨none, 0, rfl, by simp [ItsZ]⟩
  · refine ⟨some ⟨g, 0, none⟩, cap, rfl, hh.its g 0 ?_ (fun k hk => ⟨hk.1, hk.2.1⟩) ?_⟩
    · exact hl g rfl
    · intro j u hj
      have := hc (g := g) rfl j u hj
      rwa [add_none] at this
/-- What Grew keeps of the items that the row holds. -/
theorem HoldsZ.grew {w w' : World} {base : Nat} {v v' : Value} {xs : List Value} {m : List It} (h : HoldsZ w (Mine base w v) xs m) (g : Grew w w' v v') : HoldsZ w' (Mine base w' v') xs m :=
  h.kept (fun k hk => g.g.block k hk.2.1 (fun e => hk.2.2 e.symm)) (fun k hk => ⟨hk.1, Nat.lt_of_lt_of_le hk.2.1 g.g.size, g.other hk.2.1 hk.2.2⟩)

/-! ### encoding, whatever the item -/
theorem encOne_isSome (it : It) (x : Fld) : (encOne it x).isSome = (zeroBut it.letter x && (rows (fun r => encAll it.inner r) x.L).isSome) := by
  have hl : ∀ c : Char, c ≠ 'l' → zeroBut c x = true → x.L = [] := fun c hc h => by
    unfold zeroBut at h
    simp only [Bool.and_eq_true, Bool.or_eq_true, beq_iff_eq, hc, false_or, List.isEmpty_iff] at h
    exact h.2
  cases it with
  | l its =>
    simp only [encOne, It.letter, It.inner]
    cases hz : zeroBut 'l' x with
    | false => simp
    | true => cases rows (fun r => encAll its r) x.L <;> simp
  | u => simp only [encOne, It.letter]; cases hz : zeroBut 'u' x with
    | false => simp
    | true => rw [hl 'u' (by decide) hz]; simp [rows]
  | i => simp only [encOne, It.letter]; cases hz : zeroBut 'i' x with
    | false => simp
    | true => rw [hl 'i' (by decide) hz]; simp [rows]
  | f => simp only [encOne, It.letter]; cases hz : zeroBut 'f' x with
    | false => simp
    | true => rw [hl 'f' (by decide) hz]; simp [rows]
  | b => simp only [encOne, It.letter]; cases hz : zeroBut 'b' x with
    | false => simp
    | true => rw [hl 'b' (by decide) hz]; simp [rows]
  | t => simp only [encOne, It.letter]; cases hz : zeroBut 't' x with
    | false => simp
    | true => rw [hl 't' (by decide) hz]; simp [rows]
theorem none_of {α : Type} {x : Option α} (h : x.isSome = false) : x = none := by cases x <;> simp_all
theorem some_of {α : Type} {x : Option α} (h : x.isSome = true) : ∃ a, x = some a := by cases x <;> simp_all
theorem encAll_snocS {its : List It} {l : List Fld} {k : Nat} (hk : k < its.length) (hl : k < l.length) (h1 : (encAll (its.take k) (l.take k)).isSome = true) (h2 : (encOne its[k] l[k]).isSome = true) :
    (encAll (its.take (k + 1)) (l.take (k + 1))).isSome = true := by
  rw [encAll_snoc hk hl]
  obtain ⟨a, ha⟩ := some_of h1
  obtain ⟨b, hb⟩ := some_of h2
  rw [ha, hb]; rfl
theorem rows_snocS {g : List Fld → Option (List UInt8)} {l : List (List Fld)} {k : Nat} (hk : k < l.length) (h1 : (rows g (l.take k)).isSome = true) (h2 : (g l[k]).isSome = true) : (rows g (l.take (k + 1))).isSome = true := by
  rw [rows_snoc hk]
  obtain ⟨a, ha⟩ := some_of h1
  obtain ⟨b, hb⟩ := some_of h2
  rw [ha, hb]; rfl
end Go.Wq
