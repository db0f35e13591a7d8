/- Items that the call builds: where they lie; the parser, step by step. -/
import Derived.Test.YtbepipnnhkaemaaDoorWqP
namespace Go.Wq
set_option linter.unusedVariables false
open Go.RowKit Go.Lib

mutual
/-- An item at a place, in blocks that S lets by. -/
def ItS (w : World) (S : Nat → Prop) : It → Nat → Nat → Prop
  | .l its, b, o => S b ∧ w.cell? ⟨b, o, none⟩ = some (.int .u8 40) ∧ ∃ (a : Option Addr) (n c : Nat), w.cell? ⟨b, o + 1, none⟩ = some (.slice a n c) ∧ ItsS w S its a n
  | .u, b, o => S b ∧ w.cell? ⟨b, o, none⟩ = some (.int .u8 117)
  | .i, b, o => S b ∧ w.cell? ⟨b, o, none⟩ = some (.int .u8 105)
  | .f, b, o => S b ∧ w.cell? ⟨b, o, none⟩ = some (.int .u8 102)
  | .b, b, o => S b ∧ w.cell? ⟨b, o, none⟩ = some (.int .u8 98)
  | .t, b, o => S b ∧ w.cell? ⟨b, o, none⟩ = some (.int .u8 116)
def ItsS (w : World) (S : Nat → Prop) : List It → Option Addr → Nat → Prop
  | [], _, n => n = 0
  | x :: r, a, n => ∃ b o m, a = some ⟨b, o, none⟩ ∧ n = m + 1 ∧ ItS w S x b o ∧ ItsS w S r (some ⟨b, o + 2, none⟩) m
end
mutual
theorem ItS.kept {w w' : World} {S T : Nat → Prop} (h : ∀ k, S k → w'.heap[k]? = w.heap[k]?) (hT : ∀ k, S k → T k) : ∀ (x : It) (b o : Nat), ItS w S x b o → ItS w' T x b o
  | .l its, b, o, hx => by
    simp only [ItS] at hx ⊢
    obtain ⟨hb, c0, a, n, c, c1, h1⟩ := hx
    have e : ∀ k, w'.cell? ⟨b, k, none⟩ = w.cell? ⟨b, k, none⟩ := fun k => World.cell?_of_block (h b hb)
    exact ⟨hT b hb, (e _).trans c0, a, n, c, (e _).trans c1, ItsS.kept h hT its a n h1⟩
  | .u, b, o, hx => by simp only [ItS] at hx ⊢; exact ⟨hT b hx.1, (World.cell?_of_block (h b hx.1)).trans hx.2⟩
  | .i, b, o, hx => by simp only [ItS] at hx ⊢; exact ⟨hT b hx.1, (World.cell?_of_block (h b hx.1)).trans hx.2⟩
  | .f, b, o, hx => by simp only [ItS] at hx ⊢; exact ⟨hT b hx.1, (World.cell?_of_block (h b hx.1)).trans hx.2⟩
  | .b, b, o, hx => by simp only [ItS] at hx ⊢; exact ⟨hT b hx.1, (World.cell?_of_block (h b hx.1)).trans hx.2⟩
  | .t, b, o, hx => by simp only [ItS] at hx ⊢; exact ⟨hT b hx.1, (World.cell?_of_block (h b hx.1)).trans hx.2⟩
theorem ItsS.kept {w w' : World} {S T : Nat → Prop} (h : ∀ k, S k → w'.heap[k]? = w.heap[k]?) (hT : ∀ k, S k → T k) : ∀ (l : List It) (a : Option Addr) (n : Nat), ItsS w S l a n → ItsS w' T l a n
  | [], a, n, hx => by simpa [ItsS] using hx
  | x :: l, a, n, hx => by
    simp only [ItsS] at hx ⊢
    obtain ⟨b, o, m, ha, hn, h1, h2⟩ := hx
    exact ⟨b, o, m, ha, hn, ItS.kept h hT x b o h1, ItsS.kept h hT l _ m h2⟩
end
mutual
theorem ItS.toIn {w : World} {S : Nat → Prop} {B : Nat} (h : ∀ k, S k → k < B) : ∀ (x : It) (b o : Nat), ItS w S x b o → ItIn w B x b o
  | .l its, b, o, hx => by
    simp only [ItS] at hx; simp only [ItIn]
    obtain ⟨hb, c0, a, n, c, c1, h1⟩ := hx
    exact ⟨h b hb, c0, a, n, c, c1, ItsS.toIn h its a n h1⟩
  | .u, b, o, hx => by simp only [ItS] at hx; simp only [ItIn]; exact ⟨h b hx.1, hx.2⟩
  | .i, b, o, hx => by simp only [ItS] at hx; simp only [ItIn]; exact ⟨h b hx.1, hx.2⟩
  | .f, b, o, hx => by simp only [ItS] at hx; simp only [ItIn]; exact ⟨h b hx.1, hx.2⟩
  | .b, b, o, hx => by simp only [ItS] at hx; simp only [ItIn]; exact ⟨h b hx.1, hx.2⟩
  | .t, b, o, hx => by simp only [ItS] at hx; simp only [ItIn]; exact ⟨h b hx.1, hx.2⟩
theorem ItsS.toIn {w : World} {S : Nat → Prop} {B : Nat} (h : ∀ k, S k → k < B) : ∀ (l : List It) (a : Option Addr) (n : Nat), ItsS w S l a n → ItsIn w B l a n
  | [], a, n, hx => by simp only [ItsS] at hx; simpa only [ItsIn] using hx
  | x :: l, a, n, hx => by
    simp only [ItsS] at hx; simp only [ItsIn]
    obtain ⟨b, o, m, ha, hn, h1, h2⟩ := hx
    exact ⟨b, o, m, ha, hn, ItS.toIn h x b o h1, ItsS.toIn h l _ m h2⟩
end
theorem ItsS.len {w : World} {S : Nat → Prop} : ∀ {l : List It} {a : Option Addr} {n : Nat}, ItsS w S l a n → n = l.length
  | [], a, n, h => by simpa [ItsS] using h
  | x :: r, a, n, h => by
    simp only [ItsS] at h
    obtain ⟨b, o, m, rfl, rfl, h1, h2⟩ := h
    simp [ItsS.len h2]

/-- The cells of items in a row: a letter's code and a list; what the list holds lies in blocks that S lets by. -/
inductive Holds (w : World) (S : Nat → Prop) : List Value → List It → Prop where
  | nil : Holds w S [] []
  | cons {it : It} {v : Value} {xs : List Value} {m : List It} (hv : ∀ inner, it = .l inner → ∃ (a : Option Addr) (n c : Nat), v = .slice a n c ∧ ItsS w S inner a n) (h : Holds w S xs m) : Holds w S (.int .u8 it.code :: v :: xs) (it :: m)
theorem Holds.kept {w w' : World} {S T : Nat → Prop} (h : ∀ k, S k → w'.heap[k]? = w.heap[k]?) (hT : ∀ k, S k → T k) {xs : List Value} {m : List It} (hx : Holds w S xs m) : Holds w' T xs m := by
  induction hx with
  | nil => exact .nil
  | cons hv _ ih => exact .cons (fun inner e => by obtain ⟨a, n, c, h1, h2⟩ := hv inner e; exact ⟨a, n, c, h1, ItsS.kept h hT _ _ _ h2⟩) ih
theorem Holds.snoc {w : World} {S : Nat → Prop} {xs : List Value} {m : List It} (hx : Holds w S xs m) (it : It) (v : Value) (hv : ∀ inner, it = .l inner → ∃ (a : Option Addr) (n c : Nat), v = .slice a n c ∧ ItsS w S inner a n) : Holds w S (xs ++ [.int .u8 it.code, v]) (m ++ [it]) := by
  induction hx with
  | nil => exact .cons hv .nil
  | cons hv' _ ih => exact .cons hv' ih
theorem Holds.its {w : World} {S T : Nat → Prop} {xs : List Value} {m : List It} (hx : Holds w S xs m) : ∀ (g o : Nat), T g → (∀ k, S k → T k) → (∀ j u, xs[j]? = some u → w.cell? ⟨g, o + j, none⟩ = some u) → ItsS w T m (some ⟨g, o, none⟩) m.length := by
  induction hx with
  | nil => intro g o _ _ _; simp [ItsS]
  | @cons it v xs m hv h ih =>
    intro g o hg hST hc
    simp only [ItsS, List.length_cons]
    refine ⟨g, o, m.length, rfl, rfl, ?_, ih g (o + 2) hg hST (fun j u hj => by have := hc (j + 2) u (by simpa using hj); rwa [show o + (j + 2) = o + 2 + j by omega] at this)⟩
    have h0 := hc 0 _ rfl
    have h1 := hc 1 _ rfl
    simp only [Nat.add_zero] at h0
    cases it with
    | l inner =>
      obtain ⟨a, n, c, rfl, h2⟩ := hv inner rfl
      simp only [ItS]
      exact ⟨hg, h0, a, n, c, h1, ItsS.kept (fun _ _ => rfl) hST _ _ _ h2⟩
    | _ => simp only [ItS]; exact ⟨hg, h0⟩

/-! ### the parser, with fuel enough -/
def prs (deep : Nat) (s : List UInt8) : Option (List It × List UInt8) := parse (s.length + 1) deep s
theorem prs_nil (deep : Nat) : prs deep [] = some ([], []) := rfl
theorem prs_close (deep : Nat) (r : List UInt8) : prs deep (41 :: r) = some ([], 41 :: r) := by simp [prs, parse]
theorem prs_letter {c : UInt8} {it : It} (h : letter c = some it) (hc : c ≠ 41) (deep : Nat) (r : List UInt8) : prs deep (c :: r) = match prs deep r with | some (l, q) => some (it :: l, q) | none => none := by
  unfold prs
  rw [show (c :: r).length + 1 = (r.length + 1) + 1 from rfl, parse, if_neg hc, h]
  rfl
theorem prs_bad {c : UInt8} (h : letter c = none) (hc : c ≠ 41) (h40 : c ≠ 40) (deep : Nat) (r : List UInt8) : prs deep (c :: r) = none := by
  unfold prs
  rw [show (c :: r).length + 1 = (r.length + 1) + 1 from rfl, parse, if_neg hc, h]
  simp [h40]
theorem prs_open (deep : Nat) (r : List UInt8) : prs deep (40 :: r) = match prs (deep + 1) r with
    | some (inn, _ :: q) => if inn = [] ∨ 8 < deep + 1 then none else (match prs deep q with | some (l, q') => some (.l inn :: l, q') | none => none)
    | _ => none := by
  unfold prs
  rw [show (40 :: r : List UInt8).length + 1 = (r.length + 1) + 1 from rfl, parse, if_neg (by decide), show letter 40 = none from rfl]
  simp only [if_true]
  cases hp : parse (r.length + 1) (deep + 1) r with
  | none => rfl
  | some x =>
    obtain ⟨inn, q⟩ := x
    cases q with
    | nil => rfl
    | cons c' q =>
      obtain ⟨p, hr, -⟩ := parse_left _ _ _ _ _ hp
      have hlen : q.length < r.length := by rw [hr]; simp; omega
      simp only []
      rw [parse_fuel (r.length + 1) (q.length + 1) deep q (by omega) (by omega)]
      rfl
/-- Items that have been read, ahead of what is read from here on. -/
def aheadOf (m : List It) : Option (List It × List UInt8) → Option (List It × List UInt8)
  | some (l, q) => some (m ++ l, q)
  | none => none
theorem aheadOf_nil (x : Option (List It × List UInt8)) : aheadOf [] x = x := by cases x <;> rfl
theorem aheadOf_snoc (m : List It) (it : It) (x : Option (List It × List UInt8)) : aheadOf (m ++ [it]) x = aheadOf m (match x with | some (l, q) => some (it :: l, q) | none => none) := by
  cases x <;> simp [aheadOf]
theorem size_l (its : List It) : SizeOf.sizeOf (It.l its) = 1 + SizeOf.sizeOf its := by simp
theorem its_ind0 (Q : List It → Prop) (h : ∀ its, (∀ its', It.l its' ∈ its → Q its') → Q its) : ∀ (n : Nat) (its : List It), SizeOf.sizeOf its ≤ n → Q its := by
  intro n
  induction n with
  | zero => intro its hn; exact h its (fun its' hm => by have h1 := List.sizeOf_lt_of_mem hm; omega)
  | succ n ih => intro its hn; exact h its (fun its' hm => ih its' (by have h1 := List.sizeOf_lt_of_mem hm; have h2 := size_l its'; omega))
theorem its_ind (Q : List It → Prop) (h : ∀ its, (∀ its', It.l its' ∈ its → Q its') → Q its) (its : List It) : Q its := its_ind0 Q h _ its (Nat.le_refl _)
theorem prs_left {deep : Nat} {s : List UInt8} {l : List It} {q : List UInt8} (h : prs deep s = some (l, q)) : ∃ p, s = p ++ q ∧ (q = [] ∨ ∃ r, q = 41 :: r) := parse_left _ _ _ _ _ h
def Mine (base : Nat) (w : World) (v : Value) : Nat → Prop := fun k => base ≤ k ∧ k < w.heap.size ∧ v.ownBlock ≠ some k
theorem own_its {w : World} {base e : Nat} {v : Value} {m : List It} {xs : List Value} (ho : w.ownsRow base e 2 v m.length xs) (hh : Holds w (Mine base w v) xs m) :
    ∃ (a : Option Addr) (c : Nat), v = .slice a m.length c ∧ ItsS w (fun k => base ≤ k ∧ k < w.heap.size) m a m.length := by
  have hl := ho.lt
  have hc := @World.ownsRow.cells w base e 2 v m.length xs ho
  rcases ho.2 with ⟨rfl, hn⟩ | ⟨g, cap, cur, rfl, hb, hg, hr⟩
  · have : m = [] := List.eq_nil_of_length_eq_zero hn
    subst this
    exact ⟨none, 0, rfl, by simp [ItsS]⟩
  · refine ⟨some ⟨g, 0, none⟩, cap, rfl, hh.its g 0 ?_ (fun k hk => ⟨hk.1, hk.2.1⟩) ?_⟩
    · exact hl g rfl
    · intro j u hj
      have := hc (g := g) rfl j u hj
      have hadd : (⟨g, 0, none⟩ : Addr).add j = ⟨g, 0 + j, none⟩ := by unfold Addr.add; split <;> simp_all
      rwa [hadd] at this
theorem drop_cons (s : ByteArray) (p : Nat) (h : p < s.size) : s.data.toList.drop p = s[p] :: s.data.toList.drop (p + 1) := by
  rw [List.drop_eq_getElem_cons (by rw [Array.length_toList]; exact h)]
  rfl
theorem drop_end (s : ByteArray) (p : Nat) (h : ¬ p < s.size) : s.data.toList.drop p = [] := List.drop_eq_nil_of_le (by rw [Array.length_toList]; exact Nat.le_of_not_lt h)
theorem drop_len (s : ByteArray) (p : Nat) : (s.data.toList.drop p).length = s.size - p := by rw [List.length_drop, Array.length_toList]; rfl
theorem drop_back {s : ByteArray} {p : Nat} {x r : List UInt8} {c : UInt8} (h : s.data.toList.drop p = x ++ c :: r) : s.data.toList.drop (s.size - r.length) = r := by
  have hl := congrArg List.length h
  rw [drop_len, List.length_append, List.length_cons] at hl
  have e : s.size - r.length = p + (x.length + 1) := by omega
  rw [e, ← List.drop_drop, h, show x ++ c :: r = (x ++ [c]) ++ r by simp, List.drop_left' (by simp)]
theorem own_kept {w w' : World} {base e size : Nat} {v : Value} {n : Nat} {xs : List Value} (h : w.ownsRow base e size v n xs) (b : Below w.heap.size w w') : w'.ownsRow base e size v n xs :=
  h.kept (row := none) ⟨b.os, b.tape, b.output, b.size, fun k hk _ => b.block k hk⟩ (by cases v.ownBlock <;> simp)
/-- What Grew keeps of the items that the row holds. -/
theorem Holds.grew {w w' : World} {base : Nat} {v v' : Value} {xs : List Value} {m : List It} (h : Holds w (Mine base w v) xs m) (g : Grew w w' v v') : Holds w' (Mine base w' v') xs m :=
  h.kept (fun k hk => g.g.block k hk.2.1 (fun e => hk.2.2 e.symm)) (fun k hk => ⟨hk.1, Nat.lt_of_lt_of_le hk.2.1 g.g.size, g.other hk.2.1 hk.2.2⟩)
mutual
theorem FldIn.kept_up {w : World} {B C : Nat} (hc : B ≤ C) : ∀ (x : Fld) (b o : Nat), FldIn w B x b o → FldIn w C x b o
  | .mk u i f bb t l, b, o, hx => by
    simp only [FldIn] at hx ⊢
    obtain ⟨hb, c0, c1, c2, c3, c4, ra, rn, rc, c5, hr⟩ := hx
    exact ⟨Nat.lt_of_lt_of_le hb hc, c0, c1, c2, c3, c4, ra, rn, rc, c5, RowsIn.kept_up hc l ra rn hr⟩
theorem RowsIn.kept_up {w : World} {B C : Nat} (hc : B ≤ C) : ∀ (l : List (List Fld)) (a : Option Addr) (n : Nat), RowsIn w B l a n → RowsIn w C l a n
  | [], a, n, hx => by simpa [RowsIn] using hx
  | r :: l, a, n, hx => by
    simp only [RowsIn] at hx ⊢
    obtain ⟨b, o, m, ha, hn, hb, ⟨sa, sn, sc, c, h1⟩, h2⟩ := hx
    exact ⟨b, o, m, ha, hn, Nat.lt_of_lt_of_le hb hc, ⟨sa, sn, sc, c, FldsIn.kept_up0 hc r sa sn h1⟩, RowsIn.kept_up hc l _ m h2⟩
theorem FldsIn.kept_up0 {w : World} {B C : Nat} (hc : B ≤ C) : ∀ (l : List Fld) (a : Option Addr) (n : Nat), FldsIn w B l a n → FldsIn w C l a n
  | [], a, n, hx => by simpa [FldsIn] using hx
  | x :: l, a, n, hx => by
    simp only [FldsIn] at hx ⊢
    obtain ⟨b, o, m, ha, hn, h1, h2⟩ := hx
    exact ⟨b, o, m, ha, hn, FldIn.kept_up hc x b o h1, FldsIn.kept_up0 hc l _ m h2⟩
end
theorem FldsIn.kept_up {w : World} {B C : Nat} {l : List Fld} {a : Option Addr} {n : Nat} (h : FldsIn w B l a n) (hc : B ≤ C) : FldsIn w C l a n := FldsIn.kept_up0 hc l a n h
end Go.Wq
