/- Texts of numbers, there and back. -/
import Derived.Test.YtgcoiabfejhgkaaDoorIqA
import Derived.Lib.ItoaMem
import Derived.Lib.ItoaLen
import Derived.Lib.Strings
namespace Go.Iq
open Go.Lib

def digC (c : UInt8) : Bool := digB (c.toNat : Int)
theorem digC_iff (c : UInt8) : digC c = true ↔ 48 ≤ c.toNat ∧ c.toNat ≤ 57 := by unfold digC digB; rw [decide_eq_true_eq]; omega
def numN (ds : List UInt8) : Nat := ds.foldl (fun a c => 10 * a + (c.toNat - 48)) 0
theorem numN_snoc (ds : List UInt8) (c : UInt8) : numN (ds ++ [c]) = 10 * numN ds + (c.toNat - 48) := by unfold numN; simp
theorem numN_lt : ∀ (n : Nat) (ds : List UInt8), ds.length = n → ds.all digC = true → numN ds < 10 ^ n := by
  intro n
  induction n with
  | zero => intro ds h _; have : ds = [] := List.eq_nil_of_length_eq_zero h; subst this; decide
  | succ n ih =>
    intro ds h ha
    rcases List.eq_nil_or_concat ds with rfl | ⟨e, c, rfl⟩
    · simp at h
    · rw [List.concat_eq_append] at *
      rw [List.all_append] at ha
      simp only [Bool.and_eq_true, List.all_cons, List.all_nil, Bool.and_true] at ha
      have h1 := ih e (by simpa using h) ha.1
      have h2 := (digC_iff c).1 ha.2
      rw [numN_snoc, Nat.pow_succ]
      omega
/-- Decimal digits without noughts ahead. -/
def Plain (ds : List UInt8) : Prop := ds.all digC = true ∧ ds ≠ [] ∧ ds.getD 0 0 ≠ 48
theorem numN_pos {ds : List UInt8} (h : Plain ds) : 1 ≤ numN ds := by
  obtain ⟨ha, hne, h0⟩ := h
  cases ds with
  | nil => exact absurd rfl hne
  | cons c r =>
    have h1 : ∀ (r : List UInt8) (a : Nat), 1 ≤ a → 1 ≤ r.foldl (fun a c => 10 * a + (c.toNat - 48)) a := by
      intro r
      induction r with
      | nil => exact fun a h => h
      | cons d q ih => exact fun a h => ih _ (show 1 ≤ 10 * a + (d.toNat - 48) by omega)
    have hc : digC c = true := by simp only [List.all_cons, Bool.and_eq_true] at ha; exact ha.1
    have hc' := (digC_iff c).1 hc
    have hne : c.toNat ≠ 48 := fun e => h0 (by simp; exact UInt8.toNat_inj.1 (by simpa using e))
    exact h1 r _ (show 1 ≤ 10 * 0 + (c.toNat - 48) by omega)
theorem dec_succ {a d : Nat} (ha : 1 ≤ a) (hd : d < 10) : decDigits (10 * a + d) = decDigits a ++ [UInt8.ofNat (48 + d)] := by
  rw [decDigits, dif_neg (by omega)]
  rw [show (10 * a + d) / 10 = a by omega, show (10 * a + d) % 10 = d by omega]
theorem ofNat_sub (c : UInt8) (h : 48 ≤ c.toNat) : UInt8.ofNat (48 + (c.toNat - 48)) = c := by
  rw [show 48 + (c.toNat - 48) = c.toNat by omega]
  exact UInt8.toNat_inj.1 (by simp)
/-- Back from a number: its text is the digits. -/
theorem dec_numN : ∀ (n : Nat) (ds : List UInt8), ds.length = n → Plain ds → decDigits (numN ds) = ds := by
  intro n
  induction n with
  | zero => intro ds h hp; exact absurd (List.eq_nil_of_length_eq_zero h) hp.2.1
  | succ n ih =>
    intro ds h hp
    rcases List.eq_nil_or_concat ds with rfl | ⟨e, c, rfl⟩
    · exact absurd rfl hp.2.1
    · rw [List.concat_eq_append] at *
      have hc : digC c = true := by
        have := hp.1
        rw [List.all_append] at this
        simp only [Bool.and_eq_true, List.all_cons, List.all_nil, Bool.and_true] at this
        exact this.2
      have hc' := (digC_iff c).1 hc
      rw [numN_snoc]
      cases e with
      | nil =>
        rw [show numN [] = 0 from rfl, show 10 * 0 + (c.toNat - 48) = c.toNat - 48 by omega, decDigits_one (by omega), ofNat_sub c hc'.1]; rfl
      | cons x r =>
        have hpe : Plain (x :: r) := by
          refine ⟨?_, by simp, ?_⟩
          · have := hp.1
            rw [List.all_append] at this
            simp only [Bool.and_eq_true] at this
            exact this.1
          · have := hp.2.2; simpa using this
        rw [dec_succ (numN_pos hpe) (by omega), ih (x :: r) (by simpa using h) hpe, ofNat_sub c hc'.1]
theorem dec_plain : ∀ (u : Nat), 1 ≤ u → Plain (decDigits u) ∧ numN (decDigits u) = u := by
  intro u
  induction u using Nat.strongRecOn with
  | ind u ih =>
    intro h
    by_cases h10 : u < 10
    · rw [decDigits_one h10]
      have e : (UInt8.ofNat (48 + u)).toNat = 48 + u := by simp; omega
      refine ⟨⟨?_, by simp, ?_⟩, ?_⟩
      · simp only [List.all_cons, List.all_nil, Bool.and_true]; rw [digC_iff, e]; omega
      · intro hc
        have : (UInt8.ofNat (48 + u)).toNat = (48 : UInt8).toNat := congrArg UInt8.toNat hc
        rw [e] at this
        have h48 : (48 : UInt8).toNat = 48 := rfl
        omega
      · unfold numN; simp only [List.foldl_cons, List.foldl_nil]; rw [e]; omega
    · obtain ⟨⟨h1, h2, h3⟩, h4⟩ := ih (u / 10) (by omega) (by omega)
      rw [decDigits, dif_neg h10]
      have e : (UInt8.ofNat (48 + u % 10)).toNat = 48 + u % 10 := by simp; omega
      refine ⟨⟨?_, by simp, ?_⟩, ?_⟩
      · rw [List.all_append, h1]; simp only [List.all_cons, List.all_nil, Bool.and_true, Bool.true_and]; rw [digC_iff, e]; omega
      · cases hd : decDigits (u / 10) with
        | nil => exact absurd hd h2
        | cons x r => rw [hd] at h3; simpa using h3
      · rw [numN_snoc, h4, e]; omega
theorem dec_length (u : Nat) (h : u ≤ 2147483647) (h1 : 1 ≤ u) : (decDigits u).length ≤ 10 := by
  have key : ∀ (n : Nat) (u : Nat), u < 10 ^ n → 1 ≤ n → (decDigits u).length ≤ n := by
    intro n
    induction n with
    | zero => intro u _ h; omega
    | succ n ih =>
      intro u hu _
      by_cases h10 : u < 10
      · rw [decDigits_one h10]; simp
      · rw [decDigits, dif_neg h10, List.length_append]
        have hn : 1 ≤ n := by
          rcases Nat.eq_zero_or_pos n with h | h
          · subst h; simp at hu; omega
          · exact h
        have := ih (u / 10) (by rw [Nat.pow_succ] at hu; omega) hn
        simp; omega
  exact key 10 u (by omega) (by omega)
theorem dec_ne (u : Nat) : decDigits u ≠ [] := by
  by_cases h : u < 10
  · rw [decDigits_one h]; simp
  · rw [decDigits, dif_neg h]; simp

/-- Parse. -/
def parseB (l : List UInt8) : Bool := decide (2 ≤ l.length ∧ l.length ≤ 11) && decide ((l.getD 0 0).toNat = 110) && !decide ((l.getD 1 0).toNat = 48) && (l.drop 1).all digC && decide (numN (l.drop 1) ≤ 2147483647)
def parseN (l : List UInt8) : Int := if parseB l = true then (numN (l.drop 1) : Int) else 0
def parseE (l : List UInt8) : Int := if parseB l = true then 0 else 5
theorem parse_ok {l : List UInt8} (h : parseB l = true) : parseN l = numN (l.drop 1) ∧ parseE l = 0 := by unfold parseN parseE; rw [if_pos h, if_pos h]; exact ⟨rfl, rfl⟩
theorem parse_no {l : List UInt8} (h : parseB l = false) : parseN l = 0 ∧ parseE l = 5 := by unfold parseN parseE; rw [h]; simp
theorem parseB_iff (l : List UInt8) : parseB l = true ↔ (2 ≤ l.length ∧ l.length ≤ 11) ∧ (l.getD 0 0).toNat = 110 ∧ (l.getD 1 0).toNat ≠ 48 ∧ (l.drop 1).all digC = true ∧ numN (l.drop 1) ≤ 2147483647 := by
  unfold parseB
  simp only [Bool.and_eq_true, decide_eq_true_eq, Bool.not_eq_true', decide_eq_false_iff_not]
  constructor
  · rintro ⟨⟨⟨⟨a, b⟩, c⟩, d⟩, e⟩; exact ⟨a, b, c, d, e⟩
  · rintro ⟨a, b, c, d, e⟩; exact ⟨⟨⟨⟨a, b⟩, c⟩, d⟩, e⟩
theorem parse_plain {l : List UInt8} (h : parseB l = true) : Plain (l.drop 1) ∧ l = 110 :: l.drop 1 := by
  obtain ⟨⟨h1, _⟩, h2, h3, h4, _⟩ := (parseB_iff l).1 h
  match l, h1 with
  | x :: y :: r, _ =>
    refine ⟨⟨h4, by simp, fun e => h3 ?_⟩, ?_⟩
    · simp only [List.drop_succ_cons, List.drop_zero, List.getD_cons_zero] at e
      simp only [List.getD_cons_succ, List.getD_cons_zero]
      rw [e]; rfl
    · simp only [List.getD_cons_zero] at h2
      have : x = 110 := UInt8.toNat_inj.1 (by simpa using h2)
      rw [this]; rfl
/-- Parse, behind its first letter. -/
theorem parseB_pre (D : ByteArray) : parseB (110 :: D.data.toList) = (decide (1 ≤ D.size ∧ D.size ≤ 10) && !decide ((D.data.toList.getD 0 0).toNat = 48) && D.data.toList.all digC && decide (numN D.data.toList ≤ 2147483647)) := by
  rw [Bool.eq_iff_iff, parseB_iff]
  simp only [Bool.and_eq_true, decide_eq_true_eq, Bool.not_eq_true', decide_eq_false_iff_not, List.length_cons, List.getD_cons_zero, List.getD_cons_succ, List.drop_succ_cons, List.drop_zero]
  have e : D.data.toList.length = D.size := by simp
  rw [e]
  constructor
  · rintro ⟨⟨a, b⟩, _, c, d, f⟩; exact ⟨⟨⟨⟨by omega, by omega⟩, c⟩, d⟩, f⟩
  · rintro ⟨⟨⟨⟨a, b⟩, c⟩, d⟩, f⟩; exact ⟨⟨by omega, by omega⟩, rfl, c, d, f⟩
theorem numN_step (D : ByteArray) (k : Nat) (h : k < D.size) : numN (D.data.toList.take (k + 1)) = 10 * numN (D.data.toList.take k) + (D[k].toNat - 48) := by
  rw [take_snoc D k h, numN_snoc]
theorem allC_step (D : ByteArray) (k : Nat) (h : k < D.size) : (D.data.toList.take (k + 1)).all digC = ((D.data.toList.take k).all digC && digC D[k]) := by
  rw [take_snoc D k h, List.all_append]; simp
theorem allC_bad (D : ByteArray) (k : Nat) (h : k < D.size) (hb : digC D[k] = false) : D.data.toList.all digC = false := by
  rw [List.all_eq_false]
  exact ⟨D[k], by rw [← getD_size D k h, List.getD_eq_getElem?_getD, List.getElem?_eq_getElem (by simpa using h)]; exact List.getElem_mem _, by rw [hb]; simp⟩
theorem numN_bd (ds : List UInt8) (h : ds.length ≤ 10) (ha : ds.all digC = true) : numN ds < 10000000000 := by
  have h1 := numN_lt _ ds rfl ha
  have h2 : 10 ^ ds.length ≤ 10 ^ 10 := Nat.pow_le_pow_right (by omega) h
  omega
/-- What Parse is told when it does not begin with its letter. -/
theorem parse_first {l : List UInt8} (h : hasPrefix l [110] = false) : parseB l = false := by
  cases hp : parseB l
  · rfl
  · have := (parse_plain hp).2
    rw [this] at h
    simp [hasPrefix] at h
theorem prefix_split {l : List UInt8} (h : hasPrefix l [110] = true) : l = 110 :: l.drop 1 ∧ trimPrefix l [110] = l.drop 1 := by
  refine ⟨?_, by unfold trimPrefix; rw [if_pos h]; rfl⟩
  cases l with
  | nil => simp [hasPrefix] at h
  | cons x r =>
    simp only [hasPrefix, List.isPrefixOf, Bool.and_true, beq_iff_eq] at h
    rw [← h]; rfl
/-- The text of a number that may be. -/
def textL (u : Nat) : List UInt8 := 110 :: decDigits u
theorem parse_text (u : Nat) (h1 : 1 ≤ u) (h2 : u ≤ 2147483647) : parseB (textL u) = true ∧ parseN (textL u) = u := by
  obtain ⟨⟨a, b, c⟩, d⟩ := dec_plain u h1
  have hl := dec_length u h2 h1
  have hp : parseB (textL u) = true := by
    rw [parseB_iff]
    unfold textL
    have h0 : 1 ≤ (decDigits u).length := by
      rcases Nat.eq_zero_or_pos (decDigits u).length with h | h
      · exact absurd (List.eq_nil_of_length_eq_zero h) b
      · exact h
    refine ⟨⟨by simp; omega, by simp; omega⟩, by simp, ?_, by simpa using a, by simp only [List.drop_succ_cons, List.drop_zero]; omega⟩
    intro e
    apply c
    simp only [List.getD_cons_succ] at e
    exact UInt8.toNat_inj.1 (by simpa using e)
  refine ⟨hp, ?_⟩
  rw [(parse_ok hp).1]
  unfold textL
  simp only [List.drop_succ_cons, List.drop_zero]
  rw [d]
theorem text_parse {l : List UInt8} (h : parseB l = true) : textL (numN (l.drop 1)) = l ∧ 1 ≤ numN (l.drop 1) ∧ numN (l.drop 1) ≤ 2147483647 := by
  obtain ⟨hp, hl⟩ := parse_plain h
  refine ⟨?_, numN_pos hp, ((parseB_iff l).1 h).2.2.2.2⟩
  unfold textL
  rw [dec_numN _ _ rfl hp]
  exact hl.symm
end Go.Iq
