import Derived.Test.YtloaajoeciajaaaDoorFqT
import Derived.Lib.ItoaNum
namespace Go.Fq

/-- What readFloat has read behind each byte: the digits' number, how many count, the point's place, point, digit. -/
structure Rd where
  M : Nat
  N : Nat
  D : Int
  dot : Bool
  dig : Bool

/-- One byte more. -/
def rdStep (c : Nat) (a b : Rd) : Prop :=
  (c = 46 ∧ a.dot = false ∧ b = ⟨a.M, a.N, a.N, true, a.dig⟩) ∨
  (c = 48 ∧ a.N = 0 ∧ b = ⟨a.M, 0, a.D - 1, a.dot, true⟩) ∨
  (48 ≤ c ∧ c ≤ 57 ∧ ¬ (c = 48 ∧ a.N = 0) ∧ b = ⟨10 * a.M + (c - 48), a.N + 1, a.D, a.dot, true⟩)

structure RdOk (s : ByteArray) (st : Nat → Rd) : Prop where
  len : 1 ≤ s.size ∧ s.size ≤ 18
  start : st 0 = ⟨0, 0, 0, false, false⟩
  step : ∀ k (h : k < s.size), rdStep (s[k]'h).toNat (st k) (st (k + 1))
  bd : ∀ k, k ≤ s.size → (st k).M ≤ 1000000000000000000 ∧ (st k).N ≤ 18 ∧ -18 ≤ (st k).D ∧ (st k).D ≤ 18
  fin : (st s.size).dig = true
  first : 48 ≤ (s[0]'(by have := len; omega)).toNat ∧ (s[0]'(by have := len; omega)).toNat ≤ 57
  second : ∀ h : 1 < s.size, (s[1]'h).toNat ≤ 57

def rdExp (st : Rd) : Int := if st.M = 0 then 0 else (if st.dot then st.D else st.N) - st.N
theorem rdExp_eq (a : Rd) : rdExp a = if ((a.M : Int) != 0) then (if a.dot then a.D else (a.N : Int)) - (a.N : Int) else 0 := by
  unfold rdExp
  by_cases h0 : a.M = 0
  · rw [if_pos h0, h0]; rfl
  · have : ((a.M : Int) != 0) = true := by rw [bne_iff_ne]; omega
    rw [if_neg h0, this]; rfl

def stepF (a : Rd) (c : UInt8) : Rd :=
  if c.toNat = 46 then ⟨a.M, a.N, a.N, true, a.dig⟩ else if c.toNat = 48 ∧ a.N = 0 then ⟨a.M, 0, a.D - 1, a.dot, true⟩
  else ⟨10 * a.M + (c.toNat - 48), a.N + 1, a.D, a.dot, true⟩
def rd0 : Rd := ⟨0, 0, 0, false, false⟩
def rdF (l : List UInt8) : Rd := l.foldl stepF rd0
theorem rdF_append (l m : List UInt8) : rdF (l ++ m) = m.foldl stepF (rdF l) := by unfold rdF; rw [List.foldl_append]

/-- A digit or the point. -/
def okC (c : UInt8) : Prop := c.toNat = 46 ∨ (48 ≤ c.toNat ∧ c.toNat ≤ 57)

theorem rd_bd (l : List UInt8) : ∀ (a : Rd) (n : Nat), (∀ c ∈ l, okC c) → a.M < 10 ^ n → a.N ≤ n → -(n : Int) ≤ a.D → a.D ≤ n →
    (l.foldl stepF a).M < 10 ^ (n + l.length) ∧ (l.foldl stepF a).N ≤ n + l.length ∧ -((n + l.length : Nat) : Int) ≤ (l.foldl stepF a).D ∧ (l.foldl stepF a).D ≤ ((n + l.length : Nat) : Int) := by
  induction l with
  | nil => intro a n _ h1 h2 h3 h4; exact ⟨h1, h2, h3, h4⟩
  | cons c l ih =>
    intro a n hc h1 h2 h3 h4
    have hp := Nat.pow_succ (m := n) (n := 10)
    have h := hc c (List.mem_cons_self)
    have g := ih (stepF a c) (n + 1) (fun x hx => hc x (List.mem_cons_of_mem _ hx))
      (by unfold stepF; unfold okC at h; split; · show a.M < _; omega
          · split; · show a.M < _; omega
            · show 10 * a.M + (c.toNat - 48) < _; omega)
      (by unfold stepF; split; · show a.N ≤ _; omega
          · split; · show 0 ≤ _; omega
            · show a.N + 1 ≤ _; omega)
      (by unfold stepF; split; · show _ ≤ (a.N : Int); omega
          · split; · show _ ≤ a.D - 1; omega
            · show _ ≤ a.D; omega)
      (by unfold stepF; split; · show (a.N : Int) ≤ _; omega
          · split; · show a.D - 1 ≤ _; omega
            · show a.D ≤ _; omega)
    rw [List.foldl_cons, List.length_cons, show n + (l.length + 1) = n + 1 + l.length by omega]
    exact g

theorem byte_of (d : Nat) (h : d < 10) : (UInt8.ofNat (48 + d)).toNat = 48 + d := by
  rw [UInt8.toNat_ofNat']; omega

theorem dec_ok (k : Nat) : ∀ c ∈ Lib.decDigits k, 48 ≤ c.toNat ∧ c.toNat ≤ 57 := by
  induction k using Nat.strongRecOn with
  | _ k ih =>
    rw [Lib.decDigits]
    split
    · rename_i h
      intro c hc
      rw [List.mem_singleton] at hc
      rw [hc, byte_of k h]; omega
    · intro c hc
      rcases List.mem_append.1 hc with hc | hc
      · exact ih (k / 10) (by omega) c hc
      · rw [List.mem_singleton] at hc
        rw [hc, byte_of _ (by omega)]; omega

theorem rdF_dec (k : Nat) (h : 1 ≤ k) : ∃ N, 1 ≤ N ∧ rdF (Lib.decDigits k) = ⟨k, N, 0, false, true⟩ := by
  induction k using Nat.strongRecOn with
  | _ k ih =>
    rw [Lib.decDigits]
    split
    · rename_i hk
      refine ⟨1, by omega, ?_⟩
      show stepF rd0 (UInt8.ofNat (48 + k)) = _
      unfold stepF
      rw [byte_of k hk, if_neg (by omega), if_neg (by omega)]
      simp [rd0]
    · rename_i hk
      obtain ⟨N, hN, e⟩ := ih (k / 10) (by omega) (by omega)
      refine ⟨N + 1, by omega, ?_⟩
      rw [rdF_append, e]
      show stepF _ (UInt8.ofNat (48 + k % 10)) = _
      unfold stepF
      rw [byte_of _ (by omega), if_neg (by omega), if_neg (by simp; omega)]
      simp only [Rd.mk.injEq, and_true]
      omega

theorem rdF_zero : rdF (Lib.decDigits 0) = ⟨0, 0, -1, false, true⟩ := by
  rw [Lib.decDigits, dif_pos (by omega)]; rfl

/-- The number and the exponent of a text of quarters. -/
def partL : List (List UInt8) := [[], [46, 50, 53], [46, 53], [46, 55, 53]]
def textL (q : Nat) : List UInt8 := Lib.decDigits (q / 4) ++ partL.getD (q % 4) []
def mantQ (q : Nat) : Nat := if q % 4 = 0 then q / 4 else if q % 4 = 2 then 10 * (q / 4) + 5 else if q % 4 = 1 then 100 * (q / 4) + 25 else 100 * (q / 4) + 75
def expQ (q : Nat) : Int := if q % 4 = 0 then 0 else if q % 4 = 2 then -1 else -2

theorem rdF_base (k : Nat) : ∃ N D, rdF (Lib.decDigits k) = ⟨k, N, D, false, true⟩ := by
  by_cases h : 1 ≤ k
  · obtain ⟨N, _, e⟩ := rdF_dec k h; exact ⟨N, 0, e⟩
  · obtain rfl : k = 0 := by omega
    exact ⟨0, -1, rdF_zero⟩

theorem rdF_text (q : Nat) : (rdF (textL q)).M = mantQ q ∧ rdExp (rdF (textL q)) = expQ q ∧ (rdF (textL q)).dig = true := by
  obtain ⟨N, D, e⟩ := rdF_base (q / 4)
  have hr : q % 4 = 0 ∨ q % 4 = 1 ∨ q % 4 = 2 ∨ q % 4 = 3 := by omega
  unfold textL mantQ expQ
  rw [rdF_append, e]
  rcases hr with h | h | h | h <;> rw [h] <;> simp only [partL, List.getD_cons_zero, List.getD_cons_succ, List.foldl_nil, List.foldl_cons]
  · refine ⟨by simp, ?_, by simp⟩
    unfold rdExp; split <;> simp
  · have e1 : stepF (stepF (stepF ⟨q / 4, N, D, false, true⟩ 46) 50) 53 = ⟨10 * (10 * (q / 4) + 2) + 5, N + 2, N, true, true⟩ := by
      simp [stepF]
    rw [e1]
    refine ⟨by show 10 * (10 * (q / 4) + 2) + 5 = _; simp; omega, ?_, rfl⟩
    unfold rdExp; rw [if_neg (by show ¬ 10 * (10 * (q / 4) + 2) + 5 = 0; omega)]; simp; omega
  · have e1 : stepF (stepF ⟨q / 4, N, D, false, true⟩ 46) 53 = ⟨10 * (q / 4) + 5, N + 1, N, true, true⟩ := by
      simp [stepF]
    rw [e1]
    refine ⟨by show 10 * (q / 4) + 5 = _; simp, ?_, rfl⟩
    unfold rdExp; rw [if_neg (by show ¬ 10 * (q / 4) + 5 = 0; omega)]; simp; omega
  · have e1 : stepF (stepF (stepF ⟨q / 4, N, D, false, true⟩ 46) 55) 53 = ⟨10 * (10 * (q / 4) + 7) + 5, N + 2, N, true, true⟩ := by
      simp [stepF]
    rw [e1]
    refine ⟨by show 10 * (10 * (q / 4) + 7) + 5 = _; simp; omega, ?_, rfl⟩
    unfold rdExp; rw [if_neg (by show ¬ 10 * (10 * (q / 4) + 7) + 5 = 0; omega)]; simp; omega


theorem part_ok (r : Nat) : ∀ j c, (partL.getD r [])[j]? = some c → okC c ∧ (c.toNat = 46 → j = 0) := by
  intro j c h
  have : r = 0 ∨ r = 1 ∨ r = 2 ∨ r = 3 ∨ 4 ≤ r := by omega
  rcases this with rfl | rfl | rfl | rfl | hr
  · simp [partL] at h
  · match j, h with
    | 0, h => cases h; exact ⟨.inl rfl, fun _ => rfl⟩
    | 1, h => cases h; exact ⟨.inr ⟨by decide, by decide⟩, fun h => absurd h (by decide)⟩
    | 2, h => cases h; exact ⟨.inr ⟨by decide, by decide⟩, fun h => absurd h (by decide)⟩
    | j + 3, h => cases h
  · match j, h with
    | 0, h => cases h; exact ⟨.inl rfl, fun _ => rfl⟩
    | 1, h => cases h; exact ⟨.inr ⟨by decide, by decide⟩, fun h => absurd h (by decide)⟩
    | j + 2, h => cases h
  · match j, h with
    | 0, h => cases h; exact ⟨.inl rfl, fun _ => rfl⟩
    | 1, h => cases h; exact ⟨.inr ⟨by decide, by decide⟩, fun h => absurd h (by decide)⟩
    | 2, h => cases h; exact ⟨.inr ⟨by decide, by decide⟩, fun h => absurd h (by decide)⟩
    | j + 3, h => cases h
  · have e : partL.getD r [] = [] := by
      rw [List.getD_eq_getElem?_getD, List.getElem?_eq_none (by simp [partL]; omega)]; rfl
    rw [e] at h; cases h

theorem part_len (r : Nat) : (partL.getD r []).length ≤ 3 := by
  rcases Nat.lt_or_ge r 4 with h | h
  · have : r = 0 ∨ r = 1 ∨ r = 2 ∨ r = 3 := by omega
    rcases this with rfl | rfl | rfl | rfl <;> decide
  · rw [List.getD_eq_getElem?_getD, List.getElem?_eq_none (by simp [partL]; omega)]; simp

theorem nDigits_13 (k : Nat) (h : k ≤ 1099511627776) : Lib.nDigits k ≤ 13 := by
  rcases Nat.lt_or_ge (Lib.nDigits k) 14 with g | g
  · omega
  · exfalso
    have key : ∀ n k, Lib.nDigits k = n + 1 → 1 ≤ n → 10 ^ n ≤ k := by
      intro n
      induction n with
      | zero => intro k _ h; omega
      | succ n ih =>
        intro k hk _
        by_cases hs : k < 10
        · rw [Lib.nDigits_small hs] at hk; omega
        · rw [Lib.nDigits_big hs] at hk
          by_cases hn : n = 0
          · subst hn; rw [Nat.pow_succ]; simp; omega
          · have := ih (k / 10) (by omega) (by omega)
            rw [Nat.pow_succ]; omega
    have h1 := key (Lib.nDigits k - 1) k (by omega) (by omega)
    have h2 : 10 ^ 13 ≤ 10 ^ (Lib.nDigits k - 1) := Nat.pow_le_pow_right (by omega) (by omega)
    omega

theorem rdOk_text (q : Nat) (hq : q ≤ 4398046511104) : RdOk ⟨(textL q).toArray⟩ (fun k => rdF ((textL q).take k)) := by
  have hdl : (Lib.decDigits (q / 4)).length = Lib.nDigits (q / 4) := Lib.decDigits_length _
  have hd13 := nDigits_13 (q / 4) (by omega)
  have hd1 := Lib.nDigits_pos (q / 4)
  have hpl := part_len (q % 4)
  have hlen : (textL q).length = Lib.nDigits (q / 4) + (partL.getD (q % 4) []).length := by unfold textL; rw [List.length_append, hdl]
  have hsz : (⟨(textL q).toArray⟩ : ByteArray).size = (textL q).length := by simp [ByteArray.size]
  have hget : ∀ k (h : k < (⟨(textL q).toArray⟩ : ByteArray).size), (⟨(textL q).toArray⟩ : ByteArray)[k]'h = (textL q)[k]'(by omega) := by
    intro k h; rfl
  have hch' : ∀ k c, (textL q)[k]? = some c → okC c ∧ (c.toNat = 46 → k = Lib.nDigits (q / 4)) := by
    intro k c h
    unfold textL at h
    rcases Nat.lt_or_ge k (Lib.decDigits (q / 4)).length with g | g
    · rw [List.getElem?_append_left g, List.getElem?_eq_getElem g, Option.some.injEq] at h
      have := dec_ok (q / 4) _ (List.getElem_mem g)
      rw [h] at this
      exact ⟨.inr this, fun h => by omega⟩
    · rw [List.getElem?_append_right g] at h
      have := part_ok (q % 4) _ _ h
      exact ⟨this.1, fun h => by have := this.2 h; omega⟩
  have hch : ∀ k (h : k < (textL q).length), okC (textL q)[k] ∧ (((textL q)[k]).toNat = 46 → k = Lib.nDigits (q / 4)) := fun k h => hch' k _ (List.getElem?_eq_getElem h)
  refine ⟨?_, rfl, ?_, ?_, ?_, ?_, ?_⟩
  · rw [hsz]; omega
  · intro k h
    rw [hget k h]
    obtain ⟨h1, h2⟩ := hch k (by omega)
    show rdStep _ (rdF ((textL q).take k)) (rdF ((textL q).take (k + 1)))
    have hkl : k < (textL q).length := by omega
    rw [List.take_succ_eq_append_getElem hkl, rdF_append]
    show rdStep _ _ (stepF (rdF ((textL q).take k)) (textL q)[k])
    generalize hc : (textL q)[k] = c at *
    by_cases c46 : c.toNat = 46
    · refine .inl ⟨c46, ?_, by unfold stepF; rw [if_pos c46]⟩
      have hk := h2 c46
      have : (textL q).take k = Lib.decDigits (q / 4) := by
        unfold textL; rw [List.take_append_of_le_length (by omega), List.take_of_length_le (by omega)]
      obtain ⟨N, D, e⟩ := rdF_base (q / 4)
      rw [this, e]
    · by_cases c48 : c.toNat = 48 ∧ (rdF ((textL q).take k)).N = 0
      · exact .inr (.inl ⟨c48.1, c48.2, by unfold stepF; rw [if_neg c46, if_pos c48]⟩)
      · refine .inr (.inr ⟨?_, ?_, c48, by unfold stepF; rw [if_neg c46, if_neg c48]⟩)
        · unfold okC at h1; omega
        · unfold okC at h1; omega
  · intro k hk
    have h := rd_bd ((textL q).take k) rd0 0 (fun c hc => by
      obtain ⟨j, hj, rfl⟩ := List.getElem_of_mem (List.mem_of_mem_take hc)
      exact (hch j hj).1) (by simp [rd0]) (by simp [rd0]) (by simp [rd0]) (by simp [rd0])
    have hl : ((textL q).take k).length ≤ 18 := by rw [List.length_take]; omega
    rw [Nat.zero_add] at h
    have hp : 10 ^ ((textL q).take k).length ≤ 10 ^ 18 := Nat.pow_le_pow_right (by omega) hl
    show (rdF _).M ≤ _ ∧ (rdF _).N ≤ 18 ∧ -18 ≤ (rdF _).D ∧ (rdF _).D ≤ 18
    unfold rdF
    omega
  · show (rdF ((textL q).take _)).dig = true
    rw [hsz, List.take_length]
    exact (rdF_text q).2.2
  · rw [hget]
    have g : 0 < (Lib.decDigits (q / 4)).length := by omega
    have : (textL q)[0]'(by omega) = (Lib.decDigits (q / 4))[0] := by
      apply Option.some.inj
      rw [← List.getElem?_eq_getElem, ← List.getElem?_eq_getElem]
      unfold textL; rw [List.getElem?_append_left g]
    rw [this]
    exact dec_ok (q / 4) _ (List.getElem_mem g)
  · intro h
    rw [hget 1 h]
    have := (hch 1 (by omega)).1
    unfold okC at this; omega
end Go.Fq
