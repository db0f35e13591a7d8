/- Messages, plainly: bytes there and back. -/
import Derived.Test.YtidfgjgbigedeaaGreatDoorMqA
namespace Go.Mq
open Go.Fq Go.Iq Go.Wq Go.RowKit Go.Lib
set_option linter.unusedVariables false
set_option linter.unusedSimpArgs false

theorem shape_smP {s : List UInt8} {l : List It} (h : Go.Wq.shape s = some l) : l.length ≤ 256 ∧ ∀ x ∈ l, x.Sm := by
  unfold Go.Wq.shape at h
  split at h
  · cases h
  · split at h
    · rename_i l' hp
      injection h with h; subst h
      obtain ⟨h1, h2⟩ := parse_sm _ _ _ _ _ hp (by omega)
      exact ⟨by simp at h1; omega, h2⟩
    · cases h
theorem msOf_kn {w : Nat → Int} {k : Nat} {l : List Fld} : (msOf w k l).kn = k := by
  unfold msOf Ms.kn
  split
  · rename_i h; subst h; rfl
  · simp
theorem fat_mem {l : List Fld} {k : Nat} (hk : k < l.length) : fat l k ∈ l := by
  unfold fat
  rw [List.getD_eq_getElem?_getD, List.getElem?_eq_getElem hk]
  exact List.getElem_mem hk
theorem fz_fine : Fine fz := ⟨.mk (by omega) (by omega) (by omega) (by omega) (by simp) (by simp) (by simp), .mk (by simp) (by simp), .mk (by simp) (by simp) (by simp)⟩
theorem fat_fine {l : List Fld} (h : ∀ y ∈ l, Fine y) (k : Nat) : Fine (fat l k) := by
  by_cases hk : k < l.length
  · exact h _ (fat_mem hk)
  · have : fat l k = fz := by
      unfold fat
      rw [List.getD_eq_getElem?_getD, List.getElem?_eq_none (by omega)]; rfl
    rw [this]; exact fz_fine
theorem LeI.fit {x : Int} (h : LeI x) : -9223372036854775808 ≤ x ∧ x < 9223372036854775808 := ⟨by have := h.1; omega, by have := h.2; omega⟩
theorem zI : -9223372036854775808 ≤ (0 : Int) ∧ (0 : Int) < 9223372036854775808 := by decide
/-- What is made of fields and may be fits into Go's types. -/
theorem msOf_fit {k : Nat} (h1 : 1 ≤ k) (h4 : k ≤ 4) {l : List Fld} (hf : ∀ y ∈ l, Fine y) (hm : mayB (msOf wM k l) = true) : (msOf wM k l).Fit := by
  have hn := may_news hm
  have hp := may_pack hm
  have F := fat_fine hf
  have hlen : (msOf wM k l).news.length < 4611686018427387904 := by
    unfold msOf
    split
    · simp
    · simp only
      split
      · simp only [nwsOf, List.length_map]; exact (F 4).2.2.n
      · simp
  have hnf : ∀ n ∈ (msOf wM k l).news, n.Fit := by
    intro n hmem
    have hle := hn n hmem
    have : n.dist < 2 ^ 64 ∧ n.radius < 2 ^ 64 := by
      unfold msOf at hmem
      split at hmem
      · simp at hmem
      · simp only at hmem
        split at hmem
        · simp only [nwsOf, List.mem_map] at hmem
          obtain ⟨r, hr, rfl⟩ := hmem
          have hrf : ∀ y ∈ r, Fine y := fun y hy => ⟨(F 4).1.hl r hr y hy, (F 4).2.1.l r hr y hy, (F 4).2.2.l r hr y hy⟩
          exact ⟨(fat_fine hrf 2).1.hf, (fat_fine hrf 3).1.hf⟩
        · simp at hmem
    exact ⟨hle.d.fit, hle.k.fit, hle.h.fit, this.1, this.2⟩
  by_cases hk : k = 4
  · subst hk
    have e : msOf wM 4 l = { kind := 4, nonce := 0, echo := 0, seq := 0, news := [], pk := pkOf wM l } := rfl
    rw [e] at hp hnf hlen ⊢
    have hl := pack_le (hp rfl)
    exact ⟨show (-9223372036854775808 : Int) ≤ 4 ∧ (4 : Int) < 9223372036854775808 from by decide, show (0 : Nat) < 2 ^ 64 from by omega, show (0 : Nat) < 2 ^ 64 from by omega, show (0 : Nat) < 2 ^ 64 from by omega, hnf, hlen, hl.k.fit, hl.f.fit, hl.b.fit, hl.t.fit, hl.h.fit, hl.o.fit, (F 7).1.hu, hl.c.fit, hl.i.fit, hl.a.fit, (F 11).2.1.t, (F 12).2.1.t⟩
  · have e : msOf wM k l = { kind := (k : Int), nonce := (fat l 1).U, echo := (fat l 2).U, seq := if k = 1 then 0 else (fat l 3).U, news := if k = 2 then nwsOf wM (fat l 4).L else [], pk := pkZ } := by unfold msOf; rw [if_neg hk]
    rw [e] at hnf hlen ⊢
    have hs : (if k = 1 then 0 else (fat l 3).U) < 2 ^ 64 := by
      split
      · omega
      · exact (F 3).1.hu
    exact ⟨show (-9223372036854775808 : Int) ≤ (k : Int) ∧ (k : Int) < 9223372036854775808 from ⟨by omega, by omega⟩, (F 1).1.hu, (F 2).1.hu, hs, hnf, hlen, zI, zI, zI, zI, zI, zI, show (0 : Nat) < 2 ^ 64 from by omega, zI, zI, zI, show (0 : Nat) ≤ 140737488351232 from by omega, show (0 : Nat) ≤ 140737488351232 from by omega⟩
/-- What bytes tell is written just so. -/
theorem dec_is {s : List UInt8} {m : Ms} (h : decM s = some m) : mayB m = true ∧ s.length ≤ 65536 ∧ encAll (itsK m.kn) (fldsOf m) = some s ∧ m.Fit ∧ (headSays [117] s).2.2 = 0 ∧ (fat (headSays [117] s).1 0).U = m.kn ∧ m = msOf wM m.kn (decSays (shpL m.kn) s).1 := by
  unfold decM at h
  split at h
  · cases h
  · rename_i hs
    split at h
    · cases h
    · rename_i hh
      split at h
      · cases h
      · rename_i hk
        generalize hkk : (fat (headSays [117] s).1 0).U = k at *
        split at h
        · cases h
        · rename_i hd
          split at h
          · rename_i hm
            have e := Option.some.inj h
            have hk1 : 1 ≤ k := by omega
            have hk4 : k ≤ 4 := by omega
            obtain ⟨its, g1, g2, g3, g4⟩ := dec_only (sh := shpL k) (s := s) (by omega)
            obtain rfl := Option.some.inj ((shape_k hk1 hk4).symm.trans g1)
            obtain ⟨g5, g6⟩ := head_first hk1 hk4 (s := s) (by omega)
            rw [hkk] at g6
            have hsm := (shape_smP (shape_k hk1 hk4)).2
            have hfine : ∀ y ∈ (decSays (shpL k) s).1, Fine y := fun y hy => ⟨g4 y hy, all_fine _ _ _ (shape_ok (shape_k hk1 hk4)) hsm g3 g2 y hy⟩
            have hb := flds_back hk1 hk4 g3 g6.symm hm
            have hkn : m.kn = k := by rw [← e]; exact msOf_kn
            have hfit := msOf_fit hk1 hk4 hfine hm
            rw [e] at hb hm hfit
            rw [hkn, hb]
            exact ⟨hm, by omega, g3, hfit, by omega, rfl, e.symm⟩
          · cases h
theorem rows_few : ∀ (l : List (List Fld)) (a : List UInt8), rows (fun r => encAll [.u, .u, .f, .f, .u] r) l = some a → l.length ≤ a.length
  | [], a, h => by simp
  | x :: l, a, h => by
    simp only [rows] at h
    cases h1 : encAll [.u, .u, .f, .f, .u] x with
    | none => rw [h1] at h; simp at h
    | some b =>
      cases h2 : rows (fun r => encAll [.u, .u, .f, .f, .u] r) l with
      | none => rw [h1, h2] at h; simp at h
      | some d =>
        rw [h1, h2] at h
        obtain rfl := Option.some.inj h
        have h3 := rows_few l d h2
        have h4 := encAll_pos (by simp) h1
        simp only [List.length_cons, List.length_append]; omega
/-- An advert's news: rows of five, no more than the bytes. -/
theorem advert_rows {l : List Fld} {a : List UInt8} (h : encAll (itsK 2) l = some a) : (fat l 4).L.length ≤ a.length ∧ ∀ r ∈ (fat l 4).L, r.length = 5 := by
  obtain ⟨x0, r0, d0, b0, rfl, h0, g0, ea⟩ := encAll_cons (it := .u) (its := [.u, .u, .u, .l [.u, .u, .f, .f, .u]]) h
  clear h
  obtain ⟨x1, r1, d1, b1, rfl, h1, g1, eb⟩ := encAll_cons g0
  obtain ⟨x2, r2, d2, b2, rfl, h2, g2, ec⟩ := encAll_cons g1
  obtain ⟨x3, r3, d3, b3, rfl, h3, g3, ed⟩ := encAll_cons g2
  obtain ⟨x4, r4, d4, b4, rfl, h4, g4, ee⟩ := encAll_cons g3
  obtain rfl := encAll_end g4
  rw [ea, eb, ec, ed, ee]
  obtain ⟨-, hr⟩ := one_l h4
  show x4.L.length ≤ _ ∧ ∀ r ∈ x4.L, r.length = 5
  refine ⟨?_, fun r hr' => ?_⟩
  · simp only [encOne] at h4
    split at h4
    · cases hq : rows (fun r => encAll [.u, .u, .f, .f, .u] r) x4.L with
      | none => rw [hq] at h4; cases h4
      | some d =>
        rw [hq] at h4
        have := rows_few _ _ hq
        obtain rfl := Option.some.inj h4
        simp only [List.length_append]; omega
    · cases h4
  · obtain ⟨b, hb⟩ := hr r hr'
    exact (encAll_len hb).symm
theorem flds_len_k {k : Nat} {l : List Fld} {a : List UInt8} (h : encAll (itsK k) l = some a) : l.length = (itsK k).length := (encAll_len h).symm
theorem head_len {s : List UInt8} (h : (headSays [117] s).2.2 = 0) : (headSays [117] s).1.length = 1 := by
  obtain ⟨its, e1, e2, e3⟩ := headSays_ok h
  obtain rfl := Option.some.inj (shape_u.symm.trans e1)
  obtain ⟨a, ha, -⟩ := only_all s (by omega) [.u] (shape_ok shape_u) _ _ _ e3
  exact (encAll_len ha).symm
def msZ : Ms := ⟨0, 0, 0, 0, [], pkZ⟩
def outM (s : List UInt8) : Ms := (decM s).getD msZ
theorem dec_no1 {s : List UInt8} (h : (headSays [117] s).2.2 ≠ 0) : decM s = none := by
  unfold decM; split
  · rfl
  · first | rw [if_pos h] | simp [h]
theorem dec_no2 {s : List UInt8} (h : (fat (headSays [117] s).1 0).U = 0 ∨ 5 ≤ (fat (headSays [117] s).1 0).U) : decM s = none := by
  unfold decM; split
  · rfl
  · split
    · rfl
    · first | rw [if_pos h] | simp [h]
theorem dec_no3 {s : List UInt8} (h : (decSays (shpL (fat (headSays [117] s).1 0).U) s).2.2 ≠ 0) : decM s = none := by
  unfold decM; split
  · rfl
  · split
    · rfl
    · split
      · rfl
      · first | rw [if_pos h] | simp [h]
/-- Where all is read: what is made of it decides. -/
theorem dec_made {s : List UInt8} {k : Nat} (hs : s.length ≤ 65536) (h1 : (headSays [117] s).2.2 = 0) (hk : (fat (headSays [117] s).1 0).U = k) (hk1 : 1 ≤ k) (hk4 : k ≤ 4) (h2 : (decSays (shpL k) s).2.2 = 0) :
    decM s = if mayB (msOf wM k (decSays (shpL k) s).1) then some (msOf wM k (decSays (shpL k) s).1) else none := by
  unfold decM
  rw [if_neg (by omega), if_neg (by omega), hk, if_neg (by omega), if_neg (by omega)]
theorem code_none {s : List UInt8} (hs : s.length ≤ 65536) (h : decM s = none) : codeD s = 60 ∧ outM s = msZ := by
  unfold codeD outM; rw [if_neg (by omega), h]; exact ⟨rfl, rfl⟩
theorem code_some {s : List UInt8} {m : Ms} (hs : s.length ≤ 65536) (h : decM s = some m) : codeD s = 0 ∧ outM s = m := by
  unfold codeD outM; rw [if_neg (by omega), h]; exact ⟨rfl, rfl⟩
theorem code_long {s : List UInt8} (hs : 65536 < s.length) : codeD s = 3 ∧ outM s = msZ := by
  unfold codeD outM decM; rw [if_pos hs, if_pos hs]; exact ⟨rfl, rfl⟩
/-- What is made of fields fits as far as its tests look. -/
def InI (w : Nat → Int) : Prop := ∀ n, -9223372036854775808 ≤ w n ∧ w n < 9223372036854775808
theorem inM : InI wM := fun n => by unfold wM; split <;> omega
theorem inR : InI wR := fun n => by unfold wR; split <;> omega
theorem msOf_news {w : Nat → Int} (hw : InI w) {k : Nat} {l : List Fld} (hf : ∀ y ∈ l, Fine y) : (∀ n ∈ (msOf w k l).news, n.Fit) ∧ (msOf w k l).news.length < 4611686018427387904 ∧ (msOf w k l).pk.name.size ≤ 140737488351232 := by
  have F := fat_fine hf
  refine ⟨?_, ?_, ?_⟩
  · intro n hmem
    unfold msOf at hmem
    split at hmem
    · simp at hmem
    · simp only at hmem
      split at hmem
      · simp only [nwsOf, List.mem_map] at hmem
        obtain ⟨r, hr, rfl⟩ := hmem
        have hrf : ∀ y ∈ r, Fine y := fun y hy => ⟨(F 4).1.hl r hr y hy, (F 4).2.1.l r hr y hy, (F 4).2.2.l r hr y hy⟩
        exact ⟨hw _, hw _, hw _, (fat_fine hrf 2).1.hf, (fat_fine hrf 3).1.hf⟩
      · simp at hmem
  · unfold msOf
    split
    · simp
    · simp only
      split
      · simp only [nwsOf, List.length_map]; exact (F 4).2.2.n
      · simp
  · unfold msOf
    split
    · exact (F 11).2.1.t
    · exact Nat.zero_le _
end Go.Mq
