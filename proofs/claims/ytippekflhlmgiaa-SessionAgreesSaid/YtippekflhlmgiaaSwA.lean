/- Sessions: what each call tells, the program's and the document's. -/
import Derived.Test.YtippekflhlmgiaaFl1
import Derived.Test.YtippekflhlmgiaaSqA
import Derived.Test.YtippekflhlmgiaaIqS
import Derived.Below
import Derived.ProofKit
import Derived.Lib.Hide
namespace Go.Proofs.Ytippekflhlmgiaa
open Go.RowKit Go.Lib Go.Sq
set_option linter.unusedVariables false
set_option linter.unusedSimpArgs false
set_option maxRecDepth 100000

abbrev seV (x : Se) : Value := .agg #[.int .u64 x.m, .int .u64 x.p, .bool x.u, .int .i64 x.s]
abbrev seO (x : Se) : Obj := .cells #[.int .u64 x.m, .int .u64 x.p, .bool x.u, .int .i64 x.s] 28
theorem bel1 (w : World) (o : Obj) : Below w.heap.size w (w.alloc o) := (Below.refl _ _).alloc (Nat.le_refl _) _
theorem bel2 (w : World) (o p : Obj) : Below w.heap.size w ((w.alloc o).alloc p) := (bel1 w o).alloc (by simp) _

theorem elder_any (x : Se) (n : Int) (w : World) : Calls Try.prog 30 #[seV x, .int .u64 n] w fun e w' => e = .returned (.bool (n == 0 || decide (n < x.p))) ∧ w' = w.alloc (seO x) := by
  obtain ⟨m, p, u, s⟩ := x
  go_enter Try.func30, Try.ntmps30
  go_wp2
  all_goals (go_ret; exact ⟨by simp [*], rfl⟩)
theorem belongs_any (x : Se) (n e : Int) (w : World) : Calls Try.prog 32 #[seV x, .int .u64 n, .int .u64 e] w fun e' w' => e' = .returned (.bool (n != 0 && (n == x.p && e == x.m))) ∧ w' = w.alloc (seO x) := by
  obtain ⟨m, p, u, s⟩ := x
  go_enter Try.func32, Try.ntmps32
  go_wp2
  all_goals (go_ret; exact ⟨by simp [*], rfl⟩)
theorem raise_any (x : Se) (w : World) : Calls Try.prog 31 #[seV x] w fun e w' => e = .returned (.tuple #[seV ⟨x.m, x.p, true, x.s⟩, .bool (!x.u)]) ∧ w' = (w.alloc (seO ⟨x.m, x.p, true, x.s⟩)).alloc (seO ⟨x.m, x.p, true, x.s⟩) := by
  obtain ⟨m, p, u, s⟩ := x
  go_enter Try.func31, Try.ntmps31
  go_wp2
  refine bodyPost_ret (v := .tuple #[seV ⟨m, p, true, s⟩, .bool (!u)]) (by simp [results, Try.results31, go_sem]) rfl ?_
  exact ⟨rfl, rfl⟩
theorem hello_any (x : Se) (w : World) : Calls Try.prog 24 #[seV x] w fun e w' => e = .returned (.tuple #[.int .u64 x.m, .int .u64 x.p]) ∧ Below w.heap.size w w' := by
  obtain ⟨m, p, u, s⟩ := x
  go_enter Try.func24, Try.ntmps24
  go_wp2
  go_quiet (fail)
  go_wp2
  go_ret2
  exact ⟨rfl, by first | exact bel1 _ _ | exact Go.Iq.below_drewN (bel1 _ _) _⟩
theorem rHello_any (x : Se) (w : World) : Calls Try.prog 25 #[seV x] w fun e w' => e = .returned (.tuple #[.int .u64 x.m, .int .u64 x.p]) ∧ Below w.heap.size w w' := by
  obtain ⟨m, p, u, s⟩ := x
  go_enter Try.func25, Try.ntmps25
  go_wp2
  go_quiet (fail)
  go_wp2
  go_ret2
  exact ⟨rfl, by first | exact bel1 _ _ | exact Go.Iq.below_drewN (bel1 _ _) _⟩
theorem rMay_any (x : Se) (w : World) : Calls Try.prog 15 #[seV x] w fun e w' => e = .returned (.bool (mayB x)) ∧ Below w.heap.size w w' := by
  obtain ⟨m, p, u, s⟩ := x
  go_enter Try.func15, Try.ntmps15
  go_wp2
  all_goals (go_ret; exact ⟨by (first | (simp [mayB, *]; done) | (simp [mayB, *]; intros; omega)), bel1 _ _⟩)
theorem rSame_any (x : Se) (w : World) : Calls Try.prog 13 #[seV x, seV x] w fun e w' => e = .returned (.bool true) ∧ Below w.heap.size w w' := by
  obtain ⟨m, p, u, s⟩ := x
  have e1 : (m == m) = true := by simp
  have e2 : (p == p) = true := by simp
  have e3 : (u == u) = true := by simp
  have e4 : (s == s) = true := by simp
  go_enter Try.func13, Try.ntmps13
  go_wp2
  go_ret
  exact ⟨rfl, bel2 _ _ _⟩
theorem new_any (m : Int) (w : World) : Calls Try.prog 9 #[.int .u64 m] w fun e w' => e = .returned (.tuple #[seV ⟨m, 0, false, 0⟩, .int .i64 (if m = 0 then 1 else 0)]) ∧ Below w.heap.size w w' := by
  by_cases h : m = 0
  · subst h
    go_enter Try.func9, Try.ntmps9
    go_wp2
    refine bodyPost_ret (v := .tuple #[seV ⟨0, 0, false, 0⟩, .int .i64 1]) (by simp [results, Try.results9, go_sem]) rfl ?_
    exact ⟨rfl, bel1 _ _⟩
  · have e : (m == 0) = false := by simpa using h
    rw [if_neg h]
    clear h
    go_enter Try.func9, Try.ntmps9
    go_wp2
    refine bodyPost_ret (v := .tuple #[seV ⟨m, 0, false, 0⟩, .int .i64 0]) (by simp [results, Try.results9, go_sem]) rfl ?_
    exact ⟨rfl, bel1 _ _⟩
theorem rNew_any (m : Int) (w : World) : Calls Try.prog 10 #[.int .u64 m] w fun e w' => e = .returned (.tuple #[seV ⟨m, 0, false, 0⟩, .int .i64 (if m = 0 then 1 else 0)]) ∧ Below w.heap.size w w' := by
  by_cases h : m = 0
  · subst h
    go_enter Try.func10, Try.ntmps10
    go_wp2
    refine bodyPost_ret (v := .tuple #[seV ⟨0, 0, false, 0⟩, .int .i64 1]) (by simp [results, Try.results10, go_sem]) rfl ?_
    exact ⟨rfl, bel1 _ _⟩
  · have e : (m == 0) = false := by simpa using h
    rw [if_neg h]
    clear h
    go_enter Try.func10, Try.ntmps10
    go_wp2
    refine bodyPost_ret (v := .tuple #[seV ⟨m, 0, false, 0⟩, .int .i64 0]) (by simp [results, Try.results10, go_sem]) rfl ?_
    exact ⟨rfl, bel1 _ _⟩
theorem down_any (x : Se) (h : Ok x) (w : World) : Calls Try.prog 22 #[seV x] w fun e w' => e = .returned (seV (downF x)) ∧ w' = (w.alloc (seO x)).alloc (seO (downF x)) := by
  obtain ⟨m, p, u, s⟩ := x
  have H1 := h.m1
  have H0 := h.m0
  simp only at H1 H0
  unfold downF nextM
  simp only
  by_cases hm : m = 18446744073709551615
  · subst hm
    clear h H1 H0
    rw [if_pos rfl]
    go_enter Try.func22, Try.ntmps22
    go_wp2
    refine bodyPost_ret (v := seV ⟨18446744073709551615, 0, false, 0⟩) (by simp [results, Try.results22, go_sem]) rfl ?_
    exact ⟨rfl, rfl⟩
  · have e : (m == 18446744073709551615) = false := by simpa using hm
    have e1 : m < 18446744073709551615 := by omega
    have e2 : IntKind.u64.wrap (m + 1) = m + 1 := by unfold IntKind.wrap; simp [IntKind.signed, IntKind.bits]; omega
    rw [if_neg hm]
    clear h hm H1 H0
    go_enter Try.func22, Try.ntmps22
    go_wp2
    refine bodyPost_ret (v := seV ⟨m + 1, 0, false, 0⟩) (by simp [results, Try.results22, go_sem]) rfl ?_
    exact ⟨rfl, rfl⟩
theorem rDown_any (x : Se) (h : Ok x) (w : World) : Calls Try.prog 23 #[seV x] w fun e w' => e = .returned (seV (downF x)) ∧ w' = (w.alloc (seO x)).alloc (seO (downF x)) := by
  obtain ⟨m, p, u, s⟩ := x
  have H1 := h.m1
  have H0 := h.m0
  simp only at H1 H0
  unfold downF nextM
  simp only
  by_cases hm : m = 18446744073709551615
  · subst hm
    clear h H1 H0
    rw [if_pos rfl]
    go_enter Try.func23, Try.ntmps23
    go_wp2
    refine bodyPost_ret (v := seV ⟨18446744073709551615, 0, false, 0⟩) (by simp [results, Try.results23, go_sem]) rfl ?_
    exact ⟨rfl, rfl⟩
  · have e : (m == 18446744073709551615) = false := by simpa using hm
    have e1 : m < 18446744073709551615 := by omega
    have e2 : IntKind.u64.wrap (m + 1) = m + 1 := by unfold IntKind.wrap; simp [IntKind.signed, IntKind.bits]; omega
    rw [if_neg hm]
    clear h hm H1 H0
    go_enter Try.func23, Try.ntmps23
    go_wp2
    refine bodyPost_ret (v := seV ⟨m + 1, 0, false, 0⟩) (by simp [results, Try.results23, go_sem]) rfl ?_
    exact ⟨rfl, rfl⟩
theorem hear_any (x : Se) (n e : Int) (w : World) : Calls Try.prog 16 #[seV x, .int .u64 n, .int .u64 e] w fun e' w' => e' = .returned (.tuple #[seV (hearF x n e).1, .bool (hearF x n e).2.1, .bool (hearF x n e).2.2]) ∧ Below w.heap.size w w' := by
  obtain ⟨m, p, u, s⟩ := x
  unfold hearF
  simp only
  by_cases h0 : n = 0
  · subst h0
    rw [if_pos rfl]
    go_enter Try.func16, Try.ntmps16
    go_wp2_with (first | (go_at_call 30; refine (elder_any ⟨_, _, _, _⟩ _ _).mono ?_; rintro e1 w1 ⟨rfl, rfl⟩) | (go_at_call 31; refine (raise_any ⟨_, _, _, _⟩ _).mono ?_; rintro e1 w1 ⟨rfl, rfl⟩))
    refine bodyPost_ret (v := .tuple #[seV ⟨m, p, u, s⟩, .bool false, .bool false]) (by simp [results, Try.results16, go_sem]) rfl ?_
    exact ⟨rfl, by first | exact bel1 _ _ | exact bel2 _ _ _ | exact (bel2 _ _ _).alloc (by simp; try omega) _ | exact ((bel2 _ _ _).alloc (by simp; try omega) _).alloc (by simp; try omega) _ | exact (((bel2 _ _ _).alloc (by simp; try omega) _).alloc (by simp; try omega) _).alloc (by simp; try omega) _⟩
  have q0 : (n == 0) = false := by simpa using h0
  rw [if_neg h0]
  by_cases h1 : n < p
  · rw [if_pos h1]
    have q1 : decide (n < p) = true := by simpa using h1
    clear h0
    go_enter Try.func16, Try.ntmps16
    go_wp2_with (first | (go_at_call 30; refine (elder_any ⟨_, _, _, _⟩ _ _).mono ?_; rintro e1 w1 ⟨rfl, rfl⟩) | (go_at_call 31; refine (raise_any ⟨_, _, _, _⟩ _).mono ?_; rintro e1 w1 ⟨rfl, rfl⟩))
    refine bodyPost_ret (v := .tuple #[seV ⟨m, p, u, s⟩, .bool false, .bool false]) (by simp [results, Try.results16, go_sem]) rfl ?_
    exact ⟨rfl, by first | exact bel1 _ _ | exact bel2 _ _ _ | exact (bel2 _ _ _).alloc (by simp; try omega) _ | exact ((bel2 _ _ _).alloc (by simp; try omega) _).alloc (by simp; try omega) _ | exact (((bel2 _ _ _).alloc (by simp; try omega) _).alloc (by simp; try omega) _).alloc (by simp; try omega) _⟩
  have q1 : decide (n < p) = false := by simpa using h1
  rw [if_neg h1]
  by_cases h2 : p < n
  · rw [if_pos h2]
    clear h0
    by_cases h3 : e = m
    · subst h3
      have q3 : (e == e) = true := by simp
      rw [q3]
      go_enter Try.func16, Try.ntmps16
      go_wp2_with (first | (go_at_call 30; refine (elder_any ⟨_, _, _, _⟩ _ _).mono ?_; rintro e1 w1 ⟨rfl, rfl⟩) | (go_at_call 31; refine (raise_any ⟨_, _, _, _⟩ _).mono ?_; rintro e1 w1 ⟨rfl, rfl⟩))
      refine bodyPost_ret (v := .tuple #[seV ⟨e, n, true, 0⟩, .bool true, .bool true]) (by simp [results, Try.results16, go_sem]) rfl ?_
      exact ⟨rfl, by first | exact bel1 _ _ | exact bel2 _ _ _ | exact (bel2 _ _ _).alloc (by simp; try omega) _ | exact ((bel2 _ _ _).alloc (by simp; try omega) _).alloc (by simp; try omega) _ | exact (((bel2 _ _ _).alloc (by simp; try omega) _).alloc (by simp; try omega) _).alloc (by simp; try omega) _⟩
    · have q3 : (e == m) = false := by simpa using h3
      rw [q3]
      clear h3
      go_enter Try.func16, Try.ntmps16
      go_wp2_with (first | (go_at_call 30; refine (elder_any ⟨_, _, _, _⟩ _ _).mono ?_; rintro e1 w1 ⟨rfl, rfl⟩) | (go_at_call 31; refine (raise_any ⟨_, _, _, _⟩ _).mono ?_; rintro e1 w1 ⟨rfl, rfl⟩))
      refine bodyPost_ret (v := .tuple #[seV ⟨m, n, false, 0⟩, .bool true, .bool false]) (by simp [results, Try.results16, go_sem]) rfl ?_
      exact ⟨rfl, by first | exact bel1 _ _ | exact bel2 _ _ _ | exact (bel2 _ _ _).alloc (by simp; try omega) _ | exact ((bel2 _ _ _).alloc (by simp; try omega) _).alloc (by simp; try omega) _ | exact (((bel2 _ _ _).alloc (by simp; try omega) _).alloc (by simp; try omega) _).alloc (by simp; try omega) _⟩
  · obtain rfl : n = p := by omega
    rw [if_neg h2]
    clear h0
    by_cases h3 : e = m
    · subst h3
      have q3 : (e == e) = true := by simp
      rw [q3]
      cases u
      ·
        go_enter Try.func16, Try.ntmps16
        go_wp2_with (first | (go_at_call 30; refine (elder_any ⟨_, _, _, _⟩ _ _).mono ?_; rintro e1 w1 ⟨rfl, rfl⟩) | (go_at_call 31; refine (raise_any ⟨_, _, _, _⟩ _).mono ?_; rintro e1 w1 ⟨rfl, rfl⟩))
        refine bodyPost_ret (v := .tuple #[seV ⟨e, n, true, 0⟩, .bool false, .bool true]) (by simp [results, Try.results16, go_sem]) rfl ?_
        exact ⟨rfl, by first | exact bel1 _ _ | exact bel2 _ _ _ | exact (bel2 _ _ _).alloc (by simp; try omega) _ | exact ((bel2 _ _ _).alloc (by simp; try omega) _).alloc (by simp; try omega) _ | exact (((bel2 _ _ _).alloc (by simp; try omega) _).alloc (by simp; try omega) _).alloc (by simp; try omega) _⟩
      ·
        go_enter Try.func16, Try.ntmps16
        go_wp2_with (first | (go_at_call 30; refine (elder_any ⟨_, _, _, _⟩ _ _).mono ?_; rintro e1 w1 ⟨rfl, rfl⟩) | (go_at_call 31; refine (raise_any ⟨_, _, _, _⟩ _).mono ?_; rintro e1 w1 ⟨rfl, rfl⟩))
        refine bodyPost_ret (v := .tuple #[seV ⟨e, n, true, 0⟩, .bool false, .bool false]) (by simp [results, Try.results16, go_sem]) rfl ?_
        exact ⟨rfl, by first | exact bel1 _ _ | exact bel2 _ _ _ | exact (bel2 _ _ _).alloc (by simp; try omega) _ | exact ((bel2 _ _ _).alloc (by simp; try omega) _).alloc (by simp; try omega) _ | exact (((bel2 _ _ _).alloc (by simp; try omega) _).alloc (by simp; try omega) _).alloc (by simp; try omega) _⟩
    · have q3 : (e == m) = false := by simpa using h3
      rw [q3]
      clear h3
      cases u
      ·
        go_enter Try.func16, Try.ntmps16
        go_wp2_with (first | (go_at_call 30; refine (elder_any ⟨_, _, _, _⟩ _ _).mono ?_; rintro e1 w1 ⟨rfl, rfl⟩) | (go_at_call 31; refine (raise_any ⟨_, _, _, _⟩ _).mono ?_; rintro e1 w1 ⟨rfl, rfl⟩))
        refine bodyPost_ret (v := .tuple #[seV ⟨m, n, false, 0⟩, .bool false, .bool false]) (by simp [results, Try.results16, go_sem]) rfl ?_
        exact ⟨rfl, by first | exact bel1 _ _ | exact bel2 _ _ _ | exact (bel2 _ _ _).alloc (by simp; try omega) _ | exact ((bel2 _ _ _).alloc (by simp; try omega) _).alloc (by simp; try omega) _ | exact (((bel2 _ _ _).alloc (by simp; try omega) _).alloc (by simp; try omega) _).alloc (by simp; try omega) _⟩
      ·
        go_enter Try.func16, Try.ntmps16
        go_wp2_with (first | (go_at_call 30; refine (elder_any ⟨_, _, _, _⟩ _ _).mono ?_; rintro e1 w1 ⟨rfl, rfl⟩) | (go_at_call 31; refine (raise_any ⟨_, _, _, _⟩ _).mono ?_; rintro e1 w1 ⟨rfl, rfl⟩))
        refine bodyPost_ret (v := .tuple #[seV ⟨m, n, true, 0⟩, .bool false, .bool false]) (by simp [results, Try.results16, go_sem]) rfl ?_
        exact ⟨rfl, by first | exact bel1 _ _ | exact bel2 _ _ _ | exact (bel2 _ _ _).alloc (by simp; try omega) _ | exact ((bel2 _ _ _).alloc (by simp; try omega) _).alloc (by simp; try omega) _ | exact (((bel2 _ _ _).alloc (by simp; try omega) _).alloc (by simp; try omega) _).alloc (by simp; try omega) _⟩
theorem rHear_any (x : Se) (n e : Int) (w : World) : Calls Try.prog 17 #[seV x, .int .u64 n, .int .u64 e] w fun e' w' => e' = .returned (.tuple #[seV (hearF x n e).1, .bool (hearF x n e).2.1, .bool (hearF x n e).2.2]) ∧ Below w.heap.size w w' := by
  obtain ⟨m, p, u, s⟩ := x
  unfold hearF
  simp only
  by_cases h0 : n = 0
  · subst h0
    rw [if_pos rfl]
    go_enter Try.func17, Try.ntmps17
    go_wp2_with (fail)
    refine bodyPost_ret (v := .tuple #[seV ⟨m, p, u, s⟩, .bool false, .bool false]) (by simp [results, Try.results17, go_sem]) rfl ?_
    exact ⟨rfl, by first | exact bel1 _ _ | exact bel2 _ _ _ | exact (bel2 _ _ _).alloc (by simp; try omega) _ | exact ((bel2 _ _ _).alloc (by simp; try omega) _).alloc (by simp; try omega) _ | exact (((bel2 _ _ _).alloc (by simp; try omega) _).alloc (by simp; try omega) _).alloc (by simp; try omega) _⟩
  have q0 : (n == 0) = false := by simpa using h0
  rw [if_neg h0]
  by_cases h1 : n < p
  · rw [if_pos h1]
    have q1 : decide (n < p) = true := by simpa using h1
    clear h0
    go_enter Try.func17, Try.ntmps17
    go_wp2_with (fail)
    refine bodyPost_ret (v := .tuple #[seV ⟨m, p, u, s⟩, .bool false, .bool false]) (by simp [results, Try.results17, go_sem]) rfl ?_
    exact ⟨rfl, by first | exact bel1 _ _ | exact bel2 _ _ _ | exact (bel2 _ _ _).alloc (by simp; try omega) _ | exact ((bel2 _ _ _).alloc (by simp; try omega) _).alloc (by simp; try omega) _ | exact (((bel2 _ _ _).alloc (by simp; try omega) _).alloc (by simp; try omega) _).alloc (by simp; try omega) _⟩
  have q1 : decide (n < p) = false := by simpa using h1
  rw [if_neg h1]
  by_cases h2 : p < n
  · rw [if_pos h2]
    clear h0
    by_cases h3 : e = m
    · subst h3
      have q3 : (e == e) = true := by simp
      rw [q3]
      go_enter Try.func17, Try.ntmps17
      go_wp2_with (fail)
      refine bodyPost_ret (v := .tuple #[seV ⟨e, n, true, 0⟩, .bool true, .bool true]) (by simp [results, Try.results17, go_sem]) rfl ?_
      exact ⟨rfl, by first | exact bel1 _ _ | exact bel2 _ _ _ | exact (bel2 _ _ _).alloc (by simp; try omega) _ | exact ((bel2 _ _ _).alloc (by simp; try omega) _).alloc (by simp; try omega) _ | exact (((bel2 _ _ _).alloc (by simp; try omega) _).alloc (by simp; try omega) _).alloc (by simp; try omega) _⟩
    · have q3 : (e == m) = false := by simpa using h3
      rw [q3]
      clear h3
      go_enter Try.func17, Try.ntmps17
      go_wp2_with (fail)
      refine bodyPost_ret (v := .tuple #[seV ⟨m, n, false, 0⟩, .bool true, .bool false]) (by simp [results, Try.results17, go_sem]) rfl ?_
      exact ⟨rfl, by first | exact bel1 _ _ | exact bel2 _ _ _ | exact (bel2 _ _ _).alloc (by simp; try omega) _ | exact ((bel2 _ _ _).alloc (by simp; try omega) _).alloc (by simp; try omega) _ | exact (((bel2 _ _ _).alloc (by simp; try omega) _).alloc (by simp; try omega) _).alloc (by simp; try omega) _⟩
  · obtain rfl : n = p := by omega
    rw [if_neg h2]
    clear h0
    by_cases h3 : e = m
    · subst h3
      have q3 : (e == e) = true := by simp
      rw [q3]
      cases u
      ·
        go_enter Try.func17, Try.ntmps17
        go_wp2_with (fail)
        refine bodyPost_ret (v := .tuple #[seV ⟨e, n, true, 0⟩, .bool false, .bool true]) (by simp [results, Try.results17, go_sem]) rfl ?_
        exact ⟨rfl, by first | exact bel1 _ _ | exact bel2 _ _ _ | exact (bel2 _ _ _).alloc (by simp; try omega) _ | exact ((bel2 _ _ _).alloc (by simp; try omega) _).alloc (by simp; try omega) _ | exact (((bel2 _ _ _).alloc (by simp; try omega) _).alloc (by simp; try omega) _).alloc (by simp; try omega) _⟩
      ·
        go_enter Try.func17, Try.ntmps17
        go_wp2_with (fail)
        refine bodyPost_ret (v := .tuple #[seV ⟨e, n, true, 0⟩, .bool false, .bool false]) (by simp [results, Try.results17, go_sem]) rfl ?_
        exact ⟨rfl, by first | exact bel1 _ _ | exact bel2 _ _ _ | exact (bel2 _ _ _).alloc (by simp; try omega) _ | exact ((bel2 _ _ _).alloc (by simp; try omega) _).alloc (by simp; try omega) _ | exact (((bel2 _ _ _).alloc (by simp; try omega) _).alloc (by simp; try omega) _).alloc (by simp; try omega) _⟩
    · have q3 : (e == m) = false := by simpa using h3
      rw [q3]
      clear h3
      cases u
      ·
        go_enter Try.func17, Try.ntmps17
        go_wp2_with (fail)
        refine bodyPost_ret (v := .tuple #[seV ⟨m, n, false, 0⟩, .bool false, .bool false]) (by simp [results, Try.results17, go_sem]) rfl ?_
        exact ⟨rfl, by first | exact bel1 _ _ | exact bel2 _ _ _ | exact (bel2 _ _ _).alloc (by simp; try omega) _ | exact ((bel2 _ _ _).alloc (by simp; try omega) _).alloc (by simp; try omega) _ | exact (((bel2 _ _ _).alloc (by simp; try omega) _).alloc (by simp; try omega) _).alloc (by simp; try omega) _⟩
      ·
        go_enter Try.func17, Try.ntmps17
        go_wp2_with (fail)
        refine bodyPost_ret (v := .tuple #[seV ⟨m, n, true, 0⟩, .bool false, .bool false]) (by simp [results, Try.results17, go_sem]) rfl ?_
        exact ⟨rfl, by first | exact bel1 _ _ | exact bel2 _ _ _ | exact (bel2 _ _ _).alloc (by simp; try omega) _ | exact ((bel2 _ _ _).alloc (by simp; try omega) _).alloc (by simp; try omega) _ | exact (((bel2 _ _ _).alloc (by simp; try omega) _).alloc (by simp; try omega) _).alloc (by simp; try omega) _⟩
theorem accept_any (x : Se) (n e : Int) (w : World) : Calls Try.prog 18 #[seV x, .int .u64 n, .int .u64 e] w fun e' w' => e' = .returned (.tuple #[seV (acceptF x n e).1, .bool (acceptF x n e).2.1, .bool (acceptF x n e).2.2]) ∧ Below w.heap.size w w' := by
  obtain ⟨m, p, u, s⟩ := x
  unfold acceptF
  simp only
  by_cases h0 : n = 0
  · subst h0
    have g0 : ((0 : Int) != 0) = false := by simp
    rw [if_pos rfl]
    go_enter Try.func18, Try.ntmps18
    go_wp2_with (first | (go_at_call 32; refine (belongs_any ⟨_, _, _, _⟩ _ _ _).mono ?_; rintro e1 w1 ⟨rfl, rfl⟩) | (go_at_call 31; refine (raise_any ⟨_, _, _, _⟩ _).mono ?_; rintro e1 w1 ⟨rfl, rfl⟩))
    refine bodyPost_ret (v := .tuple #[seV ⟨m, p, u, s⟩, .bool false, .bool false]) (by simp [results, Try.results18, go_sem]) rfl ?_
    exact ⟨rfl, by first | exact bel1 _ _ | exact bel2 _ _ _ | exact (bel2 _ _ _).alloc (by simp; try omega) _ | exact ((bel2 _ _ _).alloc (by simp; try omega) _).alloc (by simp; try omega) _ | exact (((bel2 _ _ _).alloc (by simp; try omega) _).alloc (by simp; try omega) _).alloc (by simp; try omega) _⟩
  have q0 : (n == 0) = false := by simpa using h0
  have g0 : (n != 0) = true := by simpa using h0
  rw [if_neg h0]
  clear h0
  by_cases h1 : n = p
  · subst h1
    rw [if_pos rfl]
    have q1 : (n == n) = true := by simp
    have g1 : (n != n) = false := by simp
    by_cases h2 : e = m
    · subst h2
      rw [if_pos rfl]
      have q2 : (e == e) = true := by simp
      have g2 : (e != e) = false := by simp
      cases u
      ·
        go_enter Try.func18, Try.ntmps18
        go_wp2_with (first | (go_at_call 32; refine (belongs_any ⟨_, _, _, _⟩ _ _ _).mono ?_; rintro e1 w1 ⟨rfl, rfl⟩) | (go_at_call 31; refine (raise_any ⟨_, _, _, _⟩ _).mono ?_; rintro e1 w1 ⟨rfl, rfl⟩))
        refine bodyPost_ret (v := .tuple #[seV ⟨e, n, true, 0⟩, .bool true, .bool true]) (by simp [results, Try.results18, go_sem]) rfl ?_
        exact ⟨rfl, by first | exact bel1 _ _ | exact bel2 _ _ _ | exact (bel2 _ _ _).alloc (by simp; try omega) _ | exact ((bel2 _ _ _).alloc (by simp; try omega) _).alloc (by simp; try omega) _ | exact (((bel2 _ _ _).alloc (by simp; try omega) _).alloc (by simp; try omega) _).alloc (by simp; try omega) _⟩
      ·
        go_enter Try.func18, Try.ntmps18
        go_wp2_with (first | (go_at_call 32; refine (belongs_any ⟨_, _, _, _⟩ _ _ _).mono ?_; rintro e1 w1 ⟨rfl, rfl⟩) | (go_at_call 31; refine (raise_any ⟨_, _, _, _⟩ _).mono ?_; rintro e1 w1 ⟨rfl, rfl⟩))
        refine bodyPost_ret (v := .tuple #[seV ⟨e, n, true, 0⟩, .bool true, .bool false]) (by simp [results, Try.results18, go_sem]) rfl ?_
        exact ⟨rfl, by first | exact bel1 _ _ | exact bel2 _ _ _ | exact (bel2 _ _ _).alloc (by simp; try omega) _ | exact ((bel2 _ _ _).alloc (by simp; try omega) _).alloc (by simp; try omega) _ | exact (((bel2 _ _ _).alloc (by simp; try omega) _).alloc (by simp; try omega) _).alloc (by simp; try omega) _⟩
    · rw [if_neg h2]
      have q2 : (e == m) = false := by simpa using h2
      have g2 : (e != m) = true := by simpa using h2
      clear h2
      go_enter Try.func18, Try.ntmps18
      go_wp2_with (first | (go_at_call 32; refine (belongs_any ⟨_, _, _, _⟩ _ _ _).mono ?_; rintro e1 w1 ⟨rfl, rfl⟩) | (go_at_call 31; refine (raise_any ⟨_, _, _, _⟩ _).mono ?_; rintro e1 w1 ⟨rfl, rfl⟩))
      refine bodyPost_ret (v := .tuple #[seV ⟨m, n, u, s⟩, .bool false, .bool false]) (by simp [results, Try.results18, go_sem]) rfl ?_
      exact ⟨rfl, by first | exact bel1 _ _ | exact bel2 _ _ _ | exact (bel2 _ _ _).alloc (by simp; try omega) _ | exact ((bel2 _ _ _).alloc (by simp; try omega) _).alloc (by simp; try omega) _ | exact (((bel2 _ _ _).alloc (by simp; try omega) _).alloc (by simp; try omega) _).alloc (by simp; try omega) _⟩
  · rw [if_neg h1]
    have q1 : (n == p) = false := by simpa using h1
    have g1 : (n != p) = true := by simpa using h1
    clear h1
    go_enter Try.func18, Try.ntmps18
    go_wp2_with (first | (go_at_call 32; refine (belongs_any ⟨_, _, _, _⟩ _ _ _).mono ?_; rintro e1 w1 ⟨rfl, rfl⟩) | (go_at_call 31; refine (raise_any ⟨_, _, _, _⟩ _).mono ?_; rintro e1 w1 ⟨rfl, rfl⟩))
    refine bodyPost_ret (v := .tuple #[seV ⟨m, p, u, s⟩, .bool false, .bool false]) (by simp [results, Try.results18, go_sem]) rfl ?_
    exact ⟨rfl, by first | exact bel1 _ _ | exact bel2 _ _ _ | exact (bel2 _ _ _).alloc (by simp; try omega) _ | exact ((bel2 _ _ _).alloc (by simp; try omega) _).alloc (by simp; try omega) _ | exact (((bel2 _ _ _).alloc (by simp; try omega) _).alloc (by simp; try omega) _).alloc (by simp; try omega) _⟩
theorem rAccept_any (x : Se) (n e : Int) (w : World) : Calls Try.prog 19 #[seV x, .int .u64 n, .int .u64 e] w fun e' w' => e' = .returned (.tuple #[seV (acceptF x n e).1, .bool (acceptF x n e).2.1, .bool (acceptF x n e).2.2]) ∧ Below w.heap.size w w' := by
  obtain ⟨m, p, u, s⟩ := x
  unfold acceptF
  simp only
  by_cases h0 : n = 0
  · subst h0
    have g0 : ((0 : Int) != 0) = false := by simp
    rw [if_pos rfl]
    go_enter Try.func19, Try.ntmps19
    go_wp2_with (fail)
    refine bodyPost_ret (v := .tuple #[seV ⟨m, p, u, s⟩, .bool false, .bool false]) (by simp [results, Try.results19, go_sem]) rfl ?_
    exact ⟨rfl, by first | exact bel1 _ _ | exact bel2 _ _ _ | exact (bel2 _ _ _).alloc (by simp; try omega) _ | exact ((bel2 _ _ _).alloc (by simp; try omega) _).alloc (by simp; try omega) _ | exact (((bel2 _ _ _).alloc (by simp; try omega) _).alloc (by simp; try omega) _).alloc (by simp; try omega) _⟩
  have q0 : (n == 0) = false := by simpa using h0
  have g0 : (n != 0) = true := by simpa using h0
  rw [if_neg h0]
  clear h0
  by_cases h1 : n = p
  · subst h1
    rw [if_pos rfl]
    have q1 : (n == n) = true := by simp
    have g1 : (n != n) = false := by simp
    by_cases h2 : e = m
    · subst h2
      rw [if_pos rfl]
      have q2 : (e == e) = true := by simp
      have g2 : (e != e) = false := by simp
      cases u
      ·
        go_enter Try.func19, Try.ntmps19
        go_wp2_with (fail)
        refine bodyPost_ret (v := .tuple #[seV ⟨e, n, true, 0⟩, .bool true, .bool true]) (by simp [results, Try.results19, go_sem]) rfl ?_
        exact ⟨rfl, by first | exact bel1 _ _ | exact bel2 _ _ _ | exact (bel2 _ _ _).alloc (by simp; try omega) _ | exact ((bel2 _ _ _).alloc (by simp; try omega) _).alloc (by simp; try omega) _ | exact (((bel2 _ _ _).alloc (by simp; try omega) _).alloc (by simp; try omega) _).alloc (by simp; try omega) _⟩
      ·
        go_enter Try.func19, Try.ntmps19
        go_wp2_with (fail)
        refine bodyPost_ret (v := .tuple #[seV ⟨e, n, true, 0⟩, .bool true, .bool false]) (by simp [results, Try.results19, go_sem]) rfl ?_
        exact ⟨rfl, by first | exact bel1 _ _ | exact bel2 _ _ _ | exact (bel2 _ _ _).alloc (by simp; try omega) _ | exact ((bel2 _ _ _).alloc (by simp; try omega) _).alloc (by simp; try omega) _ | exact (((bel2 _ _ _).alloc (by simp; try omega) _).alloc (by simp; try omega) _).alloc (by simp; try omega) _⟩
    · rw [if_neg h2]
      have q2 : (e == m) = false := by simpa using h2
      have g2 : (e != m) = true := by simpa using h2
      clear h2
      go_enter Try.func19, Try.ntmps19
      go_wp2_with (fail)
      refine bodyPost_ret (v := .tuple #[seV ⟨m, n, u, s⟩, .bool false, .bool false]) (by simp [results, Try.results19, go_sem]) rfl ?_
      exact ⟨rfl, by first | exact bel1 _ _ | exact bel2 _ _ _ | exact (bel2 _ _ _).alloc (by simp; try omega) _ | exact ((bel2 _ _ _).alloc (by simp; try omega) _).alloc (by simp; try omega) _ | exact (((bel2 _ _ _).alloc (by simp; try omega) _).alloc (by simp; try omega) _).alloc (by simp; try omega) _⟩
  · rw [if_neg h1]
    have q1 : (n == p) = false := by simpa using h1
    have g1 : (n != p) = true := by simpa using h1
    clear h1
    go_enter Try.func19, Try.ntmps19
    go_wp2_with (fail)
    refine bodyPost_ret (v := .tuple #[seV ⟨m, p, u, s⟩, .bool false, .bool false]) (by simp [results, Try.results19, go_sem]) rfl ?_
    exact ⟨rfl, by first | exact bel1 _ _ | exact bel2 _ _ _ | exact (bel2 _ _ _).alloc (by simp; try omega) _ | exact ((bel2 _ _ _).alloc (by simp; try omega) _).alloc (by simp; try omega) _ | exact (((bel2 _ _ _).alloc (by simp; try omega) _).alloc (by simp; try omega) _).alloc (by simp; try omega) _⟩
theorem tick_any (x : Se) (h : Ok x) (l : Int) (w : World) : Calls Try.prog 20 #[seV x, .int .i64 l] w fun e' w' => e' = .returned (.tuple #[seV (tickF x l).1, .bool (tickF x l).2]) ∧ Below w.heap.size w w' := by
  have HD := fun t => Lib.hid (fun (ht : -9223372036854775808 ≤ t ∧ t ≤ 9223372036854775807) w => down_any ⟨x.m, x.p, x.u, t⟩ ⟨h.m0, h.m1, h.p0, h.p1, ht.1, ht.2⟩ w)
  have h1 := h.s0
  have h2 := h.s1
  clear h
  obtain ⟨m, p, u, s⟩ := x
  simp only at h1 h2 HD
  unfold tickF
  simp only
  by_cases h0 : p = 0
  · subst h0
    rw [if_pos rfl]
    clear HD h1 h2
    go_enter Try.func20, Try.ntmps20
    go_wp2_with (go_at_call 22; refine (D.out _).mono ?_; rintro e1 w1 ⟨rfl, rfl⟩)
    refine bodyPost_ret (v := .tuple #[seV ⟨m, 0, u, s⟩, .bool false]) (by simp [results, Try.results20, go_sem]) rfl ?_
    exact ⟨rfl, by first | exact bel1 _ _ | exact bel2 _ _ _ | exact (bel2 _ _ _).alloc (by simp; try omega) _ | exact ((bel2 _ _ _).alloc (by simp; try omega) _).alloc (by simp; try omega) _ | exact (((bel2 _ _ _).alloc (by simp; try omega) _).alloc (by simp; try omega) _).alloc (by simp; try omega) _⟩
  have q0 : (p == 0) = false := by simpa using h0
  rw [if_neg h0]
  clear h0
  by_cases h3 : s < 9223372036854775807
  · have q3 : decide (s < 9223372036854775807) = true := by simpa using h3
    have qw : IntKind.i64.wrap (s + 1) = s + 1 := by rw [IntKind.wrap_i64]; omega
    have qn : nextS s = s + 1 := by unfold nextS; rw [if_pos h3]
    rw [qn]
    by_cases h4 : l ≤ s + 1
    · rw [if_pos h4]
      have q4 : decide (l ≤ s + 1) = true := by simpa using h4
      have D := Lib.hid (fun w => (HD (s + 1)).out ⟨by omega, by omega⟩ w)
      clear HD h1 h2 h4
      go_enter Try.func20, Try.ntmps20
      go_wp2_with (go_at_call 22; refine (D.out _).mono ?_; rintro e1 w1 ⟨rfl, rfl⟩)
      refine bodyPost_ret (v := .tuple #[seV (downF ⟨m, p, u, s + 1⟩), .bool true]) (by simp [results, Try.results20, go_sem]) rfl ?_
      exact ⟨rfl, by first | exact bel1 _ _ | exact bel2 _ _ _ | exact (bel2 _ _ _).alloc (by simp; try omega) _ | exact ((bel2 _ _ _).alloc (by simp; try omega) _).alloc (by simp; try omega) _ | exact (((bel2 _ _ _).alloc (by simp; try omega) _).alloc (by simp; try omega) _).alloc (by simp; try omega) _⟩
    · rw [if_neg h4]
      have q4 : decide (l ≤ s + 1) = false := by simpa using h4
      clear HD h1 h2 h4
      go_enter Try.func20, Try.ntmps20
      go_wp2_with (go_at_call 22; refine (D.out _).mono ?_; rintro e1 w1 ⟨rfl, rfl⟩)
      refine bodyPost_ret (v := .tuple #[seV ⟨m, p, u, s + 1⟩, .bool false]) (by simp [results, Try.results20, go_sem]) rfl ?_
      exact ⟨rfl, by first | exact bel1 _ _ | exact bel2 _ _ _ | exact (bel2 _ _ _).alloc (by simp; try omega) _ | exact ((bel2 _ _ _).alloc (by simp; try omega) _).alloc (by simp; try omega) _ | exact (((bel2 _ _ _).alloc (by simp; try omega) _).alloc (by simp; try omega) _).alloc (by simp; try omega) _⟩
  · obtain rfl : s = 9223372036854775807 := by omega
    have qn : nextS 9223372036854775807 = 9223372036854775807 := by unfold nextS; rw [if_neg h3]
    rw [qn]
    clear h3
    by_cases h4 : l ≤ 9223372036854775807
    · rw [if_pos h4]
      have q4 : decide (l ≤ 9223372036854775807) = true := by simpa using h4
      have D := Lib.hid (fun w => (HD (9223372036854775807)).out ⟨by omega, by omega⟩ w)
      clear HD h1 h2 h4
      go_enter Try.func20, Try.ntmps20
      go_wp2_with (go_at_call 22; refine (D.out _).mono ?_; rintro e1 w1 ⟨rfl, rfl⟩)
      refine bodyPost_ret (v := .tuple #[seV (downF ⟨m, p, u, 9223372036854775807⟩), .bool true]) (by simp [results, Try.results20, go_sem]) rfl ?_
      exact ⟨rfl, by first | exact bel1 _ _ | exact bel2 _ _ _ | exact (bel2 _ _ _).alloc (by simp; try omega) _ | exact ((bel2 _ _ _).alloc (by simp; try omega) _).alloc (by simp; try omega) _ | exact (((bel2 _ _ _).alloc (by simp; try omega) _).alloc (by simp; try omega) _).alloc (by simp; try omega) _⟩
    · rw [if_neg h4]
      have q4 : decide (l ≤ 9223372036854775807) = false := by simpa using h4
      clear HD h1 h2 h4
      go_enter Try.func20, Try.ntmps20
      go_wp2_with (go_at_call 22; refine (D.out _).mono ?_; rintro e1 w1 ⟨rfl, rfl⟩)
      refine bodyPost_ret (v := .tuple #[seV ⟨m, p, u, 9223372036854775807⟩, .bool false]) (by simp [results, Try.results20, go_sem]) rfl ?_
      exact ⟨rfl, by first | exact bel1 _ _ | exact bel2 _ _ _ | exact (bel2 _ _ _).alloc (by simp; try omega) _ | exact ((bel2 _ _ _).alloc (by simp; try omega) _).alloc (by simp; try omega) _ | exact (((bel2 _ _ _).alloc (by simp; try omega) _).alloc (by simp; try omega) _).alloc (by simp; try omega) _⟩
theorem rTick_any (x : Se) (h : Ok x) (l : Int) (w : World) : Calls Try.prog 21 #[seV x, .int .i64 l] w fun e' w' => e' = .returned (.tuple #[seV (tickF x l).1, .bool (tickF x l).2]) ∧ Below w.heap.size w w' := by
  have HD := fun t => Lib.hid (fun (ht : -9223372036854775808 ≤ t ∧ t ≤ 9223372036854775807) w => rDown_any ⟨x.m, x.p, x.u, t⟩ ⟨h.m0, h.m1, h.p0, h.p1, ht.1, ht.2⟩ w)
  have h1 := h.s0
  have h2 := h.s1
  clear h
  obtain ⟨m, p, u, s⟩ := x
  simp only at h1 h2 HD
  unfold tickF
  simp only
  by_cases h0 : p = 0
  · subst h0
    rw [if_pos rfl]
    clear HD h1 h2
    go_enter Try.func21, Try.ntmps21
    go_wp2_with (go_at_call 23; refine (D.out _).mono ?_; rintro e1 w1 ⟨rfl, rfl⟩)
    refine bodyPost_ret (v := .tuple #[seV ⟨m, 0, u, s⟩, .bool false]) (by simp [results, Try.results21, go_sem]) rfl ?_
    exact ⟨rfl, by first | exact bel1 _ _ | exact bel2 _ _ _ | exact (bel2 _ _ _).alloc (by simp; try omega) _ | exact ((bel2 _ _ _).alloc (by simp; try omega) _).alloc (by simp; try omega) _ | exact (((bel2 _ _ _).alloc (by simp; try omega) _).alloc (by simp; try omega) _).alloc (by simp; try omega) _⟩
  have q0 : (p == 0) = false := by simpa using h0
  rw [if_neg h0]
  clear h0
  by_cases h3 : s < 9223372036854775807
  · have q3 : decide (s < 9223372036854775807) = true := by simpa using h3
    have qw : IntKind.i64.wrap (s + 1) = s + 1 := by rw [IntKind.wrap_i64]; omega
    have qn : nextS s = s + 1 := by unfold nextS; rw [if_pos h3]
    rw [qn]
    by_cases h4 : l ≤ s + 1
    · rw [if_pos h4]
      have q4 : decide (l ≤ s + 1) = true := by simpa using h4
      have D := Lib.hid (fun w => (HD (s + 1)).out ⟨by omega, by omega⟩ w)
      clear HD h1 h2 h4
      go_enter Try.func21, Try.ntmps21
      go_wp2_with (go_at_call 23; refine (D.out _).mono ?_; rintro e1 w1 ⟨rfl, rfl⟩)
      refine bodyPost_ret (v := .tuple #[seV (downF ⟨m, p, u, s + 1⟩), .bool true]) (by simp [results, Try.results21, go_sem]) rfl ?_
      exact ⟨rfl, by first | exact bel1 _ _ | exact bel2 _ _ _ | exact (bel2 _ _ _).alloc (by simp; try omega) _ | exact ((bel2 _ _ _).alloc (by simp; try omega) _).alloc (by simp; try omega) _ | exact (((bel2 _ _ _).alloc (by simp; try omega) _).alloc (by simp; try omega) _).alloc (by simp; try omega) _⟩
    · rw [if_neg h4]
      have q4 : decide (l ≤ s + 1) = false := by simpa using h4
      clear HD h1 h2 h4
      go_enter Try.func21, Try.ntmps21
      go_wp2_with (go_at_call 23; refine (D.out _).mono ?_; rintro e1 w1 ⟨rfl, rfl⟩)
      refine bodyPost_ret (v := .tuple #[seV ⟨m, p, u, s + 1⟩, .bool false]) (by simp [results, Try.results21, go_sem]) rfl ?_
      exact ⟨rfl, by first | exact bel1 _ _ | exact bel2 _ _ _ | exact (bel2 _ _ _).alloc (by simp; try omega) _ | exact ((bel2 _ _ _).alloc (by simp; try omega) _).alloc (by simp; try omega) _ | exact (((bel2 _ _ _).alloc (by simp; try omega) _).alloc (by simp; try omega) _).alloc (by simp; try omega) _⟩
  · obtain rfl : s = 9223372036854775807 := by omega
    have qn : nextS 9223372036854775807 = 9223372036854775807 := by unfold nextS; rw [if_neg h3]
    rw [qn]
    clear h3
    by_cases h4 : l ≤ 9223372036854775807
    · rw [if_pos h4]
      have q4 : decide (l ≤ 9223372036854775807) = true := by simpa using h4
      have D := Lib.hid (fun w => (HD (9223372036854775807)).out ⟨by omega, by omega⟩ w)
      clear HD h1 h2 h4
      go_enter Try.func21, Try.ntmps21
      go_wp2_with (go_at_call 23; refine (D.out _).mono ?_; rintro e1 w1 ⟨rfl, rfl⟩)
      refine bodyPost_ret (v := .tuple #[seV (downF ⟨m, p, u, 9223372036854775807⟩), .bool true]) (by simp [results, Try.results21, go_sem]) rfl ?_
      exact ⟨rfl, by first | exact bel1 _ _ | exact bel2 _ _ _ | exact (bel2 _ _ _).alloc (by simp; try omega) _ | exact ((bel2 _ _ _).alloc (by simp; try omega) _).alloc (by simp; try omega) _ | exact (((bel2 _ _ _).alloc (by simp; try omega) _).alloc (by simp; try omega) _).alloc (by simp; try omega) _⟩
    · rw [if_neg h4]
      have q4 : decide (l ≤ 9223372036854775807) = false := by simpa using h4
      clear HD h1 h2 h4
      go_enter Try.func21, Try.ntmps21
      go_wp2_with (go_at_call 23; refine (D.out _).mono ?_; rintro e1 w1 ⟨rfl, rfl⟩)
      refine bodyPost_ret (v := .tuple #[seV ⟨m, p, u, 9223372036854775807⟩, .bool false]) (by simp [results, Try.results21, go_sem]) rfl ?_
      exact ⟨rfl, by first | exact bel1 _ _ | exact bel2 _ _ _ | exact (bel2 _ _ _).alloc (by simp; try omega) _ | exact ((bel2 _ _ _).alloc (by simp; try omega) _).alloc (by simp; try omega) _ | exact (((bel2 _ _ _).alloc (by simp; try omega) _).alloc (by simp; try omega) _).alloc (by simp; try omega) _⟩
end Go.Proofs.Ytippekflhlmgiaa
