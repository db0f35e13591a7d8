/- Gauges: the document's own Feed; Same; the law of Feed. -/
import Derived.Test.YtbgnheckoijmeaaGaD
import Derived.StillTailTactics
namespace Go.Proofs.Ytbgnheckoijmeaa
open Go.Fq Go.RowKit
open Go.Iq (below_next block_lt)
set_option linter.unusedVariables false

set_option maxHeartbeats 1000000 in
theorem reffeed_any (n : Int) (m v f : Nat) (hw : n ≤ 9223372036854775807) (hm : m < 2 ^ 64) (hv : v < 2 ^ 64) (hf : f < 2 ^ 64) (w : World) :
    Calls Try.prog 10 #[gaug n m v, .float .f64 f] w fun e w' => e = .returned (.tuple #[gaug (feedF n m v f).1.1 (feedF n m v f).1.2.1 (feedF n m v f).1.2.2, .int .i64 (feedF n m v f).2]) ∧ Below w.heap.size w w' := by
  have HC := Lib.hid (fun w => refcheck_any n m v w hm hv)
  have HS := Lib.hid (fun w => refsample_any f hf w)
  have hst := g_store
  rcases chkF_one n m v with hc | hc
  · obtain ⟨a, b, c⟩ := chkF_ok hc
    cases hs : sampB f
    · have he : feedF n m v f = ((0, 0, 0), 50) := by unfold feedF; rw [hc, hs]; rfl
      rw [he]
      rw [hc] at HC
      rw [hs] at HS
      clear hc a b c hm hv hf he
      go_enter Try.func10, Try.ntmps10
      go_wp2_with fail
      refine (HC.out _).mono ?_
      rintro e w1 ⟨rfl, b1⟩
      obtain ⟨c0, c1, c2, f0, f1, f2⟩ := (G3.first (w.alloc (.cells #[.int .i64 n, .float .f64 m, .float .f64 v] 24)) 0 0 0 24).below b1 (by simp)
      simp only [World.size_alloc] at c0 c1 c2 f0 f1 f2
      go_wp2_with (go_at_call 27; refine (HS.out _).mono ?_; rintro e w' ⟨rfl, rfl⟩)
      (try simp only [Exit.inBlock, Exit.then])
      refine bodyPost_ret (v := .tuple #[gaug 0 0 0, .int .i64 50]) (by simp [results, Try.results10, go_sem, c0, c1, c2]) rfl ?_
      exact ⟨rfl, set3B (two_bel b1) _ (by omega) _ _ _⟩
    · have he : feedF n m v f = (behindF n m v (mg f), 0) := by unfold feedF; rw [hc, hs]; rfl
      have hsv : sampV f = mg f := by unfold sampV; rw [hs]; rfl
      have hsf := samp_fin hs
      rw [he]
      rw [hc] at HC
      rw [hs, hsv] at HS
      clear hc hm hv hf he hs hsv
      generalize mg f = s at *
      have e75 := fun w => run_f (P := Try.prog) .mul 22 _ _ _ (mul_75 c) w
      have e25 := fun w => run_f (P := Try.prog) .mul 22 _ _ _ (mul_25 (apart_le b hsf)) w
      have e875 := fun w => run_f (P := Try.prog) .mul 22 _ _ _ (mul_875 b) w
      have e125 := fun w => run_f (P := Try.prog) .mul 22 _ _ _ (mul_125 hsf) w
      have eadd1 := fun w => run_f (P := Try.prog) .add 22 _ _ _ (add_fin (kth_fin (k := 6) (by omega) c) (kth_fin (k := 2) (by omega) (apart_le b hsf))) w
      have eadd2 := fun w => run_f (P := Try.prog) .add 22 _ _ _ (add_fin (kth_fin (k := 7) (by omega) b) (kth_fin (k := 1) (by omega) hsf)) w
      have ehalf := fun w => run_f (P := Try.prog) .quo 22 _ _ _ (div_2 hsf) w
      -- the difference, and whether it is below nought
      have hoff : ∃ d : Nat, (∀ w, (binOp .sub 22 (.float .f64 m) (.float .f64 s)).run Try.prog w = .ok (.float .f64 d) w) ∧
          (((FloatKind.f64.format.order d 0 == some .lt) = false ∧ d = apart m s) ∨ ((FloatKind.f64.format.order d 0 == some .lt) = true ∧ ∀ w, (binOp .sub 22 (.float .f64 s) (.float .f64 m)).run Try.prog w = .ok (.float .f64 (apart m s)) w)) := by
        by_cases h : s ≤ m
        · refine ⟨_, fun w => run_f .sub _ _ _ _ ((sub_any b hsf).1 h) w, .inl ⟨lt0_pos (offF_le_inf _ _), ?_⟩⟩
          unfold apart; rw [if_pos h]
        · refine ⟨_, fun w => run_f .sub _ _ _ _ ((sub_any b hsf).2 (by omega)) w, .inr ⟨lt0_neg (offF_pos (by omega)) (offF_le_inf _ _), fun w => ?_⟩⟩
          unfold apart; rw [if_neg h]
          exact run_f .sub _ _ _ _ ((sub_any hsf b).1 (by omega)) w
      obtain ⟨d, hd, hcase⟩ := hoff
      unfold behindF
      generalize kth 7 m = A at *
      generalize kth 1 s = B at *
      generalize kth 6 v = C at *
      generalize kth 2 (apart m s) = D at *
      generalize plusF A B = M at *
      generalize plusF C D = V at *
      generalize kth 4 s = K at *
      generalize apart m s = R at *
      by_cases h0 : n = 0
      · subst h0
        rw [if_pos rfl]
        clear hcase
        go_enter Try.func10, Try.ntmps10
        go_wp2_with fail
        refine (HC.out _).mono ?_
        rintro e w1 ⟨rfl, b1⟩
        obtain ⟨c0, c1, c2, f0, f1, f2⟩ := (G3.first (w.alloc (.cells #[.int .i64 0, .float .f64 m, .float .f64 v] 24)) 0 0 0 24).below b1 (by simp)
        obtain ⟨d0, d1, d2, _, _, _⟩ := (G3.second w 0 m v 24 (.cells #[.int .i64 0, .float .f64 0, .float .f64 0] 24)).below b1 (by simp; omega)
        simp only [World.size_alloc] at c0 c1 c2 f0 f1 f2
        go_wp2_with (go_at_call 27; refine (HS.out _).mono ?_; rintro e w' ⟨rfl, rfl⟩)
        (try simp only [Exit.inBlock, Exit.then])
        refine bodyPost_ret (v := .tuple #[gaug 1 s K, .int .i64 0]) (by simp [results, Try.results10, go_sem, c0, c1, c2]) rfl ?_
        exact ⟨rfl, set3B (two_bel b1) _ (by omega) _ _ _⟩
      · rw [if_neg h0]
        have hg : ∃ N : Int, (if n < 9223372036854775807 then n + 1 else n) = N := ⟨_, rfl⟩
        obtain ⟨N, hN⟩ := hg
        rw [hN]
        by_cases h1 : n < 9223372036854775807
        · rw [if_pos h1] at hN
          subst hN
          rcases hcase with ⟨o1, rfl⟩ | ⟨o1, o2⟩
          all_goals
            go_enter Try.func10, Try.ntmps10
            go_wp2_with fail
            refine (HC.out _).mono ?_
            rintro e w1 ⟨rfl, b1⟩
            obtain ⟨c0, c1, c2, f0, f1, f2⟩ := (G3.first (w.alloc (.cells #[.int .i64 n, .float .f64 m, .float .f64 v] 24)) 0 0 0 24).below b1 (by simp)
            obtain ⟨d0, d1, d2, _, _, _⟩ := (G3.second w n m v 24 (.cells #[.int .i64 0, .float .f64 0, .float .f64 0] 24)).below b1 (by simp; omega)
            simp only [World.size_alloc] at c0 c1 c2 f0 f1 f2
            have hsz : w.heap.size + 2 ≤ w1.heap.size := by simpa using b1.size
            have hl1 : w.heap.size < w1.heap.size := by omega
            have hl2 : w.heap.size + 1 < w1.heap.size := by omega
            go_wp2_with (go_at_call 27; refine (HS.out _).mono ?_; rintro e w' ⟨rfl, rfl⟩)
            (try simp only [Exit.inBlock, Exit.then])
            refine bodyPost_ret (v := .tuple #[gaug (n + 1) M V, .int .i64 0]) (by simp [results, Try.results10, go_sem, c0, c1, c2, hl2]) rfl ?_
            exact ⟨rfl, (set3B (two_bel b1) _ (by omega) _ _ _).alloc (by simp; omega) _⟩
        · rw [if_neg h1] at hN
          subst hN
          rcases hcase with ⟨o1, rfl⟩ | ⟨o1, o2⟩
          all_goals
            go_enter Try.func10, Try.ntmps10
            go_wp2_with fail
            refine (HC.out _).mono ?_
            rintro e w1 ⟨rfl, b1⟩
            obtain ⟨c0, c1, c2, f0, f1, f2⟩ := (G3.first (w.alloc (.cells #[.int .i64 n, .float .f64 m, .float .f64 v] 24)) 0 0 0 24).below b1 (by simp)
            obtain ⟨d0, d1, d2, _, _, _⟩ := (G3.second w n m v 24 (.cells #[.int .i64 0, .float .f64 0, .float .f64 0] 24)).below b1 (by simp; omega)
            simp only [World.size_alloc] at c0 c1 c2 f0 f1 f2
            have hsz : w.heap.size + 2 ≤ w1.heap.size := by simpa using b1.size
            have hl1 : w.heap.size < w1.heap.size := by omega
            have hl2 : w.heap.size + 1 < w1.heap.size := by omega
            go_wp2_with (go_at_call 27; refine (HS.out _).mono ?_; rintro e w' ⟨rfl, rfl⟩)
            (try simp only [Exit.inBlock, Exit.then])
            refine bodyPost_ret (v := .tuple #[gaug n M V, .int .i64 0]) (by simp [results, Try.results10, go_sem, c0, c1, c2, hl2]) rfl ?_
            exact ⟨rfl, (set3B (two_bel b1) _ (by omega) _ _ _).alloc (by simp; omega) _⟩
  · have he : feedF n m v f = ((0, 0, 0), 1) := by unfold feedF; rw [hc]; rfl
    rw [he]
    rw [hc] at HC
    clear hc hm hv hf he
    go_enter Try.func10, Try.ntmps10
    go_wp2_with fail
    refine (HC.out _).mono ?_
    rintro e w1 ⟨rfl, b1⟩
    obtain ⟨c0, c1, c2, f0, f1, f2⟩ := (G3.first (w.alloc (.cells #[.int .i64 n, .float .f64 m, .float .f64 v] 24)) 0 0 0 24).below b1 (by simp)
    simp only [World.size_alloc] at c0 c1 c2 f0 f1 f2
    go_wp2_with fail
    (try simp only [Exit.inBlock, Exit.then])
    refine bodyPost_ret (v := .tuple #[gaug 0 0 0, .int .i64 1]) (by simp [results, Try.results10, go_sem, c0, c1, c2]) rfl ?_
    exact ⟨rfl, set3B (two_bel b1) _ (by omega) _ _ _⟩

theorem same5_any (n : Int) (m v : Nat) (w : World) : Calls Try.prog 11 #[gaug n m v, gaug n m v] w fun e w' => e = .returned (.bool true) ∧ Below w.heap.size w w' := by
  go_enter Try.func11, Try.ntmps11
  go_wp2_with (go_at_call 17; refine (same_any _ _ _).mono ?_; rintro e w' ⟨rfl, rfl⟩)
  go_ret
  exact ⟨ret_bool (by simp), below2 _ _ _⟩

theorem eight_word : feedF 0 0 0 4620693217682128896 = ((1, 4620693217682128896, 4616189618054758400), 0) := by decide +kernel
theorem awake5_any (w : World) : Calls Try.prog 14 #[] w fun e w' => e = .returned (.bool true) ∧ Below w.heap.size w w' := by
  have HF := Lib.hid (fun w => feed_any 0 0 0 4620693217682128896 (by omega) (by omega) (by omega) (by omega) w)
  rw [eight_word] at HF
  have hst := g_store
  have heq : ∀ w : World, (binOp .eql 24 (gaug 1 4620693217682128896 4616189618054758400) (gaug 1 4620693217682128896 4616189618054758400)).run Try.prog w = .ok (.bool true) w := fun _ => by kernel_rfl
  go_enter Try.func14, Try.ntmps14
  go_wp2_with fail
  refine (HF.out _).mono ?_
  rintro e w1 ⟨rfl, b1⟩
  go_wp2_with fail
  go_ret
  exact ⟨rfl, b1.alloc b1.size _⟩
end Go.Proofs.Ytbgnheckoijmeaa
