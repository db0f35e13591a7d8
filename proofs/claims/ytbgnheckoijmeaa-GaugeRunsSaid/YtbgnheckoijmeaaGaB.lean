/- Gauges: the program's Check, blend, behind. -/
import Derived.Test.YtbgnheckoijmeaaGaA
import Derived.RegionCalls
import Derived.Deep.RegionWith
namespace Go.Proofs.Ytbgnheckoijmeaa
open Go.Fq Go.RowKit
open Go.Iq (below_next block_lt)
set_option linter.unusedVariables false

set_option maxHeartbeats 1000000 in
theorem check_any (n : Int) (m v : Nat) (w : World) (hm : m < 2 ^ 64) (hv : v < 2 ^ 64) : Calls Try.prog 12 #[gaug n m v] w fun e w' => e = .returned (.int .i64 (chkF n m v)) ∧ Below w.heap.size w w' := by
  have HM := Lib.hid hm
  have HV := Lib.hid hv
  clear hm hv
  go_enter Try.func12, Try.ntmps12
  go_wp2_with (first | (go_at_call 28; refine (plusZero_any _ _).mono ?_; rintro e w' ⟨rfl, rfl⟩) | (go_at_call 29; first | ((with_reducible refine (isMeasure_any m _ HM.out).mono ?_); rintro e w' ⟨rfl, rfl⟩) | ((with_reducible refine (isMeasure_any v _ HV.out).mono ?_); rintro e w' ⟨rfl, rfl⟩)))
  all_goals
    go_ret
    refine ⟨ret_int ?_, (Below.refl _ _).alloc (Nat.le_refl _) _⟩
    clear HM HV
    unfold chkF
    (repeat' split) <;> first | rfl | (exfalso; omega) | (exfalso; simp_all; try omega)

theorem run_f {P : Program} (op : BinOp) (t : TypeId) (x y r : Nat) (h : floatBits op .f64 x y = some r) (w : World) : (binOp op t (.float .f64 x) (.float .f64 y)).run P w = .ok (.float .f64 r) w :=
  run_float_arith w op t .f64 x y r h

/-- blend by what its products are. -/
theorem blend_core (x y c c1 p q : Nat) (w : World) (h1 : floatBits .sub .f64 4607182418800017408 c = some c1) (h2 : floatBits .mul .f64 c1 x = some p) (h3 : floatBits .mul .f64 c y = some q) (r : Nat) (h4 : floatBits .add .f64 p q = some r) :
    Calls Try.prog 39 #[.float .f64 x, .float .f64 y, .float .f64 c] w fun e w' => e = .returned (.float .f64 r) ∧ w = w' := by
  have e1 := fun w => run_f (P := Try.prog) .sub 22 _ _ _ h1 w
  have e2 := fun w => run_f (P := Try.prog) .mul 22 _ _ _ h2 w
  have e3 := fun w => run_f (P := Try.prog) .mul 22 _ _ _ h3 w
  have e4 := fun w => run_f (P := Try.prog) .add 22 _ _ _ h4 w
  clear h1 h2 h3 h4
  go_enter Try.func39, Try.ntmps39
  go_wp2
  go_ret
  exact ⟨rfl, rfl⟩

theorem blend_mean (x y : Nat) (hx : x < infR) (hy : y < infR) (w : World) : Calls Try.prog 39 #[.float .f64 x, .float .f64 y, .float .f64 4593671619917905920] w fun e w' => e = .returned (.float .f64 (plusF (kth 7 x) (kth 1 y))) ∧ w = w' :=
  blend_core x y _ _ _ _ w less_875 (mul_875 hx) (mul_125 hy) _ (add_fin (kth_fin (by omega) hx) (kth_fin (by omega) hy))
theorem blend_var (x y : Nat) (hx : x < infR) (hy : y < infR) (w : World) : Calls Try.prog 39 #[.float .f64 x, .float .f64 y, .float .f64 4598175219545276416] w fun e w' => e = .returned (.float .f64 (plusF (kth 6 x) (kth 2 y))) ∧ w = w' :=
  blend_core x y _ _ _ _ w less_75 (mul_75 hx) (mul_25 hy) _ (add_fin (kth_fin (by omega) hx) (kth_fin (by omega) hy))

/-- The walk wants a float's store told. -/
theorem g_store (a : Addr) (n : Nat) (m : Mode) (w : World) : (store a (.float .f64 n) m).run Try.prog w = stored Try.prog w a (.float .f64 n) m := run_store Try.prog w a _ m rfl

/-- The difference's magnitude. -/
theorem off_word (m s : Nat) (hm : m < infR) (hs : s < infR) : ∃ d, floatBits .sub .f64 m s = some d ∧ d < 2 ^ 64 ∧ mg d = apart m s := by
  obtain ⟨h1, h2⟩ := sub_any hm hs
  unfold apart
  by_cases h : s ≤ m
  · refine ⟨_, h1 h, ?_, ?_⟩
    · have := offF_le (y := s) hm; unfold infR at hm; omega
    · rw [if_pos h]; exact mg_small (Nat.lt_of_le_of_lt (offF_le hm) hm)
  · refine ⟨_, h2 (by omega), word_true_lt (offF_le_inf _ _), ?_⟩
    rw [if_neg h]; exact mg_word_true (offF_le_inf _ _)

theorem below2 (w : World) (o q : Obj) : Below w.heap.size w ((w.alloc o).alloc q) := ((Below.refl _ _).alloc (Nat.le_refl _) _).alloc (by simp) _
set_option maxHeartbeats 1000000 in
theorem behind_any (n : Int) (m v s : Nat) (hn0 : 0 ≤ n) (hn : n ≤ 9223372036854775807) (hm : m < infR) (hv : v < infR) (hs : s < infR) (w : World) :
    Calls Try.prog 25 #[gaug n m v, .float .f64 s] w fun e w' => e = .returned (gaug (behindF n m v s).1 (behindF n m v s).2.1 (behindF n m v s).2.2) ∧ Below w.heap.size w w' := by
  obtain ⟨d, hd, hd2, hd3⟩ := off_word m s hm hs
  have e1 := fun w => run_f (P := Try.prog) .sub 22 _ _ _ hd w
  have HD := Lib.hid hd2
  have e2 := fun w => run_f (P := Try.prog) .quo 22 _ _ _ (div_2 hs) w
  have HV := Lib.hid (fun w => blend_var v (apart m s) hv (apart_le hm hs) w)
  have HM := Lib.hid (fun w => blend_mean m s hm hs w)
  have HA := Lib.hid (fun w => (abs_any d w hd2))
  rw [hd3] at HA
  unfold behindF
  generalize plusF (kth 7 m) (kth 1 s) = M at *
  generalize plusF (kth 6 v) (kth 2 (apart m s)) = V at *
  generalize apart m s = D at *
  generalize kth 4 s = K at *
  clear hd hd2 hd3 hm hv hs
  have hst := g_store
  by_cases h0 : n = 0
  · subst h0
    rw [if_pos rfl]
    go_enter Try.func25, Try.ntmps25
    go_wp2_with fail
    (try simp only [Exit.inBlock, Exit.then])
    refine bodyPost_ret (v := gaug 1 s K) (by simp [results, Try.results25, go_sem]) rfl ?_
    exact ⟨rfl, below2 _ _ _⟩
  · rw [if_neg h0]
    by_cases h1 : n < 9223372036854775807
    · rw [if_pos h1]
      go_enter Try.func25, Try.ntmps25
      go_wp2_with fail
      go_region_with (first | (go_at_call 26; refine (HA.out _).mono ?_; rintro e w' ⟨rfl, rfl⟩) | (go_at_call 39; refine (HV.out _).mono ?_; rintro e w' ⟨rfl, rfl⟩))
      all_goals go_wp2_with (go_at_call 39; refine (HM.out _).mono ?_; rintro e w' ⟨rfl, rfl⟩)
      all_goals
        (try simp only [Exit.inBlock, Exit.then])
        refine bodyPost_ret (v := gaug (n + 1) M V) (by simp [results, Try.results25, go_sem]) rfl ?_
        exact ⟨rfl, (below2 _ _ _).drew⟩
    · rw [if_neg h1]
      go_enter Try.func25, Try.ntmps25
      go_wp2_with fail
      go_region_with (first | (go_at_call 26; refine (HA.out _).mono ?_; rintro e w' ⟨rfl, rfl⟩) | (go_at_call 39; refine (HV.out _).mono ?_; rintro e w' ⟨rfl, rfl⟩))
      all_goals go_wp2_with (go_at_call 39; refine (HM.out _).mono ?_; rintro e w' ⟨rfl, rfl⟩)
      all_goals
        (try simp only [Exit.inBlock, Exit.then])
        refine bodyPost_ret (v := gaug n M V) (by simp [results, Try.results25, go_sem]) rfl ?_
        exact ⟨rfl, (below2 _ _ _).drew⟩

end Go.Proofs.Ytbgnheckoijmeaa
