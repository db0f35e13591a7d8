/- Sessions: settings; the law of checks. -/
import Derived.Test.YtippekflhlmgiaaSwS
namespace Go.Proofs.Ytippekflhlmgiaa
open Go.RowKit Go.Lib Go.Sq Go.Fq
set_option linter.unusedVariables false
set_option linter.unusedSimpArgs false
set_option maxRecDepth 100000

abbrev cfV (f : Nat) (t n h r d q : Int) : Value := .agg #[.float .f64 f, .int .i64 t, .int .i64 n, .int .i64 h, .int .i64 r, .int .i64 d, .int .i64 q]
def lifeB (n : Int) : Bool := decide (1 ≤ n) && decide (n ≤ 1048576)
def cfB (f : Nat) (t n h r d q : Int) : Bool := (limitF f == 0) && (decide (1 ≤ t) && decide (t ≤ 65536)) && (decide (0 ≤ n) && decide (n ≤ 65536)) && lifeB h && lifeB r && lifeB d && lifeB q
theorem isWithin_any (n a b : Int) (w : World) : Calls Try.prog 34 #[.int .i64 n, .int .i64 a, .int .i64 b] w fun e w' => e = .returned (.bool (decide (a ≤ n) && decide (n ≤ b))) ∧ w = w' := by
  go_enter Try.func34, Try.ntmps34
  go_wp2
  all_goals (go_ret; exact ⟨by (first | (simp [*]; done) | (simp [*]; intros; omega)), rfl⟩)
theorem isLife_any (n : Int) (w : World) : Calls Try.prog 35 #[.int .i64 n] w fun e w' => e = .returned (.bool (lifeB n)) ∧ w = w' := by
  go_enter Try.func35, Try.ntmps35
  go_wp2_with fail
  refine (isWithin_any _ _ _ _).mono ?_
  rintro e w1 ⟨rfl, rfl⟩
  go_wp2_with fail
  go_ret
  exact ⟨rfl, rfl⟩
theorem rlife_any (n : Int) (w : World) : Calls Try.prog 29 #[.int .i64 n] w fun e w' => e = .returned (.bool (lifeB n)) ∧ w = w' := by
  go_enter Try.func29, Try.ntmps29
  go_wp2
  all_goals (go_ret; exact ⟨by (first | (simp [lifeB, *]; done) | (simp [lifeB, *]; intros; omega)), rfl⟩)
set_option maxHeartbeats 4000000 in
theorem mayBe_any (f : Nat) (t n h r d q : Int) (w : World) (hf : f < 2 ^ 64) : Calls Try.prog 27 #[cfV f t n h r d q] w fun e w' => e = .returned (.bool (cfB f t n h r d q)) ∧ Below w.heap.size w w' := by
  have HF := Lib.hid (fun w => limit_any f w hf)
  clear hf
  unfold cfB
  generalize limitF f = L at *
  go_enter Try.func27, Try.ntmps27
  go_wp2_with (first | (go_at_call 33; refine (HF.out _).mono ?_; rintro e w1 ⟨rfl, rfl⟩) | (go_at_call 34; refine (isWithin_any _ _ _ _).mono ?_; rintro e w1 ⟨rfl, rfl⟩) | (go_at_call 35; refine (isLife_any _ _).mono ?_; rintro e w1 ⟨rfl, rfl⟩))
  all_goals (go_ret; exact ⟨by (first | (simp [*]; done) | (simp [*]; intros; omega)), bel1 _ _⟩)
def cfE (f : Nat) (t n h r d q : Int) : Int := if cfB f t n h r d q = true then 0 else 120
theorem check_any (f : Nat) (t n h r d q : Int) (w : World) (hf : f < 2 ^ 64) : Calls Try.prog 11 #[cfV f t n h r d q] w fun e w' => e = .returned (.int .i64 (cfE f t n h r d q)) ∧ Below w.heap.size w w' := by
  have HM := Lib.hid (fun w => mayBe_any f t n h r d q w hf)
  clear hf
  unfold cfE
  generalize cfB f t n h r d q = B at *
  cases B with
  | true =>
    go_enter Try.func11, Try.ntmps11
    go_wp2_with fail
    refine (HM.out _).mono ?_
    rintro e w1 ⟨rfl, b1⟩
    go_wp2_with fail
    go_ret
    exact ⟨rfl, gNx (gAl _ _) b1⟩
  | false =>
    go_enter Try.func11, Try.ntmps11
    go_wp2_with fail
    refine (HM.out _).mono ?_
    rintro e w1 ⟨rfl, b1⟩
    go_wp2_with fail
    go_ret
    exact ⟨rfl, gNx (gAl _ _) b1⟩
set_option maxHeartbeats 4000000 in
theorem rCheck_any (f : Nat) (t n h r d q : Int) (w : World) (hf : f < 2 ^ 64) : Calls Try.prog 12 #[cfV f t n h r d q] w fun e w' => e = .returned (.int .i64 (cfE f t n h r d q)) ∧ Below w.heap.size w w' := by
  have HF := Lib.hid (fun w => reflimit_any f w hf)
  have HE : Hid (cfE f t n h r d q = if cfB f t n h r d q = true then 0 else 120) := Lib.hid rfl
  clear hf
  unfold cfB at HE
  generalize limitF f = L at *
  generalize cfE f t n h r d q = E at *
  go_enter Try.func12, Try.ntmps12
  go_wp2_with (first | (go_at_call 28; refine (HF.out _).mono ?_; rintro e w1 ⟨rfl, rfl⟩) | (go_at_call 29; refine (rlife_any _ _).mono ?_; rintro e w1 ⟨rfl, rfl⟩))
  all_goals (go_ret; refine ⟨ret_int ?_, bel1 _ _⟩; rw [HE.out]; split <;> rename_i hc <;> first | rfl | (exfalso; simp only [Bool.and_eq_true, beq_iff_eq, decide_eq_true_eq] at hc; omega) | (exfalso; simp_all; done) | (exfalso; simp_all; omega))
theorem g_storeL (a : Addr) (n : Nat) (m : Mode) (w : World) : (store a (.float .f64 n) m).run Try.prog w = stored Try.prog w a (.float .f64 n) m := run_store Try.prog w a _ m rfl
theorem usual_any (w : World) : Calls Try.prog 7 #[] w fun e w' => e = .returned (cfV 4643211215818981376 256 256 6 3 40 8) ∧ Below w.heap.size w w' := by
  have hst := g_storeL
  go_enter Try.func7, Try.ntmps7
  go_wp2
  refine bodyPost_ret (v := cfV 4643211215818981376 256 256 6 3 40 8) (by simp [results, Try.results7, go_sem]) rfl ?_
  exact ⟨rfl, bel1 _ _⟩
theorem rUsual_any (w : World) : Calls Try.prog 8 #[] w fun e w' => e = .returned (cfV 4643211215818981376 256 256 6 3 40 8) ∧ Below w.heap.size w w' := by
  have hst := g_storeL
  go_enter Try.func8, Try.ntmps8
  go_wp2
  refine bodyPost_ret (v := cfV 4643211215818981376 256 256 6 3 40 8) (by simp [results, Try.results8, go_sem]) rfl ?_
  exact ⟨rfl, bel1 _ _⟩
theorem usual_is : cfE 4643211215818981376 256 256 6 3 40 8 = 0 := by decide +kernel
theorem range_next {W W' : World} {b o : Nat} {cs : List Value} (h : W.rangeAt b o cs) (hb : b < W.heap.size) (k : Below W.heap.size W W') : W'.rangeAt b o cs := fun j v hj => (k.cell (p := ⟨b, o + j, none⟩) hb).trans (h j v hj)
abbrev cfL (f : Nat) (t n h r d q : Int) : List Value := [.float .f64 f, .int .i64 t, .int .i64 n, .int .i64 h, .int .i64 r, .int .i64 d, .int .i64 q]
set_option maxHeartbeats 8000000 in
theorem law_schecks (f : Nat) (t n h r d q : Int) (mine : Int) (w : World) (hc : f < 2 ^ 64 ∧ (-9223372036854775808 ≤ t ∧ t ≤ 9223372036854775807) ∧ (-9223372036854775808 ≤ n ∧ n ≤ 9223372036854775807) ∧ (-9223372036854775808 ≤ h ∧ h ≤ 9223372036854775807) ∧ (-9223372036854775808 ≤ r ∧ r ≤ 9223372036854775807) ∧ (-9223372036854775808 ≤ d ∧ d ≤ 9223372036854775807) ∧ (-9223372036854775808 ≤ q ∧ q ≤ 9223372036854775807)) (hm : (Lit.int .u64 mine).wf = true) :
    Calls Try.prog 3 #[cfV f t n h r d q, .int .u64 mine] w fun e w' => e = .returned (.bool true) ∧ Below w.heap.size w w' := by
  have HC1 := Lib.hid (fun w => check_any f t n h r d q w hc.1)
  have HC2 := Lib.hid (fun w => rCheck_any f t n h r d q w hc.1)
  have HC3 := Lib.hid (fun w => check_any 4643211215818981376 256 256 6 3 40 8 w (by decide))
  rw [usual_is] at HC3
  generalize cfE f t n h r d q = E at *
  have HN1 := Lib.hid (fun w => new_any mine w)
  have HN2 := Lib.hid (fun w => rNew_any mine w)
  generalize (if mine = 0 then (1 : Int) else 0) = me at *
  have hst := g_storeL
  clear hc hm
  go_enter Try.func3, Try.ntmps3
  go_wp2_with fail
  refine (usual_any _).mono ?_
  rintro e w1 ⟨rfl, b1⟩
  have hr1 := range_next (range_box0 w (cfL f t n h r d q) 24) (by simp) b1
  have hz1 : w.heap.size < w1.heap.size := by have := b1.size; simp only [World.size_alloc] at this; omega
  have HB1 := Lib.hid (gNx (gAl w _) b1)
  have HR1 := Lib.hid hr1
  clear b1 hr1
  go_wp2_with fail
  refine (rUsual_any _).mono ?_
  rintro e w2 ⟨rfl, b2⟩
  have hu2 := range_next (range_box0 w1 (cfL 4643211215818981376 256 256 6 3 40 8) 24) (by simp) b2
  have hz2 : w1.heap.size < w2.heap.size := by have := b2.size; simp only [World.size_alloc] at this; omega
  have HB2 := Lib.hid (gNx (gAl w1 _) b2)
  have HU2 := Lib.hid hu2
  have g0 := hu2 0 _ rfl
  have g1 := hu2 1 _ rfl
  have g2 := hu2 2 _ rfl
  have g3 := hu2 3 _ rfl
  have g4 := hu2 4 _ rfl
  have g5 := hu2 5 _ rfl
  have g6 := hu2 6 _ rfl
  have ef : (FloatKind.f64.format.order 4643211215818981376 4643211215818981376 == some .eq) = true := by decide +kernel
  clear b2 hu2
  go_wp2_with fail
  refine (HN1.out _).mono ?_
  rintro e w3 ⟨rfl, b3⟩
  have HB3 := Lib.hid (gNx (gAl w2 _) b3)
  have hz3 : w2.heap.size < w3.heap.size := by have := b3.size; simp only [World.size_alloc] at this; omega
  clear b3 g0 g1 g2 g3 g4 g5 g6
  go_wp2_with fail
  refine (HN2.out _).mono ?_
  rintro e w4 ⟨rfl, b4⟩
  have hs4 := (S4.first w3 ⟨mine, 0, false, 0⟩).below b4 (by simp)
  have HB4 := Lib.hid (gNx (gAl w3 _) b4)
  have hz4 : w3.heap.size < w4.heap.size := by have := b4.size; simp only [World.size_alloc] at this; omega
  have HS4 := Lib.hid hs4
  clear b4 hs4
  go_upto_region 6 with (fail)
  have HF : Hid ((∀ V, Below (w4.alloc (seO ⟨mine, 0, false, 0⟩)).heap.size (w4.alloc (seO ⟨mine, 0, false, 0⟩)) V → V.rangeAt w.heap.size 0 (cfL f t n h r d q) ∧ V.rangeAt w1.heap.size 0 (cfL 4643211215818981376 256 256 6 3 40 8) ∧ S4 V w3.heap.size 0 ⟨mine, 0, false, 0⟩ ∧ S4 V w4.heap.size 0 ⟨mine, 0, false, 0⟩) ∧ Below w.heap.size w (w4.alloc (seO ⟨mine, 0, false, 0⟩))) := Lib.hid (by
    have q4 := gNx HB4.out (gAl w4 (seO ⟨mine, 0, false, 0⟩))
    have q3 := gNx HB3.out q4
    have q2 := gNx HB2.out q3
    exact ⟨fun V hV => ⟨range_next HR1.out hz1 (gNx q2 hV), range_next HU2.out hz2 (gNx q3 hV), HS4.out.below (gNx (gAl w4 _) hV) hz4, (S4.first w4 _).below hV (by simp)⟩, gNx HB1.out q2⟩)
  generalize w1.heap.size = bu at *
  generalize w3.heap.size = bs at *
  generalize w4.heap.size = bt at *
  obtain ⟨W5, hW5⟩ : ∃ W5, W5 = w4.alloc (.cells #[.int .u64 mine, .int .u64 0, .bool false, .int .i64 0] 28) := ⟨_, rfl⟩
  rw [← hW5]
  rw [← hW5] at HF
  clear hW5 HB1 HB2 HB3 HB4 HR1 HU2 HS4 hz1 hz2 hz3 hz4 ef HN1 HN2
  have hE : (E == E) = true := by simp
  have hM : (me == me) = true := by simp
  refine wp_region_held_drew (S := fun V => Below W5.heap.size W5 V) (by kernel_rfl) (Below.refl W5.heap.size W5).drew (fun hH => ?_)
  refine tk 0 (by assumption) rfl (by kernel_rfl) (fun _ _ _ h => h) (tk_load (S := fun V => Below W5.heap.size W5 V) 24 (.tmp 2) rfl w.heap.size 0 rfl (cfL f t n h r d q) _ (fun V hV => (HF.out.1 V hV).1) Try.underlying24 (by rfl) (by kernel_rfl)) ?_
  try simp only [Act.put, sqA, sqB, sqC, sqD, sqE, sqF]
  refine tk 2 (by assumption) rfl (by kernel_rfl) (fun _ _ _ h => h) (tk_load (S := fun V => Below W5.heap.size W5 V) 24 (.tmp 2) rfl w.heap.size 0 rfl (cfL f t n h r d q) _ (fun V hV => (HF.out.1 V hV).1) Try.underlying24 (by rfl) (by kernel_rfl)) ?_
  try simp only [Act.put, sqA, sqB, sqC, sqD, sqE, sqF]
  refine wpAnyH_ready (rs := [1]) (by kernel_rfl) (by simp) ?_
  refine AllReadyH.cons (o := _) rfl (fun K hK => ?_) AllReadyH.nil
  go_simp
  refine (HC1.out _).mono ?_
  rintro e1 V1 ⟨rfl, b1⟩
  have k1 := gNx (by assumption) b1
  clear b1 hH
  go_wp2_with fail
  refine hK.out _ _ (by assumption) (fun hH => ?_)
  clear hK K
  try simp only [Act.put, sqA, sqB, sqC, sqD, sqE, sqF]
  refine wpAnyH_ready (rs := [3]) (by kernel_rfl) (by simp) ?_
  refine AllReadyH.cons (o := _) rfl (fun K hK => ?_) AllReadyH.nil
  go_simp
  refine (HC2.out _).mono ?_
  rintro e1 V1 ⟨rfl, b1⟩
  have k1 := gNx (by assumption) b1
  clear b1 hH
  go_wp2_with fail
  refine hK.out _ _ (by assumption) (fun hH => ?_)
  clear hK K
  try simp only [Act.put, sqA, sqB, sqC, sqD, sqE, sqF]
  refine tk 4 (by assumption) rfl (by kernel_rfl) (fun _ _ _ h => h) (fun V hV => by go_simp; try with_reducible rfl) ?_
  try simp only [Act.put, sqA, sqB, sqC, sqD, sqE, sqF]
  refine tk 5 (by assumption) rfl (by kernel_rfl) (fun _ _ _ h => h) (fun V hV => by go_simp; try with_reducible rfl) ?_
  try simp only [Act.put, sqA, sqB, sqC, sqD, sqE, sqF]
  refine tk 6 (by assumption) rfl (by kernel_rfl) (fun _ _ _ h => h) (fun V hV => by go_simp; try with_reducible rfl) ?_
  try simp only [Act.put, sqA, sqB, sqC, sqD, sqE, sqF]
  refine tk 7 (by assumption) rfl (by kernel_rfl) (fun _ _ _ h => h) (fun V hV => by go_simp; try with_reducible rfl) ?_
  try simp only [Act.put, sqA, sqB, sqC, sqD, sqE, sqF]
  refine tk 8 (by assumption) rfl (by kernel_rfl) (fun _ _ _ h => h) (fun V hV => by go_simp; try with_reducible rfl) ?_
  try simp only [Act.put, sqA, sqB, sqC, sqD, sqE, sqF]
  refine tk 9 (by assumption) rfl (by kernel_rfl) (fun _ _ _ h => h) (tk_load (S := fun V => Below W5.heap.size W5 V) 24 (.tmp 5) rfl bu 0 rfl (cfL 4643211215818981376 256 256 6 3 40 8) _ (fun V hV => (HF.out.1 V hV).2.1) Try.underlying24 (by rfl) (by kernel_rfl)) ?_
  try simp only [Act.put, sqA, sqB, sqC, sqD, sqE, sqF]
  refine wpAnyH_ready (rs := [10]) (by kernel_rfl) (by simp) ?_
  refine AllReadyH.cons (o := _) rfl (fun K hK => ?_) AllReadyH.nil
  go_simp
  refine (HC3.out _).mono ?_
  rintro e1 V1 ⟨rfl, b1⟩
  have k1 := gNx (by assumption) b1
  clear b1 hH
  go_wp2_with fail
  refine hK.out _ _ (by assumption) (fun hH => ?_)
  clear hK K
  try simp only [Act.put, sqA, sqB, sqC, sqD, sqE, sqF]
  refine tk 11 (by assumption) rfl (by kernel_rfl) (fun _ _ _ h => h) (fun V hV => by go_simp; try with_reducible rfl) ?_
  try simp only [Act.put, sqA, sqB, sqC, sqD, sqE, sqF]
  refine tk 12 (by assumption) rfl (by kernel_rfl) (fun _ _ _ h => h) (fun V hV => by go_simp; try with_reducible rfl) ?_
  try simp only [Act.put, sqA, sqB, sqC, sqD, sqE, sqF]
  refine tk 13 (by assumption) rfl (by kernel_rfl) (fun _ _ _ h => h) (fun V hV => by go_simp; try with_reducible rfl) ?_
  try simp only [Act.put, sqA, sqB, sqC, sqD, sqE, sqF]
  refine tk 14 (by assumption) rfl (by kernel_rfl) (fun _ _ _ h => h) (tk_load (S := fun V => Below W5.heap.size W5 V) 28 (.tmp 8) rfl bs 0 rfl (seL ⟨mine, 0, false, 0⟩) _ (fun V hV => (HF.out.1 V hV).2.2.1.range) Try.underlying28 (by rfl) (by kernel_rfl)) ?_
  try simp only [Act.put, sqA, sqB, sqC, sqD, sqE, sqF]
  refine tk 15 (by assumption) rfl (by kernel_rfl) (fun _ _ _ h => h) (tk_load (S := fun V => Below W5.heap.size W5 V) 28 (.tmp 10) rfl bt 0 rfl (seL ⟨mine, 0, false, 0⟩) _ (fun V hV => (HF.out.1 V hV).2.2.2.range) Try.underlying28 (by rfl) (by kernel_rfl)) ?_
  try simp only [Act.put, sqA, sqB, sqC, sqD, sqE, sqF]
  refine wpAnyH_ready (rs := [16]) (by kernel_rfl) (by simp) ?_
  refine AllReadyH.cons (o := _) rfl (fun K hK => ?_) AllReadyH.nil
  go_simp
  refine (rSame_any ⟨mine, 0, false, 0⟩ _).mono ?_
  rintro e1 V1 ⟨rfl, b1⟩
  have k1 := gNx (by assumption) b1
  clear b1 hH
  go_wp2_with fail
  refine hK.out _ _ (by assumption) (fun hH => ?_)
  clear hK K
  try simp only [Act.put, sqA, sqB, sqC, sqD, sqE, sqF]
  refine tk 17 (by assumption) rfl (by kernel_rfl) (fun _ _ _ h => h) (fun V hV => by go_simp; try with_reducible rfl) ?_
  try simp only [Act.put, sqA, sqB, sqC, sqD, sqE, sqF]
  refine tk 18 (by assumption) rfl (by kernel_rfl) (fun _ _ _ h => h) (fun V hV => by go_simp; try with_reducible rfl) ?_
  try simp only [Act.put, sqA, sqB, sqC, sqD, sqE, sqF]
  refine tk 19 (by assumption) rfl (by kernel_rfl) (fun _ _ _ h => h) (fun V hV => by go_simp; try with_reducible rfl) ?_
  try simp only [Act.put, sqA, sqB, sqC, sqD, sqE, sqF]
  refine tk 20 (by assumption) rfl (by kernel_rfl) (fun _ _ _ h => h) (fun V hV => by go_simp; try with_reducible rfl) ?_
  try simp only [Act.put, sqA, sqB, sqC, sqD, sqE, sqF]
  refine tk 21 (by assumption) rfl (by kernel_rfl) (fun _ _ _ h => h) (fun V hV => by go_simp; try with_reducible rfl) ?_
  try simp only [Act.put, sqA, sqB, sqC, sqD, sqE, sqF]
  refine tk 22 (by assumption) rfl (by kernel_rfl) (fun _ _ _ h => h) (fun V hV => by go_simp; try with_reducible rfl) ?_
  try simp only [Act.put, sqA, sqB, sqC, sqD, sqE, sqF]
  refine tk 23 (by assumption) rfl (by kernel_rfl) (fun _ _ _ h => h) (fun V hV => by go_simp; try with_reducible rfl) ?_
  try simp only [Act.put, sqA, sqB, sqC, sqD, sqE, sqF]
  refine wpAnyH_ready (rs := [24]) (by kernel_rfl) (by simp) ?_
  refine AllReadyH.cons (o := _) rfl (fun K hK => ?_) AllReadyH.nil
  go_simp
  refine (awake_any _).mono ?_
  rintro e1 V1 ⟨rfl, b1⟩
  have k1 := gNx (by assumption) b1
  clear b1 hH
  go_wp2_with fail
  refine hK.out _ _ (by assumption) (fun hH => ?_)
  clear hK K
  try simp only [Act.put, sqA, sqB, sqC, sqD, sqE, sqF]
  refine tk 25 (by assumption) rfl (by kernel_rfl) (fun _ _ _ h => h) (fun V hV => by go_simp; try with_reducible rfl) ?_
  try simp only [Act.put, sqA, sqB, sqC, sqD, sqE, sqF]
  refine tk 26 (by assumption) rfl (by kernel_rfl) (fun _ _ _ h => h) (fun V hV => by go_simp; try with_reducible rfl) ?_
  try simp only [Act.put, sqA, sqB, sqC, sqD, sqE, sqF]
  refine wpAnyH_done (by kernel_rfl) ?_ _
  clear hH
  go_wp2_with fail
  go_ret
  exact ⟨rfl, HF.out.2.trans (Below.mono (by assumption) (HF.out.2.size))⟩
end Go.Proofs.Ytippekflhlmgiaa
