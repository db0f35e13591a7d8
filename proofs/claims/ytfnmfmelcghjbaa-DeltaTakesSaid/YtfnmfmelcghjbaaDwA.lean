/- Deltas, the program: its small functions. -/
import Derived.Test.YtfnmfmelcghjbaaKwB
import Derived.Test.YtfnmfmelcghjbaaMiA
import Derived.Test.YtfnmfmelcghjbaaDqB
namespace Go.Proofs.Ytfnmfmelcghjbaa
open Go.RowKit Go.Lib Go.Ow Go.Cw Go.Fq Go.Mq Go.Kq Go.Kw Go.Dq
set_option linter.unusedVariables false
set_option linter.unusedSimpArgs false
set_option maxRecDepth 100000

theorem below_keepD {B : Nat} {a b : World} (h : Below B a b) {x : Nat} (hx : x < B) {o : Nat} {cs : List Value} (hr : a.rangeAt x o cs) : b.rangeAt x o cs := fun j v hj => (h.cell (p := ⟨x, o + j, none⟩) hx).trans (hr j v hj)
theorem there_keepD {B : Nat} {a b : World} (h : Below B a b) {x : Nat} (hx : x < B) {o n : Nat} (ht : a.there x o n) : b.there x o n := fun j hj => by
  obtain ⟨h1, h2⟩ := ht j hj
  have e := h.block x hx
  constructor
  · rw [World.cell?_of_block e]; exact h1
  · simp only [World.frozen?] at h2 ⊢
    rw [e]; exact h2
theorem dwNil (V : World) (a : Option Addr) (n c : Nat) : (binOp .eql 22 (.slice a n c) (.slice none 0 0)).run Try.prog V = .ok (.bool a.isNone) V := Lib.run_eql_slice_nil V 22 _ a n c 0 0 Try.underlying22
/-- A list that is told: a row of the call's own. -/
def DRow (w : World) (l : List Nw) (f : Value → Value) (e : Ending) (w' : World) : Prop := Below w.heap.size w w' ∧ ∃ a c r, e = .returned (f (.slice a l.length c)) ∧ w.heap.size ≤ r ∧ Nr w' r (.slice a l.length c) l
set_option maxHeartbeats 4000000 in
theorem dClone_any {T : Nat → Prop} (l : List Nw) (a : Option Addr) (c : Nat) (w : World) (h : NwS T w l a) (hnil : a = none → l = []) (hl : l.length * 40 ≤ 140737488355328) :
    Calls Try.prog 43 #[.slice a l.length c] w fun e w' => DRow w l id e w' := by
  have heq := dwNil
  cases a with
  | none =>
    obtain rfl := hnil rfl
    clear h hl hnil
    go_enter Try.func43, Try.ntmps43
    go_wp2_with fail
    go_ret
    exact ⟨Below.refl _ _, none, 0, w.heap.size, rfl, Nat.le_refl _, Or.inl ⟨rfl, rfl, none, rfl⟩⟩
  | some a =>
    obtain ⟨b, o, fz⟩ := a
    obtain ⟨a', c', V, r, hrun, ho, hr, hb⟩ := nw_clone (w := w.alloc (.cells #[] 63)) (c2 := c) (h.below (gAl _ _)) hl (some ⟨w.heap.size, 0, none⟩)
    have HR := Lib.hid hrun
    have HO : Hid (w.heap.size ≤ r ∧ Nr V r (.slice a' l.length c') l) := Lib.hid ⟨Nat.le_trans (gAl w _).size hr, ho⟩
    have HB := Lib.hid (gNx (gAl w (.cells #[] 63)) hb)
    clear h hl hnil hrun ho hb hr
    go_enter Try.func43, Try.ntmps43
    go_wp2_with (at_builtin; refine Lib.wpList_append_run _ rfl _ _ _ _ rfl _ _ rfl rfl _ _ (HR.out _) ?_)
    go_ret
    exact ⟨HB.out, a', c', r, rfl, HO.out.1, HO.out.2⟩
theorem dInf_any (w : World) : Calls Try.prog 53 #[.int .i64 1] w fun e w' => e = .returned (.float .f64 topN) ∧ w = w' := by
  have x2 := x_from
  go_enter Try.func53, Try.ntmps53
  go_wp2_with fail
  go_ret
  exact ⟨rfl, rfl⟩
theorem dGone_any (n : Nw) (w : World) : Calls Try.prog 46 #[nwV n] w fun e w' => e = .returned (.bool (infP n.dist)) ∧ w' = w.alloc (nwO n) := by
  go_enter Try.func46, Try.ntmps46
  go_wp2_with (go_at_call 44; refine (isinfP _ _).mono ?_; rintro e w' ⟨rfl, rfl⟩)
  go_ret
  exact ⟨rfl, rfl⟩
theorem dNone_any (n : Nw) (w : World) : Calls Try.prog 48 #[nwV n] w fun e w' => e = .returned (.bool (n.dest == 0)) ∧ w' = w.alloc (nwO n) := by
  go_enter Try.func48, Try.ntmps48
  go_wp2_with fail
  go_ret
  exact ⟨rfl, rfl⟩
theorem dBits_any (x y : Nat) (w : World) : Calls Try.prog 63 #[.float .f64 x, .float .f64 y] w fun e w' => e = .returned (.bool ((x : Int) == (y : Int))) ∧ w = w' := by
  have x1 := x_bits
  go_enter Try.func63, Try.ntmps63
  go_wp2_with fail
  go_ret
  exact ⟨rfl, rfl⟩
set_option maxHeartbeats 4000000 in
theorem dSame_any (a b : Nw) (w : World) : Calls Try.prog 50 #[nwV a, nwV b] w fun e w' => e = .returned (.bool (nwE a b)) ∧ Below w.heap.size w w' := by
  have e3 : ((a.dist : Int) == (b.dist : Int)) = (a.dist == b.dist) := by rw [Bool.eq_iff_iff]; simp only [beq_iff_eq]; omega
  have e4 : ((a.radius : Int) == (b.radius : Int)) = (a.radius == b.radius) := by rw [Bool.eq_iff_iff]; simp only [beq_iff_eq]; omega
  have HD := Lib.hid (fun W => e3 ▸ dBits_any a.dist b.dist W)
  have HR := Lib.hid (fun W => e4 ▸ dBits_any a.radius b.radius W)
  clear e3 e4
  cases h0 : (a.dest == b.dest) with
  | false =>
    have e : nwE a b = false := by unfold nwE; simp [h0]
    rw [e]
    clear e
    go_enter Try.func50, Try.ntmps50
    go_wp2_with (first | (go_at_call 63; with_reducible refine (HD.out _).mono ?_; rintro e w' ⟨rfl, rfl⟩) | (go_at_call 63; with_reducible refine (HR.out _).mono ?_; rintro e w' ⟨rfl, rfl⟩))
    go_ret
    exact ⟨rfl, gNx (gAl _ _) (gAl _ _)⟩
  | true =>
    cases h1 : (a.kind == b.kind) with
    | false =>
      have e : nwE a b = false := by unfold nwE; simp [h1]
      rw [e]
      clear e
      go_enter Try.func50, Try.ntmps50
      go_wp2_with (first | (go_at_call 63; with_reducible refine (HD.out _).mono ?_; rintro e w' ⟨rfl, rfl⟩) | (go_at_call 63; with_reducible refine (HR.out _).mono ?_; rintro e w' ⟨rfl, rfl⟩))
      go_ret
      exact ⟨rfl, gNx (gAl _ _) (gAl _ _)⟩
    | true =>
      cases h2 : (a.home == b.home) with
      | false =>
        have e : nwE a b = false := by unfold nwE; simp [h2]
        rw [e]
        clear e
        go_enter Try.func50, Try.ntmps50
        go_wp2_with (first | (go_at_call 63; with_reducible refine (HD.out _).mono ?_; rintro e w' ⟨rfl, rfl⟩) | (go_at_call 63; with_reducible refine (HR.out _).mono ?_; rintro e w' ⟨rfl, rfl⟩))
        go_ret
        exact ⟨rfl, gNx (gAl _ _) (gAl _ _)⟩
      | true =>
        cases h3 : (a.dist == b.dist) with
        | false =>
          rw [h3] at HD
          have e : nwE a b = false := by unfold nwE; simp [h3]
          rw [e]
          clear e
          go_enter Try.func50, Try.ntmps50
          go_wp2_with (first | (go_at_call 63; with_reducible refine (HD.out _).mono ?_; rintro e w' ⟨rfl, rfl⟩) | (go_at_call 63; with_reducible refine (HR.out _).mono ?_; rintro e w' ⟨rfl, rfl⟩))
          go_ret
          exact ⟨rfl, gNx (gAl _ _) (gAl _ _)⟩
        | true =>
          rw [h3] at HD
          cases h4 : (a.radius == b.radius) with
          | false =>
            rw [h4] at HR
            have e : nwE a b = false := by unfold nwE; simp [h4]
            rw [e]
            clear e
            go_enter Try.func50, Try.ntmps50
            go_wp2_with (first | (go_at_call 63; with_reducible refine (HD.out _).mono ?_; rintro e w' ⟨rfl, rfl⟩) | (go_at_call 63; with_reducible refine (HR.out _).mono ?_; rintro e w' ⟨rfl, rfl⟩))
            go_ret
            exact ⟨rfl, gNx (gAl _ _) (gAl _ _)⟩
          | true =>
            rw [h4] at HR
            have e : nwE a b = true := by unfold nwE; simp [h0, h1, h2, h3, h4]
            rw [e]
            clear e
            go_enter Try.func50, Try.ntmps50
            go_wp2_with (first | (go_at_call 63; with_reducible refine (HD.out _).mono ?_; rintro e w' ⟨rfl, rfl⟩) | (go_at_call 63; with_reducible refine (HR.out _).mono ?_; rintro e w' ⟨rfl, rfl⟩))
            go_ret
            exact ⟨rfl, gNx (gAl _ _) (gAl _ _)⟩
set_option maxHeartbeats 4000000 in
theorem dBy_any (a b : Nw) (w : World) : Calls Try.prog 55 #[nwV a, nwV b] w fun e w' => e = .returned (.int .i64 (byD a b)) ∧ Below w.heap.size w w' := by
  go_enter Try.func55, Try.ntmps55
  go_upto_region 1 with (fail)
  obtain ⟨W1, hW1⟩ : ∃ W1, W1 = (w.alloc (nwO a)).alloc (nwO b) := ⟨_, rfl⟩
  have hb1 : Below w.heap.size w W1 := by rw [hW1]; exact gNx (gAl _ _) (gAl _ _)
  have q0 : W1.rangeAt w.heap.size 0 (nC a) ∧ W1.rangeAt (w.heap.size + 1) 0 (nC b) ∧ W1.heap.size = w.heap.size + 2 := by
    rw [hW1]
    refine ⟨fun j v hj => ?_, fun j v hj => ?_, by simp⟩
    · have h := range_box0 w (nC a) 63 j v hj
      exact (World.cell?_of_block (a := ⟨w.heap.size, 0 + j, none⟩) ((gAl (w.alloc (nwO a)) (nwO b)).block w.heap.size (by simp))).trans h
    · have h := range_box0 (w.alloc (nwO a)) (nC b) 63 j v hj
      simp only [World.size_alloc] at h
      exact h
  have HKA : Hid (∀ V, Below W1.heap.size W1 V → V.cell? ⟨w.heap.size, 0, none⟩ = some (.int .i64 a.dest) ∧ V.cell? ⟨w.heap.size, 1, none⟩ = some (.int .i64 a.kind) ∧ V.cell? ⟨w.heap.size + 1, 0, none⟩ = some (.int .i64 b.dest) ∧ V.cell? ⟨w.heap.size + 1, 1, none⟩ = some (.int .i64 b.kind)) := Lib.hid (fun V hV => by
    obtain ⟨q1, q2, q3⟩ := q0
    exact ⟨(hV.cell (p := ⟨w.heap.size, 0, none⟩) (by show w.heap.size < _; omega)).trans (q1 0 _ rfl), (hV.cell (p := ⟨w.heap.size, 1, none⟩) (by show w.heap.size < _; omega)).trans (q1 1 _ rfl), (hV.cell (p := ⟨w.heap.size + 1, 0, none⟩) (by show w.heap.size + 1 < _; omega)).trans (q2 0 _ rfl), (hV.cell (p := ⟨w.heap.size + 1, 1, none⟩) (by show w.heap.size + 1 < _; omega)).trans (q2 1 _ rfl)⟩)
  have HB1 := Lib.hid hb1
  clear hb1 q0
  rw [← hW1]
  clear hW1
  refine wp_region_held_drew (S := fun V => Below W1.heap.size W1 V) (by kernel_rfl) (Below.drew (Below.refl _ _)) (fun hH => ?_)
  refine tk 0 (by assumption) rfl (by kernel_rfl) (fun _ _ _ h => h) (fun V hV => by go_simp; try with_reducible rfl) ?_
  try simp only [Act.put, sqA, sqB, sqC, sqD, sqE, sqF]
  refine tk 1 (by assumption) rfl (by kernel_rfl) (fun _ _ _ h => h) (fun V hV => by obtain ⟨hx0, hx1, hx2, hx3⟩ := HKA.out V hV; go_simp; try with_reducible rfl) ?_
  try simp only [Act.put, sqA, sqB, sqC, sqD, sqE, sqF]
  refine tk 2 (by assumption) rfl (by kernel_rfl) (fun _ _ _ h => h) (fun V hV => by go_simp; try with_reducible rfl) ?_
  try simp only [Act.put, sqA, sqB, sqC, sqD, sqE, sqF]
  refine tk 3 (by assumption) rfl (by kernel_rfl) (fun _ _ _ h => h) (fun V hV => by obtain ⟨hx0, hx1, hx2, hx3⟩ := HKA.out V hV; go_simp; try with_reducible rfl) ?_
  try simp only [Act.put, sqA, sqB, sqC, sqD, sqE, sqF]
  refine tk 5 (by assumption) rfl (by kernel_rfl) (fun _ _ _ h => h) (fun V hV => by go_simp; try with_reducible rfl) ?_
  try simp only [Act.put, sqA, sqB, sqC, sqD, sqE, sqF]
  refine tk 6 (by assumption) rfl (by kernel_rfl) (fun _ _ _ h => h) (fun V hV => by obtain ⟨hx0, hx1, hx2, hx3⟩ := HKA.out V hV; go_simp; try with_reducible rfl) ?_
  try simp only [Act.put, sqA, sqB, sqC, sqD, sqE, sqF]
  refine tk 7 (by assumption) rfl (by kernel_rfl) (fun _ _ _ h => h) (fun V hV => by go_simp; try with_reducible rfl) ?_
  try simp only [Act.put, sqA, sqB, sqC, sqD, sqE, sqF]
  refine tk 8 (by assumption) rfl (by kernel_rfl) (fun _ _ _ h => h) (fun V hV => by obtain ⟨hx0, hx1, hx2, hx3⟩ := HKA.out V hV; go_simp; try with_reducible rfl) ?_
  try simp only [Act.put, sqA, sqB, sqC, sqD, sqE, sqF]
  refine wpAnyH_ready (rs := [4]) (by kernel_rfl) (by simp) ?_
  refine AllReadyH.cons (o := _) rfl (fun K hK => ?_) AllReadyH.nil
  go_simp
  refine (kCmp_any _ _ _).mono ?_
  rintro e2 V2 ⟨rfl, rfl⟩
  go_wp2_with fail
  refine hK.out _ _ hH (fun hH => ?_)
  clear hK K
  try simp only [Act.put, sqA, sqB, sqC, sqD, sqE, sqF]
  refine wpAnyH_ready (rs := [9]) (by kernel_rfl) (by simp) ?_
  refine AllReadyH.cons (o := _) rfl (fun K hK => ?_) AllReadyH.nil
  go_simp
  refine (kCmp_any _ _ _).mono ?_
  rintro e2 V2 ⟨rfl, rfl⟩
  go_wp2_with fail
  refine hK.out _ _ hH (fun hH => ?_)
  clear hK K
  try simp only [Act.put, sqA, sqB, sqC, sqD, sqE, sqF]
  refine wpAnyH_ready (rs := [10]) (by kernel_rfl) (by simp) ?_
  refine AllReadyH.cons (o := _) rfl (fun K hK => ?_) AllReadyH.nil
  go_simp
  refine hK.out _ _ (gNx hH (gAl _ _)) (fun hH2 => ?_)
  clear hK K
  try simp only [Act.put, sqA, sqB, sqC, sqD, sqE, sqF]
  refine wpAnyH_ready (rs := [11]) (by kernel_rfl) (by simp) ?_
  refine AllReadyH.cons (o := _) rfl (fun K hK => ?_) AllReadyH.nil
  go_simp
  refine (kOr_any (cmpZ a.kind b.kind) (cmpZ a.dest b.dest) _ _ (by simp [go_sem]) (by simp [go_sem])).mono ?_
  rintro e2 V2 ⟨rfl, rfl⟩
  go_wp2_with fail
  refine hK.out _ _ hH2 (fun hH => ?_)
  clear hK K
  try simp only [Act.put, sqA, sqB, sqC, sqD, sqE, sqF]
  refine tk 12 (by assumption) rfl (by kernel_rfl) (fun _ _ _ h => h) (fun V hV => by go_simp; try with_reducible rfl) ?_
  try simp only [Act.put, sqA, sqB, sqC, sqD, sqE, sqF]
  refine wpAnyH_done (by kernel_rfl) ?_ _
  go_wp2_with fail
  refine bodyPost_ret (v := .int .i64 (byD a b)) (by simp [results, Try.results55, go_sem, byD]) rfl ?_
  exact ⟨rfl, gNx HB1.out (by assumption)⟩
theorem may_advD (l : List Nw) : mayB ⟨2, 1, 1, 1, l, ⟨0, 0, 0, 0, 0, 0, 0, 0, ByteArray.empty, 0, 0, ByteArray.empty⟩⟩ = toldB l := by
  unfold mayB
  simp only
  rw [if_neg (by decide), if_pos (by decide)]
  have hz : zeroPk ⟨0, 0, 0, 0, 0, 0, 0, 0, ByteArray.empty, 0, 0, ByteArray.empty⟩ = true := by decide +kernel
  rw [hz]; simp
theorem dMay_any (l : List Nw) (a : Option Addr) (c : Nat) (w : World) (hin : NewsIn w w.heap.size l a) (hfit : ∀ n ∈ l, n.Fit) : Calls Try.prog 54 #[.slice a l.length c] w fun e w' => e = .returned (.bool (toldB l)) ∧ Below w.heap.size w w' := by
  have HC := Lib.hid (mCheck_any 2 1 1 1 l a c 0 0 0 0 0 0 0 0 ByteArray.empty 0 0 ByteArray.empty (by decide) w hin hfit)
  rw [may_advD] at HC
  clear hin hfit
  generalize toldB l = B at *
  cases B
  all_goals
    go_enter Try.func54, Try.ntmps54
    go_wp2_with (go_at_call 65; refine HC.out.mono ?_; rintro e w' ⟨rfl, hb⟩)
    go_ret
    exact ⟨rfl, hb⟩
theorem setbox (w : World) (n : Nat) (x : Nw) (hn : n = w.heap.size) : (w.alloc (nwO noN)).setCells n 0 (nC x) = w.alloc (nwO x) := by
  subst hn
  simp [World.setCells, World.setCell_alloc_at, nC, noN]
theorem therebox (w : World) (n : Nat) (x : Nw) (hn : n = w.heap.size) : (w.alloc (nwO noN)).there n 0 (nC x).toArray.size := by
  subst hn
  exact there_box w (nC noN) 63
theorem rngD {w : World} {l : List Nw} {b o i : Nat} (hat : ∀ k (h : k < l.length), NwAt w b (o + k * 5) l[k]) (hi : i < l.length) (hb : b < w.heap.size) : ∀ V, Below w.heap.size w V → V.rangeAt b (o + i * 5) (nC l[i]) := fun V hV => by
  have h1 := NwS.range (l := [l[i]]) (b := b) (o := o + i * 5) (w := w) (fun j hj => by
    have : j = 0 := by simp at hj; omega
    subst this
    simpa using hat i hi)
  exact below_keepD hV hb (by simpa [nRow] using h1)
theorem told_one (n : Nw) : toldB [n] = newsB n := by
  unfold toldB
  rw [decide_eq_true (by simp), Bool.true_and]
  cases h : newsB n with
  | true =>
    refine order_iff.2 (fun k hk => ?_)
    have e : k = 0 := by simp at hk; omega
    subst e
    exact ⟨h, fun h0 => absurd h0 (by omega)⟩
  | false =>
    rw [Bool.eq_false_iff]; intro ho
    have := (order_iff.1 ho 0 (by simp)).1
    simp [h] at this
set_option maxHeartbeats 4000000 in
theorem dGoneOf_any (n : Nw) (w : World) : Calls Try.prog 49 #[nwV n] w fun e w' => e = .returned (nwV (goneN n)) ∧ Below w.heap.size w w' := by
  go_enter Try.func49, Try.ntmps49
  go_upto_region 1 with (fail)
  obtain ⟨W0, hW0⟩ : ∃ W0, W0 = w.alloc (nwO n) := ⟨_, rfl⟩
  obtain ⟨V0, hV0⟩ : ∃ V0, V0 = (W0.alloc (.cells #[.int .i64 0, .int .i64 0, .float .f64 0, .float .f64 0, .int .i64 0] 63)).drew := ⟨_, rfl⟩
  have hb0 : Below w.heap.size w W0 := by rw [hW0]; exact gAl _ _
  have hz0 : W0.heap.size = w.heap.size + 1 := by rw [hW0, World.size_alloc]
  have hc0 : W0.cell? ⟨w.heap.size, 0, none⟩ = some (.int .i64 n.dest) ∧ W0.cell? ⟨w.heap.size, 1, none⟩ = some (.int .i64 n.kind) := by rw [hW0]; exact ⟨by simp [go_sem], by simp [go_sem]⟩
  have hb1 : Below W0.heap.size W0 V0 := by rw [hV0]; exact (gAl _ _).drew
  have HB : Hid (Below w.heap.size w V0) := Lib.hid (gNx hb0 hb1)
  have ht1 : V0.there W0.heap.size 0 5 := by rw [hV0]; exact there_keepD (Below.refl (W0.heap.size + 1) _).drew (Nat.lt_succ_self _) (there_box W0 (nC noN) 63)
  have HT : Hid (V0.there (w.heap.size + 1) 0 (nC (goneN n)).toArray.size) := Lib.hid (by rw [hz0] at ht1; exact ht1)
  have hcs : V0.cell? ⟨w.heap.size, 0, none⟩ = some (.int .i64 n.dest) ∧ V0.cell? ⟨w.heap.size, 1, none⟩ = some (.int .i64 n.kind) := ⟨(hb1.cell (p := ⟨w.heap.size, 0, none⟩) (by show w.heap.size < _; omega)).trans hc0.1, (hb1.cell (p := ⟨w.heap.size, 1, none⟩) (by show w.heap.size < _; omega)).trans hc0.2⟩
  refine wp_region_held_drew (S := fun V => V.cell? ⟨w.heap.size, 0, none⟩ = some (.int .i64 n.dest) ∧ V.cell? ⟨w.heap.size, 1, none⟩ = some (.int .i64 n.kind)) (by kernel_rfl) (by rw [hW0] at hV0; rw [← hV0]; exact hcs) (fun hs0 => ?_)
  rw [hW0] at hV0
  rw [← hV0] at hs0 ⊢
  clear hV0 hW0 hb0 hz0 hc0 hb1 ht1 W0 hcs
  refine tk 0 (by assumption) rfl (by kernel_rfl) (fun _ _ _ h => h) (fun V hV => by go_simp; try with_reducible rfl) ?_
  try simp only [Act.put, sqA, sqB, sqC, sqD, sqE, sqF]
  refine tk 1 (by assumption) rfl (by kernel_rfl) (fun _ _ _ h => h) (fun V hV => by obtain ⟨x0, x1⟩ := hV; go_simp; try with_reducible rfl) ?_
  try simp only [Act.put, sqA, sqB, sqC, sqD, sqE, sqF]
  refine tk 2 (by assumption) rfl (by kernel_rfl) (fun _ _ _ h => h) (fun V hV => by go_simp; try with_reducible rfl) ?_
  try simp only [Act.put, sqA, sqB, sqC, sqD, sqE, sqF]
  refine tk 3 (by assumption) rfl (by kernel_rfl) (fun _ _ _ h => h) (fun V hV => by obtain ⟨x0, x1⟩ := hV; go_simp; try with_reducible rfl) ?_
  try simp only [Act.put, sqA, sqB, sqC, sqD, sqE, sqF]
  refine wpAnyH_ready (rs := [4]) (by kernel_rfl) (by simp) ?_
  refine AllReadyH.cons (o := _) rfl (fun K hK => ?_) AllReadyH.nil
  go_simp
  refine (dInf_any _).mono ?_
  rintro e2 V4 ⟨rfl, rfl⟩
  go_wp2_with fail
  refine hK.out _ _ hs0 (fun hs0 => ?_)
  clear hK K
  try simp only [Act.put, sqA, sqB, sqC, sqD, sqE, sqF]
  refine tk 5 (by assumption) rfl (by kernel_rfl) (fun _ _ _ h => h) (fun V hV => by go_simp; try with_reducible rfl) ?_
  try simp only [Act.put, sqA, sqB, sqC, sqD, sqE, sqF]
  refine wpAnyH_ready (rs := [6]) (by kernel_rfl) (by simp) ?_
  refine AllReadyH.cons (o := _) rfl (fun K hK => ?_) AllReadyH.nil
  refine wp_store_mid 63 (.tmp 2) (.tmp 8) rfl (w.heap.size + 1) 0 (nC (goneN n)).toArray rfl rfl HT.out (by kernel_rfl) (all_oneCell_toArray (nC_one (goneN n))) ?_
  have HV := Lib.hid (World.rangeAt_setCells_same V0 (w.heap.size + 1) 0 (nC (goneN n)) HT.out)
  have HBV := Lib.hid (below_set (w.heap.size + 1) (Nat.le_succ _) (nC (goneN n)) 0 V0 HB.out)
  refine hK.out _ _ ⟨(World.cell?_setCells_out (w.heap.size + 1) (nC (goneN n)) 0 V0 ⟨w.heap.size, 0, none⟩ (fun e _ => by have e2 : w.heap.size = w.heap.size + 1 := e; omega)).trans hs0.1, (World.cell?_setCells_out (w.heap.size + 1) (nC (goneN n)) 0 V0 ⟨w.heap.size, 1, none⟩ (fun e _ => by have e2 : w.heap.size = w.heap.size + 1 := e; omega)).trans hs0.2⟩ (fun _ => ?_)
  clear hK K
  try simp only [Act.put, sqA, sqB, sqC, sqD, sqE, sqF]
  refine wpAnyH_done (by kernel_rfl) ?_ _
  go_wp2_with fail
  refine bodyPost_ret (v := nwV (goneN n)) (results_cell Try.results49 _ _ (w.heap.size + 1) 0 (nC (goneN n)) _ rfl HV.out Try.underlying63 (by rfl) (by kernel_rfl)) rfl ?_
  exact ⟨rfl, HBV.out⟩
/-- Which of two begins: below nought the first one's, above it the second one's. -/
def fstO : List Nw → List Nw → Int
  | _, [] => -1
  | [], _ :: _ => 1
  | x :: _, y :: _ => byD x y
set_option maxHeartbeats 4000000 in
theorem dFirst_any (la lb : List Nw) (aa ab : Option Addr) (ca cb : Nat) (w : World) (ha : NewsIn w w.heap.size la aa) (hb : NewsIn w w.heap.size lb ab) (hne : 0 < la.length ∨ 0 < lb.length) :
    Calls Try.prog 62 #[.slice aa la.length ca, .slice ab lb.length cb] w fun e w' => e = .returned (.int .i64 (fstO la lb)) ∧ Below w.heap.size w w' := by
  cases lb with
  | nil =>
    go_enter Try.func62, Try.ntmps62
    go_wp2_with fail
    refine bodyPost_ret (v := .int .i64 (-1)) (by simp [results, Try.results62, go_sem]) rfl ?_
    exact ⟨by cases la <;> rfl, Below.refl _ _⟩
  | cons y lb =>
    have hly : (((y :: lb).length : Nat) : Int) = (lb.length : Int) + 1 := by simp
    have hy0 : ((((y :: lb).length : Nat) : Int) == 0) = false := by rw [hly]; simp; omega
    have hyp : 0 < (y :: lb).length := by simp
    obtain ⟨bb, ob, rfl, hbb, hatb⟩ := hb.at 0 (by simp)
    have HKY : Hid (∀ V, Below w.heap.size w V → V.rangeAt bb ob (nC y)) := Lib.hid (fun V hV => by
      have := rngD hatb (i := 0) (by simp) hbb V hV
      simpa using this)
    cases la with
    | nil =>
      clear hatb hb hne hly
      generalize (y :: lb).length = nb at *
      go_enter Try.func62, Try.ntmps62
      go_wp2_with fail
      refine bodyPost_ret (v := .int .i64 1) (by simp [results, Try.results62, go_sem]) rfl ?_
      exact ⟨rfl, Below.refl _ _⟩
    | cons x la =>
      have hlx : (((x :: la).length : Nat) : Int) = (la.length : Int) + 1 := by simp
      have hx0 : ((((x :: la).length : Nat) : Int) == 0) = false := by rw [hlx]; simp; omega
      have hxp : 0 < (x :: la).length := by simp
      obtain ⟨ba, oa, rfl, hba, hata⟩ := ha.at 0 (by simp)
      have HKX : Hid (∀ V, Below w.heap.size w V → V.rangeAt ba oa (nC x)) := Lib.hid (fun V hV => by
        have := rngD hata (i := 0) (by simp) hba V hV
        simpa using this)
      clear hata hatb hlx hly ha hb hne
      generalize (y :: lb).length = nb at *
      generalize (x :: la).length = na at *
      go_enter Try.func62, Try.ntmps62
      go_upto_region 5 with (fail)
      refine wp_region_held_drew (S := fun V => Below w.heap.size w V) (by kernel_rfl) (Below.refl _ _).drew (fun hs0 => ?_)
      refine tk 0 (by assumption) rfl (by kernel_rfl) (fun _ _ _ h => h) (fun V hV => by go_simp; try with_reducible rfl) ?_
      try simp only [Act.put, sqA, sqB, sqC, sqD, sqE, sqF]
      refine tk 1 (by assumption) rfl (by kernel_rfl) (fun _ _ _ h => h) (fun V hV => by go_simp; try with_reducible rfl) ?_
      try simp only [Act.put, sqA, sqB, sqC, sqD, sqE, sqF]
      refine tk 2 (by assumption) rfl (by kernel_rfl) (fun _ _ _ h => h) (tk_load 63 (.tmp 14) rfl ba oa rfl (nC x) _ (fun V hV => HKX.out V hV) Try.underlying63 (by rfl) (by kernel_rfl)) ?_
      try simp only [Act.put, sqA, sqB, sqC, sqD, sqE, sqF]
      refine tk 3 (by assumption) rfl (by kernel_rfl) (fun _ _ _ h => h) (fun V hV => by go_simp; try with_reducible rfl) ?_
      try simp only [Act.put, sqA, sqB, sqC, sqD, sqE, sqF]
      refine tk 4 (by assumption) rfl (by kernel_rfl) (fun _ _ _ h => h) (fun V hV => by go_simp; try with_reducible rfl) ?_
      try simp only [Act.put, sqA, sqB, sqC, sqD, sqE, sqF]
      refine tk 5 (by assumption) rfl (by kernel_rfl) (fun _ _ _ h => h) (tk_load 63 (.tmp 17) rfl bb ob rfl (nC y) _ (fun V hV => HKY.out V hV) Try.underlying63 (by rfl) (by kernel_rfl)) ?_
      try simp only [Act.put, sqA, sqB, sqC, sqD, sqE, sqF]
      refine wpAnyH_ready (rs := [6]) (by kernel_rfl) (by simp) ?_
      refine AllReadyH.cons (o := _) rfl (fun K hK => ?_) AllReadyH.nil
      go_simp
      refine (dBy_any _ _ _).mono ?_
      rintro e2 V4 ⟨rfl, hb4⟩
      go_wp2_with fail
      refine hK.out _ _ (gNx hs0 hb4) (fun hs0 => ?_)
      clear hK K
      try simp only [Act.put, sqA, sqB, sqC, sqD, sqE, sqF]
      refine tk 7 (by assumption) rfl (by kernel_rfl) (fun _ _ _ h => h) (fun V hV => by go_simp; try with_reducible rfl) ?_
      try simp only [Act.put, sqA, sqB, sqC, sqD, sqE, sqF]
      refine wpAnyH_done (by kernel_rfl) ?_ _
      go_wp2_with fail
      refine bodyPost_ret (v := .int .i64 (byD x y)) (by simp [results, Try.results62, go_sem]) rfl ?_
      exact ⟨rfl, by assumption⟩
theorem dSide_any (a b : Option Addr) (na ca nb cb : Nat) (w : World) : Calls Try.prog 47 #[.slice a na ca, .slice b nb cb] w fun e w' => e = .returned (.func (.func 61) #[] #[.pointer (some ⟨w.heap.size, 0, none⟩), .pointer (some ⟨w.heap.size + 1, 0, none⟩)]) ∧ w' = (w.alloc (.cells #[.slice a na ca] 22)).alloc (.cells #[.slice b nb cb] 22) := by
  go_enter Try.func47, Try.ntmps47
  go_wp2_with fail
  go_ret
  exact ⟨rfl, rfl⟩
end Go.Proofs.Ytfnmfmelcghjbaa
