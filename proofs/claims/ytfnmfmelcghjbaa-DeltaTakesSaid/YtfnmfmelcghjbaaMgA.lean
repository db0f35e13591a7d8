/- Messages, the program: numbers, names, distances, one News. Messages, the document: numbers, distances, one News. Messages, the program: packets. Messages: lists of News, program and document. Messages, the document: is a packet the zero one. -/
import Derived.Test.YtfnmfmelcghjbaaFl1
import Derived.Test.YtfnmfmelcghjbaaIdA
import Derived.Test.YtfnmfmelcghjbaaMqA
import Derived.Below
import Derived.LoopTactic
import Derived.Handy
import Derived.Deep.RegionHeld3
import Derived.Deep.RegionWith
section
namespace Go.Proofs.Ytfnmfmelcghjbaa
open Go.Fq Go.RowKit Go.Mq
open Go.Iq (idE nameE)
set_option linter.unusedVariables false
set_option linter.unusedSimpArgs false
set_option maxRecDepth 100000

theorem isinfP (a : Nat) (w : World) : Calls Try.prog 44 #[.float .f64 a, .int .i64 1] w fun e w' => e = .returned (.bool (infP a)) ∧ w = w' := by
  go_enter Try.func44, Try.ntmps44
  go_wp2_with fail
  go_ret
  exact ⟨rfl, rfl⟩
theorem mNum_any (n : Int) (w : World) : Calls Try.prog 85 #[.int .i64 n] w fun e w' => e = .returned (.bool (numB n)) ∧ w = w' := by
  go_enter Try.func85, Try.ntmps85
  go_wp2_with (go_at_call 93; refine (checkId_any _ _).mono ?_; rintro e w' ⟨rfl, rfl⟩)
  go_ret
  exact ⟨rfl, rfl⟩
theorem mNone_any (n : Int) (w : World) : Calls Try.prog 86 #[.int .i64 n] w fun e w' => e = .returned (.bool (n == 0 || numB n)) ∧ w = w' := by
  go_enter Try.func86, Try.ntmps86
  go_wp2_with (go_at_call 85; refine (mNum_any _ _).mono ?_; rintro e w' ⟨rfl, rfl⟩)
  all_goals (go_ret; exact ⟨ret_bool (by simp [*]), rfl⟩)
theorem mName_any (s : ByteArray) (hs : s.size ≤ 9223372036854775807) (w : World) : Calls Try.prog 95 #[.string s] w fun e w' => e = .returned (.bool (namB s)) ∧ w = w' := by
  have H := Lib.hid hs; clear hs
  go_enter Try.func95, Try.ntmps95
  go_wp2_with (go_at_call 99; refine (checkName_any _ _ H.out).mono ?_; rintro e w' ⟨rfl, rfl⟩)
  go_ret
  exact ⟨rfl, rfl⟩
theorem mDist_any (d : Nat) (hd : d < 2 ^ 64) (w : World) : Calls Try.prog 89 #[.float .f64 d] w fun e w' => e = .returned (.bool (farB d)) ∧ w = w' := by
  have H := Lib.hid hd; clear hd
  go_enter Try.func89, Try.ntmps89
  go_wp2_with (go_at_call 98; refine (dist_any _ _ _ H.out (by omega)).mono ?_; rintro e w' ⟨rfl, rfl⟩)
  go_ret
  exact ⟨rfl, rfl⟩
theorem mFar_any (d : Nat) (w : World) : Calls Try.prog 91 #[.float .f64 d] w fun e w' => e = .returned (.bool (infP d)) ∧ w = w' := by
  go_enter Try.func91, Try.ntmps91
  go_wp2_with (go_at_call 44; refine (isinfP _ _).mono ?_; rintro e w' ⟨rfl, rfl⟩)
  go_ret
  exact ⟨rfl, rfl⟩
/-- News as a value. -/
abbrev nwV (n : Nw) : Value := .agg #[.int .i64 n.dest, .int .i64 n.kind, .float .f64 n.dist, .float .f64 n.radius, .int .i64 n.home]
abbrev nwO (n : Nw) : Obj := .cells #[.int .i64 n.dest, .int .i64 n.kind, .float .f64 n.dist, .float .f64 n.radius, .int .i64 n.home] 63
theorem below_al (W : World) (o : Obj) : Below W.heap.size W (W.alloc o) := (Below.refl _ W).alloc (Nat.le_refl _) o
theorem below_nx {W w w' : World} (h : Below W.heap.size W w) (k : Below w.heap.size w w') : Below W.heap.size W w' := h.trans (k.mono h.size)
theorem mNoHome_any (n : Nw) (w : World) : Calls Try.prog 90 #[nwV n] w fun e w' => e = .returned (.bool (noHome n)) ∧ Below w.heap.size w w' := by
  have e := x_bits
  go_enter Try.func90, Try.ntmps90
  go_wp2_with fail
  all_goals (go_ret; exact ⟨ret_bool (by simp [noHome, *]), below_al _ _⟩)
theorem mItsHome_any (n : Nw) (hr : n.radius < 2 ^ 64) (w : World) : Calls Try.prog 92 #[nwV n] w fun e w' => e = .returned (.bool (itsHome n)) ∧ Below w.heap.size w w' := by
  have H := Lib.hid hr; clear hr
  go_enter Try.func92, Try.ntmps92
  go_wp2_with (first | (go_at_call 91; refine (mFar_any _ _).mono ?_; rintro e w' ⟨rfl, rfl⟩) | (go_at_call 89; refine (mDist_any _ H.out _).mono ?_; rintro e w' ⟨rfl, rfl⟩) | (go_at_call 85; refine (mNum_any _ _).mono ?_; rintro e w' ⟨rfl, rfl⟩))
  all_goals (go_ret; exact ⟨ret_bool (by simp [itsHome, *]), below_al _ _⟩)
/-- News in a block. -/
structure Nw5 (w : World) (b : Nat) (n : Nw) : Prop where
  c0 : w.cell? ⟨b, 0, none⟩ = some (.int .i64 n.dest)
  c1 : w.cell? ⟨b, 1, none⟩ = some (.int .i64 n.kind)
  c2 : w.cell? ⟨b, 2, none⟩ = some (.float .f64 n.dist)
  c3 : w.cell? ⟨b, 3, none⟩ = some (.float .f64 n.radius)
  c4 : w.cell? ⟨b, 4, none⟩ = some (.int .i64 n.home)
theorem Nw5.first (w : World) (n : Nw) : Nw5 (w.alloc (nwO n)) w.heap.size n := ⟨by simp [go_sem], by simp [go_sem], by simp [go_sem], by simp [go_sem], by simp [go_sem]⟩
theorem Nw5.next {w w' : World} {b : Nat} {n : Nw} (h : Nw5 w b n) (k : Below w.heap.size w w') (hb : b < w.heap.size) : Nw5 w' b n :=
  ⟨(k.cell (p := ⟨b, 0, none⟩) hb).trans h.c0, (k.cell (p := ⟨b, 1, none⟩) hb).trans h.c1, (k.cell (p := ⟨b, 2, none⟩) hb).trans h.c2, (k.cell (p := ⟨b, 3, none⟩) hb).trans h.c3, (k.cell (p := ⟨b, 4, none⟩) hb).trans h.c4⟩
set_option maxHeartbeats 1000000 in
theorem mNews_any (n : Nw) (hf : n.Fit) (w : World) : Calls Try.prog 83 #[nwV n] w fun e w' => e = .returned (.bool (newsB n)) ∧ Below w.heap.size w w' := by
  have HX := Lib.hid hf.x
  have HR := Lib.hid hf.r
  clear hf
  go_enter Try.func83, Try.ntmps83
  go_wp2_with (first | (go_at_call 91; refine (mFar_any _ _).mono ?_; rintro e w' ⟨rfl, rfl⟩) | (go_at_call 89; refine (mDist_any _ HX.out _).mono ?_; rintro e w' ⟨rfl, rfl⟩) | (go_at_call 85; refine (mNum_any _ _).mono ?_; rintro e w' ⟨rfl, rfl⟩) | (go_at_call 90; refine (mNoHome_any _ _).mono ?_; rintro e w3 ⟨rfl, hb3⟩; obtain ⟨y0, y1, y2, y3, y4⟩ := (Nw5.first w n).next hb3 (by simp)) | (go_at_call 92; refine (mItsHome_any _ HR.out _).mono ?_; rintro e w4 ⟨rfl, hb4⟩))
  all_goals ((try simp only [Bool.not_eq_true', Bool.not_eq_false'] at *); go_ret; refine ⟨ret_bool (by simp [newsB, *]), ?_⟩; first | exact below_al _ _ | exact below_nx (below_al _ _) hb3 | exact below_nx (below_al _ _) hb4 | exact below_nx (below_nx (below_al _ _) hb3) hb4)
end Go.Proofs.Ytfnmfmelcghjbaa
end

section
namespace Go.Proofs.Ytfnmfmelcghjbaa
open Go.Fq Go.RowKit Go.Mq
open Go.Iq (idE nameE)
set_option linter.unusedVariables false
set_option linter.unusedSimpArgs false
set_option maxRecDepth 100000

theorem rNum_any (n : Int) (w : World) : Calls Try.prog 68 #[.int .i64 n] w fun e w' => e = .returned (.bool (numB n)) ∧ w = w' := by
  go_enter Try.func68, Try.ntmps68
  go_wp2_with (go_at_call 73; refine (refcheckId_any _ _).mono ?_; rintro e w' ⟨rfl, rfl⟩)
  go_ret
  exact ⟨rfl, rfl⟩
theorem rZero_any (a : Nat) (w : World) : Calls Try.prog 70 #[.float .f64 a] w fun e w' => e = .returned (.bool ((a : Int) == 0)) ∧ w = w' := by
  have e := x_bits
  go_enter Try.func70, Try.ntmps70
  go_wp2
  go_ret
  exact ⟨rfl, rfl⟩
theorem rFarR_any (a : Nat) (w : World) : Calls Try.prog 69 #[.float .f64 a] w fun e w' => e = .returned (.bool (farR a)) ∧ w = w' := by
  have e := x_bits
  cases hn : nanB a with
  | true =>
    have h1 : infP a = false := infP_nan hn
    have h3 : (FloatKind.f64.format.order a 0 == some .gt) = false := by rw [cmp_gt, hn]; rfl
    go_enter Try.func69, Try.ntmps69
    go_wp2_with (go_at_call 44; refine (isinfP _ _).mono ?_; rintro e w' ⟨rfl, rfl⟩)
    all_goals (go_ret; exact ⟨ret_bool (by simp [farR, *]), rfl⟩)
  | false =>
    have e2 := run_mul4 (P := Try.prog) a hn
    have hm := Lib.hid (mul4_some a hn).2
    clear hn
    go_enter Try.func69, Try.ntmps69
    go_wp2_with (first | (go_at_call 44; refine (isinfP _ _).mono ?_; rintro e w' ⟨rfl, rfl⟩) | (go_at_call 74; refine (trunc_any _ _ hm.out).mono ?_; rintro e w' ⟨rfl, rfl⟩))
    all_goals (go_ret; exact ⟨ret_bool (by simp [farR, qR, *]), rfl⟩)
theorem rFar_any (a : Nat) (ha : a < 2 ^ 64) (w : World) : Calls Try.prog 69 #[.float .f64 a] w fun e w' => e = .returned (.bool (farB a)) ∧ w = w' := by
  rw [← far_eq a ha]; exact rFarR_any a w
set_option maxHeartbeats 1000000 in
theorem rMay_any (n : Nw) (hf : n.Fit) (w : World) : Calls Try.prog 56 #[nwV n] w fun e w' => e = .returned (.bool (newsB n)) ∧ Below w.heap.size w w' := by
  have HX := Lib.hid hf.x
  have HR := Lib.hid hf.r
  clear hf
  go_enter Try.func56, Try.ntmps56
  go_wp2_with (first | (go_at_call 44; refine (isinfP _ _).mono ?_; rintro e w' ⟨rfl, rfl⟩) | (go_at_call 69; first | (with_reducible refine (rFar_any _ HX.out _).mono ?_; rintro e w' ⟨rfl, rfl⟩) | (with_reducible refine (rFar_any _ HR.out _).mono ?_; rintro e w' ⟨rfl, rfl⟩)) | (go_at_call 68; refine (rNum_any _ _).mono ?_; rintro e w' ⟨rfl, rfl⟩) | (go_at_call 70; refine (rZero_any _ _).mono ?_; rintro e w' ⟨rfl, rfl⟩))
  all_goals ((try simp only [Bool.not_eq_true', Bool.not_eq_false'] at *); go_ret; refine ⟨ret_bool ?_, below_al _ _⟩)
  all_goals (first | (simp [newsB, noHome, itsHome, *]; done) | (simp_all [newsB, noHome, itsHome, bne]; done) | skip)
end Go.Proofs.Ytfnmfmelcghjbaa
end

section
namespace Go.Proofs.Ytfnmfmelcghjbaa
open Go.Fq Go.RowKit Go.Mq
open Go.Iq (idE nameE)
set_option linter.unusedVariables false
set_option linter.unusedSimpArgs false
set_option maxRecDepth 100000

/-- A box of twelve cells, behind a call. -/
theorem box12 {w w' : World} {v0 v1 v2 v3 v4 v5 v6 v7 v8 v9 v10 v11 : Value} {t : TypeId} (k : Below (w.alloc (.cells #[v0, v1, v2, v3, v4, v5, v6, v7, v8, v9, v10, v11] t)).heap.size (w.alloc (.cells #[v0, v1, v2, v3, v4, v5, v6, v7, v8, v9, v10, v11] t)) w') :
    w'.cell? ⟨w.heap.size, 0, none⟩ = some v0 ∧ w'.cell? ⟨w.heap.size, 1, none⟩ = some v1 ∧ w'.cell? ⟨w.heap.size, 2, none⟩ = some v2 ∧ w'.cell? ⟨w.heap.size, 3, none⟩ = some v3 ∧ w'.cell? ⟨w.heap.size, 4, none⟩ = some v4 ∧ w'.cell? ⟨w.heap.size, 5, none⟩ = some v5 ∧
    w'.cell? ⟨w.heap.size, 6, none⟩ = some v6 ∧ w'.cell? ⟨w.heap.size, 7, none⟩ = some v7 ∧ w'.cell? ⟨w.heap.size, 8, none⟩ = some v8 ∧ w'.cell? ⟨w.heap.size, 9, none⟩ = some v9 ∧ w'.cell? ⟨w.heap.size, 10, none⟩ = some v10 ∧ w'.cell? ⟨w.heap.size, 11, none⟩ = some v11 := by
  have hb : w.heap.size < (w.alloc (.cells #[v0, v1, v2, v3, v4, v5, v6, v7, v8, v9, v10, v11] t)).heap.size := by simp
  refine ⟨(k.cell (p := ⟨w.heap.size, 0, none⟩) hb).trans ?_, (k.cell (p := ⟨w.heap.size, 1, none⟩) hb).trans ?_, (k.cell (p := ⟨w.heap.size, 2, none⟩) hb).trans ?_, (k.cell (p := ⟨w.heap.size, 3, none⟩) hb).trans ?_, (k.cell (p := ⟨w.heap.size, 4, none⟩) hb).trans ?_, (k.cell (p := ⟨w.heap.size, 5, none⟩) hb).trans ?_,
    (k.cell (p := ⟨w.heap.size, 6, none⟩) hb).trans ?_, (k.cell (p := ⟨w.heap.size, 7, none⟩) hb).trans ?_, (k.cell (p := ⟨w.heap.size, 8, none⟩) hb).trans ?_, (k.cell (p := ⟨w.heap.size, 9, none⟩) hb).trans ?_, (k.cell (p := ⟨w.heap.size, 10, none⟩) hb).trans ?_, (k.cell (p := ⟨w.heap.size, 11, none⟩) hb).trans ?_⟩ <;> simp [go_sem]
theorem mAddr_any (kd fr bk tw hm hp : Int) (sr : Nat) (cd : Int) (nm : ByteArray) (id at_ : Int) (bd : ByteArray) (w : World) : Calls Try.prog 96 #[.agg #[.int .i64 kd, .int .i64 fr, .int .i64 bk, .int .i64 tw, .int .i64 hm, .int .i64 hp, .int .u64 (sr : Int), .int .i64 cd, .string nm, .int .i64 id, .int .i64 at_, .string bd]] w fun e w' => e = .returned (.bool (numB id && (at_ == 0 || numB at_))) ∧ Below w.heap.size w w' := by
  go_enter Try.func96, Try.ntmps96
  go_wp2_with (first | (go_at_call 85; refine (mNum_any _ _).mono ?_; rintro e w' ⟨rfl, rfl⟩) | (go_at_call 86; refine (mNone_any _ _).mono ?_; rintro e w' ⟨rfl, rfl⟩))
  all_goals (go_ret; exact ⟨ret_bool (by simp [*]), below_al _ _⟩)
theorem mNoAddr_any (kd fr bk tw hm hp : Int) (sr : Nat) (cd : Int) (nm : ByteArray) (id at_ : Int) (bd : ByteArray) (w : World) : Calls Try.prog 94 #[.agg #[.int .i64 kd, .int .i64 fr, .int .i64 bk, .int .i64 tw, .int .i64 hm, .int .i64 hp, .int .u64 (sr : Int), .int .i64 cd, .string nm, .int .i64 id, .int .i64 at_, .string bd]] w fun e w' => e = .returned (.bool (id == 0 && at_ == 0)) ∧ Below w.heap.size w w' := by
  go_enter Try.func94, Try.ntmps94
  go_wp2_with fail
  all_goals (go_ret; exact ⟨ret_bool (by simp [*]), below_al _ _⟩)
set_option maxHeartbeats 1000000 in
theorem mAns_any (kd fr bk tw hm hp : Int) (sr : Nat) (cd : Int) (nm : ByteArray) (id at_ : Int) (bd : ByteArray) (w : World) : Calls Try.prog 97 #[.agg #[.int .i64 kd, .int .i64 fr, .int .i64 bk, .int .i64 tw, .int .i64 hm, .int .i64 hp, .int .u64 (sr : Int), .int .i64 cd, .string nm, .int .i64 id, .int .i64 at_, .string bd]] w fun e w' => e = .returned (.bool ((cd == 0 && (numB id && (at_ == 0 || numB at_))) || (cd == 1 && (id == 0 && at_ == 0)))) ∧ Below w.heap.size w w' := by
  have HA := Lib.hid (mAddr_any kd fr bk tw hm hp sr cd nm id at_ bd)
  have HN := Lib.hid (mNoAddr_any kd fr bk tw hm hp sr cd nm id at_ bd)
  generalize (numB id && (at_ == 0 || numB at_)) = A at *
  generalize (id == 0 && at_ == 0) = B at *
  cases h0 : (cd == 0) <;> cases h1 : (cd == 1) <;> cases A <;> cases B
  all_goals (go_enter Try.func97, Try.ntmps97)
  all_goals (go_wp2_with (first | (go_at_call 96; refine (HA.out _).mono ?_; rintro e w3 ⟨rfl, hb3⟩; obtain ⟨y0, y1, y2, y3, y4, y5, y6, y7, y8, y9, y10, y11⟩ := box12 hb3) | (go_at_call 94; refine (HN.out _).mono ?_; rintro e w4 ⟨rfl, hb4⟩)))
  all_goals (go_ret; refine ⟨ret_bool ?_, ?_⟩)
  all_goals (first | exact below_al _ _ | exact below_nx (below_al _ _) hb3 | exact below_nx (below_al _ _) hb4 | exact below_nx (below_nx (below_al _ _) hb3) hb4 | rfl | (simp [*]; done) | skip)
end Go.Proofs.Ytfnmfmelcghjbaa
end

section
namespace Go.Proofs.Ytfnmfmelcghjbaa
open Go.Fq Go.RowKit Go.Mq
open Go.Iq (idE nameE)
set_option linter.unusedVariables false
set_option linter.unusedSimpArgs false
set_option maxRecDepth 100000

theorem n_store (a : Addr) (n : Nat) (m : Mode) (w : World) : (store a (.float .f64 n) m).run Try.prog w = stored Try.prog w a (.float .f64 n) m := run_store Try.prog w a _ m rfl
abbrev nwA (d k : Int) (x r : Nat) (h : Int) : Value := .agg #[.int .i64 d, .int .i64 k, .float .f64 x, .float .f64 r, .int .i64 h]
theorem mAhead_any (d k : Int) (x r : Nat) (h d' k' : Int) (x' r' : Nat) (h' : Int) (w : World) : Calls Try.prog 84 #[nwA d k x r h, nwA d' k' x' r' h'] w fun e w' => e = .returned (.bool (if k == k' then decide (d < d') else decide (k < k'))) ∧ Below w.heap.size w w' := by
  cases h0 : (k == k')
  · go_enter Try.func84, Try.ntmps84
    go_wp2_with fail
    all_goals (go_ret; exact ⟨ret_bool (by simp), ((Below.refl _ w).alloc (Nat.le_refl _) _).alloc (by simp) _⟩)
  · go_enter Try.func84, Try.ntmps84
    go_wp2_with fail
    all_goals (go_ret; exact ⟨ret_bool (by simp), ((Below.refl _ w).alloc (Nat.le_refl _) _).alloc (by simp) _⟩)
theorem rBefore_any (d k : Int) (x r : Nat) (h d' k' : Int) (x' r' : Nat) (h' : Int) (w : World) : Calls Try.prog 57 #[nwA d k x r h, nwA d' k' x' r' h'] w fun e w' => e = .returned (.bool (if k == k' then decide (d < d') else decide (k < k'))) ∧ Below w.heap.size w w' := by
  rcases Int.lt_trichotomy k k' with hlt | heq | hgt
  · have h0 : (k == k') = false := by rw [beq_eq_false_iff_ne]; omega
    have h1 : decide (k < k') = true := decide_eq_true hlt
    rw [h0, h1]
    go_enter Try.func57, Try.ntmps57
    go_wp2_with fail
    all_goals (go_ret; exact ⟨ret_bool (by simp), ((Below.refl _ w).alloc (Nat.le_refl _) _).alloc (by simp) _⟩)
  · subst heq
    have h0 : (k == k) = true := beq_self_eq_true _
    have h1 : decide (k < k) = false := by simp
    cases h2 : decide (d < d')
    all_goals
      go_enter Try.func57, Try.ntmps57
      go_wp2_with fail
      all_goals (go_ret; exact ⟨ret_bool (by simp [*]), ((Below.refl _ w).alloc (Nat.le_refl _) _).alloc (by simp) _⟩)
  · have h0 : (k == k') = false := by rw [beq_eq_false_iff_ne]; omega
    have h1 : decide (k < k') = false := decide_eq_false (by omega)
    rw [h0, h1]
    go_enter Try.func57, Try.ntmps57
    go_wp2_with fail
    all_goals (go_ret; exact ⟨ret_bool (by simp), ((Below.refl _ w).alloc (Nat.le_refl _) _).alloc (by simp) _⟩)
end Go.Proofs.Ytfnmfmelcghjbaa
end

section
namespace Go.Proofs.Ytfnmfmelcghjbaa
open Go.Fq Go.RowKit Go.Mq
open Go.Iq (idE nameE)
set_option linter.unusedVariables false
set_option linter.unusedSimpArgs false
set_option maxRecDepth 100000

end Go.Proofs.Ytfnmfmelcghjbaa
end
