/- ParseFloat at the texts of quarters. -/
import Derived.Test.YtloaajoeciajaaaDoorFlP
import Derived.Test.YtloaajoeciajaaaDoorFqV
namespace Go.Proofs.YtloaajoeciajaaaDoor
open Go.Fq Go.RowKit

/-- A text that begins with a digit is nothing special. -/
theorem special_no (s : ByteArray) (w : World) (hp : 0 < s.size) (hm : s.size ≤ maxLen) (h : 48 ≤ (s[0]'hp).toNat ∧ (s[0]'hp).toNat ≤ 57) :
    Calls Tryd.prog 64 #[.string s] w fun e w' => e = .returned (.tuple #[.float .f64 0, .int .i64 0, .bool false]) ∧ w = w' := by
  unfold maxLen at hm
  have hne : ¬ s = ByteArray.empty := by intro he; subst he; simp at hp
  have t1 : (((s[0]'hp).toNat : Int) == 43) = false := by rw [beq_eq_false_iff_ne]; omega
  have t2 : (((s[0]'hp).toNat : Int) == 45) = false := by rw [beq_eq_false_iff_ne]; omega
  have t3 : (((s[0]'hp).toNat : Int) == 105) = false := by rw [beq_eq_false_iff_ne]; omega
  have t4 : (((s[0]'hp).toNat : Int) == 73) = false := by rw [beq_eq_false_iff_ne]; omega
  have t5 : (((s[0]'hp).toNat : Int) == 110) = false := by rw [beq_eq_false_iff_ne]; omega
  have t6 : (((s[0]'hp).toNat : Int) == 78) = false := by rw [beq_eq_false_iff_ne]; omega
  clear h
  go_enter Tryd.func64, Tryd.ntmps64
  go_wp2_with fail
  go_ret3
  exact ⟨rfl, rfl⟩

set_option maxHeartbeats 400000 in
theorem exact0 (M F : Nat) (w : World) (hM : M < 4503599627370496) (hF : floatOfInt .f64 (M : Int) = F) (hi : w.cell? ⟨7, 0, none⟩ = some (.int .u64 52)) :
    Calls Tryd.prog 75 #[.int .u64 M, .int .i64 0, .bool false] w fun e w' => e = .returned (.tuple #[.float .f64 F, .bool true]) ∧ w = w' := by
  go_enter Tryd.func75, Tryd.ntmps75
  go_wp2_with fail
  go_ret2
  exact ⟨rfl, rfl⟩

set_option maxHeartbeats 400000 in
theorem exact1 (M F R b off cap : Nat) (w : World) (hM : M < 4503599627370496) (hF : floatOfInt .f64 (M : Int) = F) (hi : w.cell? ⟨7, 0, none⟩ = some (.int .u64 52))
    (hp : w.cell? ⟨12, 0, none⟩ = some (.slice (some ⟨b, off, none⟩) 23 cap)) (h1 : w.cell? ⟨b, off + 1, none⟩ = some (.float .f64 4621819117588971520))
    (hd : ∀ w, (binOp .quo 22 (.float .f64 F) (.float .f64 4621819117588971520)).run Tryd.prog w = .ok (.float .f64 R) w) :
    Calls Tryd.prog 75 #[.int .u64 M, .int .i64 (-1), .bool false] w fun e w' => e = .returned (.tuple #[.float .f64 R, .bool true]) ∧ w = w' := by
  go_enter Tryd.func75, Tryd.ntmps75
  go_wp2_with fail
  go_ret2
  exact ⟨rfl, rfl⟩
set_option maxHeartbeats 400000 in
theorem exact2 (M F R b off cap : Nat) (w : World) (hM : M < 4503599627370496) (hF : floatOfInt .f64 (M : Int) = F) (hi : w.cell? ⟨7, 0, none⟩ = some (.int .u64 52))
    (hp : w.cell? ⟨12, 0, none⟩ = some (.slice (some ⟨b, off, none⟩) 23 cap)) (h1 : w.cell? ⟨b, off + 2, none⟩ = some (.float .f64 4636737291354636288))
    (hd : ∀ w, (binOp .quo 22 (.float .f64 F) (.float .f64 4636737291354636288)).run Tryd.prog w = .ok (.float .f64 R) w) :
    Calls Tryd.prog 75 #[.int .u64 M, .int .i64 (-2), .bool false] w fun e w' => e = .returned (.tuple #[.float .f64 R, .bool true]) ∧ w = w' := by
  go_enter Tryd.func75, Tryd.ntmps75
  go_wp2_with fail
  go_ret2
  exact ⟨rfl, rfl⟩

/-- The tables that ParseFloat reads. -/
structure Tabs (w : World) (b off cap : Nat) : Prop where
  info : w.cell? ⟨7, 0, none⟩ = some (.int .u64 52)
  opt : w.cell? ⟨6, 0, none⟩ = some (.bool true)
  pow : w.cell? ⟨12, 0, none⟩ = some (.slice (some ⟨b, off, none⟩) 23 cap)
  p1 : w.cell? ⟨b, off + 1, none⟩ = some (.float .f64 4621819117588971520)
  p2 : w.cell? ⟨b, off + 2, none⟩ = some (.float .f64 4636737291354636288)
theorem Tabs.later {w0 w : World} {b off cap : Nat} (h : Tabs w0 b off cap) (hb : Below w0.heap.size w0 w) : Tabs w b off cap :=
  ⟨(hb.cell (block_lt h.info)).trans h.info, (hb.cell (block_lt h.opt)).trans h.opt, (hb.cell (block_lt h.pow)).trans h.pow, (hb.cell (block_lt h.p1)).trans h.p1, (hb.cell (block_lt h.p2)).trans h.p2⟩

theorem x_from2 (b : Int) (w : World) : (callFunc 74 #[.int .u64 b]).run Tryd.prog w = .ok (.value (.float .f64 b.toNat)) w := by
  rw [run_callFunc_extern Tryd.func74 (by kernel_rfl) (by kernel_rfl) (by kernel_rfl) (e := Extern.MathFloatBits.float64frombits) (by kernel_rfl)]; rfl

/-- What the number and the exponent of a text come to. -/
def Reads (w : World) (M : Nat) (E : Int) (R : Nat) : Prop :=
  (M = 0 ∧ R = 0) ∨ (M ≠ 0 ∧ -345 ≤ E ∧ E ≤ 310 ∧ Calls Tryd.prog 75 #[.int .u64 M, .int .i64 E, .bool false] w fun e w' => e = .returned (.tuple #[.float .f64 R, .bool true]) ∧ w = w')

set_option maxRecDepth 100000 in
set_option maxHeartbeats 1000000 in
theorem atof_text (s : ByteArray) (M : Nat) (E : Int) (R b off cap : Nat) (w : World) (ht : Tabs w b off cap) (hp : 0 < s.size) (hm : s.size ≤ maxLen) (h : 48 ≤ (s[0]'hp).toNat ∧ (s[0]'hp).toNat ≤ 57)
    (hr : Hid (Calls Tryd.prog 65 #[.string s] w fun e w' => e = .returned (.tuple #[.int .u64 M, .int .i64 E, .bool false, .bool false, .bool false, .int .i64 s.size, .bool true]) ∧ ∃ n, w' = w.drewN n))
    (he : ∀ n, Reads (w.drewN n) M E R) :
    Calls Tryd.prog 56 #[.string s] w fun e w' => e = .returned (.tuple #[.float .f64 R, .int .i64 s.size, .nilIface]) ∧ ∃ n, w' = w.drewN n := by
  have HS := Lib.hid (special_no s w hp hm h)
  have HE := Lib.hid he
  have x := x_from2
  have ho := ht.opt
  have hor : bits .or .u64 0 0 = 0 := by decide +kernel
  have he0 := he 0
  clear h ht he hm
  rcases he0 with ⟨rfl, rfl⟩ | ⟨hM, e1, e2, _⟩
  · go_enter Tryd.func56, Tryd.ntmps56
    go_wp2_with (first | (go_at_call 64; refine HS.out.mono ?_; rintro e w' ⟨rfl, rfl⟩) | (go_at_call 65; refine hr.out.mono ?_; rintro e w' ⟨rfl, n, rfl⟩) | go_in)
    go_ret3
    exact ⟨rfl, n, rfl⟩
  · have hM' : ((M : Int) == 0) = false := by rw [beq_eq_false_iff_ne]; omega
    have HX : Hid (∀ n, Calls Tryd.prog 75 #[.int .u64 M, .int .i64 E, .bool false] (w.drewN n) fun e w' => e = .returned (.tuple #[.float .f64 R, .bool true]) ∧ w.drewN n = w') := Lib.hid (fun n => by
      rcases HE.out n with ⟨h0, _⟩ | ⟨_, _, _, hc⟩
      · exact absurd h0 hM
      · exact hc)
    have d1 : ¬ (310 < E) := by omega
    have d2 : ¬ (E < -345) := by omega
    go_enter Tryd.func56, Tryd.ntmps56
    go_wp2_with (first | (go_at_call 64; refine HS.out.mono ?_; rintro e w' ⟨rfl, rfl⟩) | (go_at_call 65; refine hr.out.mono ?_; rintro e w' ⟨rfl, n, rfl⟩) | (go_at_call 75; refine (HX.out _).mono ?_; rintro e w' ⟨rfl, rfl⟩) | go_in)
    go_ret3
    exact ⟨rfl, n, rfl⟩

set_option maxHeartbeats 1000000 in
theorem prefix_text (s : ByteArray) (R n0 : Nat) (w : World)
    (ha : Hid (Calls Tryd.prog 56 #[.string s] w fun e w' => e = .returned (.tuple #[.float .f64 R, .int .i64 n0, .nilIface]) ∧ ∃ n, w' = w.drewN n)) :
    Calls Tryd.prog 44 #[.string s, .int .i64 64] w fun e w' => e = .returned (.tuple #[.float .f64 R, .int .i64 n0, .nilIface]) ∧ ∃ n, w' = w.drewN n := by
  go_enter Tryd.func44, Tryd.ntmps44
  go_wp2_with (go_at_call 56; refine ha.out.mono ?_; rintro e w' ⟨rfl, n, rfl⟩)
  go_ret3
  exact ⟨rfl, n, rfl⟩
set_option maxHeartbeats 1000000 in
theorem parseFloat_text (s : ByteArray) (R : Nat) (w : World) (hs : s.size ≤ 100)
    (ha : Hid (Calls Tryd.prog 56 #[.string s] w fun e w' => e = .returned (.tuple #[.float .f64 R, .int .i64 s.size, .nilIface]) ∧ ∃ n, w' = w.drewN n)) :
    Calls Tryd.prog 23 #[.string s, .int .i64 64] w fun e w' => e = .returned (.tuple #[.float .f64 R, .nilIface]) ∧ ∃ n, w' = w.drewN n := by
  have hsz : s.size ≤ maxLen := by unfold maxLen; omega
  have hp := Lib.hid (prefix_text s R s.size w ha)
  go_enter Tryd.func23, Tryd.ntmps23
  go_wp2_with (first | (go_at_call 44; refine hp.out.mono ?_; rintro e w' ⟨rfl, n, rfl⟩) | go_in)
  go_ret2
  exact ⟨rfl, n, rfl⟩

set_option maxHeartbeats 1000000 in
theorem prefix_inf (w : World) : Calls Tryd.prog 78 #[.string ⟨#[105, 110, 102]⟩, .string ⟨#[105, 110, 102, 105, 110, 105, 116, 121]⟩] w fun e w' => e = .returned (.int .i64 3) ∧ w = w' := by
  have hmin : min (8 : Int) 3 = 3 := by decide
  go_enter Tryd.func78, Tryd.ntmps78
  go_wp2
  refine wp_loop_rounds 4 ?_
  rw [rounds_succ]
  go_wp2
  rw [rounds_succ]
  go_wp2
  rw [rounds_succ]
  go_wp2
  rw [rounds_succ]
  go_wp2
  go_ret
  exact ⟨rfl, rfl⟩

set_option maxHeartbeats 1000000 in
theorem special_inf (w : World) : Calls Tryd.prog 64 #[.string ⟨#[105, 110, 102]⟩] w fun e w' => e = .returned (.tuple #[.float .f64 9218868437227405312, .int .i64 3, .bool true]) ∧ w = w' := by
  have x := x_from2
  go_enter Tryd.func64, Tryd.ntmps64
  go_wp2_with (first | (go_at_call 78; refine (prefix_inf _).mono ?_; rintro e w' ⟨rfl, rfl⟩) | go_in)
  go_ret3
  exact ⟨rfl, rfl⟩
set_option maxRecDepth 100000 in
set_option maxHeartbeats 1000000 in
theorem atof_inf (w : World) : Calls Tryd.prog 56 #[.string ⟨#[105, 110, 102]⟩] w fun e w' => e = .returned (.tuple #[.float .f64 9218868437227405312, .int .i64 3, .nilIface]) ∧ ∃ n, w' = w.drewN n := by
  go_enter Tryd.func56, Tryd.ntmps56
  go_wp2_with (go_at_call 64; refine (special_inf _).mono ?_; rintro e w' ⟨rfl, rfl⟩)
  go_ret3
  exact ⟨rfl, 0, rfl⟩
end Go.Proofs.YtloaajoeciajaaaDoor
