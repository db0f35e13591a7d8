/- How many quarters a float is: the program's walk and the document's own. -/
import Derived.Test.YtloaajoeciajaaaDoorFlW
import Derived.Test.YtloaajoeciajaaaDoorFqT
namespace Go.Proofs.YtloaajoeciajaaaDoor
open Go.Fq Go.RowKit

set_option maxHeartbeats 400000 in
theorem quarters_yes (d d4 : Nat) (n : Int) (w : World) (hd : d < 2 ^ 64) (h1 : nanB d = false) (h2 : ng d = false) (h3 : (FloatKind.f64.format.order d 4787326403894837248 == some .gt) = false) (h4 : qF d = true)
    (hm : ∀ w, (binOp .mul 22 (.float .f64 d) (.float .f64 4616189618054758400)).run Tryd.prog w = .ok (.float .f64 d4) w)
    (hc : ∀ w, (convert 22 2 (.float .f64 d4)).run Tryd.prog w = .ok (.int .i64 n) w) :
    Calls Tryd.prog 8 #[.float .f64 d] w fun e w' => e = .returned (.tuple #[.int .i64 n, .int .i64 0]) ∧ w = w' := by
  have H := Lib.hid hd; clear hd
  go_enter Tryd.func8, Tryd.ntmps8
  go_wp2_with (first | (go_at_call 18; refine (isnan _ _).mono ?_; rintro e w' ⟨rfl, rfl⟩) | (go_at_call 19; refine (signbit _ _ H.out).mono ?_; rintro e w' ⟨rfl, rfl⟩) | (go_at_call 20; refine (inq _ _ h1).mono ?_; rintro e w' ⟨rfl, rfl⟩))
  go_ret2
  exact ⟨rfl, rfl⟩
set_option maxHeartbeats 400000 in
theorem quarters_no (d : Nat) (w : World) (hd : d < 2 ^ 64) (h : toldB d = false) :
    Calls Tryd.prog 8 #[.float .f64 d] w fun e w' => e = .returned (.tuple #[.int .i64 0, .int .i64 5]) ∧ w = w' := by
  have H := Lib.hid hd; clear hd
  have HT := Lib.hid h; clear h
  cases h1 : nanB d
  · cases h2 : ng d
    · cases h3 : (FloatKind.f64.format.order d 4787326403894837248 == some .gt)
      · have h4 : qF d = false := by have := HT.out; unfold toldB at this; rw [h1, h2, h3] at this; simpa using this
        go_enter Tryd.func8, Tryd.ntmps8
        go_wp2_with (first | (go_at_call 18; refine (isnan _ _).mono ?_; rintro e w' ⟨rfl, rfl⟩) | (go_at_call 19; refine (signbit _ _ H.out).mono ?_; rintro e w' ⟨rfl, rfl⟩) | (go_at_call 20; refine (inq _ _ h1).mono ?_; rintro e w' ⟨rfl, rfl⟩))
        go_ret2
        exact ⟨rfl, rfl⟩
      · go_enter Tryd.func8, Tryd.ntmps8
        go_wp2_with (first | (go_at_call 18; refine (isnan _ _).mono ?_; rintro e w' ⟨rfl, rfl⟩) | (go_at_call 19; refine (signbit _ _ H.out).mono ?_; rintro e w' ⟨rfl, rfl⟩))
        go_ret2
        exact ⟨rfl, rfl⟩
    · go_enter Tryd.func8, Tryd.ntmps8
      go_wp2_with (first | (go_at_call 18; refine (isnan _ _).mono ?_; rintro e w' ⟨rfl, rfl⟩) | (go_at_call 19; refine (signbit _ _ H.out).mono ?_; rintro e w' ⟨rfl, rfl⟩))
      go_ret2
      exact ⟨rfl, rfl⟩
  · go_enter Tryd.func8, Tryd.ntmps8
    go_wp2_with (go_at_call 18; refine (isnan _ _).mono ?_; rintro e w' ⟨rfl, rfl⟩)
    go_ret2
    exact ⟨rfl, rfl⟩

theorem le_of_notgt (d : Nat) (h1 : nanB d = false) : (FloatKind.f64.format.order d 4787326403894837248 == some .lt || FloatKind.f64.format.order d 4787326403894837248 == some .eq) = !(FloatKind.f64.format.order d 4787326403894837248 == some .gt) := by
  rw [od_num h1 (by decide +kernel)]
  cases compare (ik d) (ik 4787326403894837248) <;> rfl

set_option maxHeartbeats 400000 in
theorem told_any (d : Nat) (w : World) (hd : d < 2 ^ 64) :
    Calls Tryd.prog 16 #[.float .f64 d] w fun e w' => e = .returned (.bool (toldB d)) ∧ w = w' := by
  have H := Lib.hid hd; clear hd
  cases h1 : nanB d
  · have HL := Lib.hid (le_of_notgt d h1)
    cases h2 : ng d
    · cases h3 : (FloatKind.f64.format.order d 4787326403894837248 == some .gt)
      · have h3' : (FloatKind.f64.format.order d 4787326403894837248 == some .lt || FloatKind.f64.format.order d 4787326403894837248 == some .eq) = true := by rw [HL.out, h3]; rfl
        have ht : toldB d = qF d := by unfold toldB; rw [h1, h2, h3]; simp
        rw [ht]; clear ht
        go_enter Tryd.func16, Tryd.ntmps16
        go_wp2_with (first | (go_at_call 29; refine (refnan _ _).mono ?_; rintro e w' ⟨rfl, rfl⟩) | (go_at_call 30; refine (refsign _ _ H.out).mono ?_; rintro e w' ⟨rfl, rfl⟩) | (go_at_call 31; refine (refq _ _ h1).mono ?_; rintro e w' ⟨rfl, rfl⟩))
        go_ret
        exact ⟨rfl, rfl⟩
      · have h3' : (FloatKind.f64.format.order d 4787326403894837248 == some .lt || FloatKind.f64.format.order d 4787326403894837248 == some .eq) = false := by rw [HL.out, h3]; rfl
        have ht : toldB d = false := by unfold toldB; rw [h1, h2, h3]; simp
        rw [ht]; clear ht h3
        go_enter Tryd.func16, Tryd.ntmps16
        go_wp2_with (first | (go_at_call 29; refine (refnan _ _).mono ?_; rintro e w' ⟨rfl, rfl⟩) | (go_at_call 30; refine (refsign _ _ H.out).mono ?_; rintro e w' ⟨rfl, rfl⟩))
        go_ret
        exact ⟨rfl, rfl⟩
    · have ht : toldB d = false := by unfold toldB; rw [h1, h2]; simp
      rw [ht]; clear ht
      go_enter Tryd.func16, Tryd.ntmps16
      go_wp2_with (first | (go_at_call 29; refine (refnan _ _).mono ?_; rintro e w' ⟨rfl, rfl⟩) | (go_at_call 30; refine (refsign _ _ H.out).mono ?_; rintro e w' ⟨rfl, rfl⟩))
      go_ret
      exact ⟨rfl, rfl⟩
  · have ht : toldB d = false := by unfold toldB; rw [h1]; simp
    rw [ht]; clear ht
    go_enter Tryd.func16, Tryd.ntmps16
    go_wp2_with (go_at_call 29; refine (refnan _ _).mono ?_; rintro e w' ⟨rfl, rfl⟩)
    go_ret
    exact ⟨rfl, rfl⟩
theorem refquarters_yes (d d4 : Nat) (n : Int) (w : World) (hd : d < 2 ^ 64) (h : toldB d = true)
    (hm : ∀ w, (binOp .mul 22 (.float .f64 d) (.float .f64 4616189618054758400)).run Tryd.prog w = .ok (.float .f64 d4) w)
    (hc : ∀ w, (convert 22 2 (.float .f64 d4)).run Tryd.prog w = .ok (.int .i64 n) w) :
    Calls Tryd.prog 9 #[.float .f64 d] w fun e w' => e = .returned (.tuple #[.int .i64 n, .int .i64 0]) ∧ w = w' := by
  have H := Lib.hid hd; clear hd
  go_enter Tryd.func9, Tryd.ntmps9
  go_wp2_with (go_at_call 16; refine (told_any _ _ H.out).mono ?_; rintro e w' ⟨rfl, rfl⟩)
  go_ret2
  exact ⟨rfl, rfl⟩
theorem refquarters_no (d : Nat) (w : World) (hd : d < 2 ^ 64) (h : toldB d = false) :
    Calls Tryd.prog 9 #[.float .f64 d] w fun e w' => e = .returned (.tuple #[.int .i64 0, .int .i64 5]) ∧ w = w' := by
  have H := Lib.hid hd; clear hd
  go_enter Tryd.func9, Tryd.ntmps9
  go_wp2_with (go_at_call 16; refine (told_any _ _ H.out).mono ?_; rintro e w' ⟨rfl, rfl⟩)
  go_ret2
  exact ⟨rfl, rfl⟩
end Go.Proofs.YtloaajoeciajaaaDoor
