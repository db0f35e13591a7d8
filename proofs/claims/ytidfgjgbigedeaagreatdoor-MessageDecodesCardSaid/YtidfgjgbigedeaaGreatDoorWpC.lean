/- The program's parse, CheckShape. -/
import Derived.Test.YtidfgjgbigedeaaGreatDoorWpB
import Derived.Test.YtidfgjgbigedeaaGreatDoorWpR
import Derived.Test.YtidfgjgbigedeaaGreatDoorWrA
namespace Go.Proofs.YtidfgjgbigedeaaGreatDoor
open Go.RowKit Go.Lib Go.Wq
set_option linter.unusedVariables false
set_option linter.unusedSimpArgs false
set_option maxRecDepth 100000

/-- How parse ends. -/
def ParseEnds (s : ByteArray) (w : World) (e : Ending) (w' : World) : Prop :=
  match Go.Wq.shape s.data.toList with
  | some l => ∃ (a : Option Addr) (c : Nat), e = .returned (.slice a l.length c) ∧ ItsZ w' (fun k => w.heap.size ≤ k ∧ k < w'.heap.size) l a l.length ∧ Below w.heap.size w w'
  | none => Dies 40 0 w e w' ∧ Below w.heap.size w w'
theorem parse_none {s : ByteArray} {w w' : World} {e : Ending} (hx : Go.Wq.shape s.data.toList = none) (hd : Dies 40 0 w e w') (hb : Below w.heap.size w w') : ParseEnds s w e w' := by
  unfold ParseEnds; rw [hx]; exact ⟨hd, hb⟩

set_option maxHeartbeats 4000000 in
theorem parse_any (s : ByteArray) (hs : s.size ≤ 281474976710656) (w : World) : Calls Tryz.prog 35 #[.string s] w fun e w' => ParseEnds s w e w' := by
  have hsl : s.data.toList.length = s.size := by rw [Array.length_toList]; rfl
  by_cases hbig : 256 < s.size
  · have HN : Hid (Go.Wq.shape s.data.toList = none) := Lib.hid (by unfold Go.Wq.shape; rw [if_pos (by omega)])
    have hbi : decide (s.size ≤ 256) = false := by simp; omega
    have hbj : decide ((s.size : Int) ≤ 256) = false := by simp; omega
    clear hsl
    go_enter Tryz.func35, Tryz.ntmps35
    go_wp2_with fail
    first | rw [hbi] | rw [hbj] | skip
    refine (checkShape_bad _).mono ?_
    rintro e w3 ⟨⟨pb, rfl, hd1⟩, hb3⟩
    go_wp2_with fail
    refine ⟨rfl, ?_⟩
    exact parse_none HN.out ⟨pb, rfl, hd1⟩ hb3
  · have hbi : (s.size : Int) ≤ 256 := by omega
    have HI := itemsAt_all s (by omega) s.size 0 0 (by omega) (by omega) (by omega)
    have hpr : prs 0 (s.data.toList.drop 0) = parse (s.data.toList.length + 1) 0 s.data.toList := rfl
    cases hx : prs 0 (s.data.toList.drop 0) with
    | none =>
      have HN : Hid (Go.Wq.shape s.data.toList = none) := Lib.hid (by unfold Go.Wq.shape; rw [if_neg (by omega), ← hpr, hx])
      have HR : Hid (∀ w, Calls Tryz.prog 64 #[.string s, .int .i64 0, .int .i64 0] w fun e w' => Dies 40 0 w e w' ∧ Below w.heap.size w w') := Lib.hid (fun w => (HI w).mono (fun e w' h => by rw [hx] at h; exact h))
      clear HI hx hpr hsl
      go_enter Tryz.func35, Tryz.ntmps35
      go_wp2_with fail
      refine (checkShape_ok _).mono ?_
      rintro e w3 ⟨rfl, rfl⟩
      go_wp2_with fail
      refine (HR.out _).mono ?_
      rintro e w3 ⟨⟨pb, rfl, hd1⟩, hb3⟩
      have HD := Lib.hid hd1
      have HB3 := Lib.hid hb3
      clear hd1 hb3
      go_wp2_with fail
      refine ⟨rfl, ?_⟩
      exact parse_none HN.out ⟨pb, rfl, HD.out⟩ HB3.out
    | some y =>
      obtain ⟨l, q⟩ := y
      obtain ⟨pre, hpre, hq⟩ := prs_left hx
      have hql := congrArg List.length hpre
      rw [drop_len, List.length_append] at hql
      have HR0 : Hid (∀ w, Calls Tryz.prog 64 #[.string s, .int .i64 0, .int .i64 0] w fun e w' => ∃ (a : Option Addr) (c : Nat), e = .returned (.tuple #[.slice a l.length c, .int .i64 ((s.size - q.length : Nat) : Int)]) ∧ ItsZ w' (fun k => w.heap.size ≤ k ∧ k < w'.heap.size) l a l.length ∧ Below w.heap.size w w') := Lib.hid (fun w => (HI w).mono (fun e w' h => by rw [hx] at h; obtain ⟨a, c, h1, h2, h3⟩ := h; have hE : (s.size : Int) - (q.length : Int) = ((s.size - q.length : Nat) : Int) := (by omega); rw [hE] at h1; exact ⟨a, c, h1, h2, h3⟩))
      cases q with
      | nil =>
        have HN : Hid (Go.Wq.shape s.data.toList = some l) := Lib.hid (by unfold Go.Wq.shape; rw [if_neg (by omega), ← hpr, hx])
        simp only [List.length_nil, Nat.sub_zero] at HR0
        clear HI hx hpr hsl hpre hq hql
        go_enter Tryz.func35, Tryz.ntmps35
        go_wp2_with fail
        refine (checkShape_ok _).mono ?_
        rintro e w3 ⟨rfl, rfl⟩
        go_wp2_with fail
        refine (HR0.out _).mono ?_
        rintro e w3 ⟨xa, xc, rfl, hi3, hb3⟩
        have HI3 := Lib.hid hi3
        have HB3 := Lib.hid hb3
        clear hi3 hb3
        go_wp2_with fail
        first | refine (checkShape_ok _).mono ?_ | (simp only [beq_self_eq_true]; refine (checkShape_ok _).mono ?_)
        rintro e w4 ⟨rfl, rfl⟩
        go_wp2_with fail
        go_ret
        unfold ParseEnds
        rw [HN.out]
        exact ⟨xa, xc, rfl, HI3.out, HB3.out⟩
      | cons c' r' =>
        have HN : Hid (Go.Wq.shape s.data.toList = none) := Lib.hid (by unfold Go.Wq.shape; rw [if_neg (by omega), ← hpr, hx])
        simp only [List.length_cons] at hql
        have hne : (((s.size - (c' :: r').length : Nat) : Int) == (s.size : Int)) = false := by simp only [List.length_cons]; simp; omega
        generalize s.size - (c' :: r').length = en at *
        clear HI hx hpr hsl hpre hq hql
        go_enter Tryz.func35, Tryz.ntmps35
        go_wp2_with fail
        refine (checkShape_ok _).mono ?_
        rintro e w3 ⟨rfl, rfl⟩
        go_wp2_with fail
        refine (HR0.out _).mono ?_
        rintro e w3 ⟨xa, xc, rfl, hi3, hb3⟩
        have HB3 := Lib.hid hb3
        clear hi3 hb3
        go_wp2_with fail
        try rw [hne]
        refine (checkShape_bad _).mono ?_
        rintro e w4 ⟨⟨pb, rfl, hd1⟩, hb4⟩
        have HD := Lib.hid hd1
        have HB4 := Lib.hid hb4
        clear hd1 hb4
        go_wp2_with fail
        refine ⟨rfl, ?_⟩
        exact parse_none HN.out ⟨pb, rfl, Nat.le_trans HB3.out.size HD.out.1, HD.out.2⟩ (HB3.out.trans (HB4.out.mono HB3.out.size))

end Go.Proofs.YtidfgjgbigedeaaGreatDoor
