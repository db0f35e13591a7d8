/- The reference's shaped, CheckShape. -/
import Derived.Test.YtgikdmognolmoaaDoorWrD
import Derived.Test.YtgikdmognolmoaaDoorWrF
namespace Go.Proofs.YtgikdmognolmoaaDoor
open Go.RowKit Go.Lib Go.Wq
set_option linter.unusedVariables false
set_option linter.unusedSimpArgs false
set_option maxRecDepth 100000

theorem shaped_any (s : ByteArray) (hs : s.size ≤ 140737488351232) (w : World) : Calls Tryd.prog 19 #[.string s] w fun e w' => ShapedEnds s w e w' := by
  have hsl : s.data.toList.length = s.size := by rw [Array.length_toList]; rfl
  by_cases hbig : 256 < s.size
  · have HN : Hid (Go.Wq.shape s.data.toList = none) := Lib.hid (by unfold Go.Wq.shape; rw [if_pos (by omega)])
    have hbi : (256 : Int) < (s.size : Int) := by omega
    clear hsl
    go_enter Tryd.func19, Tryd.ntmps19
    go_wp2_with fail
    refine bodyPost_ret (v := .tuple #[.slice none 0 0, .bool false]) (by simp [results, Tryd.results19, go_sem]) rfl ?_
    unfold ShapedEnds; rw [HN.out]; exact ⟨_, rfl, Below.refl _ _⟩
  · have hbi : ¬ (256 : Int) < (s.size : Int) := by omega
    have HI := items_all s (by omega) s.size 0 0 (by omega) (by omega) (by omega)
    have hpr : prs 0 (s.data.toList.drop 0) = parse (s.data.toList.length + 1) 0 s.data.toList := rfl
    cases hx : prs 0 (s.data.toList.drop 0) with
    | none =>
      have HN : Hid (Go.Wq.shape s.data.toList = none) := Lib.hid (by unfold Go.Wq.shape; rw [if_neg (by omega), ← hpr, hx])
      have HR : Hid (∀ w, Calls Tryd.prog 31 #[.string s, .int .i64 0, .int .i64 0] w fun e w' => e = .returned (.tuple #[.slice none 0 0, .int .i64 0, .bool false]) ∧ Below w.heap.size w w') := Lib.hid (fun w => (HI w).mono (fun e w' h => by rw [hx] at h; exact h))
      clear HI hx hpr hsl
      go_enter Tryd.func19, Tryd.ntmps19
      go_wp2_with (go_at_call 31; refine (HR.out _).mono ?_; rintro e w3 ⟨rfl, hb3⟩)
      refine bodyPost_ret (v := .tuple #[.slice none 0 0, .bool false]) (by simp [results, Tryd.results19, go_sem]) rfl ?_
      unfold ShapedEnds; rw [HN.out]; first | exact ⟨_, rfl, hb3⟩ | exact ⟨_, rfl, hb3.drew⟩
    | some y =>
      obtain ⟨l, q⟩ := y
      obtain ⟨pre, hpre, hq⟩ := prs_left hx
      have hql := congrArg List.length hpre
      rw [drop_len, List.length_append] at hql
      cases q with
      | nil =>
        have HN : Hid (Go.Wq.shape s.data.toList = some l) := Lib.hid (by unfold Go.Wq.shape; rw [if_neg (by omega), ← hpr, hx])
        have HR : Hid (∀ w, Calls Tryd.prog 31 #[.string s, .int .i64 0, .int .i64 0] w fun e w' => ∃ (a : Option Addr) (c : Nat), e = .returned (.tuple #[.slice a l.length c, .int .i64 (s.size : Int), .bool true]) ∧ ItsZ w' (fun k => w.heap.size ≤ k ∧ k < w'.heap.size) l a l.length ∧ Below w.heap.size w w') := Lib.hid (fun w => (HI w).mono (fun e w' h => by rw [hx] at h; obtain ⟨a, c, h1, h2, h3⟩ := h; exact ⟨a, c, by simpa using h1, h2, h3⟩))
        clear HI hx hpr hsl hpre hq hql
        go_enter Tryd.func19, Tryd.ntmps19
        go_wp2_with (go_at_call 31; refine (HR.out _).mono ?_; rintro e w3 ⟨xa, xc, rfl, hi3, hb3⟩)
        refine bodyPost_ret (v := .tuple #[.slice xa l.length xc, .bool true]) (by simp [results, Tryd.results19, go_sem]) rfl ?_
        unfold ShapedEnds; rw [HN.out]; exact ⟨xa, xc, rfl, hi3, hb3⟩
      | cons c' r' =>
        have HN : Hid (Go.Wq.shape s.data.toList = none) := Lib.hid (by unfold Go.Wq.shape; rw [if_neg (by omega), ← hpr, hx])
        have HR : Hid (∀ w, Calls Tryd.prog 31 #[.string s, .int .i64 0, .int .i64 0] w fun e w' => ∃ (a : Option Addr) (c : Nat), e = .returned (.tuple #[.slice a l.length c, .int .i64 ((s.size - r'.length - 1 : Nat) : Int), .bool true]) ∧ Below w.heap.size w w') := Lib.hid (fun w => (HI w).mono (fun e w' h => by rw [hx] at h; obtain ⟨a, c, h1, h2, h3⟩ := h; simp only [List.length_cons] at hql; have hE : (s.size : Int) - ((c' :: r').length : Int) = ((s.size - r'.length - 1 : Nat) : Int) := (by simp only [List.length_cons]; omega); rw [hE] at h1; exact ⟨a, c, h1, h3⟩))
        have hne : (((s.size - r'.length - 1 : Nat) : Int) == (s.size : Int)) = false := by simp only [List.length_cons] at hql; simp; omega
        generalize s.size - r'.length - 1 = en at *
        clear HI hx hpr hsl hpre hq hql
        go_enter Tryd.func19, Tryd.ntmps19
        go_wp2_with (go_at_call 31; refine (HR.out _).mono ?_; rintro e w3 ⟨xa, xc, rfl, hb3⟩)
        refine bodyPost_ret (v := .tuple #[.slice xa l.length xc, .bool false]) (by simp [results, Tryd.results19, go_sem]) rfl ?_
        unfold ShapedEnds; rw [HN.out]; first | exact ⟨_, rfl, hb3⟩ | exact ⟨_, rfl, hb3.drew⟩

/-- The bytes of some fields, or why there are none. -/
def encSays (s : List UInt8) (fs : List Fld) : List UInt8 × Int :=
  match Go.Wq.shape s with
  | none => ([], 40)
  | some its => match encAll its fs with
    | none => ([], 41)
    | some a => if 65536 < a.length then ([], 3) else (a, 0)

theorem shape_sm {s : List UInt8} {l : List It} (h : Go.Wq.shape s = some l) : l.length ≤ 256 ∧ ∀ x ∈ l, x.Sm := by
  unfold Go.Wq.shape at h
  split at h
  · cases h
  · split at h
    · rename_i l' hp
      injection h with h; subst h
      obtain ⟨h1, h2⟩ := parse_sm _ _ _ _ _ hp (by omega)
      exact ⟨by simp at h1; omega, h2⟩
    · cases h

end Go.Proofs.YtgikdmognolmoaaDoor
