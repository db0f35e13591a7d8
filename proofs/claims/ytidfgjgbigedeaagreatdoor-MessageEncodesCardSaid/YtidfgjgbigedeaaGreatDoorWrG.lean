/- put, whatever the items. The reference's shaped, CheckShape. -/
import Derived.Test.YtidfgjgbigedeaaGreatDoorWrC
import Derived.Test.YtidfgjgbigedeaaGreatDoorWqAll
import Derived.Test.YtidfgjgbigedeaaGreatDoorWrD
section
namespace Go.Proofs.YtidfgjgbigedeaaGreatDoor
open Go.RowKit Go.Lib Go.Wq
theorem put_says (its : List It) : PutSays its := its_ind PutSays put_any its
end Go.Proofs.YtidfgjgbigedeaaGreatDoor
end

section
namespace Go.Proofs.YtidfgjgbigedeaaGreatDoor
open Go.RowKit Go.Lib Go.Wq
set_option linter.unusedVariables false
set_option linter.unusedSimpArgs false
set_option maxRecDepth 100000

theorem shaped_any (s : ByteArray) (hs : s.size ≤ 140737488351232) (w : World) : Calls Tryz.prog 41 #[.string s] w fun e w' => ShapedEnds s w e w' := by
  have hsl : s.data.toList.length = s.size := by rw [Array.length_toList]; rfl
  by_cases hbig : 256 < s.size
  · have HN : Hid (Go.Wq.shape s.data.toList = none) := Lib.hid (by unfold Go.Wq.shape; rw [if_pos (by omega)])
    have hbi : (256 : Int) < (s.size : Int) := by omega
    clear hsl
    go_enter Tryz.func41, Tryz.ntmps41
    go_wp2_with fail
    refine bodyPost_ret (v := .tuple #[.slice none 0 0, .bool false]) (by simp [results, Tryz.results41, go_sem]) rfl ?_
    unfold ShapedEnds; rw [HN.out]; exact ⟨_, rfl, Below.refl _ _⟩
  · have hbi : ¬ (256 : Int) < (s.size : Int) := by omega
    have HI := items_all s (by omega) s.size 0 0 (by omega) (by omega) (by omega)
    have hpr : prs 0 (s.data.toList.drop 0) = parse (s.data.toList.length + 1) 0 s.data.toList := rfl
    cases hx : prs 0 (s.data.toList.drop 0) with
    | none =>
      have HN : Hid (Go.Wq.shape s.data.toList = none) := Lib.hid (by unfold Go.Wq.shape; rw [if_neg (by omega), ← hpr, hx])
      have HR : Hid (∀ w, Calls Tryz.prog 69 #[.string s, .int .i64 0, .int .i64 0] w fun e w' => e = .returned (.tuple #[.slice none 0 0, .int .i64 0, .bool false]) ∧ Below w.heap.size w w') := Lib.hid (fun w => (HI w).mono (fun e w' h => by rw [hx] at h; exact h))
      clear HI hx hpr hsl
      go_enter Tryz.func41, Tryz.ntmps41
      go_wp2_with (go_at_call 69; refine (HR.out _).mono ?_; rintro e w3 ⟨rfl, hb3⟩)
      refine bodyPost_ret (v := .tuple #[.slice none 0 0, .bool false]) (by simp [results, Tryz.results41, go_sem]) rfl ?_
      unfold ShapedEnds; rw [HN.out]; first | exact ⟨_, rfl, hb3⟩ | exact ⟨_, rfl, hb3.drew⟩
    | some y =>
      obtain ⟨l, q⟩ := y
      obtain ⟨pre, hpre, hq⟩ := prs_left hx
      have hql := congrArg List.length hpre
      rw [drop_len, List.length_append] at hql
      cases q with
      | nil =>
        have HN : Hid (Go.Wq.shape s.data.toList = some l) := Lib.hid (by unfold Go.Wq.shape; rw [if_neg (by omega), ← hpr, hx])
        have HR : Hid (∀ w, Calls Tryz.prog 69 #[.string s, .int .i64 0, .int .i64 0] w fun e w' => ∃ (a : Option Addr) (c : Nat), e = .returned (.tuple #[.slice a l.length c, .int .i64 (s.size : Int), .bool true]) ∧ ItsZ w' (fun k => w.heap.size ≤ k ∧ k < w'.heap.size) l a l.length ∧ Below w.heap.size w w') := Lib.hid (fun w => (HI w).mono (fun e w' h => by rw [hx] at h; obtain ⟨a, c, h1, h2, h3⟩ := h; exact ⟨a, c, by simpa using h1, h2, h3⟩))
        clear HI hx hpr hsl hpre hq hql
        go_enter Tryz.func41, Tryz.ntmps41
        go_wp2_with (go_at_call 69; refine (HR.out _).mono ?_; rintro e w3 ⟨xa, xc, rfl, hi3, hb3⟩)
        refine bodyPost_ret (v := .tuple #[.slice xa l.length xc, .bool true]) (by simp [results, Tryz.results41, go_sem]) rfl ?_
        unfold ShapedEnds; rw [HN.out]; exact ⟨xa, xc, rfl, hi3, hb3⟩
      | cons c' r' =>
        have HN : Hid (Go.Wq.shape s.data.toList = none) := Lib.hid (by unfold Go.Wq.shape; rw [if_neg (by omega), ← hpr, hx])
        have HR : Hid (∀ w, Calls Tryz.prog 69 #[.string s, .int .i64 0, .int .i64 0] w fun e w' => ∃ (a : Option Addr) (c : Nat), e = .returned (.tuple #[.slice a l.length c, .int .i64 ((s.size - r'.length - 1 : Nat) : Int), .bool true]) ∧ Below w.heap.size w w') := Lib.hid (fun w => (HI w).mono (fun e w' h => by rw [hx] at h; obtain ⟨a, c, h1, h2, h3⟩ := h; simp only [List.length_cons] at hql; have hE : (s.size : Int) - ((c' :: r').length : Int) = ((s.size - r'.length - 1 : Nat) : Int) := (by simp only [List.length_cons]; omega); rw [hE] at h1; exact ⟨a, c, h1, h3⟩))
        have hne : (((s.size - r'.length - 1 : Nat) : Int) == (s.size : Int)) = false := by simp only [List.length_cons] at hql; simp; omega
        generalize s.size - r'.length - 1 = en at *
        clear HI hx hpr hsl hpre hq hql
        go_enter Tryz.func41, Tryz.ntmps41
        go_wp2_with (go_at_call 69; refine (HR.out _).mono ?_; rintro e w3 ⟨xa, xc, rfl, hb3⟩)
        refine bodyPost_ret (v := .tuple #[.slice xa l.length xc, .bool false]) (by simp [results, Tryz.results41, go_sem]) rfl ?_
        unfold ShapedEnds; rw [HN.out]; first | exact ⟨_, rfl, hb3⟩ | exact ⟨_, rfl, hb3.drew⟩

/-- The bytes of some fields, or why there are none. -/
def encSays (s : List UInt8) (fs : List Fld) : List UInt8 × Int :=
  match Go.Wq.shape s with
  | none => ([], 40)
  | some its => match encAll its fs with
    | none => ([], 41)
    | some a => if 65536 < a.length then ([], 3) else (a, 0)

theorem shape_sm {s : List UInt8} {l : List It} (h : Go.Wq.shape s = some l) : l.length ≤ 256 ∧ ∀ x ∈ l, x.Sm := by
  unfold Go.Wq.shape at h
  split at h
  · cases h
  · split at h
    · rename_i l' hp
      injection h with h; subst h
      obtain ⟨h1, h2⟩ := parse_sm _ _ _ _ _ hp (by omega)
      exact ⟨by simp at h1; omega, h2⟩
    · cases h

set_option maxHeartbeats 1000000 in
theorem refEncode_any (s : ByteArray) (hs : s.size ≤ 140737488351232) (fs : List Fld) (fa : Option Addr) (fc : Nat) (w : World) (hfs : FldsIn w w.heap.size fs fa fs.length) (hok : ∀ y ∈ fs, y.Ok) (hfit : ∀ y ∈ fs, y.Fit) :
    Calls Tryz.prog 20 #[.string s, .slice fa fs.length fc] w fun e w' => e = .returned (.tuple #[.string ⟨(encSays s.data.toList fs).1.toArray⟩, .int .i64 (encSays s.data.toList fs).2]) ∧ Below w.heap.size w w' := by
  have HS := shaped_any s hs
  cases hx : Go.Wq.shape s.data.toList with
  | none =>
    have HR : Hid (∀ w, Calls Tryz.prog 41 #[.string s] w fun e w' => ∃ v : Value, e = .returned (.tuple #[v, .bool false]) ∧ Below w.heap.size w w') := Lib.hid (fun w => (HS w).mono (fun e w' h => by unfold ShapedEnds at h; rw [hx] at h; exact h))
    rw [show encSays s.data.toList fs = ([], 40) by unfold encSays; rw [hx]]
    clear HS hx hfs hok hfit
    go_enter Tryz.func20, Tryz.ntmps20
    go_wp2_with (go_at_call 41; refine (HR.out _).mono ?_; rintro e w3 ⟨v3, rfl, hb3⟩)
    refine bodyPost_ret (v := .tuple #[.string ⟨#[]⟩, .int .i64 40]) (by simp [results, Tryz.results20, go_sem]) rfl ?_
    exact ⟨rfl, hb3⟩
  | some its =>
    have HR : Hid (∀ w, Calls Tryz.prog 41 #[.string s] w fun e w' => ∃ (a : Option Addr) (c : Nat), e = .returned (.tuple #[.slice a its.length c, .bool true]) ∧ ItsZ w' (fun k => w.heap.size ≤ k ∧ k < w'.heap.size) its a its.length ∧ Below w.heap.size w w') := Lib.hid (fun w => (HS w).mono (fun e w' h => by unfold ShapedEnds at h; rw [hx] at h; exact h))
    obtain ⟨h256, hsm⟩ := shape_sm hx
    have HPUT : Hid (∀ w3 xa xc, Below w.heap.size w w3 → ItsZ w3 (fun k => w.heap.size ≤ k ∧ k < w3.heap.size) its xa its.length →
        Calls Tryz.prog 42 #[.slice none 0 0, .slice xa its.length xc, .slice fa fs.length fc] w3 fun e w' => PutEnds w3.heap.size its fs [] (.slice none 0 0) w3 e w') := Lib.hid (fun w3 xa xc hb hi =>
      put_says its w3.heap.size (.slice none 0 0) [] [] xa xc fs fa fs.length fc w3 (World.ownsRow_nil _ _ _ _) (Or.inl ⟨rfl, by simp⟩) (Nat.le_refl _) (ItsZ.toIn (fun k hk => hk.2) _ _ _ hi)
        (FldsIn.kept_up (FldsIn.kept (B := w.heap.size) (fun k hk => hb.block k hk) _ _ _ hfs) hb.size) hok hfit h256 hsm)
    have hES : encSays s.data.toList fs = match encAll its fs with | none => ([], 41) | some a => if 65536 < a.length then ([], 3) else (a, 0) := by unfold encSays; rw [hx]
    clear HS hx hfs hok hfit hsm
    cases he : encAll its fs with
    | none =>
      rw [he] at hES
      rw [hES]
      clear hES
      have HP : Hid (∀ w3 xa xc, Below w.heap.size w w3 → ItsZ w3 (fun k => w.heap.size ≤ k ∧ k < w3.heap.size) its xa its.length →
        Calls Tryz.prog 42 #[.slice none 0 0, .slice xa its.length xc, .slice fa fs.length fc] w3 fun e w' => ∃ v' : Value, e = .returned (.tuple #[v', .bool false]) ∧ Below w3.heap.size w3 w') := Lib.hid (fun w3 xa xc h1 h2 => (HPUT.out w3 xa xc h1 h2).mono (fun e w' h => by unfold PutEnds at h; rw [he] at h; exact h))
      clear HPUT he
      go_enter Tryz.func20, Tryz.ntmps20
      go_wp2_with (first | (go_at_call 41; refine (HR.out _).mono ?_; rintro e w3 ⟨xa, xc, rfl, hi3, hb3⟩; have HI3 := Lib.hid hi3; have HB3 := Lib.hid hb3; clear hi3 hb3) | (go_at_call 42; refine (HP.out _ xa xc HB3.out HI3.out).mono ?_; rintro e w4 ⟨v4, rfl, hb4⟩))
      refine bodyPost_ret (v := .tuple #[.string ⟨#[]⟩, .int .i64 41]) (by simp [results, Tryz.results20, go_sem]) rfl ?_
      exact ⟨rfl, HB3.out.trans (hb4.mono HB3.out.size)⟩
    | some a =>
      have HP : Hid (∀ w3 xa xc, Below w.heap.size w w3 → ItsZ w3 (fun k => w.heap.size ≤ k ∧ k < w3.heap.size) its xa its.length →
        Calls Tryz.prog 42 #[.slice none 0 0, .slice xa its.length xc, .slice fa fs.length fc] w3 fun e w' => ∃ (v' : Value) (b' : List UInt8), e = .returned (.tuple #[v', .bool true]) ∧ w'.ownsRow w3.heap.size 5 1 v' b'.length (bcs b') ∧ Cap b' a ∧ Below w3.heap.size w3 w') := Lib.hid (fun w3 xa xc h1 h2 => (HPUT.out w3 xa xc h1 h2).mono (fun e w' h => by
          unfold PutEnds at h; rw [he] at h
          obtain ⟨v', b', g1, g2, g3, g4⟩ := h
          exact ⟨v', b', g1, g2, by simpa using g3, g4.below (Nat.le_refl _) (fun k hk => by cases hk)⟩))
      rw [he] at hES
      simp only [] at hES
      clear HPUT he
      by_cases hbig : 65536 < a.length
      · rw [hES, if_pos hbig]
        clear hES
        go_enter Tryz.func20, Tryz.ntmps20
        go_wp2_with (go_at_call 41; refine (HR.out _).mono ?_; rintro e w3 ⟨xa, xc, rfl, hi3, hb3⟩; have HI3 := Lib.hid hi3; have HB3 := Lib.hid hb3; clear hi3 hb3)
        refine (HP.out _ xa xc HB3.out HI3.out).mono ?_
        rintro e w4 ⟨v4, b4, rfl, ho4, hc4, hb4⟩
        have hlen : (65536 : Int) < (b4.length : Int) := by rcases hc4 with ⟨rfl, h⟩ | ⟨h, _, _⟩ <;> omega
        have HB4 := Lib.hid hb4
        rcases ho4.2 with ⟨rfl, h0⟩ | ⟨g, cap, cur, rfl, -⟩
        · omega
        · clear ho4 hc4 hb4
          go_wp2_with fail
          refine bodyPost_ret (v := .tuple #[.string ⟨#[]⟩, .int .i64 3]) (by simp [results, Tryz.results20, go_sem]) rfl ?_
          exact ⟨rfl, HB3.out.trans (HB4.out.mono HB3.out.size)⟩
      · rw [hES, if_neg hbig]
        clear hES
        go_enter Tryz.func20, Tryz.ntmps20
        go_wp2_with (go_at_call 41; refine (HR.out _).mono ?_; rintro e w3 ⟨xa, xc, rfl, hi3, hb3⟩; have HI3 := Lib.hid hi3; have HB3 := Lib.hid hb3; clear hi3 hb3)
        refine (HP.out _ xa xc HB3.out HI3.out).mono ?_
        rintro e w4 ⟨v4, b4, rfl, ho4, hc4, hb4⟩
        obtain rfl : b4 = a := by rcases hc4 with ⟨rfl, h⟩ | ⟨_, _, h⟩ <;> first | rfl | omega
        have hcv := own_text 61 9 Tryz.underlying61 Tryz.underlying5 Tryz.underlying9 ho4
        have hlen : ¬ (65536 : Int) < (b4.length : Int) := by omega
        have HB4 := Lib.hid hb4
        rcases ho4.2 with ⟨rfl, h0⟩ | ⟨g, cap, cur, rfl, -⟩
        · have hlen0 : ¬ (65536 : Int) < ((0 : Nat) : Int) := by omega
          clear ho4 hc4 hb4 h0
          go_wp2_with fail
          refine bodyPost_ret (v := .tuple #[.string ⟨b4.toArray⟩, .int .i64 0]) (by simp [results, Tryz.results20, go_sem]) rfl ?_
          exact ⟨rfl, HB3.out.trans (HB4.out.mono HB3.out.size)⟩
        · clear ho4 hc4 hb4
          go_wp2_with fail
          refine bodyPost_ret (v := .tuple #[.string ⟨b4.toArray⟩, .int .i64 0]) (by simp [results, Tryz.results20, go_sem]) rfl ?_
          exact ⟨rfl, HB3.out.trans (HB4.out.mono HB3.out.size)⟩
end Go.Proofs.YtidfgjgbigedeaaGreatDoor
end
