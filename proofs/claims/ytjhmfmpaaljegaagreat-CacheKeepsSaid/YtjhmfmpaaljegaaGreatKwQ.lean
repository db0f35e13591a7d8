/- Caches, the laws: awake. -/
import Derived.Test.YtjhmfmpaaljegaaGreatKwP
namespace Go.Proofs.YtjhmfmpaaljegaaGreat
open Go.RowKit Go.Lib Go.Ow Go.Cw Go.Fq Go.Mq Go.Kq Go.Kw
set_option linter.unusedVariables false
set_option linter.unusedSimpArgs false
set_option maxRecDepth 100000

abbrev aw1 : List Hd := [⟨2, 4609434218613702656, []⟩]
abbrev aw2 : List Hd := [⟨2, 4609434218613702656, [⟨7, 1, 4613937818241073152, 0, 0⟩]⟩]
theorem aw_add : addR [] 2 4609434218613702656 = (0, aw1) := by kernel_rfl
theorem aw_learn : learnR aw1 2 [⟨7, 1, 4613937818241073152, 0, 0⟩] = (0, 1, aw2) := by kernel_rfl
theorem eql_not2 (b : Nat) (w : World) : (binOp .eql 23 (.pointer (some ⟨b, 0, none⟩)) (.pointer none)).run Tryz.prog w = .ok (.bool false) w := by
  have h : ∀ d : Nat, (Op.equalIn (d + 1) 23 (.pointer (some ⟨b, 0, none⟩)) (.pointer none)).run Tryz.prog w = .ok false w := fun d => by
    simp [Op.equalIn, run_underlying Tryz.underlying23]
  simp only [binOp]
  simp [Op.equal, Op.maxDepth, h 9999]
/-- A cache that is one's own. -/
def Ck (B : Nat) (w : World) (c : Nat) (M : List Hd) : Prop := ∃ S T mb N, Cb S T w c mb N ∧ plain N = M ∧ ∀ b, S b → B ≤ b
theorem Ck.pst {B : Nat} {S T : Nat → Prop} {w w2 : World} {c : Nat} {M : List Hd} (h : Pst S T w w2 c M) (hS : ∀ b, S b → B ≤ b) (hB : B ≤ w.heap.size) : Ck B w2 c M ∧ Below B w w2 := by
  obtain ⟨hx, S', T', mb', N', hpl, hcb, hS', hT'⟩ := h
  exact ⟨⟨S', T', mb', N', hcb, hpl, fun b hb => by rcases hS' b hb with e | e; exact hS b e; omega⟩, hx.below hS hB⟩
theorem ck_add {B : Nat} {w : World} {c : Nat} (h : Ck B w c []) (hB : B ≤ w.heap.size) : Calls Tryz.prog 25 #[.pointer (some ⟨c, 0, none⟩), .int .i64 2, .float .f64 4609434218613702656] w fun e w' => e = .returned (.int .i64 0) ∧ Ck B w' c aw1 ∧ Below B w w' := by
  obtain ⟨S, T, mb, N, hcb, hpl, hS⟩ := h
  refine (kAdd_any hcb (k := 2) (f := 4609434218613702656) (by omega) (by omega)).mono ?_
  rintro e w' ⟨rfl, hp⟩
  rw [hpl, aw_add] at hp
  exact ⟨by rw [hpl, aw_add], Ck.pst hp hS hB⟩
theorem ck_learn {B : Nat} {w : World} {c : Nat} (h : Ck B w c aw1) (hB : B ≤ w.heap.size) (a : Option Addr) (hin : NewsIn w w.heap.size [⟨7, 1, 4613937818241073152, 0, 0⟩] a) : Calls Tryz.prog 20 #[.pointer (some ⟨c, 0, none⟩), .int .i64 2, .slice a 1 1] w fun e w' => e = .returned (.tuple #[.int .i64 1, .int .i64 0]) ∧ Ck B w' c aw2 ∧ Below B w w' := by
  obtain ⟨S, T, mb, N, hcb, hpl, hS⟩ := h
  refine (kLearn_any hcb (k := 2) (by omega) [⟨7, 1, 4613937818241073152, 0, 0⟩] a 1 hin (fun x hx => by simp at hx; subst hx; constructor <;> decide) (by simp) (by omega)).mono ?_
  rintro e w' ⟨rfl, hp⟩
  rw [hpl, aw_learn] at hp
  exact ⟨by rw [hpl, aw_learn]; rfl, Ck.pst hp hS hB⟩
theorem ck_all {B : Nat} {w : World} {c : Nat} (h : Ck B w c aw2) : Calls Tryz.prog 24 #[.pointer (some ⟨c, 0, none⟩)] w fun e w' => ∃ a k, e = .returned (.slice a 1 k) ∧ Below w.heap.size w w' := by
  obtain ⟨S, T, mb, N, hcb, hpl, hS⟩ := h
  refine (kAll_any hcb).mono ?_
  rintro e w' ⟨l, a, k, hM, rfl, hbd⟩
  have hl : l.length = 1 := by have := congrArg List.length (hM.trans hpl); simpa using this
  exact ⟨a, k, by rw [hl]; rfl, hbd.2⟩
theorem ck_dests {B : Nat} {w : World} {c : Nat} (h : Ck B w c aw2) : Calls Tryz.prog 18 #[.pointer (some ⟨c, 0, none⟩), .int .i64 1] w fun e w' => ∃ a k, e = .returned (.slice a 1 k) ∧ Below w.heap.size w w' := by
  obtain ⟨S, T, mb, N, hcb, hpl, hS⟩ := h
  refine (kDests_any hcb 1).mono ?_
  rintro e w' ⟨hb, zs, a, k, rfl, hs, hm, -⟩
  change ∀ x, x ∈ zs ↔ _ ∧ Offd (plain N) 1 x at hm
  rw [hpl] at hm
  have h7 : ∀ x, x ∈ zs ↔ x = 7 := fun x => by
    rw [hm x]
    constructor
    · rintro ⟨-, g, hg, y, hy, e1, e2⟩
      simp at hg
      subst hg
      simp at hy
      subst hy
      exact e2.symm
    · rintro rfl
      exact ⟨by omega, _, List.mem_singleton.2 rfl, _, List.mem_singleton.2 rfl, rfl, rfl⟩
  have hl : zs.length = 1 := by
    match zs, hs, h7 with
    | [], _, h7 => exact absurd ((h7 7).2 rfl) (by simp)
    | [_], _, _ => rfl
    | x :: y :: r, hs, h7 =>
      have e1 := (h7 x).1 (by simp)
      have e2 := (h7 y).1 (by simp)
      have := (List.pairwise_cons.1 hs).1 y (by simp)
      omega
  exact ⟨a, k, by rw [hl], hb⟩
theorem Ck.below {B : Nat} {w w2 : World} {c : Nat} {M : List Hd} (h : Ck B w c M) (hb : Below w.heap.size w w2) : Ck B w2 c M := by
  obtain ⟨S, T, mb, N, hcb, hpl, hS⟩ := h
  exact ⟨S, T, mb, N, hcb.below hb, hpl, hS⟩
set_option maxHeartbeats 16000000 in
theorem dAwake_any (w : World) : Calls Tryz.prog 10 #[] w fun e w' => e = .returned (.bool true) ∧ Below w.heap.size w w' := by
  have heq := eql_not2
  go_enter Tryz.func10, Tryz.ntmps10
  go_wp2_with (first
    | (go_at_call 7; refine (kNew_any _).mono ?_; rintro e w1 ⟨c, hc, rfl, hb1, S, mb, hcb, hS⟩; have H1 := Lib.hid (And.intro (show Ck w.heap.size w1 c [] from ⟨S, _, mb, [], hcb, rfl, hS⟩) hb1); clear hc hb1 hcb hS)
    | (go_at_call 25; refine (ck_add H1.out.1 H1.out.2.size).mono ?_; rintro e w2 ⟨rfl, hk, hb⟩; have H2 := Lib.hid (And.intro hk (H1.out.2.trans hb)); clear hk hb)
    | (go_at_call 32; refine (dMark_any _ _ _).mono ?_; rintro e w3 ⟨a3, rfl, hb, hin⟩; have H3 := Lib.hid (And.intro (H2.out.1.below hb) (H2.out.2.trans (hb.mono H2.out.2.size))); have HIN := Lib.hid hin; clear hb hin)
    | (go_at_call 20; refine (ck_learn H3.out.1 H3.out.2.size _ HIN.out).mono ?_; rintro e w4 ⟨rfl, hk, hb⟩; have H4 := Lib.hid (And.intro hk (H3.out.2.trans hb)); clear hk hb)
    | (go_at_call 24; refine (ck_all H4.out.1).mono ?_; rintro e w5 ⟨a5, k5, rfl, hb⟩; have H5 := Lib.hid (And.intro (H4.out.1.below hb) (H4.out.2.trans (hb.mono H4.out.2.size))); clear hb)
    | (go_at_call 18; refine (ck_dests H5.out.1).mono ?_; rintro e w6 ⟨a6, k6, rfl, hb⟩; have H6 := Lib.hid (H5.out.2.trans (hb.mono H5.out.2.size)); clear hb))
  refine bodyPost_ret (v := .bool true) (by simp [results, Tryz.results10, go_sem]) rfl ?_
  exact ⟨rfl, H6.out⟩
end Go.Proofs.YtjhmfmpaaljegaaGreat
