/- The document's own reader: no, varint, float. The document's own reader: float. -/
import Derived.Test.YtidfgjgbigedeaaGreatDoorWrD
import Derived.Test.YtidfgjgbigedeaaGreatDoorWqAll
import Derived.Handy
section
namespace Go.Proofs.YtidfgjgbigedeaaGreatDoor
open Go.RowKit Go.Lib Go.Wq
set_option linter.unusedVariables false
set_option linter.unusedSimpArgs false
set_option maxRecDepth 100000

/-- A reader's value: its text, where the next byte is, what was met, where. -/
abbrev rdV (s : ByteArray) (p e q : Int) : Value := .agg #[.string s, .int .i64 p, .int .i64 e, .int .i64 q]
/-- A reader's four cells, that may be written. -/
structure R4 (w : World) (b : Nat) (s : ByteArray) (p e q : Int) : Prop where
  c0 : w.cell? ⟨b, 0, none⟩ = some (.string s)
  c1 : w.cell? ⟨b, 1, none⟩ = some (.int .i64 p)
  c2 : w.cell? ⟨b, 2, none⟩ = some (.int .i64 e)
  c3 : w.cell? ⟨b, 3, none⟩ = some (.int .i64 q)
  f0 : w.frozen? ⟨b, 0, none⟩ = false
  f1 : w.frozen? ⟨b, 1, none⟩ = false
  f2 : w.frozen? ⟨b, 2, none⟩ = false
  f3 : w.frozen? ⟨b, 3, none⟩ = false
theorem R4.first (w : World) (s : ByteArray) (p e q : Int) (t : TypeId) : R4 (w.alloc (.cells #[.string s, .int .i64 p, .int .i64 e, .int .i64 q] t)) w.heap.size s p e q :=
  ⟨by simp [go_sem], by simp [go_sem], by simp [go_sem], by simp [go_sem], by simp [go_sem], by simp [go_sem], by simp [go_sem], by simp [go_sem]⟩
theorem R4.below {w w' : World} {b : Nat} {s : ByteArray} {p e q : Int} (h : R4 w b s p e q) {B : Nat} (bel : Below B w w') (hb : b < B) : R4 w' b s p e q :=
  ⟨(bel.cell (p := ⟨b, 0, none⟩) hb).trans h.c0, (bel.cell (p := ⟨b, 1, none⟩) hb).trans h.c1, (bel.cell (p := ⟨b, 2, none⟩) hb).trans h.c2, (bel.cell (p := ⟨b, 3, none⟩) hb).trans h.c3,
    (bel.frozen (p := ⟨b, 0, none⟩) hb).trans h.f0, (bel.frozen (p := ⟨b, 1, none⟩) hb).trans h.f1, (bel.frozen (p := ⟨b, 2, none⟩) hb).trans h.f2, (bel.frozen (p := ⟨b, 3, none⟩) hb).trans h.f3⟩
theorem R4.set {w : World} {b : Nat} {s s' : ByteArray} {p e q p' e' q' : Int} (h : R4 w b s p e q) :
    R4 ((((w.setCell ⟨b, 0, none⟩ (.string s')).setCell ⟨b, 1, none⟩ (.int .i64 p')).setCell ⟨b, 2, none⟩ (.int .i64 e')).setCell ⟨b, 3, none⟩ (.int .i64 q')) b s' p' e' q' := by
  obtain ⟨c0, c1, c2, c3, f0, f1, f2, f3⟩ := h
  exact ⟨by simp [go_sem, c0], by simp [go_sem, c1], by simp [go_sem, c2], by simp [go_sem, c3], by simp [go_sem, f0], by simp [go_sem, f1], by simp [go_sem, f2], by simp [go_sem, f3]⟩
theorem R4.move {w : World} {b : Nat} {s : ByteArray} {p e q p' : Int} (h : R4 w b s p e q) : R4 (w.setCell ⟨b, 1, none⟩ (.int .i64 p')) b s p' e q := by
  obtain ⟨c0, c1, c2, c3, f0, f1, f2, f3⟩ := h
  exact ⟨by simp [go_sem, c0], by simp [go_sem, c1], by simp [go_sem, c2], by simp [go_sem, c3], by simp [go_sem, f0], by simp [go_sem, f1], by simp [go_sem, f2], by simp [go_sem, f3]⟩
theorem R4.other {w : World} {b c : Nat} {s : ByteArray} {p e q : Int} (h : R4 w b s p e q) (hne : b ≠ c) (o : Nat) (v : Value) : R4 (w.setCell ⟨c, o, none⟩ v) b s p e q := by
  obtain ⟨c0, c1, c2, c3, f0, f1, f2, f3⟩ := h
  exact ⟨by simp [go_sem, c0, hne], by simp [go_sem, c1, hne], by simp [go_sem, c2, hne], by simp [go_sem, c3, hne], by simp [go_sem, f0], by simp [go_sem, f1], by simp [go_sem, f2], by simp [go_sem, f3]⟩
theorem set4B {B : Nat} {w w1 : World} (h : Below B w w1) (b : Nat) (hb : B ≤ b) (x y z u : Value) : Below B w ((((w1.setCell ⟨b, 0, none⟩ x).setCell ⟨b, 1, none⟩ y).setCell ⟨b, 2, none⟩ z).setCell ⟨b, 3, none⟩ u) :=
  (((h.setCell hb _).setCell hb _).setCell hb _).setCell hb _
theorem belowNext {W w w' : World} (h : Below W.heap.size W w) (k : Below w.heap.size w w') : Below W.heap.size W w' := h.trans (k.mono h.size)
theorem below_2 (w : World) (o q : Obj) : Below w.heap.size w ((w.alloc o).alloc q) := ((Below.refl _ _).alloc (Nat.le_refl _) _).alloc (by simp) _

theorem no_any (s : ByteArray) (p e q at_ e2 : Int) (w : World) : Calls Tryz.prog 130 #[rdV s p e q, .int .i64 at_, .int .i64 e2] w fun e w' => e = .returned (rdV s p e2 at_) ∧ Below w.heap.size w w' := by
  go_enter Tryz.func130, Tryz.ntmps130
  go_wp2_with fail
  (try simp only [Exit.inBlock, Exit.then])
  refine bodyPost_ret (v := rdV s p e2 at_) (by simp [results, Tryz.results130, go_sem]) rfl ?_
  exact ⟨rfl, below_2 _ _ _⟩

/-- How reading a number ends. -/
def VarEnds (s : ByteArray) (p : Nat) (w : World) (e : Ending) (w' : World) : Prop :=
  Below w.heap.size w w' ∧ match rdVar s.data.toList p with
    | .ok n q => e = .returned (.tuple #[rdV s q 0 0, .int .u64 (n : Int)])
    | .bad er fr => ∃ a : Nat, e = .returned (.tuple #[rdV s a er fr, .int .u64 0])

set_option maxHeartbeats 2000000 in
theorem varint_any (s : ByteArray) (p : Nat) (hs : s.size ≤ 9223372036854775807) (hp : p ≤ s.size) (w : World) :
    Calls Tryz.prog 128 #[rdV s (p : Int) 0 0] w (VarEnds s p w) := by
  go_enter Tryz.func128, Tryz.ntmps128
  go_wp2_with fail
  have HB0 := Lib.hid (below_2 w (.cells #[.string s, .int .i64 (p : Int), .int .i64 0, .int .i64 0] 118) (.cells #[.string ⟨#[]⟩, .int .i64 0, .int .i64 0, .int .i64 0] 118))
  have HR1 := Lib.hid ((R4.first w s (p : Int) 0 0 118).below ((Below.refl _ _).alloc (Nat.le_refl _) (.cells #[.string ⟨#[]⟩, .int .i64 0, .int .i64 0, .int .i64 0] 118)) (by simp))
  have HR2 := Lib.hid (R4.first (w.alloc (.cells #[.string s, .int .i64 (p : Int), .int .i64 0, .int .i64 0] 118)) ⟨#[]⟩ 0 0 0 118)
  simp only [World.size_alloc] at HR2
  have HZ : Hid (w.heap.size + 1 < ((w.alloc (.cells #[.string s, .int .i64 (p : Int), .int .i64 0, .int .i64 0] 118)).alloc (.cells #[.string ⟨#[]⟩, .int .i64 0, .int .i64 0, .int .i64 0] 118)).heap.size) := Lib.hid (by simp)
  generalize hb1 : w.heap.size = b1 at *
  generalize hb2 : b1 + 1 = b2 at *
  go_loopw [5, 6] (fun v i wr => ∃ k n P : Nat, k ≤ 10 ∧ i = .int .i64 k ∧ v = .int .u64 n ∧ n < 128 ^ k ∧ R4 wr b1 s (P : Int) 0 0 ∧ R4 wr b2 ⟨#[]⟩ 0 0 0 ∧ Below b1 w wr ∧ b2 < wr.heap.size ∧ rdVar s.data.toList p = varGo s.data.toList p (10 - k) k P n ∧ P ≤ s.size) (fun _ i _ => 10 - (intOf i).toNat)
  case atStart => exact ⟨0, 0, p, by omega, rfl, rfl, by simp, HR1.out, HR2.out, HB0.out, HZ.out, rfl, hp⟩
  case round =>
    obtain ⟨k, n, P, hk, rfl, rfl, hn, hr1, hr2, hbel, hsz, hrd, hpk⟩ := hrel
    have HBel := Lib.hid hbel
    have HRD := Lib.hid hrd
    have HN := Lib.hid hn
    obtain ⟨c0, c1, c2, c3, f0, f1, f2, f3⟩ := id hr1
    obtain ⟨d0, d1, d2, d3, g0, g1, g2, g3⟩ := id hr2
    clear hbel hrd hn
    have hb12 : b1 < wr.heap.size := by omega
    have hne12 : b2 ≠ b1 := by omega
    -- an end by an error: what is behind no's call
    have HBad := Lib.hid (show ∀ (wx w2 : World) (er : Nat) (P' : Nat), Below b1 w wx → wx.heap.size = wr.heap.size → rdVar s.data.toList p = .bad er p → Below wx.heap.size wx w2 → Below b1 w ((((w2.setCell ⟨b2, 0, none⟩ (.string s)).setCell ⟨b2, 1, none⟩ (.int .i64 (P' : Int))).setCell ⟨b2, 2, none⟩ (.int .i64 (er : Int))).setCell ⟨b2, 3, none⟩ (.int .i64 (p : Int))) ∧
        VarEnds s p w (.returned (.tuple #[rdV s (P' : Int) (er : Int) (p : Int), .int .u64 0])) ((((w2.setCell ⟨b2, 0, none⟩ (.string s)).setCell ⟨b2, 1, none⟩ (.int .i64 (P' : Int))).setCell ⟨b2, 2, none⟩ (.int .i64 (er : Int))).setCell ⟨b2, 3, none⟩ (.int .i64 (p : Int))) from
      fun wx w2 er P' hb hsz2 hr h2 => by
        have hB := set4B (x := .string s) (y := .int .i64 (P' : Int)) (z := .int .i64 (er : Int)) (u := .int .i64 (p : Int)) (hb.trans (h2.mono (by omega))) b2 (by omega)
        exact ⟨hB, by rw [hb1]; exact hB, by rw [hr]; exact ⟨P', rfl⟩⟩)
    by_cases hlt : k < 10
    · by_cases hend : P < s.size
      · have hge : decide ((s.size : Int) ≤ (P : Int)) = false := decide_eq_false (by omega)
        obtain ⟨C, hC⟩ : ∃ C : Nat, ((s[P]'hend).toNat : Int) = (C : Int) := ⟨_, rfl⟩
        have hC' : (s[P]'hend).toNat = C := by exact_mod_cast hC
        have hC256 : C < 256 := by rw [← hC']; exact (s[P]'hend).toNat_lt
        have hget : s.data.toList[P]? = some (s[P]'hend) := by
          rw [Array.getElem?_toList]
          exact Array.getElem?_eq_getElem hend
        have hstep := varGo_some s.data.toList p (9 - k) k P n _ hget
        rw [show 9 - k + 1 = 10 - k by omega, ← HRD.out, hC'] at hstep
        have HStep := Lib.hid hstep
        have hP1 : IntKind.i64.wrap ((P : Int) + 1) = (P : Int) + 1 := by go_arith
        have hwl : wr.heap.size = wr.heap.size := rfl
        have HBm := Lib.hid (HBel.out.setCell (p := ⟨b1, 1, none⟩) (by show b1 ≤ b1; omega) (.int .i64 ((P : Int) + 1)))
        have hr1' := hr1.move (p' := (P : Int) + 1)
        have hr2' := hr2.other (c := b1) hne12 1 (.int .i64 ((P : Int) + 1))
        clear hget hstep hC'
        by_cases hover : k = 9 ∧ 1 < C
        · rw [if_pos hover] at HStep
          obtain ⟨rfl, hC1⟩ := hover
          have hd1 : decide (1 < (C : Int)) = true := decide_eq_true (by omega)
          clear hr1 hr2
          go_wp2_with fail
          refine (no_any _ _ _ _ _ _ _).mono ?_
          rintro e w2 ⟨rfl, h2⟩
          obtain ⟨d0, d1, d2, d3, g0, g1, g2, g3⟩ := hr2'.below h2 (by simpa using hsz)
          go_wp2_with fail
          (try simp only [Exit.inBlock, Exit.then])
          refine bodyPost_ret (v := .tuple #[rdV s ((P : Int) + 1) 43 (p : Int), .int .u64 0]) (by simp [results, Tryz.results128, go_sem, d0, d1, d2, d3]) rfl ?_
          exact (HBad.out _ w2 43 (P + 1) HBm.out (by simp) HStep.out h2).2
        · rw [if_neg hover] at HStep
          obtain ⟨go1, go2, go3⟩ := group_or n (C % 128) k (by omega) HN.out (by omega) (fun h => by omega)
          have gsh := group_shl (C % 128) k go2
          have gan := and127n C hC256
          have gnx := group_next n (C % 128) k HN.out (by omega)
          have gw : IntKind.u64.wrap ((C % 128 : Nat) : Int) = ((C % 128 : Nat) : Int) := by rw [IntKind.wrap_u64]; omega
          obtain ⟨G, hG⟩ : ∃ G, C % 128 = G := ⟨_, rfl⟩
          rw [hG] at go1 gsh gan gw gnx HStep
          obtain ⟨S, hS⟩ : ∃ S, G * 128 ^ k = S := ⟨_, rfl⟩
          rw [hS] at go1 gsh gnx HStep
          obtain ⟨T, hT⟩ : ∃ T, n + S = T := ⟨_, rfl⟩
          rw [hT] at go1 gnx HStep
          have gsh2 : IntKind.u64.wrap ((G : Int) * 2 ^ (7 * (k : Int)).toNat) = (S : Int) := by rw [show (7 * (k : Int)).toNat = 7 * k by omega]; exact gsh
          have hk7 : IntKind.i64.wrap (7 * (k : Int)) = 7 * (k : Int) := by go_arith
          have HGN := Lib.hid gnx
          clear gnx hG hS hT go2 go3 hr1 hr2
          by_cases h128 : C < 128
          · rw [if_pos h128] at HStep
            have hd128 : decide ((C : Int) < 128) = true := decide_eq_true (by omega)
            by_cases hz : C = 0 ∧ 0 < k
            · rw [if_pos hz] at HStep
              obtain ⟨rfl, hk0⟩ := hz
              by_cases h9 : k = 9
              · subst h9
                have gsh9 : IntKind.u64.wrap ((G : Int) * 9223372036854775808) = (S : Int) := gsh
                go_wp2_with fail
                refine (no_any _ _ _ _ _ _ _).mono ?_
                rintro e w2 ⟨rfl, h2⟩
                obtain ⟨d0, d1, d2, d3, g0, g1, g2, g3⟩ := hr2'.below h2 (by simpa using hsz)
                go_wp2_with fail
                (try simp only [Exit.inBlock, Exit.then])
                refine bodyPost_ret (v := .tuple #[rdV s ((P : Int) + 1) 43 (p : Int), .int .u64 0]) (by simp [results, Tryz.results128, go_sem, d0, d1, d2, d3]) rfl ?_
                exact (HBad.out _ w2 43 (P + 1) HBm.out (by simp) HStep.out h2).2
              · have h9' : ((k : Int) == 9) = false := by simp; omega
                have hk0' : decide (0 < (k : Int)) = true := decide_eq_true (by omega)
                go_wp2_with fail
                refine (no_any _ _ _ _ _ _ _).mono ?_
                rintro e w2 ⟨rfl, h2⟩
                obtain ⟨d0, d1, d2, d3, g0, g1, g2, g3⟩ := hr2'.below h2 (by simpa using hsz)
                go_wp2_with fail
                (try simp only [Exit.inBlock, Exit.then])
                refine bodyPost_ret (v := .tuple #[rdV s ((P : Int) + 1) 43 (p : Int), .int .u64 0]) (by simp [results, Tryz.results128, go_sem, d0, d1, d2, d3]) rfl ?_
                exact (HBad.out _ w2 43 (P + 1) HBm.out (by simp) HStep.out h2).2
            · rw [if_neg hz] at HStep
              have HOk : Hid (VarEnds s p w (.returned (.tuple #[rdV s ((P : Int) + 1) 0 0, .int .u64 (T : Int)])) (((((wr.setCell ⟨b1, 1, none⟩ (.int .i64 ((P : Int) + 1))).setCell ⟨b2, 0, none⟩ (.string s)).setCell ⟨b2, 1, none⟩ (.int .i64 ((P : Int) + 1))).setCell ⟨b2, 2, none⟩ (.int .i64 0)).setCell ⟨b2, 3, none⟩ (.int .i64 0))) := Lib.hid
                ⟨by rw [hb1]; exact set4B HBm.out b2 (by omega) _ _ _ _, by rw [HStep.out]; exact rfl⟩
              obtain ⟨d0, d1, d2, d3, g0, g1, g2, g3⟩ := id hr2'
              by_cases h9 : k = 9
              · subst h9
                have gsh9 : IntKind.u64.wrap ((G : Int) * 9223372036854775808) = (S : Int) := gsh
                have hd1 : decide (1 < (C : Int)) = false := decide_eq_false (by omega)
                have hz' : ((C : Int) == 0) = false := by simp; omega
                go_wp2_with fail
                (try simp only [Exit.inBlock, Exit.then])
                refine bodyPost_ret (v := .tuple #[rdV s ((P : Int) + 1) 0 0, .int .u64 (T : Int)]) (by simp [results, Tryz.results128, go_sem, d0, d1, d2, d3, gan, gw, gsh9, go1]) rfl ?_
                exact HOk.out
              · have h9' : ((k : Int) == 9) = false := by simp; omega
                have hzz : (((C : Int) == 0) = false) ∨ (((C : Int) == 0) = true ∧ k = 0) := by
                  by_cases h0 : C = 0
                  · right; exact ⟨by simp [h0], by omega⟩
                  · left; simp; omega
                rcases hzz with hz' | ⟨hz', rfl⟩
                · go_wp2_with fail
                  (try simp only [Exit.inBlock, Exit.then])
                  refine bodyPost_ret (v := .tuple #[rdV s ((P : Int) + 1) 0 0, .int .u64 (T : Int)]) (by simp [results, Tryz.results128, go_sem, d0, d1, d2, d3, gan, gw, gsh, go1]) rfl ?_
                  exact HOk.out
                · have gsh0 : IntKind.u64.wrap (G : Int) = (S : Int) := by simpa using gsh
                  have hGS : (S : Int) = (G : Int) := by rw [← gsh0, gw]
                  rw [hGS] at go1
                  go_wp2_with fail
                  (try simp only [Exit.inBlock, Exit.then])
                  refine bodyPost_ret (v := .tuple #[rdV s ((P : Int) + 1) 0 0, .int .u64 (T : Int)]) (by simp [results, Tryz.results128, go_sem, d0, d1, d2, d3, go1]) rfl ?_
                  exact HOk.out
          · rw [if_neg h128] at HStep
            have hd128 : decide ((C : Int) < 128) = false := decide_eq_false (by omega)
            have h9 : ¬ k = 9 := fun h => hover ⟨h, by omega⟩
            have h9' : ((k : Int) == 9) = false := by simp; omega
            have hnx : 10 - (k + 1) = 9 - k := by omega
            go_wp2_with fail
            go_roundw
            case rel => exact ⟨k + 1, T, P + 1, by omega, by go_num, by simp [gan, gw, gsh, go1], HGN.out, hr1', hr2', HBm.out, by simpa using hsz, by rw [hnx]; exact HStep.out, by omega⟩
            case measure => simp [intOf]; omega
      · have hge : decide ((s.size : Int) ≤ (P : Int)) = true := decide_eq_true (by omega)
        have hget : s.data.toList[P]? = none := by
          rw [List.getElem?_eq_none]
          rw [Array.length_toList]; exact Nat.le_of_not_lt hend
        have hbad := varGo_none s.data.toList p (9 - k) k P n hget
        rw [show 9 - k + 1 = 10 - k by omega, ← HRD.out] at hbad
        have HB9 := Lib.hid hbad
        clear hbad hget
        go_wp2_with fail
        refine (no_any _ _ _ _ _ _ _).mono ?_
        rintro e w2 ⟨rfl, h2⟩
        obtain ⟨d0, d1, d2, d3, g0, g1, g2, g3⟩ := hr2.below h2 hsz
        go_wp2_with fail
        (try simp only [Exit.inBlock, Exit.then])
        refine bodyPost_ret (v := .tuple #[rdV s (P : Int) 42 (p : Int), .int .u64 0]) (by simp [results, Tryz.results128, go_sem, d0, d1, d2, d3]) rfl ?_
        exact (HBad.out wr w2 42 P HBel.out rfl HB9.out h2).2
    · obtain rfl : k = 10 := by omega
      have hbad : rdVar s.data.toList p = .bad 43 p := by rw [HRD.out]; rfl
      have HB9 := Lib.hid hbad
      clear hbad
      go_wp2_with fail
      refine (no_any _ _ _ _ _ _ _).mono ?_
      rintro e w2 ⟨rfl, h2⟩
      obtain ⟨d0, d1, d2, d3, g0, g1, g2, g3⟩ := hr2.below h2 hsz
      go_wp2_with fail
      (try simp only [Exit.inBlock, Exit.then])
      refine bodyPost_ret (v := .tuple #[rdV s (P : Int) 43 (p : Int), .int .u64 0]) (by simp [results, Tryz.results128, go_sem, d0, d1, d2, d3]) rfl ?_
      exact (HBad.out wr w2 43 P HBel.out rfl HB9.out h2).2
end Go.Proofs.YtidfgjgbigedeaaGreatDoor
end

section
namespace Go.Proofs.YtidfgjgbigedeaaGreatDoor
open Go.RowKit Go.Lib Go.Wq
set_option linter.unusedVariables false
set_option linter.unusedSimpArgs false
set_option maxRecDepth 100000

theorem x_fromB (b : Int) (w : World) : (callFunc 120 #[.int .u64 b]).run Tryz.prog w = .ok (.value (.float .f64 b.toNat)) w := by
  rw [run_callFunc_extern Tryz.func120 (by kernel_rfl) (by kernel_rfl) (by kernel_rfl) (e := Extern.MathFloatBits.float64frombits) (by kernel_rfl)]; rfl

/-- How reading eight bytes ends. -/
def FloatEnds (s : ByteArray) (p : Nat) (w : World) (e : Ending) (w' : World) : Prop :=
  Below w.heap.size w w' ∧ if s.size < p + 8 then ∃ a : Nat, e = .returned (.tuple #[rdV s a 42 p, .float .f64 0])
    else e = .returned (.tuple #[rdV s ((p + 8 : Nat) : Int) 0 0, .float .f64 (numOf ((s.data.toList.drop p).take 8) 0)])

set_option maxHeartbeats 2000000 in
theorem float_any (s : ByteArray) (p : Nat) (hs : s.size ≤ 9223372036854775807) (hp : p ≤ s.size) (w : World) :
    Calls Tryz.prog 129 #[rdV s (p : Int) 0 0] w (FloatEnds s p w) := by
  have hsub : IntKind.i64.wrap ((s.size : Int) - (p : Int)) = (s.size : Int) - (p : Int) := by go_arith
  by_cases hlt : s.size < p + 8
  · have hd : decide ((s.size : Int) - (p : Int) < 8) = true := decide_eq_true (by omega)
    have hF : ∀ (a : Nat) (w' : World), Below w.heap.size w w' → FloatEnds s p w (.returned (.tuple #[rdV s a 42 p, .float .f64 0])) w' := fun a w' hb => ⟨hb, by rw [if_pos hlt]; exact ⟨a, rfl⟩⟩
    have HF := Lib.hid hF
    clear hF
    have b0 := Lib.hid (below_2 w (.cells #[.string s, .int .i64 (p : Int), .int .i64 0, .int .i64 0] 118) (.cells #[.string ⟨#[]⟩, .int .i64 0, .int .i64 0, .int .i64 0] 118))
    have HR2 := Lib.hid (R4.first (w.alloc (.cells #[.string s, .int .i64 (p : Int), .int .i64 0, .int .i64 0] 118)) ⟨#[]⟩ 0 0 0 118)
    simp only [World.size_alloc] at HR2
    go_enter Tryz.func129, Tryz.ntmps129
    go_wp2_with fail
    refine (no_any _ _ _ _ _ _ _).mono ?_
    rintro e w2 ⟨rfl, h2⟩
    obtain ⟨d0, d1, d2, d3, g0, g1, g2, g3⟩ := HR2.out.below h2 (by simp)
    go_wp2_with fail
    (try simp only [Exit.inBlock, Exit.then])
    refine bodyPost_ret (v := .tuple #[rdV s (p : Int) 42 (p : Int), .float .f64 0]) (by simp [results, Tryz.results129, go_sem, d0, d1, d2, d3]) rfl ?_
    exact HF.out p _ (set4B (b0.out.trans (h2.mono (by simp; omega))) _ (by omega) _ _ _ _)
  · have hd : decide ((s.size : Int) - (p : Int) < 8) = false := decide_eq_false (by omega)
    have hF : ∀ (w' : World), Below w.heap.size w w' → FloatEnds s p w (.returned (.tuple #[rdV s ((p : Int) + 8) 0 0, .float .f64 (numOf ((s.data.toList.drop p).take 8) 0)])) w' := fun w' hb => ⟨hb, by rw [if_neg hlt]; exact rfl⟩
    have HF := Lib.hid hF
    have hl : s.data.toList.length = s.size := Array.length_toList
    clear hF
    have x_fromB := x_fromB
    go_enter Tryz.func129, Tryz.ntmps129
    go_wp2_with fail
    go_loop [4, 5] (fun v i => ∃ j : Nat, j ≤ 8 ∧ i = .int .i64 j ∧ v = .int .u64 ((numOf ((s.data.toList.drop p).take j) 0 : Nat) : Int)) (fun _ i => 8 - (intOf i).toNat)
    case atStart => exact ⟨0, by omega, rfl, rfl⟩
    case round =>
      obtain ⟨j, hj, rfl, rfl⟩ := hrel
      by_cases hj8 : j < 8
      · have hpj : p + j < s.data.toList.length := by omega
        obtain ⟨n1, n2⟩ := num_next s.data.toList p j hpj hj8
        obtain ⟨C, hC⟩ : ∃ C : Nat, ((s.data.toList[p + j]'hpj).toNat : Int) = (C : Int) := ⟨_, rfl⟩
        have hCn : (s.data.toList[p + j]'hpj).toNat = C := by exact_mod_cast hC
        have hC2 : ((s[p + j]'(by omega)).toNat : Int) = (C : Int) := hC
        have hC256 : C < 256 := by rw [← hCn]; exact (s.data.toList[p + j]'hpj).toNat_lt
        rw [hCn] at n1
        have g1 := shl8 _ n2
        have g2 := byte_or _ C n2 hC256
        have HN := Lib.hid n1
        generalize numOf ((s.data.toList.drop p).take j) 0 = n at *
        obtain ⟨S, hS⟩ : ∃ S, n * 256 = S := ⟨_, rfl⟩
        rw [hS] at g1 g2
        obtain ⟨T, hT⟩ : ∃ T, S + C = T := ⟨_, rfl⟩
        rw [hT] at g2
        have hw : IntKind.u64.wrap (C : Int) = (C : Int) := by rw [IntKind.wrap_u64]; omega
        have hadd : IntKind.i64.wrap ((p : Int) + (j : Int)) = (p : Int) + (j : Int) := by go_arith
        have hlt2 : p + j < s.size := by omega
        have HT := Lib.hid (show numOf ((s.data.toList.drop p).take (j + 1)) 0 = T by rw [HN.out, hS, hT])
        clear n1 n2 hS hT hC hCn
        go_wp2_with fail
        exact ⟨⟨j + 1, by omega, by go_num, by rw [HT.out]⟩, by simp [intOf]; omega⟩
      · obtain rfl : j = 8 := by omega
        generalize numOf ((s.data.toList.drop p).take 8) 0 = n at *
        go_wp2_with fail
        go_region_with (fail)
        all_goals go_wp2_with fail
        all_goals
          (try simp only [Exit.inBlock, Exit.then])
          refine bodyPost_ret (v := .tuple #[rdV s ((p : Int) + 8) 0 0, .float .f64 n]) (by simp [results, Tryz.results129, go_sem]) rfl ?_
          exact HF.out _ (below_2 _ _ _).drew
end Go.Proofs.YtidfgjgbigedeaaGreatDoor
end
