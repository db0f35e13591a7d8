/- Gauges: lists the same; the law of runs. -/
import Derived.Test.YtbgnheckoijmeaaGaM
import Derived.Test.YtbgnheckoijmeaaGaF
namespace Go.Proofs.Ytbgnheckoijmeaa
open Go.Fq Go.RowKit Go.Lib
open Go.Iq (below_next block_lt)
set_option linter.unusedVariables false
set_option linter.unusedSimpArgs false

theorem same_q (a b : Nat) (w : World) : Calls Try.prog 17 #[.float .f64 a, .float .f64 b] w fun e w' => e = .returned (.bool ((a : Int) == (b : Int))) ∧ w' = w :=
  (same_any a b w).mono fun _ _ h => ⟨h.1, h.2.symm⟩

set_option maxHeartbeats 1000000 in
theorem sameAll_any (a c : Option Addr) (len ca cc : Nat) (zs : List Nat) (w : World) (h1 : IsFloats w a len zs) (h2 : IsFloats w c len zs) (hl : len ≤ 9223372036854775807) :
    Calls Try.prog 22 #[.slice a len ca, .slice c len cc] w fun e w' => e = .returned (.bool true) ∧ ∃ n, w' = w.drewN n := by
  have H1 := Lib.hid h1
  have H2 := Lib.hid h2
  clear h1 h2
  go_enter Try.func22, Try.ntmps22
  go_wp2_with fail
  go_loopw [5] (fun i wr => ∃ k n : Nat, k ≤ len ∧ i = .int .i64 k ∧ wr = w.drewN n) (fun i _ => len - (intOf i).toNat)
  case atStart => exact ⟨0, 0, Nat.zero_le _, rfl, rfl⟩
  case round =>
    obtain ⟨k, n, hk, rfl, hwr⟩ := hrel
    by_cases hlt : k < len
    · obtain ⟨b, off, rfl, hc⟩ := H1.out.2.2 (by omega)
      obtain ⟨b', off', rfl, hc'⟩ := H2.out.2.2 (by omega)
      have c1 : wr.cell? ⟨b, off + k, none⟩ = some (.float .f64 (zs.getD k 0)) := by rw [hwr]; exact hc k hlt
      have c2 : wr.cell? ⟨b', off' + k, none⟩ = some (.float .f64 (zs.getD k 0)) := by rw [hwr]; exact hc' k hlt
      have HW := Lib.hid hwr
      clear hwr hc hc'
      generalize zs.getD k 0 = z at *
      have hz : ((z : Int) == (z : Int)) = true := by simp
      go_wp2
      go_quiet ((go_at_call 17; exact Calls.quiet_of_same (same_q _ _ _)))
      go_wp2
      go_roundw
      case rel => exact ⟨k + 1, _, by omega, by go_num, by rw [HW.out, World.drewN_drewN]⟩
      case measure => simp [intOf]; omega
    · obtain rfl : k = len := by omega
      have HW := Lib.hid hwr
      clear hwr
      go_wp2
      go_ret
      exact ⟨rfl, ⟨n, HW.out⟩⟩

theorem sameAll_bel (a c : Option Addr) (len ca cc : Nat) (zs : List Nat) (w : World) (h1 : IsFloats w a len zs) (h2 : IsFloats w c len zs) (hl : len ≤ 9223372036854775807) :
    Calls Try.prog 22 #[.slice a len ca, .slice c len cc] w fun e w' => e = .returned (.bool true) ∧ Below w.heap.size w w' :=
  (sameAll_any a c len ca cc zs w h1 h2 hl).mono fun _ _ ⟨he, n, hw⟩ => ⟨he, by rw [hw]; exact Go.Iq.below_drewN (Below.refl _ _) n⟩

set_option maxHeartbeats 4000000 in
theorem law_runs (a : Option Addr) (len cap : Nat) (zs : List Nat) (w : World) (hI : IsFloats w a len zs) (hr : len * 8 ≤ 140737488351232) (hn : a = none → cap = 0) :
    Calls Try.prog 6 #[.slice a len cap] w fun e w' => e = .returned (.bool true) ∧ Below w.heap.size w w' := by
  have hst := g_store
  obtain ⟨i0, hi, hz0, hz1, hz2⟩ : ∃ i0, Try.prog.info? 22 = some i0 ∧ i0.zero = some (.float .f64 0) ∧ i0.size = 1 ∧ i0.bytes = 8 := by
    have h := infoFloat
    cases hi : Try.prog.info? 22 with
    | none => rw [hi] at h; cases h
    | some i =>
      rw [hi, Option.map_some, Option.some.injEq, Prod.mk.injEq, Prod.mk.injEq] at h
      exact ⟨i, rfl, h.1, h.2.1, h.2.2⟩
  have h1 := World.ownsRow_lit (base := w.heap.size) (e := 22) (size := 1) w #[] 0 (Nat.le_refl _) (by unfold maxLen; omega) rfl
  have hI1 : IsFloats (w.alloc (.cells #[] 22)) a len zs := hI.below ((Below.refl _ _).alloc (Nat.le_refl _) _)
  have HI := Lib.hid hI
  clear hI
  go_enter Try.func6, Try.ntmps6
  go_wp2_with (at_builtin; refine wpList_append_floats _ rfl _ _ 37 rfl w.heap.size 22 i0 Try.underlying37 hi hz0 hz1 hz2 _ 0 [] rfl h1 a len cap zs rfl hI1 hn (by unfold maxLen; omega) (by omega) (by simp) ?_; intro v1 w1 hown1 (hgrow1 : World.grownBy _ _ (Value.slice (some ⟨w.heap.size, 0, none⟩) 0 0).ownBlock); have HO1 := Lib.hid hown1; have HG1 := Lib.hid hgrow1; clear hown1 hgrow1)
  have hb1 : Below w.heap.size w w1 := Below.grown ((Below.refl _ _).alloc (Nat.le_refl _) _) HG1.out (by simp) (fun j hj => by cases hj; exact Nat.le_refl _)
  obtain ⟨a1, c1, rfl, _, hf1, _⟩ := floats_of_own (zs := zs) (n := len) (by simpa using HO1.out) HI.out.2.1
  have hfa := HI.out.below hb1
  refine (run_prog a1 len c1 zs w1 hf1 hr).mono ?_
  rintro e w2 ⟨ao, co, rfl, hfo, b2⟩
  have hpl : (runTo zs len).1.length ≤ len := (runTo_ok zs len).len
  have HRef := Lib.hid (fun w hI => run_ref a len cap zs w hI hr)
  have hfin : ∀ z ∈ (runTo zs len).1, z < 2 ^ 64 := (runTo_ok zs len).fin
  generalize runTo zs len = st at *
  obtain ⟨held, N, M, V⟩ := st
  try simp only at hfo
  have hs2 := b2.size
  have hb2 : Below w.heap.size w w2 := below_next hb1 b2
  have hf12 := hf1.below b2
  have hfa2 := hfa.below b2
  go_wp2_with fail
  refine (HRef.out _ (hfa2.below ((Below.refl _ _).alloc (Nat.le_refl _) _))).mono ?_
  rintro e w3 ⟨ap, cp, rfl, hfp, b3⟩
  try simp only at hfp
  have hs3 := b3.size
  simp only [World.size_alloc] at hs3
  have hal := (Below.refl w2.heap.size w2).alloc (Nat.le_refl _) (.cells #[.int .i64 N, .float .f64 M, .float .f64 V] 24)
  have hb3 : Below w.heap.size w w3 := below_next (below_next hb2 hal) b3
  have hfo3 := (hfo.below hal).below b3
  have hf13 := (hf12.below hal).below b3
  have hfa3 := (hfa2.below hal).below b3
  have hg3 := (G3.first w2 N M V 24).below b3 (by simp)
  have hal3 := (Below.refl w3.heap.size w3).alloc (Nat.le_refl _) (.cells #[.int .i64 N, .float .f64 M, .float .f64 V] 24)
  have hg3' := hg3.below hal3 (by omega)
  have hh3 := G3.first w3 N M V 24
  have hfo4 := hfo3.below hal3
  have hfp4 := hfp.below hal3
  have hf14 := hf13.below hal3
  have hfa4 := hfa3.below hal3
  have hb4 : Below w.heap.size w (w3.alloc (.cells #[.int .i64 N, .float .f64 M, .float .f64 V] 24)) := below_next hb3 hal3
  go_wp2_with fail
  generalize hw4 : w3.alloc (.cells #[.int .i64 N, .float .f64 M, .float .f64 V] 24) = w4 at *
  have hs4 : w3.heap.size < w4.heap.size := by rw [← hw4]; simp
  clear hw4
  refine (sameAll_bel ao ap _ _ _ held w4 hfo4 hfp4 (by omega)).mono ?_
  rintro e w5 ⟨rfl, b5⟩
  have hs5 := b5.size
  obtain ⟨c0, c1, c2, _⟩ := hg3'.below b5 (by omega)
  obtain ⟨d0, d1, d2, _⟩ := hh3.below b5 (by omega)
  go_wp2_with fail
  refine (same5_any N M V _).mono ?_
  rintro e w6 ⟨rfl, b6⟩
  have hb6 : Below w.heap.size w w6 := below_next (below_next hb4 b5) b6
  go_wp2_with fail
  refine (sameAll_bel a1 a len _ _ zs w6 ((hf14.below b5).below b6) ((hfa4.below b5).below b6) (by omega)).mono ?_
  rintro e w7 ⟨rfl, b7⟩
  go_wp2_with fail
  refine (awake5_any _).mono ?_
  rintro e w8 ⟨rfl, b8⟩
  go_wp2_with fail
  go_ret
  exact ⟨rfl, below_next (below_next hb6 b7) b8⟩
end Go.Proofs.Ytbgnheckoijmeaa
