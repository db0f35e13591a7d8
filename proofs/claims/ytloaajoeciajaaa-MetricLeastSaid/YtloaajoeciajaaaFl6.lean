/- The law on the first least one. -/
import Derived.Test.YtloaajoeciajaaaFl5
import Derived.OwnWalk
import Derived.Test.YtloaajoeciajaaaFqS
import Derived.Laws.OwnMore
import Derived.Deep.AppendLies
import Derived.Laws.AppendOwnNone
namespace Go.Proofs.Ytloaajoeciajaaa
open Go.Fq Go.RowKit
theorem info_float : (Try.prog.info? 22).map (fun i => (i.zero, i.size, i.bytes)) = some (some (.float .f64 0), 1, 8) := by kernel_rfl
theorem below_drewN {B : Nat} {a w : World} (h : Below B a w) (n : Nat) : Below B a (w.drewN n) := h.trans ⟨rfl, rfl, rfl, Nat.le_refl _, fun _ _ => rfl⟩
theorem block_lt {w : World} {p : Addr} {v : Value} (h : w.cell? p = some v) : p.block < w.heap.size := by
  rcases Nat.lt_or_ge p.block w.heap.size with g | g
  · exact g
  · have : w.heap[p.block]? = none := by simp [g]
    simp [World.cell?, this] at h
theorem same_q (a b : Nat) (w : World) : Calls Try.prog 19 #[.float .f64 a, .float .f64 b] w fun e w' => e = .returned (.bool ((a : Int) == (b : Int))) ∧ w' = w :=
  (same_any a b w).mono fun _ _ h => ⟨h.1, h.2.symm⟩

set_option maxHeartbeats 1000000 in
theorem law_least_pos (b off len cap : Nat) (zs : List Nat) (w : World) (hr : len * 8 ≤ 140737488351232) (hp : 0 < len) (hz : zs.length = len) (hc : ∀ i, i < len → w.cell? ⟨b, off + i, none⟩ = some (.float .f64 (zs.getD i 0))) :
    Calls Try.prog 8 #[.slice (some ⟨b, off, none⟩) len cap] w fun e w' => e = .returned (.bool true) ∧ Below w.heap.size w w' := by
  obtain ⟨i0, hi, hz0, hz1, hz2⟩ := info_parts info_float
  have hb : b < w.heap.size := block_lt (hc 0 hp)
  have hown : (w.alloc (.cells #[] 22)).ownsRow w.heap.size 22 1 (.slice (some ⟨w.heap.size, 0, none⟩) 0 0) 0 [] :=
    ⟨rfl, .inr ⟨w.heap.size, 0, #[], rfl, Nat.le_refl _, heap_alloc_new w _, Nat.le_refl _, by simp [maxLen], rfl, rfl⟩⟩
  have hnews : ∀ j u, (zs.map (Value.float .f64))[j]? = some u → (w.alloc (.cells #[] 22)).cell? ((⟨b, off, none⟩ : Addr).add j) = some u := by
    intro j u hj
    have hjl : j < len := by
      have := (List.getElem?_eq_some_iff.1 hj).1; simpa [hz] using this
    rw [((Below.refl w.heap.size w).alloc (Nat.le_refl _) _).cell (by simpa [Addr.add] using (by split <;> simpa using hb))]
    have := hc j hjl
    have e : ((⟨b, off, none⟩ : Addr).add j) = ⟨b, off + j, none⟩ := by unfold Addr.add; split <;> simp_all
    rw [e, this, ← hj]
    simp [List.getD, List.getElem?_eq_getElem (show j < zs.length by omega)]
  have hc1 : ∀ u ∈ zs.map (Value.float .f64), u.oneCell' = true := by
    intro u hu
    obtain ⟨z, _, rfl⟩ := List.mem_map.1 hu
    rfl
  have HC := Lib.hid hc; clear hc
  have HNW := Lib.hid hnews; clear hnews
  have HC1 := Lib.hid hc1; clear hc1
  have HZ := Lib.hid hz; clear hz
  go_enter Try.func8, Try.ntmps8
  go_wp2_with (at_builtin; refine wpList_append_own _ rfl _ _ 32 rfl w.heap.size 22 i0 (.float .f64 0) 1 8 Try.underlying32 hi hz0 hz1 hz2 rfl (by decide) _ 0 [] rfl hown ⟨b, off, none⟩ len cap (zs.map (Value.float .f64)) rfl (by simp [HZ.out]) HNW.out HC1.out (by unfold maxLen; omega) (by omega) (by simp) ?_)
  intro v' w1 hown' hgrow _
  obtain ⟨g, cap', rfl, hg1, hg2⟩ := hown'.form hp
  have hbel : Below w.heap.size w w1 := ((Below.refl _ _).alloc (Nat.le_refl _) _).grown hgrow (by simp) (by intro k hk; simp [Value.ownBlock] at hk; omega)
  have hcO : ∀ i, i < len → w1.cell? ⟨g, 0 + i, none⟩ = some (.float .f64 (zs.getD i 0)) := by
    intro i hi
    rw [Nat.zero_add, hown'.cellAt i (by omega)]
    have := HZ.out
    simp [List.getD, List.getElem?_eq_getElem (show i < zs.length by omega)]
  have hcL : ∀ i, i < len → w1.cell? ⟨b, off + i, none⟩ = some (.float .f64 (zs.getD i 0)) := fun i hi => (hbel.cell (by exact hb)).trans (HC.out i hi)
  clear hown' hgrow hown hi hz0 hz1 hz2
  have HO := Lib.hid hcO; clear hcO
  have HL := Lib.hid hcL; clear hcL
  have HB := Lib.hid hbel; clear hbel
  go_wp2_with (go_at_call 24; refine (least_row g 0 len cap' zs w1 (by omega) HO.out).mono ?_; rintro e w' ⟨rfl, rfl⟩)
  go_loopw [5] (fun i wr => ∃ k n : Nat, k ≤ len ∧ i = .int .i64 k ∧ wr = w1.drewN n) (fun i _ => len - (intOf i).toNat)
  case atStart => exact ⟨0, 0, Nat.zero_le _, rfl, rfl⟩
  case round =>
    obtain ⟨k, n, hk, rfl, hwr⟩ := hrel
    by_cases hlt : k < len
    · have h1 : wr.cell? ⟨g, k, none⟩ = some (.float .f64 (zs.getD k 0)) := by rw [hwr]; simpa using HO.out k hlt
      have h2 : wr.cell? ⟨b, off + k, none⟩ = some (.float .f64 (zs.getD k 0)) := by rw [hwr]; exact HL.out k hlt
      have HW := Lib.hid hwr; clear hwr
      generalize zs.getD k 0 = z at h1 h2
      go_wp2
      go_quiet ((go_at_call 19; exact Calls.quiet_of_same (same_q _ _ _)))
      go_wp2
      go_roundw
      case rel => exact ⟨k + 1, _, by omega, by go_num, by rw [HW.out, World.drewN_drewN]⟩
      case measure => simp [intOf]; omega
    · have hke : k = len := by omega
      subst hke
      have hcR : ∀ i, i < k → wr.cell? ⟨b, off + i, none⟩ = some (.float .f64 (zs.getD i 0)) := by rw [hwr]; exact HL.out
      have HR := Lib.hid hcR; clear hcR
      have HW := Lib.hid hwr; clear hwr
      go_wp2_with (first | (go_at_call 25; refine (refleast_row b off k cap zs wr (by omega) HR.out).mono ?_; rintro e w' ⟨rfl, m, rfl⟩) | (go_at_call 14; refine (awake_any _).mono ?_; rintro e w' ⟨rfl, rfl⟩))
      go_ret
      exact ⟨rfl, by rw [HW.out]; exact below_drewN (below_drewN HB.out _) _⟩

theorem least_zero (ao : Option Addr) (cap : Nat) (w : World) : Calls Try.prog 24 #[.slice ao 0 cap] w fun e w' => e = .returned (.int .i64 (-1)) ∧ w = w' := by
  go_enter Try.func24, Try.ntmps24
  go_wp2
  refine wp_loop_rounds 1 ?_
  rw [rounds_succ]
  go_wp2
  go_ret
  exact ⟨rfl, rfl⟩
theorem refleast_zero (ao : Option Addr) (cap : Nat) (w : World) : Calls Try.prog 25 #[.slice ao 0 cap] w fun e w' => e = .returned (.int .i64 (-1)) ∧ w = w' := by
  go_enter Try.func25, Try.ntmps25
  go_wp2
  refine wp_loop_rounds 1 ?_
  rw [rounds_succ]
  go_wp2
  go_ret
  exact ⟨rfl, rfl⟩

set_option maxHeartbeats 1000000 in
theorem law_least_zero (ao : Option Addr) (cap : Nat) (w : World) :
    Calls Try.prog 8 #[.slice ao 0 cap] w fun e w' => e = .returned (.bool true) ∧ Below w.heap.size w w' := by
  obtain ⟨i0, hi, hz0, hz1, hz2⟩ := info_parts info_float
  have hown : (w.alloc (.cells #[] 22)).ownsRow w.heap.size 22 1 (.slice (some ⟨w.heap.size, 0, none⟩) 0 0) 0 [] :=
    ⟨rfl, .inr ⟨w.heap.size, 0, #[], rfl, Nat.le_refl _, heap_alloc_new w _, Nat.le_refl _, by simp [maxLen], rfl, rfl⟩⟩
  cases ao with
  | none =>
    go_enter Try.func8, Try.ntmps8
    go_wp2_with (go_at_call 24; refine (least_zero _ _ _).mono ?_; rintro e w' ⟨rfl, rfl⟩)
    refine wp_loop_rounds 1 ?_
    rw [rounds_succ]
    go_wp2_with (first | (go_at_call 25; refine (refleast_zero _ _ _).mono ?_; rintro e w' ⟨rfl, rfl⟩) | (go_at_call 14; refine (awake_any _).mono ?_; rintro e w' ⟨rfl, rfl⟩))
    go_ret
    exact ⟨rfl, (Below.refl _ _).alloc (Nat.le_refl _) _⟩
  | some ad =>
    go_enter Try.func8, Try.ntmps8
    go_wp2_with (at_builtin; refine wpList_append_own _ rfl _ _ 32 rfl w.heap.size 22 i0 (.float .f64 0) 1 8 Try.underlying32 hi hz0 hz1 hz2 rfl (by decide) _ 0 [] rfl hown ad 0 cap [] rfl (by simp) (by simp) (by simp) (by unfold maxLen; omega) (by omega) (by simp) ?_)
    intro v' w1 hown' hgrow hne
    have hbel : Below w.heap.size w w1 := ((Below.refl _ _).alloc (Nat.le_refl _) _).grown hgrow (by simp) (by intro k hk; simp [Value.ownBlock] at hk; omega)
    rcases hown'.2 with ⟨hv, _⟩ | ⟨g, cap', cur, rfl, _⟩
    · exact absurd hv hne
    clear hown' hgrow hown hi hz0 hz1 hz2 hne
    have HB := Lib.hid hbel; clear hbel
    go_wp2_with (go_at_call 24; refine (least_zero _ _ _).mono ?_; rintro e w' ⟨rfl, rfl⟩)
    refine wp_loop_rounds 1 ?_
    rw [rounds_succ]
    go_wp2_with (first | (go_at_call 25; refine (refleast_zero _ _ _).mono ?_; rintro e w' ⟨rfl, rfl⟩) | (go_at_call 14; refine (awake_any _).mono ?_; rintro e w' ⟨rfl, rfl⟩))
    go_ret
    exact ⟨rfl, HB.out⟩

theorem law_least (ao : Option Addr) (len cap : Nat) (zs : List Nat) (W : World) (h : IsFloats W ao len zs) (hr : len * 8 ≤ 140737488351232) :
    Calls Try.prog 8 #[.slice ao len cap] W fun e w' => e = .returned (.bool true) ∧ Below W.heap.size W w' := by
  by_cases hp : 0 < len
  · obtain ⟨b, off, rfl, hc⟩ := h.2.2 hp
    exact law_least_pos b off len cap zs W hr hp h.1 hc
  · obtain rfl : len = 0 := by omega
    exact law_least_zero ao cap W
end Go.Proofs.Ytloaajoeciajaaa
