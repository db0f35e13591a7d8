/- Gauges: Run: what it answers, in plain words; the program's holding. -/
import Derived.Test.YtbgnheckoijmeaaGaJ
import Derived.Test.YtbgnheckoijmeaaFqO
namespace Go.Proofs.Ytbgnheckoijmeaa
open Go.Fq Go.RowKit
open Go.Iq (below_next block_lt)
set_option linter.unusedVariables false
set_option linter.unusedSimpArgs false

/-- The weight that holds behind those that held. -/
def heldF (held : List Nat) (g : Int × Nat × Nat) : Nat := if held.length = 0 then (costF g.1 g.2.1 g.2.2).1 else (holdF (held.getD (held.length - 1) 0) (costF g.1 g.2.1 g.2.2).1).1

/-- A run: what held, the gauge. -/
def runStep (st : List Nat × (Int × Nat × Nat)) (z : Nat) : List Nat × (Int × Nat × Nat) :=
  if (feedF st.2.1 st.2.2.1 st.2.2.2 z).2 = 0 then (st.1 ++ [heldF st.1 (feedF st.2.1 st.2.2.1 st.2.2.2 z).1], (feedF st.2.1 st.2.2.1 st.2.2.2 z).1) else st
def runTo (zs : List Nat) : Nat → List Nat × (Int × Nat × Nat)
  | 0 => ([], 0, 0, 0)
  | k + 1 => runStep (runTo zs k) (zs.getD k 0)

theorem holdF_lt (a b : Nat) (hb : b < 2 ^ 64) (ha : a < 2 ^ 64) : (holdF a b).1 < 2 ^ 64 := holdF_fin a b ha hb
theorem costF_lt (n : Int) (m v : Nat) : (costF n m v).1 < 2 ^ 64 := by
  unfold costF
  split
  · rename_i h
    obtain ⟨_, hm, _⟩ := chkF_ok h
    split
    · show (0 : Nat) < _; omega
    · have hle := (cost_add (m := m) (v := v) hm).2
      exact (roundF_good (costS m v) (by unfold infR at hle; omega)).1
  · show (0 : Nat) < _; omega
theorem heldF_lt (held : List Nat) (g : Int × Nat × Nat) (h : ∀ z ∈ held, z < 2 ^ 64) : heldF held g < 2 ^ 64 := by
  unfold heldF
  split
  · exact costF_lt _ _ _
  · rename_i hne
    refine holdF_fin _ _ ?_ (costF_lt _ _ _)
    have hl : held.length - 1 < held.length := by omega
    rw [List.getD_eq_getElem?_getD, List.getElem?_eq_getElem hl, Option.getD_some]
    exact h _ (List.getElem_mem _)

/-- What a run keeps. -/
structure RunOk (st : List Nat × (Int × Nat × Nat)) (k : Nat) : Prop where
  len : st.1.length ≤ k
  fin : ∀ z ∈ st.1, z < 2 ^ 64
  n : st.2.1 ≤ 9223372036854775807
  m : st.2.2.1 < 2 ^ 64
  v : st.2.2.2 < 2 ^ 64
theorem runTo_ok (zs : List Nat) (k : Nat) : RunOk (runTo zs k) k := by
  induction k with
  | zero => exact ⟨Nat.le_refl _, fun z hz => (nomatch hz), by show (0 : Int) ≤ _; omega, by show (0 : Nat) < _; omega, by show (0 : Nat) < _; omega⟩
  | succ k ih =>
    obtain ⟨h1, h2, h3, h4, h5⟩ := ih
    unfold runTo
    generalize runTo zs k = st at *
    obtain ⟨held, N, M, V⟩ := st
    show RunOk (runStep (held, N, M, V) (zs.getD k 0)) (k + 1)
    unfold runStep
    show RunOk (if (feedF N M V (zs.getD k 0)).2 = 0 then (held ++ [heldF held (feedF N M V (zs.getD k 0)).1], (feedF N M V (zs.getD k 0)).1) else (held, N, M, V)) (k + 1)
    have hk := fun N' M' V' E => @feed_keeps N N' M V (zs.getD k 0) M' V' E h3
    generalize feedF N M V (zs.getD k 0) = r at *
    obtain ⟨⟨N', M', V'⟩, E⟩ := r
    have hi : infR < 2 ^ 64 := by unfold infR; omega
    split
    · rename_i he
      rcases hk N' M' V' E rfl with ⟨_, a, b, c, d⟩ | hne
      · refine ⟨by rw [List.length_append]; exact Nat.add_le_add_right h1 1, ?_, b, by show M' < _; omega, by show V' < _; omega⟩
        intro z hz
        rcases List.mem_append.1 hz with g | g
        · exact h2 z g
        · rw [List.mem_singleton.1 g]; exact heldF_lt _ _ h2
      · exact absurd he hne
    · exact ⟨Nat.le_succ_of_le h1, h2, h3, h4, h5⟩

set_option maxHeartbeats 1000000 in
theorem holding_any (a : Option Addr) (len cap : Nat) (held : List Nat) (n : Int) (m v : Nat) (w : World) (hI : IsFloats w a len held) (hl : len ≤ 9223372036854775807) (hm : m < 2 ^ 64) (hv : v < 2 ^ 64) :
    Calls Try.prog 36 #[.slice a len cap, gaug n m v] w fun e w' => e = .returned (.float .f64 (heldF held (n, m, v))) ∧ Below w.heap.size w w' := by
  have HC := Lib.hid (fun w => cost_any n m v hm hv w)
  have b0 : Below w.heap.size w (w.alloc (.cells #[.int .i64 n, .float .f64 m, .float .f64 v] 24)) := (Below.refl _ _).alloc (Nat.le_refl _) _
  have hc64 := costF_lt n m v
  unfold heldF
  by_cases h0 : len = 0
  · rw [if_pos (by rw [hI.1]; exact h0)]
    subst h0
    clear hI hm hv hc64
    show Calls _ _ _ _ fun e w' => e = .returned (.float .f64 (costF n m v).1) ∧ _
    generalize costF n m v = r at *
    obtain ⟨c, E⟩ := r
    go_enter Try.func36, Try.ntmps36
    go_wp2_with fail
    refine (HC.out _).mono ?_
    rintro e w1 ⟨rfl, b1⟩
    go_wp2_with fail
    go_ret
    exact ⟨rfl, b0.trans (b1.mono (by simp))⟩
  · rw [if_neg (by rw [hI.1]; exact h0), hI.1]
    obtain ⟨b, off, rfl, hc⟩ := hI.2.2 (by omega)
    have c := hc (len - 1) (by omega)
    have h64 : held.getD (len - 1) 0 < 2 ^ 64 := by
      have hl : len - 1 < held.length := by rw [hI.1]; omega
      rw [List.getD_eq_getElem?_getD, List.getElem?_eq_getElem hl, Option.getD_some]; exact hI.2.1 _ (List.getElem_mem _)
    have hb := block_lt c
    have HH := Lib.hid (fun w => hold_any (held.getD (len - 1) 0) (costF n m v).1 h64 hc64 w)
    clear hI hc hm hv hc64 h64
    generalize held.getD (len - 1) 0 = z at *
    show Calls _ _ _ _ fun e w' => e = .returned (.float .f64 (holdF z (costF n m v).1).1) ∧ _
    generalize costF n m v = r at *
    obtain ⟨cw, E⟩ := r
    show Calls _ _ _ _ fun e w' => e = .returned (.float .f64 (holdF z cw).1) ∧ _
    generalize holdF z cw = r at *
    obtain ⟨W, E2⟩ := r
    have hcast : ((len - 1 : Nat) : Int) = (len : Int) - 1 := by omega
    have hlen1 : (0 : Int) ≤ (len : Int) - 1 := by omega
    go_enter Try.func36, Try.ntmps36
    go_wp2_with fail
    refine (HC.out _).mono ?_
    rintro e w1 ⟨rfl, b1⟩
    have c1 : w1.cell? ⟨b, off + (len - 1), none⟩ = some (.float .f64 z) := by
      rw [b1.cell (p := ⟨b, off + (len - 1), none⟩) (by simp; omega), b0.cell (p := ⟨b, off + (len - 1), none⟩) hb]; exact c
    go_wp2_with (go_at_call 18; refine (HH.out _).mono ?_; rintro e w' ⟨rfl, rfl⟩)
    go_ret
    exact ⟨rfl, b0.trans (b1.mono (by simp))⟩
end Go.Proofs.Ytbgnheckoijmeaa
