/- Copies, comparisons of lists. -/
import Derived.Test.YtgcoiabfejhgkaaDoorIdC
import Derived.Laws.AppendOwn
import Derived.Laws.AppendOwnNone
import Derived.OwnWalk
namespace Go.Proofs.YtgcoiabfejhgkaaDoor
open Go.RowKit Go.Lib Go.Iq
set_option linter.unusedVariables false

theorem infoInt : (Tryd.prog.info? 3).map (fun i => (i.zero, i.size, i.bytes)) = some (some (.int .i64 0), 1, 8) := by kernel_rfl

set_option maxHeartbeats 1000000 in
set_option maxRecDepth 100000 in
theorem copied_any (a : Option Addr) (len cap : Nat) (zs : List Int) (w : World) (hI : IsInts w a len zs) (hn : a = none → cap = 0) (hl : len * 8 ≤ 140737488355328) :
    Calls Tryd.prog 26 #[.slice a len cap] w fun e w' => ∃ a' cap', e = .returned (.slice a' len cap') ∧ w'.ownsRow w.heap.size 3 1 (.slice a' len cap') len (zs.map (Value.int .i64)) ∧ Below w.heap.size w w' := by
  obtain ⟨i0, hi, hz0, hz1, hz2⟩ := info_parts infoInt
  have HI := Lib.hid hI
  have HZ := Lib.hid hI.1
  clear hI
  cases a with
  | none =>
    have h0 : len = 0 := by
      rcases Nat.eq_zero_or_pos len with h | h
      · exact h
      · obtain ⟨b, off, h1, _⟩ := HI.out.2 h; cases h1
    obtain rfl := hn rfl
    subst h0
    have hz : zs = [] := List.eq_nil_of_length_eq_zero HZ.out
    subst hz
    go_enter Tryd.func26, Tryd.ntmps26
    go_wp2_with (at_builtin; refine wpList_append_own_none rfl _ _ 37 rfl w.heap.size 3 i0 1 Tryd.underlying37 hi _ 0 [] rfl (World.ownsRow_nil _ _ _ _) rfl ?_)
    go_ret
    exact ⟨none, 0, rfl, World.ownsRow_nil _ _ _ _, Below.refl _ _⟩
  | some x =>
    have hnews : ∀ j u, (zs.map (Value.int .i64))[j]? = some u → w.cell? (x.add j) = some u := by
      intro j u hj
      have hjl : j < zs.length := by
        rcases Nat.lt_or_ge j zs.length with h | h
        · exact h
        · rw [List.getElem?_eq_none (by simpa using h)] at hj; cases hj
      obtain ⟨b, off, hx, hc⟩ := HI.out.2 (by rw [← HZ.out]; omega)
      cases hx
      have := hc j (by rw [← HZ.out]; exact hjl)
      rw [show (⟨b, off, none⟩ : Addr).add j = ⟨b, off + j, none⟩ by unfold Addr.add; split <;> simp_all, this]
      rw [List.getElem?_map, List.getElem?_eq_getElem hjl, Option.map_some] at hj
      rw [← hj, getD_get zs j 0 hjl]
    have HN := Lib.hid hnews; clear hnews
    have H63 : Hid (0 + len ≤ maxLen) := Lib.hid (by unfold maxLen; omega)
    have H47 : Hid ((0 + len) * 8 ≤ 140737488355328) := Lib.hid (by rw [Nat.zero_add]; exact hl)
    go_enter Tryd.func26, Tryd.ntmps26
    go_wp2_with (at_builtin; refine wpList_append_own _ rfl _ _ 37 rfl w.heap.size 3 i0 (.int .i64 0) 1 8 Tryd.underlying37 hi hz0 hz1 hz2 rfl (by decide) _ 0 [] rfl (World.ownsRow_nil _ _ _ _) x len cap (zs.map (Value.int .i64)) rfl (by rw [List.length_map, HZ.out, Nat.mul_one]) HN.out (by intro u hu; obtain ⟨z, _, rfl⟩ := List.mem_map.1 hu; rfl) H63.out H47.out (Nat.le_refl _) ?_; intro v' w1 hown hg hnil; have HO := Lib.hid hown; have HG := Lib.hid hg; clear hown hg hnil)
    rw [Nat.zero_add, List.nil_append] at HO
    go_ret
    obtain ⟨a', cap', rfl, _, _⟩ := ints_of_own HO.out
    exact ⟨a', cap', rfl, HO.out, (Below.refl _ _).grown HG.out (Nat.le_refl _) (fun k hk => by cases hk)⟩

set_option maxHeartbeats 1000000 in
theorem same_yes (a b : Option Addr) (len c1 c2 : Nat) (zs : List Int) (w : World) (hA : IsInts w a len zs) (hB : IsInts w b len zs) (hl : len ≤ 9223372036854775807) :
    Calls Tryd.prog 30 #[.slice a len c1, .slice b len c2] w fun e w' => e = .returned (.bool true) ∧ ∃ n, w' = w.drewN n := by
  have HA := Lib.hid hA
  have HB := Lib.hid hB
  clear hA hB
  have hne : ((len : Int) != len) = false := by simp
  go_enter Tryd.func30, Tryd.ntmps30
  go_wp2
  go_loopw [5] (fun i wr => ∃ j n : Nat, j ≤ len ∧ i = .int .i64 j ∧ wr = w.drewN n) (fun i _ => len - (intOf i).toNat)
  case atStart => exact ⟨0, 0, Nat.zero_le _, rfl, rfl⟩
  case round =>
    obtain ⟨j, n, hj, rfl, hwr⟩ := hrel
    by_cases hlt : j < len
    · obtain ⟨b1, o1, rfl, h1⟩ := HA.out.2 (by omega)
      obtain ⟨b2, o2, rfl, h2⟩ := HB.out.2 (by omega)
      have c1 : wr.cell? ⟨b1, o1 + j, none⟩ = some (.int .i64 (zs.getD j 0)) := by rw [hwr]; exact h1 j hlt
      have c2 : wr.cell? ⟨b2, o2 + j, none⟩ = some (.int .i64 (zs.getD j 0)) := by rw [hwr]; exact h2 j hlt
      clear h1 h2
      have HW := Lib.hid hwr; clear hwr
      generalize zs.getD j 0 = x at *
      have hbx : ((x : Int) != x) = false := by simp
      go_wp2
      go_quiet (fail)
      go_wp2
      go_roundw
      case rel => exact ⟨j + 1, _, by omega, by go_num, by rw [HW.out, World.drewN_drewN]⟩
      case measure => simp [intOf]; omega
    · have HW := Lib.hid hwr; clear hwr
      go_wp2
      go_ret
      exact ⟨rfl, n, HW.out⟩

/-- in: does a number stand in a list? -/
def inB (zs : List Int) (x : Int) : Bool := decide (x ∈ zs)
theorem inB_yes {zs : List Int} (j : Nat) (h : j < zs.length) : inB zs (zs.getD j 0) = true := by
  unfold inB; rw [decide_eq_true_eq, getD_get zs j 0 h]; exact List.getElem_mem _
theorem inB_no {zs : List Int} {x : Int} (h : ∀ j, j < zs.length → zs.getD j 0 ≠ x) : inB zs x = false := by
  unfold inB
  rw [decide_eq_false_iff_not]
  intro hm
  obtain ⟨j, hj, e⟩ := List.getElem_of_mem hm
  exact h j hj (by rw [getD_get zs j 0 hj]; exact e)
set_option maxHeartbeats 1000000 in
theorem in_any (a : Option Addr) (len c : Nat) (zs : List Int) (x : Int) (w : World) (hA : IsInts w a len zs) (hl : len ≤ 9223372036854775807) :
    Calls Tryd.prog 31 #[.slice a len c, .int .i64 x] w fun e w' => e = .returned (.bool (inB zs x)) ∧ w = w' := by
  have HA := Lib.hid hA
  have HZ := Lib.hid hA.1
  clear hA
  go_enter Tryd.func31, Tryd.ntmps31
  go_wp2
  go_loop [5] (fun i => ∃ j : Nat, j ≤ len ∧ i = .int .i64 j ∧ ∀ m, m < j → zs.getD m 0 ≠ x) (fun i => len - (intOf i).toNat)
  case atStart => exact ⟨0, Nat.zero_le _, rfl, fun m h => absurd h (by omega)⟩
  case round =>
    obtain ⟨j, hj, rfl, hq⟩ := hrel
    have HQ := Lib.hid hq; clear hq
    by_cases hlt : j < len
    · obtain ⟨b1, o1, rfl, h1⟩ := HA.out.2 (by omega)
      have c1 := h1 j hlt
      clear h1
      have HY := Lib.hid (inB_yes (zs := zs) j (by rw [HZ.out]; exact hlt))
      have HX : Hid (zs.getD j 0 ≠ x → ∀ m, m < j + 1 → zs.getD m 0 ≠ x) := Lib.hid (fun h m hm => by
        by_cases e : m = j
        · subst e; exact h
        · exact HQ.out m (by omega))
      generalize zs.getD j 0 = y at *
      by_cases hxy : y = x
      · subst hxy
        have hbx : ((y : Int) == y) = true := by simp
        go_wp2
        go_ret
        exact ⟨by rw [HY.out]; rfl, rfl⟩
      · have hbx : ((y : Int) == x) = false := by simpa using hxy
        have HX' := Lib.hid (HX.out hxy)
        clear HX HY
        go_wp2
        go_round
        case rel => exact ⟨j + 1, by omega, by go_num, HX'.out⟩
        case measure => simp [intOf]; omega
    · have HN := Lib.hid (inB_no (fun m hm => HQ.out m (by have := HZ.out; omega)))
      go_wp2
      go_ret
      exact ⟨by rw [HN.out]; rfl, rfl⟩
end Go.Proofs.YtgcoiabfejhgkaaDoor
