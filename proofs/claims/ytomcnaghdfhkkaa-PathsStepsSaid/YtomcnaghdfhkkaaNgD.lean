/- Graphs: comparing links. -/
import Derived.Test.YtomcnaghdfhkkaaNgC
import Derived.Test.YtomcnaghdfhkkaaRtA
namespace Go.Proofs.Ytomcnaghdfhkkaa
open Go.RowKit Go.Lib Go.Nq
set_option linter.unusedVariables false
set_option linter.unusedSimpArgs false
set_option maxRecDepth 100000

theorem gOr_any (x y : Int) (b : Nat) (w : World) (c0 : w.cell? ⟨b, 0, none⟩ = some (.int .i64 x)) (c1 : w.cell? ⟨b, 1, none⟩ = some (.int .i64 y)) :
    Calls Try.prog 97 #[.slice (some ⟨b, 0, none⟩) 2 2] w fun e w' => e = .returned (.int .i64 (if x ≠ 0 then x else y)) ∧ w = w' := by
  go_enter Try.func97, Try.ntmps97
  go_wp2_with fail
  go_loopw [8] (fun v wr => ∃ k : Nat, v = .int .i64 (k : Int) ∧ k ≤ 2 ∧ wr = w ∧ (1 ≤ k → x = 0) ∧ (2 ≤ k → y = 0)) (fun v _ => 2 - (RowKit.intOf v).toNat)
  case atStart => exact ⟨0, rfl, by omega, rfl, fun h => by omega, fun h => by omega⟩
  case round =>
    obtain ⟨k, rfl, hk, rfl, h1, h2⟩ := hrel
    obtain rfl | rfl | rfl : k = 0 ∨ k = 1 ∨ k = 2 := by omega
    · by_cases hx : x = 0
      · subst hx
        clear h1 h2
        go_wp2_with fail
        exact ⟨⟨1, by simp⟩, by simp [RowKit.intOf]⟩
      · have hb : (x != 0) = true := by simp [hx]
        clear h1 h2
        go_wp2_with fail
        go_ret
        exact ⟨by simp [hx], rfl⟩
    · obtain rfl := h1 (by omega)
      by_cases hy : y = 0
      · subst hy
        clear h1 h2
        go_wp2_with fail
        exact ⟨⟨2, by simp⟩, by simp [RowKit.intOf]⟩
      · have hb : (y != 0) = true := by simp [hy]
        clear h1 h2
        go_wp2_with fail
        go_ret
        exact ⟨by simp, rfl⟩
    · obtain rfl := h1 (by omega)
      obtain rfl := h2 (by omega)
      clear h1 h2
      go_wp2_with fail
      go_ret
      exact ⟨by simp, rfl⟩
def lkV (y : Lk) : Value := .agg #[.int .i64 y.a, .int .i64 y.b, .float .f64 y.w, .bool y.up]
set_option maxHeartbeats 2000000 in
theorem gCmpL_any (x y : Lk) (w : World) : Calls Try.prog 89 #[.agg #[.int .i64 x.a, .int .i64 x.b, .float .f64 x.w, .bool x.up], .agg #[.int .i64 y.a, .int .i64 y.b, .float .f64 y.w, .bool y.up]] w fun e w' => e = .returned (.int .i64 (cmpL x y)) ∧ Below w.heap.size w w' := by
  obtain ⟨W1, hW1⟩ : ∃ W1, W1 = (w.alloc (.cells #[.int .i64 x.a, .int .i64 x.b, .float .f64 x.w, .bool x.up] 77)).alloc (.cells #[.int .i64 y.a, .int .i64 y.b, .float .f64 y.w, .bool y.up] 77) := ⟨_, rfl⟩
  have hb1 : Below w.heap.size w W1 := by rw [hW1]; exact (gAl _ _).alloc (by simp) _
  have hs1 : w.heap.size + 1 < W1.heap.size := by rw [hW1]; simp
  have k0 : W1.cell? ⟨w.heap.size, 0, none⟩ = some (.int .i64 x.a) := by rw [hW1]; simp [go_sem]
  have k1 : W1.cell? ⟨w.heap.size, 1, none⟩ = some (.int .i64 x.b) := by rw [hW1]; simp [go_sem]
  have k2 : W1.cell? ⟨w.heap.size + 1, 0, none⟩ = some (.int .i64 y.a) := by rw [hW1]; simp [go_sem]
  have k3 : W1.cell? ⟨w.heap.size + 1, 1, none⟩ = some (.int .i64 y.b) := by rw [hW1]; simp [go_sem]
  have K0 : ∀ V, Below W1.heap.size W1 V → V.cell? ⟨w.heap.size, 0, none⟩ = some (.int .i64 x.a) := fun V h => (h.cell (p := ⟨w.heap.size, 0, none⟩) (by show w.heap.size < _; omega)).trans k0
  have K1 : ∀ V, Below W1.heap.size W1 V → V.cell? ⟨w.heap.size, 1, none⟩ = some (.int .i64 x.b) := fun V h => (h.cell (p := ⟨w.heap.size, 1, none⟩) (by show w.heap.size < _; omega)).trans k1
  have K2 : ∀ V, Below W1.heap.size W1 V → V.cell? ⟨w.heap.size + 1, 0, none⟩ = some (.int .i64 y.a) := fun V h => (h.cell (p := ⟨w.heap.size + 1, 0, none⟩) hs1).trans k2
  have K3 : ∀ V, Below W1.heap.size W1 V → V.cell? ⟨w.heap.size + 1, 1, none⟩ = some (.int .i64 y.b) := fun V h => (h.cell (p := ⟨w.heap.size + 1, 1, none⟩) hs1).trans k3
  have HB1 := Lib.hid hb1
  have HO := Lib.hid (fun (V : World) (h : Below W1.heap.size W1 V) => gOr_any (cmpI x.a y.a) (cmpI x.b y.b) V.heap.size (V.alloc (.cells #[.int .i64 (cmpI x.a y.a), .int .i64 (cmpI x.b y.b)] 3)) (by simp [go_sem]) (by simp [go_sem]))
  have HA := Lib.hid (fun V => gCmp_any x.a y.a V)
  have HBc := Lib.hid (fun V => gCmp_any x.b y.b V)
  have HE : Hid (cmpL x y = if cmpI x.a y.a ≠ 0 then cmpI x.a y.a else cmpI x.b y.b) := Lib.hid rfl
  clear k0 k1 k2 k3 hb1 hs1
  rw [HE.out]
  generalize cmpI x.a y.a = p at *
  generalize cmpI x.b y.b = q at *
  generalize (if p ≠ 0 then p else q) = r at *
  go_enter Try.func89, Try.ntmps89
  go_upto_region 1 with (fail)
  rw [← hW1]
  clear hW1 HE
  refine wp_region_held_drew (S := fun V => Below W1.heap.size W1 V) (by kernel_rfl) (Below.drew (Below.refl _ _)) (fun hH => ?_)
  have B0 : Hid (Below W1.heap.size W1 W1.drew) := Lib.hid (Below.drew (Below.refl _ _))
  generalize W1.drew = V0 at *
  refine tk 0 (by assumption) rfl (by kernel_rfl) (fun _ _ _ h => h) (fun V hV => by go_simp; try with_reducible rfl) ?_
  try simp only [Act.put, List.setIfInBounds_toArray, List.set_cons_zero, List.set_cons_succ, List.getElem_toArray, List.getElem_cons_succ, List.getElem_cons_zero]
  refine tk 1 (by assumption) rfl (by kernel_rfl) (fun _ _ _ h => h) (fun V hV => by have hc := K0 V hV; go_simp; try with_reducible rfl) ?_
  try simp only [Act.put, List.setIfInBounds_toArray, List.set_cons_zero, List.set_cons_succ, List.getElem_toArray, List.getElem_cons_succ, List.getElem_cons_zero]
  refine tk 2 (by assumption) rfl (by kernel_rfl) (fun _ _ _ h => h) (fun V hV => by go_simp; try with_reducible rfl) ?_
  try simp only [Act.put, List.setIfInBounds_toArray, List.set_cons_zero, List.set_cons_succ, List.getElem_toArray, List.getElem_cons_succ, List.getElem_cons_zero]
  refine tk 3 (by assumption) rfl (by kernel_rfl) (fun _ _ _ h => h) (fun V hV => by have hc := K2 V hV; go_simp; try with_reducible rfl) ?_
  try simp only [Act.put, List.setIfInBounds_toArray, List.set_cons_zero, List.set_cons_succ, List.getElem_toArray, List.getElem_cons_succ, List.getElem_cons_zero]
  refine tk 5 (by assumption) rfl (by kernel_rfl) (fun _ _ _ h => h) (fun V hV => by go_simp; try with_reducible rfl) ?_
  try simp only [Act.put, List.setIfInBounds_toArray, List.set_cons_zero, List.set_cons_succ, List.getElem_toArray, List.getElem_cons_succ, List.getElem_cons_zero]
  refine tk 6 (by assumption) rfl (by kernel_rfl) (fun _ _ _ h => h) (fun V hV => by have hc := K1 V hV; go_simp; try with_reducible rfl) ?_
  try simp only [Act.put, List.setIfInBounds_toArray, List.set_cons_zero, List.set_cons_succ, List.getElem_toArray, List.getElem_cons_succ, List.getElem_cons_zero]
  refine tk 7 (by assumption) rfl (by kernel_rfl) (fun _ _ _ h => h) (fun V hV => by go_simp; try with_reducible rfl) ?_
  try simp only [Act.put, List.setIfInBounds_toArray, List.set_cons_zero, List.set_cons_succ, List.getElem_toArray, List.getElem_cons_succ, List.getElem_cons_zero]
  refine tk 8 (by assumption) rfl (by kernel_rfl) (fun _ _ _ h => h) (fun V hV => by have hc := K3 V hV; go_simp; try with_reducible rfl) ?_
  try simp only [Act.put, List.setIfInBounds_toArray, List.set_cons_zero, List.set_cons_succ, List.getElem_toArray, List.getElem_cons_succ, List.getElem_cons_zero]
  refine wpAnyH_ready (rs := [4]) (by kernel_rfl) (by simp) ?_
  refine AllReadyH.cons (o := _) rfl (fun K hK => ?_) AllReadyH.nil
  go_simp
  refine (HA.out _).mono ?_
  rintro e w' ⟨rfl, rfl⟩
  go_wp2_with fail
  refine hK.out _ _ B0.out (fun hH => ?_)
  clear hK K
  try simp only [Act.put, List.setIfInBounds_toArray, List.set_cons_zero, List.set_cons_succ, List.getElem_toArray, List.getElem_cons_succ, List.getElem_cons_zero]
  refine wpAnyH_ready (rs := [9]) (by kernel_rfl) (by simp) ?_
  refine AllReadyH.cons (o := _) rfl (fun K hK => ?_) AllReadyH.nil
  go_simp
  refine (HBc.out _).mono ?_
  rintro e w' ⟨rfl, rfl⟩
  go_wp2_with fail
  refine hK.out _ _ B0.out (fun hH => ?_)
  clear hK K
  try simp only [Act.put, List.setIfInBounds_toArray, List.set_cons_zero, List.set_cons_succ, List.getElem_toArray, List.getElem_cons_succ, List.getElem_cons_zero]
  refine wpAnyH_ready (rs := [10]) (by kernel_rfl) (by simp) ?_
  refine AllReadyH.cons (o := _) rfl (fun K hK => ?_) AllReadyH.nil
  go_simp
  refine hK.out _ _ (gNx B0.out (gAl _ _)) (fun hH => ?_)
  clear hK K
  try simp only [Act.put, List.setIfInBounds_toArray, List.set_cons_zero, List.set_cons_succ, List.getElem_toArray, List.getElem_cons_succ, List.getElem_cons_zero]
  refine wpAnyH_ready (rs := [11]) (by kernel_rfl) (by simp) ?_
  refine AllReadyH.cons (o := _) rfl (fun K hK => ?_) AllReadyH.nil
  go_simp
  refine (HO.out _ B0.out).mono ?_
  rintro e w' ⟨rfl, rfl⟩
  go_wp2_with fail
  refine hK.out _ _ (gNx B0.out (gAl _ _)) (fun hH => ?_)
  clear hK K
  try simp only [Act.put, List.setIfInBounds_toArray, List.set_cons_zero, List.set_cons_succ, List.getElem_toArray, List.getElem_cons_succ, List.getElem_cons_zero]
  refine tk 12 (by assumption) rfl (by kernel_rfl) (fun _ _ _ h => h) (fun V hV => by go_simp; try with_reducible rfl) ?_
  try simp only [Act.put, List.setIfInBounds_toArray, List.set_cons_zero, List.set_cons_succ, List.getElem_toArray, List.getElem_cons_succ, List.getElem_cons_zero]
  refine wpAnyH_done (by kernel_rfl) ?_ _
  go_wp2_with fail
  go_ret
  exact ⟨rfl, gNx HB1.out (gNx B0.out (gAl _ _))⟩
end Go.Proofs.Ytomcnaghdfhkkaa
