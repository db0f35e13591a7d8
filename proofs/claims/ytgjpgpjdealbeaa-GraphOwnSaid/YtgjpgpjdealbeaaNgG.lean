/- Graphs: where the link of two stands. -/
import Derived.Test.YtgjpgpjdealbeaaNgF
namespace Go.Proofs.Ytgjpgpjdealbeaa
open Go.RowKit Go.Lib Go.Nq
set_option linter.unusedVariables false
set_option linter.unusedSimpArgs false
set_option maxRecDepth 100000

set_option maxHeartbeats 2000000 in
theorem gFindLink_any (l : List Lk) (la : Option Addr) (lc : Nat) (na : Option Addr) (nn nc : Nat) (a b : Int) (w : World) (hin : LinksIn w w.heap.size l la) (h : ∀ k (h : k + 1 < l.length), before (l[k]'(by omega)) l[k + 1] = true) (hn : l.length < 4611686018427387904) :
    Calls Try.prog 78 #[.agg #[.slice na nn nc, .slice la l.length lc], .int .i64 a, .int .i64 b] w fun e w' => e = .returned (.tuple #[.int .i64 (aheadL l ⟨min a b, max a b, 0, false⟩ : Int), .bool (hasL l a b)]) ∧ Below w.heap.size w w' := by
  obtain ⟨W1, hW1⟩ : ∃ W1, W1 = w.alloc (.cells #[.slice na nn nc, .slice la l.length lc] 25) := ⟨_, rfl⟩
  have hb1 : Below w.heap.size w W1 := by rw [hW1]; exact gAl _ _
  have hs1 : w.heap.size < W1.heap.size := by rw [hW1]; simp
  have k1 : W1.cell? ⟨w.heap.size, 1, none⟩ = some (.slice la l.length lc) := by rw [hW1]; simp [go_sem]
  have K1 : ∀ V, Below W1.heap.size W1 V → V.cell? ⟨w.heap.size, 1, none⟩ = some (.slice la l.length lc) := fun V h => (h.cell (p := ⟨w.heap.size, 1, none⟩) hs1).trans k1
  have HS := Lib.hid (fun (V : World) (hb : Below W1.heap.size W1 V) => gSearchL_any l la lc ⟨min a b, max a b, 0, false⟩ V (hin.kept (fun i hi => (gNx hb1 hb).block i hi) (gNx hb1 hb).size) h hn)
  have HL := Lib.hid (fun V => gLinkOf_any a b V)
  have HB1 := Lib.hid hb1
  have HH : Hid (hasL l a b = l.any (fun y => y.a == min a b && y.b == max a b)) := Lib.hid rfl
  rw [HH.out]
  clear hin h hn k1 hs1 hb1 HH
  simp only [] at HS
  generalize (l.any fun y => y.a == min a b && y.b == max a b) = fnd at *
  generalize aheadL l ⟨min a b, max a b, 0, false⟩ = pos at *
  generalize min a b = mn at *
  generalize max a b = mx at *
  go_enter Try.func78, Try.ntmps78
  go_upto_region 1 with (fail)
  rw [← hW1]
  clear hW1
  refine wp_region_held_drew (S := fun V => Below W1.heap.size W1 V) (by kernel_rfl) (Below.drew (Below.refl _ _)) (fun hH => ?_)
  have B0 : Hid (Below W1.heap.size W1 W1.drew) := Lib.hid (Below.drew (Below.refl _ _))
  generalize W1.drew = V0 at *
  refine tk 0 (by assumption) rfl (by kernel_rfl) (fun _ _ _ h => h) (fun V hV => by go_simp; try with_reducible rfl) ?_
  try simp only [Act.put, List.setIfInBounds_toArray, List.set_cons_zero, List.set_cons_succ, List.getElem_toArray, List.getElem_cons_succ, List.getElem_cons_zero]
  refine tk 1 (by assumption) rfl (by kernel_rfl) (fun _ _ _ h => h) (fun V hV => by have hc := K1 V hV; go_simp; try with_reducible rfl) ?_
  try simp only [Act.put, List.setIfInBounds_toArray, List.set_cons_zero, List.set_cons_succ, List.getElem_toArray, List.getElem_cons_succ, List.getElem_cons_zero]
  refine tk 2 (by assumption) rfl (by kernel_rfl) (fun _ _ _ h => h) (fun V hV => by go_simp; try with_reducible rfl) ?_
  try simp only [Act.put, List.setIfInBounds_toArray, List.set_cons_zero, List.set_cons_succ, List.getElem_toArray, List.getElem_cons_succ, List.getElem_cons_zero]
  refine tk 3 (by assumption) rfl (by kernel_rfl) (fun _ _ _ h => h) (fun V hV => by go_simp; try with_reducible rfl) ?_
  try simp only [Act.put, List.setIfInBounds_toArray, List.set_cons_zero, List.set_cons_succ, List.getElem_toArray, List.getElem_cons_succ, List.getElem_cons_zero]
  refine wpAnyH_ready (rs := [4]) (by kernel_rfl) (by simp) ?_
  refine AllReadyH.cons (o := _) rfl (fun K hK => ?_) AllReadyH.nil
  go_simp
  refine (HL.out _).mono ?_
  rintro e V4 ⟨rfl, hb2⟩
  have B1 := Lib.hid (gNx B0.out hb2)
  clear hb2
  go_wp2_with fail
  refine hK.out _ _ B1.out (fun hH => ?_)
  clear hK K
  try simp only [Act.put, List.setIfInBounds_toArray, List.set_cons_zero, List.set_cons_succ, List.getElem_toArray, List.getElem_cons_succ, List.getElem_cons_zero]
  refine wpAnyH_ready (rs := [5]) (by kernel_rfl) (by simp) ?_
  refine AllReadyH.cons (o := _) rfl (fun K hK => ?_) AllReadyH.nil
  go_simp
  refine (HS.out _ B1.out).mono ?_
  rintro e V5 ⟨rfl, hb2⟩
  have B2 := Lib.hid (gNx B1.out hb2)
  clear hb2
  go_wp2_with fail
  refine hK.out _ _ B2.out (fun hH => ?_)
  clear hK K
  try simp only [Act.put, List.setIfInBounds_toArray, List.set_cons_zero, List.set_cons_succ, List.getElem_toArray, List.getElem_cons_succ, List.getElem_cons_zero]
  refine tk 6 (by assumption) rfl (by kernel_rfl) (fun _ _ _ h => h) (fun V hV => by go_simp; try with_reducible rfl) ?_
  try simp only [Act.put, List.setIfInBounds_toArray, List.set_cons_zero, List.set_cons_succ, List.getElem_toArray, List.getElem_cons_succ, List.getElem_cons_zero]
  refine tk 7 (by assumption) rfl (by kernel_rfl) (fun _ _ _ h => h) (fun V hV => by go_simp; try with_reducible rfl) ?_
  try simp only [Act.put, List.setIfInBounds_toArray, List.set_cons_zero, List.set_cons_succ, List.getElem_toArray, List.getElem_cons_succ, List.getElem_cons_zero]
  refine tk 8 (by assumption) rfl (by kernel_rfl) (fun _ _ _ h => h) (fun V hV => by go_simp; try with_reducible rfl) ?_
  try simp only [Act.put, List.setIfInBounds_toArray, List.set_cons_zero, List.set_cons_succ, List.getElem_toArray, List.getElem_cons_succ, List.getElem_cons_zero]
  refine tk 9 (by assumption) rfl (by kernel_rfl) (fun _ _ _ h => h) (fun V hV => by go_simp; try with_reducible rfl) ?_
  try simp only [Act.put, List.setIfInBounds_toArray, List.set_cons_zero, List.set_cons_succ, List.getElem_toArray, List.getElem_cons_succ, List.getElem_cons_zero]
  refine wpAnyH_done (by kernel_rfl) ?_ _
  go_wp2_with fail
  refine bodyPost_ret (v := .tuple #[.int .i64 (pos : Int), .bool fnd]) (by simp [results, Try.results78, go_sem]) rfl ?_
  exact ⟨rfl, gNx HB1.out B2.out⟩
end Go.Proofs.Ytgjpgpjdealbeaa
