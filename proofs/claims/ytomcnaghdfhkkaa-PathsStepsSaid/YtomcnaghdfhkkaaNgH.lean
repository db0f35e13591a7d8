/- Graphs: is a link between two routers. -/
import Derived.Test.YtomcnaghdfhkkaaNgG
namespace Go.Proofs.Ytomcnaghdfhkkaa
open Go.RowKit Go.Lib Go.Nq
set_option linter.unusedVariables false
set_option linter.unusedSimpArgs false
set_option maxRecDepth 100000

set_option maxHeartbeats 2000000 in
theorem gBetween_any (ns : List Nd) (na : Option Addr) (nc : Nat) (la : Option Addr) (ln lc : Nat) (y : Lk) (w : World) (hin : NodesIn w w.heap.size ns na) (h : NodesP ns) (hn : ns.length < 4611686018427387904) :
    Calls Try.prog 88 #[.agg #[.slice na ns.length nc, .slice la ln lc], .agg #[.int .i64 y.a, .int .i64 y.b, .float .f64 y.w, .bool y.up]] w fun e w' => e = .returned (.bool (decide (y.a < y.b) && has ns y.a && has ns y.b)) ∧ Below w.heap.size w w' := by
  obtain ⟨W1, hW1⟩ : ∃ W1, W1 = (w.alloc (.cells #[.slice na ns.length nc, .slice la ln lc] 25)).alloc (.cells #[.int .i64 y.a, .int .i64 y.b, .float .f64 y.w, .bool y.up] 77) := ⟨_, rfl⟩
  have hb1 : Below w.heap.size w W1 := by rw [hW1]; exact (gAl _ _).alloc (by simp) _
  have hs1 : w.heap.size + 1 < W1.heap.size := by rw [hW1]; simp
  have k1 : W1.cell? ⟨w.heap.size, 0, none⟩ = some (.slice na ns.length nc) ∧ W1.cell? ⟨w.heap.size, 1, none⟩ = some (.slice la ln lc) ∧ W1.cell? ⟨w.heap.size + 1, 0, none⟩ = some (.int .i64 y.a) ∧ W1.cell? ⟨w.heap.size + 1, 1, none⟩ = some (.int .i64 y.b) := by rw [hW1]; exact ⟨by simp [go_sem], by simp [go_sem], by simp [go_sem], by simp [go_sem]⟩
  have KA : ∀ V, Below W1.heap.size W1 V → V.cell? ⟨w.heap.size, 0, none⟩ = some (.slice na ns.length nc) ∧ V.cell? ⟨w.heap.size, 1, none⟩ = some (.slice la ln lc) ∧ V.cell? ⟨w.heap.size + 1, 0, none⟩ = some (.int .i64 y.a) ∧ V.cell? ⟨w.heap.size + 1, 1, none⟩ = some (.int .i64 y.b) := fun V h => ⟨(h.cell (p := ⟨w.heap.size, 0, none⟩) (by show w.heap.size < _; omega)).trans k1.1, (h.cell (p := ⟨w.heap.size, 1, none⟩) (by show w.heap.size < _; omega)).trans k1.2.1, (h.cell (p := ⟨w.heap.size + 1, 0, none⟩) hs1).trans k1.2.2.1, (h.cell (p := ⟨w.heap.size + 1, 1, none⟩) hs1).trans k1.2.2.2⟩
  have HT := Lib.hid (fun (x : Int) (V : World) (hb : Below W1.heap.size W1 V) => gIsThere_any ns na nc la ln lc x V (hin.kept (fun i hi => (gNx hb1 hb).block i hi) (gNx hb1 hb).size) h hn)
  have HB1 := Lib.hid hb1
  have HKA := Lib.hid KA
  obtain ⟨c0, c1, c2, c3⟩ := k1
  clear hin h hn hs1 hb1 KA
  have HTa := Lib.hid (HT.out y.a)
  have HTb := Lib.hid (HT.out y.b)
  clear HT
  generalize has ns y.a = ha at *
  generalize has ns y.b = hb at *
  by_cases hlt : y.a < y.b
  · cases ha with
    | true =>
      go_enter Try.func88, Try.ntmps88
      go_upto_region 1 with (fail)
      rw [← hW1]
      clear hW1
      go_wp2_with fail
      refine (HTa.out _ (Below.refl _ _)).mono ?_
      rintro e V1 ⟨rfl, hb2⟩
      obtain ⟨d0, d1, d2, d3⟩ := HKA.out V1 hb2
      have B1 := Lib.hid hb2
      clear hb2 c0 c1 c2 c3
      go_wp2_with fail
      refine (HTb.out _ B1.out).mono ?_
      rintro e V2 ⟨rfl, hb2⟩
      have B2 := Lib.hid (gNx B1.out hb2)
      clear hb2
      go_wp2_with fail
      go_ret
      exact ⟨by simp [hlt], gNx HB1.out B2.out⟩
    | false =>
      go_enter Try.func88, Try.ntmps88
      go_upto_region 1 with (fail)
      rw [← hW1]
      clear hW1
      go_wp2_with fail
      refine (HTa.out _ (Below.refl _ _)).mono ?_
      rintro e V1 ⟨rfl, hb2⟩
      have B1 := Lib.hid hb2
      clear hb2 c0 c1 c2 c3
      go_wp2_with fail
      go_ret
      exact ⟨by simp, gNx HB1.out B1.out⟩
  · go_enter Try.func88, Try.ntmps88
    go_upto_region 1 with (fail)
    rw [← hW1]
    clear hW1
    go_wp2_with fail
    go_ret
    have hd : decide (y.a < y.b) = false := decide_eq_false (by omega)
    exact ⟨by rw [hd]; simp, HB1.out⟩
end Go.Proofs.Ytomcnaghdfhkkaa
