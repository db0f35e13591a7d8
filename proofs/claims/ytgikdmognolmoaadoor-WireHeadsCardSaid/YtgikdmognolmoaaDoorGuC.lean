/- guard.call: a closure that comes to its end, and one that panics; the deferred closure's two contracts. -/
import Derived.Test.YtgikdmognolmoaaDoorGuB
import Derived.Defers
import Derived.Recover
import Derived.Lib.Hide
namespace Go.Proofs.YtgikdmognolmoaaDoor
open Go.RowKit Go.Extern.Stop Go.Stop Go.Extern
set_option linter.unusedVariables false
set_option linter.unusedSimpArgs false

theorem catch_panicking (b : Nat) (x : Value) (T : TypeId) (pv : Value) (older : List PanicEntry) (w : World) (h0 : w.cell? ⟨b, 0, none⟩ = some (.bool true)) (hc : w.cell? ⟨b, 1, none⟩ = some x) (hz : w.frozen? ⟨b, 1, none⟩ = false) :
    CallsD Tryd.prog 38 #[.pointer (some ⟨b, 0, none⟩)] (.panicking ({ v := .iface T pv, recovered := false } :: older)) w fun e u' w' =>
      e = .returned (.tuple #[]) ∧ u' = .panicking ({ v := .iface T pv, recovered := true } :: older) ∧ w' = w.setCell ⟨b, 1, none⟩ (.iface T pv) := by
  refine callsD_of_wpS Tryd.func38 rfl fun c₀ cs hu => ?_
  apply wpS_seq
  apply wpS_region
  simp [wpOpsS, go_sem, recoverD, hu, Tryd.ntmps38, Exit.thenS, h0, hc, hz]
  refine wpS_cond (t := true) (by simp [Act.eval, Array.replicate]) ?_
  simp only [if_true]
  apply wpS_region
  simp [wpOpsS, go_sem, recoverD, hu, h0, hc, hz, bodyPostS, results, Tryd.results38]

theorem catch_idle (b : Nat) (w : World) (h0 : w.cell? ⟨b, 0, none⟩ = some (.bool false)) :
    CallsD Tryd.prog 38 #[.pointer (some ⟨b, 0, none⟩)] .returning w fun e u' w' => e = .returned (.tuple #[]) ∧ u' = .returning ∧ w' = w := by
  refine callsD_of_wpS Tryd.func38 rfl fun c₀ cs hu => ?_
  apply wpS_seq
  apply wpS_region
  simp [wpOpsS, go_sem, recoverD, hu, Tryd.ntmps38, Exit.thenS, h0]
  refine wpS_cond (t := false) (by simp [Act.eval, Array.replicate]) ?_
  simp only [Bool.false_eq_true, if_false]
  refine wpS_of_wp (wp_skip ?_)
  cases c₀
  simp_all [bodyPostS, results, Tryd.results38]

def began (w : World) : World := w.alloc (.cells #[.bool true, .nilIface] 62)
theorem began_size (w : World) : (began w).heap.size = w.heap.size + 1 := by simp [began]
theorem began_below (w : World) : Below w.heap.size w (began w) := (Below.refl _ w).alloc (Nat.le_refl _) _
theorem began_cell0 (w : World) : (began w).cell? ⟨w.heap.size, 0, none⟩ = some (.bool true) := by simp [began, go_sem]
theorem began_cell1 (w : World) : (began w).cell? ⟨w.heap.size, 1, none⟩ = some .nilIface := by simp [began, go_sem]
theorem began_free (w : World) (i : Nat) : (began w).frozen? ⟨w.heap.size, i, none⟩ = false := by simp [began, go_sem]

theorem not_nil (fn : Fn) (first cap : Array Value) (w : World) : (binOp .eql 1 (.func fn first cap) .nilFunc).run Tryd.prog w = .ok (.bool false) w := by kernel_rfl
theorem call_back (g : Nat) (cap : Array Value) (w : World) (Q : World → Prop) (hent : ∀ (args : Array Value) (w : World), (callFunc g args).run Tryd.prog w = .ok (.enter g args) w)
    (hQ : ∀ w1, Q w1 → ∃ u, w1.cell? ⟨w.heap.size, 0, none⟩ = some u) (hQ1 : ∀ w1, Q w1 → ∃ u, w1.cell? ⟨w.heap.size, 1, none⟩ = some u) (hQ2 : ∀ w1, Q w1 → w1.frozen? ⟨w.heap.size, 0, none⟩ = false) (hQ3 : ∀ w1, Q w1 → w1.frozen? ⟨w.heap.size, 1, none⟩ = false)
    (hcall : Calls Tryd.prog g cap (began w) fun e w' => e = .returned (.tuple #[]) ∧ Q w') :
    Calls Tryd.prog 27 #[.func (.func g) #[] cap] w fun e w' => e = .returned (.agg #[.bool false, .nilIface]) ∧
      ∃ w1, Q w1 ∧ w' = (w1.setCell ⟨w.heap.size, 0, none⟩ (.bool false)).setCell ⟨w.heap.size, 1, none⟩ .nilIface := by
  have hmf : ∀ (fn : Fn) (first cap : Array Value) (w : World), (Instr.makeFunc fn first cap).run Tryd.prog w = .ok (.func fn first cap) w := fun _ _ _ _ => rfl
  have hnn := not_nil
  have H0 := Lib.hid hQ
  have H1 := Lib.hid hQ1
  have H2 := Lib.hid hQ2
  have H3 := Lib.hid hQ3
  have HC := Lib.hid hcall
  clear hQ hQ1 hQ2 hQ3 hcall
  go_enter_defers Tryd.func27, Tryd.ntmps27
  go_wp2_with fail
  refine HC.out.mono ?_
  rintro e w1 ⟨rfl, hq⟩
  obtain ⟨u0, c0⟩ := H0.out w1 hq
  obtain ⟨u1, c1⟩ := H1.out w1 hq
  have z0 := H2.out w1 hq
  have z1 := H3.out w1 hq
  go_wp2_with fail
  refine leaves_cons (f := 38) (args := #[.pointer (some ⟨w.heap.size, 0, none⟩)]) (by simp) (by simp [go_sem]) ?_
  have d0 : ((w1.setCell ⟨w.heap.size, 0, none⟩ (.bool false)).setCell ⟨w.heap.size, 1, none⟩ .nilIface).cell? ⟨w.heap.size, 0, none⟩ = some (.bool false) := by simp [go_sem, c0, c1]
  have d1 : ((w1.setCell ⟨w.heap.size, 0, none⟩ (.bool false)).setCell ⟨w.heap.size, 1, none⟩ .nilIface).cell? ⟨w.heap.size, 1, none⟩ = some .nilIface := by simp [go_sem, c0, c1]
  refine (catch_idle w.heap.size _ d0).mono ?_
  rintro e u' w'' ⟨rfl, rfl, rfl⟩
  simp [Leaves, settle, results, Tryd.results27, go_sem, d0, d1]
  exact ⟨w1, hq, rfl⟩

theorem call_panic (g : Nat) (cap : Array Value) (w : World) (Q : World → Prop) (T : TypeId) (x : Value) (hent : ∀ (args : Array Value) (w : World), (callFunc g args).run Tryd.prog w = .ok (.enter g args) w)
    (hQ : ∀ w1, Q w1 → w1.cell? ⟨w.heap.size, 0, none⟩ = some (.bool true)) (hQ1 : ∀ w1, Q w1 → ∃ u, w1.cell? ⟨w.heap.size, 1, none⟩ = some u) (hQ3 : ∀ w1, Q w1 → w1.frozen? ⟨w.heap.size, 1, none⟩ = false)
    (hcall : Calls Tryd.prog g cap (began w) fun e w' => e = .panicked [{ v := .iface T x, recovered := false }] ∧ Q w') :
    Calls Tryd.prog 27 #[.func (.func g) #[] cap] w fun e w' => e = .returned (.agg #[.bool true, .iface T x]) ∧
      ∃ w1, Q w1 ∧ w' = w1.setCell ⟨w.heap.size, 1, none⟩ (.iface T x) := by
  have hmf : ∀ (fn : Fn) (first cap : Array Value) (w : World), (Instr.makeFunc fn first cap).run Tryd.prog w = .ok (.func fn first cap) w := fun _ _ _ _ => rfl
  have hnn := not_nil
  have H0 := Lib.hid hQ
  have H1 := Lib.hid hQ1
  have H3 := Lib.hid hQ3
  have HC := Lib.hid hcall
  clear hQ hQ1 hQ3 hcall
  go_enter_defers Tryd.func27, Tryd.ntmps27
  go_wp2_with fail
  refine HC.out.mono ?_
  rintro e w1 ⟨rfl, hq⟩
  have c0 := H0.out w1 hq
  obtain ⟨u1, c1⟩ := H1.out w1 hq
  have z1 := H3.out w1 hq
  go_wp2_with fail
  refine leaves_cons (f := 38) (args := #[.pointer (some ⟨w.heap.size, 0, none⟩)]) (by simp) (by simp [go_sem]) ?_
  have d0 : (w1.setCell ⟨w.heap.size, 1, none⟩ (.iface T x)).cell? ⟨w.heap.size, 0, none⟩ = some (.bool true) := by simp [go_sem, c0, c1]
  have d1 : (w1.setCell ⟨w.heap.size, 1, none⟩ (.iface T x)).cell? ⟨w.heap.size, 1, none⟩ = some (.iface T x) := by simp [go_sem, c0, c1]
  refine (catch_panicking w.heap.size u1 T x [] _ c0 c1 z1).mono ?_
  rintro e u' w'' ⟨rfl, rfl, rfl⟩
  simp [Leaves, settle, results, Tryd.results27, go_sem, d0, d1]
  exact ⟨w1, hq, rfl⟩

def sets : List (Addr × Value) → World → World
  | [], w => w
  | p :: r, w => sets r (w.setCell p.1 p.2)
theorem sets_size (l : List (Addr × Value)) : ∀ w, (sets l w).heap.size = w.heap.size := by
  induction l with
  | nil => exact fun _ => rfl
  | cons p r ih => exact fun w => by rw [sets, ih]; simp [World.setCell]
theorem sets_below (l : List (Addr × Value)) : ∀ {B : Nat} {a b : World}, Below B a b → Below B (sets l a) (sets l b) := by
  induction l with
  | nil => exact fun h => h
  | cons p r ih => exact fun h => ih (both h p.1 p.2)
theorem sets_heap (l : List (Addr × Value)) : ∀ (w : World) (k : Nat), (∀ p ∈ l, p.1.block ≠ k) → (sets l w).heap[k]? = w.heap[k]? := by
  induction l with
  | nil => exact fun _ _ _ => rfl
  | cons p r ih =>
      intro w k h
      rw [sets, ih _ _ (fun q hq => h q (List.mem_cons_of_mem _ hq)), Below.heap_setCell _ _ _ _ (fun e => h p (List.mem_cons_self ..) e.symm)]
theorem call_sets (g : Nat) (cap : Array Value) (w : World) (l : List (Addr × Value)) (hl : ∀ p ∈ l, p.1.block < w.heap.size) (hent : ∀ (args : Array Value) (w : World), (callFunc g args).run Tryd.prog w = .ok (.enter g args) w)
    (hcall : Calls Tryd.prog g cap (began w) fun e w' => e = .returned (.tuple #[]) ∧ Below (began w).heap.size (sets l (began w)) w') :
    Calls Tryd.prog 27 #[.func (.func g) #[] cap] w fun e w' => e = .returned (.agg #[.bool false, .nilIface]) ∧ Below w.heap.size (sets l w) w' := by
  have hs := began_size w
  have hold : ∀ w1, Below (began w).heap.size (sets l (began w)) w1 → w1.heap[w.heap.size]? = (began w).heap[w.heap.size]? := fun w1 h => by
    rw [h.block _ (by omega), sets_heap _ _ _ (fun p hp e => by have := hl p hp; omega)]
  refine (call_back g cap w (fun w1 => Below (began w).heap.size (sets l (began w)) w1) hent ?_ ?_ ?_ ?_ hcall).mono ?_
  · exact fun w1 h => ⟨_, (World.cell?_of_block (hold w1 h)).trans (began_cell0 w)⟩
  · exact fun w1 h => ⟨_, (World.cell?_of_block (hold w1 h)).trans (began_cell1 w)⟩
  · exact fun w1 h => (World.frozen?_of_block (hold w1 h)).trans (began_free w 0)
  · exact fun w1 h => (World.frozen?_of_block (hold w1 h)).trans (began_free w 1)
  · rintro e w' ⟨rfl, w1, h, rfl⟩
    exact ⟨rfl, (((sets_below l (began_below w)).trans (h.mono (by omega))).setCell (Nat.le_refl _) _).setCell (Nat.le_refl _) _⟩
theorem call_dies (g : Nat) (cap : Array Value) (w : World) (Q : World → Prop) (T : TypeId) (x : Value) (hent : ∀ (args : Array Value) (w : World), (callFunc g args).run Tryd.prog w = .ok (.enter g args) w)
    (hcall : Calls Tryd.prog g cap (began w) fun e w' => e = .panicked [{ v := .iface T x, recovered := false }] ∧ Below (began w).heap.size (began w) w' ∧ Q w') :
    Calls Tryd.prog 27 #[.func (.func g) #[] cap] w fun e w' => e = .returned (.agg #[.bool true, .iface T x]) ∧ Below w.heap.size w w' ∧ ∃ w1, Q w1 ∧ w' = w1.setCell ⟨w.heap.size, 1, none⟩ (.iface T x) := by
  have hs := began_size w
  have hold : ∀ w1, Below (began w).heap.size (began w) w1 → w1.heap[w.heap.size]? = (began w).heap[w.heap.size]? := fun w1 h => by rw [h.block _ (by omega)]
  refine (call_panic g cap w (fun w1 => Below (began w).heap.size (began w) w1 ∧ Q w1) T x hent ?_ ?_ ?_ hcall).mono ?_
  · exact fun w1 h => (World.cell?_of_block (hold w1 h.1)).trans (began_cell0 w)
  · exact fun w1 h => ⟨_, (World.cell?_of_block (hold w1 h.1)).trans (began_cell1 w)⟩
  · exact fun w1 h => (World.frozen?_of_block (hold w1 h.1)).trans (began_free w 1)
  · rintro e w' ⟨rfl, w1, h, rfl⟩
    exact ⟨rfl, ((began_below w).trans (h.1.mono (by omega))).setCell (Nat.le_refl _) _, w1, h.2, rfl⟩
end Go.Proofs.YtgikdmognolmoaaDoor
