/- caughtError, caught and Run: what is made of the end of a call. -/
import Derived.Test.YtgikdmognolmoaaDoorGuD
namespace Go.Proofs.YtgikdmognolmoaaDoor
open Go.RowKit Go.Extern.Stop Go.Stop Go.Extern
set_option linter.unusedVariables false
set_option linter.unusedSimpArgs false

def caughtV (kind code place : Int) : Value := .agg #[.int .i64 kind, .string ⟨#[]⟩, .int .i64 code, .int .i64 place]
/-- A Caught's variable: four cells that may be written. -/
structure Room (w : World) (b : Nat) : Prop where
  c0 : w.cell? ⟨b, 0, none⟩ = some (.int .i64 0)
  c1 : w.cell? ⟨b, 1, none⟩ = some (.string ⟨#[]⟩)
  c2 : w.cell? ⟨b, 2, none⟩ = some (.int .i64 0)
  c3 : w.cell? ⟨b, 3, none⟩ = some (.int .i64 0)
  f0 : w.frozen? ⟨b, 0, none⟩ = false
  f1 : w.frozen? ⟨b, 1, none⟩ = false
  f2 : w.frozen? ⟨b, 2, none⟩ = false
  f3 : w.frozen? ⟨b, 3, none⟩ = false
theorem Room.new (w : World) : Room (w.alloc (.cells #[.int .i64 0, .string ⟨#[]⟩, .int .i64 0, .int .i64 0] 36)) w.heap.size :=
  ⟨by simp [go_sem], by simp [go_sem], by simp [go_sem], by simp [go_sem], by simp [go_sem], by simp [go_sem], by simp [go_sem], by simp [go_sem]⟩
theorem Room.below {w w' : World} {b : Nat} (h : Room w b) {B : Nat} (bel : Below B w w') (hb : b < B) : Room w' b := by
  obtain ⟨a0, a1, a2, a3, a4, a5, a6, a7⟩ := h
  exact ⟨(bel.cell (p := ⟨b, 0, none⟩) hb).trans a0, (bel.cell (p := ⟨b, 1, none⟩) hb).trans a1, (bel.cell (p := ⟨b, 2, none⟩) hb).trans a2, (bel.cell (p := ⟨b, 3, none⟩) hb).trans a3,
    (bel.frozen (p := ⟨b, 0, none⟩) hb).trans a4, (bel.frozen (p := ⟨b, 1, none⟩) hb).trans a5, (bel.frozen (p := ⟨b, 2, none⟩) hb).trans a6, (bel.frozen (p := ⟨b, 3, none⟩) hb).trans a7⟩

theorem caughtError_E (n : Int) (w : World) (hg : Handle w) : Calls Tryd.prog 37 #[.iface 23 (.int .i64 n)] w fun e w' => e = .returned (caughtV 1 n 0) ∧ Below w.heap.size w w' := by
  have b0 : Below w.heap.size w (w.alloc (.cells #[.int .i64 0, .string ⟨#[]⟩, .int .i64 0, .int .i64 0] 36)) := (Below.refl _ w).alloc (Nat.le_refl _) _
  have HG := Lib.hid hg
  have HR := Lib.hid (Room.new w)
  clear hg
  go_enter Tryd.func37, Tryd.ntmps37
  go_wp2_with fail
  refine (faultOf_E n _ (HG.out.below b0)).mono ?_
  rintro e w1 ⟨rfl, b1⟩
  go_wp2_with fail
  have g1 := (HG.out.below b0).below b1
  refine (errnoOf_E n w1 g1).mono ?_
  rintro e w2 ⟨rfl, b2⟩
  have s1 : w.heap.size + 1 ≤ w1.heap.size := by simpa using b1.size
  obtain ⟨c0, c1, c2, c3, f0, f1, f2, f3⟩ := (HR.out.below b1 (by simp)).below b2 (by omega)
  go_wp2_with fail
  refine bodyPost_ret (v := caughtV 1 n 0) (by simp [results, Tryd.results37, go_sem, c0, c1, c2, c3, caughtV]) rfl ?_
  exact ⟨rfl, (((((b0.trans (b1.mono (by simp))).trans (b2.mono (by omega))).setCell (Nat.le_refl _) _).setCell (Nat.le_refl _) _).setCell (Nat.le_refl _) _).setCell (Nat.le_refl _) _⟩

theorem caughtError_F (pb : Nat) (code place : Int) (w : World) (hg : Handle w) (hp0 : w.cell? ⟨pb, 0, none⟩ = some (.int .i64 code)) (hp1 : w.cell? ⟨pb, 1, none⟩ = some (.int .i64 place)) :
    Calls Tryd.prog 37 #[.iface 67 (.pointer (some ⟨pb, 0, none⟩))] w fun e w' => e = .returned (caughtV 2 code place) ∧ Below w.heap.size w w' := by
  have b0 : Below w.heap.size w (w.alloc (.cells #[.int .i64 0, .string ⟨#[]⟩, .int .i64 0, .int .i64 0] 36)) := (Below.refl _ w).alloc (Nat.le_refl _) _
  have HG := Lib.hid hg
  have HR := Lib.hid (Room.new w)
  have hb : pb < w.heap.size := lt_of_cell hp0
  have hne : ∀ w : World, (binOp .neq 67 (.pointer (some ⟨pb, 0, none⟩)) (.pointer none)).run Tryd.prog w = .ok (.bool true) w := fun _ => by kernel_rfl
  clear hg
  go_enter Tryd.func37, Tryd.ntmps37
  go_wp2_with fail
  refine (faultOf_F ⟨pb, 0, none⟩ _ (HG.out.below b0)).mono ?_
  rintro e w1 ⟨rfl, b1⟩
  have s1 : w.heap.size + 1 ≤ w1.heap.size := by simpa using b1.size
  obtain ⟨c0, c1, c2, c3, f0, f1, f2, f3⟩ := HR.out.below b1 (by simp)
  have q0 : w1.cell? ⟨pb, 0, none⟩ = some (.int .i64 code) := by rw [b1.cell (by simp; omega), b0.cell hb]; exact hp0
  have q1 : w1.cell? ⟨pb, 1, none⟩ = some (.int .i64 place) := by rw [b1.cell (by simp; omega), b0.cell (p := ⟨pb, 1, none⟩) hb]; exact hp1
  go_wp2_with fail
  go_region
  go_wp2_with fail
  refine bodyPost_ret (v := caughtV 2 code place) (by simp [results, Tryd.results37, go_sem, c0, c1, c2, c3, caughtV]) rfl ?_
  exact ⟨rfl, (((((b0.trans (b1.mono (by simp))).setCell (Nat.le_refl _) _).setCell (Nat.le_refl _) _).setCell (Nat.le_refl _) _).setCell (Nat.le_refl _) _).drew⟩

theorem caught_none (w : World) : Calls Tryd.prog 26 #[.agg #[.bool false, .nilIface]] w fun e w' => e = .returned (caughtV 0 0 0) ∧ Below w.heap.size w w' := by
  go_enter Tryd.func26, Tryd.ntmps26
  go_wp2_with fail
  refine bodyPost_ret (v := caughtV 0 0 0) (by simp [results, Tryd.results26, go_sem, caughtV]) rfl ?_
  exact ⟨rfl, ((Below.refl _ w).alloc (Nat.le_refl _) _).alloc (by simp) _⟩

theorem caught_any (T : TypeId) (x : Value) (kind code place : Int) (w : World)
    (y1 : ∀ w, (Instr.typeAssert (.iface T x) 20 86 true).run Tryd.prog w = .ok (.tuple #[.nilIface, .bool false]) w)
    (y2 : ∀ w, (Instr.typeAssert (.iface T x) 20 69 true).run Tryd.prog w = .ok (.tuple #[.iface T x, .bool true]) w)
    (hce : ∀ w1, Below w.heap.size w w1 → Calls Tryd.prog 37 #[.iface T x] w1 fun e w' => e = .returned (caughtV kind code place) ∧ Below w1.heap.size w1 w') :
    Calls Tryd.prog 26 #[.agg #[.bool true, .iface T x]] w fun e w' => e = .returned (caughtV kind code place) ∧ Below w.heap.size w w' := by
  have b0 : Below w.heap.size w ((w.alloc (.cells #[.bool true, .iface T x] 62)).alloc (.cells #[.int .i64 0, .string ⟨#[]⟩, .int .i64 0, .int .i64 0] 36)) := ((Below.refl _ w).alloc (Nat.le_refl _) _).alloc (by simp) _
  have HC := Lib.hid (hce _ b0)
  have R0 : Room ((w.alloc (.cells #[.bool true, .iface T x] 62)).alloc (.cells #[.int .i64 0, .string ⟨#[]⟩, .int .i64 0, .int .i64 0] 36)) (w.heap.size + 1) := by simpa using Room.new (w.alloc (.cells #[.bool true, .iface T x] 62))
  have HR := Lib.hid R0
  clear hce R0
  go_enter Tryd.func26, Tryd.ntmps26
  go_wp2_with fail
  refine HC.out.mono ?_
  rintro e w1 ⟨rfl, b1⟩
  obtain ⟨c0, c1, c2, c3, f0, f1, f2, f3⟩ := HR.out.below b1 (by simp)
  unfold caughtV
  go_wp2_with fail
  refine bodyPost_ret (v := caughtV kind code place) (by simp [results, Tryd.results26, go_sem, c0, c1, c2, c3, caughtV]) rfl ?_
  exact ⟨rfl, ((((b0.trans (b1.mono (by simp <;> omega))).setCell (by simp) _).setCell (by simp) _).setCell (by simp) _).setCell (by simp) _⟩

theorem caught_E (n : Int) (w : World) (hg : Handle w) : Calls Tryd.prog 26 #[.agg #[.bool true, .iface 23 (.int .i64 n)]] w fun e w' => e = .returned (caughtV 1 n 0) ∧ Below w.heap.size w w' :=
  caught_any _ _ 1 n 0 w (fun w => noRtE _ w) (fun w => isErrE _ w) (fun w1 b => caughtError_E n w1 (hg.below b))
theorem caught_F (pb : Nat) (code place : Int) (w : World) (hg : Handle w) (hp0 : w.cell? ⟨pb, 0, none⟩ = some (.int .i64 code)) (hp1 : w.cell? ⟨pb, 1, none⟩ = some (.int .i64 place)) :
    Calls Tryd.prog 26 #[.agg #[.bool true, .iface 67 (.pointer (some ⟨pb, 0, none⟩))]] w fun e w' => e = .returned (caughtV 2 code place) ∧ Below w.heap.size w w' :=
  caught_any _ _ 2 code place w (fun w => noRtF _ w) (fun w => isErrF _ w) (fun w1 b => caughtError_F pb code place w1 (hg.below b)
    ((b.cell (p := ⟨pb, 0, none⟩) (lt_of_cell hp0)).trans hp0) ((b.cell (p := ⟨pb, 1, none⟩) (lt_of_cell hp1)).trans hp1))

/-- Run: the call of guard.call and what is made of its end, both by contracts. -/
theorem run_any (fn : Fn) (first cap : Array Value) (cs : Array Value) (kind code place : Int) (w : World) (l : List (Addr × Value)) (hl : ∀ p ∈ l, p.1.block < w.heap.size) (R : World → Prop)
    (hcall : Calls Tryd.prog 27 #[.func fn first cap] (w.alloc (.cells #[.int .i64 0, .string ⟨#[]⟩, .int .i64 0, .int .i64 0] 36)) fun e w' => e = .returned (.agg cs) ∧ Below (w.heap.size + 1) (sets l (w.alloc (.cells #[.int .i64 0, .string ⟨#[]⟩, .int .i64 0, .int .i64 0] 36))) w' ∧ R w')
    (hca : ∀ w1, R w1 → Calls Tryd.prog 26 #[.agg cs] w1 fun e w' => e = .returned (caughtV kind code place) ∧ Below w1.heap.size w1 w') :
    Calls Tryd.prog 14 #[.func fn first cap] w fun e w' => e = .returned (caughtV kind code place) ∧ Below w.heap.size (sets l w) w' := by
  have b0 : Below w.heap.size w (w.alloc (.cells #[.int .i64 0, .string ⟨#[]⟩, .int .i64 0, .int .i64 0] 36)) := (Below.refl _ w).alloc (Nat.le_refl _) _
  have hold : (sets l (w.alloc (.cells #[.int .i64 0, .string ⟨#[]⟩, .int .i64 0, .int .i64 0] 36))).heap[w.heap.size]? = (w.alloc (.cells #[.int .i64 0, .string ⟨#[]⟩, .int .i64 0, .int .i64 0] 36)).heap[w.heap.size]? := sets_heap _ _ _ (fun p hp e => by have := hl p hp; omega)
  have hR : Room (sets l (w.alloc (.cells #[.int .i64 0, .string ⟨#[]⟩, .int .i64 0, .int .i64 0] 36))) w.heap.size := by
    obtain ⟨a0, a1, a2, a3, a4, a5, a6, a7⟩ := Room.new w
    exact ⟨(World.cell?_of_block hold).trans a0, (World.cell?_of_block hold).trans a1, (World.cell?_of_block hold).trans a2, (World.cell?_of_block hold).trans a3,
      (World.frozen?_of_block hold).trans a4, (World.frozen?_of_block hold).trans a5, (World.frozen?_of_block hold).trans a6, (World.frozen?_of_block hold).trans a7⟩
  have hsz : (sets l (w.alloc (.cells #[.int .i64 0, .string ⟨#[]⟩, .int .i64 0, .int .i64 0] 36))).heap.size = w.heap.size + 1 := by rw [sets_size]; simp
  have bs := Lib.hid (sets_below l b0)
  have HC := Lib.hid hcall
  have HA := Lib.hid hca
  have HR := Lib.hid hR
  have HS := Lib.hid hsz
  clear hcall hca hR hold hsz hl
  go_enter Tryd.func14, Tryd.ntmps14
  go_wp2_with fail
  refine HC.out.mono ?_
  rintro e w1 ⟨rfl, b1, r1⟩
  have r1 := Lib.hid r1
  go_wp2_with fail
  refine (HA.out w1 r1.out).mono ?_
  rintro e w2 ⟨rfl, b2⟩
  have s1 := b1.size
  rw [HS.out] at s1
  obtain ⟨c0, c1, c2, c3, f0, f1, f2, f3⟩ := (HR.out.below b1 (by omega)).below b2 (by omega)
  unfold caughtV
  go_wp2_with fail
  refine bodyPost_ret (v := caughtV kind code place) (by simp [results, Tryd.results14, go_sem, c0, c1, c2, c3, caughtV]) rfl ?_
  exact ⟨rfl, (((((bs.out.trans (b1.mono (by omega))).trans (b2.mono (by omega))).setCell (by simp) _).setCell (by simp) _).setCell (by simp) _).setCell (by simp) _⟩

theorem run_back (g : Nat) (cap : Array Value) (w : World) (l : List (Addr × Value)) (hl : ∀ p ∈ l, p.1.block < w.heap.size) (hent : ∀ (args : Array Value) (w : World), (callFunc g args).run Tryd.prog w = .ok (.enter g args) w)
    (hcall : ∀ W, Below w.heap.size w W → Calls Tryd.prog g cap W fun e w' => e = .returned (.tuple #[]) ∧ Below W.heap.size (sets l W) w') :
    Calls Tryd.prog 14 #[.func (.func g) #[] cap] w fun e w' => e = .returned (caughtV 0 0 0) ∧ Below w.heap.size (sets l w) w' := by
  have b0 : Below w.heap.size w (w.alloc (.cells #[.int .i64 0, .string ⟨#[]⟩, .int .i64 0, .int .i64 0] 36)) := (Below.refl _ w).alloc (Nat.le_refl _) _
  refine run_any _ _ _ #[.bool false, .nilIface] 0 0 0 w l hl (fun _ => True) ?_ (fun w1 _ => caught_none w1)
  refine (call_sets g cap (w.alloc (.cells #[.int .i64 0, .string ⟨#[]⟩, .int .i64 0, .int .i64 0] 36)) l (fun p hp => by have := hl p hp; simp; omega) hent (hcall _ (b0.trans ((began_below _).mono (by simp))))).mono ?_
  rintro e w' ⟨rfl, b⟩
  exact ⟨rfl, b.mono (by simp), trivial⟩

theorem run_E (g : Nat) (cap : Array Value) (w : World) (n : Int) (hg : Handle w) (hent : ∀ (args : Array Value) (w : World), (callFunc g args).run Tryd.prog w = .ok (.enter g args) w)
    (hcall : ∀ W, Below w.heap.size w W → Calls Tryd.prog g cap W fun e w' => e = .panicked [{ v := .iface 23 (.int .i64 n), recovered := false }] ∧ Below W.heap.size W w') :
    Calls Tryd.prog 14 #[.func (.func g) #[] cap] w fun e w' => e = .returned (caughtV 1 n 0) ∧ Below w.heap.size w w' := by
  have b0 : Below w.heap.size w (w.alloc (.cells #[.int .i64 0, .string ⟨#[]⟩, .int .i64 0, .int .i64 0] 36)) := (Below.refl _ w).alloc (Nat.le_refl _) _
  have hg0 := hg.below b0
  refine run_any _ _ _ #[.bool true, .iface 23 (.int .i64 n)] 1 n 0 w [] (by simp) Handle ?_ (fun w1 h => caught_E n w1 h)
  refine (call_dies g cap (w.alloc (.cells #[.int .i64 0, .string ⟨#[]⟩, .int .i64 0, .int .i64 0] 36)) (fun _ => True) _ _ hent ((hcall _ (b0.trans ((began_below _).mono (by simp)))).mono (fun e w' h => ⟨h.1, h.2, trivial⟩))).mono ?_
  rintro e w' ⟨rfl, b, -⟩
  exact ⟨rfl, b.mono (by simp), hg0.below b⟩

theorem run_F (g : Nat) (cap : Array Value) (w : World) (code place : Int) (hg : Handle w) (hent : ∀ (args : Array Value) (w : World), (callFunc g args).run Tryd.prog w = .ok (.enter g args) w)
    (hcall : ∀ W, Below w.heap.size w W → Calls Tryd.prog g cap W fun e w' => e = .panicked [{ v := .iface 67 (.pointer (some ⟨W.heap.size, 0, none⟩)), recovered := false }] ∧ Below W.heap.size W w' ∧
      w'.cell? ⟨W.heap.size, 0, none⟩ = some (.int .i64 code) ∧ w'.cell? ⟨W.heap.size, 1, none⟩ = some (.int .i64 place)) :
    Calls Tryd.prog 14 #[.func (.func g) #[] cap] w fun e w' => e = .returned (caughtV 2 code place) ∧ Below w.heap.size w w' := by
  have b0 : Below w.heap.size w (w.alloc (.cells #[.int .i64 0, .string ⟨#[]⟩, .int .i64 0, .int .i64 0] 36)) := (Below.refl _ w).alloc (Nat.le_refl _) _
  have hg0 := hg.below b0
  have hs : (began (w.alloc (.cells #[.int .i64 0, .string ⟨#[]⟩, .int .i64 0, .int .i64 0] 36))).heap.size = w.heap.size + 2 := by rw [began_size]; simp
  refine run_any _ _ _ #[.bool true, .iface 67 (.pointer (some ⟨w.heap.size + 2, 0, none⟩))] 2 code place w []
    (by simp) (fun w1 => Handle w1 ∧ w1.cell? ⟨w.heap.size + 2, 0, none⟩ = some (.int .i64 code) ∧ w1.cell? ⟨w.heap.size + 2, 1, none⟩ = some (.int .i64 place)) ?_ (fun w1 h => caught_F _ code place w1 h.1 h.2.1 h.2.2)
  have hc := hcall _ (b0.trans ((began_below (w.alloc (.cells #[.int .i64 0, .string ⟨#[]⟩, .int .i64 0, .int .i64 0] 36))).mono (by simp)))
  rw [hs] at hc
  refine (call_dies g cap (w.alloc (.cells #[.int .i64 0, .string ⟨#[]⟩, .int .i64 0, .int .i64 0] 36)) (fun w1 => w1.cell? ⟨w.heap.size + 2, 0, none⟩ = some (.int .i64 code) ∧ w1.cell? ⟨w.heap.size + 2, 1, none⟩ = some (.int .i64 place)) _ _ hent
    (hc.mono (fun e w' h => ⟨h.1, by rw [hs]; exact h.2.1, h.2.2⟩))).mono ?_
  rintro e w' ⟨rfl, b, w1, ⟨q0, q1⟩, rfl⟩
  have hne : (w.heap.size + 2 : Nat) ≠ (w.alloc (.cells #[.int .i64 0, .string ⟨#[]⟩, .int .i64 0, .int .i64 0] 36)).heap.size := by simp
  exact ⟨rfl, b.mono (by simp), hg0.below b, (World.cell?_of_block (Below.heap_setCell _ _ _ _ hne)).trans q0, (World.cell?_of_block (Below.heap_setCell _ _ _ _ hne)).trans q1⟩
end Go.Proofs.YtgikdmognolmoaaDoor
