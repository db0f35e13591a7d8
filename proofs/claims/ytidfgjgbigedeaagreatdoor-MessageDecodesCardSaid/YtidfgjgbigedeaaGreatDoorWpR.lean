/- guard.Run, whatever the closure leaves behind it. -/
import Derived.Test.YtidfgjgbigedeaaGreatDoorGuC
import Derived.Test.YtidfgjgbigedeaaGreatDoorWpA
namespace Go.Proofs.YtidfgjgbigedeaaGreatDoor
open Go.RowKit Go.Lib Go.Extern.Stop Go.Stop Go.Extern
set_option linter.unusedVariables false
set_option linter.unusedSimpArgs false
set_option maxRecDepth 100000

/-- What was there stays, but for some blocks. -/
structure Kept (S : Nat → Prop) (w w' : World) : Prop where
  os : w'.os = w.os
  tape : w'.tape = w.tape
  output : w'.output = w.output
  size : w.heap.size ≤ w'.heap.size
  block : ∀ k, k < w.heap.size → ¬ S k → w'.heap[k]? = w.heap[k]?
theorem Kept.refl (S : Nat → Prop) (w : World) : Kept S w w := ⟨rfl, rfl, rfl, Nat.le_refl _, fun _ _ _ => rfl⟩
theorem Kept.trans {S : Nat → Prop} {w1 w2 w3 : World} (h : Kept S w1 w2) (k : Kept S w2 w3) : Kept S w1 w3 :=
  ⟨k.os.trans h.os, k.tape.trans h.tape, k.output.trans h.output, Nat.le_trans h.size k.size, fun i hi hS => by rw [k.block i (Nat.lt_of_lt_of_le hi h.size) hS, h.block i hi hS]⟩
theorem Kept.mono {S T : Nat → Prop} {w w' : World} (h : Kept S w w') (hT : ∀ k, S k → T k) : Kept T w w' := ⟨h.os, h.tape, h.output, h.size, fun k hk hn => h.block k hk (fun hS => hn (hT k hS))⟩
theorem Kept.of_below {S : Nat → Prop} {w w' : World} (h : Below w.heap.size w w') : Kept S w w' := ⟨h.os, h.tape, h.output, h.size, fun k hk _ => h.block k hk⟩
theorem Kept.setCell {S : Nat → Prop} {w w' : World} (h : Kept S w w') (a : Addr) (v : Value) (hS : S a.block) : Kept S w (w'.setCell a v) :=
  ⟨h.os, h.tape, h.output, by simpa [World.setCell] using h.size, fun k hk hn => by rw [Below.heap_setCell _ _ _ _ (fun e => hn (by rw [e]; exact hS)), h.block k hk hn]⟩
theorem Kept.below {S : Nat → Prop} {B : Nat} {w w' : World} (h : Kept S w w') (hB : B ≤ w.heap.size) (hS : ∀ k, S k → B ≤ k) : Below B w w' :=
  ⟨h.os, h.tape, h.output, h.size, fun k hk => h.block k (Nat.lt_of_lt_of_le hk hB) (fun hs => by have := hS k hs; omega)⟩

theorem call_panic' (g : Nat) (cap : Array Value) (w : World) (Q : Value → World → Prop) (T : TypeId) (hent : ∀ (args : Array Value) (w : World), (callFunc g args).run Tryz.prog w = .ok (.enter g args) w)
    (hQ : ∀ x w1, Q x w1 → w1.cell? ⟨w.heap.size, 0, none⟩ = some (.bool true)) (hQ1 : ∀ x w1, Q x w1 → ∃ u, w1.cell? ⟨w.heap.size, 1, none⟩ = some u) (hQ3 : ∀ x w1, Q x w1 → w1.frozen? ⟨w.heap.size, 1, none⟩ = false)
    (hcall : Calls Tryz.prog g cap (began w) fun e w' => ∃ x, e = .panicked [{ v := .iface T x, recovered := false }] ∧ Q x w') :
    Calls Tryz.prog 62 #[.func (.func g) #[] cap] w fun e w' => ∃ x, e = .returned (.agg #[.bool true, .iface T x]) ∧
      ∃ w1, Q x w1 ∧ w' = w1.setCell ⟨w.heap.size, 1, none⟩ (.iface T x) := by
  have hmf : ∀ (fn : Fn) (first cap : Array Value) (w : World), (Instr.makeFunc fn first cap).run Tryz.prog w = .ok (.func fn first cap) w := fun _ _ _ _ => rfl
  have hnn := not_nil
  have H0 := Lib.hid hQ
  have H1 := Lib.hid hQ1
  have H3 := Lib.hid hQ3
  have HC := Lib.hid hcall
  clear hQ hQ1 hQ3 hcall
  go_enter_defers Tryz.func62, Tryz.ntmps62
  go_wp2_with fail
  refine HC.out.mono ?_
  rintro e w1 ⟨x, rfl, hq⟩
  have c0 := H0.out x w1 hq
  obtain ⟨u1, c1⟩ := H1.out x w1 hq
  have z1 := H3.out x w1 hq
  go_wp2_with fail
  refine leaves_cons (f := 88) (args := #[.pointer (some ⟨w.heap.size, 0, none⟩)]) (by simp) (by simp [go_sem]) ?_
  have d0 : (w1.setCell ⟨w.heap.size, 1, none⟩ (.iface T x)).cell? ⟨w.heap.size, 0, none⟩ = some (.bool true) := by simp [go_sem, c0, c1]
  have d1 : (w1.setCell ⟨w.heap.size, 1, none⟩ (.iface T x)).cell? ⟨w.heap.size, 1, none⟩ = some (.iface T x) := by simp [go_sem, c0, c1]
  refine (catch_panicking w.heap.size u1 T x [] _ c0 c1 z1).mono ?_
  rintro e u' w'' ⟨rfl, rfl, rfl⟩
  simp [Leaves, settle, results, Tryz.results62, go_sem, d0, d1]
  exact ⟨w1, hq, rfl⟩

theorem run_gen (fn : Fn) (first cap : Array Value) (kind code place : Int) (w : World) (R : Array Value → World → Prop)
    (hcall : Calls Tryz.prog 62 #[.func fn first cap] (w.alloc (.cells #[.int .i64 0, .string ⟨#[]⟩, .int .i64 0, .int .i64 0] 65)) fun e w' => ∃ cs, e = .returned (.agg cs) ∧ w.heap.size < w'.heap.size ∧ Room w' w.heap.size ∧ R cs w')
    (hca : ∀ cs w1, R cs w1 → Calls Tryz.prog 61 #[.agg cs] w1 fun e w' => e = .returned (caughtV kind code place) ∧ Below w1.heap.size w1 w') :
    Calls Tryz.prog 33 #[.func fn first cap] w fun e w' => e = .returned (caughtV kind code place) ∧ ∃ cs w1, R cs w1 ∧ Kept (fun k => k = w.heap.size) w1 w' := by
  have HC := Lib.hid hcall
  have HA := Lib.hid hca
  clear hcall hca
  go_enter Tryz.func33, Tryz.ntmps33
  go_wp2_with fail
  refine HC.out.mono ?_
  rintro e w1 ⟨cs, rfl, hlt, hroom, r1⟩
  have r1 := Lib.hid r1
  have hroom := Lib.hid hroom
  go_wp2_with fail
  refine (HA.out cs w1 r1.out).mono ?_
  rintro e w2 ⟨rfl, b2⟩
  obtain ⟨c0, c1, c2, c3, f0, f1, f2, f3⟩ := hroom.out.below b2 hlt
  have HK : Hid (Kept (fun k => k = w.heap.size) w1 w2) := Lib.hid (Kept.of_below b2)
  unfold caughtV
  go_wp2_with fail
  refine bodyPost_ret (v := caughtV kind code place) (by simp [results, Tryz.results33, go_sem, c0, c1, c2, c3, caughtV]) rfl ?_
  exact ⟨rfl, cs, w1, r1.out, (((HK.out.setCell _ _ rfl).setCell _ _ rfl).setCell _ _ rfl).setCell _ _ rfl⟩

/-- The blocks that Run itself has. -/
def Two (s : Nat) : Nat → Prop := fun k => k = s ∨ k = s + 1
theorem room_kept {w W w' : World} (hb : Below (w.heap.size + 1) (w.alloc (.cells #[.int .i64 0, .string ⟨#[]⟩, .int .i64 0, .int .i64 0] 65)) W) (h : w'.heap[w.heap.size]? = W.heap[w.heap.size]?) : Room w' w.heap.size := by
  obtain ⟨a0, a1, a2, a3, a4, a5, a6, a7⟩ := (Room.new w).below hb (by omega)
  exact ⟨(World.cell?_of_block h).trans a0, (World.cell?_of_block h).trans a1, (World.cell?_of_block h).trans a2, (World.cell?_of_block h).trans a3,
    (World.frozen?_of_block h).trans a4, (World.frozen?_of_block h).trans a5, (World.frozen?_of_block h).trans a6, (World.frozen?_of_block h).trans a7⟩
/-- The world in which the closure is called. -/
def under (w : World) : World := began (w.alloc (.cells #[.int .i64 0, .string ⟨#[]⟩, .int .i64 0, .int .i64 0] 65))
theorem under_size (w : World) : (under w).heap.size = w.heap.size + 2 := by unfold under; rw [began_size]; simp
theorem under_below (w : World) : Below w.heap.size w (under w) := ((Below.refl _ w).alloc (Nat.le_refl _) _).trans ((began_below _).mono (by simp))

theorem run_ok (g : Nat) (cap : Array Value) (w : World) (Q : World → Prop) (hent : ∀ (args : Array Value) (w : World), (callFunc g args).run Tryz.prog w = .ok (.enter g args) w)
    (hcall : Calls Tryz.prog g cap (under w) fun e w' => e = .returned (.tuple #[]) ∧ Q w' ∧ (under w).heap.size ≤ w'.heap.size ∧ ∀ k, Two w.heap.size k → w'.heap[k]? = (under w).heap[k]?) :
    Calls Tryz.prog 33 #[.func (.func g) #[] cap] w fun e w' => e = .returned (caughtV 0 0 0) ∧ ∃ w1, Q w1 ∧ Kept (Two w.heap.size) w1 w' := by
  have hs := under_size w
  refine (run_gen (.func g) #[] cap 0 0 0 w (fun cs w1 => cs = #[.bool false, .nilIface] ∧ ∃ w0, Q w0 ∧ Kept (Two w.heap.size) w0 w1) ?_ (fun cs w1 h => by obtain ⟨rfl, -⟩ := h; exact caught_none w1)).mono ?_
  · refine (call_back g cap (w.alloc (.cells #[.int .i64 0, .string ⟨#[]⟩, .int .i64 0, .int .i64 0] 65)) (fun w1 => Q w1 ∧ (under w).heap.size ≤ w1.heap.size ∧ ∀ k, Two w.heap.size k → w1.heap[k]? = (under w).heap[k]?) hent ?_ ?_ ?_ ?_ hcall).mono ?_
    · exact fun w1 h => ⟨_, (World.cell?_of_block (h.2.2 _ (Or.inr (by simp)))).trans (began_cell0 _)⟩
    · exact fun w1 h => ⟨_, (World.cell?_of_block (h.2.2 _ (Or.inr (by simp)))).trans (began_cell1 _)⟩
    · exact fun w1 h => (World.frozen?_of_block (h.2.2 _ (Or.inr (by simp)))).trans (began_free _ 0)
    · exact fun w1 h => (World.frozen?_of_block (h.2.2 _ (Or.inr (by simp)))).trans (began_free _ 1)
    · rintro e w' ⟨rfl, w1, ⟨hq, hsz, hk⟩, rfl⟩
      have hne : w.heap.size ≠ (w.alloc (.cells #[.int .i64 0, .string ⟨#[]⟩, .int .i64 0, .int .i64 0] 65)).heap.size := by simp
      refine ⟨_, rfl, by simp [World.setCell]; omega, room_kept (W := under w) ((began_below _).mono (by simp)) ?_, rfl, w1, hq, ?_⟩
      · rw [Below.heap_setCell _ _ _ _ hne, Below.heap_setCell _ _ _ _ hne]
        exact hk _ (Or.inl rfl)
      · exact ((Kept.refl _ w1).setCell _ _ (Or.inr (by simp))).setCell _ _ (Or.inr (by simp))
  · rintro e w' ⟨rfl, cs, w1, ⟨rfl, w0, hq, hk⟩, hk2⟩
    exact ⟨rfl, w0, hq, hk.trans (hk2.mono (fun k h => Or.inl h))⟩

theorem run_bad (g : Nat) (cap : Array Value) (w : World) (code place : Int) (Q : World → Prop) (hQ : ∀ w1, Q w1 → Handle w1) (hent : ∀ (args : Array Value) (w : World), (callFunc g args).run Tryz.prog w = .ok (.enter g args) w)
    (hcall : Calls Tryz.prog g cap (under w) fun e w' => Dies code place (under w) e w' ∧ Q w' ∧ (under w).heap.size ≤ w'.heap.size ∧ ∀ k, Two w.heap.size k → w'.heap[k]? = (under w).heap[k]?)
    (hH : 2 < w.heap.size) :
    Calls Tryz.prog 33 #[.func (.func g) #[] cap] w fun e w' => e = .returned (caughtV 2 code place) ∧ ∃ w1, Q w1 ∧ Kept (Two w.heap.size) w1 w' := by
  have hs := under_size w
  refine (run_gen (.func g) #[] cap 2 code place w (fun cs w1 => (∃ pb : Nat, cs = #[.bool true, .iface 132 (.pointer (some ⟨pb, 0, none⟩))] ∧ w1.cell? ⟨pb, 0, none⟩ = some (.int .i64 code) ∧ w1.cell? ⟨pb, 1, none⟩ = some (.int .i64 place)) ∧ Handle w1 ∧ ∃ w0, Q w0 ∧ Kept (Two w.heap.size) w0 w1) ?_
    (fun cs w1 h => by obtain ⟨⟨pb, rfl, h1, h2⟩, h3, -⟩ := h; exact caught_F pb code place w1 h3 h1 h2)).mono ?_
  · refine (call_panic' g cap (w.alloc (.cells #[.int .i64 0, .string ⟨#[]⟩, .int .i64 0, .int .i64 0] 65)) (fun x w1 => (∃ pb : Nat, x = .pointer (some ⟨pb, 0, none⟩) ∧ (under w).heap.size ≤ pb ∧ w1.cell? ⟨pb, 0, none⟩ = some (.int .i64 code) ∧ w1.cell? ⟨pb, 1, none⟩ = some (.int .i64 place)) ∧ Q w1 ∧ (under w).heap.size ≤ w1.heap.size ∧ ∀ k, Two w.heap.size k → w1.heap[k]? = (under w).heap[k]?) 132 hent ?_ ?_ ?_ (hcall.mono ?_)).mono ?_
    · exact fun x w1 h => (World.cell?_of_block (h.2.2.2 _ (Or.inr (by simp)))).trans (began_cell0 _)
    · exact fun x w1 h => ⟨_, (World.cell?_of_block (h.2.2.2 _ (Or.inr (by simp)))).trans (began_cell1 _)⟩
    · exact fun x w1 h => (World.frozen?_of_block (h.2.2.2 _ (Or.inr (by simp)))).trans (began_free _ 1)
    · rintro e w' ⟨⟨pb, rfl, h1, h2, h3⟩, h4⟩
      exact ⟨_, rfl, ⟨pb, rfl, h1, h2, h3⟩, h4⟩
    · rintro e w' ⟨x, rfl, w1, ⟨⟨pb, rfl, h1, h2, h3⟩, hq, hsz, hk⟩, rfl⟩
      have hne : w.heap.size ≠ (w.alloc (.cells #[.int .i64 0, .string ⟨#[]⟩, .int .i64 0, .int .i64 0] 65)).heap.size := by simp
      have hnp : pb ≠ (w.alloc (.cells #[.int .i64 0, .string ⟨#[]⟩, .int .i64 0, .int .i64 0] 65)).heap.size := by simp; omega
      have hal : (w.alloc (.cells #[.int .i64 0, .string ⟨#[]⟩, .int .i64 0, .int .i64 0] 65)).heap.size = w.heap.size + 1 := by simp
      have hng : 2 ≠ (w.alloc (.cells #[.int .i64 0, .string ⟨#[]⟩, .int .i64 0, .int .i64 0] 65)).heap.size := by rw [hal]; omega
      refine ⟨_, rfl, by simp [World.setCell]; omega, room_kept (W := under w) ((began_below _).mono (by simp)) ?_, ⟨pb, rfl, ?_, ?_⟩, ?_, w1, hq, ?_⟩
      · rw [Below.heap_setCell _ _ _ _ hne]
        exact hk _ (Or.inl rfl)
      · exact (World.cell?_of_block (Below.heap_setCell _ _ _ _ hnp)).trans h2
      · exact (World.cell?_of_block (Below.heap_setCell _ _ _ _ hnp)).trans h3
      · exact (World.cell?_of_block (Below.heap_setCell _ _ _ _ hng)).trans (hQ w1 hq)
      · exact (Kept.refl _ w1).setCell _ _ (Or.inr (by simp))
  · rintro e w' ⟨rfl, cs, w1, ⟨-, -, w0, hq, hk⟩, hk2⟩
    exact ⟨rfl, w0, hq, hk.trans (hk2.mono (fun k h => Or.inl h))⟩
end Go.Proofs.YtidfgjgbigedeaaGreatDoor
