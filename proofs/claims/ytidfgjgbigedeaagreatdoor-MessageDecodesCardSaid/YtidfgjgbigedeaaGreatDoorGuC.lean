/- guard.call: a closure that comes to its end, and one that panics; the deferred closure's two contracts. What is made of an error: firstFault, faultOf, errnoOf at an api.Errno and at a *api.Fault. caughtError, caught and Run: what is made of the end of a call. -/
import Derived.Test.YtidfgjgbigedeaaGreatDoorGuA
import Derived.Defers
import Derived.Recover
import Derived.Lib.Hide
import Derived.BigQuiet
import Derived.Deep.QuietTactic
section
namespace Go.Proofs.YtidfgjgbigedeaaGreatDoor
open Go.RowKit Go.Extern.Stop Go.Stop Go.Extern
set_option linter.unusedVariables false
set_option linter.unusedSimpArgs false

theorem catch_panicking (b : Nat) (x : Value) (T : TypeId) (pv : Value) (older : List PanicEntry) (w : World) (h0 : w.cell? ⟨b, 0, none⟩ = some (.bool true)) (hc : w.cell? ⟨b, 1, none⟩ = some x) (hz : w.frozen? ⟨b, 1, none⟩ = false) :
    CallsD Tryz.prog 88 #[.pointer (some ⟨b, 0, none⟩)] (.panicking ({ v := .iface T pv, recovered := false } :: older)) w fun e u' w' =>
      e = .returned (.tuple #[]) ∧ u' = .panicking ({ v := .iface T pv, recovered := true } :: older) ∧ w' = w.setCell ⟨b, 1, none⟩ (.iface T pv) := by
  refine callsD_of_wpS Tryz.func88 rfl fun c₀ cs hu => ?_
  apply wpS_seq
  apply wpS_region
  simp [wpOpsS, go_sem, recoverD, hu, Tryz.ntmps88, Exit.thenS, h0, hc, hz]
  refine wpS_cond (t := true) (by simp [Act.eval, Array.replicate]) ?_
  simp only [if_true]
  apply wpS_region
  simp [wpOpsS, go_sem, recoverD, hu, h0, hc, hz, bodyPostS, results, Tryz.results88]

theorem catch_idle (b : Nat) (w : World) (h0 : w.cell? ⟨b, 0, none⟩ = some (.bool false)) :
    CallsD Tryz.prog 88 #[.pointer (some ⟨b, 0, none⟩)] .returning w fun e u' w' => e = .returned (.tuple #[]) ∧ u' = .returning ∧ w' = w := by
  refine callsD_of_wpS Tryz.func88 rfl fun c₀ cs hu => ?_
  apply wpS_seq
  apply wpS_region
  simp [wpOpsS, go_sem, recoverD, hu, Tryz.ntmps88, Exit.thenS, h0]
  refine wpS_cond (t := false) (by simp [Act.eval, Array.replicate]) ?_
  simp only [Bool.false_eq_true, if_false]
  refine wpS_of_wp (wp_skip ?_)
  cases c₀
  simp_all [bodyPostS, results, Tryz.results88]

def began (w : World) : World := w.alloc (.cells #[.bool true, .nilIface] 89)
theorem began_size (w : World) : (began w).heap.size = w.heap.size + 1 := by simp [began]
theorem began_below (w : World) : Below w.heap.size w (began w) := (Below.refl _ w).alloc (Nat.le_refl _) _
theorem began_cell0 (w : World) : (began w).cell? ⟨w.heap.size, 0, none⟩ = some (.bool true) := by simp [began, go_sem]
theorem began_cell1 (w : World) : (began w).cell? ⟨w.heap.size, 1, none⟩ = some .nilIface := by simp [began, go_sem]
theorem began_free (w : World) (i : Nat) : (began w).frozen? ⟨w.heap.size, i, none⟩ = false := by simp [began, go_sem]

theorem not_nil (fn : Fn) (first cap : Array Value) (w : World) : (binOp .eql 1 (.func fn first cap) .nilFunc).run Tryz.prog w = .ok (.bool false) w := by kernel_rfl
theorem call_back (g : Nat) (cap : Array Value) (w : World) (Q : World → Prop) (hent : ∀ (args : Array Value) (w : World), (callFunc g args).run Tryz.prog w = .ok (.enter g args) w)
    (hQ : ∀ w1, Q w1 → ∃ u, w1.cell? ⟨w.heap.size, 0, none⟩ = some u) (hQ1 : ∀ w1, Q w1 → ∃ u, w1.cell? ⟨w.heap.size, 1, none⟩ = some u) (hQ2 : ∀ w1, Q w1 → w1.frozen? ⟨w.heap.size, 0, none⟩ = false) (hQ3 : ∀ w1, Q w1 → w1.frozen? ⟨w.heap.size, 1, none⟩ = false)
    (hcall : Calls Tryz.prog g cap (began w) fun e w' => e = .returned (.tuple #[]) ∧ Q w') :
    Calls Tryz.prog 62 #[.func (.func g) #[] cap] w fun e w' => e = .returned (.agg #[.bool false, .nilIface]) ∧
      ∃ w1, Q w1 ∧ w' = (w1.setCell ⟨w.heap.size, 0, none⟩ (.bool false)).setCell ⟨w.heap.size, 1, none⟩ .nilIface := by
  have hmf : ∀ (fn : Fn) (first cap : Array Value) (w : World), (Instr.makeFunc fn first cap).run Tryz.prog w = .ok (.func fn first cap) w := fun _ _ _ _ => rfl
  have hnn := not_nil
  have H0 := Lib.hid hQ
  have H1 := Lib.hid hQ1
  have H2 := Lib.hid hQ2
  have H3 := Lib.hid hQ3
  have HC := Lib.hid hcall
  clear hQ hQ1 hQ2 hQ3 hcall
  go_enter_defers Tryz.func62, Tryz.ntmps62
  go_wp2_with fail
  refine HC.out.mono ?_
  rintro e w1 ⟨rfl, hq⟩
  obtain ⟨u0, c0⟩ := H0.out w1 hq
  obtain ⟨u1, c1⟩ := H1.out w1 hq
  have z0 := H2.out w1 hq
  have z1 := H3.out w1 hq
  go_wp2_with fail
  refine leaves_cons (f := 88) (args := #[.pointer (some ⟨w.heap.size, 0, none⟩)]) (by simp) (by simp [go_sem]) ?_
  have d0 : ((w1.setCell ⟨w.heap.size, 0, none⟩ (.bool false)).setCell ⟨w.heap.size, 1, none⟩ .nilIface).cell? ⟨w.heap.size, 0, none⟩ = some (.bool false) := by simp [go_sem, c0, c1]
  have d1 : ((w1.setCell ⟨w.heap.size, 0, none⟩ (.bool false)).setCell ⟨w.heap.size, 1, none⟩ .nilIface).cell? ⟨w.heap.size, 1, none⟩ = some .nilIface := by simp [go_sem, c0, c1]
  refine (catch_idle w.heap.size _ d0).mono ?_
  rintro e u' w'' ⟨rfl, rfl, rfl⟩
  simp [Leaves, settle, results, Tryz.results62, go_sem, d0, d1]
  exact ⟨w1, hq, rfl⟩

def sets : List (Addr × Value) → World → World
  | [], w => w
  | p :: r, w => sets r (w.setCell p.1 p.2)
theorem sets_below (l : List (Addr × Value)) : ∀ {B : Nat} {a b : World}, Below B a b → Below B (sets l a) (sets l b) := by
  induction l with
  | nil => exact fun h => h
  | cons p r ih => exact fun h => ih (both h p.1 p.2)
theorem sets_heap (l : List (Addr × Value)) : ∀ (w : World) (k : Nat), (∀ p ∈ l, p.1.block ≠ k) → (sets l w).heap[k]? = w.heap[k]? := by
  induction l with
  | nil => exact fun _ _ _ => rfl
  | cons p r ih =>
      intro w k h
      rw [sets, ih _ _ (fun q hq => h q (List.mem_cons_of_mem _ hq)), Below.heap_setCell _ _ _ _ (fun e => h p (List.mem_cons_self ..) e.symm)]
theorem call_sets (g : Nat) (cap : Array Value) (w : World) (l : List (Addr × Value)) (hl : ∀ p ∈ l, p.1.block < w.heap.size) (hent : ∀ (args : Array Value) (w : World), (callFunc g args).run Tryz.prog w = .ok (.enter g args) w)
    (hcall : Calls Tryz.prog g cap (began w) fun e w' => e = .returned (.tuple #[]) ∧ Below (began w).heap.size (sets l (began w)) w') :
    Calls Tryz.prog 62 #[.func (.func g) #[] cap] w fun e w' => e = .returned (.agg #[.bool false, .nilIface]) ∧ Below w.heap.size (sets l w) w' := by
  have hs := began_size w
  have hold : ∀ w1, Below (began w).heap.size (sets l (began w)) w1 → w1.heap[w.heap.size]? = (began w).heap[w.heap.size]? := fun w1 h => by
    rw [h.block _ (by omega), sets_heap _ _ _ (fun p hp e => by have := hl p hp; omega)]
  refine (call_back g cap w (fun w1 => Below (began w).heap.size (sets l (began w)) w1) hent ?_ ?_ ?_ ?_ hcall).mono ?_
  · exact fun w1 h => ⟨_, (World.cell?_of_block (hold w1 h)).trans (began_cell0 w)⟩
  · exact fun w1 h => ⟨_, (World.cell?_of_block (hold w1 h)).trans (began_cell1 w)⟩
  · exact fun w1 h => (World.frozen?_of_block (hold w1 h)).trans (began_free w 0)
  · exact fun w1 h => (World.frozen?_of_block (hold w1 h)).trans (began_free w 1)
  · rintro e w' ⟨rfl, w1, h, rfl⟩
    exact ⟨rfl, (((sets_below l (began_below w)).trans (h.mono (by omega))).setCell (Nat.le_refl _) _).setCell (Nat.le_refl _) _⟩
end Go.Proofs.YtidfgjgbigedeaaGreatDoor
end

section
namespace Go.Proofs.YtidfgjgbigedeaaGreatDoor
open Go.RowKit Go.Extern.Stop Go.Stop Go.Extern
set_option linter.unusedVariables false
set_option linter.unusedSimpArgs false

theorem hmkf (fn : Fn) (first cap : Array Value) (w : World) : (Instr.makeFunc fn first cap).run Tryz.prog w = .ok (.func fn first cap) w := rfl

theorem firstFault_F (p : Addr) (w : World) (hg : Handle w) : Calls Tryz.prog 132 #[.iface 132 (.pointer (some p))] w fun e w' => e = .returned (.pointer (some p)) ∧ Below w.heap.size w w' := by
  have HG := Lib.hid (hg.below ((Below.refl _ w).alloc (Nat.le_refl _) (.cells #[.pointer none] 132)))
  have hne : ∀ w : World, (binOp .eql 132 (.pointer (some p)) (.pointer none)).run Tryz.prog w = .ok (.bool false) w := fun _ => by kernel_rfl
  clear hg
  go_enter Tryz.func132, Tryz.ntmps132
  go_wp2_with fail
  refine (as_hitF p _ (.pointer none) _ HG.out (by simp [go_sem]) (by simp [go_sem])).mono ?_
  rintro e w' ⟨rfl, bel⟩
  have hc : w'.cell? ⟨w.heap.size, 0, none⟩ = some (.pointer (some p)) := by rw [bel.cell (by simp)]; simp [go_sem]
  go_wp2_with fail
  go_ret
  exact ⟨rfl, (((Below.refl _ w).alloc (Nat.le_refl _) _).setCell (by simp) _).trans (bel.mono (by simp))⟩

theorem ent18 (args : Array Value) (w : World) : (callFunc 131 args).run Tryz.prog w = .ok (.enter 131 args) w := by kernel_rfl
theorem faultOf1 (v r : Value) (a t : Addr) (old : Value) (w : World) (hff : ∀ w, Handle w → Calls Tryz.prog 132 #[v] w fun e w' => e = .returned r ∧ Below w.heap.size w w') (hg : Handle w)
    (ha : w.cell? a = some v) (ht : w.cell? t = some old) (hf : w.frozen? t = false) (hr : (∃ q, r = .pointer q)) :
    Calls Tryz.prog 131 #[.pointer (some a), .pointer (some t)] w fun e w' => e = .returned (.tuple #[]) ∧ Below w.heap.size (sets [(t, r)] w) w' := by
  have HG := Lib.hid hg
  have HF := Lib.hid hff
  obtain ⟨q, rfl⟩ := hr
  have hb := lt_of_cell ht
  clear hg hff
  go_enter Tryz.func131, Tryz.ntmps131
  go_wp2_with fail
  refine (HF.out _ HG.out).mono ?_
  rintro e w' ⟨rfl, bel⟩
  have ht' : w'.cell? t = some old := by rw [bel.cell hb]; exact ht
  have hf' : w'.frozen? t = false := by rw [bel.frozen hb]; exact hf
  go_wp2_with fail
  first | go_end0 | refine bodyPost_ret (results_none rfl _ _ _) rfl ?_
  exact ⟨rfl, both bel t _⟩

theorem faultOf_any (T : TypeId) (x : Value) (q : Option Addr) (w : World) (hff : ∀ w, Handle w → Calls Tryz.prog 132 #[.iface T x] w fun e w' => e = .returned (.pointer q) ∧ Below w.heap.size w w') (hg : Handle w) :
    Calls Tryz.prog 111 #[.iface T x] w fun e w' => e = .returned (.pointer q) ∧ Below w.heap.size w w' := by
  have HF := Lib.hid hff
  have hmf := hmkf
  have b0 : Below w.heap.size w ((w.alloc (.cells #[.iface T x] 123)).alloc (.cells #[.pointer none] 132)) := ((Below.refl _ w).alloc (Nat.le_refl _) _).alloc (by simp) _
  have hg1 := hg.below b0
  have hg2 := Lib.hid (hg1.below (began_below _))
  have K := call_sets 131 #[.pointer (some ⟨w.heap.size, 0, none⟩), .pointer (some ⟨w.heap.size + 1, 0, none⟩)] ((w.alloc (.cells #[.iface T x] 123)).alloc (.cells #[.pointer none] 132)) [(⟨w.heap.size + 1, 0, none⟩, .pointer q)]
    (by simp) ent18 (faultOf1 (.iface T x) (.pointer q) ⟨w.heap.size, 0, none⟩ ⟨w.heap.size + 1, 0, none⟩ (.pointer none) _ hff hg2.out (by simp [began, go_sem]) (by simp [began, go_sem]) (by simp [began, go_sem]) ⟨q, rfl⟩)
  have HK := Lib.hid K
  clear hg hff hg1 K
  go_enter Tryz.func111, Tryz.ntmps111
  go_wp2_with fail
  refine HK.out.mono ?_
  rintro e w' ⟨rfl, bel⟩
  have hc : w'.cell? ⟨w.heap.size + 1, 0, none⟩ = some (.pointer q) := by rw [bel.cell (by simp)]; simp [sets, go_sem]
  go_wp2_with fail
  go_ret
  exact ⟨rfl, (b0.setCell (p := ⟨w.heap.size + 1, 0, none⟩) (by simp) _).trans (bel.mono (by simp <;> omega))⟩

theorem faultOf_F (p : Addr) (w : World) (hg : Handle w) : Calls Tryz.prog 111 #[.iface 132 (.pointer (some p))] w fun e w' => e = .returned (.pointer (some p)) ∧ Below w.heap.size w w' :=
  faultOf_any _ _ _ w (fun w h => firstFault_F p w h) hg

end Go.Proofs.YtidfgjgbigedeaaGreatDoor
end

section
namespace Go.Proofs.YtidfgjgbigedeaaGreatDoor
open Go.RowKit Go.Extern.Stop Go.Stop Go.Extern
set_option linter.unusedVariables false
set_option linter.unusedSimpArgs false

def caughtV (kind code place : Int) : Value := .agg #[.int .i64 kind, .string ⟨#[]⟩, .int .i64 code, .int .i64 place]
/-- A Caught's variable: four cells that may be written. -/
structure Room (w : World) (b : Nat) : Prop where
  c0 : w.cell? ⟨b, 0, none⟩ = some (.int .i64 0)
  c1 : w.cell? ⟨b, 1, none⟩ = some (.string ⟨#[]⟩)
  c2 : w.cell? ⟨b, 2, none⟩ = some (.int .i64 0)
  c3 : w.cell? ⟨b, 3, none⟩ = some (.int .i64 0)
  f0 : w.frozen? ⟨b, 0, none⟩ = false
  f1 : w.frozen? ⟨b, 1, none⟩ = false
  f2 : w.frozen? ⟨b, 2, none⟩ = false
  f3 : w.frozen? ⟨b, 3, none⟩ = false
theorem Room.new (w : World) : Room (w.alloc (.cells #[.int .i64 0, .string ⟨#[]⟩, .int .i64 0, .int .i64 0] 65)) w.heap.size :=
  ⟨by simp [go_sem], by simp [go_sem], by simp [go_sem], by simp [go_sem], by simp [go_sem], by simp [go_sem], by simp [go_sem], by simp [go_sem]⟩
theorem Room.below {w w' : World} {b : Nat} (h : Room w b) {B : Nat} (bel : Below B w w') (hb : b < B) : Room w' b := by
  obtain ⟨a0, a1, a2, a3, a4, a5, a6, a7⟩ := h
  exact ⟨(bel.cell (p := ⟨b, 0, none⟩) hb).trans a0, (bel.cell (p := ⟨b, 1, none⟩) hb).trans a1, (bel.cell (p := ⟨b, 2, none⟩) hb).trans a2, (bel.cell (p := ⟨b, 3, none⟩) hb).trans a3,
    (bel.frozen (p := ⟨b, 0, none⟩) hb).trans a4, (bel.frozen (p := ⟨b, 1, none⟩) hb).trans a5, (bel.frozen (p := ⟨b, 2, none⟩) hb).trans a6, (bel.frozen (p := ⟨b, 3, none⟩) hb).trans a7⟩

theorem caughtError_F (pb : Nat) (code place : Int) (w : World) (hg : Handle w) (hp0 : w.cell? ⟨pb, 0, none⟩ = some (.int .i64 code)) (hp1 : w.cell? ⟨pb, 1, none⟩ = some (.int .i64 place)) :
    Calls Tryz.prog 87 #[.iface 132 (.pointer (some ⟨pb, 0, none⟩))] w fun e w' => e = .returned (caughtV 2 code place) ∧ Below w.heap.size w w' := by
  have b0 : Below w.heap.size w (w.alloc (.cells #[.int .i64 0, .string ⟨#[]⟩, .int .i64 0, .int .i64 0] 65)) := (Below.refl _ w).alloc (Nat.le_refl _) _
  have HG := Lib.hid hg
  have HR := Lib.hid (Room.new w)
  have hb : pb < w.heap.size := lt_of_cell hp0
  have hne : ∀ w : World, (binOp .neq 132 (.pointer (some ⟨pb, 0, none⟩)) (.pointer none)).run Tryz.prog w = .ok (.bool true) w := fun _ => by kernel_rfl
  clear hg
  go_enter Tryz.func87, Tryz.ntmps87
  go_wp2_with fail
  refine (faultOf_F ⟨pb, 0, none⟩ _ (HG.out.below b0)).mono ?_
  rintro e w1 ⟨rfl, b1⟩
  have s1 : w.heap.size + 1 ≤ w1.heap.size := by simpa using b1.size
  obtain ⟨c0, c1, c2, c3, f0, f1, f2, f3⟩ := HR.out.below b1 (by simp)
  have q0 : w1.cell? ⟨pb, 0, none⟩ = some (.int .i64 code) := by rw [b1.cell (by simp; omega), b0.cell hb]; exact hp0
  have q1 : w1.cell? ⟨pb, 1, none⟩ = some (.int .i64 place) := by rw [b1.cell (by simp; omega), b0.cell (p := ⟨pb, 1, none⟩) hb]; exact hp1
  go_wp2_with fail
  go_region
  go_wp2_with fail
  refine bodyPost_ret (v := caughtV 2 code place) (by simp [results, Tryz.results87, go_sem, c0, c1, c2, c3, caughtV]) rfl ?_
  exact ⟨rfl, (((((b0.trans (b1.mono (by simp))).setCell (Nat.le_refl _) _).setCell (Nat.le_refl _) _).setCell (Nat.le_refl _) _).setCell (Nat.le_refl _) _).drew⟩

theorem caught_none (w : World) : Calls Tryz.prog 61 #[.agg #[.bool false, .nilIface]] w fun e w' => e = .returned (caughtV 0 0 0) ∧ Below w.heap.size w w' := by
  go_enter Tryz.func61, Tryz.ntmps61
  go_wp2_with fail
  refine bodyPost_ret (v := caughtV 0 0 0) (by simp [results, Tryz.results61, go_sem, caughtV]) rfl ?_
  exact ⟨rfl, ((Below.refl _ w).alloc (Nat.le_refl _) _).alloc (by simp) _⟩

theorem caught_any (T : TypeId) (x : Value) (kind code place : Int) (w : World)
    (y1 : ∀ w, (Instr.typeAssert (.iface T x) 20 121 true).run Tryz.prog w = .ok (.tuple #[.nilIface, .bool false]) w)
    (y2 : ∀ w, (Instr.typeAssert (.iface T x) 20 123 true).run Tryz.prog w = .ok (.tuple #[.iface T x, .bool true]) w)
    (hce : ∀ w1, Below w.heap.size w w1 → Calls Tryz.prog 87 #[.iface T x] w1 fun e w' => e = .returned (caughtV kind code place) ∧ Below w1.heap.size w1 w') :
    Calls Tryz.prog 61 #[.agg #[.bool true, .iface T x]] w fun e w' => e = .returned (caughtV kind code place) ∧ Below w.heap.size w w' := by
  have b0 : Below w.heap.size w ((w.alloc (.cells #[.bool true, .iface T x] 89)).alloc (.cells #[.int .i64 0, .string ⟨#[]⟩, .int .i64 0, .int .i64 0] 65)) := ((Below.refl _ w).alloc (Nat.le_refl _) _).alloc (by simp) _
  have HC := Lib.hid (hce _ b0)
  have R0 : Room ((w.alloc (.cells #[.bool true, .iface T x] 89)).alloc (.cells #[.int .i64 0, .string ⟨#[]⟩, .int .i64 0, .int .i64 0] 65)) (w.heap.size + 1) := by simpa using Room.new (w.alloc (.cells #[.bool true, .iface T x] 89))
  have HR := Lib.hid R0
  clear hce R0
  go_enter Tryz.func61, Tryz.ntmps61
  go_wp2_with fail
  refine HC.out.mono ?_
  rintro e w1 ⟨rfl, b1⟩
  obtain ⟨c0, c1, c2, c3, f0, f1, f2, f3⟩ := HR.out.below b1 (by simp)
  unfold caughtV
  go_wp2_with fail
  refine bodyPost_ret (v := caughtV kind code place) (by simp [results, Tryz.results61, go_sem, c0, c1, c2, c3, caughtV]) rfl ?_
  exact ⟨rfl, ((((b0.trans (b1.mono (by simp <;> omega))).setCell (by simp) _).setCell (by simp) _).setCell (by simp) _).setCell (by simp) _⟩

theorem caught_F (pb : Nat) (code place : Int) (w : World) (hg : Handle w) (hp0 : w.cell? ⟨pb, 0, none⟩ = some (.int .i64 code)) (hp1 : w.cell? ⟨pb, 1, none⟩ = some (.int .i64 place)) :
    Calls Tryz.prog 61 #[.agg #[.bool true, .iface 132 (.pointer (some ⟨pb, 0, none⟩))]] w fun e w' => e = .returned (caughtV 2 code place) ∧ Below w.heap.size w w' :=
  caught_any _ _ 2 code place w (fun w => noRtF _ w) (fun w => isErrF _ w) (fun w1 b => caughtError_F pb code place w1 (hg.below b)
    ((b.cell (p := ⟨pb, 0, none⟩) (lt_of_cell hp0)).trans hp0) ((b.cell (p := ⟨pb, 1, none⟩) (lt_of_cell hp1)).trans hp1))

end Go.Proofs.YtidfgjgbigedeaaGreatDoor
end
