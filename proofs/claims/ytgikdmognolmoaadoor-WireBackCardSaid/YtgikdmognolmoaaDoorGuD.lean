/- What is made of an error: firstFault, faultOf, errnoOf at an api.Errno and at a *api.Fault. -/
import Derived.Test.YtgikdmognolmoaaDoorGuC
import Derived.BigQuiet
import Derived.Deep.QuietTactic
namespace Go.Proofs.YtgikdmognolmoaaDoor
open Go.RowKit Go.Extern.Stop Go.Stop Go.Extern
set_option linter.unusedVariables false
set_option linter.unusedSimpArgs false

theorem hmkf (fn : Fn) (first cap : Array Value) (w : World) : (Instr.makeFunc fn first cap).run Tryd.prog w = .ok (.func fn first cap) w := rfl

theorem firstFault_E (n : Int) (w : World) (hg : Handle w) : Calls Tryd.prog 64 #[.iface 23 (.int .i64 n)] w fun e w' => e = .returned (.pointer none) ∧ Below w.heap.size w w' := by
  have HG := Lib.hid (hg.below ((Below.refl _ w).alloc (Nat.le_refl _) (.cells #[.pointer none] 67)))
  clear hg
  go_enter Tryd.func64, Tryd.ntmps64
  go_wp2_with fail
  refine (as_missE n _ _ HG.out).mono ?_
  rintro e w' ⟨rfl, bel⟩
  go_wp2_with fail
  go_ret
  exact ⟨rfl, ((Below.refl _ w).alloc (Nat.le_refl _) _).trans (bel.mono (by simp))⟩

theorem firstFault_F (p : Addr) (w : World) (hg : Handle w) : Calls Tryd.prog 64 #[.iface 67 (.pointer (some p))] w fun e w' => e = .returned (.pointer (some p)) ∧ Below w.heap.size w w' := by
  have HG := Lib.hid (hg.below ((Below.refl _ w).alloc (Nat.le_refl _) (.cells #[.pointer none] 67)))
  have hne : ∀ w : World, (binOp .eql 67 (.pointer (some p)) (.pointer none)).run Tryd.prog w = .ok (.bool false) w := fun _ => by kernel_rfl
  clear hg
  go_enter Tryd.func64, Tryd.ntmps64
  go_wp2_with fail
  refine (as_hitF p _ (.pointer none) _ HG.out (by simp [go_sem]) (by simp [go_sem])).mono ?_
  rintro e w' ⟨rfl, bel⟩
  have hc : w'.cell? ⟨w.heap.size, 0, none⟩ = some (.pointer (some p)) := by rw [bel.cell (by simp)]; simp [go_sem]
  go_wp2_with fail
  go_ret
  exact ⟨rfl, (((Below.refl _ w).alloc (Nat.le_refl _) _).setCell (by simp) _).trans (bel.mono (by simp))⟩

theorem ent18 (args : Array Value) (w : World) : (callFunc 63 args).run Tryd.prog w = .ok (.enter 63 args) w := by kernel_rfl
theorem ent20 (args : Array Value) (w : World) : (callFunc 65 args).run Tryd.prog w = .ok (.enter 65 args) w := by kernel_rfl

theorem faultOf1 (v r : Value) (a t : Addr) (old : Value) (w : World) (hff : ∀ w, Handle w → Calls Tryd.prog 64 #[v] w fun e w' => e = .returned r ∧ Below w.heap.size w w') (hg : Handle w)
    (ha : w.cell? a = some v) (ht : w.cell? t = some old) (hf : w.frozen? t = false) (hr : (∃ q, r = .pointer q)) :
    Calls Tryd.prog 63 #[.pointer (some a), .pointer (some t)] w fun e w' => e = .returned (.tuple #[]) ∧ Below w.heap.size (sets [(t, r)] w) w' := by
  have HG := Lib.hid hg
  have HF := Lib.hid hff
  obtain ⟨q, rfl⟩ := hr
  have hb := lt_of_cell ht
  clear hg hff
  go_enter Tryd.func63, Tryd.ntmps63
  go_wp2_with fail
  refine (HF.out _ HG.out).mono ?_
  rintro e w' ⟨rfl, bel⟩
  have ht' : w'.cell? t = some old := by rw [bel.cell hb]; exact ht
  have hf' : w'.frozen? t = false := by rw [bel.frozen hb]; exact hf
  go_wp2_with fail
  first | go_end0 | refine bodyPost_ret (results_none rfl _ _ _) rfl ?_
  exact ⟨rfl, both bel t _⟩

theorem faultOf_any (T : TypeId) (x : Value) (q : Option Addr) (w : World) (hff : ∀ w, Handle w → Calls Tryd.prog 64 #[.iface T x] w fun e w' => e = .returned (.pointer q) ∧ Below w.heap.size w w') (hg : Handle w) :
    Calls Tryd.prog 56 #[.iface T x] w fun e w' => e = .returned (.pointer q) ∧ Below w.heap.size w w' := by
  have HF := Lib.hid hff
  have hmf := hmkf
  have b0 : Below w.heap.size w ((w.alloc (.cells #[.iface T x] 69)).alloc (.cells #[.pointer none] 67)) := ((Below.refl _ w).alloc (Nat.le_refl _) _).alloc (by simp) _
  have hg1 := hg.below b0
  have hg2 := Lib.hid (hg1.below (began_below _))
  have K := call_sets 63 #[.pointer (some ⟨w.heap.size, 0, none⟩), .pointer (some ⟨w.heap.size + 1, 0, none⟩)] ((w.alloc (.cells #[.iface T x] 69)).alloc (.cells #[.pointer none] 67)) [(⟨w.heap.size + 1, 0, none⟩, .pointer q)]
    (by simp) ent18 (faultOf1 (.iface T x) (.pointer q) ⟨w.heap.size, 0, none⟩ ⟨w.heap.size + 1, 0, none⟩ (.pointer none) _ hff hg2.out (by simp [began, go_sem]) (by simp [began, go_sem]) (by simp [began, go_sem]) ⟨q, rfl⟩)
  have HK := Lib.hid K
  clear hg hff hg1 K
  go_enter Tryd.func56, Tryd.ntmps56
  go_wp2_with fail
  refine HK.out.mono ?_
  rintro e w' ⟨rfl, bel⟩
  have hc : w'.cell? ⟨w.heap.size + 1, 0, none⟩ = some (.pointer q) := by rw [bel.cell (by simp)]; simp [sets, go_sem]
  go_wp2_with fail
  go_ret
  exact ⟨rfl, (b0.setCell (p := ⟨w.heap.size + 1, 0, none⟩) (by simp) _).trans (bel.mono (by simp <;> omega))⟩

theorem faultOf_E (n : Int) (w : World) (hg : Handle w) : Calls Tryd.prog 56 #[.iface 23 (.int .i64 n)] w fun e w' => e = .returned (.pointer none) ∧ Below w.heap.size w w' :=
  faultOf_any _ _ _ w (fun w h => firstFault_E n w h) hg
theorem faultOf_F (p : Addr) (w : World) (hg : Handle w) : Calls Tryd.prog 56 #[.iface 67 (.pointer (some p))] w fun e w' => e = .returned (.pointer (some p)) ∧ Below w.heap.size w w' :=
  faultOf_any _ _ _ w (fun w h => firstFault_F p w h) hg

theorem errnoOf1 (n : Int) (a t s : Addr) (old olds : Value) (w : World) (hg : Handle w)
    (ha : w.cell? a = some (.iface 23 (.int .i64 n))) (ht : w.cell? t = some old) (hf : w.frozen? t = false) (hs : w.cell? s = some olds) (hfs : w.frozen? s = false) (hst : s.block ≠ t.block) :
    Calls Tryd.prog 65 #[.pointer (some a), .pointer (some t), .pointer (some s)] w fun e w' => e = .returned (.tuple #[]) ∧ Below w.heap.size (sets [(t, .int .i64 n), (s, .bool true)] w) w' := by
  have HG := Lib.hid hg
  have hb := lt_of_cell ht
  have hbs := lt_of_cell hs
  clear hg
  go_enter Tryd.func65, Tryd.ntmps65
  go_wp2_with fail
  refine (as_hitE n _ old _ HG.out ht hf).mono ?_
  rintro e w' ⟨rfl, bel⟩
  have hs' : w'.cell? s = some olds := by rw [bel.cell hbs, World.cell?_of_block (Below.heap_setCell _ _ _ _ hst)]; exact hs
  have hf' : w'.frozen? s = false := by rw [bel.frozen hbs, World.frozen?_of_block (Below.heap_setCell _ _ _ _ hst)]; exact hfs
  go_wp2_with fail
  first | go_end0 | refine bodyPost_ret (results_none rfl _ _ _) rfl ?_
  exact ⟨rfl, both bel s _⟩

theorem errnoOf_E (n : Int) (w : World) (hg : Handle w) : Calls Tryd.prog 57 #[.iface 23 (.int .i64 n)] w fun e w' => e = .returned (.tuple #[.int .i64 n, .bool true]) ∧ Below w.heap.size w w' := by
  have hmf := hmkf
  have b0 : Below w.heap.size w (((w.alloc (.cells #[.iface 23 (.int .i64 n)] 69)).alloc (.cells #[.int .i64 0] 23)).alloc (.cells #[.bool false] 4)) := (((Below.refl _ w).alloc (Nat.le_refl _) _).alloc (by simp) _).alloc (by simp <;> omega) _
  have hg1 := hg.below b0
  have hg2 := Lib.hid (hg1.below (began_below _))
  have K := call_sets 65 #[.pointer (some ⟨w.heap.size, 0, none⟩), .pointer (some ⟨w.heap.size + 1, 0, none⟩), .pointer (some ⟨w.heap.size + 1 + 1, 0, none⟩)] (((w.alloc (.cells #[.iface 23 (.int .i64 n)] 69)).alloc (.cells #[.int .i64 0] 23)).alloc (.cells #[.bool false] 4)) [(⟨w.heap.size + 1, 0, none⟩, .int .i64 n), (⟨w.heap.size + 1 + 1, 0, none⟩, .bool true)]
    (by simp <;> omega) ent20 (errnoOf1 n ⟨w.heap.size, 0, none⟩ ⟨w.heap.size + 1, 0, none⟩ ⟨w.heap.size + 1 + 1, 0, none⟩ (.int .i64 0) (.bool false) _ hg2.out (by simp [began, go_sem]) (by simp [began, go_sem]) (by simp [began, go_sem]) (by simp [began, go_sem]) (by simp [began, go_sem]) (by simp))
  have HK := Lib.hid K
  clear hg hg1 K
  go_enter Tryd.func57, Tryd.ntmps57
  go_wp2_with fail
  refine HK.out.mono ?_
  rintro e w' ⟨rfl, bel⟩
  have hc : w'.cell? ⟨w.heap.size + 1, 0, none⟩ = some (.int .i64 n) := by rw [bel.cell (by simp <;> omega)]; simp [sets, go_sem]
  have hd : w'.cell? ⟨w.heap.size + 1 + 1, 0, none⟩ = some (.bool true) := by rw [bel.cell (by simp)]; simp [sets, go_sem]
  go_wp2_with fail
  go_quiet (fail)
  go_wp2_with fail
  have bel' := bel.trans (show Below _ _ (w'.drewN nq) from ⟨rfl, rfl, rfl, Nat.le_refl _, fun _ _ => rfl⟩)
  refine bodyPost_ret (v := .tuple #[.int .i64 n, .bool true]) (by simp [results, Tryd.results57, go_sem]) rfl ?_
  exact ⟨rfl, ((b0.setCell (p := ⟨w.heap.size + 1, 0, none⟩) (by simp) _).setCell (p := ⟨w.heap.size + 1 + 1, 0, none⟩) (by simp <;> omega) _).trans (bel'.mono (by simp <;> omega))⟩
end Go.Proofs.YtgikdmognolmoaaDoor
