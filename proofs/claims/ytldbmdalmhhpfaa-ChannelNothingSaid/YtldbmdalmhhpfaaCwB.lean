/- Channel: datagrams in memory, small calls; a flight in memory. -/
import Derived.Test.YtldbmdalmhhpfaaCwA
import Derived.Test.YtldbmdalmhhpfaaCqA
import Derived.LaidEqlPtr
import Derived.Deep.Cut
import Derived.Deep.DeepCutAuto
import Derived.Deep.RegionLaw
import Derived.BigRegion
import Derived.BigQuiet
namespace Go.Cw
open Go.RowKit Go.Lib
section
variable {α : Type} (c : α → List Value) (k : Nat) (hk : ∀ x, (c x).length = k)
include hk
theorem flat_len (l : List α) : (l.flatMap c).length = l.length * k := by
  induction l with
  | nil => simp
  | cons x r ih => rw [List.flatMap_cons, List.length_append, ih, hk, List.length_cons, Nat.succ_mul]; omega
theorem flat_take : ∀ (l : List α) (i : Nat), (l.take i).flatMap c = (l.flatMap c).take (i * k)
  | [], i => by simp
  | x :: r, 0 => by simp
  | x :: r, i + 1 => by
    rw [List.take_succ_cons, List.flatMap_cons, List.flatMap_cons, flat_take r i, Nat.succ_mul, Nat.add_comm (i * k) k, List.take_append, hk, Nat.add_sub_cancel_left, List.take_of_length_le (l := c x) (by rw [hk]; omega)]
theorem flat_drop : ∀ (l : List α) (i : Nat), (l.drop i).flatMap c = (l.flatMap c).drop (i * k)
  | [], i => by simp
  | x :: r, 0 => by simp
  | x :: r, i + 1 => by
    rw [List.drop_succ_cons, List.flatMap_cons, flat_drop r i, Nat.succ_mul, Nat.add_comm (i * k) k, ← List.drop_drop, List.drop_append, hk, Nat.sub_self, List.drop_of_length_le (l := c x) (by rw [hk]; omega), List.drop_zero, List.nil_append]
theorem flat_set (l : List α) (i : Nat) (x : α) (hi : i < l.length) : (l.set i x).flatMap c = (l.flatMap c).take (i * k) ++ c x ++ (l.flatMap c).drop ((i + 1) * k) := by
  rw [← flat_take c k hk, ← flat_drop c k hk, List.set_eq_take_append_cons_drop, if_pos hi]
  simp
theorem flat_get (l : List α) (i j : Nat) (hi : i < l.length) (hj : j < k) : (l.flatMap c)[i * k + j]? = (c l[i])[j]? := by
  have hd : (l.flatMap c).drop (i * k) = c l[i] ++ (l.drop (i + 1)).flatMap c := by
    rw [← flat_drop c k hk, List.drop_eq_getElem_cons hi, List.flatMap_cons]
  have h0 : (l.flatMap c)[i * k + j]? = (c l[i] ++ (l.drop (i + 1)).flatMap c)[j]? := by rw [← hd, List.getElem?_drop]
  rw [h0, List.getElem?_append_left (by rw [hk]; exact hj)]
end
end Go.Cw
namespace Go.Proofs.Ytldbmdalmhhpfaa
open Go.RowKit Go.Lib Go.Ow Go.Cw Go.Cq
set_option linter.unusedVariables false
set_option linter.unusedSimpArgs false
set_option maxRecDepth 100000

theorem gNx {W w w' : World} (h : Below W.heap.size W w) (k : Below w.heap.size w w') : Below W.heap.size W w' := h.trans (k.mono h.size)
theorem gAl (W : World) (o : Obj) : Below W.heap.size W (W.alloc o) := (Below.refl _ _).alloc (Nat.le_refl _) _
def gmC (g : Gm) : List Value := [.int .i64 g.fr, .int .i64 g.to, .string g.bs, .int .i64 g.wt]
def gmRow (l : List Gm) : List Value := l.flatMap gmC
theorem gmC_len (g : Gm) : (gmC g).length = 4 := rfl
theorem gmC_one (g : Gm) : ∀ v ∈ gmC g, v.oneCell' = true := by
  intro v hv
  unfold gmC at hv
  simp only [List.mem_cons, List.not_mem_nil, or_false] at hv
  rcases hv with rfl | rfl | rfl | rfl <;> rfl
theorem gmRow_len (l : List Gm) : (gmRow l).length = l.length * 4 := flat_len gmC 4 gmC_len l
theorem gmRow_one (l : List Gm) : ∀ v ∈ gmRow l, v.oneCell' = true := by
  intro v hv
  obtain ⟨g, -, h⟩ := List.mem_flatMap.1 hv
  exact gmC_one g v h
theorem gmRow_app (l m : List Gm) : gmRow (l ++ m) = gmRow l ++ gmRow m := by simp [gmRow]
theorem gmRow_one1 (g : Gm) : gmRow [g] = gmC g := by simp [gmRow]
theorem gmInfo : (Try.prog.info? 35).map (fun i => (i.zero, i.size, i.bytes)) = some (some (.agg #[.int .i64 0, .int .i64 0, .string ⟨#[]⟩, .int .i64 0]), 4, 40) := by kernel_rfl
/-- The cells of one datagram of a row. -/
theorem gm_cells {w : World} {b o : Nat} {l : List Gm} (h : w.rangeAt b o (gmRow l)) {i : Nat} (hi : i < l.length) :
    w.cell? ⟨b, o + i * 4, none⟩ = some (.int .i64 l[i].fr) ∧ w.cell? ⟨b, o + i * 4 + 1, none⟩ = some (.int .i64 l[i].to) ∧ w.cell? ⟨b, o + i * 4 + 2, none⟩ = some (.string l[i].bs) ∧ w.cell? ⟨b, o + i * 4 + 3, none⟩ = some (.int .i64 l[i].wt) := by
  have h0 := fun j (hj : j < 4) => flat_get gmC 4 gmC_len l i j hi hj
  have h1 := fun j v (hj : j < 4) (hv : (gmC l[i])[j]? = some v) => h (i * 4 + j) v ((h0 j hj).trans hv)
  refine ⟨?_, ?_, ?_, ?_⟩
  · have := h1 0 _ (by omega) rfl; simpa using this
  · have := h1 1 _ (by omega) rfl; rw [Nat.add_assoc]; exact this
  · have := h1 2 _ (by omega) rfl; rw [Nat.add_assoc]; exact this
  · have := h1 3 _ (by omega) rfl; rw [Nat.add_assoc]; exact this
/-- Datagrams in memory, for one that reads: block b. -/
def Gs (w : World) (b : Nat) (l : List Gm) (a : Option Addr) : Prop := l = [] ∨ ∃ o, a = some ⟨b, o, none⟩ ∧ b < w.heap.size ∧ w.rangeAt b o (gmRow l)
theorem Gs.keep {w w' : World} {b : Nat} {l : List Gm} {a : Option Addr} (h : Gs w b l a) (hs : w.heap.size ≤ w'.heap.size) (k : w'.heap[b]? = w.heap[b]?) : Gs w' b l a := by
  rcases h with h | ⟨o, h1, h2, h3⟩
  · exact Or.inl h
  · exact Or.inr ⟨o, h1, by omega, fun j v hj => (World.cell?_of_block k).trans (h3 j v hj)⟩
theorem Gs.below {w w' : World} {b : Nat} {l : List Gm} {a : Option Addr} (h : Gs w b l a) (k : Below w.heap.size w w') : Gs w' b l a := by
  rcases h with h | ⟨o, h1, h2, h3⟩
  · exact Or.inl h
  · exact Gs.keep (Or.inr ⟨o, h1, h2, h3⟩) k.size (k.block b h2)
/-- A flight in memory: its block, its row's block, its list. -/
structure Fl (w : World) (fb r : Nat) (l : List Gm) : Prop where
  row : ∃ v, w.heap[fb]? = some (.cells #[.pointer (some ⟨fb, 0, none⟩), v] 55 (0, 0)) ∧ Rw w r 35 4 v l.length (gmRow l)
  good : Cq.Good l
  rl : r < w.heap.size
theorem Fl.low {w : World} {fb r : Nat} {l : List Gm} (h : Fl w fb r l) : fb < w.heap.size := by obtain ⟨v, h1, -⟩ := h.row; exact (Array.getElem?_eq_some_iff.1 h1).1
theorem Fl.keep {w w' : World} {fb r : Nat} {l : List Gm} (h : Fl w fb r l) (hs : w.heap.size ≤ w'.heap.size) (k1 : w'.heap[fb]? = w.heap[fb]?) (k2 : r < w.heap.size → w'.heap[r]? = w.heap[r]?) : Fl w' fb r l := by
  obtain ⟨v, h1, h2⟩ := h.row
  exact ⟨⟨v, k1.trans h1, h2.keep (fun cur hc => k2 (Array.getElem?_eq_some_iff.1 hc).1)⟩, h.good, Nat.lt_of_lt_of_le h.rl hs⟩
theorem Fl.below {w w' : World} {fb r : Nat} {l : List Gm} (h : Fl w fb r l) (k : Below w.heap.size w w') : Fl w' fb r l := h.keep k.size (k.block fb h.low) (fun hr => k.block r hr)
theorem two_cells {w : World} {b : Nat} {x y : Value} {t : TypeId} (h : w.heap[b]? = some (.cells #[x, y] t (0, 0))) : w.cell? ⟨b, 0, none⟩ = some x ∧ w.cell? ⟨b, 1, none⟩ = some y ∧ w.frozen? ⟨b, 0, none⟩ = false ∧ w.frozen? ⟨b, 1, none⟩ = false :=
  ⟨by rw [cell_of_row w b 0 _ _ (0, 0) h]; rfl, by rw [cell_of_row w b 1 _ _ (0, 0) h]; rfl, frozen_of_row w b 0 _ _ h, frozen_of_row w b 1 _ _ h⟩
theorem four_cells {w : World} {b : Nat} {x y z u : Value} {t : TypeId} (h : w.heap[b]? = some (.cells #[x, y, z, u] t (0, 0))) : w.cell? ⟨b, 0, none⟩ = some x ∧ w.cell? ⟨b, 1, none⟩ = some y ∧ w.cell? ⟨b, 2, none⟩ = some z ∧ w.cell? ⟨b, 3, none⟩ = some u :=
  ⟨by rw [cell_of_row w b 0 _ _ (0, 0) h]; rfl, by rw [cell_of_row w b 1 _ _ (0, 0) h]; rfl, by rw [cell_of_row w b 2 _ _ (0, 0) h]; rfl, by rw [cell_of_row w b 3 _ _ (0, 0) h]; rfl⟩
theorem isNumber_any (x : Int) (w : World) : Calls Try.prog 48 #[.int .i64 x] w fun e w' => e = .returned (.bool (idB x)) ∧ w' = w := by
  by_cases h1 : 1 ≤ x
  · by_cases h2 : x ≤ 2147483647
    · have HZ : Hid (idB x = true) := Lib.hid (by unfold idB; simp [h1, h2])
      go_enter Try.func48, Try.ntmps48
      go_wp2
      go_ret
      exact ⟨by rw [HZ.out]; rfl, rfl⟩
    · have HZ : Hid (idB x = false) := Lib.hid (by unfold idB; simp [h2])
      go_enter Try.func48, Try.ntmps48
      go_wp2
      go_ret
      exact ⟨by rw [HZ.out]; rfl, rfl⟩
  · have HZ : Hid (idB x = false) := Lib.hid (by unfold idB; simp [h1])
    go_enter Try.func48, Try.ntmps48
    go_wp2
    go_ret
    exact ⟨by rw [HZ.out]; rfl, rfl⟩
theorem areTwo_any (a b : Int) (w : World) : Calls Try.prog 36 #[.int .i64 a, .int .i64 b] w fun e w' => e = .returned (.bool (twoB a b)) ∧ w' = w := by
  have HA := Lib.hid (isNumber_any a)
  have HB := Lib.hid (isNumber_any b)
  have HZ : Hid (twoB a b = (idB a && idB b && (a != b))) := Lib.hid rfl
  generalize twoB a b = Z at *
  generalize idB a = x at *
  generalize idB b = y at *
  obtain ⟨z, hz⟩ : ∃ z, z = (a != b) := ⟨_, rfl⟩
  rw [← hz] at HZ
  have hz2 : (a != b) = z := hz.symm
  clear hz
  cases x with
  | false =>
    go_enter Try.func36, Try.ntmps36
    go_wp2_with fail
    refine (HA.out _).mono ?_
    rintro e w' ⟨rfl, rfl⟩
    go_wp2_with fail
    go_ret
    exact ⟨by rw [HZ.out]; rfl, rfl⟩
  | true =>
    cases y with
    | false =>
      go_enter Try.func36, Try.ntmps36
      go_wp2_with fail
      refine (HA.out _).mono ?_
      rintro e w' ⟨rfl, rfl⟩
      go_wp2_with fail
      refine (HB.out _).mono ?_
      rintro e w' ⟨rfl, rfl⟩
      go_wp2_with fail
      go_ret
      exact ⟨by rw [HZ.out]; rfl, rfl⟩
    | true =>
      go_enter Try.func36, Try.ntmps36
      go_wp2_with fail
      refine (HA.out _).mono ?_
      rintro e w' ⟨rfl, rfl⟩
      go_wp2_with fail
      refine (HB.out _).mono ?_
      rintro e w' ⟨rfl, rfl⟩
      go_wp2_with fail
      go_ret
      exact ⟨by rw [HZ.out, ← hz2]; rfl, rfl⟩
set_option maxHeartbeats 4000000 in
theorem mayBe_any (a b : Int) (s : ByteArray) (t : Int) (w : World) : Calls Try.prog 22 #[.agg #[.int .i64 a, .int .i64 b, .string s, .int .i64 t]] w fun e w' => e = .returned (.bool (mayB ⟨a, b, s, t⟩)) ∧ Below w.heap.size w w' := by
  have HZ : Hid (mayB ⟨a, b, s, t⟩ = (twoB a b && decide ((s.size : Int) ≤ 65536) && decide (0 ≤ t) && decide (t ≤ 65536))) := Lib.hid rfl
  generalize mayB ⟨a, b, s, t⟩ = Z at *
  have HA := Lib.hid (areTwo_any a b)
  generalize twoB a b = x at *
  cases x with
  | false =>
    go_enter Try.func22, Try.ntmps22
    go_wp2_with fail
    refine (HA.out _).mono ?_
    rintro e w' ⟨rfl, rfl⟩
    go_wp2_with fail
    go_ret
    exact ⟨by rw [HZ.out]; rfl, gAl _ _⟩
  | true =>
    by_cases h1 : (s.size : Int) ≤ 65536
    case neg =>
      have HZ : Hid (Z = false) := Lib.hid (by rw [HZ.out]; simp [h1])
      go_enter Try.func22, Try.ntmps22
      go_wp2_with fail
      refine (HA.out _).mono ?_
      rintro e w' ⟨rfl, rfl⟩
      go_wp2_with fail
      go_ret
      exact ⟨by rw [HZ.out]; rfl, gAl _ _⟩
    by_cases h2 : 0 ≤ t
    case neg =>
      have HZ : Hid (Z = false) := Lib.hid (by rw [HZ.out]; simp [h2])
      go_enter Try.func22, Try.ntmps22
      go_wp2_with fail
      refine (HA.out _).mono ?_
      rintro e w' ⟨rfl, rfl⟩
      go_wp2_with fail
      go_ret
      exact ⟨by rw [HZ.out]; rfl, gAl _ _⟩
    by_cases h3 : t ≤ 65536
    case neg =>
      have HZ : Hid (Z = false) := Lib.hid (by rw [HZ.out]; simp [h3])
      go_enter Try.func22, Try.ntmps22
      go_wp2_with fail
      refine (HA.out _).mono ?_
      rintro e w' ⟨rfl, rfl⟩
      go_wp2_with fail
      go_ret
      exact ⟨by rw [HZ.out]; first | rfl | (simp; omega), gAl _ _⟩
    have HZ : Hid (Z = true) := Lib.hid (by rw [HZ.out]; simp [h1, h2, h3])
    go_enter Try.func22, Try.ntmps22
    go_wp2_with fail
    refine (HA.out _).mono ?_
    rintro e w' ⟨rfl, rfl⟩
    go_wp2_with fail
    go_ret
    exact ⟨by rw [HZ.out]; first | rfl | (simp; omega), gAl _ _⟩
theorem mayArrive_any (a b : Int) (s : ByteArray) (t : Int) (w : World) : Calls Try.prog 33 #[.agg #[.int .i64 a, .int .i64 b, .string s, .int .i64 t]] w fun e w' => e = .returned (.bool (t == 0)) ∧ Below w.heap.size w w' := by
  obtain ⟨z, hz⟩ : ∃ z, (t == 0) = z := ⟨_, rfl⟩
  have HZ := Lib.hid hz
  go_enter Try.func33, Try.ntmps33
  go_wp2
  go_ret
  exact ⟨by rw [HZ.out]; rfl, gAl _ _⟩
theorem fltInfo : (Try.prog.info? 55).map (fun i => (i.zero, i.size, i.bytes)) = some (some (.agg #[.pointer none, .slice none 0 0]), 2, 32) := by kernel_rfl
theorem eql_self (b : Nat) (w : World) : (binOp .eql 24 (.pointer (some ⟨b, 0, none⟩)) (.pointer (some ⟨b, 0, none⟩))).run Try.prog w = .ok (.bool true) w := by
  obtain ⟨i0, hi, -⟩ := info_parts fltInfo
  exact run_eql_ptr_same w _ Try.underlying24 hi
theorem isGiven_any (w : World) (fb r : Nat) (l : List Gm) (h : Fl w fb r l) : Calls Try.prog 30 #[.pointer (some ⟨fb, 0, none⟩)] w fun e w' => e = .returned (.bool true) ∧ w' = w := by
  obtain ⟨v, h1, -⟩ := h.row
  obtain ⟨c0, c1, -, -⟩ := two_cells h1
  have hpe := eql_self fb
  clear h h1
  go_enter Try.func30, Try.ntmps30
  go_wp2
  go_ret
  exact ⟨rfl, rfl⟩
theorem has_any (i : Int) (w : World) (fb r : Nat) (l : List Gm) (h : Fl w fb r l) : Calls Try.prog 34 #[.pointer (some ⟨fb, 0, none⟩), .int .i64 i] w fun e w' => e = .returned (.bool (hasB l i)) ∧ w' = w := by
  obtain ⟨v, h1, h2⟩ := h.row
  obtain ⟨a, c, rfl⟩ := h2.slice
  obtain ⟨c0, c1, -, -⟩ := two_cells h1
  clear h h1 h2
  by_cases d1 : 0 ≤ i
  · by_cases d2 : i < (l.length : Int)
    · have HZ : Hid (hasB l i = true) := Lib.hid (by unfold hasB; simp [d1, d2])
      go_enter Try.func34, Try.ntmps34
      go_wp2
      go_ret
      exact ⟨by rw [HZ.out]; rfl, rfl⟩
    · have HZ : Hid (hasB l i = false) := Lib.hid (by unfold hasB; simp [d2])
      go_enter Try.func34, Try.ntmps34
      go_wp2
      go_ret
      exact ⟨by rw [HZ.out]; rfl, rfl⟩
  · have HZ : Hid (hasB l i = false) := Lib.hid (by unfold hasB; simp [d1])
    go_enter Try.func34, Try.ntmps34
    go_wp2
    go_ret
    exact ⟨by rw [HZ.out]; rfl, rfl⟩
theorem new_any (w : World) : Calls Try.prog 14 #[] w fun e w' => ∃ fb, e = .returned (.pointer (some ⟨fb, 0, none⟩)) ∧ w.heap.size ≤ fb ∧ Fl w' fb fb [] ∧ Below w.heap.size w w' := by
  go_enter Try.func14, Try.ntmps14
  go_wp2
  go_ret
  refine ⟨w.heap.size, rfl, Nat.le_refl _, ⟨⟨.slice none 0 0, heap_alloc_new w _, Or.inl ⟨rfl, rfl, none, rfl⟩⟩, Cq.Good.nil, by simp⟩, gAl _ _⟩
theorem len_any (w : World) (fb r : Nat) (l : List Gm) (h : Fl w fb r l) : Calls Try.prog 21 #[.pointer (some ⟨fb, 0, none⟩)] w fun e w' => e = .returned (.int .i64 (l.length : Int)) ∧ w' = w := by
  have HG := Lib.hid (isGiven_any w fb r l h)
  obtain ⟨v, h1, h2⟩ := h.row
  obtain ⟨a, c, rfl⟩ := h2.slice
  obtain ⟨c0, c1, -, -⟩ := two_cells h1
  clear h h1 h2
  go_enter Try.func21, Try.ntmps21
  go_wp2_with fail
  refine HG.out.mono ?_
  rintro e w' ⟨rfl, rfl⟩
  go_wp2_with fail
  go_ret
  exact ⟨rfl, rfl⟩
end Go.Proofs.Ytldbmdalmhhpfaa
