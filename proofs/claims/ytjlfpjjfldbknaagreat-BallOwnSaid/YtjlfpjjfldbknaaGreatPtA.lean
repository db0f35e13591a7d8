/- Paths: rows of elements; a queue in memory; Len, Less, Swap of byDist. -/
import Derived.Test.YtjlfpjjfldbknaaGreatOwB
import Derived.Test.YtjlfpjjfldbknaaGreatNgL
import Derived.Test.YtjlfpjjfldbknaaGreatNgA
import Derived.Test.YtjlfpjjfldbknaaGreatPqA
import Derived.Test.YtjlfpjjfldbknaaGreatFl1
import Derived.BigQuiet
import Derived.BigRegion
import Derived.Test.YtjlfpjjfldbknaaGreatIqS
section
namespace Go.Ow
open Go.RowKit Go.Lib
set_option linter.unusedVariables false
set_option linter.unusedSimpArgs false

section
variable {α : Type} (c : α → List Value) (k : Nat) (hk : ∀ x, (c x).length = k)
include hk
theorem flat_len (l : List α) : (l.flatMap c).length = l.length * k := by
  induction l with
  | nil => simp
  | cons x r ih => rw [List.flatMap_cons, List.length_append, ih, hk, List.length_cons, Nat.succ_mul]; omega
theorem flat_take : ∀ (l : List α) (i : Nat), (l.take i).flatMap c = (l.flatMap c).take (i * k)
  | [], i => by simp
  | x :: r, 0 => by simp
  | x :: r, i + 1 => by
    rw [List.take_succ_cons, List.flatMap_cons, List.flatMap_cons, flat_take r i, Nat.succ_mul, Nat.add_comm (i * k) k, List.take_append, hk, Nat.add_sub_cancel_left, List.take_of_length_le (l := c x) (by rw [hk]; omega)]
theorem flat_drop : ∀ (l : List α) (i : Nat), (l.drop i).flatMap c = (l.flatMap c).drop (i * k)
  | [], i => by simp
  | x :: r, 0 => by simp
  | x :: r, i + 1 => by
    rw [List.drop_succ_cons, List.flatMap_cons, flat_drop r i, Nat.succ_mul, Nat.add_comm (i * k) k, ← List.drop_drop, List.drop_append, hk, Nat.sub_self, List.drop_of_length_le (l := c x) (by rw [hk]; omega), List.drop_zero, List.nil_append]
theorem flat_set (l : List α) (i : Nat) (x : α) (hi : i < l.length) : (l.set i x).flatMap c = (l.flatMap c).take (i * k) ++ c x ++ (l.flatMap c).drop ((i + 1) * k) := by
  rw [← flat_take c k hk, ← flat_drop c k hk, List.set_eq_take_append_cons_drop, if_pos hi]
  simp
theorem flat_get (l : List α) (i j : Nat) (hi : i < l.length) (hj : j < k) : (l.flatMap c)[i * k + j]? = (c l[i])[j]? := by
  have hd : (l.flatMap c).drop (i * k) = c l[i] ++ (l.drop (i + 1)).flatMap c := by
    rw [← flat_drop c k hk, List.drop_eq_getElem_cons hi, List.flatMap_cons]
  have h0 : (l.flatMap c)[i * k + j]? = (c l[i] ++ (l.drop (i + 1)).flatMap c)[j]? := by rw [← hd, List.getElem?_drop]
  rw [h0, List.getElem?_append_left (by rw [hk]; exact hj)]
end
/-- One element of an own row is put anew. -/
theorem own_put {w : World} {base : Nat} {e : TypeId} {k n cap g i : Nat} {xs vs : List Value} (h : Own w base e k (.slice (some ⟨g, 0, none⟩) n cap) n xs) (hv : vs.length = k) (hi : i < n) :
    Own (w.setCells g (i * k) vs) base e k (.slice (some ⟨g, 0, none⟩) n cap) n (xs.take (i * k) ++ vs ++ xs.drop ((i + 1) * k)) := by
  have hxl := h.len
  rcases h with ⟨rfl, _⟩ | ⟨g', cap', cur, hvv, hb, hg, hc, hm, hs, hx⟩
  · omega
  · simp only [Value.slice.injEq, Option.some.injEq, Addr.mk.injEq, and_true, true_and] at hvv
    obtain ⟨rfl, rfl⟩ := hvv
    have hik : (i + 1) * k ≤ n * k := Nat.mul_le_mul_right _ (by omega)
    have hnk : n * k ≤ cap * k := Nat.mul_le_mul_right _ hc
    have h1 : (i + 1) * k = i * k + k := Nat.succ_mul _ _
    obtain ⟨cur', a1, a2, a3⟩ := setCells_block g vs (i * k) w cur hg (by omega)
    refine Or.inr ⟨g, cap, cur', rfl, hb, a1, hc, hm, by omega, ?_⟩
    apply List.ext_getElem?
    intro j
    rw [List.getElem?_take, a3 j]
    by_cases c1 : j < i * k
    · rw [if_pos (by omega), if_neg (by omega), List.append_assoc, List.getElem?_append_left (by rw [List.length_take]; omega), List.getElem?_take, if_pos c1, ← hx, List.getElem?_take, if_pos (by omega)]
    · by_cases c2 : j < i * k + k
      · rw [if_pos (by omega), if_pos (by omega), List.append_assoc, List.getElem?_append_right (by rw [List.length_take]; omega), List.length_take, Nat.min_eq_left (by omega), List.getElem?_append_left (by omega)]
      · by_cases c3 : j < n * k
        · rw [if_pos c3, if_neg (by omega), List.getElem?_append_right (by rw [List.length_append, List.length_take]; omega), List.length_append, List.length_take, Nat.min_eq_left (by omega), List.getElem?_drop, ← hx, List.getElem?_take, if_pos (by omega)]
          congr 1; omega
        · rw [if_neg c3, eq_comm, List.getElem?_eq_none]
          simp only [List.length_append, List.length_take, List.length_drop]; omega
/-- No row's block. -/
def NotRow (v : Value) (j : Nat) : Prop := ∀ n c, v = .slice (some ⟨j, 0, none⟩) n c → c = 0
/-- What a queue's doings may turn: its struct's block q and its row's block (v: the row as it was, v' as it is). -/
structure Kq (q : Nat) (v v' : Value) (w w' : World) : Prop where
  os : w'.os = w.os
  tape : w'.tape = w.tape
  output : w'.output = w.output
  size : w.heap.size ≤ w'.heap.size
  block : ∀ j, j < w.heap.size → j ≠ q → NotRow v j → w'.heap[j]? = w.heap[j]?
  row : ∀ j, j < w.heap.size → NotRow v j → NotRow v' j
theorem Kq.of_below {q : Nat} {v : Value} {w w' : World} (h : Below w.heap.size w w') : Kq q v v w w' := ⟨h.os, h.tape, h.output, h.size, fun j hj _ _ => h.block j hj, fun _ _ h => h⟩
theorem Kq.trans {q : Nat} {v v' v'' : Value} {a b c : World} (h : Kq q v v' a b) (k : Kq q v' v'' b c) : Kq q v v'' a c :=
  ⟨k.os.trans h.os, k.tape.trans h.tape, k.output.trans h.output, Nat.le_trans h.size k.size, fun j hj hq hr => (k.block j (Nat.lt_of_lt_of_le hj h.size) hq (h.row j hj hr)).trans (h.block j hj hq hr), fun j hj hr => k.row j (Nat.lt_of_lt_of_le hj h.size) (h.row j hj hr)⟩
theorem Kq.shut {q : Nat} {v v' : Value} {a b c : World} (h : Kq q v v' a b) (k : Below b.heap.size b c) : Kq q v v' a c := h.trans (Kq.of_below k)
/-- Behind a box that was laid first. -/
theorem Kq.open {q : Nat} {v v' : Value} {a b c : World} (k : Below a.heap.size a b) (h : Kq q v v' b c) : Kq q v v' a c := (Kq.of_below k).trans h
end Go.Ow
end
section
namespace Go.Proofs.YtjlfpjjfldbknaaGreat
open Go.RowKit Go.Lib Go.Fq Go.Pq Go.Ow
set_option linter.unusedVariables false
set_option linter.unusedSimpArgs false
set_option maxRecDepth 100000

def spC (s : Sp) : List Value := [.int .i64 (s.1 : Int), .float .f64 (qw s.2.1), .int .i64 (s.2.2 : Int)]
def spRow (L : List Sp) : List Value := L.flatMap spC
theorem spC_len (s : Sp) : (spC s).length = 3 := rfl
theorem spC_one (s : Sp) : ∀ v ∈ spC s, v.oneCell' = true := by
  intro v hv
  unfold spC at hv
  simp only [List.mem_cons, List.not_mem_nil, or_false] at hv
  rcases hv with rfl | rfl | rfl <;> rfl
def Few (L : List Sp) : Prop := ∀ s ∈ L, s.2.1 ≤ 4294967296
/-- A queue's row. -/
abbrev RowAt (w : World) (base : Nat) (v : Value) (L : List Sp) : Prop := Own w base 134 3 v L.length (spRow L)
theorem RowAt.cells {w : World} {base : Nat} {v : Value} {L : List Sp} (h : RowAt w base v L) {i : Nat} (hi : i < L.length) : ∃ g cap, v = .slice (some ⟨g, 0, none⟩) L.length cap ∧ base ≤ g ∧ g < w.heap.size ∧ w.rangeAt g 0 (spRow L) ∧ w.there g 0 (L.length * 3) := by
  obtain ⟨g, cap, h1, h2, h3, h4, h5⟩ := h.range (by omega)
  exact ⟨g, cap, h1, h3, h2, h4, h5⟩
theorem row_cell {w : World} {g : Nat} {L : List Sp} (h : w.rangeAt g 0 (spRow L)) {i : Nat} (hi : i < L.length) :
    w.cell? ⟨g, i * 3, none⟩ = some (.int .i64 ((at_ L i).1 : Int)) ∧ w.cell? ⟨g, i * 3 + 1, none⟩ = some (.float .f64 (qw (at_ L i).2.1)) ∧ w.cell? ⟨g, i * 3 + 2, none⟩ = some (.int .i64 ((at_ L i).2.2 : Int)) := by
  rw [at_get hi]
  have h0 := fun j (hj : j < 3) => flat_get spC 3 spC_len L i j hi hj
  have h1 := fun j v (hj : j < 3) (hv : (spC L[i])[j]? = some v) => h (i * 3 + j) v ((h0 j hj).trans hv)
  exact ⟨by simpa using h1 0 _ (by omega) rfl, by simpa using h1 1 _ (by omega) rfl, by simpa using h1 2 _ (by omega) rfl⟩
theorem few_at {L : List Sp} (h : Few L) {i : Nat} (hi : i < L.length) : (at_ L i).2.1 ≤ 4294967296 := by rw [at_get hi]; exact h _ (List.getElem_mem hi)
theorem few_swp {L : List Sp} {i k : Nat} (h : Few L) (hi : i < L.length) (hk : k < L.length) : Few (swp L i k) := fun s hs => h s ((swp_mem hi hk).1 hs)
theorem bLen_any (v : Value) (L : List Sp) (base : Nat) (w : World) (h : RowAt w base v L) :
    Calls Tryz.prog 125 #[v] w fun e w' => e = .returned (.int .i64 (L.length : Int)) ∧ w = w' := by
  obtain ⟨a, c, rfl⟩ := h.slice
  clear h
  go_enter Tryz.func125, Tryz.ntmps125
  go_wp2_with fail
  go_ret
  exact ⟨rfl, rfl⟩
set_option maxHeartbeats 4000000 in
theorem bLess_any (v : Value) (L : List Sp) (base i k : Nat) (w : World) (h : RowAt w base v L) (hf : Few L) (hi : i < L.length) (hk : k < L.length) :
    Calls Tryz.prog 126 #[v, .int .i64 (i : Int), .int .i64 (k : Int)] w fun e w' => e = .returned (.bool (lessS (at_ L i) (at_ L k))) ∧ Below w.heap.size w w' := by
  obtain ⟨g, cap, rfl, hb, hg, hr, -⟩ := h.cells hi
  obtain ⟨-, c1, c2⟩ := row_cell hr hi
  obtain ⟨-, d1, d2⟩ := row_cell hr hk
  have f1 := few_at hf hi
  have f2 := few_at hf hk
  have hil : (i : Int) < (L.length : Int) := by omega
  have hkl : (k : Int) < (L.length : Int) := by omega
  have hi0 : (0 : Int) ≤ (i : Int) := by omega
  have hk0 : (0 : Int) ≤ (k : Int) := by omega
  clear h hf hr hb hi hk
  generalize at_ L i = x at *
  generalize at_ L k = y at *
  obtain ⟨x0, x1, x2⟩ := x
  obtain ⟨y0, y1, y2⟩ := y
  simp only at c1 c2 d1 d2 f1 f2
  have HE := Lib.hid (od_qw (n := x1) (m := y1) (by omega) (by omega))
  by_cases he : x1 = y1
  · subst he
    have e1 : (FloatKind.f64.format.order (qw x1) (qw x1) != some .eq) = false := by rw [HE.out]; simp
    have hR : lessS (x0, x1, x2) (y0, x1, y2) = decide (x2 < y2) := by
      unfold lessS
      simp
    rw [hR]
    clear hR HE f2
    go_enter Tryz.func126, Tryz.ntmps126
    go_upto_region 1 with (fail)
    go_quiet (fail)
    go_wp2_with fail
    go_quiet (fail)
    go_wp2_with fail
    go_ret
    exact ⟨rfl, Go.Iq.below_drewN (Go.Iq.below_drewN (Below.refl _ _) _) _⟩
  · have e1 : (FloatKind.f64.format.order (qw x1) (qw y1) != some .eq) = true := by
      rw [HE.out, bne_iff_ne]
      intro hc
      rw [Option.some.injEq, Int.compare_eq_eq] at hc
      omega
    have hR : lessS (x0, x1, x2) (y0, y1, y2) = (FloatKind.f64.format.order (qw x1) (qw y1) == some .lt) := by
      rw [HE.out]
      unfold lessS
      simp only [he, decide_false, Bool.false_and, Bool.or_false]
      rw [Bool.eq_iff_iff, decide_eq_true_eq, beq_iff_eq, Option.some.injEq, Int.compare_eq_lt]; omega
    rw [hR]
    clear hR HE f2 he
    go_enter Tryz.func126, Tryz.ntmps126
    go_upto_region 1 with (fail)
    go_quiet (fail)
    go_wp2_with fail
    go_quiet (fail)
    go_wp2_with fail
    go_ret
    exact ⟨rfl, Go.Iq.below_drewN (Go.Iq.below_drewN (Below.refl _ _) _) _⟩
theorem setCells3 (w : World) (g o : Nat) (a b c : Value) : w.setCells g o [a, b, c] = ((w.setCell ⟨g, o, none⟩ a).setCell ⟨g, o + 1, none⟩ b).setCell ⟨g, o + 2, none⟩ c := rfl
theorem own_room {w : World} {base : Nat} {e : TypeId} {k n : Nat} {g cap : Nat} {xs : List Value} (h : Own w base e k (.slice (some ⟨g, 0, none⟩) n cap) n xs) (hn : 0 < n) : n ≤ cap ∧ g < w.heap.size := by
  rcases h with ⟨rfl, _⟩ | ⟨g', cap', cur, hv, hb, hg, hc, hm, hs, hx⟩
  · omega
  · simp only [Value.slice.injEq, Option.some.injEq, Addr.mk.injEq, and_true, true_and] at hv
    obtain ⟨rfl, rfl⟩ := hv
    exact ⟨hc, (Array.getElem?_eq_some_iff.1 hg).1⟩
theorem swap_ends {w : World} {g cap base i k : Nat} {L : List Sp} (q : Nat) (h : RowAt w base (.slice (some ⟨g, 0, none⟩) L.length cap) L) (hi : i < L.length) (hk : k < L.length) (w' : World) (hw : w' = ((w.setCells g (i * 3) (spC (at_ L k))).setCells g (k * 3) (spC (at_ L i)))) :
    RowAt w' base (.slice (some ⟨g, 0, none⟩) L.length cap) (swp L i k) ∧ Kq q (.slice (some ⟨g, 0, none⟩) L.length cap) (.slice (some ⟨g, 0, none⟩) L.length cap) w w' := by
  have hc := own_room h (by omega)
  have h1 := own_put (vs := spC (at_ L k)) h rfl hi
  rw [spRow, ← flat_set spC 3 spC_len L i _ hi] at h1
  have h2 := own_put (vs := spC (at_ L i)) h1 rfl hk
  rw [← flat_set spC 3 spC_len _ k _ (by simpa using hk)] at h2
  obtain ⟨f1, f2, f3⟩ := setCells_frame g (spC (at_ L i)) (k * 3) (w.setCells g (i * 3) (spC (at_ L k)))
  obtain ⟨g1, g2, g3⟩ := setCells_frame g (spC (at_ L k)) (i * 3) w
  have e : (L.set i (at_ L k)).set k (at_ L i) = swp L i k := rfl
  have e2 := swp_len L i k
  rw [e] at h2
  have s1 := setCells_size g (spC (at_ L i)) (k * 3) (w.setCells g (i * 3) (spC (at_ L k)))
  have s2 := setCells_size g (spC (at_ L k)) (i * 3) w
  have o1 := setCells_other g (spC (at_ L i)) (k * 3) (w.setCells g (i * 3) (spC (at_ L k)))
  have o2 := setCells_other g (spC (at_ L k)) (i * 3) w
  rw [← hw] at h2 f1 f2 f3 s1 o1
  generalize w.setCells g (i * 3) (spC (at_ L k)) = w1 at *
  generalize swp L i k = L' at *
  clear e hw h h1
  constructor
  · show Own w' base _ 3 _ L'.length (spRow L')
    rw [e2]; exact h2
  · refine ⟨f1.trans g1, f2.trans g2, f3.trans g3, by omega, fun j hj hq hr => ?_, fun _ _ h => h⟩
    have hjg : j ≠ g := fun e => by subst e; have := hr _ _ rfl; omega
    rw [o1 j hjg, o2 j hjg]
set_option maxHeartbeats 4000000 in
theorem bSwap_any (g cap : Nat) (L : List Sp) (base i k : Nat) (w : World) (h : RowAt w base (.slice (some ⟨g, 0, none⟩) L.length cap) L) (hi : i < L.length) (hk : k < L.length) :
    Calls Tryz.prog 127 #[.slice (some ⟨g, 0, none⟩) L.length cap, .int .i64 (i : Int), .int .i64 (k : Int)] w fun e w' => e = .returned (.tuple #[]) ∧ RowAt w' base (.slice (some ⟨g, 0, none⟩) L.length cap) (swp L i k) ∧ ∀ q, Kq q (.slice (some ⟨g, 0, none⟩) L.length cap) (.slice (some ⟨g, 0, none⟩) L.length cap) w w' := by
  have hr := h.range (by omega)
  obtain ⟨g', cap', hv, hg, hb, hr, ht⟩ := hr
  simp only [Value.slice.injEq, Option.some.injEq, Addr.mk.injEq, and_true, true_and] at hv
  obtain ⟨rfl, rfl⟩ := hv
  obtain ⟨c0, c1, c2⟩ := row_cell hr hi
  obtain ⟨d0, d1, d2⟩ := row_cell hr hk
  have hil : (i : Int) < (L.length : Int) := by omega
  have hkl : (k : Int) < (L.length : Int) := by omega
  have hi0 : (0 : Int) ≤ (i : Int) := by omega
  have hk0 : (0 : Int) ≤ (k : Int) := by omega
  have fz := fun j (hj : j < L.length * 3) => (ht j hj).2
  have e0 : w.frozen? ⟨g, i * 3, none⟩ = false := by simpa using fz (i * 3) (by omega)
  have e1 : w.frozen? ⟨g, i * 3 + 1, none⟩ = false := by simpa using fz (i * 3 + 1) (by omega)
  have e2 : w.frozen? ⟨g, i * 3 + 2, none⟩ = false := by simpa using fz (i * 3 + 2) (by omega)
  have f0 : w.frozen? ⟨g, k * 3, none⟩ = false := by simpa using fz (k * 3) (by omega)
  have f1 : w.frozen? ⟨g, k * 3 + 1, none⟩ = false := by simpa using fz (k * 3 + 1) (by omega)
  have f2 : w.frozen? ⟨g, k * 3 + 2, none⟩ = false := by simpa using fz (k * 3 + 2) (by omega)
  have HH := Lib.hid h
  have hst := g_storeL
  clear h hr hi hk fz ht
  by_cases hik : k = i
  · subst hik
    clear d0 d1 d2 f0 f1 f2 hk0 hkl
    go_enter Tryz.func127, Tryz.ntmps127
    go_big_region
    obtain ⟨w', hw'⟩ : ∃ w', w' = ((w.setCells g (k * 3) (spC (at_ L k))).setCells g (k * 3) (spC (at_ L k))) := ⟨_, rfl⟩
    have hQ := fun q => swap_ends q HH.out (i := k) (k := k) (by omega) (by omega) w' hw'
    unfold spC at hw'
    rw [setCells3, setCells3] at hw'
    refine bodyPost_end (results_none rfl _ _ _) rfl ?_
    refine ⟨rfl, ?_⟩
    rw [← hw']
    exact ⟨(hQ 0).1.keep (fun _ _ _ => rfl), fun q => (hQ q).2.shut ((Below.refl _ _).drew)⟩
  · have n0 : ¬ k * 3 = i * 3 := by omega
    have n1 : ¬ k * 3 = i * 3 + 1 := by omega
    have n2 : ¬ k * 3 = i * 3 + 2 := by omega
    have n3 : ¬ k * 3 + 1 = i * 3 := by omega
    have n4 : ¬ k * 3 + 1 = i * 3 + 2 := by omega
    have n5 : ¬ k * 3 + 2 = i * 3 := by omega
    have n6 : ¬ k * 3 + 2 = i * 3 + 1 := by omega
    go_enter Tryz.func127, Tryz.ntmps127
    go_big_region
    obtain ⟨w', hw'⟩ : ∃ w', w' = ((w.setCells g (i * 3) (spC (at_ L k))).setCells g (k * 3) (spC (at_ L i))) := ⟨_, rfl⟩
    have hQ := fun q => swap_ends q HH.out (i := i) (k := k) (by omega) (by omega) w' hw'
    unfold spC at hw'
    rw [setCells3, setCells3] at hw'
    refine bodyPost_end (results_none rfl _ _ _) rfl ?_
    refine ⟨rfl, ?_⟩
    rw [← hw']
    exact ⟨(hQ 0).1.keep (fun _ _ _ => rfl), fun q => (hQ q).2.shut ((Below.refl _ _).drew)⟩
end Go.Proofs.YtjlfpjjfldbknaaGreat
end
