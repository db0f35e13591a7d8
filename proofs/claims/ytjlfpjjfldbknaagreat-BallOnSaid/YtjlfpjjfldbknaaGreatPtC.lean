/- Paths: a queue's Push, Pop (one more at the end, the last one off), heap.Push, heap.Pop, put and take. -/
import Derived.Test.YtjlfpjjfldbknaaGreatPtB
import Derived.Test.YtjlfpjjfldbknaaGreatNhB
import Derived.Handy
section
namespace Go.Ow
open Go.RowKit Go.Lib
set_option linter.unusedVariables false
set_option linter.unusedSimpArgs false
theorem kq_alloc (q : Nat) (v : Value) (n c : Nat) {w : World} (o : Obj) : Kq q v (.slice (some ⟨w.heap.size, 0, none⟩) n c) w (w.drew.alloc o) := by
  have hB := ((Below.refl w.heap.size w).drew).alloc (Nat.le_refl _) o
  refine ⟨hB.os, hB.tape, hB.output, hB.size, fun j hj _ _ => hB.block j hj, fun j hj _ n' c' e => ?_⟩
  simp only [Value.slice.injEq, Option.some.injEq, Addr.mk.injEq, and_true] at e
  have e2 : w.heap.size = j := e.1
  omega
/-- One element more at the end of an own row, and which blocks stay. -/
theorem own_app {P : Program} {w : World} {base k bytes n vb : Nat} {T TS : TypeId} {v : Value} {z : Value} {xs vs : List Value} (hu : P.underlying TS = some (.slice T)) (hinfo : (P.info? T).map (fun i => (i.zero, i.size, i.bytes)) = some (some z, k, bytes)) (hz : z.cells.size = k)
    (hown : Own w base T k v n xs) (hb : base ≤ w.heap.size) (hvb : w.heap[vb]? = some (.cells vs.toArray T (0, 0))) (hvl : vs.length = k) (h1v : ∀ v ∈ vs, v.oneCell' = true) (hfit : (n + 1) * bytes ≤ 140737488355328) (hn : n < 4611686018427387904) :
    ∃ v' w', (∀ ty, (Builtin.append_ #[TS, TS] ty #[v, .slice (some ⟨vb, 0, none⟩) 1 1]).run P w = .ok v' w') ∧ Own w' base T k v' (n + 1) (xs ++ vs) ∧ (∀ q, Kq q v v' w w') := by
  have hxl := hown.len
  obtain ⟨i0, hi0, hz0, hzs, hzb⟩ := info_parts hinfo
  have hvr : ∀ j u, vs[j]? = some u → w.cell? ⟨vb, j, none⟩ = some u := fun j u hj => by rw [cell_of_row w vb j _ _ (0, 0) hvb]; simpa using hj
  have hsrc : Src P k TS (.slice (some ⟨vb, 0, none⟩) 1 1) 1 vs w := Src.ofSlice w hu ⟨vb, 0, none⟩ 1 1 vs (by rw [hvl, Nat.one_mul]) (fun j u hj => by rw [Addr.add_lit, Nat.zero_add]; exact hvr j u hj) h1v
  have hml : n + 1 ≤ maxLen := by unfold maxLen; omega
  have GROW : ∀ (a : Option Addr) (c : Nat), v = .slice a n c → c < n + 1 → (Builtin.firstCells i0.size n (.slice a n c)).run P w.drew = .ok xs.toArray w.drew → ∃ v' w', (∀ ty, (Builtin.append_ #[TS, TS] ty #[v, .slice (some ⟨vb, 0, none⟩) 1 1]).run P w = .ok v' w') ∧ Own w' base T k v' (n + 1) (xs ++ vs) ∧ (∀ q, Kq q v v' w w') := fun a c hv hc hold => by
    subst hv
    refine ⟨_, _, fun ty => run_append_grow_src w TS TS ty T i0 _ hu hi0 hz0 a n c xs hold _ 1 vs (by rw [hzs]; exact hsrc) hc (by unfold maxLen at hml; omega) (by rw [hzb]; exact growslice_fits hc hfit),
      own_grown hb hxl hvl hz (grownCap_ge w _ _ _) (grownCap_le_maxLen w _ _ _ hml), fun q => kq_alloc q _ _ _ _⟩
  rcases hown with ⟨rfl, rfl, a, rfl⟩ | ⟨g, cap, cur, rfl, hbg, hg, hnc, hcm, hcs, hx⟩
  · exact GROW a 0 rfl (by omega) (by
      rw [hzs]
      cases a with
      | none => exact run_firstCells_none w.drew k 0 0 0
      | some a => exact run_firstCells_some w.drew k 0 a 0 0 [] (by simp) (fun j v hj => by simp at hj))
  · by_cases hroom : n + 1 ≤ cap
    · have hnk : n * k + k ≤ cap * k := by rw [← Nat.succ_mul]; exact Nat.mul_le_mul_right _ hroom
      have hdr : xs.drop (n * k) = [] := List.drop_of_length_le (by omega)
      have htk : xs.take (n * k) = xs := List.take_of_length_le (by omega)
      have HS := own_shift (i := n) (w := w) (w1 := w) (w2 := w.setCells g (n * k) vs) hbg hg hcs hcm hx (Nat.le_refl n) hvl hroom (by rw [hdr]; rfl) rfl
      rw [htk, hdr, List.append_nil] at HS
      obtain ⟨f1, f2, f3⟩ := setCells_frame g vs (n * k) w
      refine ⟨_, _, fun ty => ?_, HS.1, fun q => ⟨f1, f2, f3, by rw [setCells_size]; exact Nat.le_refl _, fun j hj _ hr => setCells_other g _ _ _ j (fun e => by subst e; have := hr _ _ rfl; omega), fun j hj hr n' c' e => ?_⟩⟩
      · have h := run_append_room_src (P := P) w TS TS ty T i0 hu hi0 g 0 n cap (.slice (some ⟨vb, 0, none⟩) 1 1) 1 vs (by rw [hzs]; exact hsrc) hroom
          (fun j hj => by rw [hzs, cell_of_row w g _ cur _ (0, 0) hg, Array.getElem?_eq_getElem (by omega)]; rfl) (fun j _ => frozen_of_row w g _ cur _ hg)
        rw [hzs, Nat.zero_add] at h
        exact h
      · simp only [Value.slice.injEq, Option.some.injEq, Addr.mk.injEq, and_true] at e
        obtain ⟨rfl, rfl, rfl⟩ := e
        exact hr _ _ rfl
    · exact GROW _ cap rfl (by omega) (by
        rw [hzs]
        exact run_firstCells_some w.drew k n ⟨g, 0, none⟩ n cap xs hxl (fun j v hj => by
          rw [Addr.add_lit, Nat.zero_add]
          show w.cell? _ = _
          rw [cell_of_row w g j cur _ (0, 0) hg, ← Array.getElem?_toList]
          rw [← hx, List.getElem?_take] at hj
          split at hj
          · exact hj
          · cases hj))
end Go.Ow
end
/- second half -/
section
namespace Go.Proofs.YtjlfpjjfldbknaaGreat
open Go.RowKit Go.Lib Go.Fq Go.Pq Go.Ow
set_option linter.unusedVariables false
set_option linter.unusedSimpArgs false
set_option maxRecDepth 100000

theorem spInfo : (Tryz.prog.info? 134).map (fun i => (i.zero, i.size, i.bytes)) = some (some (.agg #[.int .i64 0, .float .f64 0, .int .i64 0]), 3, 24) := by kernel_rfl
/-- The struct's cell is set to a row that is there. -/
theorem QAt.put {w : World} {q base : Nat} {v u : Value} {L : List Sp} (hq : w.heap[q]? = some (.cells #[v] 132 (0, 0))) (hr : RowAt w base u L) (hf : Few L) : QAt (w.setCell ⟨q, 0, none⟩ u) base q u L :=
  ⟨heap_setCell_same w q 0 _ _ u hq, hr.keep (fun j cur hj => Below.heap_setCell _ _ _ _ (heap_ne hj hq (by decide))), hf⟩
theorem kq_set {q : Nat} {v v' : Value} {a b : World} (h : Kq q v v' a b) (u : Value) : Kq q v v' a (b.setCell ⟨q, 0, none⟩ u) :=
  ⟨h.os, h.tape, h.output, by simpa [World.setCell] using h.size, fun j hj hq hr => (Below.heap_setCell _ _ _ _ hq).trans (h.block j hj hq hr), h.row⟩
theorem spRow_snoc (L : List Sp) (s : Sp) : spRow (L ++ [s]) = spRow L ++ spC s := by simp [spRow]
theorem few_snoc {L : List Sp} {s : Sp} (h : Few L) (hs : s.2.1 ≤ 4294967296) : Few (L ++ [s]) := fun x hx => by
  rcases List.mem_append.1 hx with e | e
  · exact h x e
  · rw [List.mem_singleton] at e; subst e; exact hs
theorem assertStop (x : Value) (V : World) : (Instr.typeAssert (.iface 134 x) 20 134 false).run Tryz.prog V = .ok x V := by kernel_rfl
set_option maxHeartbeats 8000000 in
theorem bPush_any (v : Value) (L : List Sp) (s : Sp) (base q : Nat) (w : World) (h : QAt w base q v L) (hs : s.2.1 ≤ 4294967296) (hb : base ≤ w.heap.size) (hn : L.length < 1048576) :
    Calls Tryz.prog 130 #[.pointer (some ⟨q, 0, none⟩), .iface 134 (.agg #[.int .i64 (s.1 : Int), .float .f64 (qw s.2.1), .int .i64 (s.2.2 : Int)])] w fun e w' => e = .returned (.tuple #[]) ∧ ∃ v', QAt w' base q v' (L ++ [s]) ∧ Kq q v v' w w' := by
  have HB := Lib.hid hb
  have HN := Lib.hid hn
  have HS := Lib.hid hs
  have HC : Hid (∀ V, Below w.heap.size w V → V.cell? ⟨q, 0, none⟩ = some v) := Lib.hid (fun V hV => (h.below hV).cell)
  have HQ : Hid (∀ V, Below w.heap.size w V → QAt V base q v L) := Lib.hid (fun V hV => h.below hV)
  have HSL := Lib.hid h.row.slice
  have hT : True := trivial
  have hta := assertStop
  clear h hb hn hs
  go_enter Tryz.func130, Tryz.ntmps130
  refine wp_region_held_drew (S := fun _ => True) (by kernel_rfl) trivial (fun hH => ?_)
  have B0 : Hid (Below w.heap.size w w.drew) := Lib.hid (Below.drew (Below.refl _ _))
  generalize w.drew = V0 at *
  refine tk 0 (by assumption) rfl (by kernel_rfl) (fun _ _ _ h => h) (fun V hV => by go_simp; try with_reducible rfl) ?_
  try simp only [Act.put, sqA, sqB, sqC, sqD, sqE, sqF]
  refine tk 1 (by assumption) rfl (by kernel_rfl) (fun _ _ _ h => h) (fun V hV => by go_simp; try with_reducible rfl) ?_
  try simp only [Act.put, sqA, sqB, sqC, sqD, sqE, sqF]
  refine tk 2 (by assumption) rfl (by kernel_rfl) (fun _ _ _ h => h) (fun V hV => by go_simp; try with_reducible rfl) ?_
  try simp only [Act.put, sqA, sqB, sqC, sqD, sqE, sqF]
  refine tk 4 (by assumption) rfl (by kernel_rfl) (fun _ _ _ h => h) (fun V hV => by go_simp; try with_reducible rfl) ?_
  try simp only [Act.put, sqA, sqB, sqC, sqD, sqE, sqF]
  refine tk 5 (by assumption) rfl (by kernel_rfl) (fun _ _ _ h => h) (fun V hV => by go_simp; try with_reducible rfl) ?_
  try simp only [Act.put, sqA, sqB, sqC, sqD, sqE, sqF]
  refine wpAnyH_ready (rs := [3, 6]) (by kernel_rfl) (by simp) ?_
  refine AllReadyH.cons (o := _) rfl (fun K hK => ?_) (AllReadyH.cons (o := _) rfl (fun K hK => ?_) (AllReadyH.nil))
  · have hc := HC.out _ B0.out
    go_simp
    refine hK.out _ _ trivial (fun hH => ?_)
    clear hK K hc
    try simp only [Act.put, sqA, sqB, sqC, sqD, sqE, sqF]
    refine wpAnyH_ready (rs := [6]) (by kernel_rfl) (by simp) ?_
    refine AllReadyH.cons (o := _) rfl (fun K hK => ?_) AllReadyH.nil
    go_simp
    obtain ⟨V1, hV1⟩ : ∃ V1, V1 = V0.alloc (.cells #[.int .i64 (s.1 : Int), .float .f64 (qw s.2.1), .int .i64 (s.2.2 : Int)] 134) := ⟨_, rfl⟩
    rw [← hV1]
    have B1 : Hid (Below w.heap.size w V1) := Lib.hid (by rw [hV1]; exact gNx B0.out (gAl _ _))
    have HV : Hid (V1.heap[V0.heap.size]? = some (.cells (spC s).toArray 134 (0, 0))) := Lib.hid (by rw [hV1]; exact heap_alloc_new V0 _)
    clear hV1
    refine hK.out _ _ trivial (fun hH => ?_)
    clear hK K
    try simp only [Act.put, sqA, sqB, sqC, sqD, sqE, sqF]
    refine wpAnyH_ready (rs := [7]) (by kernel_rfl) (by simp) ?_
    refine AllReadyH.cons (o := _) rfl (fun K hK => ?_) AllReadyH.nil
    obtain ⟨v2, W2, hrun, hrow, hkq⟩ := own_app (P := Tryz.prog) (vb := V0.heap.size) (vs := spC s) Tryz.underlying130 spInfo rfl (HQ.out _ B1.out).row (by have := HB.out; have := B1.out.size; omega) HV.out rfl (spC_one s) (by have := HN.out; omega) (by have := HN.out; omega)
    obtain ⟨va, vc, rfl⟩ := hrow.slice
    obtain ⟨a0, c0, hv0⟩ := HSL.out
    subst hv0
    have HR := Lib.hid hrun
    have HW := Lib.hid hrow
    have HKQ := Lib.hid hkq
    have HQB : Hid (W2.heap[q]? = some (.cells #[.slice a0 L.length c0] 132 (0, 0))) := Lib.hid ((hkq (q + 1)).block q (Array.getElem?_eq_some_iff.1 (HQ.out _ B1.out).qb).1 (by omega) (HQ.out _ B1.out).apart |>.trans (HQ.out _ B1.out).qb)
    clear hrun hrow hkq
    refine step_append_r rfl _ _ 130 130 rfl (.slice a0 L.length c0) (.slice (some ⟨V0.heap.size, 0, none⟩) 1 1) (by simp [Act.eval, Act.put]) (by simp [Act.eval, Act.put]) (HR.out _) ?_
    refine hK.out _ _ trivial (fun hH => ?_)
    clear hK K
    try simp only [Act.put, sqA, sqB, sqC, sqD, sqE, sqF]
    refine tk 8 (by assumption) rfl (by kernel_rfl) (fun _ _ _ h => h) (fun V hV => by go_simp; try with_reducible rfl) ?_
    try simp only [Act.put, sqA, sqB, sqC, sqD, sqE, sqF]
    refine wpAnyH_ready (rs := [9]) (by kernel_rfl) (by simp) ?_
    refine AllReadyH.cons (o := _) rfl (fun K hK => ?_) AllReadyH.nil
    have hc := HQB.out
    have e0 : W2.cell? ⟨q, 0, none⟩ = some (.slice a0 L.length c0) := by rw [cell_of_row W2 q 0 _ _ (0, 0) HQB.out]; rfl
    have e1 := frozen_of_row W2 q 0 _ _ HQB.out
    clear hc
    go_simp
    refine hK.out _ _ trivial (fun hH => ?_)
    clear hK K
    try simp only [Act.put, sqA, sqB, sqC, sqD, sqE, sqF]
    refine wpAnyH_done (by kernel_rfl) ?_ _
    refine bodyPost_end (results_none rfl _ _ _) rfl ?_
    exact ⟨rfl, _, QAt.put HQB.out (by unfold RowAt; rw [spRow_snoc, List.length_append]; exact HW.out) (few_snoc (HQ.out _ B1.out).few HS.out), (kq_set (HKQ.out q) _).open B1.out⟩
  · go_simp
    obtain ⟨V1, hV1⟩ : ∃ V1, V1 = V0.alloc (.cells #[.int .i64 (s.1 : Int), .float .f64 (qw s.2.1), .int .i64 (s.2.2 : Int)] 134) := ⟨_, rfl⟩
    rw [← hV1]
    have B1 : Hid (Below w.heap.size w V1) := Lib.hid (by rw [hV1]; exact gNx B0.out (gAl _ _))
    have HV : Hid (V1.heap[V0.heap.size]? = some (.cells (spC s).toArray 134 (0, 0))) := Lib.hid (by rw [hV1]; exact heap_alloc_new V0 _)
    clear hV1
    refine hK.out _ _ trivial (fun hH => ?_)
    clear hK K
    try simp only [Act.put, sqA, sqB, sqC, sqD, sqE, sqF]
    refine wpAnyH_ready (rs := [3]) (by kernel_rfl) (by simp) ?_
    refine AllReadyH.cons (o := _) rfl (fun K hK => ?_) AllReadyH.nil
    have hc := HC.out _ B1.out
    go_simp
    refine hK.out _ _ trivial (fun hH => ?_)
    clear hK K hc
    try simp only [Act.put, sqA, sqB, sqC, sqD, sqE, sqF]
    refine wpAnyH_ready (rs := [7]) (by kernel_rfl) (by simp) ?_
    refine AllReadyH.cons (o := _) rfl (fun K hK => ?_) AllReadyH.nil
    obtain ⟨v2, W2, hrun, hrow, hkq⟩ := own_app (P := Tryz.prog) (vb := V0.heap.size) (vs := spC s) Tryz.underlying130 spInfo rfl (HQ.out _ B1.out).row (by have := HB.out; have := B1.out.size; omega) HV.out rfl (spC_one s) (by have := HN.out; omega) (by have := HN.out; omega)
    obtain ⟨va, vc, rfl⟩ := hrow.slice
    obtain ⟨a0, c0, hv0⟩ := HSL.out
    subst hv0
    have HR := Lib.hid hrun
    have HW := Lib.hid hrow
    have HKQ := Lib.hid hkq
    have HQB : Hid (W2.heap[q]? = some (.cells #[.slice a0 L.length c0] 132 (0, 0))) := Lib.hid ((hkq (q + 1)).block q (Array.getElem?_eq_some_iff.1 (HQ.out _ B1.out).qb).1 (by omega) (HQ.out _ B1.out).apart |>.trans (HQ.out _ B1.out).qb)
    clear hrun hrow hkq
    refine step_append_r rfl _ _ 130 130 rfl (.slice a0 L.length c0) (.slice (some ⟨V0.heap.size, 0, none⟩) 1 1) (by simp [Act.eval, Act.put]) (by simp [Act.eval, Act.put]) (HR.out _) ?_
    refine hK.out _ _ trivial (fun hH => ?_)
    clear hK K
    try simp only [Act.put, sqA, sqB, sqC, sqD, sqE, sqF]
    refine tk 8 (by assumption) rfl (by kernel_rfl) (fun _ _ _ h => h) (fun V hV => by go_simp; try with_reducible rfl) ?_
    try simp only [Act.put, sqA, sqB, sqC, sqD, sqE, sqF]
    refine wpAnyH_ready (rs := [9]) (by kernel_rfl) (by simp) ?_
    refine AllReadyH.cons (o := _) rfl (fun K hK => ?_) AllReadyH.nil
    have hc := HQB.out
    have e0 : W2.cell? ⟨q, 0, none⟩ = some (.slice a0 L.length c0) := by rw [cell_of_row W2 q 0 _ _ (0, 0) HQB.out]; rfl
    have e1 := frozen_of_row W2 q 0 _ _ HQB.out
    clear hc
    go_simp
    refine hK.out _ _ trivial (fun hH => ?_)
    clear hK K
    try simp only [Act.put, sqA, sqB, sqC, sqD, sqE, sqF]
    refine wpAnyH_done (by kernel_rfl) ?_ _
    refine bodyPost_end (results_none rfl _ _ _) rfl ?_
    exact ⟨rfl, _, QAt.put HQB.out (by unfold RowAt; rw [spRow_snoc, List.length_append]; exact HW.out) (few_snoc (HQ.out _ B1.out).few HS.out), (kq_set (HKQ.out q) _).open B1.out⟩
theorem kq_cut {q g n n' cap : Nat} {a b : World} (h : Kq q (.slice (some ⟨g, 0, none⟩) n cap) (.slice (some ⟨g, 0, none⟩) n cap) a b) : Kq q (.slice (some ⟨g, 0, none⟩) n cap) (.slice (some ⟨g, 0, none⟩) n' cap) a b :=
  ⟨h.os, h.tape, h.output, h.size, h.block, fun j hj hr m c e => by
    simp only [Value.slice.injEq, Option.some.injEq, Addr.mk.injEq, and_true] at e
    obtain ⟨rfl, rfl, rfl⟩ := e
    exact hr _ _ rfl⟩
theorem last_own {w : World} {base g cap n : Nat} {L : List Sp} (hn : n + 1 = L.length) (h : RowAt w base (.slice (some ⟨g, 0, none⟩) (n + 1) cap) L) : RowAt w base (.slice (some ⟨g, 0, none⟩) n cap) L.dropLast := by
  have hd : L.dropLast = L.take n := by rw [List.dropLast_eq_take]; congr 1; omega
  have hl : L.dropLast.length = n := by rw [List.length_dropLast]; omega
  unfold RowAt
  rw [hl, hd]
  unfold spRow
  rw [flat_take spC 3 spC_len]
  unfold RowAt at h
  rw [← hn] at h
  rcases h with ⟨h1, _⟩ | ⟨g', cap', cur, hv, hb, hg, hc, hm, hs, hx⟩
  · omega
  · simp only [Value.slice.injEq, Option.some.injEq, Addr.mk.injEq, and_true, true_and] at hv
    obtain ⟨rfl, rfl⟩ := hv
    refine Or.inr ⟨g, cap, cur, rfl, hb, hg, by omega, hm, hs, ?_⟩
    show _ = (spRow L).take (n * 3)
    rw [← hx, List.take_take, Nat.min_eq_left (by omega)]
set_option maxHeartbeats 8000000 in
theorem bPop_any (g cap n : Nat) (L : List Sp) (base q : Nat) (w : World) (h : QAt w base q (.slice (some ⟨g, 0, none⟩) (n + 1) cap) L) (hn : n + 1 = L.length) (hb : base ≤ w.heap.size) (hs : n < 1048576) :
    Calls Tryz.prog 129 #[.pointer (some ⟨q, 0, none⟩)] w fun e w' => e = .returned (.iface 134 (.agg #[.int .i64 ((at_ L n).1 : Int), .float .f64 (qw (at_ L n).2.1), .int .i64 ((at_ L n).2.2 : Int)])) ∧ ∃ v', QAt w' base q v' L.dropLast ∧ Kq q (.slice (some ⟨g, 0, none⟩) (n + 1) cap) v' w w' := by
  have hst := g_storeL
  have hr := h.row
  obtain ⟨g', cap', hv, hbg, hg, hra, -⟩ := hr.cells (i := n) (by omega)
  have hnc : n ≤ cap := by
    unfold RowAt at hr
    rw [← hn] at hr
    have := own_room hr (by omega); omega
  simp only [Value.slice.injEq, Option.some.injEq, Addr.mk.injEq, and_true, true_and] at hv
  obtain ⟨rfl, -, rfl⟩ := hv
  obtain ⟨c0, c1, c2⟩ := row_cell hra (i := n) (by omega)
  have hw : IntKind.i64.wrap (((n + 1 : Nat) : Int) - 1) = (n : Int) := by rw [IntKind.wrap_i64]; omega
  have hw2 : ((n + 1 : Nat) : Int) = (n : Int) + 1 := by omega
  have hn0 : (0 : Int) ≤ (n : Int) := by omega
  have hn1 : (n : Int) < (n : Int) + 1 := by omega
  have hnc2 : (n : Int) ≤ (cap : Int) := by omega
  have HQ := Lib.hid h
  have hc := h.cell
  have hf := frozen_of_row w q 0 _ _ h.qb
  have hql := (Array.getElem?_eq_some_iff.1 h.qb).1
  have HN := Lib.hid hn
  have HB := Lib.hid hb
  have HR := Lib.hid hr
  generalize at_ L n = x at *
  obtain ⟨x0, x1, x2⟩ := x
  simp only at c0 c1 c2
  clear h hra hn hb hr
  go_enter Tryz.func129, Tryz.ntmps129
  go_wp2_with fail
  go_ret
  have hd : Few L.dropLast := fun s hs => HQ.out.few s ((List.dropLast_sublist L).subset hs)
  refine ⟨rfl, _, (QAt.put HQ.out.qb (last_own HN.out HR.out) hd).below (gAl _ _), (kq_set (kq_cut (Kq.of_below (Below.refl w.heap.size w))) _).shut (gAl _ _)⟩
set_option maxHeartbeats 8000000 in
theorem hPush_any (v : Value) (L : List Sp) (s : Sp) (base q : Nat) (w : World) (h : QAt w base q v L) (hh : HeapP L L.length) (hs : s.2.1 ≤ 4294967296) (hb : base ≤ w.heap.size) (hn : L.length < 1048576) :
    Calls Tryz.prog 121 #[.iface 162 (.pointer (some ⟨q, 0, none⟩)), .iface 134 (.agg #[.int .i64 (s.1 : Int), .float .f64 (qw s.2.1), .int .i64 (s.2.2 : Int)])] w fun e w' => e = .returned (.tuple #[]) ∧ ∃ v' L', QAt w' base q v' L' ∧ HeapP L' L'.length ∧ L'.length = L.length + 1 ∧ (∀ x, x ∈ L' ↔ x = s ∨ x ∈ L) ∧ Kq q v v' w w' := by
  have HC := Lib.hid (bPush_any v L s base q w h hs hb hn)
  have m1 := mPush q w
  have hl1 : (L ++ [s]).length = L.length + 1 := by simp
  have HU := Lib.hid (up_start s hh)
  have HN := Lib.hid hn
  clear h hh hs hb hn
  go_enter Tryz.func121, Tryz.ntmps121
  go_wp2_with fail
  refine HC.out.mono ?_
  rintro e w1 ⟨rfl, v1, hq1, hk1⟩
  obtain ⟨g, cap, rfl, -, -, -, -⟩ := hq1.row.cells (i := L.length) (by omega)
  have HQ1 := Lib.hid hq1
  have HK1 := Lib.hid hk1
  have m2 := mLen q _ w1 hq1.cell
  have hw : IntKind.i64.wrap (((L ++ [s]).length : Int) - 1) = (L.length : Int) := by rw [hl1, IntKind.wrap_i64]; have := HN.out; omega
  have HL := Lib.hid (bLen_any _ (L ++ [s]) base w1 hq1.row)
  have HUP := Lib.hid (hUp_any g cap base q L.length (L ++ [s]) w1 hq1 (by omega) (by rw [hl1]; have := HN.out; omega) (by rw [hl1]; exact HU.out))
  have HL1 := Lib.hid hl1
  have HMM : Hid (∀ x, x ∈ L ++ [s] ↔ x = s ∨ x ∈ L) := Lib.hid (fun x => by rw [List.mem_append, List.mem_singleton]; exact Or.comm)
  clear hq1 hk1 HC m1 hl1
  generalize L ++ [s] = M at *
  go_wp2_with (go_at_call 125; refine HL.out.mono ?_; rintro e w2 ⟨rfl, rfl⟩)
  refine HUP.out.mono ?_
  rintro e w3 ⟨rfl, L', hl, hm, hp, hq3, hk3⟩
  have HX : Hid (∀ x, x ∈ M ↔ x = s ∨ x ∈ L) := HMM
  have HF : Hid (∃ v' L', QAt w3 base q v' L' ∧ HeapP L' L'.length ∧ L'.length = L.length + 1 ∧ (∀ x, x ∈ L' ↔ x = s ∨ x ∈ L) ∧ Kq q v v' w w3) :=
    Lib.hid ⟨_, L', hq3, by rw [hl]; exact hp, by rw [hl]; exact HL1.out, fun x => (hm.mem rfl x).trans (HX.out x), HK1.out.trans hk3⟩
  clear hl hm hp hq3 hk3 m2
  go_wp2_with fail
  refine bodyPost_end (results_none rfl _ _ _) rfl ?_
  exact ⟨rfl, HF.out⟩
set_option maxHeartbeats 8000000 in
theorem hPop_any (v : Value) (L : List Sp) (base q : Nat) (w : World) (h : QAt w base q v L) (hh : HeapP L L.length) (h0 : 0 < L.length) (hb : base ≤ w.heap.size) (hn : L.length < 1048576) :
    Calls Tryz.prog 122 #[.iface 162 (.pointer (some ⟨q, 0, none⟩))] w fun e w' => e = .returned (.iface 134 (.agg #[.int .i64 ((at_ L 0).1 : Int), .float .f64 (qw (at_ L 0).2.1), .int .i64 ((at_ L 0).2.2 : Int)])) ∧ ∃ v' L', QAt w' base q v' L' ∧ HeapP L' L'.length ∧ L'.length + 1 = L.length ∧ (∀ x, x ∈ L ↔ x = at_ L 0 ∨ x ∈ L') ∧ (∀ x, x ∈ L' → leS (at_ L 0) x) ∧ Kq q v v' w w' := by
  obtain ⟨g, cap, rfl, -, -, -, -⟩ := h.row.cells (i := 0) h0
  obtain ⟨n, hn1⟩ : ∃ n, L.length = n + 1 := ⟨L.length - 1, by omega⟩
  have HQ := Lib.hid h
  have HH := Lib.hid hh
  have HB := Lib.hid hb
  have HN := Lib.hid hn
  have m1 := mLen q _ w h.cell
  have HL := Lib.hid (bLen_any _ L base w h.row)
  have HCE : Hid (w.cell? ⟨q, 0, none⟩ = some (.slice (some ⟨g, 0, none⟩) L.length cap)) := Lib.hid h.cell
  have hw : IntKind.i64.wrap ((L.length : Int) - 1) = (n : Int) := by rw [IntKind.wrap_i64]; omega
  have m2 := mSwap q _ w h.cell
  have HS := Lib.hid (bSwap_n L.length g cap L base 0 n w rfl h.row h0 (by omega))
  have HN1 := Lib.hid hn1
  clear h hh hb hn hn1
  go_enter Tryz.func122, Tryz.ntmps122
  go_wp2_with (go_at_call 125; refine HL.out.mono ?_; rintro e w2 ⟨rfl, rfl⟩)
  refine HS.out.mono ?_
  rintro e w1 ⟨rfl, hr1, hk1⟩
  have hn1 := HN1.out
  have hln := swp_len L 0 n
  have hq1 : QAt w1 base q (.slice (some ⟨g, 0, none⟩) L.length cap) (swp L 0 n) := HQ.out.turn hk1 hr1 (few_swp HQ.out.few h0 (by omega))
  have HD := Lib.hid (hDown_any g cap base q n (swp L 0 n) w1 (by rw [hln]; exact hq1) (by omega) (by have := HN.out; omega) (down_start hn1.symm (by rw [← hn1]; exact HH.out)))
  have HK1 := Lib.hid hk1
  have HLN := Lib.hid hln
  rw [hln] at HD
  clear hr1 hk1 hq1 hn1 hln m1 m2
  go_wp2_with fail
  refine HD.out.mono ?_
  rintro e w2 ⟨⟨b, rfl⟩, L2, hm2, hp2, hq2, hk2⟩
  have hn1 := HN1.out
  have hl2 : L2.length = n + 1 := by rw [hm2.1, HLN.out]; exact hn1
  have m3 := mPop q w2
  have HP := Lib.hid (bPop_any g cap n L2 base q w2 (by rw [← hn1]; exact hq2) hl2.symm (Nat.le_trans HB.out (Nat.le_trans (HK1.out q).size hk2.size)) (by have := HN.out; omega))
  have HM2 := Lib.hid hm2
  have HP2 := Lib.hid hp2
  have HK2 := Lib.hid hk2
  have HL2 := Lib.hid hl2
  rw [pop_last hn1.symm hm2, ← hn1] at HP
  clear hm2 hp2 hq2 hk2 hl2 hn1
  go_wp2_with fail
  refine HP.out.mono ?_
  rintro e w3 ⟨rfl, v3, hq3, hk3⟩
  have HQ3 := Lib.hid hq3
  have HK3 := Lib.hid hk3
  clear hq3 hk3 m3
  go_wp2_with fail
  go_ret
  have hn1 := HN1.out
  refine ⟨rfl, v3, L2.dropLast, HQ3.out, pop_heap hn1.symm HM2.out HP2.out, by rw [List.length_dropLast, HL2.out]; omega, fun x => pop_mem hn1.symm HM2.out x, fun x hx => pop_min hn1.symm HM2.out (by rw [← hn1]; exact HH.out) hx, ((HK1.out q).trans HK2.out).trans HK3.out⟩
/-- A stop in a box. -/
def BoxS (w : World) (b : Nat) (s : Sp) : Prop := w.cell? ⟨b, 0, none⟩ = some (.int .i64 (s.1 : Int)) ∧ w.cell? ⟨b, 1, none⟩ = some (.float .f64 (qw s.2.1)) ∧ w.cell? ⟨b, 2, none⟩ = some (.int .i64 (s.2.2 : Int))
theorem row_not {w : World} {base : Nat} {e : TypeId} {k n : Nat} {v : Value} {xs : List Value} (h : Own w base e k v n xs) (j : Nat) (hj : w.heap.size ≤ j) : NotRow v j := by
  intro n' c hv
  rcases h with ⟨rfl, rfl, a, rfl⟩ | ⟨g, cap, cur, rfl, hbg, hg, hnc, hcm, hcs, hx⟩
  · cases hv; rfl
  · cases hv
    have := (Array.getElem?_eq_some_iff.1 hg).1
    omega
set_option maxHeartbeats 8000000 in
theorem qPut_any (v : Value) (L : List Sp) (s : Sp) (base q : Nat) (w : World) (h : QAt w base q v L) (hh : HeapP L L.length) (hs : s.2.1 ≤ 4294967296) (hb : base ≤ w.heap.size) (hn : L.length < 1048576) :
    Calls Tryz.prog 119 #[.pointer (some ⟨q, 0, none⟩), .agg #[.int .i64 (s.1 : Int), .float .f64 (qw s.2.1), .int .i64 (s.2.2 : Int)]] w fun e w' => e = .returned (.tuple #[]) ∧ ∃ v' L', QAt w' base q v' L' ∧ HeapP L' L'.length ∧ L'.length = L.length + 1 ∧ (∀ x, x ∈ L' ↔ x = s ∨ x ∈ L) ∧ Kq q v v' w w' := by
  obtain ⟨W1, hW1⟩ : ∃ W1, W1 = w.alloc (.cells #[.int .i64 (s.1 : Int), .float .f64 (qw s.2.1), .int .i64 (s.2.2 : Int)] 134) := ⟨_, rfl⟩
  have b1 : Below w.heap.size w W1 := by rw [hW1]; exact gAl _ _
  have s1 : W1.heap.size = w.heap.size + 1 := by rw [hW1]; simp
  have r1 : W1.heap[w.heap.size]? = some (.cells #[.int .i64 (s.1 : Int), .float .f64 (qw s.2.1), .int .i64 (s.2.2 : Int)] 134 (0, 0)) := by rw [hW1]; exact heap_alloc_new w _
  have HB1 := Lib.hid b1
  have HRR : Hid (∀ V, V.heap[w.heap.size]? = W1.heap[w.heap.size]? → BoxS V w.heap.size s) := Lib.hid (fun V hV => by
    have := hV.trans r1
    exact ⟨by rw [cell_of_row V _ _ _ _ (0, 0) this]; rfl, by rw [cell_of_row V _ _ _ _ (0, 0) this]; rfl, by rw [cell_of_row V _ _ _ _ (0, 0) this]; rfl⟩)
  have HAP : Hid (w.heap.size ≠ q ∧ NotRow v w.heap.size ∧ w.heap.size < W1.heap.size) := Lib.hid ⟨fun e => by have := (Array.getElem?_eq_some_iff.1 h.qb).1; omega, row_not h.row _ (Nat.le_refl _), by omega⟩
  have HP := Lib.hid (fun V (hV : Below W1.heap.size W1 V) => hPush_any v L s base q V ((h.below b1).below hV) hh hs (Nat.le_trans hb (Nat.le_trans b1.size hV.size)) hn)
  clear h hh hs hb hn b1 s1 r1
  go_enter Tryz.func119, Tryz.ntmps119
  go_upto_region 1 with (fail)
  rw [← hW1]
  clear hW1
  refine wp_region_held_drew (S := fun V => BoxS V w.heap.size s) (by kernel_rfl) (HRR.out _ rfl) (fun hH => ?_)
  have hs0 : BoxS W1.drew w.heap.size s := HRR.out _ rfl
  have B0 : Hid (Below W1.heap.size W1 W1.drew) := Lib.hid (Below.drew (Below.refl _ _))
  generalize W1.drew = V0 at *
  refine tk 0 (by assumption) rfl (by kernel_rfl) (fun _ _ _ h => h) (fun V hV => by go_simp; try with_reducible rfl) ?_
  try simp only [Act.put, sqA, sqB, sqC, sqD, sqE, sqF]
  refine tk 1 (by assumption) rfl (by kernel_rfl) (fun _ _ _ h => h) (fun V hV => by go_simp; try with_reducible rfl) ?_
  try simp only [Act.put, sqA, sqB, sqC, sqD, sqE, sqF]
  refine tk 2 (by assumption) rfl (by kernel_rfl) (fun _ _ _ h => h) (fun V hV => by go_simp; try with_reducible rfl) ?_
  try simp only [Act.put, sqA, sqB, sqC, sqD, sqE, sqF]
  refine tk 3 (by assumption) rfl (by kernel_rfl) (fun _ _ _ h => h) (fun V hV => by go_simp; try with_reducible rfl) ?_
  try simp only [Act.put, sqA, sqB, sqC, sqD, sqE, sqF]
  refine tk 4 (by assumption) rfl (by kernel_rfl) (fun _ _ _ h => h) (fun V hV => by obtain ⟨c0, c1, c2⟩ := hV; go_simp; try with_reducible rfl) ?_
  try simp only [Act.put, sqA, sqB, sqC, sqD, sqE, sqF]
  refine tk 5 (by assumption) rfl (by kernel_rfl) (fun _ _ _ h => h) (fun V hV => by go_simp; try with_reducible rfl) ?_
  try simp only [Act.put, sqA, sqB, sqC, sqD, sqE, sqF]
  refine wpAnyH_ready (rs := [6]) (by kernel_rfl) (by simp) ?_
  refine AllReadyH.cons (o := _) rfl (fun K hK => ?_) AllReadyH.nil
  go_simp
  refine (HP.out _ B0.out).mono ?_
  rintro e w2 ⟨rfl, hq⟩
  have HQ := Lib.hid hq
  clear hq
  go_wp2_with fail
  refine hK.out _ _ (by obtain ⟨v2, L2, q1, q2, q3, q4, q5⟩ := HQ.out; exact HRR.out _ ((q5.block _ (Nat.lt_of_lt_of_le HAP.out.2.2 B0.out.size) HAP.out.1 HAP.out.2.1).trans (B0.out.block _ HAP.out.2.2))) (fun hH => ?_)
  clear hK K
  try simp only [Act.put, sqA, sqB, sqC, sqD, sqE, sqF]
  refine wpAnyH_done (by kernel_rfl) ?_ _
  refine bodyPost_end (results_none rfl _ _ _) rfl ?_
  obtain ⟨v2, L2, q1, q2, q3, q4, q5⟩ := HQ.out
  exact ⟨rfl, v2, L2, q1, q2, q3, q4, q5.open (gNx HB1.out B0.out)⟩
theorem kq_own3 {q b : Nat} {v v' : Value} {a w : World} (h : Kq q v v' a w) (hb : a.heap.size ≤ b) (x y z : Value) : Kq q v v' a (((w.setCell ⟨b, 0, none⟩ x).setCell ⟨b, 1, none⟩ y).setCell ⟨b, 2, none⟩ z) :=
  ⟨h.os, h.tape, h.output, by simpa [World.setCell] using h.size, fun j hj hq hr => by
    rw [Below.heap_setCell _ _ _ _ (by show j ≠ b; omega), Below.heap_setCell _ _ _ _ (by show j ≠ b; omega), Below.heap_setCell _ _ _ _ (by show j ≠ b; omega)]
    exact h.block j hj hq hr, h.row⟩
/-- A row stays while a block that is none of its own is written. -/
theorem own_box3 {w : World} {base : Nat} {e : TypeId} {k n b : Nat} {v : Value} {xs : List Value} (h : Own w base e k v n xs) (hb : NotRow v b) (x y z : Value) : Own (((w.setCell ⟨b, 0, none⟩ x).setCell ⟨b, 1, none⟩ y).setCell ⟨b, 2, none⟩ z) base e k v n xs := by
  rcases h with h | ⟨g, cap, cur, rfl, hbg, hg, hnc, hcm, hcs, hx⟩
  · exact Or.inl h
  · by_cases hn : n = 0 ∧ cap = 0
    · obtain ⟨rfl, rfl⟩ := hn
      exact Or.inl ⟨rfl, by rw [← hx]; simp, _, rfl⟩
    · have hne : g ≠ b := fun e => by subst e; have := hb _ _ rfl; omega
      exact Or.inr ⟨g, cap, cur, rfl, hbg, by rw [Below.heap_setCell _ _ _ _ hne, Below.heap_setCell _ _ _ _ hne, Below.heap_setCell _ _ _ _ hne]; exact hg, hnc, hcm, hcs, hx⟩
set_option maxHeartbeats 8000000 in
theorem qTake_none (v : Value) (base q : Nat) (w : World) (h : QAt w base q v []) :
    Calls Tryz.prog 120 #[.pointer (some ⟨q, 0, none⟩)] w fun e w' => e = .returned (.tuple #[.agg #[.int .i64 0, .float .f64 0, .int .i64 0], .bool false]) ∧ Below w.heap.size w w' := by
  have hst := g_storeL
  obtain ⟨a, c, rfl⟩ := h.row.slice
  have hc := h.cell
  have hq := (Array.getElem?_eq_some_iff.1 h.qb).1
  clear h
  go_enter Tryz.func120, Tryz.ntmps120
  go_wp2_with fail
  refine bodyPost_ret (results_cell2 Tryz.results120 _ _ w.heap.size 0 [.int .i64 0, .float .f64 0, .int .i64 0] _ rfl ?_ Tryz.underlying134 (by rfl) (by kernel_rfl)) rfl ?_
  · exact range_box0 _ _ _
  · exact ⟨rfl, gAl _ _⟩
set_option maxHeartbeats 8000000 in
theorem qTake_some (v : Value) (L : List Sp) (base q : Nat) (w : World) (h : QAt w base q v L) (hh : HeapP L L.length) (h0 : 0 < L.length) (hb : base ≤ w.heap.size) (hn : L.length < 1048576) :
    Calls Tryz.prog 120 #[.pointer (some ⟨q, 0, none⟩)] w fun e w' => e = .returned (.tuple #[.agg #[.int .i64 ((at_ L 0).1 : Int), .float .f64 (qw (at_ L 0).2.1), .int .i64 ((at_ L 0).2.2 : Int)], .bool true]) ∧ ∃ v' L', QAt w' base q v' L' ∧ HeapP L' L'.length ∧ L'.length + 1 = L.length ∧ (∀ x, x ∈ L ↔ x = at_ L 0 ∨ x ∈ L') ∧ (∀ x, x ∈ L' → leS (at_ L 0) x) ∧ Kq q v v' w w' := by
  have hst := g_storeL
  obtain ⟨a, c, rfl⟩ := h.row.slice
  obtain ⟨W1, hW1⟩ : ∃ W1, W1 = w.alloc (.cells #[.int .i64 0, .float .f64 0, .int .i64 0] 134) := ⟨_, rfl⟩
  have b1 : Below w.heap.size w W1 := by rw [hW1]; exact gAl _ _
  have s1 : W1.heap.size = w.heap.size + 1 := by rw [hW1]; simp
  have r1 : W1.heap[w.heap.size]? = some (.cells #[.int .i64 0, .float .f64 0, .int .i64 0] 134 (0, 0)) := by rw [hW1]; exact heap_alloc_new w _
  have hc := (h.below b1).cell
  have hne : ¬ ((L.length : Int) = 0) := by omega
  have HP := Lib.hid (hPop_any _ L base q W1 (h.below b1) hh h0 (Nat.le_trans hb b1.size) hn)
  have hta := assertStop
  have HAP : Hid (w.heap.size ≠ q ∧ NotRow (.slice a L.length c) w.heap.size ∧ w.heap.size < W1.heap.size) := Lib.hid ⟨fun e => by have := (Array.getElem?_eq_some_iff.1 h.qb).1; omega, row_not h.row _ (Nat.le_refl _), by omega⟩
  have HB1 := Lib.hid b1
  have HR1 := Lib.hid r1
  clear h hh h0 hb hn b1 s1 r1
  go_enter Tryz.func120, Tryz.ntmps120
  go_upto_region 1 with (fail)
  rw [← hW1]
  clear hW1
  go_wp2_with fail
  refine HP.out.mono ?_
  rintro e w2 ⟨rfl, v2, L2, q1, q2, q3, q4, q5, q6⟩
  have r2 := (q6.block _ HAP.out.2.2 HAP.out.1 HAP.out.2.1).trans HR1.out
  have HQ : Hid (QAt w2 base q v2 L2 ∧ HeapP L2 L2.length ∧ L2.length + 1 = L.length ∧ (∀ x, x ∈ L ↔ x = at_ L 0 ∨ x ∈ L2) ∧ (∀ x, x ∈ L2 → leS (at_ L 0) x) ∧ Kq q (.slice a L.length c) v2 w w2 ∧ NotRow v2 w.heap.size) := Lib.hid ⟨q1, q2, q3, q4, q5, q6.open HB1.out, q6.row _ HAP.out.2.2 HAP.out.2.1⟩
  have c0 : w2.cell? ⟨w.heap.size, 0, none⟩ = some (.int .i64 0) := by rw [cell_of_row w2 _ 0 _ _ (0, 0) r2]; rfl
  have c1 : w2.cell? ⟨w.heap.size, 1, none⟩ = some (.float .f64 0) := by rw [cell_of_row w2 _ 1 _ _ (0, 0) r2]; rfl
  have c2 : w2.cell? ⟨w.heap.size, 2, none⟩ = some (.int .i64 0) := by rw [cell_of_row w2 _ 2 _ _ (0, 0) r2]; rfl
  have f0 := frozen_of_row w2 w.heap.size 0 _ _ r2
  have f1 := frozen_of_row w2 w.heap.size 1 _ _ r2
  have f2 := frozen_of_row w2 w.heap.size 2 _ _ r2
  have HR2 := Lib.hid r2
  clear q1 q2 q3 q4 q5 q6 r2 hc
  go_wp2_with fail
  have x1 := heap_setCell_same w2 w.heap.size 0 _ _ (.int .i64 ((at_ L 0).1 : Int)) HR2.out
  have x2 := heap_setCell_same _ w.heap.size 1 _ _ (.float .f64 (qw (at_ L 0).2.1)) x1
  have x3 := heap_setCell_same _ w.heap.size 2 _ _ (.int .i64 ((at_ L 0).2.2 : Int)) x2
  refine bodyPost_ret (results_cell2 Tryz.results120 _ _ w.heap.size 0 [.int .i64 ((at_ L 0).1 : Int), .float .f64 (qw (at_ L 0).2.1), .int .i64 ((at_ L 0).2.2 : Int)] _ rfl ?_ Tryz.underlying134 (by rfl) (by kernel_rfl)) rfl ?_
  · intro j u hj
    rw [cell_of_row _ _ _ _ _ (0, 0) x3]
    simpa using hj
  · obtain ⟨q1, q2, q3, q4, q5, q6, q7⟩ := HQ.out
    have hk := kq_own3 q6 (b := w.heap.size) (Nat.le_refl _) (.int .i64 ((at_ L 0).1 : Int)) (.float .f64 (qw (at_ L 0).2.1)) (.int .i64 ((at_ L 0).2.2 : Int))
    refine ⟨rfl, v2, L2, ⟨?_, ?_, q1.few⟩, q2, q3, q4, q5, hk⟩
    · rw [Below.heap_setCell _ _ _ _ (fun e => HAP.out.1 e.symm), Below.heap_setCell _ _ _ _ (fun e => HAP.out.1 e.symm), Below.heap_setCell _ _ _ _ (fun e => HAP.out.1 e.symm)]
      exact q1.qb
    · exact own_box3 q1.row q7 _ _ _
end Go.Proofs.YtjlfpjjfldbknaaGreat
end
