/- Paths: distsOf, Dists, Nexts. -/
import Derived.Test.YtomcnaghdfhkkaaPtK
namespace Go.Proofs.Ytomcnaghdfhkkaa
open Go.RowKit Go.Lib Go.Fq Go.Pq Go.Iq Go.Nq Go.Ow
set_option linter.unusedVariables false
set_option linter.unusedSimpArgs false
set_option maxRecDepth 100000

/-- A row that is filled one by one. -/
def fE (f : Nat → Value) (z : Value) (n k : Nat) : List Value := (List.range k).map f ++ List.replicate (n - k) z
theorem fE_len (f : Nat → Value) (z : Value) (n k : Nat) (h : k ≤ n) : (fE f z n k).length = n := by simp [fE]; omega
theorem fE_set (f : Nat → Value) (z : Value) (n k : Nat) (h : k < n) : (fE f z n k).set k (f k) = fE f z n (k + 1) := by
  unfold fE
  rw [List.set_append_right _ _ (by simp), List.range_succ, List.map_append, List.append_assoc]
  congr 1
  obtain ⟨m, hm⟩ : ∃ m, n - k = m + 1 := ⟨n - k - 1, by omega⟩
  rw [hm, List.replicate_succ, show n - (k + 1) = m by omega]
  simp
theorem fE_at (f : Nat → Value) (z : Value) (n k : Nat) (h : k < n) : (fE f z n k)[k]? = some z := by
  unfold fE
  rw [List.getElem?_append_right (by simp), List.length_map, List.length_range, Nat.sub_self, List.getElem?_replicate, if_pos (by omega)]
theorem fE_all (f : Nat → Value) (z : Value) (n : Nat) : fE f z n n = (List.range n).map f := by simp [fE]
def dRow (l : List (Option Nat)) : List Value := l.map (fun o => .float .f64 (dw o))
def dF (D : List (Option (Nat × Nat))) (i : Nat) : Value := .float .f64 (dw ((dd D i).map Prod.fst))
def nF (D : List (Option (Nat × Nat))) (i : Nat) : Value := .int .i64 (fo (dd D i) : Int)
theorem dF_all (D : List (Option (Nat × Nat))) (n : Nat) (h : D.length = n) : (List.range n).map (dF D) = dRow (dOf D) := by
  apply List.ext_getElem
  · simp [dRow, dOf, h]
  intro i h1 h2
  have hi : i < D.length := by simpa [h] using h1
  simp [dRow, dOf, dF, ← dd_at hi]
theorem ar_cells {w : World} {base n sb u : Nat} {D : List (Option (Nat × Nat))} (h : Own w base 74 3 (.slice (some ⟨sb, 0, none⟩) n n) n (arRow D)) (hl : D.length = n) (hu : u < n) : w.cell? ⟨sb, u * 3, none⟩ = some (.int .i64 (u : Int)) ∧ w.cell? ⟨sb, u * 3 + 1, none⟩ = some (dF D u) ∧ w.cell? ⟨sb, u * 3 + 2, none⟩ = some (nF D u) := by
  obtain ⟨g, cap, e1, e2, e3, e4, e5⟩ := h.range (by omega)
  simp only [Value.slice.injEq, Option.some.injEq, Addr.mk.injEq, and_true, true_and] at e1
  obtain ⟨rfl, rfl⟩ := e1
  have hul : u < (ix D).length := by rw [ix_len, hl]; exact hu
  have h0 := fun j (hj : j < 3) => flat_get arC 3 arC_len (ix D) u j hul hj
  simp only [ix_get] at h0
  have h1 := fun j x (hj : j < 3) (hv : (arC (u, dd D u))[j]? = some x) => e4 (u * 3 + j) x ((h0 j hj).trans hv)
  exact ⟨by simpa using h1 0 _ (by omega) rfl, by simpa using h1 1 (dF D u) (by omega) rfl, by simpa using h1 2 (nF D u) (by omega) rfl⟩
theorem flInfo : (Try.prog.info? 26).map (fun i => (i.zero, i.size, i.bytes)) = some (some (.float .f64 0), 1, 8) := by kernel_rfl
theorem inInfo : (Try.prog.info? 3).map (fun i => (i.zero, i.size, i.bytes)) = some (some (.int .i64 0), 1, 8) := by kernel_rfl
theorem fE_zero (f : Nat → Value) (z : Value) (n : Nat) : fE f z n 0 = List.replicate n z := by simp [fE]
theorem make_floats (f : Nat → Value) (n : Nat) (hn : n ≤ 1048576) (V : World) : (Instr.makeSlice 50 (.int .i64 (n : Int)) (.int .i64 (n : Int))).run Try.prog V = .ok (.slice (some ⟨V.heap.size, 0, none⟩) n n) (V.alloc (.cells (fE f (.float .f64 0) n 0).toArray 26)) := by
  obtain ⟨i0, hi, hz0, hz1, hz2⟩ := info_parts flInfo
  have h := run_make (P := Try.prog) V 50 26 i0 _ Try.underlying50 hi hz0 .i64 .i64 (n : Int) (n : Int) (by omega) (by omega) (by rw [hz2]; omega) (by omega)
  rw [h, hz1, fE_zero]
  simp only [Int.toNat_natCast, Nat.mul_one, Value.cells]
  rw [← toList_madeCells_one]
theorem make_ints (f : Nat → Value) (n : Nat) (hn : n ≤ 1048576) (V : World) : (Instr.makeSlice 36 (.int .i64 (n : Int)) (.int .i64 (n : Int))).run Try.prog V = .ok (.slice (some ⟨V.heap.size, 0, none⟩) n n) (V.alloc (.cells (fE f (.int .i64 0) n 0).toArray 3)) := by
  obtain ⟨i0, hi, hz0, hz1, hz2⟩ := info_parts inInfo
  have h := run_make (P := Try.prog) V 36 3 i0 _ Try.underlying36 hi hz0 .i64 .i64 (n : Int) (n : Int) (by omega) (by omega) (by rw [hz2]; omega) (by omega)
  rw [h, hz1, fE_zero]
  simp only [Int.toNat_natCast, Nat.mul_one, Value.cells]
  rw [← toList_madeCells_one]
/-- A row laid anew, none of it filled. -/
theorem own_fE (V : World) (f : Nat → Value) (z : Value) (t : TypeId) (n : Nat) (hn : n ≤ 1048576) : Own (V.alloc (.cells (fE f z n 0).toArray t)) V.heap.size t 1 (.slice (some ⟨V.heap.size, 0, none⟩) n n) n (fE f z n 0) :=
  Or.inr ⟨V.heap.size, n, _, rfl, Nat.le_refl _, heap_alloc_new V _, Nat.le_refl _, by unfold maxLen; omega, by rw [List.size_toArray, fE_len _ _ _ _ (Nat.zero_le _), Nat.mul_one], by rw [List.take_of_length_le (by rw [fE_len _ _ _ _ (Nat.zero_le _)]; omega)]⟩
/-- A cell of a row of one-cell elements. -/
theorem row1_cell {w : World} {base g n : Nat} {t : TypeId} {xs : List Value} (h : Own w base t 1 (.slice (some ⟨g, 0, none⟩) n n) n xs) {i : Nat} (hi : i < n) {v : Value} (hv : xs[i]? = some v) : w.cell? ⟨g, i, none⟩ = some v ∧ w.frozen? ⟨g, i, none⟩ = false := by
  obtain ⟨g', cap, e1, e2, e3, e4, e5⟩ := h.range (by omega)
  simp only [Value.slice.injEq, Option.some.injEq, Addr.mk.injEq, and_true, true_and] at e1
  obtain ⟨rfl, rfl⟩ := e1
  exact ⟨by simpa using e4 i v hv, by simpa using (e5 i (by omega)).2⟩
set_option maxHeartbeats 8000000 in
theorem distsOf_any (n sb base : Nat) (D : List (Option (Nat × Nat))) (w : World) (h : Own w base 74 3 (.slice (some ⟨sb, 0, none⟩) n n) n (arRow D)) (hl : D.length = n) (hn : n ≤ 256) :
    Calls Try.prog 37 #[.slice (some ⟨sb, 0, none⟩) n n] w fun e w' => ∃ g, e = .returned (.slice (some ⟨g, 0, none⟩) n n) ∧ Own w' w.heap.size 26 1 (.slice (some ⟨g, 0, none⟩) n n) n (dRow (dOf D)) ∧ Below w.heap.size w w' := by
  have hst := g_storeL
  have hmk := make_floats (dF D) n (by omega)
  have HO := Lib.hid (fun V (hV : Below w.heap.size w V) => h.below hV)
  have HL := Lib.hid hl
  have HN := Lib.hid hn
  have HFE := Lib.hid (own_fE w (dF D) (.float .f64 0) 26 n (by omega))
  clear h hl hn
  go_enter Try.func37, Try.ntmps37
  go_upto_region 2 with (fail)
  obtain ⟨W1, hW1⟩ : ∃ W1, W1 = w.alloc (.cells (fE (dF D) (.float .f64 0) n 0).toArray 26) := ⟨_, rfl⟩
  rw [← hW1]
  rw [← hW1] at HFE
  have HB1 : Hid (Below w.heap.size w W1) := Lib.hid (by rw [hW1]; exact gAl _ _)
  obtain ⟨db, hdb⟩ : ∃ db, db = w.heap.size := ⟨_, rfl⟩
  rw [← hdb] at HFE ⊢
  have HDB := Lib.hid hdb
  clear hW1 hmk hdb
  go_wp2_with fail
  go_loopw [11] (fun v wr => ∃ k : Nat, v = .int .i64 (k : Int) ∧ k ≤ n ∧ Own wr db 26 1 (.slice (some ⟨db, 0, none⟩) n n) n (fE (dF D) (.float .f64 0) n k) ∧ Below w.heap.size w wr) (fun v _ => n - (RowKit.intOf v).toNat)
  case atStart => exact ⟨0, rfl, Nat.zero_le _, HFE.out, HB1.out⟩
  case round =>
    obtain ⟨k, rfl, hk, ho, hbel⟩ := hrel
    by_cases hlt : k < n
    · have hlti : (k : Int) < (n : Int) := by omega
      have hk0 : (0 : Int) ≤ (k : Int) := by omega
      have hkw : IntKind.i64.wrap ((k : Int) + 1) = (k : Int) + 1 := by rw [IntKind.wrap_i64]; have := HN.out; omega
      obtain ⟨c0, c1, c2⟩ := ar_cells (HO.out wr hbel) HL.out hlt
      obtain ⟨f0, f1⟩ := row1_cell ho hlt (fE_at _ _ n k hlt)
      have HOW := Lib.hid ho
      have HBE := Lib.hid hbel
      have HSE : Hid ((fE (dF D) (.float .f64 0) n k).set k (.float .f64 (dw ((dd D k).map Prod.fst))) = fE (dF D) (.float .f64 0) n (k + 1)) := Lib.hid (fE_set (dF D) (.float .f64 0) n k hlt)
      have hdbs : db < wr.heap.size := (Array.getElem?_eq_some_iff.1 (own_set ho (by omega) (j := 0) (.int .i64 0)).2.2.choose_spec).1
      unfold dF at c1
      unfold nF at c2
      have HSBW : Hid (sb ≠ wr.heap.size) := Lib.hid (by
        obtain ⟨g', cap, e1, e2, -⟩ := (HO.out wr hbel).range (by omega)
        simp only [Value.slice.injEq, Option.some.injEq, Addr.mk.injEq, and_true, true_and] at e1
        omega)
      clear ho hbel
      generalize dw ((dd D k).map Prod.fst) = dk at *
      go_wp2_with fail
      have hset := (own_set HOW.out (j := k) (by omega) (.float .f64 dk)).1
      rw [HSE.out] at hset
      have hbel := (HBE.out.setCell (p := ⟨db, k, none⟩) (by show w.heap.size ≤ db; have := HDB.out; omega) (.float .f64 dk))
      refine ⟨⟨k + 1, by simp, by omega, hset.below (gAl _ _), hbel.alloc hbel.size _⟩, ?_⟩
      simp [RowKit.intOf]; omega
    · have hnk : ¬ (k : Int) < (n : Int) := by omega
      have hke : k = n := by omega
      rw [hke, fE_all, dF_all D n HL.out] at ho
      have HOW := Lib.hid ho
      have HBE := Lib.hid hbel
      clear hke hlt hk ho hbel
      go_wp2_with fail
      go_ret
      exact ⟨db, rfl, by rw [← HDB.out]; exact HOW.out, HBE.out⟩
/-- What Dists tells. -/
def DistsEnds (w : World) (G : Gr) (E : Int) (s lim : Nat) (e : Ending) (w' : World) : Prop :=
  (E ≠ 0 ∧ e = .returned (.tuple #[.slice none 0 0, .int .i64 E]) ∧ Below w.heap.size w w') ∨
  (E = 0 ∧ ∃ l v, e = .returned (.tuple #[v, .int .i64 0]) ∧ Own w' w.heap.size 26 1 v G.nodes.length (dRow l) ∧ DistsP G s lim l ∧ Below w.heap.size w w')
set_option maxHeartbeats 8000000 in
theorem pDists_any (G : Gr) (na : Option Addr) (nc : Nat) (la : Option Addr) (lc : Nat) (max : Nat) (fr : Int) (w : World) (hin : GrIn w G na la) (hm : max < 2 ^ 64) :
    Calls Try.prog 85 #[.agg #[.slice na G.nodes.length nc, .slice la G.links.length lc], .float .f64 max, .int .i64 fr] w fun e w' => DistsEnds w G (askE G max [fr]) (Nq.ahead G.nodes fr) (qn max) e w' := by
  obtain ⟨W1, hW1⟩ : ∃ W1, W1 = w.alloc (.cells #[.slice na G.nodes.length nc, .slice la G.links.length lc] 25) := ⟨_, rfl⟩
  have b1 : Below w.heap.size w W1 := by rw [hW1]; exact gAl _ _
  have r1 : W1.heap[w.heap.size]? = some (.cells #[.slice na G.nodes.length nc, .slice la G.links.length lc] 25 (0, 0)) := by rw [hW1]; exact heap_alloc_new w _
  obtain ⟨g0, g1, -, -⟩ := two_cells r1
  have HC := Lib.hid (stopsFrom_any G na nc la lc max fr W1 (hin.below b1) hm)
  have HB1 := Lib.hid b1
  have HNL : Hid (checkG G = 0 → G.nodes.length ≤ 256) := Lib.hid (fun h => (check_zero.1 h).1)
  obtain ⟨E, hEE⟩ : ∃ E, E = askE G max [fr] := ⟨_, rfl⟩
  have HEE := Lib.hid hEE
  have HZZ : Hid (E = 0 → checkG G = 0) := Lib.hid (fun h => (askE_zero (by rw [← hEE]; exact h)).2.1)
  rw [← hEE] at HC ⊢
  generalize Nq.ahead G.nodes fr = s at *
  generalize qn max = lim at *
  clear hin hm b1 r1 hEE HEE
  go_enter Try.func85, Try.ntmps85
  go_upto_region 1 with (fail)
  rw [← hW1]
  clear hW1
  go_wp2_with fail
  refine HC.out.mono ?_
  rintro e w2 (⟨hne, rfl, hb2⟩ | ⟨hE, D, sb, rfl, ho, hsp, hb2⟩)
  · have HNE := Lib.hid hne
    have HB2 := Lib.hid (gNx HB1.out hb2)
    have hz2 : (E != 0) = true := by simpa using hne
    clear hne hb2 g0 g1
    go_wp2_with fail
    refine bodyPost_ret (v := .tuple #[.slice none 0 0, .int .i64 E]) (by simp [results, Try.results85, go_sem]) rfl ?_
    exact Or.inl ⟨HNE.out, rfl, HB2.out⟩
  · subst hE
    have HB2 := Lib.hid (gNx HB1.out hb2)
    have HD := Lib.hid (distsOf_any G.nodes.length sb _ D w2 ho hsp.1 (HNL.out (HZZ.out rfl)))
    have HSP := Lib.hid hsp.dists
    clear ho hsp hb2 g0 g1
    go_wp2_with fail
    refine HD.out.mono ?_
    rintro e w3 ⟨g, rfl, ho3, hb3⟩
    have HO3 := Lib.hid ho3
    have HB3 := Lib.hid (gNx HB2.out hb3)
    have HLO := Lib.hid HB2.out.size
    clear ho3 hb3
    go_wp2_with fail
    refine bodyPost_ret (v := .tuple #[.slice (some ⟨g, 0, none⟩) G.nodes.length G.nodes.length, .int .i64 0]) (by simp [results, Try.results85, go_sem]) rfl ?_
    exact Or.inr ⟨rfl, dOf D, _, rfl, HO3.out.mono HLO.out, HSP.out, HB3.out⟩
/-- What Nexts tells. -/
def NextsEnds (w : World) (G : Gr) (E : Int) (s lim : Nat) (e : Ending) (w' : World) : Prop :=
  (E ≠ 0 ∧ e = .returned (.tuple #[.slice none 0 0, .int .i64 E]) ∧ Below w.heap.size w w') ∨
  (E = 0 ∧ ∃ D v, e = .returned (.tuple #[v, .int .i64 0]) ∧ Own w' w.heap.size 3 1 v G.nodes.length ((List.range G.nodes.length).map (nF D)) ∧ StopsP G s lim D ∧ Below w.heap.size w w')
set_option maxHeartbeats 8000000 in
theorem pNexts_any (G : Gr) (na : Option Addr) (nc : Nat) (la : Option Addr) (lc : Nat) (max : Nat) (fr : Int) (w : World) (hin : GrIn w G na la) (hm : max < 2 ^ 64) :
    Calls Try.prog 34 #[.agg #[.slice na G.nodes.length nc, .slice la G.links.length lc], .float .f64 max, .int .i64 fr] w fun e w' => NextsEnds w G (askE G max [fr]) (Nq.ahead G.nodes fr) (qn max) e w' := by
  have hst := g_storeL
  obtain ⟨W1, hW1⟩ : ∃ W1, W1 = w.alloc (.cells #[.slice na G.nodes.length nc, .slice la G.links.length lc] 25) := ⟨_, rfl⟩
  have b1 : Below w.heap.size w W1 := by rw [hW1]; exact gAl _ _
  have r1 : W1.heap[w.heap.size]? = some (.cells #[.slice na G.nodes.length nc, .slice la G.links.length lc] 25 (0, 0)) := by rw [hW1]; exact heap_alloc_new w _
  obtain ⟨g0, g1, -, -⟩ := two_cells r1
  have HC := Lib.hid (stopsFrom_any G na nc la lc max fr W1 (hin.below b1) hm)
  have HB1 := Lib.hid b1
  have HNL : Hid (checkG G = 0 → G.nodes.length ≤ 256) := Lib.hid (fun h => (check_zero.1 h).1)
  obtain ⟨E, hEE⟩ : ∃ E, E = askE G max [fr] := ⟨_, rfl⟩
  have HZZ : Hid (E = 0 → checkG G = 0) := Lib.hid (fun h => (askE_zero (by rw [← hEE]; exact h)).2.1)
  rw [← hEE] at HC ⊢
  generalize Nq.ahead G.nodes fr = s at *
  generalize qn max = lim at *
  clear hin hm b1 r1 hEE
  go_enter Try.func34, Try.ntmps34
  go_upto_region 1 with (fail)
  rw [← hW1]
  clear hW1
  go_wp2_with fail
  refine HC.out.mono ?_
  rintro e w2 (⟨hne, rfl, hb2⟩ | ⟨hE, D, sb, rfl, ho2, hsp, hb2⟩)
  · have HNE := Lib.hid hne
    have HB2 := Lib.hid (gNx HB1.out hb2)
    have hz2 : (E != 0) = true := by simpa using hne
    clear hne hb2 g0 g1
    go_wp2_with fail
    refine bodyPost_ret (v := .tuple #[.slice none 0 0, .int .i64 E]) (by simp [results, Try.results34, go_sem]) rfl ?_
    exact Or.inl ⟨HNE.out, rfl, HB2.out⟩
  · subst hE
    have hn := HNL.out (HZZ.out rfl)
    have HB2 := Lib.hid (gNx HB1.out hb2)
    have HN := Lib.hid hn
    have HL := Lib.hid hsp.1
    have HSP := Lib.hid hsp
    have hmk := make_ints (nF D) G.nodes.length (by omega)
    have HO := Lib.hid (fun V (hV : Below w2.heap.size w2 V) => ho2.below hV)
    have HFE := Lib.hid (own_fE w2 (nF D) (.int .i64 0) 3 G.nodes.length (by omega))
    generalize hnn : G.nodes.length = n at *
    clear ho2 hsp hb2 g0 g1 hn HZZ HNL
    go_upto_region 5 with (fail)
    obtain ⟨W3, hW3⟩ : ∃ W3, W3 = w2.alloc (.cells (fE (nF D) (.int .i64 0) n 0).toArray 3) := ⟨_, rfl⟩
    rw [← hW3]
    rw [← hW3] at HFE
    have HB3 : Hid (Below w2.heap.size w2 W3) := Lib.hid (by rw [hW3]; exact gAl _ _)
    obtain ⟨db, hdb⟩ : ∃ db, db = w2.heap.size := ⟨_, rfl⟩
    rw [← hdb] at HFE ⊢
    have HDB := Lib.hid hdb
    clear hW3 hmk hdb
    go_wp2_with fail
    go_loopw [28] (fun v wr => ∃ k : Nat, v = .int .i64 (k : Int) ∧ k ≤ n ∧ Own wr db 3 1 (.slice (some ⟨db, 0, none⟩) n n) n (fE (nF D) (.int .i64 0) n k) ∧ Below w2.heap.size w2 wr) (fun v _ => n - (RowKit.intOf v).toNat)
    case atStart => exact ⟨0, rfl, Nat.zero_le _, HFE.out, HB3.out⟩
    case round =>
      obtain ⟨k, rfl, hk, ho, hbel⟩ := hrel
      by_cases hlt : k < n
      · have hlti : (k : Int) < (n : Int) := by omega
        have hk0 : (0 : Int) ≤ (k : Int) := by omega
        have hkw : IntKind.i64.wrap ((k : Int) + 1) = (k : Int) + 1 := by rw [IntKind.wrap_i64]; have := HN.out; omega
        obtain ⟨c0, c1, c2⟩ := ar_cells (HO.out wr hbel) HL.out hlt
        obtain ⟨f0, f1⟩ := row1_cell ho hlt (fE_at _ _ n k hlt)
        have HOW := Lib.hid ho
        have HBE := Lib.hid hbel
        have HSE : Hid ((fE (nF D) (.int .i64 0) n k).set k (.int .i64 (fo (dd D k) : Int)) = fE (nF D) (.int .i64 0) n (k + 1)) := Lib.hid (fE_set (nF D) (.int .i64 0) n k hlt)
        have hdbs : db < wr.heap.size := (Array.getElem?_eq_some_iff.1 (own_set ho (by omega) (j := 0) (.int .i64 0)).2.2.choose_spec).1
        unfold dF at c1
        unfold nF at c2
        clear ho hbel
        generalize dw ((dd D k).map Prod.fst) = dk at *
        generalize fo (dd D k) = fk at *
        go_wp2_with fail
        have hset := (own_set HOW.out (j := k) (by omega) (.int .i64 (fk : Int))).1
        rw [HSE.out] at hset
        have hbel := (HBE.out.setCell (p := ⟨db, k, none⟩) (by show w2.heap.size ≤ db; have := HDB.out; omega) (.int .i64 (fk : Int)))
        refine ⟨⟨k + 1, by simp, by omega, hset.below (gAl _ _), hbel.alloc hbel.size _⟩, ?_⟩
        simp [RowKit.intOf]; omega
      · have hnk : ¬ (k : Int) < (n : Int) := by omega
        have hke : k = n := by omega
        rw [hke, fE_all] at ho
        have HOW := Lib.hid ho
        have HBE := Lib.hid hbel
        clear hke hlt hk ho hbel
        go_wp2_with fail
        refine bodyPost_ret (v := .tuple #[.slice (some ⟨db, 0, none⟩) n n, .int .i64 0]) (by simp [results, Try.results34, go_sem]) rfl ?_
        exact Or.inr ⟨rfl, D, _, rfl, by rw [hnn]; exact HOW.out.mono (by have := HDB.out; have := HB2.out.size; omega), HSP.out, gNx HB2.out HBE.out⟩
end Go.Proofs.Ytomcnaghdfhkkaa
