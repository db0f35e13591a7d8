/- Rows that a call owns: one element more at the end, and which blocks stay. Graphs: the document's linked, refused. -/
import Derived.Test.YtgjpgpjdealbeaaOwB
import Derived.Test.YtgjpgpjdealbeaaNhB
import Derived.Test.YtgjpgpjdealbeaaNhH
section
namespace Go.Ow
open Go.RowKit Go.Lib
set_option linter.unusedVariables false
set_option linter.unusedSimpArgs false

theorem own_append2 {P : Program} {w : World} {base k bytes n vb : Nat} {T TS : TypeId} {v : Value} {z : Value} {xs vs : List Value} (hu : P.underlying TS = some (.slice T)) (hinfo : (P.info? T).map (fun i => (i.zero, i.size, i.bytes)) = some (some z, k, bytes)) (hz : z.cells.size = k)
    (hown : Own w base T k v n xs) (hb : base ≤ w.heap.size) (hvb : w.heap[vb]? = some (.cells vs.toArray T (0, 0))) (hvl : vs.length = k) (h1v : ∀ v ∈ vs, v.oneCell' = true) (hfit : (n + 1) * bytes ≤ 140737488355328) (hn : n < 4611686018427387904) :
    ∃ v' w', (∀ ty, (Builtin.append_ #[TS, TS] ty #[v, .slice (some ⟨vb, 0, none⟩) 1 1]).run P w = .ok v' w') ∧ Own w' base T k v' (n + 1) (xs ++ vs) ∧ Wr base T w w' ∧ (∀ j, j < w.heap.size → (∀ n' c, v = .slice (some ⟨j, 0, none⟩) n' c → c = 0) → w'.heap[j]? = w.heap[j]?) := by
  have hxl := hown.len
  obtain ⟨i0, hi0, hz0, hzs, hzb⟩ := info_parts hinfo
  have hvr : ∀ j u, vs[j]? = some u → w.cell? ⟨vb, j, none⟩ = some u := fun j u hj => by rw [cell_of_row w vb j _ _ (0, 0) hvb]; simpa using hj
  have hsrc : Src P k TS (.slice (some ⟨vb, 0, none⟩) 1 1) 1 vs w := Src.ofSlice w hu ⟨vb, 0, none⟩ 1 1 vs (by rw [hvl, Nat.one_mul]) (fun j u hj => by rw [Addr.add_lit, Nat.zero_add]; exact hvr j u hj) h1v
  have hml : n + 1 ≤ maxLen := by unfold maxLen; omega
  have GROW : ∀ (a : Option Addr) (c : Nat), v = .slice a n c → c < n + 1 → (Builtin.firstCells i0.size n (.slice a n c)).run P w.drew = .ok xs.toArray w.drew → ∃ v' w', (∀ ty, (Builtin.append_ #[TS, TS] ty #[v, .slice (some ⟨vb, 0, none⟩) 1 1]).run P w = .ok v' w') ∧ Own w' base T k v' (n + 1) (xs ++ vs) ∧ Wr base T w w' ∧ (∀ j, j < w.heap.size → (∀ n' c, v = .slice (some ⟨j, 0, none⟩) n' c → c = 0) → w'.heap[j]? = w.heap[j]?) := fun a c hv hc hold => by
    subst hv
    exact ⟨_, _, fun ty => run_append_grow_src w TS TS ty T i0 _ hu hi0 hz0 a n c xs hold _ 1 vs (by rw [hzs]; exact hsrc) hc (by unfold maxLen at hml; omega) (by rw [hzb]; exact growslice_fits hc hfit),
      own_grown hb hxl hvl hz (grownCap_ge w _ _ _) (grownCap_le_maxLen w _ _ _ hml), Wr.alloc _, fun j hj _ => (((Below.refl w.heap.size w).drew).alloc (Nat.le_refl _) _).block j hj⟩
  rcases hown with ⟨rfl, rfl, a, rfl⟩ | ⟨g, cap, cur, rfl, hbg, hg, hnc, hcm, hcs, hx⟩
  · exact GROW a 0 rfl (by omega) (by
      rw [hzs]
      cases a with
      | none => exact run_firstCells_none w.drew k 0 0 0
      | some a => exact run_firstCells_some w.drew k 0 a 0 0 [] (by simp) (fun j v hj => by simp at hj))
  · by_cases hroom : n + 1 ≤ cap
    · have hnk : n * k + k ≤ cap * k := by rw [← Nat.succ_mul]; exact Nat.mul_le_mul_right _ hroom
      have hdr : xs.drop (n * k) = [] := List.drop_of_length_le (by omega)
      have htk : xs.take (n * k) = xs := List.take_of_length_le (by omega)
      have HS := own_shift (i := n) (w := w) (w1 := w) (w2 := w.setCells g (n * k) vs) hbg hg hcs hcm hx (Nat.le_refl n) hvl hroom (by rw [hdr]; rfl) rfl
      rw [htk, hdr, List.append_nil] at HS
      refine ⟨_, _, fun ty => ?_, HS.1, HS.2, fun j hj hne => setCells_other g _ _ _ j (fun e => by subst e; have := hne _ _ rfl; omega)⟩
      have h := run_append_room_src (P := P) w TS TS ty T i0 hu hi0 g 0 n cap (.slice (some ⟨vb, 0, none⟩) 1 1) 1 vs (by rw [hzs]; exact hsrc) hroom
        (fun j hj => by rw [hzs, cell_of_row w g _ cur _ (0, 0) hg, Array.getElem?_eq_getElem (by omega)]; rfl) (fun j _ => frozen_of_row w g _ cur _ hg)
      rw [hzs, Nat.zero_add] at h
      exact h
    · exact GROW _ cap rfl (by omega) (by
        rw [hzs]
        exact run_firstCells_some w.drew k n ⟨g, 0, none⟩ n cap xs hxl (fun j v hj => by
          rw [Addr.add_lit, Nat.zero_add]
          show w.cell? _ = _
          rw [cell_of_row w g j cur _ (0, 0) hg, ← Array.getElem?_toList]
          rw [← hx, List.getElem?_take] at hj
          split at hj
          · exact hj
          · cases hj))
theorem own_not {w : World} {base : Nat} {e : TypeId} {k n : Nat} {v : Value} {xs : List Value} (h : Own w base e k v n xs) (j : Nat) (hj : w.heap.size ≤ j) : ∀ n' c, v = .slice (some ⟨j, 0, none⟩) n' c → c = 0 := by
  intro n' c hv
  rcases h with ⟨rfl, rfl, a, rfl⟩ | ⟨g, cap, cur, rfl, hbg, hg, hnc, hcm, hcs, hx⟩
  · cases hv; rfl
  · cases hv
    have := (Array.getElem?_eq_some_iff.1 hg).1
    omega
end Go.Ow
namespace Go.Proofs.Ytgjpgpjdealbeaa
open Go.RowKit Go.Lib Go.Fq Go.Iq Go.Nq Go.Ow
theorem GrAt.addL2 {V : World} {base bg : Nat} {vn vl : Value} {G : Gr} (h : GrAt V base bg vn vl G) (x : Lk) {vb : Nat} (hvb : V.heap[vb]? = some (.cells (lkC x).toArray 54 (0, 0))) (hfit : (G.links.length + 1) * 32 ≤ 140737488355328) (hx : x.w < 2 ^ 64) :
    ∃ a c V', (∀ ty, (Builtin.append_ #[23, 23] ty #[vl, .slice (some ⟨vb, 0, none⟩) 1 1]).run Try.prog V = .ok (.slice a (G.links.length + 1) c) V') ∧ V'.heap[bg]? = some (.cells #[vn, vl] 25 (0, 0)) ∧
      GrAt (V'.setCell ⟨bg, 1, none⟩ (.slice a (G.links.length + 1) c)) base bg vn (.slice a (G.links.length + 1) c) { G with links := G.links ++ [x] } ∧ Below base V V' ∧ (∀ j, j < V.heap.size → (∀ n' c, vl = .slice (some ⟨j, 0, none⟩) n' c → c = 0) → V'.heap[j]? = V.heap[j]?) := by
  have hb : base ≤ V.heap.size := Nat.le_of_lt (Nat.lt_of_le_of_lt h.hb h.lt)
  obtain ⟨v', V', hrun, ho, hw, hk⟩ := own_append2 (P := Try.prog) Try.underlying23 lkInfo rfl h.links hb hvb rfl (lkC_one x) hfit (by omega)
  obtain ⟨a, c, rfl⟩ := ho.slice
  refine ⟨a, c, V', hrun, hw.kept h.gb (by decide), h.putL hw (by rw [lkRow_snoc', List.length_append]; exact ho) (fun y hy => by rcases List.mem_append.1 hy with e | e; exact h.wts y e; rw [List.mem_singleton] at e; rw [e]; exact hx), hw.below hb, hk⟩
end Go.Proofs.Ytgjpgpjdealbeaa
end

section
namespace Go.Proofs.Ytgjpgpjdealbeaa
open Go.RowKit Go.Lib Go.Fq Go.Iq Go.Nq Go.Ow
set_option linter.unusedVariables false
set_option linter.unusedSimpArgs false
set_option maxRecDepth 100000

set_option maxHeartbeats 8000000 in
theorem rLinked_no (G : Gr) (na : Option Addr) (nc : Nat) (la : Option Addr) (lc : Nat) (a b : Int) (q : Nat) (w : World) (hin : GrIn w G na la) (hG : checkG G = 0) (hq : q < 2 ^ 64) (hE : linkE G a b q ≠ 0) :
    Calls Try.prog 38 #[.agg #[.slice na G.nodes.length nc, .slice la G.links.length lc], .int .i64 a, .int .i64 b, .float .f64 q] w fun e w' => LiveEnds w (linkG G a b q) (linkE G a b q) e w' := by
  have hst := g_storeL
  obtain ⟨W1, hW1⟩ : ∃ W1, W1 = w.alloc (.cells #[.slice na G.nodes.length nc, .slice la G.links.length lc] 25) := ⟨_, rfl⟩
  obtain ⟨W2, hW2⟩ : ∃ W2, W2 = W1.alloc (.cells #[.slice none 0 0, .slice none 0 0] 25) := ⟨_, rfl⟩
  have b1 : Below w.heap.size w W1 := by rw [hW1]; exact gAl _ _
  have b2 : Below W1.heap.size W1 W2 := by rw [hW2]; exact gAl _ _
  have s1 : W1.heap.size = w.heap.size + 1 := by rw [hW1]; simp
  have s2 : W2.heap.size = W1.heap.size + 1 := by rw [hW2]; simp
  have r1 : W1.heap[w.heap.size]? = some (.cells #[.slice na G.nodes.length nc, .slice la G.links.length lc] 25 (0, 0)) := by rw [hW1]; exact heap_alloc_new w _
  have r2 : W2.heap[W1.heap.size]? = some (.cells #[.slice none 0 0, .slice none 0 0] 25 (0, 0)) := by rw [hW2]; exact heap_alloc_new W1 _
  have hb2 : Below w.heap.size w W2 := gNx b1 b2
  have q1 : W2.heap[w.heap.size]? = some (.cells #[.slice na G.nodes.length nc, .slice la G.links.length lc] 25 (0, 0)) := (b2.block _ (by omega)).trans r1
  obtain ⟨br, hbr⟩ : ∃ br, br = W1.heap.size := ⟨_, rfl⟩
  have HBR : Hid (br < W2.heap.size ∧ w.heap.size ≤ br ∧ br ≠ w.heap.size ∧ w.heap.size < W2.heap.size) := Lib.hid (by omega)
  have HKG : Hid (∀ V, Below W2.heap.size W2 V → V.cell? ⟨w.heap.size, 0, none⟩ = some (.slice na G.nodes.length nc) ∧ V.cell? ⟨w.heap.size, 1, none⟩ = some (.slice la G.links.length lc)) := Lib.hid (fun V hV => by
    have := (hV.block w.heap.size (by omega)).trans q1
    exact ⟨by rw [cell_of_row V _ 0 _ _ (0, 0) this]; rfl, by rw [cell_of_row V _ 1 _ _ (0, 0) this]; rfl⟩)
  have HRS : Hid (∀ V, Below W2.heap.size W2 V → V.heap[br]? = some (.cells #[.slice none 0 0, .slice none 0 0] 25 (0, 0))) := Lib.hid (fun V hV => by rw [hbr]; exact (hV.block _ (by omega)).trans r2)
  have HWB : Hid (∀ V, Below W2.heap.size W2 V → Below w.heap.size w V) := Lib.hid (fun V hV => gNx hb2 hV)
  have HN : Hid (∀ V, Below W2.heap.size W2 V → NodesIn V V.heap.size G.nodes na) := Lib.hid (fun V hV => hin.nodes.kept (fun i hi => (gNx hb2 hV).block i hi) (gNx hb2 hV).size)
  have HL : Hid (∀ V, Below W2.heap.size W2 V → LinksIn V V.heap.size G.links la) := Lib.hid (fun V hV => hin.links.kept (fun i hi => (gNx hb2 hV).block i hi) (gNx hb2 hV).size)
  have HG2 : Hid (∀ V, Below W2.heap.size W2 V → GrIn V G na la) := Lib.hid (fun V hV => hin.below (gNx hb2 hV))
  have HQ := Lib.hid hin.wts
  have HSZ : Hid (G.nodes.length * 16 ≤ 140737488351232 ∧ G.links.length * 32 ≤ 140737488351232) := Lib.hid ⟨hin.n1, hin.l1⟩
  obtain ⟨n1, n2, n3, n4⟩ := check_zero.1 hG
  have HNP := Lib.hid n3
  have HM1 := Lib.hid (links_iff.1 n4).2
  have HNL : Hid (G.nodes.length ≤ 256 ∧ G.links.length ≤ 4096) := Lib.hid ⟨n1, n2⟩
  clear hin b1 b2 r1 r2 q1 hb2 hG n1 n2 n3 n4
  have HQQ := Lib.hid hq
  clear hq
  cases hha : has G.nodes a with
  | false =>
    clear hE
    have hpa : placeV G.nodes a < 0 := (placeV_neg _ _).1.2 hha
    have HP : Hid (linkG G a b q = gr0 ∧ linkE G a b q = 70) := Lib.hid (by
      have e : linkE G a b q = 70 := by unfold linkE; rw [hha]; rfl
      exact ⟨linkG_no (by rw [e]; decide), e⟩)
    clear hha
    go_enter Try.func38, Try.ntmps38
    go_upto_region 1 with (fail)
    rw [← hW1, ← hW2, ← s1, ← hbr]
    obtain ⟨g0, g1⟩ := HKG.out W2 (Below.refl _ _)
    clear hW1 hW2 s1 s2 hbr
    go_wp2_with fail
    refine (rPlace_any G.nodes na nc la G.links.length lc a W2 (HN.out W2 (Below.refl _ _)) HNP.out (by have := HNL.out; omega)).mono ?_
    rintro e V1 ⟨rfl, hb⟩
    have B1 := Lib.hid (hb)
    clear hb g0 g1
    obtain ⟨g0, g1⟩ := HKG.out V1 B1.out
    have hres := HRS.out V1 B1.out
    obtain ⟨x0, x1, x2, x3⟩ := cells_two hres
    have HRES := Lib.hid hres
    clear hres
    go_wp2_with fail
    have hq1 := heap_setCell_same V1 br 0 _ _ (.slice none 0 0) HRES.out
    have hq2 := heap_setCell_same _ br 1 _ _ (.slice none 0 0) hq1
    refine bodyPost_ret (results_cell2 Try.results38 _ _ br 0 [.slice none 0 0, .slice none 0 0] _ rfl ?_ Try.underlying25 (by rfl) (by kernel_rfl)) rfl ?_
    · intro j v hj
      match j with
      | 0 => simp at hj; subst hj; rw [cell_of_row _ _ _ _ _ (0, 0) hq2]; rfl
      | 1 => simp at hj; subst hj; rw [cell_of_row _ _ _ _ _ (0, 0) hq2]; rfl
      | j + 2 => simp at hj
    · rw [HP.out.1, HP.out.2]
      exact ⟨_, _, rfl, ((grv_0 _ _).set HRES.out).set hq1, ((HWB.out V1 B1.out).setCell HBR.out.2.1 _).setCell HBR.out.2.1 _⟩
  | true =>
    have hpa : ¬ placeV G.nodes a < 0 := fun h => by rw [(placeV_neg _ _).1.1 h] at hha; cases hha
    cases hhb : has G.nodes b with
    | false =>
      clear hE
      have hpb : placeV G.nodes b < 0 := (placeV_neg _ _).1.2 hhb
      have HP : Hid (linkG G a b q = gr0 ∧ linkE G a b q = 70) := Lib.hid (by
        have e : linkE G a b q = 70 := by unfold linkE; rw [hha, hhb]; rfl
        exact ⟨linkG_no (by rw [e]; decide), e⟩)
      clear hha hhb
      go_enter Try.func38, Try.ntmps38
      go_upto_region 1 with (fail)
      rw [← hW1, ← hW2, ← s1, ← hbr]
      obtain ⟨g0, g1⟩ := HKG.out W2 (Below.refl _ _)
      clear hW1 hW2 s1 s2 hbr
      go_wp2_with fail
      refine (rPlace_any G.nodes na nc la G.links.length lc a W2 (HN.out W2 (Below.refl _ _)) HNP.out (by have := HNL.out; omega)).mono ?_
      rintro e V1 ⟨rfl, hb⟩
      have B1 := Lib.hid (hb)
      clear hb g0 g1
      obtain ⟨g0, g1⟩ := HKG.out V1 B1.out
      go_wp2_with fail
      refine (rPlace_any G.nodes na nc la G.links.length lc b V1 (HN.out V1 B1.out) HNP.out (by have := HNL.out; omega)).mono ?_
      rintro e V2 ⟨rfl, hb⟩
      have B2 := Lib.hid (gNx B1.out hb)
      clear hb g0 g1
      obtain ⟨g0, g1⟩ := HKG.out V2 B2.out
      have hres := HRS.out V2 B2.out
      obtain ⟨x0, x1, x2, x3⟩ := cells_two hres
      have HRES := Lib.hid hres
      clear hres
      go_wp2_with fail
      have hq1 := heap_setCell_same V2 br 0 _ _ (.slice none 0 0) HRES.out
      have hq2 := heap_setCell_same _ br 1 _ _ (.slice none 0 0) hq1
      refine bodyPost_ret (results_cell2 Try.results38 _ _ br 0 [.slice none 0 0, .slice none 0 0] _ rfl ?_ Try.underlying25 (by rfl) (by kernel_rfl)) rfl ?_
      · intro j v hj
        match j with
        | 0 => simp at hj; subst hj; rw [cell_of_row _ _ _ _ _ (0, 0) hq2]; rfl
        | 1 => simp at hj; subst hj; rw [cell_of_row _ _ _ _ _ (0, 0) hq2]; rfl
        | j + 2 => simp at hj
      · rw [HP.out.1, HP.out.2]
        exact ⟨_, _, rfl, ((grv_0 _ _).set HRES.out).set hq1, ((HWB.out V2 B2.out).setCell HBR.out.2.1 _).setCell HBR.out.2.1 _⟩
    | true =>
      have hpb : ¬ placeV G.nodes b < 0 := fun h => by rw [(placeV_neg _ _).1.1 h] at hhb; cases hhb
      by_cases hab : a = b
      · subst hab
        clear hE
        have hab : (a == a) = true := by simp
        have HP : Hid (linkG G a a q = gr0 ∧ linkE G a a q = 71) := Lib.hid (by
          have e : linkE G a a q = 71 := by unfold linkE; rw [hha]; simp
          exact ⟨linkG_no (by rw [e]; decide), e⟩)
        clear hha hhb
        go_enter Try.func38, Try.ntmps38
        go_upto_region 1 with (fail)
        rw [← hW1, ← hW2, ← s1, ← hbr]
        obtain ⟨g0, g1⟩ := HKG.out W2 (Below.refl _ _)
        clear hW1 hW2 s1 s2 hbr
        go_wp2_with fail
        refine (rPlace_any G.nodes na nc la G.links.length lc a W2 (HN.out W2 (Below.refl _ _)) HNP.out (by have := HNL.out; omega)).mono ?_
        rintro e V1 ⟨rfl, hb⟩
        have B1 := Lib.hid (hb)
        clear hb g0 g1
        obtain ⟨g0, g1⟩ := HKG.out V1 B1.out
        go_wp2_with fail
        refine (rPlace_any G.nodes na nc la G.links.length lc a V1 (HN.out V1 B1.out) HNP.out (by have := HNL.out; omega)).mono ?_
        rintro e V2 ⟨rfl, hb⟩
        have B2 := Lib.hid (gNx B1.out hb)
        clear hb g0 g1
        obtain ⟨g0, g1⟩ := HKG.out V2 B2.out
        have hres := HRS.out V2 B2.out
        obtain ⟨x0, x1, x2, x3⟩ := cells_two hres
        have HRES := Lib.hid hres
        clear hres
        go_wp2_with fail
        have hq1 := heap_setCell_same V2 br 0 _ _ (.slice none 0 0) HRES.out
        have hq2 := heap_setCell_same _ br 1 _ _ (.slice none 0 0) hq1
        refine bodyPost_ret (results_cell2 Try.results38 _ _ br 0 [.slice none 0 0, .slice none 0 0] _ rfl ?_ Try.underlying25 (by rfl) (by kernel_rfl)) rfl ?_
        · intro j v hj
          match j with
          | 0 => simp at hj; subst hj; rw [cell_of_row _ _ _ _ _ (0, 0) hq2]; rfl
          | 1 => simp at hj; subst hj; rw [cell_of_row _ _ _ _ _ (0, 0) hq2]; rfl
          | j + 2 => simp at hj
        · rw [HP.out.1, HP.out.2]
          exact ⟨_, _, rfl, ((grv_0 _ _).set HRES.out).set hq1, ((HWB.out V2 B2.out).setCell HBR.out.2.1 _).setCell HBR.out.2.1 _⟩
      · have hab2 : (a == b) = false := by simpa using hab
        cases hhl : hasL G.links a b with
        | true =>
          clear hE
          have hlv : (0 : Int) ≤ linkV G.links a b := (linkV_neg _ _ _).2.2 hhl
          have HP : Hid (linkG G a b q = gr0 ∧ linkE G a b q = 72) := Lib.hid (by
            have e : linkE G a b q = 72 := by unfold linkE; rw [hha, hhb, if_neg (by decide), if_neg hab, hhl]; rfl
            exact ⟨linkG_no (by rw [e]; decide), e⟩)
          clear hha hhb hhl hab
          go_enter Try.func38, Try.ntmps38
          go_upto_region 1 with (fail)
          rw [← hW1, ← hW2, ← s1, ← hbr]
          obtain ⟨g0, g1⟩ := HKG.out W2 (Below.refl _ _)
          clear hW1 hW2 s1 s2 hbr
          go_wp2_with fail
          refine (rPlace_any G.nodes na nc la G.links.length lc a W2 (HN.out W2 (Below.refl _ _)) HNP.out (by have := HNL.out; omega)).mono ?_
          rintro e V1 ⟨rfl, hb⟩
          have B1 := Lib.hid (hb)
          clear hb g0 g1
          obtain ⟨g0, g1⟩ := HKG.out V1 B1.out
          go_wp2_with fail
          refine (rPlace_any G.nodes na nc la G.links.length lc b V1 (HN.out V1 B1.out) HNP.out (by have := HNL.out; omega)).mono ?_
          rintro e V2 ⟨rfl, hb⟩
          have B2 := Lib.hid (gNx B1.out hb)
          clear hb g0 g1
          obtain ⟨g0, g1⟩ := HKG.out V2 B2.out
          go_wp2_with fail
          refine (rLink_any G.links la lc na G.nodes.length nc a b V2 (HL.out V2 B2.out) HM1.out (by have := HNL.out; omega)).mono ?_
          rintro e V3 ⟨rfl, hb⟩
          have B3 := Lib.hid (gNx B2.out hb)
          clear hb g0 g1
          obtain ⟨g0, g1⟩ := HKG.out V3 B3.out
          have hres := HRS.out V3 B3.out
          obtain ⟨x0, x1, x2, x3⟩ := cells_two hres
          have HRES := Lib.hid hres
          clear hres
          go_wp2_with fail
          have hq1 := heap_setCell_same V3 br 0 _ _ (.slice none 0 0) HRES.out
          have hq2 := heap_setCell_same _ br 1 _ _ (.slice none 0 0) hq1
          refine bodyPost_ret (results_cell2 Try.results38 _ _ br 0 [.slice none 0 0, .slice none 0 0] _ rfl ?_ Try.underlying25 (by rfl) (by kernel_rfl)) rfl ?_
          · intro j v hj
            match j with
            | 0 => simp at hj; subst hj; rw [cell_of_row _ _ _ _ _ (0, 0) hq2]; rfl
            | 1 => simp at hj; subst hj; rw [cell_of_row _ _ _ _ _ (0, 0) hq2]; rfl
            | j + 2 => simp at hj
          · rw [HP.out.1, HP.out.2]
            exact ⟨_, _, rfl, ((grv_0 _ _).set HRES.out).set hq1, ((HWB.out V3 B3.out).setCell HBR.out.2.1 _).setCell HBR.out.2.1 _⟩
        | false =>
          have hlv : ¬ (0 : Int) ≤ linkV G.links a b := fun h => by rw [(linkV_neg _ _ _).2.1 h] at hhl; cases hhl
          by_cases hw0 : weightF q = 0
          · have hfull : G.links.length = 4096 := by
              have := HNL.out.2
              unfold linkE at hE
              rw [hha, hhb, if_neg (by decide), if_neg hab, hhl, if_neg (by decide), if_neg (by simpa using hw0)] at hE
              by_cases hx : 4096 ≤ G.links.length
              · omega
              · rw [if_neg hx] at hE; exact absurd rfl hE
            have HWZ := Lib.hid hw0
            have hfi : ((G.links.length : Int) == 4096) = true := by simp; omega
            have HP : Hid (linkG G a b q = gr0 ∧ linkE G a b q = 2) := Lib.hid (by
              have e : linkE G a b q = 2 := by unfold linkE; rw [hha, hhb, if_neg (by decide), if_neg hab, hhl, if_neg (by decide), if_neg (by simpa using hw0), if_pos (by omega)]
              exact ⟨linkG_no (by rw [e]; decide), e⟩)
            clear hha hhb hhl hab hw0 hE hfull
            go_enter Try.func38, Try.ntmps38
            go_upto_region 1 with (fail)
            rw [← hW1, ← hW2, ← s1, ← hbr]
            obtain ⟨g0, g1⟩ := HKG.out W2 (Below.refl _ _)
            clear hW1 hW2 s1 s2 hbr
            go_wp2_with fail
            refine (rPlace_any G.nodes na nc la G.links.length lc a W2 (HN.out W2 (Below.refl _ _)) HNP.out (by have := HNL.out; omega)).mono ?_
            rintro e V1 ⟨rfl, hb⟩
            have B1 := Lib.hid (hb)
            clear hb g0 g1
            obtain ⟨g0, g1⟩ := HKG.out V1 B1.out
            go_wp2_with fail
            refine (rPlace_any G.nodes na nc la G.links.length lc b V1 (HN.out V1 B1.out) HNP.out (by have := HNL.out; omega)).mono ?_
            rintro e V2 ⟨rfl, hb⟩
            have B2 := Lib.hid (gNx B1.out hb)
            clear hb g0 g1
            obtain ⟨g0, g1⟩ := HKG.out V2 B2.out
            go_wp2_with fail
            refine (rLink_any G.links la lc na G.nodes.length nc a b V2 (HL.out V2 B2.out) HM1.out (by have := HNL.out; omega)).mono ?_
            rintro e V3 ⟨rfl, hb⟩
            have B3 := Lib.hid (gNx B2.out hb)
            clear hb g0 g1
            obtain ⟨g0, g1⟩ := HKG.out V3 B3.out
            go_wp2_with fail
            refine (refweight_any _ _ HQQ.out).mono ?_
            rintro e w2 ⟨rfl, rfl⟩
            rw [HWZ.out]
            have hres := HRS.out V3 B3.out
            obtain ⟨x0, x1, x2, x3⟩ := cells_two hres
            have HRES := Lib.hid hres
            clear hres
            go_wp2_with fail
            have hq1 := heap_setCell_same V3 br 0 _ _ (.slice none 0 0) HRES.out
            have hq2 := heap_setCell_same _ br 1 _ _ (.slice none 0 0) hq1
            refine bodyPost_ret (results_cell2 Try.results38 _ _ br 0 [.slice none 0 0, .slice none 0 0] _ rfl ?_ Try.underlying25 (by rfl) (by kernel_rfl)) rfl ?_
            · intro j v hj
              match j with
              | 0 => simp at hj; subst hj; rw [cell_of_row _ _ _ _ _ (0, 0) hq2]; rfl
              | 1 => simp at hj; subst hj; rw [cell_of_row _ _ _ _ _ (0, 0) hq2]; rfl
              | j + 2 => simp at hj
            · rw [HP.out.1, HP.out.2]
              exact ⟨_, _, rfl, ((grv_0 _ _).set HRES.out).set hq1, ((HWB.out V3 B3.out).setCell HBR.out.2.1 _).setCell HBR.out.2.1 _⟩
          · have HP : Hid (linkG G a b q = gr0 ∧ linkE G a b q = weightF q) := Lib.hid (by
              have e : linkE G a b q = weightF q := by unfold linkE; rw [hha, hhb, if_neg (by decide), if_neg hab, hhl, if_neg (by decide), if_pos (by simpa using hw0)]
              exact ⟨linkG_no (by rw [e]; exact hw0), e⟩)
            clear hha hhb hhl hab hE
            go_enter Try.func38, Try.ntmps38
            go_upto_region 1 with (fail)
            rw [← hW1, ← hW2, ← s1, ← hbr]
            obtain ⟨g0, g1⟩ := HKG.out W2 (Below.refl _ _)
            clear hW1 hW2 s1 s2 hbr
            go_wp2_with fail
            refine (rPlace_any G.nodes na nc la G.links.length lc a W2 (HN.out W2 (Below.refl _ _)) HNP.out (by have := HNL.out; omega)).mono ?_
            rintro e V1 ⟨rfl, hb⟩
            have B1 := Lib.hid (hb)
            clear hb g0 g1
            obtain ⟨g0, g1⟩ := HKG.out V1 B1.out
            go_wp2_with fail
            refine (rPlace_any G.nodes na nc la G.links.length lc b V1 (HN.out V1 B1.out) HNP.out (by have := HNL.out; omega)).mono ?_
            rintro e V2 ⟨rfl, hb⟩
            have B2 := Lib.hid (gNx B1.out hb)
            clear hb g0 g1
            obtain ⟨g0, g1⟩ := HKG.out V2 B2.out
            go_wp2_with fail
            refine (rLink_any G.links la lc na G.nodes.length nc a b V2 (HL.out V2 B2.out) HM1.out (by have := HNL.out; omega)).mono ?_
            rintro e V3 ⟨rfl, hb⟩
            have B3 := Lib.hid (gNx B2.out hb)
            clear hb g0 g1
            obtain ⟨g0, g1⟩ := HKG.out V3 B3.out
            go_wp2_with fail
            refine (refweight_any _ _ HQQ.out).mono ?_
            rintro e w2 ⟨rfl, rfl⟩
            obtain ⟨ce, hce⟩ : ∃ ce, ce = weightF q := ⟨_, rfl⟩
            rw [← hce] at hw0 ⊢
            have hz2 : (ce != 0) = true := by simpa using hw0
            have HCE := Lib.hid hce
            clear hw0 hce
            have hres := HRS.out V3 B3.out
            obtain ⟨x0, x1, x2, x3⟩ := cells_two hres
            have HRES := Lib.hid hres
            clear hres
            go_wp2_with fail
            have hq1 := heap_setCell_same V3 br 0 _ _ (.slice none 0 0) HRES.out
            have hq2 := heap_setCell_same _ br 1 _ _ (.slice none 0 0) hq1
            refine bodyPost_ret (results_cell2 Try.results38 _ _ br 0 [.slice none 0 0, .slice none 0 0] _ rfl ?_ Try.underlying25 (by rfl) (by kernel_rfl)) rfl ?_
            · intro j v hj
              match j with
              | 0 => simp at hj; subst hj; rw [cell_of_row _ _ _ _ _ (0, 0) hq2]; rfl
              | 1 => simp at hj; subst hj; rw [cell_of_row _ _ _ _ _ (0, 0) hq2]; rfl
              | j + 2 => simp at hj
            · rw [HP.out.1, HP.out.2, ← HCE.out]
              exact ⟨_, _, rfl, ((grv_0 _ _).set HRES.out).set hq1, ((HWB.out V3 B3.out).setCell HBR.out.2.1 _).setCell HBR.out.2.1 _⟩
end Go.Proofs.Ytgjpgpjdealbeaa
end
