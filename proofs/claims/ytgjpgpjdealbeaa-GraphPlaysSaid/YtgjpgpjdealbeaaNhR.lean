/- Graphs: the document's Play, the law of plays. -/
import Derived.Test.YtgjpgpjdealbeaaNhP
namespace Go.Proofs.Ytgjpgpjdealbeaa
open Go.RowKit Go.Lib Go.Fq Go.Iq Go.Nq Go.Ow
set_option linter.unusedVariables false
set_option linter.unusedSimpArgs false
set_option maxRecDepth 100000

/-- The cells of changes. -/
def chC (n : Ch) : List Value := [.int .i64 n.kind, .int .i64 n.a, .int .i64 n.b, .float .f64 n.w]
def chRow (l : List Ch) : List Value := l.flatMap chC
theorem chRow_len (l : List Ch) : (chRow l).length = l.length * 4 := by
  induction l with
  | nil => rfl
  | cons n r ih => simp only [chRow, List.flatMap_cons, List.length_append, List.length_cons] at *; rw [ih]; simp [chC]; omega
theorem chRow_drop : ∀ (l : List Ch) (i : Nat), chRow (l.drop i) = (chRow l).drop (i * 4)
  | [], i => by simp [chRow]
  | n :: r, 0 => by simp [chRow]
  | n :: r, i + 1 => by
    have ih := chRow_drop r i
    simp only [chRow, List.drop_succ_cons, List.flatMap_cons] at *
    rw [ih, show (i + 1) * 4 = i * 4 + 4 by omega, List.drop_append, show (chC n).length = 4 by simp [chC], List.drop_of_length_le (l := chC n) (by simp [chC]), Nat.add_sub_cancel, List.nil_append]
theorem chRow_one (l : List Ch) : ∀ v ∈ chRow l, v.oneCell' = true := by
  intro v hv
  obtain ⟨n, -, h⟩ := List.mem_flatMap.1 hv
  simp only [chC, List.mem_cons, List.not_mem_nil, or_false] at h
  rcases h with rfl | rfl | rfl | rfl <;> rfl
theorem chInfo : (Try.prog.info? 33).map (fun i => (i.zero, i.size, i.bytes)) = some (some (.agg #[.int .i64 0, .int .i64 0, .int .i64 0, .float .f64 0]), 4, 32) := by kernel_rfl
theorem chRow_get (l : List Ch) (k : Nat) (hk : k < l.length) : (chRow l)[k * 4]? = some (.int .i64 l[k].kind) ∧ (chRow l)[k * 4 + 1]? = some (.int .i64 l[k].a) ∧ (chRow l)[k * 4 + 2]? = some (.int .i64 l[k].b) ∧ (chRow l)[k * 4 + 3]? = some (.float .f64 l[k].w) := by
  have hd : (chRow l).drop (k * 4) = chC l[k] ++ chRow (l.drop (k + 1)) := by
    rw [← chRow_drop, List.drop_eq_getElem_cons hk]; rfl
  have h0 : ∀ j, (chRow l)[k * 4 + j]? = (chC l[k] ++ chRow (l.drop (k + 1)))[j]? := fun j => by rw [← hd, List.getElem?_drop]
  exact ⟨(h0 0).trans rfl, (h0 1).trans rfl, (h0 2).trans rfl, (h0 3).trans rfl⟩
theorem ownC_in {w : World} {base : Nat} {v : Value} {l : List Ch} (h : Own w base 33 4 v l.length (chRow l)) : ∃ a c, v = .slice a l.length c ∧ ChsIn w w.heap.size l a := by
  by_cases hn : 0 < l.length
  · obtain ⟨g, cap, rfl, hg, hbg, hr, ht⟩ := h.range hn
    refine ⟨_, cap, rfl, Or.inr ⟨g, 0, rfl, hg, fun k hk => ?_⟩⟩
    obtain ⟨a0, a1, a2, a3⟩ := chRow_get l k hk
    exact ⟨by simpa using hr _ _ a0, by simpa [Nat.add_assoc] using hr _ _ a1, by simpa [Nat.add_assoc] using hr _ _ a2, by simpa [Nat.add_assoc] using hr _ _ a3⟩
  · obtain ⟨a, c, rfl⟩ := h.slice
    exact ⟨a, c, rfl, Or.inl (List.length_eq_zero_iff.1 (by omega))⟩
theorem chRow_reads (l : List Ch) (a : Option Addr) (w : World) (B : Nat) (h : ChsIn w B l a) : l.length = 0 ∨ ∃ b o, a = some ⟨b, o, none⟩ ∧ ∀ j u, (chRow l)[j]? = some u → w.cell? ⟨b, o + j, none⟩ = some u := by
  rcases h with h | ⟨b, o, ha, hb, hc⟩
  · exact Or.inl (by rw [h]; rfl)
  · refine Or.inr ⟨b, o, ha, fun j u hj => ?_⟩
    have hlen := chRow_len l
    have hj2 : j < (chRow l).length := (List.getElem?_eq_some_iff.1 hj).1
    have hk : j / 4 < l.length := by omega
    obtain ⟨g0, g1, g2, g3⟩ := chRow_get l (j / 4) hk
    obtain ⟨c0, c1, c2, c3⟩ := hc (j / 4) hk
    have hm : j = j / 4 * 4 + 0 ∨ j = j / 4 * 4 + 1 ∨ j = j / 4 * 4 + 2 ∨ j = j / 4 * 4 + 3 := by omega
    rcases hm with e | e | e | e
    · rw [e] at hj ⊢; (try simp only [Nat.add_zero] at hj ⊢); rw [g0] at hj; cases hj; simpa [Nat.add_assoc] using c0
    · rw [e] at hj ⊢; (try simp only [Nat.add_zero] at hj ⊢); rw [g1] at hj; cases hj; simpa [Nat.add_assoc] using c1
    · rw [e] at hj ⊢; (try simp only [Nat.add_zero] at hj ⊢); rw [g2] at hj; cases hj; simpa [Nat.add_assoc] using c2
    · rw [e] at hj ⊢; (try simp only [Nat.add_zero] at hj ⊢); rw [g3] at hj; cases hj; simpa [Nat.add_assoc] using c3
set_option maxHeartbeats 8000000 in
theorem rPlay_any (l : List Ch) (a : Option Addr) (c : Nat) (w : World) (hin : ChsIn w w.heap.size l a) (hq : ∀ x ∈ l, x.w < 2 ^ 64) (hn : l.length < 4611686018427387904) :
    Calls Try.prog 18 #[.slice a l.length c] w fun e w' => PlayEnds w (playA l) e w' := by
  have hst := g_storeL
  obtain ⟨W1, hW1⟩ : ∃ W1, W1 = w.alloc (.cells #[.slice none 0 0, .slice none 0 0] 25) := ⟨_, rfl⟩
  obtain ⟨W2, hW2⟩ : ∃ W2, W2 = W1.alloc (.cells #[.slice none 0 0, .slice none 0 0] 25) := ⟨_, rfl⟩
  have b1 : Below w.heap.size w W1 := by rw [hW1]; exact gAl _ _
  have b2 : Below W1.heap.size W1 W2 := by rw [hW2]; exact gAl _ _
  have s1 : W1.heap.size = w.heap.size + 1 := by rw [hW1]; simp
  have r1 : W1.heap[w.heap.size]? = some (.cells #[.slice none 0 0, .slice none 0 0] 25 (0, 0)) := by rw [hW1]; exact heap_alloc_new w _
  have r2 : W2.heap[W1.heap.size]? = some (.cells #[.slice none 0 0, .slice none 0 0] 25 (0, 0)) := by rw [hW2]; exact heap_alloc_new W1 _
  obtain ⟨br, hbr⟩ : ∃ br, br = w.heap.size := ⟨_, rfl⟩
  obtain ⟨bg, hbg⟩ : ∃ bg, bg = W1.heap.size := ⟨_, rfl⟩
  have HB2 := Lib.hid (gNx b1 b2)
  have HBG : Hid (w.heap.size ≤ bg) := Lib.hid (by omega)
  have HBW : Hid (w.heap.size ≤ br) := Lib.hid (by omega)
  have HNE : Hid (br ≠ bg) := Lib.hid (by omega)
  have HR1 : Hid (W2.heap[br]? = some (.cells #[.slice none 0 0, .slice none 0 0] 25 (0, 0))) := Lib.hid (by rw [hbr]; exact (b2.block _ (by omega)).trans r1)
  have HGA : Hid (GrAt W2 w.heap.size bg (.slice none 0 0) (.slice none 0 0) gr0) := Lib.hid ⟨HBG.out, by rw [hbg]; exact r2, (grv_0 _ _).nodes, (grv_0 _ _).links, (grv_0 W2 0).wts⟩
  have HIV : Hid (∀ V, Below w.heap.size w V → ChsIn V V.heap.size l a) := Lib.hid (fun V hV => hin.kept (fun i hi => hV.block i hi) hV.size)
  have HQ := Lib.hid hq
  have HN := Lib.hid hn
  clear hin hq hn b1 b2 r1 r2
  by_cases hmany : 65536 < l.length
  · have hmi : (65536 : Int) < (l.length : Int) := by omega
    have HP := Lib.hid (playA_many hmany)
    rw [HP.out]
    clear hmany HP
    go_enter Try.func18, Try.ntmps18
    go_upto_region 2 with (fail)
    rw [← hW1, ← hW2, ← s1, ← hbg, ← hbr]
    clear hW1 hW2 hbr hbg s1
    obtain ⟨d0, d1, -, -⟩ := HGA.out.cells
    obtain ⟨x0, x1, x2, x3⟩ := cells_two HR1.out
    have HRES := HR1
    go_wp2_with fail
    have hq1 := heap_setCell_same W2 br 0 _ _ (.slice none 0 0) HRES.out
    have hq2 := heap_setCell_same _ br 1 _ _ (.slice none 0 0) hq1
    refine bodyPost_ret (results_cell3 Try.results18 _ _ br 0 [.slice none 0 0, .slice none 0 0] _ rfl ?_ Try.underlying25 (by rfl) (by kernel_rfl)) rfl ?_
    · intro j v hj
      match j with
      | 0 => simp at hj; subst hj; rw [cell_of_row _ _ _ _ _ (0, 0) hq2]; rfl
      | 1 => simp at hj; subst hj; rw [cell_of_row _ _ _ _ _ (0, 0) hq2]; rfl
      | j + 2 => simp at hj
    · exact ⟨_, _, rfl, ((HGA.out.v.set HRES.out).set hq1), (HB2.out.setCell HBW.out _).setCell HBW.out _⟩
  · have hmi : ¬ (65536 : Int) < (l.length : Int) := by omega
    have HP := Lib.hid (playA_few hmany)
    rw [HP.out]
    clear hmany HP
    go_enter Try.func18, Try.ntmps18
    go_upto_region 2 with (fail)
    rw [← hW1, ← hW2, ← s1, ← hbg, ← hbr]
    clear hW1 hW2 hbr hbg s1
    go_wp2_with fail
    go_loopw [6] (fun v wr => ∃ (k : Nat) (vn vl : Value) (G : Gr), v = .int .i64 (k : Int) ∧ k ≤ l.length ∧ GrAt wr w.heap.size bg vn vl G ∧ wr.heap[br]? = some (.cells #[.slice none 0 0, .slice none 0 0] 25 (0, 0)) ∧ Below w.heap.size w wr ∧ checkG G = 0 ∧ playG gr0 0 l = playG G k (l.drop k)) (fun v _ => l.length - (RowKit.intOf v).toNat)
    case atStart => exact ⟨0, _, _, _, rfl, by omega, HGA.out, HR1.out, HB2.out, check_gr0, rfl⟩
    case round =>
      obtain ⟨k, vn, vl, G, rfl, hk, hga, hrs, hbel, hcg, hpl⟩ := hrel
      have HB := Lib.hid hbel
      have HCG := Lib.hid hcg
      have HPL := Lib.hid hpl
      have HWR := Lib.hid hbel.size
      clear hcg hpl
      obtain ⟨an, nc, rfl⟩ := hga.nodes.slice
      obtain ⟨al, lc, rfl⟩ := hga.links.slice
      by_cases hlt : k < l.length
      · have hlti : (k : Int) < (l.length : Int) := by omega
        have hk0 : (0 : Int) ≤ (k : Int) := by omega
        have hkw : IntKind.i64.wrap ((k : Int) + 1) = (k : Int) + 1 := by rw [IntKind.wrap_i64]; have := HN.out; omega
        obtain ⟨b, o, rfl, hb, hc⟩ := (HIV.out wr hbel).at k hlt
        have hck := hc k hlt
        have HCHW : Hid (∀ V, Below wr.heap.size wr V → ChAt V b (o + k * 4) l[k]) := Lib.hid (fun V hV => hck.kept (hV.block b hb))
        have HQK := Lib.hid (HQ.out _ (List.getElem_mem hlt))
        have hST := play_stop hlt G
        have hGO := play_go hlt G
        have HGAW : Hid (∀ V, Below wr.heap.size wr V → GrAt V w.heap.size bg (.slice an G.nodes.length nc) (.slice al G.links.length lc) G) := Lib.hid (fun V hV => hga.below hV)
        have HRSW : Hid (∀ V, Below wr.heap.size wr V → V.heap[br]? = some (.cells #[.slice none 0 0, .slice none 0 0] 25 (0, 0))) := Lib.hid (fun V hV => (hV.block _ (Array.getElem?_eq_some_iff.1 hrs).1).trans hrs)
        have hcz := check_zero.1 HCG.out
        have HGI : Hid (∀ V, Below wr.heap.size wr V → GrIn V G an al) := Lib.hid (fun V hV => GrAt.gin (hga.below hV) (by omega) (by omega))
        clear hc hck hga hbel hrs hcz hb
        generalize l[k] = ch at *
        obtain ⟨XG, hXG⟩ : ∃ X, X = applyG G ⟨ch.kind, ch.a, ch.b, ch.w⟩ := ⟨_, rfl⟩
        obtain ⟨ce, hce⟩ : ∃ ce, ce = applyE G ⟨ch.kind, ch.a, ch.b, ch.w⟩ := ⟨_, rfl⟩
        have he : (⟨ch.kind, ch.a, ch.b, ch.w⟩ : Ch) = ch := rfl
        have hcc : ce = changeE G ch := by rw [hce, he]; exact applyE_ok HCG.out ch
        have HXL : Hid (XG.nodes.length * 16 ≤ 140737488351232 ∧ XG.links.length * 32 ≤ 140737488351232) := Lib.hid (by rw [hXG]; have := apply_len G ⟨ch.kind, ch.a, ch.b, ch.w⟩; omega)
        have HST : Hid (ce ≠ 0 → playG G k (l.drop k) = (G, k, ce)) := Lib.hid (fun h => by rw [hcc] at h ⊢; exact hST h)
        have HGO : Hid (ce = 0 → playG G k (l.drop k) = playG XG (k + 1) (l.drop (k + 1))) := Lib.hid (fun h => by
          have e2 : XG = changeG G ch := by rw [hXG, he]; exact applyG_ok (by rw [← he, ← hce]; exact h)
          rw [e2]; exact hGO (by rw [← hcc]; exact h))
        have HKP : Hid (ce = 0 → checkG XG = 0) := Lib.hid (fun h => by rw [hXG]; exact apply_keeps _ _)
        have HXG := Lib.hid hXG
        have HCE := Lib.hid hce
        clear hST hGO hXG hce he hcc
        go_upto_region 7 with (fail)
        refine wp_region_held_drew (S := fun V => Below wr.heap.size wr V) (by kernel_rfl) (Below.drew (Below.refl _ _)) (fun hH => ?_)
        have BC : Hid (Below wr.heap.size wr wr.drew) := Lib.hid (Below.drew (Below.refl _ _))
        obtain ⟨VC, hVC⟩ : ∃ VC, VC = wr.drew := ⟨_, rfl⟩
        rw [← hVC] at hH BC ⊢
        clear hVC
        refine tk 0 (by assumption) rfl (by kernel_rfl) (fun _ _ _ h => h) (fun V hV => by obtain ⟨g0, g1, -, -⟩ := (HGAW.out V hV).cells; obtain ⟨c0, c1, c2, c3⟩ := HCHW.out V hV; go_simp; try with_reducible rfl) ?_
        try simp only [Act.put, List.setIfInBounds_toArray, List.set_cons_zero, List.set_cons_succ, List.getElem_toArray, List.getElem_cons_succ, List.getElem_cons_zero]
        refine tk 1 (by assumption) rfl (by kernel_rfl) (fun _ _ _ h => h) (fun V hV => by go_simp; try with_reducible rfl) ?_
        try simp only [Act.put, List.setIfInBounds_toArray, List.set_cons_zero, List.set_cons_succ, List.getElem_toArray, List.getElem_cons_succ, List.getElem_cons_zero]
        refine tk 2 (by assumption) rfl (by kernel_rfl) (fun _ _ _ h => h) (fun V hV => by go_simp; try with_reducible rfl) ?_
        try simp only [Act.put, List.setIfInBounds_toArray, List.set_cons_zero, List.set_cons_succ, List.getElem_toArray, List.getElem_cons_succ, List.getElem_cons_zero]
        refine tk 3 (by assumption) rfl (by kernel_rfl) (fun _ _ _ h => h) (fun V hV => by go_simp; try with_reducible rfl) ?_
        try simp only [Act.put, List.setIfInBounds_toArray, List.set_cons_zero, List.set_cons_succ, List.getElem_toArray, List.getElem_cons_succ, List.getElem_cons_zero]
        refine tk 4 (by assumption) rfl (by kernel_rfl) (fun _ _ _ h => h) (fun V hV => by obtain ⟨g0, g1, -, -⟩ := (HGAW.out V hV).cells; obtain ⟨c0, c1, c2, c3⟩ := HCHW.out V hV; go_simp; try with_reducible rfl) ?_
        try simp only [Act.put, List.setIfInBounds_toArray, List.set_cons_zero, List.set_cons_succ, List.getElem_toArray, List.getElem_cons_succ, List.getElem_cons_zero]
        refine wpAnyH_ready (rs := [5, 9]) (by kernel_rfl) (by simp) ?_
        refine AllReadyH.cons (o := _) rfl (fun K hK => ?_) (AllReadyH.cons (o := _) rfl (fun K hK => ?_) (AllReadyH.nil))
        · go_simp
          refine (rApply_any G an nc al lc ch.kind ch.a ch.b ch.w _ (HGI.out _ BC.out) HQK.out).mono ?_
          rintro e VC ⟨vn, vl, rfl, hv, hb⟩
          rw [← HXG.out] at hv
          obtain ⟨na2, nc2, la2, lc2, rfl, rfl, hin2⟩ := hv.gin HXL.out.1 HXL.out.2
          try have HGB := Lib.hid ((hb.block _ (Array.getElem?_eq_some_iff.1 HGB.out).1).trans HGB.out)
          have HXV := Lib.hid (hv.mono (Nat.le_trans HWR.out BC.out.size))
          have BC := Lib.hid (gNx BC.out hb)
          clear hv hb hin2
          rw [← HCE.out]
          go_wp2_with fail
          refine hK.out _ _ BC.out (fun hH => ?_)
          clear hK K
          try simp only [Act.put, List.setIfInBounds_toArray, List.set_cons_zero, List.set_cons_succ, List.getElem_toArray, List.getElem_cons_succ, List.getElem_cons_zero]
          refine tk 6 (by assumption) rfl (by kernel_rfl) (fun _ _ _ h => h) (fun V hV => by go_simp; try with_reducible rfl) ?_
          try simp only [Act.put, List.setIfInBounds_toArray, List.set_cons_zero, List.set_cons_succ, List.getElem_toArray, List.getElem_cons_succ, List.getElem_cons_zero]
          refine tk 7 (by assumption) rfl (by kernel_rfl) (fun _ _ _ h => h) (fun V hV => by go_simp; try with_reducible rfl) ?_
          try simp only [Act.put, List.setIfInBounds_toArray, List.set_cons_zero, List.set_cons_succ, List.getElem_toArray, List.getElem_cons_succ, List.getElem_cons_zero]
          refine tk 8 (by assumption) rfl (by kernel_rfl) (fun _ _ _ h => h) (fun V hV => by go_simp; try with_reducible rfl) ?_
          try simp only [Act.put, List.setIfInBounds_toArray, List.set_cons_zero, List.set_cons_succ, List.getElem_toArray, List.getElem_cons_succ, List.getElem_cons_zero]
          refine wpAnyH_ready (rs := [9]) (by kernel_rfl) (by simp) ?_
          refine AllReadyH.cons (o := _) rfl (fun K hK => ?_) AllReadyH.nil
          go_simp
          obtain ⟨VD, hVD⟩ : ∃ VD, VD = VC.alloc (.cells #[.slice none 0 0, .slice none 0 0] 25) := ⟨_, rfl⟩
          rw [← hVD]
          obtain ⟨bn, hbn⟩ : ∃ bn, bn = VC.heap.size := ⟨_, rfl⟩
          rw [← hbn]
          have hb : Below VC.heap.size VC VD := by rw [hVD]; exact gAl _ _
          try have HXV := Lib.hid (HXV.out.below hb)
          have HGB : Hid (VD.heap[bn]? = some (.cells #[.slice none 0 0, .slice none 0 0] 25 (0, 0))) := Lib.hid (by rw [hVD, hbn]; exact heap_alloc_new VC _)
          have HBB : Hid (wr.heap.size ≤ bn) := Lib.hid (by rw [hbn]; exact BC.out.size)
          have BC := Lib.hid (gNx BC.out hb)
          clear hb hVD hbn
          rename World => VC
          refine hK.out _ _ BC.out (fun hH => ?_)
          clear hK K
          try simp only [Act.put, List.setIfInBounds_toArray, List.set_cons_zero, List.set_cons_succ, List.getElem_toArray, List.getElem_cons_succ, List.getElem_cons_zero]
          refine wpAnyH_ready (rs := [10]) (by kernel_rfl) (by simp) ?_
          refine AllReadyH.cons (o := _) rfl (fun K hK => ?_) AllReadyH.nil
          obtain ⟨d0, d1, d2, d3⟩ := cells_two HGB.out
          go_simp
          obtain ⟨VE, hVE⟩ : ∃ VE, VE = (VC.setCell ⟨bn, 0, none⟩ (.slice na2 XG.nodes.length nc2)).setCell ⟨bn, 1, none⟩ (.slice la2 XG.links.length lc2) := ⟨_, rfl⟩
          rw [← hVE]
          have BE : Hid (Below wr.heap.size wr VE) := Lib.hid (by rw [hVE]; exact (BC.out.setCell HBB.out _).setCell HBB.out _)
          have HXE : Hid (GrAt VE w.heap.size bn (.slice na2 XG.nodes.length nc2) (.slice la2 XG.links.length lc2) XG) := Lib.hid (by rw [hVE]; exact GrAt.make (Nat.le_trans HWR.out HBB.out) HGB.out HXV.out)
          clear hVE d0 d1 d2 d3
          refine hK.out _ _ BE.out (fun hH => ?_)
          clear hK K
          try simp only [Act.put, List.setIfInBounds_toArray, List.set_cons_zero, List.set_cons_succ, List.getElem_toArray, List.getElem_cons_succ, List.getElem_cons_zero]
          refine tk 11 (by assumption) rfl (by kernel_rfl) (fun _ _ _ h => h) (fun V hV => by go_simp; try with_reducible rfl) ?_
          try simp only [Act.put, List.setIfInBounds_toArray, List.set_cons_zero, List.set_cons_succ, List.getElem_toArray, List.getElem_cons_succ, List.getElem_cons_zero]
          refine wpAnyH_done (by kernel_rfl) ?_ _
          clear HGB HXV BC
          have hga2 := HGAW.out VE BE.out
          have HRES := Lib.hid (HRSW.out VE BE.out)
          have HGA2 := Lib.hid hga2
          have HWE : Hid (Below w.heap.size w VE) := Lib.hid (HB.out.trans (BE.out.mono HWR.out))
          obtain ⟨d0, d1, d2, d3⟩ := hga2.cells
          obtain ⟨e0, e1, -, -⟩ := HXE.out.cells
          clear hga2
          by_cases hz : ce = 0
          · subst hz
            have HX := Lib.hid (HGO.out rfl)
            have HCK2 := Lib.hid (HKP.out rfl)
            clear HST HGO
            go_wp2_with fail
            refine ⟨⟨k + 1, _, _, XG, by simp, by omega, GrAt.make HBG.out HGA2.out.gb HXE.out.v, by rw [Below.heap_setCell _ _ _ _ HNE.out, Below.heap_setCell _ _ _ _ HNE.out]; exact HRES.out, (HWE.out.setCell HBG.out _).setCell HBG.out _, HCK2.out, HPL.out.trans HX.out⟩, ?_⟩
            simp [RowKit.intOf]; omega
          · have HX := Lib.hid (HST.out hz)
            have hz2 : (ce != 0) = true := by simpa using hz
            obtain ⟨x0, x1, x2, x3⟩ := cells_two HRES.out
            clear hz HST HGO HKP
            go_wp2_with fail
            have hq1 := heap_setCell_same VE br 0 _ _ (.slice an G.nodes.length nc) HRES.out
            have hq2 := heap_setCell_same _ br 1 _ _ (.slice al G.links.length lc) hq1
            refine bodyPost_ret (results_cell3 Try.results18 _ _ br 0 [.slice an G.nodes.length nc, .slice al G.links.length lc] _ rfl ?_ Try.underlying25 (by rfl) (by kernel_rfl)) rfl ?_
            · intro j v hj
              match j with
              | 0 => simp at hj; subst hj; rw [cell_of_row _ _ _ _ _ (0, 0) hq2]; rfl
              | 1 => simp at hj; subst hj; rw [cell_of_row _ _ _ _ _ (0, 0) hq2]; rfl
              | j + 2 => simp at hj
            · rw [HPL.out, HX.out]; exact ⟨_, _, rfl, ((HGA2.out.v.set HRES.out).set hq1), (HWE.out.setCell HBW.out _).setCell HBW.out _⟩
        · go_simp
          obtain ⟨VD, hVD⟩ : ∃ VD, VD = VC.alloc (.cells #[.slice none 0 0, .slice none 0 0] 25) := ⟨_, rfl⟩
          rw [← hVD]
          obtain ⟨bn, hbn⟩ : ∃ bn, bn = VC.heap.size := ⟨_, rfl⟩
          rw [← hbn]
          have hb : Below VC.heap.size VC VD := by rw [hVD]; exact gAl _ _
          try have HXV := Lib.hid (HXV.out.below hb)
          have HGB : Hid (VD.heap[bn]? = some (.cells #[.slice none 0 0, .slice none 0 0] 25 (0, 0))) := Lib.hid (by rw [hVD, hbn]; exact heap_alloc_new VC _)
          have HBB : Hid (wr.heap.size ≤ bn) := Lib.hid (by rw [hbn]; exact BC.out.size)
          have BC := Lib.hid (gNx BC.out hb)
          clear hb hVD hbn
          rename World => VC
          refine hK.out _ _ BC.out (fun hH => ?_)
          clear hK K
          try simp only [Act.put, List.setIfInBounds_toArray, List.set_cons_zero, List.set_cons_succ, List.getElem_toArray, List.getElem_cons_succ, List.getElem_cons_zero]
          refine wpAnyH_ready (rs := [5]) (by kernel_rfl) (by simp) ?_
          refine AllReadyH.cons (o := _) rfl (fun K hK => ?_) AllReadyH.nil
          go_simp
          refine (rApply_any G an nc al lc ch.kind ch.a ch.b ch.w _ (HGI.out _ BC.out) HQK.out).mono ?_
          rintro e VC ⟨vn, vl, rfl, hv, hb⟩
          rw [← HXG.out] at hv
          obtain ⟨na2, nc2, la2, lc2, rfl, rfl, hin2⟩ := hv.gin HXL.out.1 HXL.out.2
          try have HGB := Lib.hid ((hb.block _ (Array.getElem?_eq_some_iff.1 HGB.out).1).trans HGB.out)
          have HXV := Lib.hid (hv.mono (Nat.le_trans HWR.out BC.out.size))
          have BC := Lib.hid (gNx BC.out hb)
          clear hv hb hin2
          rw [← HCE.out]
          go_wp2_with fail
          refine hK.out _ _ BC.out (fun hH => ?_)
          clear hK K
          try simp only [Act.put, List.setIfInBounds_toArray, List.set_cons_zero, List.set_cons_succ, List.getElem_toArray, List.getElem_cons_succ, List.getElem_cons_zero]
          refine tk 6 (by assumption) rfl (by kernel_rfl) (fun _ _ _ h => h) (fun V hV => by go_simp; try with_reducible rfl) ?_
          try simp only [Act.put, List.setIfInBounds_toArray, List.set_cons_zero, List.set_cons_succ, List.getElem_toArray, List.getElem_cons_succ, List.getElem_cons_zero]
          refine tk 7 (by assumption) rfl (by kernel_rfl) (fun _ _ _ h => h) (fun V hV => by go_simp; try with_reducible rfl) ?_
          try simp only [Act.put, List.setIfInBounds_toArray, List.set_cons_zero, List.set_cons_succ, List.getElem_toArray, List.getElem_cons_succ, List.getElem_cons_zero]
          refine tk 8 (by assumption) rfl (by kernel_rfl) (fun _ _ _ h => h) (fun V hV => by go_simp; try with_reducible rfl) ?_
          try simp only [Act.put, List.setIfInBounds_toArray, List.set_cons_zero, List.set_cons_succ, List.getElem_toArray, List.getElem_cons_succ, List.getElem_cons_zero]
          refine wpAnyH_ready (rs := [10]) (by kernel_rfl) (by simp) ?_
          refine AllReadyH.cons (o := _) rfl (fun K hK => ?_) AllReadyH.nil
          obtain ⟨d0, d1, d2, d3⟩ := cells_two HGB.out
          go_simp
          obtain ⟨VE, hVE⟩ : ∃ VE, VE = (VC.setCell ⟨bn, 0, none⟩ (.slice na2 XG.nodes.length nc2)).setCell ⟨bn, 1, none⟩ (.slice la2 XG.links.length lc2) := ⟨_, rfl⟩
          rw [← hVE]
          have BE : Hid (Below wr.heap.size wr VE) := Lib.hid (by rw [hVE]; exact (BC.out.setCell HBB.out _).setCell HBB.out _)
          have HXE : Hid (GrAt VE w.heap.size bn (.slice na2 XG.nodes.length nc2) (.slice la2 XG.links.length lc2) XG) := Lib.hid (by rw [hVE]; exact GrAt.make (Nat.le_trans HWR.out HBB.out) HGB.out HXV.out)
          clear hVE d0 d1 d2 d3
          refine hK.out _ _ BE.out (fun hH => ?_)
          clear hK K
          try simp only [Act.put, List.setIfInBounds_toArray, List.set_cons_zero, List.set_cons_succ, List.getElem_toArray, List.getElem_cons_succ, List.getElem_cons_zero]
          refine tk 11 (by assumption) rfl (by kernel_rfl) (fun _ _ _ h => h) (fun V hV => by go_simp; try with_reducible rfl) ?_
          try simp only [Act.put, List.setIfInBounds_toArray, List.set_cons_zero, List.set_cons_succ, List.getElem_toArray, List.getElem_cons_succ, List.getElem_cons_zero]
          refine wpAnyH_done (by kernel_rfl) ?_ _
          clear HGB HXV BC
          have hga2 := HGAW.out VE BE.out
          have HRES := Lib.hid (HRSW.out VE BE.out)
          have HGA2 := Lib.hid hga2
          have HWE : Hid (Below w.heap.size w VE) := Lib.hid (HB.out.trans (BE.out.mono HWR.out))
          obtain ⟨d0, d1, d2, d3⟩ := hga2.cells
          obtain ⟨e0, e1, -, -⟩ := HXE.out.cells
          clear hga2
          by_cases hz : ce = 0
          · subst hz
            have HX := Lib.hid (HGO.out rfl)
            have HCK2 := Lib.hid (HKP.out rfl)
            clear HST HGO
            go_wp2_with fail
            refine ⟨⟨k + 1, _, _, XG, by simp, by omega, GrAt.make HBG.out HGA2.out.gb HXE.out.v, by rw [Below.heap_setCell _ _ _ _ HNE.out, Below.heap_setCell _ _ _ _ HNE.out]; exact HRES.out, (HWE.out.setCell HBG.out _).setCell HBG.out _, HCK2.out, HPL.out.trans HX.out⟩, ?_⟩
            simp [RowKit.intOf]; omega
          · have HX := Lib.hid (HST.out hz)
            have hz2 : (ce != 0) = true := by simpa using hz
            obtain ⟨x0, x1, x2, x3⟩ := cells_two HRES.out
            clear hz HST HGO HKP
            go_wp2_with fail
            have hq1 := heap_setCell_same VE br 0 _ _ (.slice an G.nodes.length nc) HRES.out
            have hq2 := heap_setCell_same _ br 1 _ _ (.slice al G.links.length lc) hq1
            refine bodyPost_ret (results_cell3 Try.results18 _ _ br 0 [.slice an G.nodes.length nc, .slice al G.links.length lc] _ rfl ?_ Try.underlying25 (by rfl) (by kernel_rfl)) rfl ?_
            · intro j v hj
              match j with
              | 0 => simp at hj; subst hj; rw [cell_of_row _ _ _ _ _ (0, 0) hq2]; rfl
              | 1 => simp at hj; subst hj; rw [cell_of_row _ _ _ _ _ (0, 0) hq2]; rfl
              | j + 2 => simp at hj
            · rw [HPL.out, HX.out]; exact ⟨_, _, rfl, ((HGA2.out.v.set HRES.out).set hq1), (HWE.out.setCell HBW.out _).setCell HBW.out _⟩
      · have hlti : ¬ (k : Int) < (l.length : Int) := by omega
        have HX := Lib.hid (play_end (l := l) (by omega : l.length ≤ k) G)
        obtain ⟨d0, d1, -, -⟩ := hga.cells
        obtain ⟨x0, x1, x2, x3⟩ := cells_two hrs
        have HRES := Lib.hid hrs
        have HG := Lib.hid hga
        clear hga hbel hlt hrs
        go_wp2_with fail
        have hq1 := heap_setCell_same wr br 0 _ _ (.slice an G.nodes.length nc) HRES.out
        have hq2 := heap_setCell_same _ br 1 _ _ (.slice al G.links.length lc) hq1
        refine bodyPost_ret (results_cell3 Try.results18 _ _ br 0 [.slice an G.nodes.length nc, .slice al G.links.length lc] _ rfl ?_ Try.underlying25 (by rfl) (by kernel_rfl)) rfl ?_
        · intro j v hj
          match j with
          | 0 => simp at hj; subst hj; rw [cell_of_row _ _ _ _ _ (0, 0) hq2]; rfl
          | 1 => simp at hj; subst hj; rw [cell_of_row _ _ _ _ _ (0, 0) hq2]; rfl
          | j + 2 => simp at hj
        · rw [HPL.out, HX.out]; exact ⟨_, _, rfl, ((HG.out.v.set HRES.out).set hq1), (HB.out.setCell HBW.out _).setCell HBW.out _⟩
set_option maxHeartbeats 8000000 in
theorem law_plays (l : List Ch) (a : Option Addr) (c : Nat) (w : World) (hin : ChsOk w l a) :
    Calls Try.prog 5 #[.slice a l.length c] w fun e w' => e = .returned (.bool true) ∧ Below w.heap.size w w' := by
  have hst := g_storeL
  have hr := chRow_reads l a (w.alloc (.cells #[] 33)) w.heap.size (hin.rows.kept (fun i hi => (gAl _ _).block i hi) (Nat.le_refl _))
  obtain ⟨v, V1, hrun, ho, hb⟩ := own_clone (P := Try.prog) (w := w.alloc (.cells #[] 33)) Try.underlying38 chInfo rfl w.heap.size a c (chRow_len l) hr (chRow_one l) (by have := hin.n1; omega) (by have := hin.n1; omega)
  obtain ⟨a1, c1, rfl, hci⟩ := ownC_in ho
  have HR := Lib.hid hrun
  have B1 := Lib.hid (gNx (gAl w (.cells #[] 33)) hb)
  have HP1 := Lib.hid (gPlay_any l a1 c1 V1 hci hin.wts (by have := hin.n1; omega))
  have HIV : Hid (∀ V, Below w.heap.size w V → ChsIn V V.heap.size l a) := Lib.hid (fun V hV => hin.rows.kept (fun i hi => hV.block i hi) hV.size)
  have HP2 : Hid (∀ V, Below w.heap.size w V → Calls Try.prog 18 #[.slice a l.length c] V fun e w' => PlayEnds V (playA l) e w') := Lib.hid (fun V hV => rPlay_any l a c V (HIV.out V hV) hin.wts (by have := hin.n1; omega))
  have HCK := Lib.hid (playA_keeps l)
  obtain ⟨r, hrr⟩ : ∃ r, r = playA l := ⟨_, rfl⟩
  rw [← hrr] at HP1 HCK
  have HP2 : Hid (∀ V, Below w.heap.size w V → Calls Try.prog 18 #[.slice a l.length c] V fun e w' => PlayEnds V r e w') := Lib.hid (by rw [hrr]; exact HP2.out)
  have hcz := check_zero.1 HCK.out
  have HSZ : Hid (r.1.nodes.length * 16 ≤ 140737488351232 ∧ r.1.links.length * 32 ≤ 140737488351232) := Lib.hid (by omega)
  clear hin hr hrun ho hb hci hrr hcz HIV
  obtain ⟨L, n, ce⟩ := r
  simp only at HCK HSZ
  have z0 : (ce == ce) = true := by simp
  have z1 : ((n : Int) == (n : Int)) = true := by simp
  go_enter Try.func5, Try.ntmps5
  go_upto_region 2 with (at_builtin; refine Lib.wpList_append_run _ rfl _ _ _ _ rfl _ _ rfl rfl _ _ (HR.out _) ?_)
  go_wp2_with fail
  refine HP1.out.mono ?_
  rintro e V2 ⟨vn, vl, rfl, hv, hb⟩
  obtain ⟨na2, nc2, la2, lc2, rfl, rfl, hin2⟩ := hv.gin HSZ.out.1 HSZ.out.2
  have B2 := Lib.hid (gNx B1.out hb)
  obtain ⟨W3, hW3⟩ : ∃ W3, W3 = V2.alloc (.cells #[.slice na2 L.nodes.length nc2, .slice la2 L.links.length lc2] 25) := ⟨_, rfl⟩
  have b3 : Below V2.heap.size V2 W3 := by rw [hW3]; exact gAl _ _
  have s3 : V2.heap.size < W3.heap.size := by rw [hW3]; simp
  have r3 : W3.heap[V2.heap.size]? = some (.cells #[.slice na2 L.nodes.length nc2, .slice la2 L.links.length lc2] 25 (0, 0)) := by rw [hW3]; exact heap_alloc_new V2 _
  have HX : Hid (∀ V, Below W3.heap.size W3 V → (V.cell? ⟨V2.heap.size, 0, none⟩ = some (.slice na2 L.nodes.length nc2) ∧ V.cell? ⟨V2.heap.size, 1, none⟩ = some (.slice la2 L.links.length lc2)) ∧ GrIn V L na2 la2) := Lib.hid (fun V h => by
    have hh := (h.block _ s3).trans r3
    exact ⟨⟨by rw [cell_of_row V _ 0 _ _ (0, 0) hh]; rfl, by rw [cell_of_row V _ 1 _ _ (0, 0) hh]; rfl⟩, hin2.below (gNx b3 h)⟩)
  have B3 := Lib.hid (gNx B2.out b3)
  clear b3 s3 r3 hin2 hv hb B2 HP1
  go_upto_region 3 with (fail)
  rw [← hW3]
  clear hW3
  go_wp2_with fail
  refine (HP2.out W3 B3.out).mono ?_
  rintro e V4 ⟨vn, vl, rfl, hv, hb⟩
  obtain ⟨na5, nc5, la5, lc5, rfl, rfl, hin5⟩ := hv.gin HSZ.out.1 HSZ.out.2
  obtain ⟨W5, hW5⟩ : ∃ W5, W5 = V4.alloc (.cells #[.slice na5 L.nodes.length nc5, .slice la5 L.links.length lc5] 25) := ⟨_, rfl⟩
  have b5 : Below V4.heap.size V4 W5 := by rw [hW5]; exact gAl _ _
  have s5 : V4.heap.size < W5.heap.size := by rw [hW5]; simp
  have r5 : W5.heap[V4.heap.size]? = some (.cells #[.slice na5 L.nodes.length nc5, .slice la5 L.links.length lc5] 25 (0, 0)) := by rw [hW5]; exact heap_alloc_new V4 _
  have HY : Hid (∀ V, Below W5.heap.size W5 V → (V.cell? ⟨V4.heap.size, 0, none⟩ = some (.slice na5 L.nodes.length nc5) ∧ V.cell? ⟨V4.heap.size, 1, none⟩ = some (.slice la5 L.links.length lc5)) ∧ GrIn V L na5 la5) := Lib.hid (fun V h => by
    have hh := (h.block _ s5).trans r5
    exact ⟨⟨by rw [cell_of_row V _ 0 _ _ (0, 0) hh]; rfl, by rw [cell_of_row V _ 1 _ _ (0, 0) hh]; rfl⟩, hin5.below (gNx b5 h)⟩)
  have B35 := Lib.hid (gNx hb b5)
  have B5 := Lib.hid (gNx B3.out B35.out)
  clear hv hb b5 s5 r5 hin5 B3 HP2
  go_upto_region 4 with (fail)
  rw [← hW5]
  clear hW5
  obtain ⟨⟨g0, g1⟩, hgi0⟩ := HX.out W5 B35.out
  obtain ⟨⟨g2, g3⟩, hgi1⟩ := HY.out W5 (Below.refl _ _)
  have HG0 := Lib.hid hgi0
  have HG1 := Lib.hid hgi1
  clear hgi0 hgi1
  go_wp2_with fail
  refine (rSame_gin L na2 na5 la2 la5 nc2 nc5 lc2 lc5 W5 HG0.out HG1.out).mono ?_
  rintro e V6 ⟨rfl, hb⟩
  have B6 := Lib.hid hb
  clear hb g0 g1 g2 g3
  obtain ⟨⟨g0, g1⟩, hgi0⟩ := HX.out V6 (gNx B35.out B6.out)
  have HI6 := Lib.hid hgi0
  clear hgi0
  go_wp2_with fail
  refine (gCheck_any L na2 la2 nc2 lc2 V6 HI6.out.nodes HI6.out.links HI6.out.wts (by have := HSZ.out; omega) (by have := HSZ.out; omega)).mono ?_
  rintro e V7 ⟨rfl, hb⟩
  rw [HCK.out]
  have B7 := Lib.hid (gNx B6.out hb)
  clear hb g0 g1
  go_wp2_with fail
  refine (gAwake_any _).mono ?_
  rintro e V8 ⟨rfl, hb⟩
  have B8 := Lib.hid (gNx B7.out hb)
  clear hb
  go_wp2_with fail
  go_ret
  exact ⟨rfl, gNx B5.out B8.out⟩
end Go.Proofs.Ytgjpgpjdealbeaa
