/- Graphs: the document's Same, of one graph at two places. -/
import Derived.Test.YtgjpgpjdealbeaaNgL
import Derived.Test.YtgjpgpjdealbeaaRtA
import Derived.Test.YtgjpgpjdealbeaaFl1
namespace Go.Proofs.Ytgjpgpjdealbeaa
open Go.RowKit Go.Lib Go.Fq Go.Iq Go.Nq Go.Ow
set_option linter.unusedVariables false
set_option linter.unusedSimpArgs false
set_option maxRecDepth 100000

set_option maxHeartbeats 8000000 in
theorem rSame_any (G : Gr) (na1 na2 la1 la2 : Option Addr) (nc1 nc2 lc1 lc2 : Nat) (w : World) (hN1 : NodesIn w w.heap.size G.nodes na1) (hN2 : NodesIn w w.heap.size G.nodes na2) (hL1 : LinksIn w w.heap.size G.links la1) (hL2 : LinksIn w w.heap.size G.links la2) (hn : G.nodes.length < 4611686018427387904) (hl : G.links.length < 4611686018427387904) :
    Calls Try.prog 16 #[.agg #[.slice na1 G.nodes.length nc1, .slice la1 G.links.length lc1], .agg #[.slice na2 G.nodes.length nc2, .slice la2 G.links.length lc2]] w fun e w' => e = .returned (.bool true) ∧ Below w.heap.size w w' := by
  have hst := g_storeL
  obtain ⟨W1, hW1⟩ : ∃ W1, W1 = w.alloc (.cells #[.slice na1 G.nodes.length nc1, .slice la1 G.links.length lc1] 25) := ⟨_, rfl⟩
  obtain ⟨W2, hW2⟩ : ∃ W2, W2 = W1.alloc (.cells #[.slice na2 G.nodes.length nc2, .slice la2 G.links.length lc2] 25) := ⟨_, rfl⟩
  have b1 : Below w.heap.size w W1 := by rw [hW1]; exact gAl _ _
  have b2 : Below W1.heap.size W1 W2 := by rw [hW2]; exact gAl _ _
  have s1 : W1.heap.size = w.heap.size + 1 := by rw [hW1]; simp
  have s2 : W2.heap.size = W1.heap.size + 1 := by rw [hW2]; simp
  have r1 : W1.heap[w.heap.size]? = some (.cells #[.slice na1 G.nodes.length nc1, .slice la1 G.links.length lc1] 25 (0, 0)) := by rw [hW1]; exact heap_alloc_new w _
  have r2 : W2.heap[W1.heap.size]? = some (.cells #[.slice na2 G.nodes.length nc2, .slice la2 G.links.length lc2] 25 (0, 0)) := by rw [hW2]; exact heap_alloc_new W1 _
  have hb2 : Below w.heap.size w W2 := gNx b1 b2
  have q1 : W2.heap[w.heap.size]? = some (.cells #[.slice na1 G.nodes.length nc1, .slice la1 G.links.length lc1] 25 (0, 0)) := (b2.block _ (by omega)).trans r1
  have HKG : Hid (∀ V, Below W2.heap.size W2 V → V.cell? ⟨w.heap.size, 0, none⟩ = some (.slice na1 G.nodes.length nc1) ∧ V.cell? ⟨w.heap.size, 1, none⟩ = some (.slice la1 G.links.length lc1) ∧ V.cell? ⟨W1.heap.size, 0, none⟩ = some (.slice na2 G.nodes.length nc2) ∧ V.cell? ⟨W1.heap.size, 1, none⟩ = some (.slice la2 G.links.length lc2)) := Lib.hid (fun V hV => by
    have h1 := (hV.block w.heap.size (by omega)).trans q1
    have h2 := (hV.block W1.heap.size (by omega)).trans r2
    exact ⟨by rw [cell_of_row V _ 0 _ _ (0, 0) h1]; rfl, by rw [cell_of_row V _ 1 _ _ (0, 0) h1]; rfl, by rw [cell_of_row V _ 0 _ _ (0, 0) h2]; rfl, by rw [cell_of_row V _ 1 _ _ (0, 0) h2]; rfl⟩)
  have HB2 := Lib.hid hb2
  have HN1 : Hid (∀ V, Below W2.heap.size W2 V → NodesIn V V.heap.size G.nodes na1) := Lib.hid (fun V hV => hN1.kept (fun i hi => (gNx hb2 hV).block i hi) (gNx hb2 hV).size)
  have HN2 : Hid (∀ V, Below W2.heap.size W2 V → NodesIn V V.heap.size G.nodes na2) := Lib.hid (fun V hV => hN2.kept (fun i hi => (gNx hb2 hV).block i hi) (gNx hb2 hV).size)
  have HL1 : Hid (∀ V, Below W2.heap.size W2 V → LinksIn V V.heap.size G.links la1) := Lib.hid (fun V hV => hL1.kept (fun i hi => (gNx hb2 hV).block i hi) (gNx hb2 hV).size)
  have HL2 : Hid (∀ V, Below W2.heap.size W2 V → LinksIn V V.heap.size G.links la2) := Lib.hid (fun V hV => hL2.kept (fun i hi => (gNx hb2 hV).block i hi) (gNx hb2 hV).size)
  have HSZ : Hid (G.nodes.length < 4611686018427387904 ∧ G.links.length < 4611686018427387904) := Lib.hid ⟨hn, hl⟩
  have z0 : ((G.nodes.length : Int) != (G.nodes.length : Int)) = false := by simp
  have z1 : ((G.links.length : Int) != (G.links.length : Int)) = false := by simp
  clear hN1 hN2 hL1 hL2 hn hl b1 b2 r1 r2 q1 hb2 s2
  go_enter Try.func16, Try.ntmps16
  go_upto_region 1 with (fail)
  rw [← hW1, ← hW2, ← s1]
  clear hW1 hW2 s1
  obtain ⟨g0, g1, g2, g3⟩ := HKG.out W2 (Below.refl _ _)
  go_wp2_with fail
  clear g0 g1 g2 g3 z0 z1
  go_loopw [5] (fun v wr => ∃ (k : Nat), v = .int .i64 (k : Int) ∧ k ≤ G.nodes.length ∧ Below W2.heap.size W2 wr) (fun v _ => G.nodes.length - (RowKit.intOf v).toNat)
  case atStart => exact ⟨0, rfl, by omega, Below.refl _ _⟩
  case round =>
    obtain ⟨k, rfl, hk, hbel⟩ := hrel
    by_cases hlt : k < G.nodes.length
    · 
      have hlti : (k : Int) < (G.nodes.length : Int) := by omega
      have hk0 : (0 : Int) ≤ (k : Int) := by omega
      have hkw : IntKind.i64.wrap ((k : Int) + 1) = (k : Int) + 1 := by rw [IntKind.wrap_i64]; have := HSZ.out; omega
      obtain ⟨b1, o1, rfl, hb1, hc1⟩ := (HN1.out wr hbel).at k hlt
      obtain ⟨b2, o2, rfl, hb2, hc2⟩ := (HN2.out wr hbel).at k hlt
      have hd1 := hc1 k hlt
      have hd2 := hc2 k hlt
      have HKK : Hid (∀ V, Below wr.heap.size wr V → V.cell? ⟨w.heap.size, 0, none⟩ = some (.slice (some ⟨b1, o1, none⟩) G.nodes.length nc1) ∧ V.cell? ⟨W1.heap.size, 0, none⟩ = some (.slice (some ⟨b2, o2, none⟩) G.nodes.length nc2) ∧ NdAt V b1 (o1 + k * 3) G.nodes[k] ∧ NdAt V b2 (o2 + k * 3) G.nodes[k]) := Lib.hid (fun V hV => by
        obtain ⟨y0, y1, y2, y3⟩ := HKG.out V (gNx hbel hV)
        exact ⟨y0, y2, hd1.kept (hV.block _ hb1), hd2.kept (hV.block _ hb2)⟩)
      have HB := Lib.hid hbel
      obtain ⟨g0, g1, g2, g3⟩ := HKG.out wr hbel
      clear hc1 hc2 hd1 hd2 hbel hb1 hb2
      generalize G.nodes[k] = nd at *
      go_upto_region 6 with (fail)
      clear g0 g1 g2 g3
      obtain ⟨id, up, mark⟩ := nd
      refine wp_region_held_drew (S := fun V => Below wr.heap.size wr V) (by kernel_rfl) (Below.drew (Below.refl _ _)) (fun hH => ?_)
      have B0 : Hid (Below wr.heap.size wr wr.drew) := Lib.hid (Below.drew (Below.refl _ _))
      generalize wr.drew = V0 at *
      refine tk 0 (by assumption) rfl (by kernel_rfl) (fun _ _ _ h => h) (fun V hV => by go_simp; try with_reducible rfl) ?_
      try simp only [Act.put, List.setIfInBounds_toArray, List.set_cons_zero, List.set_cons_succ, List.getElem_toArray, List.getElem_cons_succ, List.getElem_cons_zero]
      refine tk 1 (by assumption) rfl (by kernel_rfl) (fun _ _ _ h => h) (fun V hV => by obtain ⟨x0, x1, ⟨c0, c1, c2⟩, ⟨e0, e1, e2⟩⟩ := HKK.out V hV; go_simp; try with_reducible rfl) ?_
      try simp only [Act.put, List.setIfInBounds_toArray, List.set_cons_zero, List.set_cons_succ, List.getElem_toArray, List.getElem_cons_succ, List.getElem_cons_zero]
      refine tk 2 (by assumption) rfl (by kernel_rfl) (fun _ _ _ h => h) (fun V hV => by go_simp; try with_reducible rfl) ?_
      try simp only [Act.put, List.setIfInBounds_toArray, List.set_cons_zero, List.set_cons_succ, List.getElem_toArray, List.getElem_cons_succ, List.getElem_cons_zero]
      refine tk 3 (by assumption) rfl (by kernel_rfl) (fun _ _ _ h => h) (fun V hV => by go_simp; try with_reducible rfl) ?_
      try simp only [Act.put, List.setIfInBounds_toArray, List.set_cons_zero, List.set_cons_succ, List.getElem_toArray, List.getElem_cons_succ, List.getElem_cons_zero]
      refine tk 4 (by assumption) rfl (by kernel_rfl) (fun _ _ _ h => h) (fun V hV => by obtain ⟨x0, x1, ⟨c0, c1, c2⟩, ⟨e0, e1, e2⟩⟩ := HKK.out V hV; go_simp; try with_reducible rfl) ?_
      try simp only [Act.put, List.setIfInBounds_toArray, List.set_cons_zero, List.set_cons_succ, List.getElem_toArray, List.getElem_cons_succ, List.getElem_cons_zero]
      refine tk 5 (by assumption) rfl (by kernel_rfl) (fun _ _ _ h => h) (fun V hV => by go_simp; try with_reducible rfl) ?_
      try simp only [Act.put, List.setIfInBounds_toArray, List.set_cons_zero, List.set_cons_succ, List.getElem_toArray, List.getElem_cons_succ, List.getElem_cons_zero]
      refine tk 6 (by assumption) rfl (by kernel_rfl) (fun _ _ _ h => h) (fun V hV => by obtain ⟨x0, x1, ⟨c0, c1, c2⟩, ⟨e0, e1, e2⟩⟩ := HKK.out V hV; go_simp; try with_reducible rfl) ?_
      try simp only [Act.put, List.setIfInBounds_toArray, List.set_cons_zero, List.set_cons_succ, List.getElem_toArray, List.getElem_cons_succ, List.getElem_cons_zero]
      refine tk 7 (by assumption) rfl (by kernel_rfl) (fun _ _ _ h => h) (fun V hV => by go_simp; try with_reducible rfl) ?_
      try simp only [Act.put, List.setIfInBounds_toArray, List.set_cons_zero, List.set_cons_succ, List.getElem_toArray, List.getElem_cons_succ, List.getElem_cons_zero]
      refine tk 8 (by assumption) rfl (by kernel_rfl) (fun _ _ _ h => h) (fun V hV => by go_simp; try with_reducible rfl) ?_
      try simp only [Act.put, List.setIfInBounds_toArray, List.set_cons_zero, List.set_cons_succ, List.getElem_toArray, List.getElem_cons_succ, List.getElem_cons_zero]
      refine tk 9 (by assumption) rfl (by kernel_rfl) (fun _ _ _ h => h) (fun V hV => by obtain ⟨x0, x1, ⟨c0, c1, c2⟩, ⟨e0, e1, e2⟩⟩ := HKK.out V hV; go_simp; try with_reducible rfl) ?_
      try simp only [Act.put, List.setIfInBounds_toArray, List.set_cons_zero, List.set_cons_succ, List.getElem_toArray, List.getElem_cons_succ, List.getElem_cons_zero]
      refine tk 10 (by assumption) rfl (by kernel_rfl) (fun _ _ _ h => h) (fun V hV => by go_simp; try with_reducible rfl) ?_
      try simp only [Act.put, List.setIfInBounds_toArray, List.set_cons_zero, List.set_cons_succ, List.getElem_toArray, List.getElem_cons_succ, List.getElem_cons_zero]
      refine wpAnyH_done (by kernel_rfl) ?_ _
      go_wp2_with fail
      refine ⟨⟨k + 1, by simp, by omega, gNx HB.out B0.out⟩, ?_⟩
      simp [RowKit.intOf]; omega
    · have hnk : ¬ (k : Int) < (G.nodes.length : Int) := by omega
      obtain ⟨g0, g1, g2, g3⟩ := HKG.out wr hbel
      have HBE1 := Lib.hid hbel
      clear hlt hbel
      go_wp2_with fail
      clear g0 g1 g2 g3
      go_loopw [6] (fun v wr => ∃ (k : Nat), v = .int .i64 (k : Int) ∧ k ≤ G.links.length ∧ Below W2.heap.size W2 wr) (fun v _ => G.links.length - (RowKit.intOf v).toNat)
      case atStart => exact ⟨0, rfl, by omega, HBE1.out⟩
      case round =>
        clear hk
        obtain ⟨k, rfl, hk, hbel⟩ := hrel
        by_cases hlt : k < G.links.length
        · 
          have hlti : (k : Int) < (G.links.length : Int) := by omega
          have hk0 : (0 : Int) ≤ (k : Int) := by omega
          have hkw : IntKind.i64.wrap ((k : Int) + 1) = (k : Int) + 1 := by rw [IntKind.wrap_i64]; have := HSZ.out; omega
          obtain ⟨b1, o1, rfl, hb1, hc1⟩ := (HL1.out wr hbel).at k hlt
          obtain ⟨b2, o2, rfl, hb2, hc2⟩ := (HL2.out wr hbel).at k hlt
          have hd1 := hc1 k hlt
          have hd2 := hc2 k hlt
          have HKK : Hid (∀ V, Below wr.heap.size wr V → V.cell? ⟨w.heap.size, 1, none⟩ = some (.slice (some ⟨b1, o1, none⟩) G.links.length lc1) ∧ V.cell? ⟨W1.heap.size, 1, none⟩ = some (.slice (some ⟨b2, o2, none⟩) G.links.length lc2) ∧ LkAt V b1 (o1 + k * 4) G.links[k] ∧ LkAt V b2 (o2 + k * 4) G.links[k]) := Lib.hid (fun V hV => by
            obtain ⟨y0, y1, y2, y3⟩ := HKG.out V (gNx hbel hV)
            exact ⟨y1, y3, hd1.kept (hV.block _ hb1), hd2.kept (hV.block _ hb2)⟩)
          have HB := Lib.hid hbel
          obtain ⟨g0, g1, g2, g3⟩ := HKG.out wr hbel
          clear hc1 hc2 hd1 hd2 hbel hb1 hb2
          generalize G.links[k] = y at *
          go_upto_region 11 with (fail)
          clear g0 g1 g2 g3
          refine wp_region_held_drew (S := fun V => Below wr.heap.size wr V) (by kernel_rfl) (Below.drew (Below.refl _ _)) (fun hH => ?_)
          have B0 : Hid (Below wr.heap.size wr wr.drew) := Lib.hid (Below.drew (Below.refl _ _))
          generalize wr.drew = V0 at *
          refine tk 0 (by assumption) rfl (by kernel_rfl) (fun _ _ _ h => h) (fun V hV => by go_simp; try with_reducible rfl) ?_
          try simp only [Act.put, List.setIfInBounds_toArray, List.set_cons_zero, List.set_cons_succ, List.getElem_toArray, List.getElem_cons_succ, List.getElem_cons_zero]
          refine tk 1 (by assumption) rfl (by kernel_rfl) (fun _ _ _ h => h) (fun V hV => by obtain ⟨x0, x1, ⟨c0, c1, c2, c3⟩, ⟨e0, e1, e2, e3⟩⟩ := HKK.out V hV; go_simp; try with_reducible rfl) ?_
          try simp only [Act.put, List.setIfInBounds_toArray, List.set_cons_zero, List.set_cons_succ, List.getElem_toArray, List.getElem_cons_succ, List.getElem_cons_zero]
          refine tk 2 (by assumption) rfl (by kernel_rfl) (fun _ _ _ h => h) (fun V hV => by go_simp; try with_reducible rfl) ?_
          try simp only [Act.put, List.setIfInBounds_toArray, List.set_cons_zero, List.set_cons_succ, List.getElem_toArray, List.getElem_cons_succ, List.getElem_cons_zero]
          refine tk 3 (by assumption) rfl (by kernel_rfl) (fun _ _ _ h => h) (fun V hV => by go_simp; try with_reducible rfl) ?_
          try simp only [Act.put, List.setIfInBounds_toArray, List.set_cons_zero, List.set_cons_succ, List.getElem_toArray, List.getElem_cons_succ, List.getElem_cons_zero]
          refine tk 4 (by assumption) rfl (by kernel_rfl) (fun _ _ _ h => h) (fun V hV => by obtain ⟨x0, x1, ⟨c0, c1, c2, c3⟩, ⟨e0, e1, e2, e3⟩⟩ := HKK.out V hV; go_simp; try with_reducible rfl) ?_
          try simp only [Act.put, List.setIfInBounds_toArray, List.set_cons_zero, List.set_cons_succ, List.getElem_toArray, List.getElem_cons_succ, List.getElem_cons_zero]
          refine tk 5 (by assumption) rfl (by kernel_rfl) (fun _ _ _ h => h) (fun V hV => by go_simp; try with_reducible rfl) ?_
          try simp only [Act.put, List.setIfInBounds_toArray, List.set_cons_zero, List.set_cons_succ, List.getElem_toArray, List.getElem_cons_succ, List.getElem_cons_zero]
          refine tk 6 (by assumption) rfl (by kernel_rfl) (fun _ _ _ h => h) (fun V hV => by obtain ⟨x0, x1, ⟨c0, c1, c2, c3⟩, ⟨e0, e1, e2, e3⟩⟩ := HKK.out V hV; go_simp; try with_reducible rfl) ?_
          try simp only [Act.put, List.setIfInBounds_toArray, List.set_cons_zero, List.set_cons_succ, List.getElem_toArray, List.getElem_cons_succ, List.getElem_cons_zero]
          refine tk 7 (by assumption) rfl (by kernel_rfl) (fun _ _ _ h => h) (fun V hV => by go_simp; try with_reducible rfl) ?_
          try simp only [Act.put, List.setIfInBounds_toArray, List.set_cons_zero, List.set_cons_succ, List.getElem_toArray, List.getElem_cons_succ, List.getElem_cons_zero]
          refine tk 8 (by assumption) rfl (by kernel_rfl) (fun _ _ _ h => h) (fun V hV => by go_simp; try with_reducible rfl) ?_
          try simp only [Act.put, List.setIfInBounds_toArray, List.set_cons_zero, List.set_cons_succ, List.getElem_toArray, List.getElem_cons_succ, List.getElem_cons_zero]
          refine tk 9 (by assumption) rfl (by kernel_rfl) (fun _ _ _ h => h) (fun V hV => by obtain ⟨x0, x1, ⟨c0, c1, c2, c3⟩, ⟨e0, e1, e2, e3⟩⟩ := HKK.out V hV; go_simp; try with_reducible rfl) ?_
          try simp only [Act.put, List.setIfInBounds_toArray, List.set_cons_zero, List.set_cons_succ, List.getElem_toArray, List.getElem_cons_succ, List.getElem_cons_zero]
          refine wpAnyH_ready (rs := [10, 11]) (by kernel_rfl) (by simp) ?_
          refine AllReadyH.cons (o := _) rfl (fun K hK => ?_) (AllReadyH.cons (o := _) rfl (fun K hK => ?_) (AllReadyH.nil))
          · go_simp
            refine hK.out _ _ (by first | exact gNx B0.out (gAl _ _) | exact gNx B0.out (gNx (gAl _ _) (gAl _ _))) (fun hH => ?_)
            clear hK K
            try simp only [Act.put, List.setIfInBounds_toArray, List.set_cons_zero, List.set_cons_succ, List.getElem_toArray, List.getElem_cons_succ, List.getElem_cons_zero]
            refine wpAnyH_ready (rs := [11]) (by kernel_rfl) (by simp) ?_
            refine AllReadyH.cons (o := _) rfl (fun K hK => ?_) AllReadyH.nil
            go_simp
            refine hK.out _ _ (by first | exact gNx B0.out (gAl _ _) | exact gNx B0.out (gNx (gAl _ _) (gAl _ _))) (fun hH => ?_)
            clear hK K
            try simp only [Act.put, List.setIfInBounds_toArray, List.set_cons_zero, List.set_cons_succ, List.getElem_toArray, List.getElem_cons_succ, List.getElem_cons_zero]
            refine wpAnyH_ready (rs := [12]) (by kernel_rfl) (by simp) ?_
            refine AllReadyH.cons (o := _) rfl (fun K hK => ?_) AllReadyH.nil
            go_simp
            refine hK.out _ _ (by first | exact gNx B0.out (gNx (gAl _ _) (gAl _ _))) (fun hH => ?_)
            clear hK K
            try simp only [Act.put, List.setIfInBounds_toArray, List.set_cons_zero, List.set_cons_succ, List.getElem_toArray, List.getElem_cons_succ, List.getElem_cons_zero]
            refine wpAnyH_ready (rs := [13]) (by kernel_rfl) (by simp) ?_
            refine AllReadyH.cons (o := _) rfl (fun K hK => ?_) AllReadyH.nil
            go_simp
            refine hK.out _ _ (by first | exact gNx B0.out (gNx (gAl _ _) (gAl _ _))) (fun hH => ?_)
            clear hK K
            try simp only [Act.put, List.setIfInBounds_toArray, List.set_cons_zero, List.set_cons_succ, List.getElem_toArray, List.getElem_cons_succ, List.getElem_cons_zero]
            refine wpAnyH_done (by kernel_rfl) ?_ _
            obtain ⟨V9, hV9⟩ : ∃ V9, V9 = (V0.alloc (.cells #[.int .i64 y.a, .int .i64 y.b, .float .f64 y.w, .bool y.up] 54)).alloc (.cells #[.int .i64 y.a, .int .i64 y.b, .float .f64 y.w, .bool y.up] 54) := ⟨_, rfl⟩
            try rw [← hV9]
            have B9 : Hid (Below wr.heap.size wr V9) := Lib.hid (by rw [hV9]; exact gNx B0.out (gNx (gAl _ _) (gAl _ _)))
            have q0 : V9.heap[V0.heap.size]? = some (.cells #[.int .i64 y.a, .int .i64 y.b, .float .f64 y.w, .bool y.up] 54 (0, 0)) := by rw [hV9, (gAl _ _).block _ (by simp)]; exact heap_alloc_new V0 _
            have q1 : V9.heap[V0.heap.size + 1]? = some (.cells #[.int .i64 y.a, .int .i64 y.b, .float .f64 y.w, .bool y.up] 54 (0, 0)) := by rw [hV9]; have := heap_alloc_new (V0.alloc (.cells #[.int .i64 y.a, .int .i64 y.b, .float .f64 y.w, .bool y.up] 54)) (.cells #[.int .i64 y.a, .int .i64 y.b, .float .f64 y.w, .bool y.up] 54); simpa using this
            clear hV9
            have c0 : V9.cell? ⟨V0.heap.size, 0, none⟩ = some (.int .i64 y.a) := by rw [cell_of_row V9 _ 0 _ _ (0, 0) q0]; rfl
            have c1 : V9.cell? ⟨V0.heap.size, 1, none⟩ = some (.int .i64 y.b) := by rw [cell_of_row V9 _ 1 _ _ (0, 0) q0]; rfl
            have c2 : V9.cell? ⟨V0.heap.size, 2, none⟩ = some (.float .f64 y.w) := by rw [cell_of_row V9 _ 2 _ _ (0, 0) q0]; rfl
            have c3 : V9.cell? ⟨V0.heap.size, 3, none⟩ = some (.bool y.up) := by rw [cell_of_row V9 _ 3 _ _ (0, 0) q0]; rfl
            have e0 : V9.cell? ⟨V0.heap.size + 1, 0, none⟩ = some (.int .i64 y.a) := by rw [cell_of_row V9 _ 0 _ _ (0, 0) q1]; rfl
            have e1 : V9.cell? ⟨V0.heap.size + 1, 1, none⟩ = some (.int .i64 y.b) := by rw [cell_of_row V9 _ 1 _ _ (0, 0) q1]; rfl
            have e2 : V9.cell? ⟨V0.heap.size + 1, 2, none⟩ = some (.float .f64 y.w) := by rw [cell_of_row V9 _ 2 _ _ (0, 0) q1]; rfl
            have e3 : V9.cell? ⟨V0.heap.size + 1, 3, none⟩ = some (.bool y.up) := by rw [cell_of_row V9 _ 3 _ _ (0, 0) q1]; rfl
            have z0 : (y.a != y.a) = false := by simp
            have z1 : (y.b != y.b) = false := by simp
            have z2 : (y.up != y.up) = false := by simp
            have z3 : ((y.w : Int) == (y.w : Int)) = true := by simp
            clear q0 q1
            go_wp2_with (go_at_call 40; refine (same_any _ _ _).mono ?_; rintro e w2 ⟨rfl, rfl⟩)
            refine ⟨⟨k + 1, by simp, by omega, gNx HB.out B9.out⟩, ?_⟩
            simp [RowKit.intOf]; omega
          · go_simp
            refine hK.out _ _ (by first | exact gNx B0.out (gAl _ _) | exact gNx B0.out (gNx (gAl _ _) (gAl _ _))) (fun hH => ?_)
            clear hK K
            try simp only [Act.put, List.setIfInBounds_toArray, List.set_cons_zero, List.set_cons_succ, List.getElem_toArray, List.getElem_cons_succ, List.getElem_cons_zero]
            refine wpAnyH_ready (rs := [10]) (by kernel_rfl) (by simp) ?_
            refine AllReadyH.cons (o := _) rfl (fun K hK => ?_) AllReadyH.nil
            go_simp
            refine hK.out _ _ (by first | exact gNx B0.out (gAl _ _) | exact gNx B0.out (gNx (gAl _ _) (gAl _ _))) (fun hH => ?_)
            clear hK K
            try simp only [Act.put, List.setIfInBounds_toArray, List.set_cons_zero, List.set_cons_succ, List.getElem_toArray, List.getElem_cons_succ, List.getElem_cons_zero]
            refine wpAnyH_ready (rs := [12]) (by kernel_rfl) (by simp) ?_
            refine AllReadyH.cons (o := _) rfl (fun K hK => ?_) AllReadyH.nil
            go_simp
            refine hK.out _ _ (by first | exact gNx B0.out (gNx (gAl _ _) (gAl _ _))) (fun hH => ?_)
            clear hK K
            try simp only [Act.put, List.setIfInBounds_toArray, List.set_cons_zero, List.set_cons_succ, List.getElem_toArray, List.getElem_cons_succ, List.getElem_cons_zero]
            refine wpAnyH_ready (rs := [13]) (by kernel_rfl) (by simp) ?_
            refine AllReadyH.cons (o := _) rfl (fun K hK => ?_) AllReadyH.nil
            go_simp
            refine hK.out _ _ (by first | exact gNx B0.out (gNx (gAl _ _) (gAl _ _))) (fun hH => ?_)
            clear hK K
            try simp only [Act.put, List.setIfInBounds_toArray, List.set_cons_zero, List.set_cons_succ, List.getElem_toArray, List.getElem_cons_succ, List.getElem_cons_zero]
            refine wpAnyH_done (by kernel_rfl) ?_ _
            obtain ⟨V9, hV9⟩ : ∃ V9, V9 = (V0.alloc (.cells #[.int .i64 y.a, .int .i64 y.b, .float .f64 y.w, .bool y.up] 54)).alloc (.cells #[.int .i64 y.a, .int .i64 y.b, .float .f64 y.w, .bool y.up] 54) := ⟨_, rfl⟩
            try rw [← hV9]
            have B9 : Hid (Below wr.heap.size wr V9) := Lib.hid (by rw [hV9]; exact gNx B0.out (gNx (gAl _ _) (gAl _ _)))
            have q0 : V9.heap[V0.heap.size]? = some (.cells #[.int .i64 y.a, .int .i64 y.b, .float .f64 y.w, .bool y.up] 54 (0, 0)) := by rw [hV9, (gAl _ _).block _ (by simp)]; exact heap_alloc_new V0 _
            have q1 : V9.heap[V0.heap.size + 1]? = some (.cells #[.int .i64 y.a, .int .i64 y.b, .float .f64 y.w, .bool y.up] 54 (0, 0)) := by rw [hV9]; have := heap_alloc_new (V0.alloc (.cells #[.int .i64 y.a, .int .i64 y.b, .float .f64 y.w, .bool y.up] 54)) (.cells #[.int .i64 y.a, .int .i64 y.b, .float .f64 y.w, .bool y.up] 54); simpa using this
            clear hV9
            have c0 : V9.cell? ⟨V0.heap.size, 0, none⟩ = some (.int .i64 y.a) := by rw [cell_of_row V9 _ 0 _ _ (0, 0) q0]; rfl
            have c1 : V9.cell? ⟨V0.heap.size, 1, none⟩ = some (.int .i64 y.b) := by rw [cell_of_row V9 _ 1 _ _ (0, 0) q0]; rfl
            have c2 : V9.cell? ⟨V0.heap.size, 2, none⟩ = some (.float .f64 y.w) := by rw [cell_of_row V9 _ 2 _ _ (0, 0) q0]; rfl
            have c3 : V9.cell? ⟨V0.heap.size, 3, none⟩ = some (.bool y.up) := by rw [cell_of_row V9 _ 3 _ _ (0, 0) q0]; rfl
            have e0 : V9.cell? ⟨V0.heap.size + 1, 0, none⟩ = some (.int .i64 y.a) := by rw [cell_of_row V9 _ 0 _ _ (0, 0) q1]; rfl
            have e1 : V9.cell? ⟨V0.heap.size + 1, 1, none⟩ = some (.int .i64 y.b) := by rw [cell_of_row V9 _ 1 _ _ (0, 0) q1]; rfl
            have e2 : V9.cell? ⟨V0.heap.size + 1, 2, none⟩ = some (.float .f64 y.w) := by rw [cell_of_row V9 _ 2 _ _ (0, 0) q1]; rfl
            have e3 : V9.cell? ⟨V0.heap.size + 1, 3, none⟩ = some (.bool y.up) := by rw [cell_of_row V9 _ 3 _ _ (0, 0) q1]; rfl
            have z0 : (y.a != y.a) = false := by simp
            have z1 : (y.b != y.b) = false := by simp
            have z2 : (y.up != y.up) = false := by simp
            have z3 : ((y.w : Int) == (y.w : Int)) = true := by simp
            clear q0 q1
            go_wp2_with (go_at_call 40; refine (same_any _ _ _).mono ?_; rintro e w2 ⟨rfl, rfl⟩)
            refine ⟨⟨k + 1, by simp, by omega, gNx HB.out B9.out⟩, ?_⟩
            simp [RowKit.intOf]; omega
        · have hnk : ¬ (k : Int) < (G.links.length : Int) := by omega
          obtain ⟨g0, g1, g2, g3⟩ := HKG.out wr hbel
          have HBE2 := Lib.hid hbel
          clear hlt hbel
          go_wp2_with fail
          go_ret
          exact ⟨rfl, gNx HB2.out HBE2.out⟩
end Go.Proofs.Ytgjpgpjdealbeaa
