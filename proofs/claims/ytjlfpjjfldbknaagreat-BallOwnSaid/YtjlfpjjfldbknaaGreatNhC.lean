/- Graphs: the document's Live. Graphs: the document's Same, of one graph at two places. Graphs: awake. Graphs: the law of lives. Graphs: the document's Neighbours. -/
import Derived.Test.YtjlfpjjfldbknaaGreatNhB
import Derived.Test.YtjlfpjjfldbknaaGreatNgL
import Derived.Test.YtjlfpjjfldbknaaGreatRtA
import Derived.Test.YtjlfpjjfldbknaaGreatFl1
import Derived.Test.YtjlfpjjfldbknaaGreatNgW
import Derived.Test.YtjlfpjjfldbknaaGreatNhF
import Derived.Test.YtjlfpjjfldbknaaGreatNqG
section
namespace Go.Proofs.YtjlfpjjfldbknaaGreat
open Go.RowKit Go.Lib Go.Fq Go.Iq Go.Nq Go.Ow
set_option linter.unusedVariables false
set_option linter.unusedSimpArgs false
set_option maxRecDepth 100000

end Go.Proofs.YtjlfpjjfldbknaaGreat
end

section
namespace Go.Proofs.YtjlfpjjfldbknaaGreat
open Go.RowKit Go.Lib Go.Fq Go.Iq Go.Nq Go.Ow
set_option linter.unusedVariables false
set_option linter.unusedSimpArgs false
set_option maxRecDepth 100000

set_option maxHeartbeats 8000000 in
theorem rSame_any (G : Gr) (na1 na2 la1 la2 : Option Addr) (nc1 nc2 lc1 lc2 : Nat) (w : World) (hN1 : NodesIn w w.heap.size G.nodes na1) (hN2 : NodesIn w w.heap.size G.nodes na2) (hL1 : LinksIn w w.heap.size G.links la1) (hL2 : LinksIn w w.heap.size G.links la2) (hn : G.nodes.length < 4611686018427387904) (hl : G.links.length < 4611686018427387904) :
    Calls Tryz.prog 18 #[.agg #[.slice na1 G.nodes.length nc1, .slice la1 G.links.length lc1], .agg #[.slice na2 G.nodes.length nc2, .slice la2 G.links.length lc2]] w fun e w' => e = .returned (.bool true) ∧ Below w.heap.size w w' := by
  have hst := g_storeL
  obtain ⟨W1, hW1⟩ : ∃ W1, W1 = w.alloc (.cells #[.slice na1 G.nodes.length nc1, .slice la1 G.links.length lc1] 25) := ⟨_, rfl⟩
  obtain ⟨W2, hW2⟩ : ∃ W2, W2 = W1.alloc (.cells #[.slice na2 G.nodes.length nc2, .slice la2 G.links.length lc2] 25) := ⟨_, rfl⟩
  have b1 : Below w.heap.size w W1 := by rw [hW1]; exact gAl _ _
  have b2 : Below W1.heap.size W1 W2 := by rw [hW2]; exact gAl _ _
  have s1 : W1.heap.size = w.heap.size + 1 := by rw [hW1]; simp
  have s2 : W2.heap.size = W1.heap.size + 1 := by rw [hW2]; simp
  have r1 : W1.heap[w.heap.size]? = some (.cells #[.slice na1 G.nodes.length nc1, .slice la1 G.links.length lc1] 25 (0, 0)) := by rw [hW1]; exact heap_alloc_new w _
  have r2 : W2.heap[W1.heap.size]? = some (.cells #[.slice na2 G.nodes.length nc2, .slice la2 G.links.length lc2] 25 (0, 0)) := by rw [hW2]; exact heap_alloc_new W1 _
  have hb2 : Below w.heap.size w W2 := gNx b1 b2
  have q1 : W2.heap[w.heap.size]? = some (.cells #[.slice na1 G.nodes.length nc1, .slice la1 G.links.length lc1] 25 (0, 0)) := (b2.block _ (by omega)).trans r1
  have HKG : Hid (∀ V, Below W2.heap.size W2 V → V.cell? ⟨w.heap.size, 0, none⟩ = some (.slice na1 G.nodes.length nc1) ∧ V.cell? ⟨w.heap.size, 1, none⟩ = some (.slice la1 G.links.length lc1) ∧ V.cell? ⟨W1.heap.size, 0, none⟩ = some (.slice na2 G.nodes.length nc2) ∧ V.cell? ⟨W1.heap.size, 1, none⟩ = some (.slice la2 G.links.length lc2)) := Lib.hid (fun V hV => by
    have h1 := (hV.block w.heap.size (by omega)).trans q1
    have h2 := (hV.block W1.heap.size (by omega)).trans r2
    exact ⟨by rw [cell_of_row V _ 0 _ _ (0, 0) h1]; rfl, by rw [cell_of_row V _ 1 _ _ (0, 0) h1]; rfl, by rw [cell_of_row V _ 0 _ _ (0, 0) h2]; rfl, by rw [cell_of_row V _ 1 _ _ (0, 0) h2]; rfl⟩)
  have HB2 := Lib.hid hb2
  have HN1 : Hid (∀ V, Below W2.heap.size W2 V → NodesIn V V.heap.size G.nodes na1) := Lib.hid (fun V hV => hN1.kept (fun i hi => (gNx hb2 hV).block i hi) (gNx hb2 hV).size)
  have HN2 : Hid (∀ V, Below W2.heap.size W2 V → NodesIn V V.heap.size G.nodes na2) := Lib.hid (fun V hV => hN2.kept (fun i hi => (gNx hb2 hV).block i hi) (gNx hb2 hV).size)
  have HL1 : Hid (∀ V, Below W2.heap.size W2 V → LinksIn V V.heap.size G.links la1) := Lib.hid (fun V hV => hL1.kept (fun i hi => (gNx hb2 hV).block i hi) (gNx hb2 hV).size)
  have HL2 : Hid (∀ V, Below W2.heap.size W2 V → LinksIn V V.heap.size G.links la2) := Lib.hid (fun V hV => hL2.kept (fun i hi => (gNx hb2 hV).block i hi) (gNx hb2 hV).size)
  have HSZ : Hid (G.nodes.length < 4611686018427387904 ∧ G.links.length < 4611686018427387904) := Lib.hid ⟨hn, hl⟩
  have z0 : ((G.nodes.length : Int) != (G.nodes.length : Int)) = false := by simp
  have z1 : ((G.links.length : Int) != (G.links.length : Int)) = false := by simp
  clear hN1 hN2 hL1 hL2 hn hl b1 b2 r1 r2 q1 hb2 s2
  go_enter Tryz.func18, Tryz.ntmps18
  go_upto_region 1 with (fail)
  rw [← hW1, ← hW2, ← s1]
  clear hW1 hW2 s1
  obtain ⟨g0, g1, g2, g3⟩ := HKG.out W2 (Below.refl _ _)
  go_wp2_with fail
  clear g0 g1 g2 g3 z0 z1
  go_loopw [5] (fun v wr => ∃ (k : Nat), v = .int .i64 (k : Int) ∧ k ≤ G.nodes.length ∧ Below W2.heap.size W2 wr) (fun v _ => G.nodes.length - (RowKit.intOf v).toNat)
  case atStart => exact ⟨0, rfl, by omega, Below.refl _ _⟩
  case round =>
    obtain ⟨k, rfl, hk, hbel⟩ := hrel
    by_cases hlt : k < G.nodes.length
    · 
      have hlti : (k : Int) < (G.nodes.length : Int) := by omega
      have hk0 : (0 : Int) ≤ (k : Int) := by omega
      have hkw : IntKind.i64.wrap ((k : Int) + 1) = (k : Int) + 1 := by rw [IntKind.wrap_i64]; have := HSZ.out; omega
      obtain ⟨b1, o1, rfl, hb1, hc1⟩ := (HN1.out wr hbel).at k hlt
      obtain ⟨b2, o2, rfl, hb2, hc2⟩ := (HN2.out wr hbel).at k hlt
      have hd1 := hc1 k hlt
      have hd2 := hc2 k hlt
      have HKK : Hid (∀ V, Below wr.heap.size wr V → V.cell? ⟨w.heap.size, 0, none⟩ = some (.slice (some ⟨b1, o1, none⟩) G.nodes.length nc1) ∧ V.cell? ⟨W1.heap.size, 0, none⟩ = some (.slice (some ⟨b2, o2, none⟩) G.nodes.length nc2) ∧ NdAt V b1 (o1 + k * 3) G.nodes[k] ∧ NdAt V b2 (o2 + k * 3) G.nodes[k]) := Lib.hid (fun V hV => by
        obtain ⟨y0, y1, y2, y3⟩ := HKG.out V (gNx hbel hV)
        exact ⟨y0, y2, hd1.kept (hV.block _ hb1), hd2.kept (hV.block _ hb2)⟩)
      have HB := Lib.hid hbel
      obtain ⟨g0, g1, g2, g3⟩ := HKG.out wr hbel
      clear hc1 hc2 hd1 hd2 hbel hb1 hb2
      generalize G.nodes[k] = nd at *
      go_upto_region 6 with (fail)
      clear g0 g1 g2 g3
      obtain ⟨id, up, mark⟩ := nd
      refine wp_region_held_drew (S := fun V => Below wr.heap.size wr V) (by kernel_rfl) (Below.drew (Below.refl _ _)) (fun hH => ?_)
      have B0 : Hid (Below wr.heap.size wr wr.drew) := Lib.hid (Below.drew (Below.refl _ _))
      generalize wr.drew = V0 at *
      refine tk 0 (by assumption) rfl (by kernel_rfl) (fun _ _ _ h => h) (fun V hV => by go_simp; try with_reducible rfl) ?_
      try simp only [Act.put, sqA, sqB, sqC, sqD, sqE, sqF]
      refine tk 1 (by assumption) rfl (by kernel_rfl) (fun _ _ _ h => h) (fun V hV => by obtain ⟨x0, x1, ⟨c0, c1, c2⟩, ⟨e0, e1, e2⟩⟩ := HKK.out V hV; go_simp; try with_reducible rfl) ?_
      try simp only [Act.put, sqA, sqB, sqC, sqD, sqE, sqF]
      refine tk 2 (by assumption) rfl (by kernel_rfl) (fun _ _ _ h => h) (fun V hV => by go_simp; try with_reducible rfl) ?_
      try simp only [Act.put, sqA, sqB, sqC, sqD, sqE, sqF]
      refine tk 3 (by assumption) rfl (by kernel_rfl) (fun _ _ _ h => h) (fun V hV => by go_simp; try with_reducible rfl) ?_
      try simp only [Act.put, sqA, sqB, sqC, sqD, sqE, sqF]
      refine tk 4 (by assumption) rfl (by kernel_rfl) (fun _ _ _ h => h) (fun V hV => by obtain ⟨x0, x1, ⟨c0, c1, c2⟩, ⟨e0, e1, e2⟩⟩ := HKK.out V hV; go_simp; try with_reducible rfl) ?_
      try simp only [Act.put, sqA, sqB, sqC, sqD, sqE, sqF]
      refine tk 5 (by assumption) rfl (by kernel_rfl) (fun _ _ _ h => h) (fun V hV => by go_simp; try with_reducible rfl) ?_
      try simp only [Act.put, sqA, sqB, sqC, sqD, sqE, sqF]
      refine tk 6 (by assumption) rfl (by kernel_rfl) (fun _ _ _ h => h) (fun V hV => by obtain ⟨x0, x1, ⟨c0, c1, c2⟩, ⟨e0, e1, e2⟩⟩ := HKK.out V hV; go_simp; try with_reducible rfl) ?_
      try simp only [Act.put, sqA, sqB, sqC, sqD, sqE, sqF]
      refine tk 7 (by assumption) rfl (by kernel_rfl) (fun _ _ _ h => h) (fun V hV => by go_simp; try with_reducible rfl) ?_
      try simp only [Act.put, sqA, sqB, sqC, sqD, sqE, sqF]
      refine tk 8 (by assumption) rfl (by kernel_rfl) (fun _ _ _ h => h) (fun V hV => by go_simp; try with_reducible rfl) ?_
      try simp only [Act.put, sqA, sqB, sqC, sqD, sqE, sqF]
      refine tk 9 (by assumption) rfl (by kernel_rfl) (fun _ _ _ h => h) (fun V hV => by obtain ⟨x0, x1, ⟨c0, c1, c2⟩, ⟨e0, e1, e2⟩⟩ := HKK.out V hV; go_simp; try with_reducible rfl) ?_
      try simp only [Act.put, sqA, sqB, sqC, sqD, sqE, sqF]
      refine tk 10 (by assumption) rfl (by kernel_rfl) (fun _ _ _ h => h) (fun V hV => by go_simp; try with_reducible rfl) ?_
      try simp only [Act.put, sqA, sqB, sqC, sqD, sqE, sqF]
      refine wpAnyH_done (by kernel_rfl) ?_ _
      go_wp2_with fail
      refine ⟨⟨k + 1, by simp, by omega, gNx HB.out B0.out⟩, ?_⟩
      simp [RowKit.intOf]; omega
    · have hnk : ¬ (k : Int) < (G.nodes.length : Int) := by omega
      obtain ⟨g0, g1, g2, g3⟩ := HKG.out wr hbel
      have HBE1 := Lib.hid hbel
      clear hlt hbel
      go_wp2_with fail
      clear g0 g1 g2 g3
      go_loopw [6] (fun v wr => ∃ (k : Nat), v = .int .i64 (k : Int) ∧ k ≤ G.links.length ∧ Below W2.heap.size W2 wr) (fun v _ => G.links.length - (RowKit.intOf v).toNat)
      case atStart => exact ⟨0, rfl, by omega, HBE1.out⟩
      case round =>
        clear hk
        obtain ⟨k, rfl, hk, hbel⟩ := hrel
        by_cases hlt : k < G.links.length
        · 
          have hlti : (k : Int) < (G.links.length : Int) := by omega
          have hk0 : (0 : Int) ≤ (k : Int) := by omega
          have hkw : IntKind.i64.wrap ((k : Int) + 1) = (k : Int) + 1 := by rw [IntKind.wrap_i64]; have := HSZ.out; omega
          obtain ⟨b1, o1, rfl, hb1, hc1⟩ := (HL1.out wr hbel).at k hlt
          obtain ⟨b2, o2, rfl, hb2, hc2⟩ := (HL2.out wr hbel).at k hlt
          have hd1 := hc1 k hlt
          have hd2 := hc2 k hlt
          have HKK : Hid (∀ V, Below wr.heap.size wr V → V.cell? ⟨w.heap.size, 1, none⟩ = some (.slice (some ⟨b1, o1, none⟩) G.links.length lc1) ∧ V.cell? ⟨W1.heap.size, 1, none⟩ = some (.slice (some ⟨b2, o2, none⟩) G.links.length lc2) ∧ LkAt V b1 (o1 + k * 4) G.links[k] ∧ LkAt V b2 (o2 + k * 4) G.links[k]) := Lib.hid (fun V hV => by
            obtain ⟨y0, y1, y2, y3⟩ := HKG.out V (gNx hbel hV)
            exact ⟨y1, y3, hd1.kept (hV.block _ hb1), hd2.kept (hV.block _ hb2)⟩)
          have HB := Lib.hid hbel
          obtain ⟨g0, g1, g2, g3⟩ := HKG.out wr hbel
          clear hc1 hc2 hd1 hd2 hbel hb1 hb2
          generalize G.links[k] = y at *
          go_upto_region 11 with (fail)
          clear g0 g1 g2 g3
          refine wp_region_held_drew (S := fun V => Below wr.heap.size wr V) (by kernel_rfl) (Below.drew (Below.refl _ _)) (fun hH => ?_)
          have B0 : Hid (Below wr.heap.size wr wr.drew) := Lib.hid (Below.drew (Below.refl _ _))
          generalize wr.drew = V0 at *
          refine tk 0 (by assumption) rfl (by kernel_rfl) (fun _ _ _ h => h) (fun V hV => by go_simp; try with_reducible rfl) ?_
          try simp only [Act.put, sqA, sqB, sqC, sqD, sqE, sqF]
          refine tk 1 (by assumption) rfl (by kernel_rfl) (fun _ _ _ h => h) (fun V hV => by obtain ⟨x0, x1, ⟨c0, c1, c2, c3⟩, ⟨e0, e1, e2, e3⟩⟩ := HKK.out V hV; go_simp; try with_reducible rfl) ?_
          try simp only [Act.put, sqA, sqB, sqC, sqD, sqE, sqF]
          refine tk 2 (by assumption) rfl (by kernel_rfl) (fun _ _ _ h => h) (fun V hV => by go_simp; try with_reducible rfl) ?_
          try simp only [Act.put, sqA, sqB, sqC, sqD, sqE, sqF]
          refine tk 3 (by assumption) rfl (by kernel_rfl) (fun _ _ _ h => h) (fun V hV => by go_simp; try with_reducible rfl) ?_
          try simp only [Act.put, sqA, sqB, sqC, sqD, sqE, sqF]
          refine tk 4 (by assumption) rfl (by kernel_rfl) (fun _ _ _ h => h) (fun V hV => by obtain ⟨x0, x1, ⟨c0, c1, c2, c3⟩, ⟨e0, e1, e2, e3⟩⟩ := HKK.out V hV; go_simp; try with_reducible rfl) ?_
          try simp only [Act.put, sqA, sqB, sqC, sqD, sqE, sqF]
          refine tk 5 (by assumption) rfl (by kernel_rfl) (fun _ _ _ h => h) (fun V hV => by go_simp; try with_reducible rfl) ?_
          try simp only [Act.put, sqA, sqB, sqC, sqD, sqE, sqF]
          refine tk 6 (by assumption) rfl (by kernel_rfl) (fun _ _ _ h => h) (fun V hV => by obtain ⟨x0, x1, ⟨c0, c1, c2, c3⟩, ⟨e0, e1, e2, e3⟩⟩ := HKK.out V hV; go_simp; try with_reducible rfl) ?_
          try simp only [Act.put, sqA, sqB, sqC, sqD, sqE, sqF]
          refine tk 7 (by assumption) rfl (by kernel_rfl) (fun _ _ _ h => h) (fun V hV => by go_simp; try with_reducible rfl) ?_
          try simp only [Act.put, sqA, sqB, sqC, sqD, sqE, sqF]
          refine tk 8 (by assumption) rfl (by kernel_rfl) (fun _ _ _ h => h) (fun V hV => by go_simp; try with_reducible rfl) ?_
          try simp only [Act.put, sqA, sqB, sqC, sqD, sqE, sqF]
          refine tk 9 (by assumption) rfl (by kernel_rfl) (fun _ _ _ h => h) (fun V hV => by obtain ⟨x0, x1, ⟨c0, c1, c2, c3⟩, ⟨e0, e1, e2, e3⟩⟩ := HKK.out V hV; go_simp; try with_reducible rfl) ?_
          try simp only [Act.put, sqA, sqB, sqC, sqD, sqE, sqF]
          refine wpAnyH_ready (rs := [10, 11]) (by kernel_rfl) (by simp) ?_
          refine AllReadyH.cons (o := _) rfl (fun K hK => ?_) (AllReadyH.cons (o := _) rfl (fun K hK => ?_) (AllReadyH.nil))
          · go_simp
            refine hK.out _ _ (by first | exact gNx B0.out (gAl _ _) | exact gNx B0.out (gNx (gAl _ _) (gAl _ _))) (fun hH => ?_)
            clear hK K
            try simp only [Act.put, sqA, sqB, sqC, sqD, sqE, sqF]
            refine wpAnyH_ready (rs := [11]) (by kernel_rfl) (by simp) ?_
            refine AllReadyH.cons (o := _) rfl (fun K hK => ?_) AllReadyH.nil
            go_simp
            refine hK.out _ _ (by first | exact gNx B0.out (gAl _ _) | exact gNx B0.out (gNx (gAl _ _) (gAl _ _))) (fun hH => ?_)
            clear hK K
            try simp only [Act.put, sqA, sqB, sqC, sqD, sqE, sqF]
            refine wpAnyH_ready (rs := [12]) (by kernel_rfl) (by simp) ?_
            refine AllReadyH.cons (o := _) rfl (fun K hK => ?_) AllReadyH.nil
            go_simp
            refine hK.out _ _ (by first | exact gNx B0.out (gNx (gAl _ _) (gAl _ _))) (fun hH => ?_)
            clear hK K
            try simp only [Act.put, sqA, sqB, sqC, sqD, sqE, sqF]
            refine wpAnyH_ready (rs := [13]) (by kernel_rfl) (by simp) ?_
            refine AllReadyH.cons (o := _) rfl (fun K hK => ?_) AllReadyH.nil
            go_simp
            refine hK.out _ _ (by first | exact gNx B0.out (gNx (gAl _ _) (gAl _ _))) (fun hH => ?_)
            clear hK K
            try simp only [Act.put, sqA, sqB, sqC, sqD, sqE, sqF]
            refine wpAnyH_done (by kernel_rfl) ?_ _
            obtain ⟨V9, hV9⟩ : ∃ V9, V9 = (V0.alloc (.cells #[.int .i64 y.a, .int .i64 y.b, .float .f64 y.w, .bool y.up] 62)).alloc (.cells #[.int .i64 y.a, .int .i64 y.b, .float .f64 y.w, .bool y.up] 62) := ⟨_, rfl⟩
            try rw [← hV9]
            have B9 : Hid (Below wr.heap.size wr V9) := Lib.hid (by rw [hV9]; exact gNx B0.out (gNx (gAl _ _) (gAl _ _)))
            have q0 : V9.heap[V0.heap.size]? = some (.cells #[.int .i64 y.a, .int .i64 y.b, .float .f64 y.w, .bool y.up] 62 (0, 0)) := by rw [hV9, (gAl _ _).block _ (by simp)]; exact heap_alloc_new V0 _
            have q1 : V9.heap[V0.heap.size + 1]? = some (.cells #[.int .i64 y.a, .int .i64 y.b, .float .f64 y.w, .bool y.up] 62 (0, 0)) := by rw [hV9]; have := heap_alloc_new (V0.alloc (.cells #[.int .i64 y.a, .int .i64 y.b, .float .f64 y.w, .bool y.up] 62)) (.cells #[.int .i64 y.a, .int .i64 y.b, .float .f64 y.w, .bool y.up] 62); simpa using this
            clear hV9
            have c0 : V9.cell? ⟨V0.heap.size, 0, none⟩ = some (.int .i64 y.a) := by rw [cell_of_row V9 _ 0 _ _ (0, 0) q0]; rfl
            have c1 : V9.cell? ⟨V0.heap.size, 1, none⟩ = some (.int .i64 y.b) := by rw [cell_of_row V9 _ 1 _ _ (0, 0) q0]; rfl
            have c2 : V9.cell? ⟨V0.heap.size, 2, none⟩ = some (.float .f64 y.w) := by rw [cell_of_row V9 _ 2 _ _ (0, 0) q0]; rfl
            have c3 : V9.cell? ⟨V0.heap.size, 3, none⟩ = some (.bool y.up) := by rw [cell_of_row V9 _ 3 _ _ (0, 0) q0]; rfl
            have e0 : V9.cell? ⟨V0.heap.size + 1, 0, none⟩ = some (.int .i64 y.a) := by rw [cell_of_row V9 _ 0 _ _ (0, 0) q1]; rfl
            have e1 : V9.cell? ⟨V0.heap.size + 1, 1, none⟩ = some (.int .i64 y.b) := by rw [cell_of_row V9 _ 1 _ _ (0, 0) q1]; rfl
            have e2 : V9.cell? ⟨V0.heap.size + 1, 2, none⟩ = some (.float .f64 y.w) := by rw [cell_of_row V9 _ 2 _ _ (0, 0) q1]; rfl
            have e3 : V9.cell? ⟨V0.heap.size + 1, 3, none⟩ = some (.bool y.up) := by rw [cell_of_row V9 _ 3 _ _ (0, 0) q1]; rfl
            have z0 : (y.a != y.a) = false := by simp
            have z1 : (y.b != y.b) = false := by simp
            have z2 : (y.up != y.up) = false := by simp
            have z3 : ((y.w : Int) == (y.w : Int)) = true := by simp
            clear q0 q1
            go_wp2_with (go_at_call 27; refine (same_any _ _ _).mono ?_; rintro e w2 ⟨rfl, rfl⟩)
            refine ⟨⟨k + 1, by simp, by omega, gNx HB.out B9.out⟩, ?_⟩
            simp [RowKit.intOf]; omega
          · go_simp
            refine hK.out _ _ (by first | exact gNx B0.out (gAl _ _) | exact gNx B0.out (gNx (gAl _ _) (gAl _ _))) (fun hH => ?_)
            clear hK K
            try simp only [Act.put, sqA, sqB, sqC, sqD, sqE, sqF]
            refine wpAnyH_ready (rs := [10]) (by kernel_rfl) (by simp) ?_
            refine AllReadyH.cons (o := _) rfl (fun K hK => ?_) AllReadyH.nil
            go_simp
            refine hK.out _ _ (by first | exact gNx B0.out (gAl _ _) | exact gNx B0.out (gNx (gAl _ _) (gAl _ _))) (fun hH => ?_)
            clear hK K
            try simp only [Act.put, sqA, sqB, sqC, sqD, sqE, sqF]
            refine wpAnyH_ready (rs := [12]) (by kernel_rfl) (by simp) ?_
            refine AllReadyH.cons (o := _) rfl (fun K hK => ?_) AllReadyH.nil
            go_simp
            refine hK.out _ _ (by first | exact gNx B0.out (gNx (gAl _ _) (gAl _ _))) (fun hH => ?_)
            clear hK K
            try simp only [Act.put, sqA, sqB, sqC, sqD, sqE, sqF]
            refine wpAnyH_ready (rs := [13]) (by kernel_rfl) (by simp) ?_
            refine AllReadyH.cons (o := _) rfl (fun K hK => ?_) AllReadyH.nil
            go_simp
            refine hK.out _ _ (by first | exact gNx B0.out (gNx (gAl _ _) (gAl _ _))) (fun hH => ?_)
            clear hK K
            try simp only [Act.put, sqA, sqB, sqC, sqD, sqE, sqF]
            refine wpAnyH_done (by kernel_rfl) ?_ _
            obtain ⟨V9, hV9⟩ : ∃ V9, V9 = (V0.alloc (.cells #[.int .i64 y.a, .int .i64 y.b, .float .f64 y.w, .bool y.up] 62)).alloc (.cells #[.int .i64 y.a, .int .i64 y.b, .float .f64 y.w, .bool y.up] 62) := ⟨_, rfl⟩
            try rw [← hV9]
            have B9 : Hid (Below wr.heap.size wr V9) := Lib.hid (by rw [hV9]; exact gNx B0.out (gNx (gAl _ _) (gAl _ _)))
            have q0 : V9.heap[V0.heap.size]? = some (.cells #[.int .i64 y.a, .int .i64 y.b, .float .f64 y.w, .bool y.up] 62 (0, 0)) := by rw [hV9, (gAl _ _).block _ (by simp)]; exact heap_alloc_new V0 _
            have q1 : V9.heap[V0.heap.size + 1]? = some (.cells #[.int .i64 y.a, .int .i64 y.b, .float .f64 y.w, .bool y.up] 62 (0, 0)) := by rw [hV9]; have := heap_alloc_new (V0.alloc (.cells #[.int .i64 y.a, .int .i64 y.b, .float .f64 y.w, .bool y.up] 62)) (.cells #[.int .i64 y.a, .int .i64 y.b, .float .f64 y.w, .bool y.up] 62); simpa using this
            clear hV9
            have c0 : V9.cell? ⟨V0.heap.size, 0, none⟩ = some (.int .i64 y.a) := by rw [cell_of_row V9 _ 0 _ _ (0, 0) q0]; rfl
            have c1 : V9.cell? ⟨V0.heap.size, 1, none⟩ = some (.int .i64 y.b) := by rw [cell_of_row V9 _ 1 _ _ (0, 0) q0]; rfl
            have c2 : V9.cell? ⟨V0.heap.size, 2, none⟩ = some (.float .f64 y.w) := by rw [cell_of_row V9 _ 2 _ _ (0, 0) q0]; rfl
            have c3 : V9.cell? ⟨V0.heap.size, 3, none⟩ = some (.bool y.up) := by rw [cell_of_row V9 _ 3 _ _ (0, 0) q0]; rfl
            have e0 : V9.cell? ⟨V0.heap.size + 1, 0, none⟩ = some (.int .i64 y.a) := by rw [cell_of_row V9 _ 0 _ _ (0, 0) q1]; rfl
            have e1 : V9.cell? ⟨V0.heap.size + 1, 1, none⟩ = some (.int .i64 y.b) := by rw [cell_of_row V9 _ 1 _ _ (0, 0) q1]; rfl
            have e2 : V9.cell? ⟨V0.heap.size + 1, 2, none⟩ = some (.float .f64 y.w) := by rw [cell_of_row V9 _ 2 _ _ (0, 0) q1]; rfl
            have e3 : V9.cell? ⟨V0.heap.size + 1, 3, none⟩ = some (.bool y.up) := by rw [cell_of_row V9 _ 3 _ _ (0, 0) q1]; rfl
            have z0 : (y.a != y.a) = false := by simp
            have z1 : (y.b != y.b) = false := by simp
            have z2 : (y.up != y.up) = false := by simp
            have z3 : ((y.w : Int) == (y.w : Int)) = true := by simp
            clear q0 q1
            go_wp2_with (go_at_call 27; refine (same_any _ _ _).mono ?_; rintro e w2 ⟨rfl, rfl⟩)
            refine ⟨⟨k + 1, by simp, by omega, gNx HB.out B9.out⟩, ?_⟩
            simp [RowKit.intOf]; omega
        · have hnk : ¬ (k : Int) < (G.links.length : Int) := by omega
          obtain ⟨g0, g1, g2, g3⟩ := HKG.out wr hbel
          have HBE2 := Lib.hid hbel
          clear hlt hbel
          go_wp2_with fail
          go_ret
          exact ⟨rfl, gNx HB2.out HBE2.out⟩
end Go.Proofs.YtjlfpjjfldbknaaGreat
end

section
namespace Go.Proofs.YtjlfpjjfldbknaaGreat
open Go.RowKit Go.Lib Go.Fq Go.Iq Go.Nq Go.Ow
set_option linter.unusedVariables false
set_option linter.unusedSimpArgs false
set_option maxRecDepth 100000

end Go.Proofs.YtjlfpjjfldbknaaGreat
end

section
namespace Go.Proofs.YtjlfpjjfldbknaaGreat
open Go.RowKit Go.Lib Go.Fq Go.Iq Go.Nq Go.Ow
set_option linter.unusedVariables false
set_option linter.unusedSimpArgs false
set_option maxRecDepth 100000

theorem GrV.gin {w : World} {base : Nat} {vn vl : Value} {G : Gr} (h : GrV w base vn vl G) (n1 : G.nodes.length * 16 ≤ 140737488351232) (l1 : G.links.length * 32 ≤ 140737488351232) : ∃ na nc la lc, vn = .slice na G.nodes.length nc ∧ vl = .slice la G.links.length lc ∧ GrIn w G na la := by
  obtain ⟨na, nc, rfl, hNI, -⟩ := ownN_in h.nodes
  obtain ⟨la, lc, rfl, hLI, -⟩ := ownL_in h.links
  exact ⟨na, nc, la, lc, rfl, rfl, hNI, hLI, h.wts, n1, l1⟩
theorem rSame_gin (G : Gr) (na1 na2 la1 la2 : Option Addr) (nc1 nc2 lc1 lc2 : Nat) (w : World) (h1 : GrIn w G na1 la1) (h2 : GrIn w G na2 la2) :
    Calls Tryz.prog 18 #[.agg #[.slice na1 G.nodes.length nc1, .slice la1 G.links.length lc1], .agg #[.slice na2 G.nodes.length nc2, .slice la2 G.links.length lc2]] w fun e w' => e = .returned (.bool true) ∧ Below w.heap.size w w' :=
  rSame_any G na1 na2 la1 la2 nc1 nc2 lc1 lc2 w h1.nodes h2.nodes h1.links h2.links (by have := h1.n1; omega) (by have := h1.l1; omega)
end Go.Proofs.YtjlfpjjfldbknaaGreat
end

section
namespace Go.Proofs.YtjlfpjjfldbknaaGreat
open Go.RowKit Go.Lib Go.Fq Go.Iq Go.Nq Go.Ow
set_option linter.unusedVariables false
set_option linter.unusedSimpArgs false
set_option maxRecDepth 100000

set_option maxHeartbeats 8000000 in
theorem rNeighbours_any (G : Gr) (na : Option Addr) (nc : Nat) (la : Option Addr) (lc : Nat) (x : Int) (w : World) (hin : GrIn w G na la) :
    Calls Tryz.prog 29 #[.agg #[.slice na G.nodes.length nc, .slice la G.links.length lc], .int .i64 x] w fun e w' => NbEnds w (nbL G x) (nbE G x) e w' := by
  have hst := g_storeL
  obtain ⟨W1, hW1⟩ : ∃ W1, W1 = w.alloc (.cells #[.slice na G.nodes.length nc, .slice la G.links.length lc] 25) := ⟨_, rfl⟩
  have hb1 : Below w.heap.size w W1 := by rw [hW1]; exact gAl _ _
  have hs1 : w.heap.size < W1.heap.size := by rw [hW1]; simp
  have hc1 : W1.heap[w.heap.size]? = some (.cells #[.slice na G.nodes.length nc, .slice la G.links.length lc] 25 (0, 0)) := by rw [hW1]; exact heap_alloc_new w _
  have HKG : Hid (∀ V, Below W1.heap.size W1 V → V.cell? ⟨w.heap.size, 0, none⟩ = some (.slice na G.nodes.length nc) ∧ V.cell? ⟨w.heap.size, 1, none⟩ = some (.slice la G.links.length lc)) := Lib.hid (fun V h => by
    have hh := (h.block _ hs1).trans hc1
    exact ⟨by rw [cell_of_row V _ 0 _ _ (0, 0) hh]; rfl, by rw [cell_of_row V _ 1 _ _ (0, 0) hh]; rfl⟩)
  have HB1 := Lib.hid hb1
  have HS1 := Lib.hid (Nat.le_of_lt hs1)
  have HIN : Hid (∀ V, Below W1.heap.size W1 V → GrIn V G na la) := Lib.hid (fun V hV => hin.below (gNx hb1 hV))
  have HQ := Lib.hid hin.wts
  have HSZ : Hid (G.nodes.length * 16 ≤ 140737488351232 ∧ G.links.length * 32 ≤ 140737488351232) := Lib.hid ⟨hin.n1, hin.l1⟩
  obtain ⟨g0, g1⟩ := HKG.out W1 (Below.refl _ _)
  clear hin hb1 hs1 hc1
  by_cases hz : checkG G = 0
  case neg =>
    have HP : Hid (nbE G x = checkG G ∧ nbL G x = []) := Lib.hid ⟨nbE_no hz x, nbL_no (by rw [nbE_no hz]; exact hz)⟩
    obtain ⟨ce, hce⟩ : ∃ ce, ce = checkG G := ⟨_, rfl⟩
    have hz2 : (ce != 0) = true := by rw [hce]; simpa using hz
    have HCE := Lib.hid hce
    clear hz hce
    go_enter Tryz.func29, Tryz.ntmps29
    go_upto_region 1 with (fail)
    rw [← hW1]
    clear hW1
    go_wp2_with fail
    refine (rCheck_any G na la nc lc W1 (HIN.out W1 (Below.refl _ _)).nodes (HIN.out W1 (Below.refl _ _)).links HQ.out (by have := HSZ.out; omega) (by have := HSZ.out; omega)).mono ?_
    rintro e V1 ⟨rfl, hb⟩
    have B1 := Lib.hid hb
    clear hb g0 g1
    obtain ⟨g0, g1⟩ := HKG.out V1 B1.out
    rw [← HCE.out]
    go_wp2_with fail
    refine bodyPost_ret (results_tmp2 Tryz.results29 _ _ _) rfl ?_
    rw [HP.out.1, HP.out.2, ← HCE.out]
    exact ⟨_, rfl, own_nil _ _ _ _, (fun y hy => by cases hy), gNx HB1.out B1.out⟩
  case pos =>
    have HCK := Lib.hid hz
    obtain ⟨n1, n2, n3, n4⟩ := check_zero.1 hz
    have HNP := Lib.hid n3
    have HM1 := Lib.hid (links_iff.1 n4).2
    have HNL : Hid (G.nodes.length ≤ 256 ∧ G.links.length ≤ 4096) := Lib.hid ⟨n1, n2⟩
    clear hz n1 n2 n3 n4
    cases hh : has G.nodes x with
    | false =>
      have HP : Hid (nbE G x = 4 ∧ nbL G x = []) := Lib.hid ⟨nbE_miss HCK.out hh, nbL_no (by rw [nbE_miss HCK.out hh]; decide)⟩
      have hpl : placeV G.nodes x < 0 := (placeV_neg _ _).1.2 hh
      clear hh
      go_enter Tryz.func29, Tryz.ntmps29
      go_upto_region 1 with (fail)
      rw [← hW1]
      clear hW1
      go_wp2_with fail
      refine (rCheck_any G na la nc lc W1 (HIN.out W1 (Below.refl _ _)).nodes (HIN.out W1 (Below.refl _ _)).links HQ.out (by have := HSZ.out; omega) (by have := HSZ.out; omega)).mono ?_
      rintro e V1 ⟨rfl, hb⟩
      have B1 := Lib.hid hb
      clear hb g0 g1
      obtain ⟨g0, g1⟩ := HKG.out V1 B1.out
      rw [HCK.out]
      go_wp2_with fail
      refine (rPlace_any G.nodes na nc la G.links.length lc x V1 (HIN.out V1 B1.out).nodes HNP.out (by have := HSZ.out; omega)).mono ?_
      rintro e V2 ⟨rfl, hb⟩
      skip
      have B2 := Lib.hid (gNx B1.out hb)
      clear hb g0 g1
      go_wp2_with fail
      refine bodyPost_ret (results_tmp2 Tryz.results29 _ _ _) rfl ?_
      rw [HP.out.1, HP.out.2]
      exact ⟨_, rfl, own_nil _ _ _ _, (fun y hy => by cases hy), gNx HB1.out B2.out⟩
    | true =>
      have HP : Hid (nbE G x = 0 ∧ nbL G x = neighL G x) := Lib.hid ⟨nbE_ok HCK.out hh, nbL_ok (nbE_ok HCK.out hh)⟩
      have hpl : ¬ placeV G.nodes x < 0 := fun h => by rw [(placeV_neg _ _).1.1 h] at hh; cases hh
      clear hh
      go_enter Tryz.func29, Tryz.ntmps29
      go_upto_region 1 with (fail)
      rw [← hW1]
      clear hW1
      go_wp2_with fail
      refine (rCheck_any G na la nc lc W1 (HIN.out W1 (Below.refl _ _)).nodes (HIN.out W1 (Below.refl _ _)).links HQ.out (by have := HSZ.out; omega) (by have := HSZ.out; omega)).mono ?_
      rintro e V1 ⟨rfl, hb⟩
      have B1 := Lib.hid hb
      clear hb g0 g1
      obtain ⟨g0, g1⟩ := HKG.out V1 B1.out
      rw [HCK.out]
      go_wp2_with fail
      refine (rPlace_any G.nodes na nc la G.links.length lc x V1 (HIN.out V1 B1.out).nodes HNP.out (by have := HSZ.out; omega)).mono ?_
      rintro e V2 ⟨rfl, hb⟩
      have B2 := Lib.hid (gNx B1.out (gNx hb (gAl V2 (.cells #[] 62))))
      clear hb g0 g1
      go_wp2_with fail
      clear hpl
      go_loopw [7, 8] (fun u v wr => ∃ k : Nat, v = .int .i64 (k : Int) ∧ k ≤ G.nodes.length ∧ Own wr W1.heap.size 62 4 u (found G x k).length (lkRow (found G x k)) ∧ Below W1.heap.size W1 wr) (fun _ v _ => G.nodes.length - (RowKit.intOf v).toNat)
      case atStart => exact ⟨0, rfl, by omega, Or.inl ⟨rfl, rfl, _, rfl⟩, B2.out⟩
      case round =>
        obtain ⟨k, rfl, hk, how, hbel⟩ := hrel
        obtain ⟨g0, g1⟩ := HKG.out wr hbel
        by_cases hlt : k < G.nodes.length
        · have hlti : (k : Int) < (G.nodes.length : Int) := by omega
          have hk0 : (0 : Int) ≤ (k : Int) := by omega
          have hkw : IntKind.i64.wrap ((k : Int) + 1) = (k : Int) + 1 := by rw [IntKind.wrap_i64]; have := HSZ.out; omega
          obtain ⟨b, o, rfl, hb, hc⟩ := (HIN.out wr hbel).nodes.at k hlt
          have hck := hc k hlt
          have HND : Hid (∀ V, Below wr.heap.size wr V → NdAt V b (o + k * 3) G.nodes[k]) := Lib.hid (fun V hV => hck.kept (hV.block b hb))
          have HFG := Lib.hid (found_go G x k hlt)
          have HFIT : Hid (((found G x k).length + 1) * 32 ≤ 140737488355328) := Lib.hid (by have := found_len G x k; have := HNL.out; omega)
          have HOW := Lib.hid how
          have HBEL := Lib.hid hbel
          clear hc hck how hbel hb
          generalize G.nodes[k] = nd at *
          obtain ⟨ua, uc, rfl⟩ := HOW.out.slice
          go_upto_region 10 with (fail)
          clear g0 g1
          refine wp_region_held_drew (S := fun V => Below wr.heap.size wr V) (by kernel_rfl) (Below.drew (Below.refl _ _)) (fun hH => ?_)
          have B0 : Hid (Below wr.heap.size wr wr.drew) := Lib.hid (Below.drew (Below.refl _ _))
          generalize wr.drew = V0 at *
          refine tk 0 (by assumption) rfl (by kernel_rfl) (fun _ _ _ h => h) (fun V hV => by obtain ⟨g0, g1⟩ := HKG.out V (gNx HBEL.out hV); obtain ⟨c0, c1, c2⟩ := HND.out V hV; go_simp; try with_reducible rfl) ?_
          try simp only [Act.put, sqA, sqB, sqC, sqD, sqE, sqF]
          refine tk 1 (by assumption) rfl (by kernel_rfl) (fun _ _ _ h => h) (fun V hV => by go_simp; try with_reducible rfl) ?_
          try simp only [Act.put, sqA, sqB, sqC, sqD, sqE, sqF]
          refine tk 2 (by assumption) rfl (by kernel_rfl) (fun _ _ _ h => h) (fun V hV => by go_simp; try with_reducible rfl) ?_
          try simp only [Act.put, sqA, sqB, sqC, sqD, sqE, sqF]
          refine tk 3 (by assumption) rfl (by kernel_rfl) (fun _ _ _ h => h) (fun V hV => by obtain ⟨g0, g1⟩ := HKG.out V (gNx HBEL.out hV); obtain ⟨c0, c1, c2⟩ := HND.out V hV; go_simp; try with_reducible rfl) ?_
          try simp only [Act.put, sqA, sqB, sqC, sqD, sqE, sqF]
          refine tk 4 (by assumption) rfl (by kernel_rfl) (fun _ _ _ h => h) (fun V hV => by go_simp; try with_reducible rfl) ?_
          try simp only [Act.put, sqA, sqB, sqC, sqD, sqE, sqF]
          refine tk 5 (by assumption) rfl (by kernel_rfl) (fun _ _ _ h => h) (fun V hV => by go_simp; try with_reducible rfl) ?_
          try simp only [Act.put, sqA, sqB, sqC, sqD, sqE, sqF]
          refine tk 6 (by assumption) rfl (by kernel_rfl) (fun _ _ _ h => h) (fun V hV => by go_simp; try with_reducible rfl) ?_
          try simp only [Act.put, sqA, sqB, sqC, sqD, sqE, sqF]
          refine tk 7 (by assumption) rfl (by kernel_rfl) (fun _ _ _ h => h) (fun V hV => by obtain ⟨g0, g1⟩ := HKG.out V (gNx HBEL.out hV); obtain ⟨c0, c1, c2⟩ := HND.out V hV; go_simp; try with_reducible rfl) ?_
          try simp only [Act.put, sqA, sqB, sqC, sqD, sqE, sqF]
          refine wpAnyH_ready (rs := [8]) (by kernel_rfl) (by simp) ?_
          refine AllReadyH.cons (o := _) rfl (fun K hK => ?_) AllReadyH.nil
          go_simp
          refine (rLink_any G.links la lc (some ⟨b, o, none⟩) G.nodes.length nc x nd.id V0 (HIN.out V0 (gNx HBEL.out B0.out)).links HM1.out (by have := HSZ.out; omega)).mono ?_
          rintro e V5 ⟨rfl, hb⟩
          have B5 := Lib.hid (gNx B0.out hb)
          clear hb
          go_wp2_with fail
          refine hK.out _ _ B5.out (fun hH => ?_)
          clear hK K
          try simp only [Act.put, sqA, sqB, sqC, sqD, sqE, sqF]
          refine tk 9 (by assumption) rfl (by kernel_rfl) (fun _ _ _ h => h) (fun V hV => by go_simp; try with_reducible rfl) ?_
          try simp only [Act.put, sqA, sqB, sqC, sqD, sqE, sqF]
          refine wpAnyH_done (by kernel_rfl) ?_ _
          cases hh : hasL G.links x nd.id with
          | false =>
            have hlv : ¬ (0 : Int) ≤ linkV G.links x nd.id := fun h => by rw [(linkV_neg _ _ _).2.1 h] at hh; cases hh
            have HX : Hid (found G x (k + 1) = found G x k) := Lib.hid (by rw [HFG.out]; unfold pick; rw [if_neg (by rw [hh]; simp), List.append_nil])
            have HLK := Lib.hid trivial
            clear hh
            go_upto_region 11 with (fail)
            refine wp_region_held_drew (S := fun V => Below wr.heap.size wr V) (by kernel_rfl) (Below.drew B5.out) (fun hH => ?_)
            have B6 : Hid (Below wr.heap.size wr V5.drew) := Lib.hid (Below.drew B5.out)
            generalize V5.drew = V6 at *
            refine tk 0 (by assumption) rfl (by kernel_rfl) (fun _ _ _ h => h) (fun V hV => by go_simp; try with_reducible rfl) ?_
            try simp only [Act.put, sqA, sqB, sqC, sqD, sqE, sqF]
            refine tk 1 (by assumption) rfl (by kernel_rfl) (fun _ _ _ h => h) (fun V hV => by go_simp; try with_reducible rfl) ?_
            try simp only [Act.put, sqA, sqB, sqC, sqD, sqE, sqF]
            refine tk 2 (by assumption) rfl (by kernel_rfl) (fun _ _ _ h => h) (fun V hV => by go_simp; try with_reducible rfl) ?_
            try simp only [Act.put, sqA, sqB, sqC, sqD, sqE, sqF]
            refine wpAnyH_take (i := 3) (oi := _) (v := undef) rfl (by kernel_rfl) (by kernel_rfl) (by kernel_rfl) (fun _ _ _ h => h) (Or.inr ⟨by kernel_rfl, rfl⟩) (by assumption) ?_
            try simp only [Act.put, sqA, sqB, sqC, sqD, sqE, sqF]
            refine wpAnyH_take (i := 4) (oi := _) (v := undef) rfl (by kernel_rfl) (by kernel_rfl) (by kernel_rfl) (fun _ _ _ h => h) (Or.inr ⟨by kernel_rfl, rfl⟩) (by assumption) ?_
            try simp only [Act.put, sqA, sqB, sqC, sqD, sqE, sqF]
            refine wpAnyH_take (i := 5) (oi := _) (v := undef) rfl (by kernel_rfl) (by kernel_rfl) (by kernel_rfl) (fun _ _ _ h => h) (Or.inr ⟨by kernel_rfl, rfl⟩) (by assumption) ?_
            try simp only [Act.put, sqA, sqB, sqC, sqD, sqE, sqF]
            refine wpAnyH_take (i := 6) (oi := _) (v := undef) rfl (by kernel_rfl) (by kernel_rfl) (by kernel_rfl) (fun _ _ _ h => h) (Or.inr ⟨by kernel_rfl, rfl⟩) (by assumption) ?_
            try simp only [Act.put, sqA, sqB, sqC, sqD, sqE, sqF]
            refine wpAnyH_take (i := 7) (oi := _) (v := undef) rfl (by kernel_rfl) (by kernel_rfl) (by kernel_rfl) (fun _ _ _ h => h) (Or.inr ⟨by kernel_rfl, rfl⟩) (by assumption) ?_
            try simp only [Act.put, sqA, sqB, sqC, sqD, sqE, sqF]
            refine wpAnyH_take (i := 8) (oi := _) (v := undef) rfl (by kernel_rfl) (by kernel_rfl) (by kernel_rfl) (fun _ _ _ h => h) (Or.inr ⟨by kernel_rfl, rfl⟩) (by assumption) ?_
            try simp only [Act.put, sqA, sqB, sqC, sqD, sqE, sqF]
            refine wpAnyH_take (i := 9) (oi := _) (v := undef) rfl (by kernel_rfl) (by kernel_rfl) (by kernel_rfl) (fun _ _ _ h => h) (Or.inr ⟨by kernel_rfl, rfl⟩) (by assumption) ?_
            try simp only [Act.put, sqA, sqB, sqC, sqD, sqE, sqF]
            refine tk 10 (by assumption) rfl (by kernel_rfl) (fun _ _ _ h => h) (fun V hV => by go_simp; try with_reducible rfl) ?_
            try simp only [Act.put, sqA, sqB, sqC, sqD, sqE, sqF]
            refine wpAnyH_done (by kernel_rfl) ?_ _
            go_wp2_with fail
            refine ⟨⟨k + 1, by simp, by omega, by rw [HX.out]; exact HOW.out.below B6.out, gNx HBEL.out B6.out⟩, ?_⟩
            simp [RowKit.intOf]; omega
          | true =>
            obtain ⟨hp, he, -, -⟩ := lkBt_at HM1.out hh
            obtain ⟨b2, o2, rfl, hb2, hc2⟩ := (HIN.out wr HBEL.out).links.at _ hp
            have hc3 := hc2 _ hp
            have hlv : linkV G.links x nd.id = (Nq.aheadL G.links ⟨min x nd.id, max x nd.id, 0, false⟩ : Int) := by unfold linkV; rw [hh]; rfl
            have HLK : Hid (∀ V, Below wr.heap.size wr V → LkAt V b2 (o2 + Nq.aheadL G.links ⟨min x nd.id, max x nd.id, 0, false⟩ * 4) (lkBt G x nd.id)) := Lib.hid (fun V hV => by rw [he]; exact hc3.kept (hV.block b2 hb2))
            have HWY : Hid ((lkBt G x nd.id).w < 2 ^ 64) := Lib.hid (by rw [he]; exact HQ.out _ (List.getElem_mem _))
            have HHL := Lib.hid hh
            have hpi : (Nq.aheadL G.links ⟨min x nd.id, max x nd.id, 0, false⟩ : Int) < (G.links.length : Int) := by omega
            have hp0 : (0 : Int) ≤ (Nq.aheadL G.links ⟨min x nd.id, max x nd.id, 0, false⟩ : Int) := by omega
            rw [hlv]
            clear hp he hb2 hc2 hc3 hh hlv
            obtain ⟨y, hy⟩ : ∃ y, y = lkBt G x nd.id := ⟨_, rfl⟩
            rw [← hy] at HLK HWY
            have HYL : Hid (lkBt G x nd.id = y) := Lib.hid hy.symm
            clear hy
            generalize Nq.aheadL G.links ⟨min x nd.id, max x nd.id, 0, false⟩ = pos at *
            go_upto_region 11 with (fail)
            refine wp_region_held_drew (S := fun V => Below wr.heap.size wr V) (by kernel_rfl) (Below.drew B5.out) (fun hH => ?_)
            have B6 : Hid (Below wr.heap.size wr V5.drew) := Lib.hid (Below.drew B5.out)
            generalize V5.drew = V6 at *
            refine tk 0 (by assumption) rfl (by kernel_rfl) (fun _ _ _ h => h) (fun V hV => by go_simp; try with_reducible rfl) ?_
            try simp only [Act.put, sqA, sqB, sqC, sqD, sqE, sqF]
            refine tk 1 (by assumption) rfl (by kernel_rfl) (fun _ _ _ h => h) (fun V hV => by go_simp; try with_reducible rfl) ?_
            try simp only [Act.put, sqA, sqB, sqC, sqD, sqE, sqF]
            refine tk 2 (by assumption) rfl (by kernel_rfl) (fun _ _ _ h => h) (fun V hV => by go_simp; try with_reducible rfl) ?_
            try simp only [Act.put, sqA, sqB, sqC, sqD, sqE, sqF]
            refine tk 3 (by assumption) rfl (by kernel_rfl) (fun _ _ _ h => h) (fun V hV => by obtain ⟨g0, g1⟩ := HKG.out V (gNx HBEL.out hV); obtain ⟨l0, l1, l2, l3⟩ := HLK.out V hV; go_simp; try with_reducible rfl) ?_
            try simp only [Act.put, sqA, sqB, sqC, sqD, sqE, sqF]
            refine tk 4 (by assumption) rfl (by kernel_rfl) (fun _ _ _ h => h) (fun V hV => by go_simp; try with_reducible rfl) ?_
            try simp only [Act.put, sqA, sqB, sqC, sqD, sqE, sqF]
            refine tk 5 (by assumption) rfl (by kernel_rfl) (fun _ _ _ h => h) (fun V hV => by obtain ⟨g0, g1⟩ := HKG.out V (gNx HBEL.out hV); obtain ⟨l0, l1, l2, l3⟩ := HLK.out V hV; go_simp; try with_reducible rfl) ?_
            try simp only [Act.put, sqA, sqB, sqC, sqD, sqE, sqF]
            refine tk 6 (by assumption) rfl (by kernel_rfl) (fun _ _ _ h => h) (fun V hV => by go_simp; try with_reducible rfl) ?_
            try simp only [Act.put, sqA, sqB, sqC, sqD, sqE, sqF]
            refine tk 7 (by assumption) rfl (by kernel_rfl) (fun _ _ _ h => h) (fun V hV => by go_simp; try with_reducible rfl) ?_
            try simp only [Act.put, sqA, sqB, sqC, sqD, sqE, sqF]
            refine tk 8 (by assumption) rfl (by kernel_rfl) (fun _ _ _ h => h) (fun V hV => by obtain ⟨g0, g1⟩ := HKG.out V (gNx HBEL.out hV); obtain ⟨l0, l1, l2, l3⟩ := HLK.out V hV; go_simp; try with_reducible rfl) ?_
            try simp only [Act.put, sqA, sqB, sqC, sqD, sqE, sqF]
            refine wpAnyH_ready (rs := [9]) (by kernel_rfl) (by simp) ?_
            refine AllReadyH.cons (o := _) rfl (fun K hK => ?_) AllReadyH.nil
            go_simp
            refine (rIsLive_any G.nodes (some ⟨b, o, none⟩) nc (some ⟨b2, o2, none⟩) G.links.length lc y V6 (HIN.out V6 (gNx HBEL.out B6.out)).nodes HNP.out (by have := HSZ.out; omega)).mono ?_
            rintro e V7 ⟨rfl, hb⟩
            have B7 := Lib.hid (gNx B6.out hb)
            clear hb
            go_wp2_with fail
            refine hK.out _ _ B7.out (fun hH => ?_)
            clear hK K
            try simp only [Act.put, sqA, sqB, sqC, sqD, sqE, sqF]
            refine tk 10 (by assumption) rfl (by kernel_rfl) (fun _ _ _ h => h) (fun V hV => by go_simp; try with_reducible rfl) ?_
            try simp only [Act.put, sqA, sqB, sqC, sqD, sqE, sqF]
            refine wpAnyH_done (by kernel_rfl) ?_ _
            cases hv : liveL G.nodes y with
            | false =>
              have HX : Hid (found G x (k + 1) = found G x k) := Lib.hid (by rw [HFG.out]; unfold pick; rw [if_neg (by rw [HYL.out, hv]; simp), List.append_nil])
              clear hv
              go_wp2_with fail
              refine ⟨⟨k + 1, by simp, by omega, by rw [HX.out]; exact HOW.out.below B7.out, gNx HBEL.out B7.out⟩, ?_⟩
              simp [RowKit.intOf]; omega
            | true =>
              have HX : Hid (found G x (k + 1) = found G x k ++ [y]) := Lib.hid (by rw [HFG.out]; unfold pick; rw [if_pos ⟨HHL.out, by rw [HYL.out]; exact hv⟩, HYL.out])
              clear hv
              obtain ⟨l0, l1, l2, l3⟩ := HLK.out V7 B7.out
              obtain ⟨g0, g1⟩ := HKG.out V7 (gNx HBEL.out B7.out)
              obtain ⟨v8, V8, hrun, ho, hw⟩ := own_append (P := Tryz.prog) Tryz.underlying23 lkInfo rfl (HOW.out.below (gNx B7.out (gAl V7 (.cells #[.int .i64 y.a, .int .i64 y.b, .float .f64 y.w, .bool y.up] 62)))) (Nat.le_trans HBEL.out.size (Nat.le_trans B7.out.size (gAl V7 (.cells #[.int .i64 y.a, .int .i64 y.b, .float .f64 y.w, .bool y.up] 62)).size)) (vb := V7.heap.size) (heap_alloc_new V7 (.cells #[.int .i64 y.a, .int .i64 y.b, .float .f64 y.w, .bool y.up] 62)) rfl (lkC_one y) HFIT.out (by have := HFIT.out; omega)
              have HR := Lib.hid hrun
              have HO8 := Lib.hid ho
              have HB8 := Lib.hid (hw.below (Nat.le_trans HBEL.out.size (Nat.le_trans B7.out.size (gAl V7 (.cells #[.int .i64 y.a, .int .i64 y.b, .float .f64 y.w, .bool y.up] 62)).size)))
              clear hrun ho hw
              generalize found G x k = L at *
              go_wp2_with (at_builtin; refine Lib.wpList_append_run _ rfl _ _ _ _ rfl _ _ rfl rfl _ _ (HR.out _) ?_)
              refine ⟨⟨k + 1, by simp, by omega, by rw [HX.out, lkRow_snoc', List.length_append]; exact HO8.out, (HBEL.out.trans ((gNx B7.out (gAl V7 (.cells #[.int .i64 y.a, .int .i64 y.b, .float .f64 y.w, .bool y.up] 62))).mono HBEL.out.size)).trans HB8.out⟩, ?_⟩
              simp [RowKit.intOf]; omega
        · have hnk : ¬ (k : Int) < (G.nodes.length : Int) := by omega
          have hfe := found_end HCK.out x k (by omega)
          rw [hfe] at how
          have HOW := Lib.hid (how.mono HS1.out)
          have HBEL := Lib.hid hbel
          clear hlt hfe how hbel
          go_wp2_with fail
          refine bodyPost_ret (results_tmp2 Tryz.results29 _ _ _) rfl ?_
          rw [HP.out.1, HP.out.2]
          exact ⟨_, rfl, HOW.out, fun y hy => HQ.out y (List.mem_filter.1 hy).1, gNx HB1.out HBEL.out⟩
end Go.Proofs.YtjlfpjjfldbknaaGreat
end
