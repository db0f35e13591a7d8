/- Graphs: the document's Check. -/
import Derived.Test.YtjlfpjjfldbknaaGreatNgU
namespace Go.Proofs.YtjlfpjjfldbknaaGreat
open Go.RowKit Go.Lib Go.Fq Go.Iq Go.Nq Go.Ow
set_option linter.unusedVariables false
set_option linter.unusedSimpArgs false
set_option maxRecDepth 100000

set_option maxHeartbeats 8000000 in
theorem rCheck_any (G : Gr) (na la : Option Addr) (nc lc : Nat) (w : World) (hN : NodesIn w w.heap.size G.nodes na) (hL : LinksIn w w.heap.size G.links la) (hw : ∀ y ∈ G.links, y.w < 2 ^ 64) (hn1 : G.nodes.length < 4611686018427387904) (hl1 : G.links.length < 4611686018427387904) :
    Calls Tryz.prog 38 #[.agg #[.slice na G.nodes.length nc, .slice la G.links.length lc]] w fun e w' => e = .returned (.int .i64 (checkG G)) ∧ Below w.heap.size w w' := by
  obtain ⟨W1, hW1⟩ : ∃ W1, W1 = w.alloc (.cells #[.slice na G.nodes.length nc, .slice la G.links.length lc] 25) := ⟨_, rfl⟩
  have hb1 : Below w.heap.size w W1 := by rw [hW1]; exact gAl _ _
  have hs1 : w.heap.size < W1.heap.size := by rw [hW1]; simp
  have k0 : W1.cell? ⟨w.heap.size, 0, none⟩ = some (.slice na G.nodes.length nc) := by rw [hW1]; simp [go_sem]
  have k1 : W1.cell? ⟨w.heap.size, 1, none⟩ = some (.slice la G.links.length lc) := by rw [hW1]; simp [go_sem]
  have HKG : Hid (∀ V, Below W1.heap.size W1 V → V.cell? ⟨w.heap.size, 0, none⟩ = some (.slice na G.nodes.length nc) ∧ V.cell? ⟨w.heap.size, 1, none⟩ = some (.slice la G.links.length lc)) := Lib.hid (fun V h => ⟨(h.cell (p := ⟨w.heap.size, 0, none⟩) hs1).trans k0, (h.cell (p := ⟨w.heap.size, 1, none⟩) hs1).trans k1⟩)
  have HB1 := Lib.hid hb1
  have HN : Hid (∀ V, Below W1.heap.size W1 V → NodesIn V V.heap.size G.nodes na) := Lib.hid (fun V h => hN.kept (fun i hi => (gNx hb1 h).block i hi) (gNx hb1 h).size)
  have HL : Hid (∀ V, Below W1.heap.size W1 V → LinksIn V V.heap.size G.links la) := Lib.hid (fun V h => hL.kept (fun i hi => (gNx hb1 h).block i hi) (gNx hb1 h).size)
  have HWW := Lib.hid hw
  have HN1 := Lib.hid hn1
  have HL1 := Lib.hid hl1
  clear hN hL hb1 hs1 hw hn1 hl1
  by_cases hfn : 256 < G.nodes.length
  · have HG := Lib.hid (check_full (Or.inl hfn))
    have hfi : (256 : Int) < (G.nodes.length : Int) := by omega
    go_enter Tryz.func38, Tryz.ntmps38
    go_upto_region 1 with (fail)
    rw [← hW1]
    clear hW1
    go_wp2_with fail
    go_ret
    exact ⟨by rw [HG.out]; rfl, HB1.out⟩
  by_cases hfl : 4096 < G.links.length
  · have HG := Lib.hid (check_full (Or.inr hfl))
    have hfi : (4096 : Int) < (G.links.length : Int) := by omega
    have hfj : ¬ (256 : Int) < (G.nodes.length : Int) := by omega
    go_enter Tryz.func38, Tryz.ntmps38
    go_upto_region 1 with (fail)
    rw [← hW1]
    clear hW1
    go_wp2_with fail
    go_ret
    exact ⟨by rw [HG.out]; rfl, HB1.out⟩
  have hfi : ¬ (256 : Int) < (G.nodes.length : Int) := by omega
  have hfj : ¬ (4096 : Int) < (G.links.length : Int) := by omega
  have HCN := Lib.hid (fun (k : Nat) (hk : k < G.nodes.length) (h : ¬ NdOk G.nodes k) => check_node hfn hfl hk h)
  have HCL := Lib.hid (fun h => check_links hfn hfl h)
  go_enter Tryz.func38, Tryz.ntmps38
  go_upto_region 1 with (fail)
  rw [← hW1]
  clear hW1
  go_wp2_with fail
  go_loopw [3] (fun v wr => ∃ k : Nat, v = .int .i64 (k : Int) ∧ k ≤ G.nodes.length ∧ Below W1.heap.size W1 wr ∧ (∀ i, i < k → NdOk G.nodes i)) (fun v _ => G.nodes.length - (RowKit.intOf v).toNat)
  case atStart => exact ⟨0, rfl, by omega, Below.refl _ _, fun i hi => by omega⟩
  case round =>
    obtain ⟨k, rfl, hk, hbel, hok⟩ := hrel
    have HB := Lib.hid hbel
    have HOK0 := Lib.hid hok
    clear hok k0 k1
    obtain ⟨g0, g1⟩ := HKG.out wr hbel
    by_cases hlt : k < G.nodes.length
    · have hlti : (k : Int) < (G.nodes.length : Int) := by omega
      have hk0 : (0 : Int) ≤ (k : Int) := by omega
      obtain ⟨b, o, rfl, hb, hc⟩ := (HN.out wr hbel).at k hlt
      have HC := Lib.hid hc
      clear hc
      have hkw : IntKind.i64.wrap ((k : Int) + 1) = (k : Int) + 1 := by rw [IntKind.wrap_i64]; have := HN1.out; omega
      have HKB : Hid (∀ V, Below wr.heap.size wr V → V.cell? ⟨b, o + k * 3, none⟩ = some (.int .i64 G.nodes[k].id) ∧ V.cell? ⟨w.heap.size, 0, none⟩ = some (.slice (some ⟨b, o, none⟩) G.nodes.length nc)) := Lib.hid (fun V hV => ⟨((HC.out k hlt).kept (hV.block b hb)).c0, (HKG.out V (gNx HB.out hV)).1⟩)
      have HCW := Lib.hid (fun (V : World) (hV : Below wr.heap.size wr V) (i : Nat) (hi : i < G.nodes.length) => (HC.out i hi).kept (hV.block b hb))
      have HNX : Hid (NdOk G.nodes k → ∀ i, i < k + 1 → NdOk G.nodes i) := Lib.hid (fun h i hi => by by_cases e : i = k; (subst e; exact h); exact HOK0.out i (by omega))
      clear hbel
      go_upto_region 6 with (fail)
      clear g0 g1
      rcases idE_cases G.nodes[k].id with ⟨hq, hqb⟩ | ⟨hq, hqb⟩
      · by_cases hz : k = 0
        · have HOK := Lib.hid (HNX.out ⟨hlt, hqb, fun h => by omega⟩)
          have KA : ∀ V, Below wr.heap.size wr V → V.cell? ⟨b, o + k * 3, none⟩ = some (.int .i64 G.nodes[k].id) ∧ V.cell? ⟨w.heap.size, 0, none⟩ = some (.slice (some ⟨b, o, none⟩) G.nodes.length nc) ∧ True := fun V hV => ⟨(HKB.out V hV).1, (HKB.out V hV).2, trivial⟩
          clear hqb HNX HOK0 HC HCW HKB
          subst hz
          generalize G.nodes[0] = nd at *
          refine wp_region_held_drew (S := fun V => Below wr.heap.size wr V) (by kernel_rfl) (Below.drew (Below.refl _ _)) (fun hH => ?_)
          have B0 : Hid (Below wr.heap.size wr wr.drew) := Lib.hid (Below.drew (Below.refl _ _))
          generalize wr.drew = V0 at *
          refine tk 0 (by assumption) rfl (by kernel_rfl) (fun _ _ _ h => h) (fun V hV => by go_simp; try with_reducible rfl) ?_
          try simp only [Act.put, sqA, sqB, sqC, sqD, sqE, sqF]
          refine tk 1 (by assumption) rfl (by kernel_rfl) (fun _ _ _ h => h) (fun V hV => by obtain ⟨c0, c3, c4⟩ := KA V hV; rw [Nat.zero_mul, Nat.add_zero] at c0; go_simp; try with_reducible rfl) ?_
          try simp only [Act.put, sqA, sqB, sqC, sqD, sqE, sqF]
          refine tk 2 (by assumption) rfl (by kernel_rfl) (fun _ _ _ h => h) (fun V hV => by go_simp; try with_reducible rfl) ?_
          try simp only [Act.put, sqA, sqB, sqC, sqD, sqE, sqF]
          refine tk 3 (by assumption) rfl (by kernel_rfl) (fun _ _ _ h => h) (fun V hV => by go_simp; try with_reducible rfl) ?_
          try simp only [Act.put, sqA, sqB, sqC, sqD, sqE, sqF]
          refine tk 4 (by assumption) rfl (by kernel_rfl) (fun _ _ _ h => h) (fun V hV => by go_simp; try with_reducible rfl) ?_
          try simp only [Act.put, sqA, sqB, sqC, sqD, sqE, sqF]
          refine tk 5 (by assumption) rfl (by kernel_rfl) (fun _ _ _ h => h) (fun V hV => by obtain ⟨c0, c3, c4⟩ := KA V hV; rw [Nat.zero_mul, Nat.add_zero] at c0; go_simp; try with_reducible rfl) ?_
          try simp only [Act.put, sqA, sqB, sqC, sqD, sqE, sqF]
          refine wpAnyH_ready (rs := [6]) (by kernel_rfl) (by simp) ?_
          refine AllReadyH.cons (o := _) rfl (fun K hK => ?_) AllReadyH.nil
          go_simp
          refine (refcheckId_any _ _).mono ?_
          rintro e w2 ⟨rfl, rfl⟩
          rw [hq]
          go_wp2_with fail
          refine hK.out _ _ B0.out (fun hH => ?_)
          clear hK K
          try simp only [Act.put, sqA, sqB, sqC, sqD, sqE, sqF]
          refine tk 7 (by assumption) rfl (by kernel_rfl) (fun _ _ _ h => h) (fun V hV => by go_simp; try with_reducible rfl) ?_
          try simp only [Act.put, sqA, sqB, sqC, sqD, sqE, sqF]
          refine tk 8 (by assumption) rfl (by kernel_rfl) (fun _ _ _ h => h) (fun V hV => by go_simp; try with_reducible rfl) ?_
          try simp only [Act.put, sqA, sqB, sqC, sqD, sqE, sqF]
          refine tk 9 (by assumption) rfl (by kernel_rfl) (fun _ _ _ h => h) (fun V hV => by go_simp; try with_reducible rfl) ?_
          try simp only [Act.put, sqA, sqB, sqC, sqD, sqE, sqF]
          refine tk 10 (by assumption) rfl (by kernel_rfl) (fun _ _ _ h => h) (fun V hV => by go_simp; try with_reducible rfl) ?_
          try simp only [Act.put, sqA, sqB, sqC, sqD, sqE, sqF]
          refine tk 11 (by assumption) rfl (by kernel_rfl) (fun _ _ _ h => h) (fun V hV => by go_simp; try with_reducible rfl) ?_
          try simp only [Act.put, sqA, sqB, sqC, sqD, sqE, sqF]
          refine wpAnyH_take (i := 12) (oi := _) (v := undef) rfl (by kernel_rfl) (by kernel_rfl) (by kernel_rfl) (fun _ _ _ h => h) (Or.inr ⟨by kernel_rfl, rfl⟩) (by assumption) ?_
          try simp only [Act.put, sqA, sqB, sqC, sqD, sqE, sqF]
          refine wpAnyH_take (i := 13) (oi := _) (v := undef) rfl (by kernel_rfl) (by kernel_rfl) (by kernel_rfl) (fun _ _ _ h => h) (Or.inr ⟨by kernel_rfl, rfl⟩) (by assumption) ?_
          try simp only [Act.put, sqA, sqB, sqC, sqD, sqE, sqF]
          refine wpAnyH_take (i := 14) (oi := _) (v := undef) rfl (by kernel_rfl) (by kernel_rfl) (by kernel_rfl) (fun _ _ _ h => h) (Or.inr ⟨by kernel_rfl, rfl⟩) (by assumption) ?_
          try simp only [Act.put, sqA, sqB, sqC, sqD, sqE, sqF]
          refine wpAnyH_take (i := 15) (oi := _) (v := undef) rfl (by kernel_rfl) (by kernel_rfl) (by kernel_rfl) (fun _ _ _ h => h) (Or.inr ⟨by kernel_rfl, rfl⟩) (by assumption) ?_
          try simp only [Act.put, sqA, sqB, sqC, sqD, sqE, sqF]
          refine wpAnyH_take (i := 16) (oi := _) (v := undef) rfl (by kernel_rfl) (by kernel_rfl) (by kernel_rfl) (fun _ _ _ h => h) (Or.inr ⟨by kernel_rfl, rfl⟩) (by assumption) ?_
          try simp only [Act.put, sqA, sqB, sqC, sqD, sqE, sqF]
          refine wpAnyH_take (i := 17) (oi := _) (v := undef) rfl (by kernel_rfl) (by kernel_rfl) (by kernel_rfl) (fun _ _ _ h => h) (Or.inr ⟨by kernel_rfl, rfl⟩) (by assumption) ?_
          try simp only [Act.put, sqA, sqB, sqC, sqD, sqE, sqF]
          refine wpAnyH_take (i := 18) (oi := _) (v := undef) rfl (by kernel_rfl) (by kernel_rfl) (by kernel_rfl) (fun _ _ _ h => h) (Or.inr ⟨by kernel_rfl, rfl⟩) (by assumption) ?_
          try simp only [Act.put, sqA, sqB, sqC, sqD, sqE, sqF]
          refine wpAnyH_take (i := 19) (oi := _) (v := undef) rfl (by kernel_rfl) (by kernel_rfl) (by kernel_rfl) (fun _ _ _ h => h) (Or.inr ⟨by kernel_rfl, rfl⟩) (by assumption) ?_
          try simp only [Act.put, sqA, sqB, sqC, sqD, sqE, sqF]
          refine wpAnyH_take (i := 20) (oi := _) (v := undef) rfl (by kernel_rfl) (by kernel_rfl) (by kernel_rfl) (fun _ _ _ h => h) (Or.inr ⟨by kernel_rfl, rfl⟩) (by assumption) ?_
          try simp only [Act.put, sqA, sqB, sqC, sqD, sqE, sqF]
          refine wpAnyH_take (i := 21) (oi := _) (v := undef) rfl (by kernel_rfl) (by kernel_rfl) (by kernel_rfl) (fun _ _ _ h => h) (Or.inr ⟨by kernel_rfl, rfl⟩) (by assumption) ?_
          try simp only [Act.put, sqA, sqB, sqC, sqD, sqE, sqF]
          refine wpAnyH_take (i := 22) (oi := _) (v := undef) rfl (by kernel_rfl) (by kernel_rfl) (by kernel_rfl) (fun _ _ _ h => h) (Or.inr ⟨by kernel_rfl, rfl⟩) (by assumption) ?_
          try simp only [Act.put, sqA, sqB, sqC, sqD, sqE, sqF]
          refine wpAnyH_take (i := 23) (oi := _) (v := undef) rfl (by kernel_rfl) (by kernel_rfl) (by kernel_rfl) (fun _ _ _ h => h) (Or.inr ⟨by kernel_rfl, rfl⟩) (by assumption) ?_
          try simp only [Act.put, sqA, sqB, sqC, sqD, sqE, sqF]
          refine wpAnyH_take (i := 24) (oi := _) (v := undef) rfl (by kernel_rfl) (by kernel_rfl) (by kernel_rfl) (fun _ _ _ h => h) (Or.inr ⟨by kernel_rfl, rfl⟩) (by assumption) ?_
          try simp only [Act.put, sqA, sqB, sqC, sqD, sqE, sqF]
          refine wpAnyH_take (i := 25) (oi := _) (v := undef) rfl (by kernel_rfl) (by kernel_rfl) (by kernel_rfl) (fun _ _ _ h => h) (Or.inr ⟨by kernel_rfl, rfl⟩) (by assumption) ?_
          try simp only [Act.put, sqA, sqB, sqC, sqD, sqE, sqF]
          refine tk 26 (by assumption) rfl (by kernel_rfl) (fun _ _ _ h => h) (fun V hV => by go_simp; try with_reducible rfl) ?_
          try simp only [Act.put, sqA, sqB, sqC, sqD, sqE, sqF]
          refine tk 27 (by assumption) rfl (by kernel_rfl) (fun _ _ _ h => h) (fun V hV => by go_simp; try with_reducible rfl) ?_
          try simp only [Act.put, sqA, sqB, sqC, sqD, sqE, sqF]
          refine wpAnyH_done (by kernel_rfl) ?_ _
          go_wp2_with fail
          refine ⟨⟨0 + 1, by simp, by omega, gNx HB.out B0.out, HOK.out⟩, ?_⟩
          simp [RowKit.intOf]; omega
        · obtain ⟨m, hm⟩ : ∃ m, k = m + 1 := ⟨k - 1, by omega⟩
          have hkp : (0 : Int) < (k : Int) := by omega
          have hkq : 0 < k := by omega
          have hsub : IntKind.i64.wrap ((k : Int) - 1) = (m : Int) := by rw [IntKind.wrap_i64]; have := HN1.out; omega
          have hm0 : (0 : Int) ≤ (m : Int) := by omega
          have hml : m < G.nodes.length := by omega
          have hmi : (m : Int) < (G.nodes.length : Int) := by omega
          have KA : ∀ V, Below wr.heap.size wr V → V.cell? ⟨b, o + k * 3, none⟩ = some (.int .i64 G.nodes[k].id) ∧ V.cell? ⟨w.heap.size, 0, none⟩ = some (.slice (some ⟨b, o, none⟩) G.nodes.length nc) ∧ V.cell? ⟨b, o + m * 3, none⟩ = some (.int .i64 G.nodes[m].id) := fun V hV => ⟨(HKB.out V hV).1, (HKB.out V hV).2, (HCW.out V hV m hml).c0⟩
          have HPRE : Hid (G.nodes[m].id < G.nodes[k].id → NdOk G.nodes k) := Lib.hid (fun h => ⟨hlt, hqb, fun _ => by simp only [hm, Nat.add_sub_cancel] at h ⊢; exact h⟩)
          have HPRE2 : Hid (NdOk G.nodes k → G.nodes[m].id < G.nodes[k].id) := Lib.hid (fun ⟨_, _, h⟩ => by have := h (by omega); simp only [hm, Nat.add_sub_cancel] at this ⊢; exact this)
          clear hqb HKB HCW HC HOK0 hm
          by_cases hle : G.nodes[k].id ≤ G.nodes[m].id
          · have HBAD := Lib.hid (HCN.out k hlt (fun h => by have := HPRE2.out h; omega))
            clear HPRE HPRE2 HNX
            generalize G.nodes[k] = nd at *
            generalize G.nodes[m] = pd at *
            refine wp_region_held_drew (S := fun V => Below wr.heap.size wr V) (by kernel_rfl) (Below.drew (Below.refl _ _)) (fun hH => ?_)
            have B0 : Hid (Below wr.heap.size wr wr.drew) := Lib.hid (Below.drew (Below.refl _ _))
            generalize wr.drew = V0 at *
            refine tk 0 (by assumption) rfl (by kernel_rfl) (fun _ _ _ h => h) (fun V hV => by go_simp; try with_reducible rfl) ?_
            try simp only [Act.put, sqA, sqB, sqC, sqD, sqE, sqF]
            refine tk 1 (by assumption) rfl (by kernel_rfl) (fun _ _ _ h => h) (fun V hV => by obtain ⟨c0, c3, c4⟩ := KA V hV; go_simp; try with_reducible rfl) ?_
            try simp only [Act.put, sqA, sqB, sqC, sqD, sqE, sqF]
            refine tk 2 (by assumption) rfl (by kernel_rfl) (fun _ _ _ h => h) (fun V hV => by go_simp; try with_reducible rfl) ?_
            try simp only [Act.put, sqA, sqB, sqC, sqD, sqE, sqF]
            refine tk 3 (by assumption) rfl (by kernel_rfl) (fun _ _ _ h => h) (fun V hV => by go_simp; try with_reducible rfl) ?_
            try simp only [Act.put, sqA, sqB, sqC, sqD, sqE, sqF]
            refine tk 4 (by assumption) rfl (by kernel_rfl) (fun _ _ _ h => h) (fun V hV => by go_simp; try with_reducible rfl) ?_
            try simp only [Act.put, sqA, sqB, sqC, sqD, sqE, sqF]
            refine tk 5 (by assumption) rfl (by kernel_rfl) (fun _ _ _ h => h) (fun V hV => by obtain ⟨c0, c3, c4⟩ := KA V hV; go_simp; try with_reducible rfl) ?_
            try simp only [Act.put, sqA, sqB, sqC, sqD, sqE, sqF]
            refine wpAnyH_ready (rs := [6]) (by kernel_rfl) (by simp) ?_
            refine AllReadyH.cons (o := _) rfl (fun K hK => ?_) AllReadyH.nil
            go_simp
            refine (refcheckId_any _ _).mono ?_
            rintro e w2 ⟨rfl, rfl⟩
            rw [hq]
            go_wp2_with fail
            refine hK.out _ _ B0.out (fun hH => ?_)
            clear hK K
            try simp only [Act.put, sqA, sqB, sqC, sqD, sqE, sqF]
            refine tk 7 (by assumption) rfl (by kernel_rfl) (fun _ _ _ h => h) (fun V hV => by go_simp; try with_reducible rfl) ?_
            try simp only [Act.put, sqA, sqB, sqC, sqD, sqE, sqF]
            refine tk 8 (by assumption) rfl (by kernel_rfl) (fun _ _ _ h => h) (fun V hV => by go_simp; try with_reducible rfl) ?_
            try simp only [Act.put, sqA, sqB, sqC, sqD, sqE, sqF]
            refine tk 9 (by assumption) rfl (by kernel_rfl) (fun _ _ _ h => h) (fun V hV => by go_simp; try with_reducible rfl) ?_
            try simp only [Act.put, sqA, sqB, sqC, sqD, sqE, sqF]
            refine tk 10 (by assumption) rfl (by kernel_rfl) (fun _ _ _ h => h) (fun V hV => by go_simp; try with_reducible rfl) ?_
            try simp only [Act.put, sqA, sqB, sqC, sqD, sqE, sqF]
            refine tk 11 (by assumption) rfl (by kernel_rfl) (fun _ _ _ h => h) (fun V hV => by go_simp; try with_reducible rfl) ?_
            try simp only [Act.put, sqA, sqB, sqC, sqD, sqE, sqF]
            refine tk 12 (by assumption) rfl (by kernel_rfl) (fun _ _ _ h => h) (fun V hV => by go_simp; try with_reducible rfl) ?_
            try simp only [Act.put, sqA, sqB, sqC, sqD, sqE, sqF]
            refine tk 13 (by assumption) rfl (by kernel_rfl) (fun _ _ _ h => h) (fun V hV => by obtain ⟨c0, c3, c4⟩ := KA V hV; go_simp; try with_reducible rfl) ?_
            try simp only [Act.put, sqA, sqB, sqC, sqD, sqE, sqF]
            refine tk 14 (by assumption) rfl (by kernel_rfl) (fun _ _ _ h => h) (fun V hV => by go_simp; try with_reducible rfl) ?_
            try simp only [Act.put, sqA, sqB, sqC, sqD, sqE, sqF]
            refine tk 15 (by assumption) rfl (by kernel_rfl) (fun _ _ _ h => h) (fun V hV => by go_simp; try with_reducible rfl) ?_
            try simp only [Act.put, sqA, sqB, sqC, sqD, sqE, sqF]
            refine tk 16 (by assumption) rfl (by kernel_rfl) (fun _ _ _ h => h) (fun V hV => by go_simp; try with_reducible rfl) ?_
            try simp only [Act.put, sqA, sqB, sqC, sqD, sqE, sqF]
            refine tk 17 (by assumption) rfl (by kernel_rfl) (fun _ _ _ h => h) (fun V hV => by go_simp; try with_reducible rfl) ?_
            try simp only [Act.put, sqA, sqB, sqC, sqD, sqE, sqF]
            refine tk 18 (by assumption) rfl (by kernel_rfl) (fun _ _ _ h => h) (fun V hV => by obtain ⟨c0, c3, c4⟩ := KA V hV; go_simp; try with_reducible rfl) ?_
            try simp only [Act.put, sqA, sqB, sqC, sqD, sqE, sqF]
            refine tk 19 (by assumption) rfl (by kernel_rfl) (fun _ _ _ h => h) (fun V hV => by go_simp; try with_reducible rfl) ?_
            try simp only [Act.put, sqA, sqB, sqC, sqD, sqE, sqF]
            refine tk 20 (by assumption) rfl (by kernel_rfl) (fun _ _ _ h => h) (fun V hV => by obtain ⟨c0, c3, c4⟩ := KA V hV; go_simp; try with_reducible rfl) ?_
            try simp only [Act.put, sqA, sqB, sqC, sqD, sqE, sqF]
            refine tk 21 (by assumption) rfl (by kernel_rfl) (fun _ _ _ h => h) (fun V hV => by go_simp; try with_reducible rfl) ?_
            try simp only [Act.put, sqA, sqB, sqC, sqD, sqE, sqF]
            refine tk 22 (by assumption) rfl (by kernel_rfl) (fun _ _ _ h => h) (fun V hV => by go_simp; try with_reducible rfl) ?_
            try simp only [Act.put, sqA, sqB, sqC, sqD, sqE, sqF]
            refine tk 23 (by assumption) rfl (by kernel_rfl) (fun _ _ _ h => h) (fun V hV => by go_simp; try with_reducible rfl) ?_
            try simp only [Act.put, sqA, sqB, sqC, sqD, sqE, sqF]
            refine tk 24 (by assumption) rfl (by kernel_rfl) (fun _ _ _ h => h) (fun V hV => by obtain ⟨c0, c3, c4⟩ := KA V hV; go_simp; try with_reducible rfl) ?_
            try simp only [Act.put, sqA, sqB, sqC, sqD, sqE, sqF]
            refine tk 25 (by assumption) rfl (by kernel_rfl) (fun _ _ _ h => h) (fun V hV => by go_simp; try with_reducible rfl) ?_
            try simp only [Act.put, sqA, sqB, sqC, sqD, sqE, sqF]
            refine tk 26 (by assumption) rfl (by kernel_rfl) (fun _ _ _ h => h) (fun V hV => by go_simp; try with_reducible rfl) ?_
            try simp only [Act.put, sqA, sqB, sqC, sqD, sqE, sqF]
            refine tk 27 (by assumption) rfl (by kernel_rfl) (fun _ _ _ h => h) (fun V hV => by go_simp; try with_reducible rfl) ?_
            try simp only [Act.put, sqA, sqB, sqC, sqD, sqE, sqF]
            refine wpAnyH_done (by kernel_rfl) ?_ _
            go_wp2_with fail
            go_ret
            exact ⟨by rw [HBAD.out]; rfl, gNx HB1.out (gNx HB.out B0.out)⟩
          · have HOK := Lib.hid (HNX.out (HPRE.out (by omega)))
            clear HPRE HPRE2 HNX
            generalize G.nodes[k] = nd at *
            generalize G.nodes[m] = pd at *
            refine wp_region_held_drew (S := fun V => Below wr.heap.size wr V) (by kernel_rfl) (Below.drew (Below.refl _ _)) (fun hH => ?_)
            have B0 : Hid (Below wr.heap.size wr wr.drew) := Lib.hid (Below.drew (Below.refl _ _))
            generalize wr.drew = V0 at *
            refine tk 0 (by assumption) rfl (by kernel_rfl) (fun _ _ _ h => h) (fun V hV => by go_simp; try with_reducible rfl) ?_
            try simp only [Act.put, sqA, sqB, sqC, sqD, sqE, sqF]
            refine tk 1 (by assumption) rfl (by kernel_rfl) (fun _ _ _ h => h) (fun V hV => by obtain ⟨c0, c3, c4⟩ := KA V hV; go_simp; try with_reducible rfl) ?_
            try simp only [Act.put, sqA, sqB, sqC, sqD, sqE, sqF]
            refine tk 2 (by assumption) rfl (by kernel_rfl) (fun _ _ _ h => h) (fun V hV => by go_simp; try with_reducible rfl) ?_
            try simp only [Act.put, sqA, sqB, sqC, sqD, sqE, sqF]
            refine tk 3 (by assumption) rfl (by kernel_rfl) (fun _ _ _ h => h) (fun V hV => by go_simp; try with_reducible rfl) ?_
            try simp only [Act.put, sqA, sqB, sqC, sqD, sqE, sqF]
            refine tk 4 (by assumption) rfl (by kernel_rfl) (fun _ _ _ h => h) (fun V hV => by go_simp; try with_reducible rfl) ?_
            try simp only [Act.put, sqA, sqB, sqC, sqD, sqE, sqF]
            refine tk 5 (by assumption) rfl (by kernel_rfl) (fun _ _ _ h => h) (fun V hV => by obtain ⟨c0, c3, c4⟩ := KA V hV; go_simp; try with_reducible rfl) ?_
            try simp only [Act.put, sqA, sqB, sqC, sqD, sqE, sqF]
            refine wpAnyH_ready (rs := [6]) (by kernel_rfl) (by simp) ?_
            refine AllReadyH.cons (o := _) rfl (fun K hK => ?_) AllReadyH.nil
            go_simp
            refine (refcheckId_any _ _).mono ?_
            rintro e w2 ⟨rfl, rfl⟩
            rw [hq]
            go_wp2_with fail
            refine hK.out _ _ B0.out (fun hH => ?_)
            clear hK K
            try simp only [Act.put, sqA, sqB, sqC, sqD, sqE, sqF]
            refine tk 7 (by assumption) rfl (by kernel_rfl) (fun _ _ _ h => h) (fun V hV => by go_simp; try with_reducible rfl) ?_
            try simp only [Act.put, sqA, sqB, sqC, sqD, sqE, sqF]
            refine tk 8 (by assumption) rfl (by kernel_rfl) (fun _ _ _ h => h) (fun V hV => by go_simp; try with_reducible rfl) ?_
            try simp only [Act.put, sqA, sqB, sqC, sqD, sqE, sqF]
            refine tk 9 (by assumption) rfl (by kernel_rfl) (fun _ _ _ h => h) (fun V hV => by go_simp; try with_reducible rfl) ?_
            try simp only [Act.put, sqA, sqB, sqC, sqD, sqE, sqF]
            refine tk 10 (by assumption) rfl (by kernel_rfl) (fun _ _ _ h => h) (fun V hV => by go_simp; try with_reducible rfl) ?_
            try simp only [Act.put, sqA, sqB, sqC, sqD, sqE, sqF]
            refine tk 11 (by assumption) rfl (by kernel_rfl) (fun _ _ _ h => h) (fun V hV => by go_simp; try with_reducible rfl) ?_
            try simp only [Act.put, sqA, sqB, sqC, sqD, sqE, sqF]
            refine tk 12 (by assumption) rfl (by kernel_rfl) (fun _ _ _ h => h) (fun V hV => by go_simp; try with_reducible rfl) ?_
            try simp only [Act.put, sqA, sqB, sqC, sqD, sqE, sqF]
            refine tk 13 (by assumption) rfl (by kernel_rfl) (fun _ _ _ h => h) (fun V hV => by obtain ⟨c0, c3, c4⟩ := KA V hV; go_simp; try with_reducible rfl) ?_
            try simp only [Act.put, sqA, sqB, sqC, sqD, sqE, sqF]
            refine tk 14 (by assumption) rfl (by kernel_rfl) (fun _ _ _ h => h) (fun V hV => by go_simp; try with_reducible rfl) ?_
            try simp only [Act.put, sqA, sqB, sqC, sqD, sqE, sqF]
            refine tk 15 (by assumption) rfl (by kernel_rfl) (fun _ _ _ h => h) (fun V hV => by go_simp; try with_reducible rfl) ?_
            try simp only [Act.put, sqA, sqB, sqC, sqD, sqE, sqF]
            refine tk 16 (by assumption) rfl (by kernel_rfl) (fun _ _ _ h => h) (fun V hV => by go_simp; try with_reducible rfl) ?_
            try simp only [Act.put, sqA, sqB, sqC, sqD, sqE, sqF]
            refine tk 17 (by assumption) rfl (by kernel_rfl) (fun _ _ _ h => h) (fun V hV => by go_simp; try with_reducible rfl) ?_
            try simp only [Act.put, sqA, sqB, sqC, sqD, sqE, sqF]
            refine tk 18 (by assumption) rfl (by kernel_rfl) (fun _ _ _ h => h) (fun V hV => by obtain ⟨c0, c3, c4⟩ := KA V hV; go_simp; try with_reducible rfl) ?_
            try simp only [Act.put, sqA, sqB, sqC, sqD, sqE, sqF]
            refine tk 19 (by assumption) rfl (by kernel_rfl) (fun _ _ _ h => h) (fun V hV => by go_simp; try with_reducible rfl) ?_
            try simp only [Act.put, sqA, sqB, sqC, sqD, sqE, sqF]
            refine tk 20 (by assumption) rfl (by kernel_rfl) (fun _ _ _ h => h) (fun V hV => by obtain ⟨c0, c3, c4⟩ := KA V hV; go_simp; try with_reducible rfl) ?_
            try simp only [Act.put, sqA, sqB, sqC, sqD, sqE, sqF]
            refine tk 21 (by assumption) rfl (by kernel_rfl) (fun _ _ _ h => h) (fun V hV => by go_simp; try with_reducible rfl) ?_
            try simp only [Act.put, sqA, sqB, sqC, sqD, sqE, sqF]
            refine tk 22 (by assumption) rfl (by kernel_rfl) (fun _ _ _ h => h) (fun V hV => by go_simp; try with_reducible rfl) ?_
            try simp only [Act.put, sqA, sqB, sqC, sqD, sqE, sqF]
            refine tk 23 (by assumption) rfl (by kernel_rfl) (fun _ _ _ h => h) (fun V hV => by go_simp; try with_reducible rfl) ?_
            try simp only [Act.put, sqA, sqB, sqC, sqD, sqE, sqF]
            refine tk 24 (by assumption) rfl (by kernel_rfl) (fun _ _ _ h => h) (fun V hV => by obtain ⟨c0, c3, c4⟩ := KA V hV; go_simp; try with_reducible rfl) ?_
            try simp only [Act.put, sqA, sqB, sqC, sqD, sqE, sqF]
            refine tk 25 (by assumption) rfl (by kernel_rfl) (fun _ _ _ h => h) (fun V hV => by go_simp; try with_reducible rfl) ?_
            try simp only [Act.put, sqA, sqB, sqC, sqD, sqE, sqF]
            refine tk 26 (by assumption) rfl (by kernel_rfl) (fun _ _ _ h => h) (fun V hV => by go_simp; try with_reducible rfl) ?_
            try simp only [Act.put, sqA, sqB, sqC, sqD, sqE, sqF]
            refine tk 27 (by assumption) rfl (by kernel_rfl) (fun _ _ _ h => h) (fun V hV => by go_simp; try with_reducible rfl) ?_
            try simp only [Act.put, sqA, sqB, sqC, sqD, sqE, sqF]
            refine wpAnyH_done (by kernel_rfl) ?_ _
            go_wp2_with fail
            refine ⟨⟨k + 1, by simp, by omega, gNx HB.out B0.out, HOK.out⟩, ?_⟩
            simp [RowKit.intOf]; omega
      · have HBAD := Lib.hid (HCN.out k hlt (fun ⟨_, h, _⟩ => by rw [hqb] at h; cases h))
        have KA : ∀ V, Below wr.heap.size wr V → V.cell? ⟨b, o + k * 3, none⟩ = some (.int .i64 G.nodes[k].id) ∧ V.cell? ⟨w.heap.size, 0, none⟩ = some (.slice (some ⟨b, o, none⟩) G.nodes.length nc) ∧ True := fun V hV => ⟨(HKB.out V hV).1, (HKB.out V hV).2, trivial⟩
        clear hqb HC HCW HKB
        generalize G.nodes[k] = nd at *
        refine wp_region_held_drew (S := fun V => Below wr.heap.size wr V) (by kernel_rfl) (Below.drew (Below.refl _ _)) (fun hH => ?_)
        have B0 : Hid (Below wr.heap.size wr wr.drew) := Lib.hid (Below.drew (Below.refl _ _))
        generalize wr.drew = V0 at *
        refine tk 0 (by assumption) rfl (by kernel_rfl) (fun _ _ _ h => h) (fun V hV => by go_simp; try with_reducible rfl) ?_
        try simp only [Act.put, sqA, sqB, sqC, sqD, sqE, sqF]
        refine tk 1 (by assumption) rfl (by kernel_rfl) (fun _ _ _ h => h) (fun V hV => by obtain ⟨c0, c3, c4⟩ := KA V hV; go_simp; try with_reducible rfl) ?_
        try simp only [Act.put, sqA, sqB, sqC, sqD, sqE, sqF]
        refine tk 2 (by assumption) rfl (by kernel_rfl) (fun _ _ _ h => h) (fun V hV => by go_simp; try with_reducible rfl) ?_
        try simp only [Act.put, sqA, sqB, sqC, sqD, sqE, sqF]
        refine tk 3 (by assumption) rfl (by kernel_rfl) (fun _ _ _ h => h) (fun V hV => by go_simp; try with_reducible rfl) ?_
        try simp only [Act.put, sqA, sqB, sqC, sqD, sqE, sqF]
        refine tk 4 (by assumption) rfl (by kernel_rfl) (fun _ _ _ h => h) (fun V hV => by go_simp; try with_reducible rfl) ?_
        try simp only [Act.put, sqA, sqB, sqC, sqD, sqE, sqF]
        refine tk 5 (by assumption) rfl (by kernel_rfl) (fun _ _ _ h => h) (fun V hV => by obtain ⟨c0, c3, c4⟩ := KA V hV; go_simp; try with_reducible rfl) ?_
        try simp only [Act.put, sqA, sqB, sqC, sqD, sqE, sqF]
        refine wpAnyH_ready (rs := [6]) (by kernel_rfl) (by simp) ?_
        refine AllReadyH.cons (o := _) rfl (fun K hK => ?_) AllReadyH.nil
        go_simp
        refine (refcheckId_any _ _).mono ?_
        rintro e w2 ⟨rfl, rfl⟩
        rw [hq]
        go_wp2_with fail
        refine hK.out _ _ B0.out (fun hH => ?_)
        clear hK K
        try simp only [Act.put, sqA, sqB, sqC, sqD, sqE, sqF]
        refine tk 7 (by assumption) rfl (by kernel_rfl) (fun _ _ _ h => h) (fun V hV => by go_simp; try with_reducible rfl) ?_
        try simp only [Act.put, sqA, sqB, sqC, sqD, sqE, sqF]
        refine tk 8 (by assumption) rfl (by kernel_rfl) (fun _ _ _ h => h) (fun V hV => by go_simp; try with_reducible rfl) ?_
        try simp only [Act.put, sqA, sqB, sqC, sqD, sqE, sqF]
        refine wpAnyH_take (i := 9) (oi := _) (v := undef) rfl (by kernel_rfl) (by kernel_rfl) (by kernel_rfl) (fun _ _ _ h => h) (Or.inr ⟨by kernel_rfl, rfl⟩) (by assumption) ?_
        try simp only [Act.put, sqA, sqB, sqC, sqD, sqE, sqF]
        refine wpAnyH_take (i := 10) (oi := _) (v := undef) rfl (by kernel_rfl) (by kernel_rfl) (by kernel_rfl) (fun _ _ _ h => h) (Or.inr ⟨by kernel_rfl, rfl⟩) (by assumption) ?_
        try simp only [Act.put, sqA, sqB, sqC, sqD, sqE, sqF]
        refine wpAnyH_take (i := 11) (oi := _) (v := undef) rfl (by kernel_rfl) (by kernel_rfl) (by kernel_rfl) (fun _ _ _ h => h) (Or.inr ⟨by kernel_rfl, rfl⟩) (by assumption) ?_
        try simp only [Act.put, sqA, sqB, sqC, sqD, sqE, sqF]
        refine wpAnyH_take (i := 12) (oi := _) (v := undef) rfl (by kernel_rfl) (by kernel_rfl) (by kernel_rfl) (fun _ _ _ h => h) (Or.inr ⟨by kernel_rfl, rfl⟩) (by assumption) ?_
        try simp only [Act.put, sqA, sqB, sqC, sqD, sqE, sqF]
        refine wpAnyH_take (i := 13) (oi := _) (v := undef) rfl (by kernel_rfl) (by kernel_rfl) (by kernel_rfl) (fun _ _ _ h => h) (Or.inr ⟨by kernel_rfl, rfl⟩) (by assumption) ?_
        try simp only [Act.put, sqA, sqB, sqC, sqD, sqE, sqF]
        refine wpAnyH_take (i := 14) (oi := _) (v := undef) rfl (by kernel_rfl) (by kernel_rfl) (by kernel_rfl) (fun _ _ _ h => h) (Or.inr ⟨by kernel_rfl, rfl⟩) (by assumption) ?_
        try simp only [Act.put, sqA, sqB, sqC, sqD, sqE, sqF]
        refine wpAnyH_take (i := 15) (oi := _) (v := undef) rfl (by kernel_rfl) (by kernel_rfl) (by kernel_rfl) (fun _ _ _ h => h) (Or.inr ⟨by kernel_rfl, rfl⟩) (by assumption) ?_
        try simp only [Act.put, sqA, sqB, sqC, sqD, sqE, sqF]
        refine wpAnyH_take (i := 16) (oi := _) (v := undef) rfl (by kernel_rfl) (by kernel_rfl) (by kernel_rfl) (fun _ _ _ h => h) (Or.inr ⟨by kernel_rfl, rfl⟩) (by assumption) ?_
        try simp only [Act.put, sqA, sqB, sqC, sqD, sqE, sqF]
        refine wpAnyH_take (i := 17) (oi := _) (v := undef) rfl (by kernel_rfl) (by kernel_rfl) (by kernel_rfl) (fun _ _ _ h => h) (Or.inr ⟨by kernel_rfl, rfl⟩) (by assumption) ?_
        try simp only [Act.put, sqA, sqB, sqC, sqD, sqE, sqF]
        refine wpAnyH_take (i := 18) (oi := _) (v := undef) rfl (by kernel_rfl) (by kernel_rfl) (by kernel_rfl) (fun _ _ _ h => h) (Or.inr ⟨by kernel_rfl, rfl⟩) (by assumption) ?_
        try simp only [Act.put, sqA, sqB, sqC, sqD, sqE, sqF]
        refine wpAnyH_take (i := 19) (oi := _) (v := undef) rfl (by kernel_rfl) (by kernel_rfl) (by kernel_rfl) (fun _ _ _ h => h) (Or.inr ⟨by kernel_rfl, rfl⟩) (by assumption) ?_
        try simp only [Act.put, sqA, sqB, sqC, sqD, sqE, sqF]
        refine wpAnyH_take (i := 20) (oi := _) (v := undef) rfl (by kernel_rfl) (by kernel_rfl) (by kernel_rfl) (fun _ _ _ h => h) (Or.inr ⟨by kernel_rfl, rfl⟩) (by assumption) ?_
        try simp only [Act.put, sqA, sqB, sqC, sqD, sqE, sqF]
        refine wpAnyH_take (i := 21) (oi := _) (v := undef) rfl (by kernel_rfl) (by kernel_rfl) (by kernel_rfl) (fun _ _ _ h => h) (Or.inr ⟨by kernel_rfl, rfl⟩) (by assumption) ?_
        try simp only [Act.put, sqA, sqB, sqC, sqD, sqE, sqF]
        refine wpAnyH_take (i := 22) (oi := _) (v := undef) rfl (by kernel_rfl) (by kernel_rfl) (by kernel_rfl) (fun _ _ _ h => h) (Or.inr ⟨by kernel_rfl, rfl⟩) (by assumption) ?_
        try simp only [Act.put, sqA, sqB, sqC, sqD, sqE, sqF]
        refine wpAnyH_take (i := 23) (oi := _) (v := undef) rfl (by kernel_rfl) (by kernel_rfl) (by kernel_rfl) (fun _ _ _ h => h) (Or.inr ⟨by kernel_rfl, rfl⟩) (by assumption) ?_
        try simp only [Act.put, sqA, sqB, sqC, sqD, sqE, sqF]
        refine wpAnyH_take (i := 24) (oi := _) (v := undef) rfl (by kernel_rfl) (by kernel_rfl) (by kernel_rfl) (fun _ _ _ h => h) (Or.inr ⟨by kernel_rfl, rfl⟩) (by assumption) ?_
        try simp only [Act.put, sqA, sqB, sqC, sqD, sqE, sqF]
        refine wpAnyH_take (i := 25) (oi := _) (v := undef) rfl (by kernel_rfl) (by kernel_rfl) (by kernel_rfl) (fun _ _ _ h => h) (Or.inr ⟨by kernel_rfl, rfl⟩) (by assumption) ?_
        try simp only [Act.put, sqA, sqB, sqC, sqD, sqE, sqF]
        refine wpAnyH_take (i := 26) (oi := _) (v := undef) rfl (by kernel_rfl) (by kernel_rfl) (by kernel_rfl) (fun _ _ _ h => h) (Or.inr ⟨by kernel_rfl, rfl⟩) (by assumption) ?_
        try simp only [Act.put, sqA, sqB, sqC, sqD, sqE, sqF]
        refine tk 27 (by assumption) rfl (by kernel_rfl) (fun _ _ _ h => h) (fun V hV => by go_simp; try with_reducible rfl) ?_
        try simp only [Act.put, sqA, sqB, sqC, sqD, sqE, sqF]
        refine wpAnyH_done (by kernel_rfl) ?_ _
        go_wp2_with fail
        go_ret
        exact ⟨by rw [HBAD.out]; rfl, gNx HB1.out (gNx HB.out B0.out)⟩
    · have hkk : k = G.nodes.length := by omega
      have HG := Lib.hid (HCL.out (fun i hi => HOK0.out i (by omega)))
      have HNODES := Lib.hid ((nodesP_iff G.nodes).2 (fun i hi => HOK0.out i (by omega)))
      have hnk : ¬ (k : Int) < (G.nodes.length : Int) := by omega
      clear HOK0 HCN HCL hkk hlt hbel
      go_wp2_with fail
      go_loopw [4] (fun v wr => ∃ k : Nat, v = .int .i64 (k : Int) ∧ k ≤ G.links.length ∧ Below W1.heap.size W1 wr ∧ linksE G.nodes none G.links = linksE G.nodes (prv G.links k) (G.links.drop k)) (fun v _ => G.links.length - (RowKit.intOf v).toNat)
      case atStart => exact ⟨0, rfl, by omega, HB.out, rfl⟩
      case round =>
        clear g0 g1
        obtain ⟨k, rfl, hk, hbel, hinv⟩ := hrel
        have HB := Lib.hid hbel
        have HINV := Lib.hid hinv
        clear hinv
        obtain ⟨g0, g1⟩ := HKG.out wr hbel
        by_cases hlt : k < G.links.length
        · have hlti : (k : Int) < (G.links.length : Int) := by omega
          have hk0 : (0 : Int) ≤ (k : Int) := by omega
          obtain ⟨b, o, rfl, hb, hc⟩ := (HL.out wr hbel).at k hlt
          obtain ⟨c0, c1, c2, c3⟩ := hc k hlt
          have HC := Lib.hid hc
          clear hc
          have hkw : IntKind.i64.wrap ((k : Int) + 1) = (k : Int) + 1 := by rw [IntKind.wrap_i64]; have := HL1.out; omega
          have hst := g_storeL
          obtain ⟨W2, hW2⟩ : ∃ W2, W2 = wr.alloc (.cells #[.int .i64 G.links[k].a, .int .i64 G.links[k].b, .float .f64 G.links[k].w, .bool G.links[k].up] 62) := ⟨_, rfl⟩
          have hb2 : Below wr.heap.size wr W2 := by rw [hW2]; exact gAl _ _
          have hs2 : wr.heap.size < W2.heap.size := by rw [hW2]; simp
          have nb : LkAt W2 wr.heap.size 0 G.links[k] := by rw [hW2]; exact ⟨by simp [go_sem], by simp [go_sem], by simp [go_sem], by simp [go_sem]⟩
          have HB2 := Lib.hid hb2
          have HKB : Hid (∀ V, Below W2.heap.size W2 V → LkAt V wr.heap.size 0 G.links[k] ∧ V.cell? ⟨w.heap.size, 0, none⟩ = some (.slice na G.nodes.length nc) ∧ V.cell? ⟨w.heap.size, 1, none⟩ = some (.slice (some ⟨b, o, none⟩) G.links.length lc)) := Lib.hid (fun V hV => ⟨nb.kept (hV.block _ hs2), (HKG.out V (gNx HB.out (gNx hb2 hV))).1, (HKG.out V (gNx HB.out (gNx hb2 hV))).2⟩)
          have HCW := Lib.hid (fun (V : World) (hV : Below W2.heap.size W2 V) (i : Nat) (hi : i < G.links.length) => (HC.out i hi).kept ((gNx hb2 hV).block b hb))
          have HGOF := Lib.hid (links_go (ns := G.nodes) hlt)
          have HEND := Lib.hid (links_ends (ns := G.nodes) hlt (prv G.links k))
          have HORD : Hid (∀ m (e : k = m + 1), before (G.links[m]'(by omega)) G.links[k] = false → linksE G.nodes (prv G.links k) (G.links.drop k) = 71) := Lib.hid (fun m e h => by subst e; exact links_order hlt h)
          have HP : Hid (∀ x (V : World), Below W2.heap.size W2 V → Calls Tryz.prog 40 #[.agg #[.slice na G.nodes.length nc, .slice (some ⟨b, o, none⟩) G.links.length lc], .int .i64 x] V fun e w' => e = .returned (.int .i64 (placeV G.nodes x)) ∧ Below V.heap.size V w') := Lib.hid (fun x V hV => rPlace_any G.nodes na nc (some ⟨b, o, none⟩) G.links.length lc x V (HN.out V (gNx HB.out (gNx hb2 hV))) HNODES.out HN1.out)
          have HPa := Lib.hid (HP.out G.links[k].a)
          have HPb := Lib.hid (HP.out G.links[k].b)
          have HWT := Lib.hid (fun (V : World) => refweight_any G.links[k].w V (HWW.out _ (List.getElem_mem hlt)))
          have hna := (placeV_neg G.nodes G.links[k].a).1
          have hnb := (placeV_neg G.nodes G.links[k].b).1
          clear nb hb2 hs2 hbel HP
          go_upto_region 12 with (fail)
          rw [← hW2]
          clear hW2 c0 c1 c2 c3 g0 g1
          obtain ⟨⟨c0, c1, c2, c3⟩, c4, c5⟩ := HKB.out W2 (Below.refl _ _)
          by_cases hab : G.links[k].a < G.links[k].b
          · have hab2 : ¬ G.links[k].b ≤ G.links[k].a := by omega
            cases hha : has G.nodes G.links[k].a with
            | false =>
              have HBAD := Lib.hid (HEND.out (by rw [hha]; simp))
              have hpn := hna.2 hha
              clear HGOF HEND HORD HWT HCW HKB hna hnb hha HC hab
              generalize placeV G.nodes G.links[k].a = pa at *
              generalize G.links[k] = y at *
              go_wp2_with fail
              refine (HPa.out _ (Below.refl _ _)).mono ?_
              rintro e V1 ⟨rfl, hbx⟩
              have BP1 := Lib.hid (gNx (Below.refl _ _) hbx)
              clear hbx c0 c1 c2 c3 c4 c5
              go_wp2_with fail
              go_ret
              exact ⟨by rw [HG.out, HINV.out, HBAD.out]; rfl, gNx HB1.out (gNx HB.out (gNx HB2.out BP1.out))⟩
            | true =>
              have hpn : ¬ placeV G.nodes G.links[k].a < 0 := fun h => by have := hna.1 h; rw [hha] at this; cases this
              cases hhb : has G.nodes G.links[k].b with
              | false =>
                have HBAD := Lib.hid (HEND.out (by rw [hhb]; simp))
                have hpn2 := hnb.2 hhb
                clear HGOF HEND HORD HWT HCW hna hnb hha hhb HC hab
                generalize placeV G.nodes G.links[k].a = pa at *
                generalize placeV G.nodes G.links[k].b = pb at *
                generalize G.links[k] = y at *
                go_wp2_with fail
                refine (HPa.out _ (Below.refl _ _)).mono ?_
                rintro e V1 ⟨rfl, hbx⟩
                have BP1 := Lib.hid (gNx (Below.refl _ _) hbx)
                clear hbx c0 c1 c2 c3 c4 c5
                obtain ⟨⟨c0, c1, c2, c3⟩, c4, c5⟩ := HKB.out V1 BP1.out
                go_wp2_with fail
                refine (HPb.out _ BP1.out).mono ?_
                rintro e V2 ⟨rfl, hbx⟩
                have BP := Lib.hid (gNx BP1.out hbx)
                clear hbx c0 c1 c2 c3 c4 c5
                go_wp2_with fail
                go_ret
                exact ⟨by rw [HG.out, HINV.out, HBAD.out]; rfl, gNx HB1.out (gNx HB.out (gNx HB2.out BP.out))⟩
              | true =>
                have hpn2 : ¬ placeV G.nodes G.links[k].b < 0 := fun h => by have := hnb.1 h; rw [hhb] at this; cases this
                replace HGOF := Lib.hid (HGOF.out (by rw [hha, hhb]; simp [hab]))
                clear HEND hna hnb hha hhb hab
                generalize placeV G.nodes G.links[k].a = pa at *
                generalize placeV G.nodes G.links[k].b = pb at *
                go_wp2_with fail
                refine (HPa.out _ (Below.refl _ _)).mono ?_
                rintro e V1 ⟨rfl, hbx⟩
                have BP1 := Lib.hid (gNx (Below.refl _ _) hbx)
                clear hbx c0 c1 c2 c3 c4 c5
                obtain ⟨⟨c0, c1, c2, c3⟩, c4, c5⟩ := HKB.out V1 BP1.out
                go_wp2_with fail
                refine (HPb.out _ BP1.out).mono ?_
                rintro e V2 ⟨rfl, hbx⟩
                have BP := Lib.hid (gNx BP1.out hbx)
                clear hbx c0 c1 c2 c3 c4 c5
                go_upto_region 14 with (fail)
                by_cases hz : k = 0
                · have HGO := Lib.hid (HGOF.out (fun m e => by omega))
                  have KB := HKB.out
                  clear HGOF HORD HCW HKB HC
                  generalize G.links[k] = y at *
                  subst hz
                  refine wp_region_held_drew (S := fun V => Below W2.heap.size W2 V) (by kernel_rfl) (Below.drew BP.out) (fun hH => ?_)
                  have B0 : Hid (Below W2.heap.size W2 V2.drew) := Lib.hid (Below.drew BP.out)
                  clear BP
                  generalize V2.drew = V0 at *
                  refine tk 0 (by assumption) rfl (by kernel_rfl) (fun _ _ _ h => h) (fun V hV => by go_simp; try with_reducible rfl) ?_
                  try simp only [Act.put, sqA, sqB, sqC, sqD, sqE, sqF]
                  refine tk 1 (by assumption) rfl (by kernel_rfl) (fun _ _ _ h => h) (fun V hV => by go_simp; try with_reducible rfl) ?_
                  try simp only [Act.put, sqA, sqB, sqC, sqD, sqE, sqF]
                  refine tk 2 (by assumption) rfl (by kernel_rfl) (fun _ _ _ h => h) (fun V hV => by go_simp; try with_reducible rfl) ?_
                  try simp only [Act.put, sqA, sqB, sqC, sqD, sqE, sqF]
                  refine wpAnyH_take (i := 3) (oi := _) (v := undef) rfl (by kernel_rfl) (by kernel_rfl) (by kernel_rfl) (fun _ _ _ h => h) (Or.inr ⟨by kernel_rfl, rfl⟩) (by assumption) ?_
                  try simp only [Act.put, sqA, sqB, sqC, sqD, sqE, sqF]
                  refine wpAnyH_take (i := 4) (oi := _) (v := undef) rfl (by kernel_rfl) (by kernel_rfl) (by kernel_rfl) (fun _ _ _ h => h) (Or.inr ⟨by kernel_rfl, rfl⟩) (by assumption) ?_
                  try simp only [Act.put, sqA, sqB, sqC, sqD, sqE, sqF]
                  refine wpAnyH_take (i := 5) (oi := _) (v := undef) rfl (by kernel_rfl) (by kernel_rfl) (by kernel_rfl) (fun _ _ _ h => h) (Or.inr ⟨by kernel_rfl, rfl⟩) (by assumption) ?_
                  try simp only [Act.put, sqA, sqB, sqC, sqD, sqE, sqF]
                  refine wpAnyH_take (i := 6) (oi := _) (v := undef) rfl (by kernel_rfl) (by kernel_rfl) (by kernel_rfl) (fun _ _ _ h => h) (Or.inr ⟨by kernel_rfl, rfl⟩) (by assumption) ?_
                  try simp only [Act.put, sqA, sqB, sqC, sqD, sqE, sqF]
                  refine wpAnyH_take (i := 7) (oi := _) (v := undef) rfl (by kernel_rfl) (by kernel_rfl) (by kernel_rfl) (fun _ _ _ h => h) (Or.inr ⟨by kernel_rfl, rfl⟩) (by assumption) ?_
                  try simp only [Act.put, sqA, sqB, sqC, sqD, sqE, sqF]
                  refine wpAnyH_take (i := 8) (oi := _) (v := undef) rfl (by kernel_rfl) (by kernel_rfl) (by kernel_rfl) (fun _ _ _ h => h) (Or.inr ⟨by kernel_rfl, rfl⟩) (by assumption) ?_
                  try simp only [Act.put, sqA, sqB, sqC, sqD, sqE, sqF]
                  refine wpAnyH_take (i := 9) (oi := _) (v := undef) rfl (by kernel_rfl) (by kernel_rfl) (by kernel_rfl) (fun _ _ _ h => h) (Or.inr ⟨by kernel_rfl, rfl⟩) (by assumption) ?_
                  try simp only [Act.put, sqA, sqB, sqC, sqD, sqE, sqF]
                  refine wpAnyH_take (i := 10) (oi := _) (v := undef) rfl (by kernel_rfl) (by kernel_rfl) (by kernel_rfl) (fun _ _ _ h => h) (Or.inr ⟨by kernel_rfl, rfl⟩) (by assumption) ?_
                  try simp only [Act.put, sqA, sqB, sqC, sqD, sqE, sqF]
                  refine wpAnyH_take (i := 11) (oi := _) (v := undef) rfl (by kernel_rfl) (by kernel_rfl) (by kernel_rfl) (fun _ _ _ h => h) (Or.inr ⟨by kernel_rfl, rfl⟩) (by assumption) ?_
                  try simp only [Act.put, sqA, sqB, sqC, sqD, sqE, sqF]
                  refine wpAnyH_take (i := 12) (oi := _) (v := undef) rfl (by kernel_rfl) (by kernel_rfl) (by kernel_rfl) (fun _ _ _ h => h) (Or.inr ⟨by kernel_rfl, rfl⟩) (by assumption) ?_
                  try simp only [Act.put, sqA, sqB, sqC, sqD, sqE, sqF]
                  refine wpAnyH_take (i := 13) (oi := _) (v := undef) rfl (by kernel_rfl) (by kernel_rfl) (by kernel_rfl) (fun _ _ _ h => h) (Or.inr ⟨by kernel_rfl, rfl⟩) (by assumption) ?_
                  try simp only [Act.put, sqA, sqB, sqC, sqD, sqE, sqF]
                  refine wpAnyH_take (i := 14) (oi := _) (v := undef) rfl (by kernel_rfl) (by kernel_rfl) (by kernel_rfl) (fun _ _ _ h => h) (Or.inr ⟨by kernel_rfl, rfl⟩) (by assumption) ?_
                  try simp only [Act.put, sqA, sqB, sqC, sqD, sqE, sqF]
                  refine wpAnyH_take (i := 15) (oi := _) (v := undef) rfl (by kernel_rfl) (by kernel_rfl) (by kernel_rfl) (fun _ _ _ h => h) (Or.inr ⟨by kernel_rfl, rfl⟩) (by assumption) ?_
                  try simp only [Act.put, sqA, sqB, sqC, sqD, sqE, sqF]
                  refine wpAnyH_take (i := 16) (oi := _) (v := undef) rfl (by kernel_rfl) (by kernel_rfl) (by kernel_rfl) (fun _ _ _ h => h) (Or.inr ⟨by kernel_rfl, rfl⟩) (by assumption) ?_
                  try simp only [Act.put, sqA, sqB, sqC, sqD, sqE, sqF]
                  refine wpAnyH_take (i := 17) (oi := _) (v := undef) rfl (by kernel_rfl) (by kernel_rfl) (by kernel_rfl) (fun _ _ _ h => h) (Or.inr ⟨by kernel_rfl, rfl⟩) (by assumption) ?_
                  try simp only [Act.put, sqA, sqB, sqC, sqD, sqE, sqF]
                  refine wpAnyH_take (i := 18) (oi := _) (v := undef) rfl (by kernel_rfl) (by kernel_rfl) (by kernel_rfl) (fun _ _ _ h => h) (Or.inr ⟨by kernel_rfl, rfl⟩) (by assumption) ?_
                  try simp only [Act.put, sqA, sqB, sqC, sqD, sqE, sqF]
                  refine wpAnyH_take (i := 19) (oi := _) (v := undef) rfl (by kernel_rfl) (by kernel_rfl) (by kernel_rfl) (fun _ _ _ h => h) (Or.inr ⟨by kernel_rfl, rfl⟩) (by assumption) ?_
                  try simp only [Act.put, sqA, sqB, sqC, sqD, sqE, sqF]
                  refine wpAnyH_take (i := 20) (oi := _) (v := undef) rfl (by kernel_rfl) (by kernel_rfl) (by kernel_rfl) (fun _ _ _ h => h) (Or.inr ⟨by kernel_rfl, rfl⟩) (by assumption) ?_
                  try simp only [Act.put, sqA, sqB, sqC, sqD, sqE, sqF]
                  refine wpAnyH_take (i := 21) (oi := _) (v := undef) rfl (by kernel_rfl) (by kernel_rfl) (by kernel_rfl) (fun _ _ _ h => h) (Or.inr ⟨by kernel_rfl, rfl⟩) (by assumption) ?_
                  try simp only [Act.put, sqA, sqB, sqC, sqD, sqE, sqF]
                  refine wpAnyH_take (i := 22) (oi := _) (v := undef) rfl (by kernel_rfl) (by kernel_rfl) (by kernel_rfl) (fun _ _ _ h => h) (Or.inr ⟨by kernel_rfl, rfl⟩) (by assumption) ?_
                  try simp only [Act.put, sqA, sqB, sqC, sqD, sqE, sqF]
                  refine wpAnyH_take (i := 23) (oi := _) (v := undef) rfl (by kernel_rfl) (by kernel_rfl) (by kernel_rfl) (fun _ _ _ h => h) (Or.inr ⟨by kernel_rfl, rfl⟩) (by assumption) ?_
                  try simp only [Act.put, sqA, sqB, sqC, sqD, sqE, sqF]
                  refine wpAnyH_take (i := 24) (oi := _) (v := undef) rfl (by kernel_rfl) (by kernel_rfl) (by kernel_rfl) (fun _ _ _ h => h) (Or.inr ⟨by kernel_rfl, rfl⟩) (by assumption) ?_
                  try simp only [Act.put, sqA, sqB, sqC, sqD, sqE, sqF]
                  refine wpAnyH_take (i := 25) (oi := _) (v := undef) rfl (by kernel_rfl) (by kernel_rfl) (by kernel_rfl) (fun _ _ _ h => h) (Or.inr ⟨by kernel_rfl, rfl⟩) (by assumption) ?_
                  try simp only [Act.put, sqA, sqB, sqC, sqD, sqE, sqF]
                  refine wpAnyH_take (i := 26) (oi := _) (v := undef) rfl (by kernel_rfl) (by kernel_rfl) (by kernel_rfl) (fun _ _ _ h => h) (Or.inr ⟨by kernel_rfl, rfl⟩) (by assumption) ?_
                  try simp only [Act.put, sqA, sqB, sqC, sqD, sqE, sqF]
                  refine wpAnyH_take (i := 27) (oi := _) (v := undef) rfl (by kernel_rfl) (by kernel_rfl) (by kernel_rfl) (fun _ _ _ h => h) (Or.inr ⟨by kernel_rfl, rfl⟩) (by assumption) ?_
                  try simp only [Act.put, sqA, sqB, sqC, sqD, sqE, sqF]
                  refine wpAnyH_take (i := 28) (oi := _) (v := undef) rfl (by kernel_rfl) (by kernel_rfl) (by kernel_rfl) (fun _ _ _ h => h) (Or.inr ⟨by kernel_rfl, rfl⟩) (by assumption) ?_
                  try simp only [Act.put, sqA, sqB, sqC, sqD, sqE, sqF]
                  refine wpAnyH_take (i := 29) (oi := _) (v := undef) rfl (by kernel_rfl) (by kernel_rfl) (by kernel_rfl) (fun _ _ _ h => h) (Or.inr ⟨by kernel_rfl, rfl⟩) (by assumption) ?_
                  try simp only [Act.put, sqA, sqB, sqC, sqD, sqE, sqF]
                  refine wpAnyH_take (i := 30) (oi := _) (v := undef) rfl (by kernel_rfl) (by kernel_rfl) (by kernel_rfl) (fun _ _ _ h => h) (Or.inr ⟨by kernel_rfl, rfl⟩) (by assumption) ?_
                  try simp only [Act.put, sqA, sqB, sqC, sqD, sqE, sqF]
                  refine wpAnyH_take (i := 31) (oi := _) (v := undef) rfl (by kernel_rfl) (by kernel_rfl) (by kernel_rfl) (fun _ _ _ h => h) (Or.inr ⟨by kernel_rfl, rfl⟩) (by assumption) ?_
                  try simp only [Act.put, sqA, sqB, sqC, sqD, sqE, sqF]
                  refine wpAnyH_take (i := 32) (oi := _) (v := undef) rfl (by kernel_rfl) (by kernel_rfl) (by kernel_rfl) (fun _ _ _ h => h) (Or.inr ⟨by kernel_rfl, rfl⟩) (by assumption) ?_
                  try simp only [Act.put, sqA, sqB, sqC, sqD, sqE, sqF]
                  refine wpAnyH_take (i := 33) (oi := _) (v := undef) rfl (by kernel_rfl) (by kernel_rfl) (by kernel_rfl) (fun _ _ _ h => h) (Or.inr ⟨by kernel_rfl, rfl⟩) (by assumption) ?_
                  try simp only [Act.put, sqA, sqB, sqC, sqD, sqE, sqF]
                  refine wpAnyH_take (i := 34) (oi := _) (v := undef) rfl (by kernel_rfl) (by kernel_rfl) (by kernel_rfl) (fun _ _ _ h => h) (Or.inr ⟨by kernel_rfl, rfl⟩) (by assumption) ?_
                  try simp only [Act.put, sqA, sqB, sqC, sqD, sqE, sqF]
                  refine wpAnyH_take (i := 35) (oi := _) (v := undef) rfl (by kernel_rfl) (by kernel_rfl) (by kernel_rfl) (fun _ _ _ h => h) (Or.inr ⟨by kernel_rfl, rfl⟩) (by assumption) ?_
                  try simp only [Act.put, sqA, sqB, sqC, sqD, sqE, sqF]
                  refine wpAnyH_take (i := 36) (oi := _) (v := undef) rfl (by kernel_rfl) (by kernel_rfl) (by kernel_rfl) (fun _ _ _ h => h) (Or.inr ⟨by kernel_rfl, rfl⟩) (by assumption) ?_
                  try simp only [Act.put, sqA, sqB, sqC, sqD, sqE, sqF]
                  refine tk 37 (by assumption) rfl (by kernel_rfl) (fun _ _ _ h => h) (fun V hV => by go_simp; try with_reducible rfl) ?_
                  try simp only [Act.put, sqA, sqB, sqC, sqD, sqE, sqF]
                  refine wpAnyH_done (by kernel_rfl) ?_ _
                  obtain ⟨⟨c0, c1, c2, c3⟩, -, -⟩ := KB V0 B0.out
                  go_wp2_with fail
                  refine (HWT.out _).mono ?_
                  rintro e w2 ⟨rfl, rfl⟩
                  by_cases hw0 : weightF y.w = 0
                  · rw [hw0]
                    have HX := Lib.hid (HGO.out.trans (if_neg (by simpa using hw0)))
                    clear hw0
                    go_wp2_with fail
                    refine ⟨⟨0 + 1, by simp, by omega, gNx HB.out (gNx HB2.out B0.out), HINV.out.trans HX.out⟩, ?_⟩
                    simp [RowKit.intOf]; omega
                  · have HX := Lib.hid (HGO.out.trans (if_pos hw0))
                    generalize weightF y.w = q at *
                    have hq : (q != 0) = true := by simpa using hw0
                    go_wp2_with fail
                    go_ret
                    exact ⟨by rw [HG.out, HINV.out, HX.out]; rfl, gNx HB1.out (gNx HB.out (gNx HB2.out B0.out))⟩
                · obtain ⟨m, hm⟩ : ∃ m, k = m + 1 := ⟨k - 1, by omega⟩
                  have hkp : (0 : Int) < (k : Int) := by omega
                  have hkq : 0 < k := by omega
                  have hsub : IntKind.i64.wrap ((k : Int) - 1) = (m : Int) := by rw [IntKind.wrap_i64]; have := HL1.out; omega
                  have hm0 : (0 : Int) ≤ (m : Int) := by omega
                  have hml : m < G.links.length := by omega
                  have hmi : (m : Int) < (G.links.length : Int) := by omega
                  have KB : ∀ V, Below W2.heap.size W2 V → LkAt V wr.heap.size 0 G.links[k] ∧ V.cell? ⟨w.heap.size, 0, none⟩ = some (.slice na G.nodes.length nc) ∧ V.cell? ⟨w.heap.size, 1, none⟩ = some (.slice (some ⟨b, o, none⟩) G.links.length lc) ∧ LkAt V b (o + m * 4) G.links[m] := fun V hV => ⟨(HKB.out V hV).1, (HKB.out V hV).2.1, (HKB.out V hV).2.2, HCW.out V hV m hml⟩
                  have HGOM : Hid (before G.links[m] G.links[k] = true → linksE G.nodes (prv G.links k) (G.links.drop k) = if weightF G.links[k].w ≠ 0 then weightF G.links[k].w else linksE G.nodes (prv G.links (k + 1)) (G.links.drop (k + 1))) := Lib.hid (fun h => HGOF.out (fun m' e => by have e2 : m' = m := (by omega); subst e2; exact h))
                  have HORM : Hid (before G.links[m] G.links[k] = false → linksE G.nodes (prv G.links k) (G.links.drop k) = 71) := Lib.hid (HORD.out m hm)
                  clear HGOF HORD HCW HKB HC hm
                  have hbc := before_cases (x := G.links[m]) (y := G.links[k])
                  generalize before G.links[m] G.links[k] = bf at *
                  generalize G.links[k] = y at *
                  generalize G.links[m] = py at *
                  by_cases h1 : y.a < py.a
                  · have HBAD := Lib.hid (HORM.out (by cases bf with | false => rfl | true => have := hbc.1 rfl; omega))
                    clear hbc HGOM HORM
                    refine wp_region_held_drew (S := fun V => Below W2.heap.size W2 V) (by kernel_rfl) (Below.drew BP.out) (fun hH => ?_)
                    have B0 : Hid (Below W2.heap.size W2 V2.drew) := Lib.hid (Below.drew BP.out)
                    clear BP
                    generalize V2.drew = V0 at *
                    refine tk 0 (by assumption) rfl (by kernel_rfl) (fun _ _ _ h => h) (fun V hV => by go_simp; try with_reducible rfl) ?_
                    try simp only [Act.put, sqA, sqB, sqC, sqD, sqE, sqF]
                    refine tk 1 (by assumption) rfl (by kernel_rfl) (fun _ _ _ h => h) (fun V hV => by go_simp; try with_reducible rfl) ?_
                    try simp only [Act.put, sqA, sqB, sqC, sqD, sqE, sqF]
                    refine tk 2 (by assumption) rfl (by kernel_rfl) (fun _ _ _ h => h) (fun V hV => by go_simp; try with_reducible rfl) ?_
                    try simp only [Act.put, sqA, sqB, sqC, sqD, sqE, sqF]
                    refine tk 3 (by assumption) rfl (by kernel_rfl) (fun _ _ _ h => h) (fun V hV => by go_simp; try with_reducible rfl) ?_
                    try simp only [Act.put, sqA, sqB, sqC, sqD, sqE, sqF]
                    refine tk 4 (by assumption) rfl (by kernel_rfl) (fun _ _ _ h => h) (fun V hV => by obtain ⟨⟨c0, c1, c2, c3⟩, c4, c5, ⟨c6, c7, c8, c9⟩⟩ := KB V hV; go_simp; try with_reducible rfl) ?_
                    try simp only [Act.put, sqA, sqB, sqC, sqD, sqE, sqF]
                    refine tk 5 (by assumption) rfl (by kernel_rfl) (fun _ _ _ h => h) (fun V hV => by go_simp; try with_reducible rfl) ?_
                    try simp only [Act.put, sqA, sqB, sqC, sqD, sqE, sqF]
                    refine tk 6 (by assumption) rfl (by kernel_rfl) (fun _ _ _ h => h) (fun V hV => by go_simp; try with_reducible rfl) ?_
                    try simp only [Act.put, sqA, sqB, sqC, sqD, sqE, sqF]
                    refine tk 7 (by assumption) rfl (by kernel_rfl) (fun _ _ _ h => h) (fun V hV => by go_simp; try with_reducible rfl) ?_
                    try simp only [Act.put, sqA, sqB, sqC, sqD, sqE, sqF]
                    refine tk 8 (by assumption) rfl (by kernel_rfl) (fun _ _ _ h => h) (fun V hV => by go_simp; try with_reducible rfl) ?_
                    try simp only [Act.put, sqA, sqB, sqC, sqD, sqE, sqF]
                    refine tk 9 (by assumption) rfl (by kernel_rfl) (fun _ _ _ h => h) (fun V hV => by obtain ⟨⟨c0, c1, c2, c3⟩, c4, c5, ⟨c6, c7, c8, c9⟩⟩ := KB V hV; go_simp; try with_reducible rfl) ?_
                    try simp only [Act.put, sqA, sqB, sqC, sqD, sqE, sqF]
                    refine tk 10 (by assumption) rfl (by kernel_rfl) (fun _ _ _ h => h) (fun V hV => by go_simp; try with_reducible rfl) ?_
                    try simp only [Act.put, sqA, sqB, sqC, sqD, sqE, sqF]
                    refine tk 11 (by assumption) rfl (by kernel_rfl) (fun _ _ _ h => h) (fun V hV => by obtain ⟨⟨c0, c1, c2, c3⟩, c4, c5, ⟨c6, c7, c8, c9⟩⟩ := KB V hV; go_simp; try with_reducible rfl) ?_
                    try simp only [Act.put, sqA, sqB, sqC, sqD, sqE, sqF]
                    refine tk 12 (by assumption) rfl (by kernel_rfl) (fun _ _ _ h => h) (fun V hV => by go_simp; try with_reducible rfl) ?_
                    try simp only [Act.put, sqA, sqB, sqC, sqD, sqE, sqF]
                    refine tk 13 (by assumption) rfl (by kernel_rfl) (fun _ _ _ h => h) (fun V hV => by go_simp; try with_reducible rfl) ?_
                    try simp only [Act.put, sqA, sqB, sqC, sqD, sqE, sqF]
                    refine wpAnyH_take (i := 14) (oi := _) (v := undef) rfl (by kernel_rfl) (by kernel_rfl) (by kernel_rfl) (fun _ _ _ h => h) (Or.inr ⟨by kernel_rfl, rfl⟩) (by assumption) ?_
                    try simp only [Act.put, sqA, sqB, sqC, sqD, sqE, sqF]
                    refine wpAnyH_take (i := 15) (oi := _) (v := undef) rfl (by kernel_rfl) (by kernel_rfl) (by kernel_rfl) (fun _ _ _ h => h) (Or.inr ⟨by kernel_rfl, rfl⟩) (by assumption) ?_
                    try simp only [Act.put, sqA, sqB, sqC, sqD, sqE, sqF]
                    refine wpAnyH_take (i := 16) (oi := _) (v := undef) rfl (by kernel_rfl) (by kernel_rfl) (by kernel_rfl) (fun _ _ _ h => h) (Or.inr ⟨by kernel_rfl, rfl⟩) (by assumption) ?_
                    try simp only [Act.put, sqA, sqB, sqC, sqD, sqE, sqF]
                    refine wpAnyH_take (i := 17) (oi := _) (v := undef) rfl (by kernel_rfl) (by kernel_rfl) (by kernel_rfl) (fun _ _ _ h => h) (Or.inr ⟨by kernel_rfl, rfl⟩) (by assumption) ?_
                    try simp only [Act.put, sqA, sqB, sqC, sqD, sqE, sqF]
                    refine wpAnyH_take (i := 18) (oi := _) (v := undef) rfl (by kernel_rfl) (by kernel_rfl) (by kernel_rfl) (fun _ _ _ h => h) (Or.inr ⟨by kernel_rfl, rfl⟩) (by assumption) ?_
                    try simp only [Act.put, sqA, sqB, sqC, sqD, sqE, sqF]
                    refine wpAnyH_take (i := 19) (oi := _) (v := undef) rfl (by kernel_rfl) (by kernel_rfl) (by kernel_rfl) (fun _ _ _ h => h) (Or.inr ⟨by kernel_rfl, rfl⟩) (by assumption) ?_
                    try simp only [Act.put, sqA, sqB, sqC, sqD, sqE, sqF]
                    refine wpAnyH_take (i := 20) (oi := _) (v := undef) rfl (by kernel_rfl) (by kernel_rfl) (by kernel_rfl) (fun _ _ _ h => h) (Or.inr ⟨by kernel_rfl, rfl⟩) (by assumption) ?_
                    try simp only [Act.put, sqA, sqB, sqC, sqD, sqE, sqF]
                    refine wpAnyH_take (i := 21) (oi := _) (v := undef) rfl (by kernel_rfl) (by kernel_rfl) (by kernel_rfl) (fun _ _ _ h => h) (Or.inr ⟨by kernel_rfl, rfl⟩) (by assumption) ?_
                    try simp only [Act.put, sqA, sqB, sqC, sqD, sqE, sqF]
                    refine wpAnyH_take (i := 22) (oi := _) (v := undef) rfl (by kernel_rfl) (by kernel_rfl) (by kernel_rfl) (fun _ _ _ h => h) (Or.inr ⟨by kernel_rfl, rfl⟩) (by assumption) ?_
                    try simp only [Act.put, sqA, sqB, sqC, sqD, sqE, sqF]
                    refine wpAnyH_take (i := 23) (oi := _) (v := undef) rfl (by kernel_rfl) (by kernel_rfl) (by kernel_rfl) (fun _ _ _ h => h) (Or.inr ⟨by kernel_rfl, rfl⟩) (by assumption) ?_
                    try simp only [Act.put, sqA, sqB, sqC, sqD, sqE, sqF]
                    refine wpAnyH_take (i := 24) (oi := _) (v := undef) rfl (by kernel_rfl) (by kernel_rfl) (by kernel_rfl) (fun _ _ _ h => h) (Or.inr ⟨by kernel_rfl, rfl⟩) (by assumption) ?_
                    try simp only [Act.put, sqA, sqB, sqC, sqD, sqE, sqF]
                    refine wpAnyH_take (i := 25) (oi := _) (v := undef) rfl (by kernel_rfl) (by kernel_rfl) (by kernel_rfl) (fun _ _ _ h => h) (Or.inr ⟨by kernel_rfl, rfl⟩) (by assumption) ?_
                    try simp only [Act.put, sqA, sqB, sqC, sqD, sqE, sqF]
                    refine wpAnyH_take (i := 26) (oi := _) (v := undef) rfl (by kernel_rfl) (by kernel_rfl) (by kernel_rfl) (fun _ _ _ h => h) (Or.inr ⟨by kernel_rfl, rfl⟩) (by assumption) ?_
                    try simp only [Act.put, sqA, sqB, sqC, sqD, sqE, sqF]
                    refine wpAnyH_take (i := 27) (oi := _) (v := undef) rfl (by kernel_rfl) (by kernel_rfl) (by kernel_rfl) (fun _ _ _ h => h) (Or.inr ⟨by kernel_rfl, rfl⟩) (by assumption) ?_
                    try simp only [Act.put, sqA, sqB, sqC, sqD, sqE, sqF]
                    refine wpAnyH_take (i := 28) (oi := _) (v := undef) rfl (by kernel_rfl) (by kernel_rfl) (by kernel_rfl) (fun _ _ _ h => h) (Or.inr ⟨by kernel_rfl, rfl⟩) (by assumption) ?_
                    try simp only [Act.put, sqA, sqB, sqC, sqD, sqE, sqF]
                    refine wpAnyH_take (i := 29) (oi := _) (v := undef) rfl (by kernel_rfl) (by kernel_rfl) (by kernel_rfl) (fun _ _ _ h => h) (Or.inr ⟨by kernel_rfl, rfl⟩) (by assumption) ?_
                    try simp only [Act.put, sqA, sqB, sqC, sqD, sqE, sqF]
                    refine wpAnyH_take (i := 30) (oi := _) (v := undef) rfl (by kernel_rfl) (by kernel_rfl) (by kernel_rfl) (fun _ _ _ h => h) (Or.inr ⟨by kernel_rfl, rfl⟩) (by assumption) ?_
                    try simp only [Act.put, sqA, sqB, sqC, sqD, sqE, sqF]
                    refine wpAnyH_take (i := 31) (oi := _) (v := undef) rfl (by kernel_rfl) (by kernel_rfl) (by kernel_rfl) (fun _ _ _ h => h) (Or.inr ⟨by kernel_rfl, rfl⟩) (by assumption) ?_
                    try simp only [Act.put, sqA, sqB, sqC, sqD, sqE, sqF]
                    refine wpAnyH_take (i := 32) (oi := _) (v := undef) rfl (by kernel_rfl) (by kernel_rfl) (by kernel_rfl) (fun _ _ _ h => h) (Or.inr ⟨by kernel_rfl, rfl⟩) (by assumption) ?_
                    try simp only [Act.put, sqA, sqB, sqC, sqD, sqE, sqF]
                    refine wpAnyH_take (i := 33) (oi := _) (v := undef) rfl (by kernel_rfl) (by kernel_rfl) (by kernel_rfl) (fun _ _ _ h => h) (Or.inr ⟨by kernel_rfl, rfl⟩) (by assumption) ?_
                    try simp only [Act.put, sqA, sqB, sqC, sqD, sqE, sqF]
                    refine wpAnyH_take (i := 34) (oi := _) (v := undef) rfl (by kernel_rfl) (by kernel_rfl) (by kernel_rfl) (fun _ _ _ h => h) (Or.inr ⟨by kernel_rfl, rfl⟩) (by assumption) ?_
                    try simp only [Act.put, sqA, sqB, sqC, sqD, sqE, sqF]
                    refine wpAnyH_take (i := 35) (oi := _) (v := undef) rfl (by kernel_rfl) (by kernel_rfl) (by kernel_rfl) (fun _ _ _ h => h) (Or.inr ⟨by kernel_rfl, rfl⟩) (by assumption) ?_
                    try simp only [Act.put, sqA, sqB, sqC, sqD, sqE, sqF]
                    refine tk 36 (by assumption) rfl (by kernel_rfl) (fun _ _ _ h => h) (fun V hV => by go_simp; try with_reducible rfl) ?_
                    try simp only [Act.put, sqA, sqB, sqC, sqD, sqE, sqF]
                    refine tk 37 (by assumption) rfl (by kernel_rfl) (fun _ _ _ h => h) (fun V hV => by go_simp; try with_reducible rfl) ?_
                    try simp only [Act.put, sqA, sqB, sqC, sqD, sqE, sqF]
                    refine wpAnyH_done (by kernel_rfl) ?_ _
                    go_wp2_with fail
                    go_ret
                    exact ⟨by rw [HG.out, HINV.out, HBAD.out]; rfl, gNx HB1.out (gNx HB.out (gNx HB2.out B0.out))⟩
                  · by_cases h2 : py.a = y.a
                    · have h2b : (py.a == y.a) = true := by simpa using h2
                      by_cases h3 : y.b ≤ py.b
                      · have HBAD := Lib.hid (HORM.out (by cases bf with | false => rfl | true => have := hbc.1 rfl; omega))
                        clear hbc HGOM HORM h2
                        refine wp_region_held_drew (S := fun V => Below W2.heap.size W2 V) (by kernel_rfl) (Below.drew BP.out) (fun hH => ?_)
                        have B0 : Hid (Below W2.heap.size W2 V2.drew) := Lib.hid (Below.drew BP.out)
                        clear BP
                        generalize V2.drew = V0 at *
                        refine tk 0 (by assumption) rfl (by kernel_rfl) (fun _ _ _ h => h) (fun V hV => by go_simp; try with_reducible rfl) ?_
                        try simp only [Act.put, sqA, sqB, sqC, sqD, sqE, sqF]
                        refine tk 1 (by assumption) rfl (by kernel_rfl) (fun _ _ _ h => h) (fun V hV => by go_simp; try with_reducible rfl) ?_
                        try simp only [Act.put, sqA, sqB, sqC, sqD, sqE, sqF]
                        refine tk 2 (by assumption) rfl (by kernel_rfl) (fun _ _ _ h => h) (fun V hV => by go_simp; try with_reducible rfl) ?_
                        try simp only [Act.put, sqA, sqB, sqC, sqD, sqE, sqF]
                        refine tk 3 (by assumption) rfl (by kernel_rfl) (fun _ _ _ h => h) (fun V hV => by go_simp; try with_reducible rfl) ?_
                        try simp only [Act.put, sqA, sqB, sqC, sqD, sqE, sqF]
                        refine tk 4 (by assumption) rfl (by kernel_rfl) (fun _ _ _ h => h) (fun V hV => by obtain ⟨⟨c0, c1, c2, c3⟩, c4, c5, ⟨c6, c7, c8, c9⟩⟩ := KB V hV; go_simp; try with_reducible rfl) ?_
                        try simp only [Act.put, sqA, sqB, sqC, sqD, sqE, sqF]
                        refine tk 5 (by assumption) rfl (by kernel_rfl) (fun _ _ _ h => h) (fun V hV => by go_simp; try with_reducible rfl) ?_
                        try simp only [Act.put, sqA, sqB, sqC, sqD, sqE, sqF]
                        refine tk 6 (by assumption) rfl (by kernel_rfl) (fun _ _ _ h => h) (fun V hV => by go_simp; try with_reducible rfl) ?_
                        try simp only [Act.put, sqA, sqB, sqC, sqD, sqE, sqF]
                        refine tk 7 (by assumption) rfl (by kernel_rfl) (fun _ _ _ h => h) (fun V hV => by go_simp; try with_reducible rfl) ?_
                        try simp only [Act.put, sqA, sqB, sqC, sqD, sqE, sqF]
                        refine tk 8 (by assumption) rfl (by kernel_rfl) (fun _ _ _ h => h) (fun V hV => by go_simp; try with_reducible rfl) ?_
                        try simp only [Act.put, sqA, sqB, sqC, sqD, sqE, sqF]
                        refine tk 9 (by assumption) rfl (by kernel_rfl) (fun _ _ _ h => h) (fun V hV => by obtain ⟨⟨c0, c1, c2, c3⟩, c4, c5, ⟨c6, c7, c8, c9⟩⟩ := KB V hV; go_simp; try with_reducible rfl) ?_
                        try simp only [Act.put, sqA, sqB, sqC, sqD, sqE, sqF]
                        refine tk 10 (by assumption) rfl (by kernel_rfl) (fun _ _ _ h => h) (fun V hV => by go_simp; try with_reducible rfl) ?_
                        try simp only [Act.put, sqA, sqB, sqC, sqD, sqE, sqF]
                        refine tk 11 (by assumption) rfl (by kernel_rfl) (fun _ _ _ h => h) (fun V hV => by obtain ⟨⟨c0, c1, c2, c3⟩, c4, c5, ⟨c6, c7, c8, c9⟩⟩ := KB V hV; go_simp; try with_reducible rfl) ?_
                        try simp only [Act.put, sqA, sqB, sqC, sqD, sqE, sqF]
                        refine tk 12 (by assumption) rfl (by kernel_rfl) (fun _ _ _ h => h) (fun V hV => by go_simp; try with_reducible rfl) ?_
                        try simp only [Act.put, sqA, sqB, sqC, sqD, sqE, sqF]
                        refine tk 13 (by assumption) rfl (by kernel_rfl) (fun _ _ _ h => h) (fun V hV => by go_simp; try with_reducible rfl) ?_
                        try simp only [Act.put, sqA, sqB, sqC, sqD, sqE, sqF]
                        refine tk 14 (by assumption) rfl (by kernel_rfl) (fun _ _ _ h => h) (fun V hV => by go_simp; try with_reducible rfl) ?_
                        try simp only [Act.put, sqA, sqB, sqC, sqD, sqE, sqF]
                        refine tk 15 (by assumption) rfl (by kernel_rfl) (fun _ _ _ h => h) (fun V hV => by obtain ⟨⟨c0, c1, c2, c3⟩, c4, c5, ⟨c6, c7, c8, c9⟩⟩ := KB V hV; go_simp; try with_reducible rfl) ?_
                        try simp only [Act.put, sqA, sqB, sqC, sqD, sqE, sqF]
                        refine tk 16 (by assumption) rfl (by kernel_rfl) (fun _ _ _ h => h) (fun V hV => by go_simp; try with_reducible rfl) ?_
                        try simp only [Act.put, sqA, sqB, sqC, sqD, sqE, sqF]
                        refine tk 17 (by assumption) rfl (by kernel_rfl) (fun _ _ _ h => h) (fun V hV => by go_simp; try with_reducible rfl) ?_
                        try simp only [Act.put, sqA, sqB, sqC, sqD, sqE, sqF]
                        refine tk 18 (by assumption) rfl (by kernel_rfl) (fun _ _ _ h => h) (fun V hV => by go_simp; try with_reducible rfl) ?_
                        try simp only [Act.put, sqA, sqB, sqC, sqD, sqE, sqF]
                        refine tk 19 (by assumption) rfl (by kernel_rfl) (fun _ _ _ h => h) (fun V hV => by go_simp; try with_reducible rfl) ?_
                        try simp only [Act.put, sqA, sqB, sqC, sqD, sqE, sqF]
                        refine tk 20 (by assumption) rfl (by kernel_rfl) (fun _ _ _ h => h) (fun V hV => by obtain ⟨⟨c0, c1, c2, c3⟩, c4, c5, ⟨c6, c7, c8, c9⟩⟩ := KB V hV; go_simp; try with_reducible rfl) ?_
                        try simp only [Act.put, sqA, sqB, sqC, sqD, sqE, sqF]
                        refine tk 21 (by assumption) rfl (by kernel_rfl) (fun _ _ _ h => h) (fun V hV => by go_simp; try with_reducible rfl) ?_
                        try simp only [Act.put, sqA, sqB, sqC, sqD, sqE, sqF]
                        refine tk 22 (by assumption) rfl (by kernel_rfl) (fun _ _ _ h => h) (fun V hV => by obtain ⟨⟨c0, c1, c2, c3⟩, c4, c5, ⟨c6, c7, c8, c9⟩⟩ := KB V hV; go_simp; try with_reducible rfl) ?_
                        try simp only [Act.put, sqA, sqB, sqC, sqD, sqE, sqF]
                        refine tk 23 (by assumption) rfl (by kernel_rfl) (fun _ _ _ h => h) (fun V hV => by go_simp; try with_reducible rfl) ?_
                        try simp only [Act.put, sqA, sqB, sqC, sqD, sqE, sqF]
                        refine tk 24 (by assumption) rfl (by kernel_rfl) (fun _ _ _ h => h) (fun V hV => by go_simp; try with_reducible rfl) ?_
                        try simp only [Act.put, sqA, sqB, sqC, sqD, sqE, sqF]
                        refine tk 25 (by assumption) rfl (by kernel_rfl) (fun _ _ _ h => h) (fun V hV => by go_simp; try with_reducible rfl) ?_
                        try simp only [Act.put, sqA, sqB, sqC, sqD, sqE, sqF]
                        refine tk 26 (by assumption) rfl (by kernel_rfl) (fun _ _ _ h => h) (fun V hV => by obtain ⟨⟨c0, c1, c2, c3⟩, c4, c5, ⟨c6, c7, c8, c9⟩⟩ := KB V hV; go_simp; try with_reducible rfl) ?_
                        try simp only [Act.put, sqA, sqB, sqC, sqD, sqE, sqF]
                        refine tk 27 (by assumption) rfl (by kernel_rfl) (fun _ _ _ h => h) (fun V hV => by go_simp; try with_reducible rfl) ?_
                        try simp only [Act.put, sqA, sqB, sqC, sqD, sqE, sqF]
                        refine tk 28 (by assumption) rfl (by kernel_rfl) (fun _ _ _ h => h) (fun V hV => by go_simp; try with_reducible rfl) ?_
                        try simp only [Act.put, sqA, sqB, sqC, sqD, sqE, sqF]
                        refine tk 29 (by assumption) rfl (by kernel_rfl) (fun _ _ _ h => h) (fun V hV => by go_simp; try with_reducible rfl) ?_
                        try simp only [Act.put, sqA, sqB, sqC, sqD, sqE, sqF]
                        refine tk 30 (by assumption) rfl (by kernel_rfl) (fun _ _ _ h => h) (fun V hV => by go_simp; try with_reducible rfl) ?_
                        try simp only [Act.put, sqA, sqB, sqC, sqD, sqE, sqF]
                        refine tk 31 (by assumption) rfl (by kernel_rfl) (fun _ _ _ h => h) (fun V hV => by obtain ⟨⟨c0, c1, c2, c3⟩, c4, c5, ⟨c6, c7, c8, c9⟩⟩ := KB V hV; go_simp; try with_reducible rfl) ?_
                        try simp only [Act.put, sqA, sqB, sqC, sqD, sqE, sqF]
                        refine tk 32 (by assumption) rfl (by kernel_rfl) (fun _ _ _ h => h) (fun V hV => by go_simp; try with_reducible rfl) ?_
                        try simp only [Act.put, sqA, sqB, sqC, sqD, sqE, sqF]
                        refine tk 33 (by assumption) rfl (by kernel_rfl) (fun _ _ _ h => h) (fun V hV => by obtain ⟨⟨c0, c1, c2, c3⟩, c4, c5, ⟨c6, c7, c8, c9⟩⟩ := KB V hV; go_simp; try with_reducible rfl) ?_
                        try simp only [Act.put, sqA, sqB, sqC, sqD, sqE, sqF]
                        refine tk 34 (by assumption) rfl (by kernel_rfl) (fun _ _ _ h => h) (fun V hV => by go_simp; try with_reducible rfl) ?_
                        try simp only [Act.put, sqA, sqB, sqC, sqD, sqE, sqF]
                        refine tk 35 (by assumption) rfl (by kernel_rfl) (fun _ _ _ h => h) (fun V hV => by go_simp; try with_reducible rfl) ?_
                        try simp only [Act.put, sqA, sqB, sqC, sqD, sqE, sqF]
                        refine tk 36 (by assumption) rfl (by kernel_rfl) (fun _ _ _ h => h) (fun V hV => by go_simp; try with_reducible rfl) ?_
                        try simp only [Act.put, sqA, sqB, sqC, sqD, sqE, sqF]
                        refine tk 37 (by assumption) rfl (by kernel_rfl) (fun _ _ _ h => h) (fun V hV => by go_simp; try with_reducible rfl) ?_
                        try simp only [Act.put, sqA, sqB, sqC, sqD, sqE, sqF]
                        refine wpAnyH_done (by kernel_rfl) ?_ _
                        go_wp2_with fail
                        go_ret
                        exact ⟨by rw [HG.out, HINV.out, HBAD.out]; rfl, gNx HB1.out (gNx HB.out (gNx HB2.out B0.out))⟩
                      · have HGO := Lib.hid (HGOM.out (hbc.2 (Or.inr ⟨h2, by omega⟩)))
                        clear hbc HGOM HORM h2
                        refine wp_region_held_drew (S := fun V => Below W2.heap.size W2 V) (by kernel_rfl) (Below.drew BP.out) (fun hH => ?_)
                        have B0 : Hid (Below W2.heap.size W2 V2.drew) := Lib.hid (Below.drew BP.out)
                        clear BP
                        generalize V2.drew = V0 at *
                        refine tk 0 (by assumption) rfl (by kernel_rfl) (fun _ _ _ h => h) (fun V hV => by go_simp; try with_reducible rfl) ?_
                        try simp only [Act.put, sqA, sqB, sqC, sqD, sqE, sqF]
                        refine tk 1 (by assumption) rfl (by kernel_rfl) (fun _ _ _ h => h) (fun V hV => by go_simp; try with_reducible rfl) ?_
                        try simp only [Act.put, sqA, sqB, sqC, sqD, sqE, sqF]
                        refine tk 2 (by assumption) rfl (by kernel_rfl) (fun _ _ _ h => h) (fun V hV => by go_simp; try with_reducible rfl) ?_
                        try simp only [Act.put, sqA, sqB, sqC, sqD, sqE, sqF]
                        refine tk 3 (by assumption) rfl (by kernel_rfl) (fun _ _ _ h => h) (fun V hV => by go_simp; try with_reducible rfl) ?_
                        try simp only [Act.put, sqA, sqB, sqC, sqD, sqE, sqF]
                        refine tk 4 (by assumption) rfl (by kernel_rfl) (fun _ _ _ h => h) (fun V hV => by obtain ⟨⟨c0, c1, c2, c3⟩, c4, c5, ⟨c6, c7, c8, c9⟩⟩ := KB V hV; go_simp; try with_reducible rfl) ?_
                        try simp only [Act.put, sqA, sqB, sqC, sqD, sqE, sqF]
                        refine tk 5 (by assumption) rfl (by kernel_rfl) (fun _ _ _ h => h) (fun V hV => by go_simp; try with_reducible rfl) ?_
                        try simp only [Act.put, sqA, sqB, sqC, sqD, sqE, sqF]
                        refine tk 6 (by assumption) rfl (by kernel_rfl) (fun _ _ _ h => h) (fun V hV => by go_simp; try with_reducible rfl) ?_
                        try simp only [Act.put, sqA, sqB, sqC, sqD, sqE, sqF]
                        refine tk 7 (by assumption) rfl (by kernel_rfl) (fun _ _ _ h => h) (fun V hV => by go_simp; try with_reducible rfl) ?_
                        try simp only [Act.put, sqA, sqB, sqC, sqD, sqE, sqF]
                        refine tk 8 (by assumption) rfl (by kernel_rfl) (fun _ _ _ h => h) (fun V hV => by go_simp; try with_reducible rfl) ?_
                        try simp only [Act.put, sqA, sqB, sqC, sqD, sqE, sqF]
                        refine tk 9 (by assumption) rfl (by kernel_rfl) (fun _ _ _ h => h) (fun V hV => by obtain ⟨⟨c0, c1, c2, c3⟩, c4, c5, ⟨c6, c7, c8, c9⟩⟩ := KB V hV; go_simp; try with_reducible rfl) ?_
                        try simp only [Act.put, sqA, sqB, sqC, sqD, sqE, sqF]
                        refine tk 10 (by assumption) rfl (by kernel_rfl) (fun _ _ _ h => h) (fun V hV => by go_simp; try with_reducible rfl) ?_
                        try simp only [Act.put, sqA, sqB, sqC, sqD, sqE, sqF]
                        refine tk 11 (by assumption) rfl (by kernel_rfl) (fun _ _ _ h => h) (fun V hV => by obtain ⟨⟨c0, c1, c2, c3⟩, c4, c5, ⟨c6, c7, c8, c9⟩⟩ := KB V hV; go_simp; try with_reducible rfl) ?_
                        try simp only [Act.put, sqA, sqB, sqC, sqD, sqE, sqF]
                        refine tk 12 (by assumption) rfl (by kernel_rfl) (fun _ _ _ h => h) (fun V hV => by go_simp; try with_reducible rfl) ?_
                        try simp only [Act.put, sqA, sqB, sqC, sqD, sqE, sqF]
                        refine tk 13 (by assumption) rfl (by kernel_rfl) (fun _ _ _ h => h) (fun V hV => by go_simp; try with_reducible rfl) ?_
                        try simp only [Act.put, sqA, sqB, sqC, sqD, sqE, sqF]
                        refine tk 14 (by assumption) rfl (by kernel_rfl) (fun _ _ _ h => h) (fun V hV => by go_simp; try with_reducible rfl) ?_
                        try simp only [Act.put, sqA, sqB, sqC, sqD, sqE, sqF]
                        refine tk 15 (by assumption) rfl (by kernel_rfl) (fun _ _ _ h => h) (fun V hV => by obtain ⟨⟨c0, c1, c2, c3⟩, c4, c5, ⟨c6, c7, c8, c9⟩⟩ := KB V hV; go_simp; try with_reducible rfl) ?_
                        try simp only [Act.put, sqA, sqB, sqC, sqD, sqE, sqF]
                        refine tk 16 (by assumption) rfl (by kernel_rfl) (fun _ _ _ h => h) (fun V hV => by go_simp; try with_reducible rfl) ?_
                        try simp only [Act.put, sqA, sqB, sqC, sqD, sqE, sqF]
                        refine tk 17 (by assumption) rfl (by kernel_rfl) (fun _ _ _ h => h) (fun V hV => by go_simp; try with_reducible rfl) ?_
                        try simp only [Act.put, sqA, sqB, sqC, sqD, sqE, sqF]
                        refine tk 18 (by assumption) rfl (by kernel_rfl) (fun _ _ _ h => h) (fun V hV => by go_simp; try with_reducible rfl) ?_
                        try simp only [Act.put, sqA, sqB, sqC, sqD, sqE, sqF]
                        refine tk 19 (by assumption) rfl (by kernel_rfl) (fun _ _ _ h => h) (fun V hV => by go_simp; try with_reducible rfl) ?_
                        try simp only [Act.put, sqA, sqB, sqC, sqD, sqE, sqF]
                        refine tk 20 (by assumption) rfl (by kernel_rfl) (fun _ _ _ h => h) (fun V hV => by obtain ⟨⟨c0, c1, c2, c3⟩, c4, c5, ⟨c6, c7, c8, c9⟩⟩ := KB V hV; go_simp; try with_reducible rfl) ?_
                        try simp only [Act.put, sqA, sqB, sqC, sqD, sqE, sqF]
                        refine tk 21 (by assumption) rfl (by kernel_rfl) (fun _ _ _ h => h) (fun V hV => by go_simp; try with_reducible rfl) ?_
                        try simp only [Act.put, sqA, sqB, sqC, sqD, sqE, sqF]
                        refine tk 22 (by assumption) rfl (by kernel_rfl) (fun _ _ _ h => h) (fun V hV => by obtain ⟨⟨c0, c1, c2, c3⟩, c4, c5, ⟨c6, c7, c8, c9⟩⟩ := KB V hV; go_simp; try with_reducible rfl) ?_
                        try simp only [Act.put, sqA, sqB, sqC, sqD, sqE, sqF]
                        refine tk 23 (by assumption) rfl (by kernel_rfl) (fun _ _ _ h => h) (fun V hV => by go_simp; try with_reducible rfl) ?_
                        try simp only [Act.put, sqA, sqB, sqC, sqD, sqE, sqF]
                        refine tk 24 (by assumption) rfl (by kernel_rfl) (fun _ _ _ h => h) (fun V hV => by go_simp; try with_reducible rfl) ?_
                        try simp only [Act.put, sqA, sqB, sqC, sqD, sqE, sqF]
                        refine tk 25 (by assumption) rfl (by kernel_rfl) (fun _ _ _ h => h) (fun V hV => by go_simp; try with_reducible rfl) ?_
                        try simp only [Act.put, sqA, sqB, sqC, sqD, sqE, sqF]
                        refine tk 26 (by assumption) rfl (by kernel_rfl) (fun _ _ _ h => h) (fun V hV => by obtain ⟨⟨c0, c1, c2, c3⟩, c4, c5, ⟨c6, c7, c8, c9⟩⟩ := KB V hV; go_simp; try with_reducible rfl) ?_
                        try simp only [Act.put, sqA, sqB, sqC, sqD, sqE, sqF]
                        refine tk 27 (by assumption) rfl (by kernel_rfl) (fun _ _ _ h => h) (fun V hV => by go_simp; try with_reducible rfl) ?_
                        try simp only [Act.put, sqA, sqB, sqC, sqD, sqE, sqF]
                        refine tk 28 (by assumption) rfl (by kernel_rfl) (fun _ _ _ h => h) (fun V hV => by go_simp; try with_reducible rfl) ?_
                        try simp only [Act.put, sqA, sqB, sqC, sqD, sqE, sqF]
                        refine tk 29 (by assumption) rfl (by kernel_rfl) (fun _ _ _ h => h) (fun V hV => by go_simp; try with_reducible rfl) ?_
                        try simp only [Act.put, sqA, sqB, sqC, sqD, sqE, sqF]
                        refine tk 30 (by assumption) rfl (by kernel_rfl) (fun _ _ _ h => h) (fun V hV => by go_simp; try with_reducible rfl) ?_
                        try simp only [Act.put, sqA, sqB, sqC, sqD, sqE, sqF]
                        refine tk 31 (by assumption) rfl (by kernel_rfl) (fun _ _ _ h => h) (fun V hV => by obtain ⟨⟨c0, c1, c2, c3⟩, c4, c5, ⟨c6, c7, c8, c9⟩⟩ := KB V hV; go_simp; try with_reducible rfl) ?_
                        try simp only [Act.put, sqA, sqB, sqC, sqD, sqE, sqF]
                        refine tk 32 (by assumption) rfl (by kernel_rfl) (fun _ _ _ h => h) (fun V hV => by go_simp; try with_reducible rfl) ?_
                        try simp only [Act.put, sqA, sqB, sqC, sqD, sqE, sqF]
                        refine tk 33 (by assumption) rfl (by kernel_rfl) (fun _ _ _ h => h) (fun V hV => by obtain ⟨⟨c0, c1, c2, c3⟩, c4, c5, ⟨c6, c7, c8, c9⟩⟩ := KB V hV; go_simp; try with_reducible rfl) ?_
                        try simp only [Act.put, sqA, sqB, sqC, sqD, sqE, sqF]
                        refine tk 34 (by assumption) rfl (by kernel_rfl) (fun _ _ _ h => h) (fun V hV => by go_simp; try with_reducible rfl) ?_
                        try simp only [Act.put, sqA, sqB, sqC, sqD, sqE, sqF]
                        refine tk 35 (by assumption) rfl (by kernel_rfl) (fun _ _ _ h => h) (fun V hV => by go_simp; try with_reducible rfl) ?_
                        try simp only [Act.put, sqA, sqB, sqC, sqD, sqE, sqF]
                        refine tk 36 (by assumption) rfl (by kernel_rfl) (fun _ _ _ h => h) (fun V hV => by go_simp; try with_reducible rfl) ?_
                        try simp only [Act.put, sqA, sqB, sqC, sqD, sqE, sqF]
                        refine tk 37 (by assumption) rfl (by kernel_rfl) (fun _ _ _ h => h) (fun V hV => by go_simp; try with_reducible rfl) ?_
                        try simp only [Act.put, sqA, sqB, sqC, sqD, sqE, sqF]
                        refine wpAnyH_done (by kernel_rfl) ?_ _
                        obtain ⟨⟨c0, c1, c2, c3⟩, -, -, -⟩ := KB V0 B0.out
                        go_wp2_with fail
                        refine (HWT.out _).mono ?_
                        rintro e w2 ⟨rfl, rfl⟩
                        by_cases hw0 : weightF y.w = 0
                        · rw [hw0]
                          have HX := Lib.hid (HGO.out.trans (if_neg (by simpa using hw0)))
                          clear hw0
                          go_wp2_with fail
                          refine ⟨⟨k + 1, by simp, by omega, gNx HB.out (gNx HB2.out B0.out), HINV.out.trans HX.out⟩, ?_⟩
                          simp [RowKit.intOf]; omega
                        · have HX := Lib.hid (HGO.out.trans (if_pos hw0))
                          generalize weightF y.w = q at *
                          have hq : (q != 0) = true := by simpa using hw0
                          go_wp2_with fail
                          go_ret
                          exact ⟨by rw [HG.out, HINV.out, HX.out]; rfl, gNx HB1.out (gNx HB.out (gNx HB2.out B0.out))⟩
                    · have h2b : (py.a == y.a) = false := by simpa using h2
                      have HGO := Lib.hid (HGOM.out (hbc.2 (Or.inl (by omega))))
                      clear hbc HGOM HORM h2
                      refine wp_region_held_drew (S := fun V => Below W2.heap.size W2 V) (by kernel_rfl) (Below.drew BP.out) (fun hH => ?_)
                      have B0 : Hid (Below W2.heap.size W2 V2.drew) := Lib.hid (Below.drew BP.out)
                      clear BP
                      generalize V2.drew = V0 at *
                      refine tk 0 (by assumption) rfl (by kernel_rfl) (fun _ _ _ h => h) (fun V hV => by go_simp; try with_reducible rfl) ?_
                      try simp only [Act.put, sqA, sqB, sqC, sqD, sqE, sqF]
                      refine tk 1 (by assumption) rfl (by kernel_rfl) (fun _ _ _ h => h) (fun V hV => by go_simp; try with_reducible rfl) ?_
                      try simp only [Act.put, sqA, sqB, sqC, sqD, sqE, sqF]
                      refine tk 2 (by assumption) rfl (by kernel_rfl) (fun _ _ _ h => h) (fun V hV => by go_simp; try with_reducible rfl) ?_
                      try simp only [Act.put, sqA, sqB, sqC, sqD, sqE, sqF]
                      refine tk 3 (by assumption) rfl (by kernel_rfl) (fun _ _ _ h => h) (fun V hV => by go_simp; try with_reducible rfl) ?_
                      try simp only [Act.put, sqA, sqB, sqC, sqD, sqE, sqF]
                      refine tk 4 (by assumption) rfl (by kernel_rfl) (fun _ _ _ h => h) (fun V hV => by obtain ⟨⟨c0, c1, c2, c3⟩, c4, c5, ⟨c6, c7, c8, c9⟩⟩ := KB V hV; go_simp; try with_reducible rfl) ?_
                      try simp only [Act.put, sqA, sqB, sqC, sqD, sqE, sqF]
                      refine tk 5 (by assumption) rfl (by kernel_rfl) (fun _ _ _ h => h) (fun V hV => by go_simp; try with_reducible rfl) ?_
                      try simp only [Act.put, sqA, sqB, sqC, sqD, sqE, sqF]
                      refine tk 6 (by assumption) rfl (by kernel_rfl) (fun _ _ _ h => h) (fun V hV => by go_simp; try with_reducible rfl) ?_
                      try simp only [Act.put, sqA, sqB, sqC, sqD, sqE, sqF]
                      refine tk 7 (by assumption) rfl (by kernel_rfl) (fun _ _ _ h => h) (fun V hV => by go_simp; try with_reducible rfl) ?_
                      try simp only [Act.put, sqA, sqB, sqC, sqD, sqE, sqF]
                      refine tk 8 (by assumption) rfl (by kernel_rfl) (fun _ _ _ h => h) (fun V hV => by go_simp; try with_reducible rfl) ?_
                      try simp only [Act.put, sqA, sqB, sqC, sqD, sqE, sqF]
                      refine tk 9 (by assumption) rfl (by kernel_rfl) (fun _ _ _ h => h) (fun V hV => by obtain ⟨⟨c0, c1, c2, c3⟩, c4, c5, ⟨c6, c7, c8, c9⟩⟩ := KB V hV; go_simp; try with_reducible rfl) ?_
                      try simp only [Act.put, sqA, sqB, sqC, sqD, sqE, sqF]
                      refine tk 10 (by assumption) rfl (by kernel_rfl) (fun _ _ _ h => h) (fun V hV => by go_simp; try with_reducible rfl) ?_
                      try simp only [Act.put, sqA, sqB, sqC, sqD, sqE, sqF]
                      refine tk 11 (by assumption) rfl (by kernel_rfl) (fun _ _ _ h => h) (fun V hV => by obtain ⟨⟨c0, c1, c2, c3⟩, c4, c5, ⟨c6, c7, c8, c9⟩⟩ := KB V hV; go_simp; try with_reducible rfl) ?_
                      try simp only [Act.put, sqA, sqB, sqC, sqD, sqE, sqF]
                      refine tk 12 (by assumption) rfl (by kernel_rfl) (fun _ _ _ h => h) (fun V hV => by go_simp; try with_reducible rfl) ?_
                      try simp only [Act.put, sqA, sqB, sqC, sqD, sqE, sqF]
                      refine tk 13 (by assumption) rfl (by kernel_rfl) (fun _ _ _ h => h) (fun V hV => by go_simp; try with_reducible rfl) ?_
                      try simp only [Act.put, sqA, sqB, sqC, sqD, sqE, sqF]
                      refine tk 14 (by assumption) rfl (by kernel_rfl) (fun _ _ _ h => h) (fun V hV => by go_simp; try with_reducible rfl) ?_
                      try simp only [Act.put, sqA, sqB, sqC, sqD, sqE, sqF]
                      refine tk 15 (by assumption) rfl (by kernel_rfl) (fun _ _ _ h => h) (fun V hV => by obtain ⟨⟨c0, c1, c2, c3⟩, c4, c5, ⟨c6, c7, c8, c9⟩⟩ := KB V hV; go_simp; try with_reducible rfl) ?_
                      try simp only [Act.put, sqA, sqB, sqC, sqD, sqE, sqF]
                      refine tk 16 (by assumption) rfl (by kernel_rfl) (fun _ _ _ h => h) (fun V hV => by go_simp; try with_reducible rfl) ?_
                      try simp only [Act.put, sqA, sqB, sqC, sqD, sqE, sqF]
                      refine tk 17 (by assumption) rfl (by kernel_rfl) (fun _ _ _ h => h) (fun V hV => by go_simp; try with_reducible rfl) ?_
                      try simp only [Act.put, sqA, sqB, sqC, sqD, sqE, sqF]
                      refine tk 18 (by assumption) rfl (by kernel_rfl) (fun _ _ _ h => h) (fun V hV => by go_simp; try with_reducible rfl) ?_
                      try simp only [Act.put, sqA, sqB, sqC, sqD, sqE, sqF]
                      refine tk 19 (by assumption) rfl (by kernel_rfl) (fun _ _ _ h => h) (fun V hV => by go_simp; try with_reducible rfl) ?_
                      try simp only [Act.put, sqA, sqB, sqC, sqD, sqE, sqF]
                      refine tk 20 (by assumption) rfl (by kernel_rfl) (fun _ _ _ h => h) (fun V hV => by obtain ⟨⟨c0, c1, c2, c3⟩, c4, c5, ⟨c6, c7, c8, c9⟩⟩ := KB V hV; go_simp; try with_reducible rfl) ?_
                      try simp only [Act.put, sqA, sqB, sqC, sqD, sqE, sqF]
                      refine tk 21 (by assumption) rfl (by kernel_rfl) (fun _ _ _ h => h) (fun V hV => by go_simp; try with_reducible rfl) ?_
                      try simp only [Act.put, sqA, sqB, sqC, sqD, sqE, sqF]
                      refine tk 22 (by assumption) rfl (by kernel_rfl) (fun _ _ _ h => h) (fun V hV => by obtain ⟨⟨c0, c1, c2, c3⟩, c4, c5, ⟨c6, c7, c8, c9⟩⟩ := KB V hV; go_simp; try with_reducible rfl) ?_
                      try simp only [Act.put, sqA, sqB, sqC, sqD, sqE, sqF]
                      refine tk 23 (by assumption) rfl (by kernel_rfl) (fun _ _ _ h => h) (fun V hV => by go_simp; try with_reducible rfl) ?_
                      try simp only [Act.put, sqA, sqB, sqC, sqD, sqE, sqF]
                      refine tk 24 (by assumption) rfl (by kernel_rfl) (fun _ _ _ h => h) (fun V hV => by go_simp; try with_reducible rfl) ?_
                      try simp only [Act.put, sqA, sqB, sqC, sqD, sqE, sqF]
                      refine wpAnyH_take (i := 25) (oi := _) (v := undef) rfl (by kernel_rfl) (by kernel_rfl) (by kernel_rfl) (fun _ _ _ h => h) (Or.inr ⟨by kernel_rfl, rfl⟩) (by assumption) ?_
                      try simp only [Act.put, sqA, sqB, sqC, sqD, sqE, sqF]
                      refine wpAnyH_take (i := 26) (oi := _) (v := undef) rfl (by kernel_rfl) (by kernel_rfl) (by kernel_rfl) (fun _ _ _ h => h) (Or.inr ⟨by kernel_rfl, rfl⟩) (by assumption) ?_
                      try simp only [Act.put, sqA, sqB, sqC, sqD, sqE, sqF]
                      refine wpAnyH_take (i := 27) (oi := _) (v := undef) rfl (by kernel_rfl) (by kernel_rfl) (by kernel_rfl) (fun _ _ _ h => h) (Or.inr ⟨by kernel_rfl, rfl⟩) (by assumption) ?_
                      try simp only [Act.put, sqA, sqB, sqC, sqD, sqE, sqF]
                      refine wpAnyH_take (i := 28) (oi := _) (v := undef) rfl (by kernel_rfl) (by kernel_rfl) (by kernel_rfl) (fun _ _ _ h => h) (Or.inr ⟨by kernel_rfl, rfl⟩) (by assumption) ?_
                      try simp only [Act.put, sqA, sqB, sqC, sqD, sqE, sqF]
                      refine wpAnyH_take (i := 29) (oi := _) (v := undef) rfl (by kernel_rfl) (by kernel_rfl) (by kernel_rfl) (fun _ _ _ h => h) (Or.inr ⟨by kernel_rfl, rfl⟩) (by assumption) ?_
                      try simp only [Act.put, sqA, sqB, sqC, sqD, sqE, sqF]
                      refine wpAnyH_take (i := 30) (oi := _) (v := undef) rfl (by kernel_rfl) (by kernel_rfl) (by kernel_rfl) (fun _ _ _ h => h) (Or.inr ⟨by kernel_rfl, rfl⟩) (by assumption) ?_
                      try simp only [Act.put, sqA, sqB, sqC, sqD, sqE, sqF]
                      refine wpAnyH_take (i := 31) (oi := _) (v := undef) rfl (by kernel_rfl) (by kernel_rfl) (by kernel_rfl) (fun _ _ _ h => h) (Or.inr ⟨by kernel_rfl, rfl⟩) (by assumption) ?_
                      try simp only [Act.put, sqA, sqB, sqC, sqD, sqE, sqF]
                      refine wpAnyH_take (i := 32) (oi := _) (v := undef) rfl (by kernel_rfl) (by kernel_rfl) (by kernel_rfl) (fun _ _ _ h => h) (Or.inr ⟨by kernel_rfl, rfl⟩) (by assumption) ?_
                      try simp only [Act.put, sqA, sqB, sqC, sqD, sqE, sqF]
                      refine wpAnyH_take (i := 33) (oi := _) (v := undef) rfl (by kernel_rfl) (by kernel_rfl) (by kernel_rfl) (fun _ _ _ h => h) (Or.inr ⟨by kernel_rfl, rfl⟩) (by assumption) ?_
                      try simp only [Act.put, sqA, sqB, sqC, sqD, sqE, sqF]
                      refine wpAnyH_take (i := 34) (oi := _) (v := undef) rfl (by kernel_rfl) (by kernel_rfl) (by kernel_rfl) (fun _ _ _ h => h) (Or.inr ⟨by kernel_rfl, rfl⟩) (by assumption) ?_
                      try simp only [Act.put, sqA, sqB, sqC, sqD, sqE, sqF]
                      refine tk 35 (by assumption) rfl (by kernel_rfl) (fun _ _ _ h => h) (fun V hV => by go_simp; try with_reducible rfl) ?_
                      try simp only [Act.put, sqA, sqB, sqC, sqD, sqE, sqF]
                      refine tk 36 (by assumption) rfl (by kernel_rfl) (fun _ _ _ h => h) (fun V hV => by go_simp; try with_reducible rfl) ?_
                      try simp only [Act.put, sqA, sqB, sqC, sqD, sqE, sqF]
                      refine tk 37 (by assumption) rfl (by kernel_rfl) (fun _ _ _ h => h) (fun V hV => by go_simp; try with_reducible rfl) ?_
                      try simp only [Act.put, sqA, sqB, sqC, sqD, sqE, sqF]
                      refine wpAnyH_done (by kernel_rfl) ?_ _
                      obtain ⟨⟨c0, c1, c2, c3⟩, -, -, -⟩ := KB V0 B0.out
                      go_wp2_with fail
                      refine (HWT.out _).mono ?_
                      rintro e w2 ⟨rfl, rfl⟩
                      by_cases hw0 : weightF y.w = 0
                      · rw [hw0]
                        have HX := Lib.hid (HGO.out.trans (if_neg (by simpa using hw0)))
                        clear hw0
                        go_wp2_with fail
                        refine ⟨⟨k + 1, by simp, by omega, gNx HB.out (gNx HB2.out B0.out), HINV.out.trans HX.out⟩, ?_⟩
                        simp [RowKit.intOf]; omega
                      · have HX := Lib.hid (HGO.out.trans (if_pos hw0))
                        generalize weightF y.w = q at *
                        have hq : (q != 0) = true := by simpa using hw0
                        go_wp2_with fail
                        go_ret
                        exact ⟨by rw [HG.out, HINV.out, HX.out]; rfl, gNx HB1.out (gNx HB.out (gNx HB2.out B0.out))⟩
          · have hab2 : G.links[k].b ≤ G.links[k].a := by omega
            have HBAD := Lib.hid (HEND.out (by rw [decide_eq_false hab]; rfl))
            clear HGOF HEND HORD HWT HCW HKB hna hnb HC hab
            generalize G.links[k] = y at *
            go_wp2_with fail
            go_ret
            exact ⟨by rw [HG.out, HINV.out, HBAD.out]; rfl, gNx HB1.out (gNx HB.out (gNx HB2.out (Below.refl _ _)))⟩
        · have hnk : ¬ (k : Int) < (G.links.length : Int) := by omega
          have HE := Lib.hid (HINV.out.trans (links_end (ns := G.nodes) (by omega) _))
          clear hlt
          go_wp2_with fail
          go_ret
          exact ⟨by rw [HG.out, HE.out]; rfl, gNx HB1.out HB.out⟩
end Go.Proofs.YtjlfpjjfldbknaaGreat
