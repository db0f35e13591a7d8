/- Graphs: graph.Check. -/
import Derived.Test.YtjlfpjjfldbknaaGreatNgI
import Derived.Test.YtjlfpjjfldbknaaGreatNqA
import Derived.Test.YtjlfpjjfldbknaaGreatFl1
import Derived.Test.YtjlfpjjfldbknaaGreatIdA0
namespace Go.Proofs.YtjlfpjjfldbknaaGreat
open Go.RowKit Go.Lib Go.Fq Go.Iq Go.Nq Go.Ow
set_option linter.unusedVariables false
set_option linter.unusedSimpArgs false
set_option maxRecDepth 100000

set_option maxHeartbeats 8000000 in
theorem gCheck_any (G : Gr) (na la : Option Addr) (nc lc : Nat) (w : World) (hN : NodesIn w w.heap.size G.nodes na) (hL : LinksIn w w.heap.size G.links la) (hw : ∀ y ∈ G.links, y.w < 2 ^ 64) (hn1 : G.nodes.length < 4611686018427387904) (hl1 : G.links.length < 4611686018427387904) :
    Calls Tryz.prog 46 #[.agg #[.slice na G.nodes.length nc, .slice la G.links.length lc]] w fun e w' => e = .returned (.int .i64 (checkG G)) ∧ Below w.heap.size w w' := by
  obtain ⟨W1, hW1⟩ : ∃ W1, W1 = w.alloc (.cells #[.slice na G.nodes.length nc, .slice la G.links.length lc] 25) := ⟨_, rfl⟩
  have hb1 : Below w.heap.size w W1 := by rw [hW1]; exact gAl _ _
  have hs1 : w.heap.size < W1.heap.size := by rw [hW1]; simp
  have k0 : W1.cell? ⟨w.heap.size, 0, none⟩ = some (.slice na G.nodes.length nc) := by rw [hW1]; simp [go_sem]
  have k1 : W1.cell? ⟨w.heap.size, 1, none⟩ = some (.slice la G.links.length lc) := by rw [hW1]; simp [go_sem]
  have KG : ∀ V, Below W1.heap.size W1 V → V.cell? ⟨w.heap.size, 0, none⟩ = some (.slice na G.nodes.length nc) ∧ V.cell? ⟨w.heap.size, 1, none⟩ = some (.slice la G.links.length lc) := fun V h => ⟨(h.cell (p := ⟨w.heap.size, 0, none⟩) hs1).trans k0, (h.cell (p := ⟨w.heap.size, 1, none⟩) hs1).trans k1⟩
  have HKG := Lib.hid KG
  have HB1 := Lib.hid hb1
  have HN : Hid (∀ V, Below W1.heap.size W1 V → NodesIn V V.heap.size G.nodes na) := Lib.hid (fun V h => hN.kept (fun i hi => (gNx hb1 h).block i hi) (gNx hb1 h).size)
  have HL : Hid (∀ V, Below W1.heap.size W1 V → LinksIn V V.heap.size G.links la) := Lib.hid (fun V h => hL.kept (fun i hi => (gNx hb1 h).block i hi) (gNx hb1 h).size)
  have HS1 := Lib.hid hs1
  have HWW := Lib.hid hw
  have HN1 := Lib.hid hn1
  have HL1 := Lib.hid hl1
  clear hN hL hb1 KG hs1 hw hn1 hl1
  by_cases hfn : 256 < G.nodes.length
  · have HG := Lib.hid (check_full (Or.inl hfn))
    have hfi : (256 : Int) < (G.nodes.length : Int) := by omega
    go_enter Tryz.func46, Tryz.ntmps46
    go_upto_region 1 with (fail)
    rw [← hW1]
    clear hW1
    go_wp2_with fail
    go_ret
    exact ⟨by rw [HG.out]; rfl, HB1.out⟩
  by_cases hfl : 4096 < G.links.length
  · have HG := Lib.hid (check_full (Or.inr hfl))
    have hfi : (4096 : Int) < (G.links.length : Int) := by omega
    have hfj : ¬ (256 : Int) < (G.nodes.length : Int) := by omega
    go_enter Tryz.func46, Tryz.ntmps46
    go_upto_region 1 with (fail)
    rw [← hW1]
    clear hW1
    go_wp2_with fail
    go_ret
    exact ⟨by rw [HG.out]; rfl, HB1.out⟩
  have hfi : ¬ (256 : Int) < (G.nodes.length : Int) := by omega
  have hfj : ¬ (4096 : Int) < (G.links.length : Int) := by omega
  have HCN := Lib.hid (fun (k : Nat) (hk : k < G.nodes.length) (h : ¬ NdOk G.nodes k) => check_node hfn hfl hk h)
  have HCL := Lib.hid (fun h => check_links hfn hfl h)
  go_enter Tryz.func46, Tryz.ntmps46
  go_upto_region 1 with (fail)
  rw [← hW1]
  clear hW1
  go_wp2_with fail
  go_loopw [21] (fun v wr => ∃ k : Nat, v = .int .i64 (k : Int) ∧ k ≤ G.nodes.length ∧ Below W1.heap.size W1 wr ∧ (∀ i, i < k → NdOk G.nodes i)) (fun v _ => G.nodes.length - (RowKit.intOf v).toNat)
  case atStart => exact ⟨0, rfl, by omega, Below.refl _ _, fun i hi => by omega⟩
  case round =>
    obtain ⟨k, rfl, hk, hbel, hok⟩ := hrel
    have HB := Lib.hid hbel
    have HOK0 := Lib.hid hok
    clear hok
    by_cases hlt : k < G.nodes.length
    · have hlti : (k : Int) < (G.nodes.length : Int) := by omega
      have hk0 : (0 : Int) ≤ (k : Int) := by omega
      obtain ⟨b, o, rfl, hb, hc⟩ := (HN.out wr hbel).at k hlt
      obtain ⟨c0, c1, c2⟩ := hc k hlt
      have HC := Lib.hid hc
      clear hc
      have hkw : IntKind.i64.wrap ((k : Int) + 1) = (k : Int) + 1 := by rw [IntKind.wrap_i64]; have := HN1.out; omega
      obtain ⟨W2, hW2⟩ : ∃ W2, W2 = wr.alloc (.cells #[.int .i64 G.nodes[k].id, .bool G.nodes[k].up, .bool G.nodes[k].mark] 60) := ⟨_, rfl⟩
      have hb2 : Below wr.heap.size wr W2 := by rw [hW2]; exact gAl _ _
      have hs2 : wr.heap.size < W2.heap.size := by rw [hW2]; simp
      have nb : NdAt W2 wr.heap.size 0 G.nodes[k] := by rw [hW2]; exact ⟨by simp [go_sem], by simp [go_sem], by simp [go_sem]⟩
      have HB2 := Lib.hid hb2
      have KB : ∀ V, Below W2.heap.size W2 V → NdAt V wr.heap.size 0 G.nodes[k] ∧ V.cell? ⟨w.heap.size, 0, none⟩ = some (.slice (some ⟨b, o, none⟩) G.nodes.length nc) := fun V hV => ⟨nb.kept (hV.block _ hs2), (HKG.out V (gNx HB.out (gNx hb2 hV))).1⟩
      have HKB := Lib.hid KB
      have HCW := Lib.hid (fun (V : World) (hV : Below W2.heap.size W2 V) (i : Nat) (hi : i < G.nodes.length) => (HC.out i hi).kept ((gNx hb2 hV).block b hb))
      have HNX : Hid (NdOk G.nodes k → ∀ i, i < k + 1 → NdOk G.nodes i) := Lib.hid (fun h i hi => by by_cases e : i = k; (subst e; exact h); exact HOK0.out i (by omega))
      clear nb KB hb2 hs2 hbel
      go_upto_region 6 with (fail)
      rw [← hW2]
      clear hW2 c0 c1 c2
      rcases idE_cases G.nodes[k].id with ⟨hq, hqb⟩ | ⟨hq, hqb⟩
      · by_cases hz : k = 0
        · have HOK := Lib.hid (HNX.out ⟨hlt, hqb, fun h => by omega⟩)
          have KA := HKB.out
          clear hqb HNX HOK0
          subst hz
          generalize G.nodes[0] = nd at *
          refine wp_region_held_drew (S := fun V => Below W2.heap.size W2 V) (by kernel_rfl) (Below.drew (Below.refl _ _)) (fun hH => ?_)
          have B0 : Hid (Below W2.heap.size W2 W2.drew) := Lib.hid (Below.drew (Below.refl _ _))
          generalize W2.drew = V0 at *
          refine tk 0 (by assumption) rfl (by kernel_rfl) (fun _ _ _ h => h) (fun V hV => by go_simp; try with_reducible rfl) ?_
          try simp only [Act.put, sqA, sqB, sqC, sqD, sqE, sqF]
          refine tk 1 (by assumption) rfl (by kernel_rfl) (fun _ _ _ h => h) (fun V hV => by obtain ⟨⟨c0, c1, c2⟩, c3⟩ := KA V hV; go_simp; try with_reducible rfl) ?_
          try simp only [Act.put, sqA, sqB, sqC, sqD, sqE, sqF]
          refine wpAnyH_ready (rs := [2]) (by kernel_rfl) (by simp) ?_
          refine AllReadyH.cons (o := _) rfl (fun K hK => ?_) AllReadyH.nil
          go_simp
          refine (checkId_any _ _).mono ?_
          rintro e w2 ⟨rfl, rfl⟩
          rw [hq]
          go_wp2_with fail
          refine hK.out _ _ B0.out (fun hH => ?_)
          clear hK K
          try simp only [Act.put, sqA, sqB, sqC, sqD, sqE, sqF]
          refine tk 3 (by assumption) rfl (by kernel_rfl) (fun _ _ _ h => h) (fun V hV => by go_simp; try with_reducible rfl) ?_
          try simp only [Act.put, sqA, sqB, sqC, sqD, sqE, sqF]
          refine tk 4 (by assumption) rfl (by kernel_rfl) (fun _ _ _ h => h) (fun V hV => by go_simp; try with_reducible rfl) ?_
          try simp only [Act.put, sqA, sqB, sqC, sqD, sqE, sqF]
          refine tk 5 (by assumption) rfl (by kernel_rfl) (fun _ _ _ h => h) (fun V hV => by go_simp; try with_reducible rfl) ?_
          try simp only [Act.put, sqA, sqB, sqC, sqD, sqE, sqF]
          refine tk 6 (by assumption) rfl (by kernel_rfl) (fun _ _ _ h => h) (fun V hV => by go_simp; try with_reducible rfl) ?_
          try simp only [Act.put, sqA, sqB, sqC, sqD, sqE, sqF]
          refine tk 7 (by assumption) rfl (by kernel_rfl) (fun _ _ _ h => h) (fun V hV => by go_simp; try with_reducible rfl) ?_
          try simp only [Act.put, sqA, sqB, sqC, sqD, sqE, sqF]
          refine wpAnyH_take (i := 8) (oi := _) (v := undef) rfl (by kernel_rfl) (by kernel_rfl) (by kernel_rfl) (fun _ _ _ h => h) (Or.inr ⟨by kernel_rfl, rfl⟩) (by assumption) ?_
          try simp only [Act.put, sqA, sqB, sqC, sqD, sqE, sqF]
          refine wpAnyH_take (i := 9) (oi := _) (v := undef) rfl (by kernel_rfl) (by kernel_rfl) (by kernel_rfl) (fun _ _ _ h => h) (Or.inr ⟨by kernel_rfl, rfl⟩) (by assumption) ?_
          try simp only [Act.put, sqA, sqB, sqC, sqD, sqE, sqF]
          refine wpAnyH_take (i := 10) (oi := _) (v := undef) rfl (by kernel_rfl) (by kernel_rfl) (by kernel_rfl) (fun _ _ _ h => h) (Or.inr ⟨by kernel_rfl, rfl⟩) (by assumption) ?_
          try simp only [Act.put, sqA, sqB, sqC, sqD, sqE, sqF]
          refine wpAnyH_take (i := 11) (oi := _) (v := undef) rfl (by kernel_rfl) (by kernel_rfl) (by kernel_rfl) (fun _ _ _ h => h) (Or.inr ⟨by kernel_rfl, rfl⟩) (by assumption) ?_
          try simp only [Act.put, sqA, sqB, sqC, sqD, sqE, sqF]
          refine wpAnyH_take (i := 12) (oi := _) (v := undef) rfl (by kernel_rfl) (by kernel_rfl) (by kernel_rfl) (fun _ _ _ h => h) (Or.inr ⟨by kernel_rfl, rfl⟩) (by assumption) ?_
          try simp only [Act.put, sqA, sqB, sqC, sqD, sqE, sqF]
          refine wpAnyH_take (i := 13) (oi := _) (v := undef) rfl (by kernel_rfl) (by kernel_rfl) (by kernel_rfl) (fun _ _ _ h => h) (Or.inr ⟨by kernel_rfl, rfl⟩) (by assumption) ?_
          try simp only [Act.put, sqA, sqB, sqC, sqD, sqE, sqF]
          refine wpAnyH_take (i := 14) (oi := _) (v := undef) rfl (by kernel_rfl) (by kernel_rfl) (by kernel_rfl) (fun _ _ _ h => h) (Or.inr ⟨by kernel_rfl, rfl⟩) (by assumption) ?_
          try simp only [Act.put, sqA, sqB, sqC, sqD, sqE, sqF]
          refine wpAnyH_take (i := 15) (oi := _) (v := undef) rfl (by kernel_rfl) (by kernel_rfl) (by kernel_rfl) (fun _ _ _ h => h) (Or.inr ⟨by kernel_rfl, rfl⟩) (by assumption) ?_
          try simp only [Act.put, sqA, sqB, sqC, sqD, sqE, sqF]
          refine wpAnyH_take (i := 16) (oi := _) (v := undef) rfl (by kernel_rfl) (by kernel_rfl) (by kernel_rfl) (fun _ _ _ h => h) (Or.inr ⟨by kernel_rfl, rfl⟩) (by assumption) ?_
          try simp only [Act.put, sqA, sqB, sqC, sqD, sqE, sqF]
          refine wpAnyH_take (i := 17) (oi := _) (v := undef) rfl (by kernel_rfl) (by kernel_rfl) (by kernel_rfl) (fun _ _ _ h => h) (Or.inr ⟨by kernel_rfl, rfl⟩) (by assumption) ?_
          try simp only [Act.put, sqA, sqB, sqC, sqD, sqE, sqF]
          refine tk 18 (by assumption) rfl (by kernel_rfl) (fun _ _ _ h => h) (fun V hV => by go_simp; try with_reducible rfl) ?_
          try simp only [Act.put, sqA, sqB, sqC, sqD, sqE, sqF]
          refine tk 19 (by assumption) rfl (by kernel_rfl) (fun _ _ _ h => h) (fun V hV => by go_simp; try with_reducible rfl) ?_
          try simp only [Act.put, sqA, sqB, sqC, sqD, sqE, sqF]
          refine wpAnyH_done (by kernel_rfl) ?_ _
          go_wp2_with fail
          refine ⟨⟨0 + 1, by simp, by omega, gNx HB.out (gNx HB2.out B0.out), HOK.out⟩, ?_⟩
          simp [RowKit.intOf]; omega
        · obtain ⟨m, hm⟩ : ∃ m, k = m + 1 := ⟨k - 1, by omega⟩
          have hkp : (0 : Int) < (k : Int) := by omega
          have hkq : 0 < k := by omega
          have hsub : IntKind.i64.wrap ((k : Int) - 1) = (m : Int) := by rw [IntKind.wrap_i64]; have := HN1.out; omega
          have hm0 : (0 : Int) ≤ (m : Int) := by omega
          have hml : m < G.nodes.length := by omega
          have hmi : (m : Int) < (G.nodes.length : Int) := by omega
          have KA : ∀ V, Below W2.heap.size W2 V → NdAt V wr.heap.size 0 G.nodes[k] ∧ V.cell? ⟨w.heap.size, 0, none⟩ = some (.slice (some ⟨b, o, none⟩) G.nodes.length nc) ∧ V.cell? ⟨b, o + m * 3, none⟩ = some (.int .i64 G.nodes[m].id) := fun V hV => ⟨(HKB.out V hV).1, (HKB.out V hV).2, (HCW.out V hV m hml).c0⟩
          have HPRE : Hid (G.nodes[m].id < G.nodes[k].id → NdOk G.nodes k) := Lib.hid (fun h => ⟨hlt, hqb, fun _ => by simp only [hm, Nat.add_sub_cancel] at h ⊢; exact h⟩)
          have HPRE2 : Hid (NdOk G.nodes k → G.nodes[m].id < G.nodes[k].id) := Lib.hid (fun ⟨_, _, h⟩ => by have := h (by omega); simp only [hm, Nat.add_sub_cancel] at this ⊢; exact this)
          clear hqb HKB HCW HC HOK0 hm
          by_cases hle : G.nodes[k].id ≤ G.nodes[m].id
          · have HBAD := Lib.hid (HCN.out k hlt (fun h => by have := HPRE2.out h; omega))
            clear HPRE HPRE2 HNX
            generalize G.nodes[k] = nd at *
            generalize G.nodes[m] = pd at *
            refine wp_region_held_drew (S := fun V => Below W2.heap.size W2 V) (by kernel_rfl) (Below.drew (Below.refl _ _)) (fun hH => ?_)
            have B0 : Hid (Below W2.heap.size W2 W2.drew) := Lib.hid (Below.drew (Below.refl _ _))
            generalize W2.drew = V0 at *
            refine tk 0 (by assumption) rfl (by kernel_rfl) (fun _ _ _ h => h) (fun V hV => by go_simp; try with_reducible rfl) ?_
            try simp only [Act.put, sqA, sqB, sqC, sqD, sqE, sqF]
            refine tk 1 (by assumption) rfl (by kernel_rfl) (fun _ _ _ h => h) (fun V hV => by obtain ⟨⟨c0, c1, c2⟩, c3, c4⟩ := KA V hV; go_simp; try with_reducible rfl) ?_
            try simp only [Act.put, sqA, sqB, sqC, sqD, sqE, sqF]
            refine wpAnyH_ready (rs := [2]) (by kernel_rfl) (by simp) ?_
            refine AllReadyH.cons (o := _) rfl (fun K hK => ?_) AllReadyH.nil
            go_simp
            refine (checkId_any _ _).mono ?_
            rintro e w2 ⟨rfl, rfl⟩
            rw [hq]
            go_wp2_with fail
            refine hK.out _ _ B0.out (fun hH => ?_)
            clear hK K
            try simp only [Act.put, sqA, sqB, sqC, sqD, sqE, sqF]
            refine tk 3 (by assumption) rfl (by kernel_rfl) (fun _ _ _ h => h) (fun V hV => by go_simp; try with_reducible rfl) ?_
            try simp only [Act.put, sqA, sqB, sqC, sqD, sqE, sqF]
            refine tk 4 (by assumption) rfl (by kernel_rfl) (fun _ _ _ h => h) (fun V hV => by go_simp; try with_reducible rfl) ?_
            try simp only [Act.put, sqA, sqB, sqC, sqD, sqE, sqF]
            refine tk 5 (by assumption) rfl (by kernel_rfl) (fun _ _ _ h => h) (fun V hV => by go_simp; try with_reducible rfl) ?_
            try simp only [Act.put, sqA, sqB, sqC, sqD, sqE, sqF]
            refine tk 6 (by assumption) rfl (by kernel_rfl) (fun _ _ _ h => h) (fun V hV => by go_simp; try with_reducible rfl) ?_
            try simp only [Act.put, sqA, sqB, sqC, sqD, sqE, sqF]
            refine tk 7 (by assumption) rfl (by kernel_rfl) (fun _ _ _ h => h) (fun V hV => by go_simp; try with_reducible rfl) ?_
            try simp only [Act.put, sqA, sqB, sqC, sqD, sqE, sqF]
            refine tk 8 (by assumption) rfl (by kernel_rfl) (fun _ _ _ h => h) (fun V hV => by go_simp; try with_reducible rfl) ?_
            try simp only [Act.put, sqA, sqB, sqC, sqD, sqE, sqF]
            refine tk 9 (by assumption) rfl (by kernel_rfl) (fun _ _ _ h => h) (fun V hV => by obtain ⟨⟨c0, c1, c2⟩, c3, c4⟩ := KA V hV; go_simp; try with_reducible rfl) ?_
            try simp only [Act.put, sqA, sqB, sqC, sqD, sqE, sqF]
            refine tk 10 (by assumption) rfl (by kernel_rfl) (fun _ _ _ h => h) (fun V hV => by go_simp; try with_reducible rfl) ?_
            try simp only [Act.put, sqA, sqB, sqC, sqD, sqE, sqF]
            refine tk 11 (by assumption) rfl (by kernel_rfl) (fun _ _ _ h => h) (fun V hV => by obtain ⟨⟨c0, c1, c2⟩, c3, c4⟩ := KA V hV; go_simp; try with_reducible rfl) ?_
            try simp only [Act.put, sqA, sqB, sqC, sqD, sqE, sqF]
            refine tk 12 (by assumption) rfl (by kernel_rfl) (fun _ _ _ h => h) (fun V hV => by go_simp; try with_reducible rfl) ?_
            try simp only [Act.put, sqA, sqB, sqC, sqD, sqE, sqF]
            refine tk 13 (by assumption) rfl (by kernel_rfl) (fun _ _ _ h => h) (fun V hV => by go_simp; try with_reducible rfl) ?_
            try simp only [Act.put, sqA, sqB, sqC, sqD, sqE, sqF]
            refine tk 14 (by assumption) rfl (by kernel_rfl) (fun _ _ _ h => h) (fun V hV => by go_simp; try with_reducible rfl) ?_
            try simp only [Act.put, sqA, sqB, sqC, sqD, sqE, sqF]
            refine tk 15 (by assumption) rfl (by kernel_rfl) (fun _ _ _ h => h) (fun V hV => by go_simp; try with_reducible rfl) ?_
            try simp only [Act.put, sqA, sqB, sqC, sqD, sqE, sqF]
            refine tk 16 (by assumption) rfl (by kernel_rfl) (fun _ _ _ h => h) (fun V hV => by obtain ⟨⟨c0, c1, c2⟩, c3, c4⟩ := KA V hV; go_simp; try with_reducible rfl) ?_
            try simp only [Act.put, sqA, sqB, sqC, sqD, sqE, sqF]
            refine tk 17 (by assumption) rfl (by kernel_rfl) (fun _ _ _ h => h) (fun V hV => by go_simp; try with_reducible rfl) ?_
            try simp only [Act.put, sqA, sqB, sqC, sqD, sqE, sqF]
            refine tk 18 (by assumption) rfl (by kernel_rfl) (fun _ _ _ h => h) (fun V hV => by go_simp; try with_reducible rfl) ?_
            try simp only [Act.put, sqA, sqB, sqC, sqD, sqE, sqF]
            refine tk 19 (by assumption) rfl (by kernel_rfl) (fun _ _ _ h => h) (fun V hV => by go_simp; try with_reducible rfl) ?_
            try simp only [Act.put, sqA, sqB, sqC, sqD, sqE, sqF]
            refine wpAnyH_done (by kernel_rfl) ?_ _
            go_wp2_with fail
            go_ret
            exact ⟨by rw [HBAD.out]; rfl, gNx HB1.out (gNx HB.out (gNx HB2.out B0.out))⟩
          · have HOK := Lib.hid (HNX.out (HPRE.out (by omega)))
            clear HPRE HPRE2 HNX
            generalize G.nodes[k] = nd at *
            generalize G.nodes[m] = pd at *
            refine wp_region_held_drew (S := fun V => Below W2.heap.size W2 V) (by kernel_rfl) (Below.drew (Below.refl _ _)) (fun hH => ?_)
            have B0 : Hid (Below W2.heap.size W2 W2.drew) := Lib.hid (Below.drew (Below.refl _ _))
            generalize W2.drew = V0 at *
            refine tk 0 (by assumption) rfl (by kernel_rfl) (fun _ _ _ h => h) (fun V hV => by go_simp; try with_reducible rfl) ?_
            try simp only [Act.put, sqA, sqB, sqC, sqD, sqE, sqF]
            refine tk 1 (by assumption) rfl (by kernel_rfl) (fun _ _ _ h => h) (fun V hV => by obtain ⟨⟨c0, c1, c2⟩, c3, c4⟩ := KA V hV; go_simp; try with_reducible rfl) ?_
            try simp only [Act.put, sqA, sqB, sqC, sqD, sqE, sqF]
            refine wpAnyH_ready (rs := [2]) (by kernel_rfl) (by simp) ?_
            refine AllReadyH.cons (o := _) rfl (fun K hK => ?_) AllReadyH.nil
            go_simp
            refine (checkId_any _ _).mono ?_
            rintro e w2 ⟨rfl, rfl⟩
            rw [hq]
            go_wp2_with fail
            refine hK.out _ _ B0.out (fun hH => ?_)
            clear hK K
            try simp only [Act.put, sqA, sqB, sqC, sqD, sqE, sqF]
            refine tk 3 (by assumption) rfl (by kernel_rfl) (fun _ _ _ h => h) (fun V hV => by go_simp; try with_reducible rfl) ?_
            try simp only [Act.put, sqA, sqB, sqC, sqD, sqE, sqF]
            refine tk 4 (by assumption) rfl (by kernel_rfl) (fun _ _ _ h => h) (fun V hV => by go_simp; try with_reducible rfl) ?_
            try simp only [Act.put, sqA, sqB, sqC, sqD, sqE, sqF]
            refine tk 5 (by assumption) rfl (by kernel_rfl) (fun _ _ _ h => h) (fun V hV => by go_simp; try with_reducible rfl) ?_
            try simp only [Act.put, sqA, sqB, sqC, sqD, sqE, sqF]
            refine tk 6 (by assumption) rfl (by kernel_rfl) (fun _ _ _ h => h) (fun V hV => by go_simp; try with_reducible rfl) ?_
            try simp only [Act.put, sqA, sqB, sqC, sqD, sqE, sqF]
            refine tk 7 (by assumption) rfl (by kernel_rfl) (fun _ _ _ h => h) (fun V hV => by go_simp; try with_reducible rfl) ?_
            try simp only [Act.put, sqA, sqB, sqC, sqD, sqE, sqF]
            refine tk 8 (by assumption) rfl (by kernel_rfl) (fun _ _ _ h => h) (fun V hV => by go_simp; try with_reducible rfl) ?_
            try simp only [Act.put, sqA, sqB, sqC, sqD, sqE, sqF]
            refine tk 9 (by assumption) rfl (by kernel_rfl) (fun _ _ _ h => h) (fun V hV => by obtain ⟨⟨c0, c1, c2⟩, c3, c4⟩ := KA V hV; go_simp; try with_reducible rfl) ?_
            try simp only [Act.put, sqA, sqB, sqC, sqD, sqE, sqF]
            refine tk 10 (by assumption) rfl (by kernel_rfl) (fun _ _ _ h => h) (fun V hV => by go_simp; try with_reducible rfl) ?_
            try simp only [Act.put, sqA, sqB, sqC, sqD, sqE, sqF]
            refine tk 11 (by assumption) rfl (by kernel_rfl) (fun _ _ _ h => h) (fun V hV => by obtain ⟨⟨c0, c1, c2⟩, c3, c4⟩ := KA V hV; go_simp; try with_reducible rfl) ?_
            try simp only [Act.put, sqA, sqB, sqC, sqD, sqE, sqF]
            refine tk 12 (by assumption) rfl (by kernel_rfl) (fun _ _ _ h => h) (fun V hV => by go_simp; try with_reducible rfl) ?_
            try simp only [Act.put, sqA, sqB, sqC, sqD, sqE, sqF]
            refine tk 13 (by assumption) rfl (by kernel_rfl) (fun _ _ _ h => h) (fun V hV => by go_simp; try with_reducible rfl) ?_
            try simp only [Act.put, sqA, sqB, sqC, sqD, sqE, sqF]
            refine tk 14 (by assumption) rfl (by kernel_rfl) (fun _ _ _ h => h) (fun V hV => by go_simp; try with_reducible rfl) ?_
            try simp only [Act.put, sqA, sqB, sqC, sqD, sqE, sqF]
            refine tk 15 (by assumption) rfl (by kernel_rfl) (fun _ _ _ h => h) (fun V hV => by go_simp; try with_reducible rfl) ?_
            try simp only [Act.put, sqA, sqB, sqC, sqD, sqE, sqF]
            refine tk 16 (by assumption) rfl (by kernel_rfl) (fun _ _ _ h => h) (fun V hV => by obtain ⟨⟨c0, c1, c2⟩, c3, c4⟩ := KA V hV; go_simp; try with_reducible rfl) ?_
            try simp only [Act.put, sqA, sqB, sqC, sqD, sqE, sqF]
            refine tk 17 (by assumption) rfl (by kernel_rfl) (fun _ _ _ h => h) (fun V hV => by go_simp; try with_reducible rfl) ?_
            try simp only [Act.put, sqA, sqB, sqC, sqD, sqE, sqF]
            refine tk 18 (by assumption) rfl (by kernel_rfl) (fun _ _ _ h => h) (fun V hV => by go_simp; try with_reducible rfl) ?_
            try simp only [Act.put, sqA, sqB, sqC, sqD, sqE, sqF]
            refine tk 19 (by assumption) rfl (by kernel_rfl) (fun _ _ _ h => h) (fun V hV => by go_simp; try with_reducible rfl) ?_
            try simp only [Act.put, sqA, sqB, sqC, sqD, sqE, sqF]
            refine wpAnyH_done (by kernel_rfl) ?_ _
            go_wp2_with fail
            refine ⟨⟨k + 1, by simp, by omega, gNx HB.out (gNx HB2.out B0.out), HOK.out⟩, ?_⟩
            simp [RowKit.intOf]; omega
      · have HBAD := Lib.hid (HCN.out k hlt (fun ⟨_, h, _⟩ => by rw [hqb] at h; cases h))
        have KA := HKB.out
        clear hqb
        generalize G.nodes[k] = nd at *
        refine wp_region_held_drew (S := fun V => Below W2.heap.size W2 V) (by kernel_rfl) (Below.drew (Below.refl _ _)) (fun hH => ?_)
        have B0 : Hid (Below W2.heap.size W2 W2.drew) := Lib.hid (Below.drew (Below.refl _ _))
        generalize W2.drew = V0 at *
        refine tk 0 (by assumption) rfl (by kernel_rfl) (fun _ _ _ h => h) (fun V hV => by go_simp; try with_reducible rfl) ?_
        try simp only [Act.put, sqA, sqB, sqC, sqD, sqE, sqF]
        refine tk 1 (by assumption) rfl (by kernel_rfl) (fun _ _ _ h => h) (fun V hV => by obtain ⟨⟨c0, c1, c2⟩, c3⟩ := KA V hV; go_simp; try with_reducible rfl) ?_
        try simp only [Act.put, sqA, sqB, sqC, sqD, sqE, sqF]
        refine wpAnyH_ready (rs := [2]) (by kernel_rfl) (by simp) ?_
        refine AllReadyH.cons (o := _) rfl (fun K hK => ?_) AllReadyH.nil
        go_simp
        refine (checkId_any _ _).mono ?_
        rintro e w2 ⟨rfl, rfl⟩
        rw [hq]
        go_wp2_with fail
        refine hK.out _ _ B0.out (fun hH => ?_)
        clear hK K
        try simp only [Act.put, sqA, sqB, sqC, sqD, sqE, sqF]
        refine tk 3 (by assumption) rfl (by kernel_rfl) (fun _ _ _ h => h) (fun V hV => by go_simp; try with_reducible rfl) ?_
        try simp only [Act.put, sqA, sqB, sqC, sqD, sqE, sqF]
        refine tk 4 (by assumption) rfl (by kernel_rfl) (fun _ _ _ h => h) (fun V hV => by go_simp; try with_reducible rfl) ?_
        try simp only [Act.put, sqA, sqB, sqC, sqD, sqE, sqF]
        refine wpAnyH_take (i := 5) (oi := _) (v := undef) rfl (by kernel_rfl) (by kernel_rfl) (by kernel_rfl) (fun _ _ _ h => h) (Or.inr ⟨by kernel_rfl, rfl⟩) (by assumption) ?_
        try simp only [Act.put, sqA, sqB, sqC, sqD, sqE, sqF]
        refine wpAnyH_take (i := 6) (oi := _) (v := undef) rfl (by kernel_rfl) (by kernel_rfl) (by kernel_rfl) (fun _ _ _ h => h) (Or.inr ⟨by kernel_rfl, rfl⟩) (by assumption) ?_
        try simp only [Act.put, sqA, sqB, sqC, sqD, sqE, sqF]
        refine wpAnyH_take (i := 7) (oi := _) (v := undef) rfl (by kernel_rfl) (by kernel_rfl) (by kernel_rfl) (fun _ _ _ h => h) (Or.inr ⟨by kernel_rfl, rfl⟩) (by assumption) ?_
        try simp only [Act.put, sqA, sqB, sqC, sqD, sqE, sqF]
        refine wpAnyH_take (i := 8) (oi := _) (v := undef) rfl (by kernel_rfl) (by kernel_rfl) (by kernel_rfl) (fun _ _ _ h => h) (Or.inr ⟨by kernel_rfl, rfl⟩) (by assumption) ?_
        try simp only [Act.put, sqA, sqB, sqC, sqD, sqE, sqF]
        refine wpAnyH_take (i := 9) (oi := _) (v := undef) rfl (by kernel_rfl) (by kernel_rfl) (by kernel_rfl) (fun _ _ _ h => h) (Or.inr ⟨by kernel_rfl, rfl⟩) (by assumption) ?_
        try simp only [Act.put, sqA, sqB, sqC, sqD, sqE, sqF]
        refine wpAnyH_take (i := 10) (oi := _) (v := undef) rfl (by kernel_rfl) (by kernel_rfl) (by kernel_rfl) (fun _ _ _ h => h) (Or.inr ⟨by kernel_rfl, rfl⟩) (by assumption) ?_
        try simp only [Act.put, sqA, sqB, sqC, sqD, sqE, sqF]
        refine wpAnyH_take (i := 11) (oi := _) (v := undef) rfl (by kernel_rfl) (by kernel_rfl) (by kernel_rfl) (fun _ _ _ h => h) (Or.inr ⟨by kernel_rfl, rfl⟩) (by assumption) ?_
        try simp only [Act.put, sqA, sqB, sqC, sqD, sqE, sqF]
        refine wpAnyH_take (i := 12) (oi := _) (v := undef) rfl (by kernel_rfl) (by kernel_rfl) (by kernel_rfl) (fun _ _ _ h => h) (Or.inr ⟨by kernel_rfl, rfl⟩) (by assumption) ?_
        try simp only [Act.put, sqA, sqB, sqC, sqD, sqE, sqF]
        refine wpAnyH_take (i := 13) (oi := _) (v := undef) rfl (by kernel_rfl) (by kernel_rfl) (by kernel_rfl) (fun _ _ _ h => h) (Or.inr ⟨by kernel_rfl, rfl⟩) (by assumption) ?_
        try simp only [Act.put, sqA, sqB, sqC, sqD, sqE, sqF]
        refine wpAnyH_take (i := 14) (oi := _) (v := undef) rfl (by kernel_rfl) (by kernel_rfl) (by kernel_rfl) (fun _ _ _ h => h) (Or.inr ⟨by kernel_rfl, rfl⟩) (by assumption) ?_
        try simp only [Act.put, sqA, sqB, sqC, sqD, sqE, sqF]
        refine wpAnyH_take (i := 15) (oi := _) (v := undef) rfl (by kernel_rfl) (by kernel_rfl) (by kernel_rfl) (fun _ _ _ h => h) (Or.inr ⟨by kernel_rfl, rfl⟩) (by assumption) ?_
        try simp only [Act.put, sqA, sqB, sqC, sqD, sqE, sqF]
        refine wpAnyH_take (i := 16) (oi := _) (v := undef) rfl (by kernel_rfl) (by kernel_rfl) (by kernel_rfl) (fun _ _ _ h => h) (Or.inr ⟨by kernel_rfl, rfl⟩) (by assumption) ?_
        try simp only [Act.put, sqA, sqB, sqC, sqD, sqE, sqF]
        refine wpAnyH_take (i := 17) (oi := _) (v := undef) rfl (by kernel_rfl) (by kernel_rfl) (by kernel_rfl) (fun _ _ _ h => h) (Or.inr ⟨by kernel_rfl, rfl⟩) (by assumption) ?_
        try simp only [Act.put, sqA, sqB, sqC, sqD, sqE, sqF]
        refine wpAnyH_take (i := 18) (oi := _) (v := undef) rfl (by kernel_rfl) (by kernel_rfl) (by kernel_rfl) (fun _ _ _ h => h) (Or.inr ⟨by kernel_rfl, rfl⟩) (by assumption) ?_
        try simp only [Act.put, sqA, sqB, sqC, sqD, sqE, sqF]
        refine tk 19 (by assumption) rfl (by kernel_rfl) (fun _ _ _ h => h) (fun V hV => by go_simp; try with_reducible rfl) ?_
        try simp only [Act.put, sqA, sqB, sqC, sqD, sqE, sqF]
        refine wpAnyH_done (by kernel_rfl) ?_ _
        go_wp2_with fail
        go_ret
        exact ⟨by rw [HBAD.out]; rfl, gNx HB1.out (gNx HB.out (gNx HB2.out B0.out))⟩
    · have hkk : k = G.nodes.length := by omega
      have HG := Lib.hid (HCL.out (fun i hi => HOK0.out i (by omega)))
      have HNODES := Lib.hid ((nodesP_iff G.nodes).2 (fun i hi => HOK0.out i (by omega)))
      have hnk : ¬ (k : Int) < (G.nodes.length : Int) := by omega
      obtain ⟨d0, d1⟩ := HKG.out wr hbel
      clear HOK0 HCN HCL hkk hlt
      go_wp2_with fail
      go_loopw [50] (fun v wr => ∃ k : Nat, v = .int .i64 (k : Int) ∧ k ≤ G.links.length ∧ Below W1.heap.size W1 wr ∧ linksE G.nodes none G.links = linksE G.nodes (prv G.links k) (G.links.drop k)) (fun v _ => G.links.length - (RowKit.intOf v).toNat)
      case atStart => exact ⟨0, rfl, by omega, HB.out, rfl⟩
      case round =>
        obtain ⟨k, rfl, hk, hbel, hinv⟩ := hrel
        have HB := Lib.hid hbel
        have HINV := Lib.hid hinv
        clear hinv
        by_cases hlt : k < G.links.length
        · have hlti : (k : Int) < (G.links.length : Int) := by omega
          have hk0 : (0 : Int) ≤ (k : Int) := by omega
          obtain ⟨b, o, rfl, hb, hc⟩ := (HL.out wr hbel).at k hlt
          obtain ⟨c0, c1, c2, c3⟩ := hc k hlt
          have HC := Lib.hid hc
          clear hc
          have hkw : IntKind.i64.wrap ((k : Int) + 1) = (k : Int) + 1 := by rw [IntKind.wrap_i64]; have := HL1.out; omega
          have hst := g_storeL
          obtain ⟨W2, hW2⟩ : ∃ W2, W2 = wr.alloc (.cells #[.int .i64 G.links[k].a, .int .i64 G.links[k].b, .float .f64 G.links[k].w, .bool G.links[k].up] 62) := ⟨_, rfl⟩
          have hb2 : Below wr.heap.size wr W2 := by rw [hW2]; exact gAl _ _
          have hs2 : wr.heap.size < W2.heap.size := by rw [hW2]; simp
          have nb : LkAt W2 wr.heap.size 0 G.links[k] := by rw [hW2]; exact ⟨by simp [go_sem], by simp [go_sem], by simp [go_sem], by simp [go_sem]⟩
          have HB2 := Lib.hid hb2
          have KB : ∀ V, Below W2.heap.size W2 V → LkAt V wr.heap.size 0 G.links[k] ∧ V.cell? ⟨w.heap.size, 0, none⟩ = some (.slice na G.nodes.length nc) ∧ V.cell? ⟨w.heap.size, 1, none⟩ = some (.slice (some ⟨b, o, none⟩) G.links.length lc) := fun V hV => ⟨nb.kept (hV.block _ hs2), (HKG.out V (gNx HB.out (gNx hb2 hV))).1, (HKG.out V (gNx HB.out (gNx hb2 hV))).2⟩
          have HKB := Lib.hid KB
          have HCW := Lib.hid (fun (V : World) (hV : Below W2.heap.size W2 V) (i : Nat) (hi : i < G.links.length) => (HC.out i hi).kept ((gNx hb2 hV).block b hb))
          have HGOF := Lib.hid (links_go (ns := G.nodes) hlt)
          have HEND := Lib.hid (links_ends (ns := G.nodes) hlt (prv G.links k))
          have HORD : Hid (∀ m (e : k = m + 1), before (G.links[m]'(by omega)) G.links[k] = false → linksE G.nodes (prv G.links k) (G.links.drop k) = 71) := Lib.hid (fun m e h => by subst e; exact links_order hlt h)
          have HNP : Hid (NodesP G.nodes) := HNODES
          have HBT := Lib.hid (fun (V : World) (hV : Below W2.heap.size W2 V) => gBetween_any G.nodes na nc (some ⟨b, o, none⟩) G.links.length lc G.links[k] V (HN.out V (gNx HB.out (gNx hb2 hV))) HNP.out HN1.out)
          have HWT := Lib.hid (fun (V : World) => weight_any G.links[k].w V (HWW.out _ (List.getElem_mem hlt)))
          clear nb KB hb2 hs2 hbel
          go_upto_region 12 with (fail)
          rw [← hW2]
          clear hW2 c0 c1 c2 c3
          generalize hbt : (decide (G.links[k].a < G.links[k].b) && has G.nodes G.links[k].a && has G.nodes G.links[k].b) = bt at *
          cases bt with
          | false =>
            have HBAD := Lib.hid (HEND.out rfl)
            have KA := HKB.out
            clear HGOF HEND HORD HWT HCW HKB
            generalize G.links[k] = y at *
            refine wp_region_held_drew (S := fun V => Below W2.heap.size W2 V) (by kernel_rfl) (Below.drew (Below.refl _ _)) (fun hH => ?_)
            have B0 : Hid (Below W2.heap.size W2 W2.drew) := Lib.hid (Below.drew (Below.refl _ _))
            generalize W2.drew = V0 at *
            refine tk 0 (by assumption) rfl (by kernel_rfl) (fun _ _ _ h => h) (fun V hV => by obtain ⟨⟨c0, c1, c2, c3⟩, c4, c5⟩ := KA V hV; go_simp; try with_reducible rfl) ?_
            try simp only [Act.put, sqA, sqB, sqC, sqD, sqE, sqF]
            refine tk 1 (by assumption) rfl (by kernel_rfl) (fun _ _ _ h => h) (fun V hV => by obtain ⟨⟨c0, c1, c2, c3⟩, c4, c5⟩ := KA V hV; go_simp; try with_reducible rfl) ?_
            try simp only [Act.put, sqA, sqB, sqC, sqD, sqE, sqF]
            refine wpAnyH_ready (rs := [2]) (by kernel_rfl) (by simp) ?_
            refine AllReadyH.cons (o := _) rfl (fun K hK => ?_) AllReadyH.nil
            go_simp
            refine (HBT.out _ B0.out).mono ?_
            rintro e V1 ⟨rfl, hb2⟩
            have B1 := Lib.hid (gNx B0.out hb2)
            clear hb2
            go_wp2_with fail
            refine hK.out _ _ B1.out (fun hH => ?_)
            clear hK K
            try simp only [Act.put, sqA, sqB, sqC, sqD, sqE, sqF]
            refine tk 3 (by assumption) rfl (by kernel_rfl) (fun _ _ _ h => h) (fun V hV => by go_simp; try with_reducible rfl) ?_
            try simp only [Act.put, sqA, sqB, sqC, sqD, sqE, sqF]
            refine tk 4 (by assumption) rfl (by kernel_rfl) (fun _ _ _ h => h) (fun V hV => by go_simp; try with_reducible rfl) ?_
            try simp only [Act.put, sqA, sqB, sqC, sqD, sqE, sqF]
            refine wpAnyH_take (i := 5) (oi := _) (v := undef) rfl (by kernel_rfl) (by kernel_rfl) (by kernel_rfl) (fun _ _ _ h => h) (Or.inr ⟨by kernel_rfl, rfl⟩) (by assumption) ?_
            try simp only [Act.put, sqA, sqB, sqC, sqD, sqE, sqF]
            refine wpAnyH_take (i := 6) (oi := _) (v := undef) rfl (by kernel_rfl) (by kernel_rfl) (by kernel_rfl) (fun _ _ _ h => h) (Or.inr ⟨by kernel_rfl, rfl⟩) (by assumption) ?_
            try simp only [Act.put, sqA, sqB, sqC, sqD, sqE, sqF]
            refine wpAnyH_take (i := 7) (oi := _) (v := undef) rfl (by kernel_rfl) (by kernel_rfl) (by kernel_rfl) (fun _ _ _ h => h) (Or.inr ⟨by kernel_rfl, rfl⟩) (by assumption) ?_
            try simp only [Act.put, sqA, sqB, sqC, sqD, sqE, sqF]
            refine wpAnyH_take (i := 8) (oi := _) (v := undef) rfl (by kernel_rfl) (by kernel_rfl) (by kernel_rfl) (fun _ _ _ h => h) (Or.inr ⟨by kernel_rfl, rfl⟩) (by assumption) ?_
            try simp only [Act.put, sqA, sqB, sqC, sqD, sqE, sqF]
            refine wpAnyH_take (i := 9) (oi := _) (v := undef) rfl (by kernel_rfl) (by kernel_rfl) (by kernel_rfl) (fun _ _ _ h => h) (Or.inr ⟨by kernel_rfl, rfl⟩) (by assumption) ?_
            try simp only [Act.put, sqA, sqB, sqC, sqD, sqE, sqF]
            refine wpAnyH_take (i := 10) (oi := _) (v := undef) rfl (by kernel_rfl) (by kernel_rfl) (by kernel_rfl) (fun _ _ _ h => h) (Or.inr ⟨by kernel_rfl, rfl⟩) (by assumption) ?_
            try simp only [Act.put, sqA, sqB, sqC, sqD, sqE, sqF]
            refine wpAnyH_take (i := 11) (oi := _) (v := undef) rfl (by kernel_rfl) (by kernel_rfl) (by kernel_rfl) (fun _ _ _ h => h) (Or.inr ⟨by kernel_rfl, rfl⟩) (by assumption) ?_
            try simp only [Act.put, sqA, sqB, sqC, sqD, sqE, sqF]
            refine wpAnyH_take (i := 12) (oi := _) (v := undef) rfl (by kernel_rfl) (by kernel_rfl) (by kernel_rfl) (fun _ _ _ h => h) (Or.inr ⟨by kernel_rfl, rfl⟩) (by assumption) ?_
            try simp only [Act.put, sqA, sqB, sqC, sqD, sqE, sqF]
            refine wpAnyH_take (i := 13) (oi := _) (v := undef) rfl (by kernel_rfl) (by kernel_rfl) (by kernel_rfl) (fun _ _ _ h => h) (Or.inr ⟨by kernel_rfl, rfl⟩) (by assumption) ?_
            try simp only [Act.put, sqA, sqB, sqC, sqD, sqE, sqF]
            refine wpAnyH_take (i := 14) (oi := _) (v := undef) rfl (by kernel_rfl) (by kernel_rfl) (by kernel_rfl) (fun _ _ _ h => h) (Or.inr ⟨by kernel_rfl, rfl⟩) (by assumption) ?_
            try simp only [Act.put, sqA, sqB, sqC, sqD, sqE, sqF]
            refine wpAnyH_take (i := 15) (oi := _) (v := undef) rfl (by kernel_rfl) (by kernel_rfl) (by kernel_rfl) (fun _ _ _ h => h) (Or.inr ⟨by kernel_rfl, rfl⟩) (by assumption) ?_
            try simp only [Act.put, sqA, sqB, sqC, sqD, sqE, sqF]
            refine wpAnyH_take (i := 16) (oi := _) (v := undef) rfl (by kernel_rfl) (by kernel_rfl) (by kernel_rfl) (fun _ _ _ h => h) (Or.inr ⟨by kernel_rfl, rfl⟩) (by assumption) ?_
            try simp only [Act.put, sqA, sqB, sqC, sqD, sqE, sqF]
            refine wpAnyH_take (i := 17) (oi := _) (v := undef) rfl (by kernel_rfl) (by kernel_rfl) (by kernel_rfl) (fun _ _ _ h => h) (Or.inr ⟨by kernel_rfl, rfl⟩) (by assumption) ?_
            try simp only [Act.put, sqA, sqB, sqC, sqD, sqE, sqF]
            refine tk 18 (by assumption) rfl (by kernel_rfl) (fun _ _ _ h => h) (fun V hV => by go_simp; try with_reducible rfl) ?_
            try simp only [Act.put, sqA, sqB, sqC, sqD, sqE, sqF]
            refine wpAnyH_done (by kernel_rfl) ?_ _
            go_wp2_with fail
            go_ret
            exact ⟨by rw [HG.out, HINV.out, HBAD.out]; rfl, gNx HB1.out (gNx HB.out (gNx HB2.out B1.out))⟩
          | true =>
            by_cases hz : k = 0
            · have HGO := Lib.hid (HGOF.out rfl (fun m e => by omega))
              have KA := HKB.out
              clear HGOF HEND HORD HCW HKB HC
              generalize G.links[k] = y at *
              subst hz
              refine wp_region_held_drew (S := fun V => Below W2.heap.size W2 V) (by kernel_rfl) (Below.drew (Below.refl _ _)) (fun hH => ?_)
              have B0 : Hid (Below W2.heap.size W2 W2.drew) := Lib.hid (Below.drew (Below.refl _ _))
              generalize W2.drew = V0 at *
              refine tk 0 (by assumption) rfl (by kernel_rfl) (fun _ _ _ h => h) (fun V hV => by obtain ⟨⟨c0, c1, c2, c3⟩, c4, c5⟩ := KA V hV; go_simp; try with_reducible rfl) ?_
              try simp only [Act.put, sqA, sqB, sqC, sqD, sqE, sqF]
              refine tk 1 (by assumption) rfl (by kernel_rfl) (fun _ _ _ h => h) (fun V hV => by obtain ⟨⟨c0, c1, c2, c3⟩, c4, c5⟩ := KA V hV; go_simp; try with_reducible rfl) ?_
              try simp only [Act.put, sqA, sqB, sqC, sqD, sqE, sqF]
              refine wpAnyH_ready (rs := [2]) (by kernel_rfl) (by simp) ?_
              refine AllReadyH.cons (o := _) rfl (fun K hK => ?_) AllReadyH.nil
              go_simp
              refine (HBT.out _ B0.out).mono ?_
              rintro e V1 ⟨rfl, hb2⟩
              have B1 := Lib.hid (gNx B0.out hb2)
              clear hb2
              go_wp2_with fail
              refine hK.out _ _ B1.out (fun hH => ?_)
              clear hK K
              try simp only [Act.put, sqA, sqB, sqC, sqD, sqE, sqF]
              refine tk 3 (by assumption) rfl (by kernel_rfl) (fun _ _ _ h => h) (fun V hV => by go_simp; try with_reducible rfl) ?_
              try simp only [Act.put, sqA, sqB, sqC, sqD, sqE, sqF]
              refine tk 4 (by assumption) rfl (by kernel_rfl) (fun _ _ _ h => h) (fun V hV => by go_simp; try with_reducible rfl) ?_
              try simp only [Act.put, sqA, sqB, sqC, sqD, sqE, sqF]
              refine tk 5 (by assumption) rfl (by kernel_rfl) (fun _ _ _ h => h) (fun V hV => by go_simp; try with_reducible rfl) ?_
              try simp only [Act.put, sqA, sqB, sqC, sqD, sqE, sqF]
              refine tk 6 (by assumption) rfl (by kernel_rfl) (fun _ _ _ h => h) (fun V hV => by go_simp; try with_reducible rfl) ?_
              try simp only [Act.put, sqA, sqB, sqC, sqD, sqE, sqF]
              refine tk 7 (by assumption) rfl (by kernel_rfl) (fun _ _ _ h => h) (fun V hV => by go_simp; try with_reducible rfl) ?_
              try simp only [Act.put, sqA, sqB, sqC, sqD, sqE, sqF]
              refine wpAnyH_take (i := 8) (oi := _) (v := undef) rfl (by kernel_rfl) (by kernel_rfl) (by kernel_rfl) (fun _ _ _ h => h) (Or.inr ⟨by kernel_rfl, rfl⟩) (by assumption) ?_
              try simp only [Act.put, sqA, sqB, sqC, sqD, sqE, sqF]
              refine wpAnyH_take (i := 9) (oi := _) (v := undef) rfl (by kernel_rfl) (by kernel_rfl) (by kernel_rfl) (fun _ _ _ h => h) (Or.inr ⟨by kernel_rfl, rfl⟩) (by assumption) ?_
              try simp only [Act.put, sqA, sqB, sqC, sqD, sqE, sqF]
              refine wpAnyH_take (i := 10) (oi := _) (v := undef) rfl (by kernel_rfl) (by kernel_rfl) (by kernel_rfl) (fun _ _ _ h => h) (Or.inr ⟨by kernel_rfl, rfl⟩) (by assumption) ?_
              try simp only [Act.put, sqA, sqB, sqC, sqD, sqE, sqF]
              refine wpAnyH_take (i := 11) (oi := _) (v := undef) rfl (by kernel_rfl) (by kernel_rfl) (by kernel_rfl) (fun _ _ _ h => h) (Or.inr ⟨by kernel_rfl, rfl⟩) (by assumption) ?_
              try simp only [Act.put, sqA, sqB, sqC, sqD, sqE, sqF]
              refine wpAnyH_take (i := 12) (oi := _) (v := undef) rfl (by kernel_rfl) (by kernel_rfl) (by kernel_rfl) (fun _ _ _ h => h) (Or.inr ⟨by kernel_rfl, rfl⟩) (by assumption) ?_
              try simp only [Act.put, sqA, sqB, sqC, sqD, sqE, sqF]
              refine wpAnyH_take (i := 13) (oi := _) (v := undef) rfl (by kernel_rfl) (by kernel_rfl) (by kernel_rfl) (fun _ _ _ h => h) (Or.inr ⟨by kernel_rfl, rfl⟩) (by assumption) ?_
              try simp only [Act.put, sqA, sqB, sqC, sqD, sqE, sqF]
              refine wpAnyH_take (i := 14) (oi := _) (v := undef) rfl (by kernel_rfl) (by kernel_rfl) (by kernel_rfl) (fun _ _ _ h => h) (Or.inr ⟨by kernel_rfl, rfl⟩) (by assumption) ?_
              try simp only [Act.put, sqA, sqB, sqC, sqD, sqE, sqF]
              refine wpAnyH_take (i := 15) (oi := _) (v := undef) rfl (by kernel_rfl) (by kernel_rfl) (by kernel_rfl) (fun _ _ _ h => h) (Or.inr ⟨by kernel_rfl, rfl⟩) (by assumption) ?_
              try simp only [Act.put, sqA, sqB, sqC, sqD, sqE, sqF]
              refine wpAnyH_take (i := 16) (oi := _) (v := undef) rfl (by kernel_rfl) (by kernel_rfl) (by kernel_rfl) (fun _ _ _ h => h) (Or.inr ⟨by kernel_rfl, rfl⟩) (by assumption) ?_
              try simp only [Act.put, sqA, sqB, sqC, sqD, sqE, sqF]
              refine tk 17 (by assumption) rfl (by kernel_rfl) (fun _ _ _ h => h) (fun V hV => by go_simp; try with_reducible rfl) ?_
              try simp only [Act.put, sqA, sqB, sqC, sqD, sqE, sqF]
              refine tk 18 (by assumption) rfl (by kernel_rfl) (fun _ _ _ h => h) (fun V hV => by go_simp; try with_reducible rfl) ?_
              try simp only [Act.put, sqA, sqB, sqC, sqD, sqE, sqF]
              refine wpAnyH_done (by kernel_rfl) ?_ _
              obtain ⟨⟨c0, c1, c2, c3⟩, -, -⟩ := KA V1 B1.out
              go_wp2_with fail
              refine (HWT.out _).mono ?_
              rintro e w2 ⟨rfl, rfl⟩
              by_cases hw0 : weightF y.w = 0
              · rw [hw0]
                have HX := Lib.hid (HGO.out.trans (if_neg (by simpa using hw0)))
                clear hw0
                go_wp2_with fail
                refine ⟨⟨0 + 1, by simp, by omega, gNx HB.out (gNx HB2.out B1.out), HINV.out.trans HX.out⟩, ?_⟩
                simp [RowKit.intOf]; omega
              · have HX := Lib.hid (HGO.out.trans (if_pos hw0))
                generalize weightF y.w = q at *
                have hq : (q != 0) = true := by simpa using hw0
                go_wp2_with fail
                go_ret
                exact ⟨by rw [HG.out, HINV.out, HX.out]; rfl, gNx HB1.out (gNx HB.out (gNx HB2.out B1.out))⟩
            · obtain ⟨m, hm⟩ : ∃ m, k = m + 1 := ⟨k - 1, by omega⟩
              have hkp : (0 : Int) < (k : Int) := by omega
              have hkq : 0 < k := by omega
              have hsub : IntKind.i64.wrap ((k : Int) - 1) = (m : Int) := by rw [IntKind.wrap_i64]; have := HL1.out; omega
              have hm0 : (0 : Int) ≤ (m : Int) := by omega
              have hml : m < G.links.length := by omega
              have hmi : (m : Int) < (G.links.length : Int) := by omega
              have KA : ∀ V, Below W2.heap.size W2 V → LkAt V wr.heap.size 0 G.links[k] ∧ V.cell? ⟨w.heap.size, 0, none⟩ = some (.slice na G.nodes.length nc) ∧ V.cell? ⟨w.heap.size, 1, none⟩ = some (.slice (some ⟨b, o, none⟩) G.links.length lc) ∧ LkAt V b (o + m * 4) G.links[m] := fun V hV => ⟨(HKB.out V hV).1, (HKB.out V hV).2.1, (HKB.out V hV).2.2, HCW.out V hV m hml⟩
              have HCM := Lib.hid (fun V => gCmpL_any G.links[m] G.links[k] V)
              by_cases hbf : before G.links[m] G.links[k] = true
              · have HGO := Lib.hid (HGOF.out rfl (fun m' e => by have e2 : m' = m := (by omega); subst e2; exact hbf))
                have hcm : cmpL G.links[m] G.links[k] < 0 := cmpL_neg.2 hbf
                clear HGOF HEND HORD HCW HKB HC hm hbf
                generalize cmpL G.links[m] G.links[k] = cv at *
                have hcn : ¬ (0 : Int) ≤ cv := by omega
                generalize G.links[k] = y at *
                generalize G.links[m] = py at *
                refine wp_region_held_drew (S := fun V => Below W2.heap.size W2 V) (by kernel_rfl) (Below.drew (Below.refl _ _)) (fun hH => ?_)
                have B0 : Hid (Below W2.heap.size W2 W2.drew) := Lib.hid (Below.drew (Below.refl _ _))
                generalize W2.drew = V0 at *
                refine tk 0 (by assumption) rfl (by kernel_rfl) (fun _ _ _ h => h) (fun V hV => by obtain ⟨⟨c0, c1, c2, c3⟩, c4, c5, ⟨c6, c7, c8, c9⟩⟩ := KA V hV; go_simp; try with_reducible rfl) ?_
                try simp only [Act.put, sqA, sqB, sqC, sqD, sqE, sqF]
                refine tk 1 (by assumption) rfl (by kernel_rfl) (fun _ _ _ h => h) (fun V hV => by obtain ⟨⟨c0, c1, c2, c3⟩, c4, c5, ⟨c6, c7, c8, c9⟩⟩ := KA V hV; go_simp; try with_reducible rfl) ?_
                try simp only [Act.put, sqA, sqB, sqC, sqD, sqE, sqF]
                refine wpAnyH_ready (rs := [2]) (by kernel_rfl) (by simp) ?_
                refine AllReadyH.cons (o := _) rfl (fun K hK => ?_) AllReadyH.nil
                go_simp
                refine (HBT.out _ B0.out).mono ?_
                rintro e V1 ⟨rfl, hb2⟩
                have B1 := Lib.hid (gNx B0.out hb2)
                clear hb2
                go_wp2_with fail
                refine hK.out _ _ B1.out (fun hH => ?_)
                clear hK K
                try simp only [Act.put, sqA, sqB, sqC, sqD, sqE, sqF]
                refine tk 3 (by assumption) rfl (by kernel_rfl) (fun _ _ _ h => h) (fun V hV => by go_simp; try with_reducible rfl) ?_
                try simp only [Act.put, sqA, sqB, sqC, sqD, sqE, sqF]
                refine tk 4 (by assumption) rfl (by kernel_rfl) (fun _ _ _ h => h) (fun V hV => by go_simp; try with_reducible rfl) ?_
                try simp only [Act.put, sqA, sqB, sqC, sqD, sqE, sqF]
                refine tk 5 (by assumption) rfl (by kernel_rfl) (fun _ _ _ h => h) (fun V hV => by go_simp; try with_reducible rfl) ?_
                try simp only [Act.put, sqA, sqB, sqC, sqD, sqE, sqF]
                refine tk 6 (by assumption) rfl (by kernel_rfl) (fun _ _ _ h => h) (fun V hV => by go_simp; try with_reducible rfl) ?_
                try simp only [Act.put, sqA, sqB, sqC, sqD, sqE, sqF]
                refine tk 7 (by assumption) rfl (by kernel_rfl) (fun _ _ _ h => h) (fun V hV => by go_simp; try with_reducible rfl) ?_
                try simp only [Act.put, sqA, sqB, sqC, sqD, sqE, sqF]
                refine tk 8 (by assumption) rfl (by kernel_rfl) (fun _ _ _ h => h) (fun V hV => by go_simp; try with_reducible rfl) ?_
                try simp only [Act.put, sqA, sqB, sqC, sqD, sqE, sqF]
                refine tk 9 (by assumption) rfl (by kernel_rfl) (fun _ _ _ h => h) (fun V hV => by obtain ⟨⟨c0, c1, c2, c3⟩, c4, c5, ⟨c6, c7, c8, c9⟩⟩ := KA V hV; go_simp; try with_reducible rfl) ?_
                try simp only [Act.put, sqA, sqB, sqC, sqD, sqE, sqF]
                refine tk 10 (by assumption) rfl (by kernel_rfl) (fun _ _ _ h => h) (fun V hV => by go_simp; try with_reducible rfl) ?_
                try simp only [Act.put, sqA, sqB, sqC, sqD, sqE, sqF]
                refine tk 11 (by assumption) rfl (by kernel_rfl) (fun _ _ _ h => h) (fun V hV => by go_simp; try with_reducible rfl) ?_
                try simp only [Act.put, sqA, sqB, sqC, sqD, sqE, sqF]
                refine tk 12 (by assumption) rfl (by kernel_rfl) (fun _ _ _ h => h) (fun V hV => by go_simp; try with_reducible rfl) ?_
                try simp only [Act.put, sqA, sqB, sqC, sqD, sqE, sqF]
                refine tk 13 (by assumption) rfl (by kernel_rfl) (fun _ _ _ h => h) (fun V hV => by obtain ⟨⟨c0, c1, c2, c3⟩, c4, c5, ⟨c6, c7, c8, c9⟩⟩ := KA V hV; go_simp; try with_reducible rfl) ?_
                try simp only [Act.put, sqA, sqB, sqC, sqD, sqE, sqF]
                refine tk 14 (by assumption) rfl (by kernel_rfl) (fun _ _ _ h => h) (fun V hV => by obtain ⟨⟨c0, c1, c2, c3⟩, c4, c5, ⟨c6, c7, c8, c9⟩⟩ := KA V hV; go_simp; try with_reducible rfl) ?_
                try simp only [Act.put, sqA, sqB, sqC, sqD, sqE, sqF]
                refine wpAnyH_ready (rs := [15]) (by kernel_rfl) (by simp) ?_
                refine AllReadyH.cons (o := _) rfl (fun K hK => ?_) AllReadyH.nil
                go_simp
                refine (HCM.out _).mono ?_
                rintro e V2 ⟨rfl, hb2⟩
                have B2 := Lib.hid (gNx B1.out hb2)
                clear hb2
                go_wp2_with fail
                refine hK.out _ _ B2.out (fun hH => ?_)
                clear hK K
                try simp only [Act.put, sqA, sqB, sqC, sqD, sqE, sqF]
                refine tk 16 (by assumption) rfl (by kernel_rfl) (fun _ _ _ h => h) (fun V hV => by go_simp; try with_reducible rfl) ?_
                try simp only [Act.put, sqA, sqB, sqC, sqD, sqE, sqF]
                refine tk 17 (by assumption) rfl (by kernel_rfl) (fun _ _ _ h => h) (fun V hV => by go_simp; try with_reducible rfl) ?_
                try simp only [Act.put, sqA, sqB, sqC, sqD, sqE, sqF]
                refine tk 18 (by assumption) rfl (by kernel_rfl) (fun _ _ _ h => h) (fun V hV => by go_simp; try with_reducible rfl) ?_
                try simp only [Act.put, sqA, sqB, sqC, sqD, sqE, sqF]
                refine wpAnyH_done (by kernel_rfl) ?_ _
                obtain ⟨⟨c0, c1, c2, c3⟩, -, -, -⟩ := KA V2 B2.out
                go_wp2_with fail
                refine (HWT.out _).mono ?_
                rintro e w2 ⟨rfl, rfl⟩
                by_cases hw0 : weightF y.w = 0
                · rw [hw0]
                  have HX := Lib.hid (HGO.out.trans (if_neg (by simpa using hw0)))
                  clear hw0
                  go_wp2_with fail
                  refine ⟨⟨k + 1, by simp, by omega, gNx HB.out (gNx HB2.out B2.out), HINV.out.trans HX.out⟩, ?_⟩
                  simp [RowKit.intOf]; omega
                · have HX := Lib.hid (HGO.out.trans (if_pos hw0))
                  generalize weightF y.w = q at *
                  have hq : (q != 0) = true := by simpa using hw0
                  go_wp2_with fail
                  go_ret
                  exact ⟨by rw [HG.out, HINV.out, HX.out]; rfl, gNx HB1.out (gNx HB.out (gNx HB2.out B2.out))⟩
              · have HBAD := Lib.hid (HORD.out m hm (by simpa using hbf))
                have hcm : (0 : Int) ≤ cmpL G.links[m] G.links[k] := Int.not_lt.1 (fun h => hbf (cmpL_neg.1 h))
                clear HGOF HEND HORD HCW HKB HC hm hbf
                generalize cmpL G.links[m] G.links[k] = cv at *
                generalize G.links[k] = y at *
                generalize G.links[m] = py at *
                refine wp_region_held_drew (S := fun V => Below W2.heap.size W2 V) (by kernel_rfl) (Below.drew (Below.refl _ _)) (fun hH => ?_)
                have B0 : Hid (Below W2.heap.size W2 W2.drew) := Lib.hid (Below.drew (Below.refl _ _))
                generalize W2.drew = V0 at *
                refine tk 0 (by assumption) rfl (by kernel_rfl) (fun _ _ _ h => h) (fun V hV => by obtain ⟨⟨c0, c1, c2, c3⟩, c4, c5, ⟨c6, c7, c8, c9⟩⟩ := KA V hV; go_simp; try with_reducible rfl) ?_
                try simp only [Act.put, sqA, sqB, sqC, sqD, sqE, sqF]
                refine tk 1 (by assumption) rfl (by kernel_rfl) (fun _ _ _ h => h) (fun V hV => by obtain ⟨⟨c0, c1, c2, c3⟩, c4, c5, ⟨c6, c7, c8, c9⟩⟩ := KA V hV; go_simp; try with_reducible rfl) ?_
                try simp only [Act.put, sqA, sqB, sqC, sqD, sqE, sqF]
                refine wpAnyH_ready (rs := [2]) (by kernel_rfl) (by simp) ?_
                refine AllReadyH.cons (o := _) rfl (fun K hK => ?_) AllReadyH.nil
                go_simp
                refine (HBT.out _ B0.out).mono ?_
                rintro e V1 ⟨rfl, hb2⟩
                have B1 := Lib.hid (gNx B0.out hb2)
                clear hb2
                go_wp2_with fail
                refine hK.out _ _ B1.out (fun hH => ?_)
                clear hK K
                try simp only [Act.put, sqA, sqB, sqC, sqD, sqE, sqF]
                refine tk 3 (by assumption) rfl (by kernel_rfl) (fun _ _ _ h => h) (fun V hV => by go_simp; try with_reducible rfl) ?_
                try simp only [Act.put, sqA, sqB, sqC, sqD, sqE, sqF]
                refine tk 4 (by assumption) rfl (by kernel_rfl) (fun _ _ _ h => h) (fun V hV => by go_simp; try with_reducible rfl) ?_
                try simp only [Act.put, sqA, sqB, sqC, sqD, sqE, sqF]
                refine tk 5 (by assumption) rfl (by kernel_rfl) (fun _ _ _ h => h) (fun V hV => by go_simp; try with_reducible rfl) ?_
                try simp only [Act.put, sqA, sqB, sqC, sqD, sqE, sqF]
                refine tk 6 (by assumption) rfl (by kernel_rfl) (fun _ _ _ h => h) (fun V hV => by go_simp; try with_reducible rfl) ?_
                try simp only [Act.put, sqA, sqB, sqC, sqD, sqE, sqF]
                refine tk 7 (by assumption) rfl (by kernel_rfl) (fun _ _ _ h => h) (fun V hV => by go_simp; try with_reducible rfl) ?_
                try simp only [Act.put, sqA, sqB, sqC, sqD, sqE, sqF]
                refine tk 8 (by assumption) rfl (by kernel_rfl) (fun _ _ _ h => h) (fun V hV => by go_simp; try with_reducible rfl) ?_
                try simp only [Act.put, sqA, sqB, sqC, sqD, sqE, sqF]
                refine tk 9 (by assumption) rfl (by kernel_rfl) (fun _ _ _ h => h) (fun V hV => by obtain ⟨⟨c0, c1, c2, c3⟩, c4, c5, ⟨c6, c7, c8, c9⟩⟩ := KA V hV; go_simp; try with_reducible rfl) ?_
                try simp only [Act.put, sqA, sqB, sqC, sqD, sqE, sqF]
                refine tk 10 (by assumption) rfl (by kernel_rfl) (fun _ _ _ h => h) (fun V hV => by go_simp; try with_reducible rfl) ?_
                try simp only [Act.put, sqA, sqB, sqC, sqD, sqE, sqF]
                refine tk 11 (by assumption) rfl (by kernel_rfl) (fun _ _ _ h => h) (fun V hV => by go_simp; try with_reducible rfl) ?_
                try simp only [Act.put, sqA, sqB, sqC, sqD, sqE, sqF]
                refine tk 12 (by assumption) rfl (by kernel_rfl) (fun _ _ _ h => h) (fun V hV => by go_simp; try with_reducible rfl) ?_
                try simp only [Act.put, sqA, sqB, sqC, sqD, sqE, sqF]
                refine tk 13 (by assumption) rfl (by kernel_rfl) (fun _ _ _ h => h) (fun V hV => by obtain ⟨⟨c0, c1, c2, c3⟩, c4, c5, ⟨c6, c7, c8, c9⟩⟩ := KA V hV; go_simp; try with_reducible rfl) ?_
                try simp only [Act.put, sqA, sqB, sqC, sqD, sqE, sqF]
                refine tk 14 (by assumption) rfl (by kernel_rfl) (fun _ _ _ h => h) (fun V hV => by obtain ⟨⟨c0, c1, c2, c3⟩, c4, c5, ⟨c6, c7, c8, c9⟩⟩ := KA V hV; go_simp; try with_reducible rfl) ?_
                try simp only [Act.put, sqA, sqB, sqC, sqD, sqE, sqF]
                refine wpAnyH_ready (rs := [15]) (by kernel_rfl) (by simp) ?_
                refine AllReadyH.cons (o := _) rfl (fun K hK => ?_) AllReadyH.nil
                go_simp
                refine (HCM.out _).mono ?_
                rintro e V2 ⟨rfl, hb2⟩
                have B2 := Lib.hid (gNx B1.out hb2)
                clear hb2
                go_wp2_with fail
                refine hK.out _ _ B2.out (fun hH => ?_)
                clear hK K
                try simp only [Act.put, sqA, sqB, sqC, sqD, sqE, sqF]
                refine tk 16 (by assumption) rfl (by kernel_rfl) (fun _ _ _ h => h) (fun V hV => by go_simp; try with_reducible rfl) ?_
                try simp only [Act.put, sqA, sqB, sqC, sqD, sqE, sqF]
                refine tk 17 (by assumption) rfl (by kernel_rfl) (fun _ _ _ h => h) (fun V hV => by go_simp; try with_reducible rfl) ?_
                try simp only [Act.put, sqA, sqB, sqC, sqD, sqE, sqF]
                refine tk 18 (by assumption) rfl (by kernel_rfl) (fun _ _ _ h => h) (fun V hV => by go_simp; try with_reducible rfl) ?_
                try simp only [Act.put, sqA, sqB, sqC, sqD, sqE, sqF]
                refine wpAnyH_done (by kernel_rfl) ?_ _
                go_wp2_with fail
                go_ret
                exact ⟨by rw [HG.out, HINV.out, HBAD.out]; rfl, gNx HB1.out (gNx HB.out (gNx HB2.out B2.out))⟩
        · have hnk : ¬ (k : Int) < (G.links.length : Int) := by omega
          have HE := Lib.hid (HINV.out.trans (links_end (ns := G.nodes) (by omega) _))
          clear hlt
          go_wp2_with fail
          go_ret
          exact ⟨by rw [HG.out, HE.out]; rfl, gNx HB1.out HB.out⟩
end Go.Proofs.YtjlfpjjfldbknaaGreat
