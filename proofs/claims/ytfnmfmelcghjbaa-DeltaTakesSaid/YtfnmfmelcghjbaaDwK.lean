/- Deltas: the document's Take; the law of what is taken. -/
import Derived.Test.YtfnmfmelcghjbaaDwI
namespace Go.Proofs.Ytfnmfmelcghjbaa
open Go.RowKit Go.Lib Go.Ow Go.Cw Go.Fq Go.Mq Go.Kq Go.Kw Go.Dq
set_option linter.unusedVariables false
set_option linter.unusedSimpArgs false
set_option maxRecDepth 100000

set_option maxHeartbeats 4000000 in
theorem rTake_any (s l : Int) (hs : 0 ≤ s ∧ s < 18446744073709551616) (hl : 0 ≤ l ∧ l < 18446744073709551616) (w : World) :
    Calls Try.prog 28 #[.agg #[.int .u64 l], .int .u64 s] w fun e w' => e = .returned (.tuple #[.agg #[.int .u64 (if l < s ∧ s - l = 1 then s else l)], .bool (decide (l < s ∧ s - l = 1)), .bool (decide ((l < s ∧ s - l = 1) ∨ (1 ≤ s ∧ s ≤ l)))]) ∧ Below w.heap.size w w' := by
  by_cases h1 : l < 18446744073709551615
  · obtain ⟨d, hd⟩ : ∃ d, d = l + 1 := ⟨_, rfl⟩
    have hw : IntKind.u64.wrap (l + 1) = d := by rw [IntKind.wrap_u64]; omega
    by_cases h2 : s = l + 1
    · have hc : l < s ∧ s - l = 1 := by omega
      rw [if_pos hc, decide_eq_true hc, decide_eq_true (Or.inl hc)]
      have h3 : (s == d) = true := by simp [hd, h2]
      clear h2 hd hs hl hc
      go_enter Try.func28, Try.ntmps28
      go_wp2_with fail
      refine bodyPost_ret (v := .tuple #[.agg #[.int .u64 s], .bool true, .bool true]) (by simp [results, Try.results28, go_sem]) rfl ?_
      exact ⟨rfl, gNx (gAl w _) (gAl _ _)⟩
    · have hn : ¬ (l < s ∧ s - l = 1) := by omega
      rw [if_neg hn, decide_eq_false hn]
      have h3 : (s == d) = false := by simp [hd, h2]
      by_cases h4 : 1 ≤ s
      · by_cases h5 : s ≤ l
        · rw [decide_eq_true (show (l < s ∧ s - l = 1) ∨ (1 ≤ s ∧ s ≤ l) by omega)]
          clear h2 hn hd hs hl
          go_enter Try.func28, Try.ntmps28
          go_upto_region 3 with fail
          obtain ⟨W0, hW0⟩ : ∃ W0, W0 = w.alloc (.cells #[.int .u64 l] 45) := ⟨_, rfl⟩
          obtain ⟨W1, hW1⟩ : ∃ W1, W1 = W0.alloc (.cells #[.int .u64 0] 45) := ⟨_, rfl⟩
          have hz0 : W0.heap.size = w.heap.size + 1 := by rw [hW0, World.size_alloc]
          have q1 : Cs W1 w.heap.size [.int .u64 l] := by rw [hW1]; exact (by rw [hW0]; exact Cs.first w _ _ : Cs W0 w.heap.size [.int .u64 l]).below (gAl _ _) (by omega)
          have z1 : Cs W1 (w.heap.size + 1) [.int .u64 0] := by rw [hW1, ← hz0]; exact Cs.first W0 _ _
          have hb1 : Below w.heap.size w W1 := by rw [hW1]; exact gNx (by rw [hW0]; exact gAl _ _) (gAl _ _)
          rw [← hW0, ← hW1]
          clear hW0 hW1 hz0 W0
          refine wp_region_held_drew (S := fun V => V.rangeAt w.heap.size 0 [.int .u64 l]) (by kernel_rfl) ((World.rangeAt_drew W1 _ _ _).2 q1.range) (fun hH => ?_)
          clear hH
          have hs0 : W1.drew.rangeAt w.heap.size 0 [.int .u64 l] := (World.rangeAt_drew W1 _ _ _).2 q1.range
          have HB0 : Hid (Below w.heap.size w W1.drew) := Lib.hid hb1.drew
          have HT : Hid (Cs W1.drew (w.heap.size + 1) [.int .u64 0]) := Lib.hid (z1.below (Below.refl W1.heap.size W1).drew z1.lt)
          clear q1 z1 hb1
          generalize W1.drew = V0 at *
          refine tk 0 (by assumption) rfl (by kernel_rfl) (fun _ _ _ h => h) (tk_load (S := fun V => V.rangeAt w.heap.size 0 [.int .u64 l]) 45 (.tmp 2) rfl w.heap.size 0 rfl [.int .u64 l] _ (fun V hV => hV) Try.underlying45 (by rfl) (by kernel_rfl)) ?_
          try simp only [Act.put, sqA, sqB, sqC, sqD, sqE, sqF]
          refine tk 1 (by assumption) rfl (by kernel_rfl) (fun _ _ _ h => h) (fun V hV => by go_simp; try with_reducible rfl) ?_
          try simp only [Act.put, sqA, sqB, sqC, sqD, sqE, sqF]
          refine tk 2 (by assumption) rfl (by kernel_rfl) (fun _ _ _ h => h) (fun V hV => by go_simp; try with_reducible rfl) ?_
          try simp only [Act.put, sqA, sqB, sqC, sqD, sqE, sqF]
          refine tk 3 (by assumption) rfl (by kernel_rfl) (fun _ _ _ h => h) (fun V hV => by go_simp; try with_reducible rfl) ?_
          try simp only [Act.put, sqA, sqB, sqC, sqD, sqE, sqF]
          refine tk 4 (by assumption) rfl (by kernel_rfl) (fun _ _ _ h => h) (fun V hV => by go_simp; try with_reducible rfl) ?_
          try simp only [Act.put, sqA, sqB, sqC, sqD, sqE, sqF]
          refine tk 5 (by assumption) rfl (by kernel_rfl) (fun _ _ _ h => h) (fun V hV => by go_simp; try with_reducible rfl) ?_
          try simp only [Act.put, sqA, sqB, sqC, sqD, sqE, sqF]
          refine tk 6 (by assumption) rfl (by kernel_rfl) (fun _ _ _ h => h) (fun V hV => by have z3 := hV 0 _ rfl; go_simp; try with_reducible rfl) ?_
          try simp only [Act.put, sqA, sqB, sqC, sqD, sqE, sqF]
          refine tk 7 (by assumption) rfl (by kernel_rfl) (fun _ _ _ h => h) (fun V hV => by go_simp; try with_reducible rfl) ?_
          try simp only [Act.put, sqA, sqB, sqC, sqD, sqE, sqF]
          refine tk 8 (by assumption) rfl (by kernel_rfl) (fun _ _ _ h => h) (fun V hV => by go_simp; try with_reducible rfl) ?_
          try simp only [Act.put, sqA, sqB, sqC, sqD, sqE, sqF]
          refine wpAnyH_ready (rs := [9]) (by kernel_rfl) (by simp) ?_
          refine AllReadyH.cons (o := _) rfl (fun K hK => ?_) AllReadyH.nil
          rw [if_pos (by rfl)]
          refine wp_store_mid 45 (.tmp 4) (.tmp 19) rfl (w.heap.size + 1) 0 #[.int .u64 l] rfl rfl HT.out.there (by kernel_rfl) (all_oneCell_toArray (cs := [.int .u64 l]) (by intro v hv; simp only [List.mem_cons, List.not_mem_nil, or_false] at hv; rcases hv with rfl; rfl)) ?_
          obtain ⟨V9, hV9⟩ : ∃ V9, V9 = V0.setCells (w.heap.size + 1) 0 [.int .u64 l] := ⟨_, rfl⟩
          have c9 : V9.cell? ⟨w.heap.size + 1, 0, none⟩ = some (.int .u64 l) := by rw [hV9]; exact (World.rangeAt_setCells_same _ _ _ [.int .u64 l] HT.out.there) 0 _ rfl
          have s9 : V9.rangeAt w.heap.size 0 [.int .u64 l] := by intro k v hv; rw [hV9]; exact (World.cell?_of_block (a := ⟨w.heap.size, 0 + k, none⟩) (setCells_other (w.heap.size + 1) [.int .u64 l] 0 V0 w.heap.size (by omega))).trans (hs0 k v hv)
          have HB9 : Hid (Below w.heap.size w V9) := Lib.hid (by rw [hV9]; exact below_set (w.heap.size + 1) (Nat.le_succ _) [.int .u64 l] 0 V0 HB0.out)
          rw [show V0.setCells (w.heap.size + 1) 0 (#[.int .u64 l] : Array Value).toList = V9 from hV9.symm]
          refine hK.out _ _ s9 (fun hH => ?_)
          clear hK K hH hV9
          try simp only [Act.put, sqA, sqB, sqC, sqD, sqE, sqF]
          refine tk 10 (by assumption) rfl (by kernel_rfl) (fun _ _ _ h => h) (fun V hV => by go_simp; try with_reducible rfl) ?_
          try simp only [Act.put, sqA, sqB, sqC, sqD, sqE, sqF]
          refine tk 11 (by assumption) rfl (by kernel_rfl) (fun _ _ _ h => h) (fun V hV => by go_simp; try with_reducible rfl) ?_
          try simp only [Act.put, sqA, sqB, sqC, sqD, sqE, sqF]
          refine wpAnyH_done (by kernel_rfl) ?_ _
          go_wp2_with fail
          refine bodyPost_ret (v := .tuple #[.agg #[.int .u64 l], .bool false, .bool true]) (by simp [results, Try.results28, go_sem, c9]) rfl ?_
          exact ⟨rfl, HB9.out⟩
        · rw [decide_eq_false (show ¬ ((l < s ∧ s - l = 1) ∨ (1 ≤ s ∧ s ≤ l)) by omega)]
          clear h2 hn hd hs hl
          go_enter Try.func28, Try.ntmps28
          go_upto_region 3 with fail
          obtain ⟨W0, hW0⟩ : ∃ W0, W0 = w.alloc (.cells #[.int .u64 l] 45) := ⟨_, rfl⟩
          obtain ⟨W1, hW1⟩ : ∃ W1, W1 = W0.alloc (.cells #[.int .u64 0] 45) := ⟨_, rfl⟩
          have hz0 : W0.heap.size = w.heap.size + 1 := by rw [hW0, World.size_alloc]
          have q1 : Cs W1 w.heap.size [.int .u64 l] := by rw [hW1]; exact (by rw [hW0]; exact Cs.first w _ _ : Cs W0 w.heap.size [.int .u64 l]).below (gAl _ _) (by omega)
          have z1 : Cs W1 (w.heap.size + 1) [.int .u64 0] := by rw [hW1, ← hz0]; exact Cs.first W0 _ _
          have hb1 : Below w.heap.size w W1 := by rw [hW1]; exact gNx (by rw [hW0]; exact gAl _ _) (gAl _ _)
          rw [← hW0, ← hW1]
          clear hW0 hW1 hz0 W0
          refine wp_region_held_drew (S := fun V => V.rangeAt w.heap.size 0 [.int .u64 l]) (by kernel_rfl) ((World.rangeAt_drew W1 _ _ _).2 q1.range) (fun hH => ?_)
          clear hH
          have hs0 : W1.drew.rangeAt w.heap.size 0 [.int .u64 l] := (World.rangeAt_drew W1 _ _ _).2 q1.range
          have HB0 : Hid (Below w.heap.size w W1.drew) := Lib.hid hb1.drew
          have HT : Hid (Cs W1.drew (w.heap.size + 1) [.int .u64 0]) := Lib.hid (z1.below (Below.refl W1.heap.size W1).drew z1.lt)
          clear q1 z1 hb1
          generalize W1.drew = V0 at *
          refine tk 0 (by assumption) rfl (by kernel_rfl) (fun _ _ _ h => h) (tk_load (S := fun V => V.rangeAt w.heap.size 0 [.int .u64 l]) 45 (.tmp 2) rfl w.heap.size 0 rfl [.int .u64 l] _ (fun V hV => hV) Try.underlying45 (by rfl) (by kernel_rfl)) ?_
          try simp only [Act.put, sqA, sqB, sqC, sqD, sqE, sqF]
          refine tk 1 (by assumption) rfl (by kernel_rfl) (fun _ _ _ h => h) (fun V hV => by go_simp; try with_reducible rfl) ?_
          try simp only [Act.put, sqA, sqB, sqC, sqD, sqE, sqF]
          refine tk 2 (by assumption) rfl (by kernel_rfl) (fun _ _ _ h => h) (fun V hV => by go_simp; try with_reducible rfl) ?_
          try simp only [Act.put, sqA, sqB, sqC, sqD, sqE, sqF]
          refine tk 3 (by assumption) rfl (by kernel_rfl) (fun _ _ _ h => h) (fun V hV => by go_simp; try with_reducible rfl) ?_
          try simp only [Act.put, sqA, sqB, sqC, sqD, sqE, sqF]
          refine tk 4 (by assumption) rfl (by kernel_rfl) (fun _ _ _ h => h) (fun V hV => by go_simp; try with_reducible rfl) ?_
          try simp only [Act.put, sqA, sqB, sqC, sqD, sqE, sqF]
          refine tk 5 (by assumption) rfl (by kernel_rfl) (fun _ _ _ h => h) (fun V hV => by go_simp; try with_reducible rfl) ?_
          try simp only [Act.put, sqA, sqB, sqC, sqD, sqE, sqF]
          refine tk 6 (by assumption) rfl (by kernel_rfl) (fun _ _ _ h => h) (fun V hV => by have z3 := hV 0 _ rfl; go_simp; try with_reducible rfl) ?_
          try simp only [Act.put, sqA, sqB, sqC, sqD, sqE, sqF]
          refine tk 7 (by assumption) rfl (by kernel_rfl) (fun _ _ _ h => h) (fun V hV => by go_simp; try with_reducible rfl) ?_
          try simp only [Act.put, sqA, sqB, sqC, sqD, sqE, sqF]
          refine tk 8 (by assumption) rfl (by kernel_rfl) (fun _ _ _ h => h) (fun V hV => by go_simp; try with_reducible rfl) ?_
          try simp only [Act.put, sqA, sqB, sqC, sqD, sqE, sqF]
          refine wpAnyH_ready (rs := [9]) (by kernel_rfl) (by simp) ?_
          refine AllReadyH.cons (o := _) rfl (fun K hK => ?_) AllReadyH.nil
          rw [if_pos (by rfl)]
          refine wp_store_mid 45 (.tmp 4) (.tmp 19) rfl (w.heap.size + 1) 0 #[.int .u64 l] rfl rfl HT.out.there (by kernel_rfl) (all_oneCell_toArray (cs := [.int .u64 l]) (by intro v hv; simp only [List.mem_cons, List.not_mem_nil, or_false] at hv; rcases hv with rfl; rfl)) ?_
          obtain ⟨V9, hV9⟩ : ∃ V9, V9 = V0.setCells (w.heap.size + 1) 0 [.int .u64 l] := ⟨_, rfl⟩
          have c9 : V9.cell? ⟨w.heap.size + 1, 0, none⟩ = some (.int .u64 l) := by rw [hV9]; exact (World.rangeAt_setCells_same _ _ _ [.int .u64 l] HT.out.there) 0 _ rfl
          have s9 : V9.rangeAt w.heap.size 0 [.int .u64 l] := by intro k v hv; rw [hV9]; exact (World.cell?_of_block (a := ⟨w.heap.size, 0 + k, none⟩) (setCells_other (w.heap.size + 1) [.int .u64 l] 0 V0 w.heap.size (by omega))).trans (hs0 k v hv)
          have HB9 : Hid (Below w.heap.size w V9) := Lib.hid (by rw [hV9]; exact below_set (w.heap.size + 1) (Nat.le_succ _) [.int .u64 l] 0 V0 HB0.out)
          rw [show V0.setCells (w.heap.size + 1) 0 (#[.int .u64 l] : Array Value).toList = V9 from hV9.symm]
          refine hK.out _ _ s9 (fun hH => ?_)
          clear hK K hH hV9
          try simp only [Act.put, sqA, sqB, sqC, sqD, sqE, sqF]
          refine tk 10 (by assumption) rfl (by kernel_rfl) (fun _ _ _ h => h) (fun V hV => by go_simp; try with_reducible rfl) ?_
          try simp only [Act.put, sqA, sqB, sqC, sqD, sqE, sqF]
          refine tk 11 (by assumption) rfl (by kernel_rfl) (fun _ _ _ h => h) (fun V hV => by go_simp; try with_reducible rfl) ?_
          try simp only [Act.put, sqA, sqB, sqC, sqD, sqE, sqF]
          refine wpAnyH_done (by kernel_rfl) ?_ _
          go_wp2_with fail
          refine bodyPost_ret (v := .tuple #[.agg #[.int .u64 l], .bool false, .bool false]) (by simp [results, Try.results28, go_sem, c9]) rfl ?_
          exact ⟨rfl, HB9.out⟩
      · rw [decide_eq_false (show ¬ ((l < s ∧ s - l = 1) ∨ (1 ≤ s ∧ s ≤ l)) by omega)]
        clear h2 hn hd hs hl
        go_enter Try.func28, Try.ntmps28
        go_upto_region 3 with fail
        obtain ⟨W0, hW0⟩ : ∃ W0, W0 = w.alloc (.cells #[.int .u64 l] 45) := ⟨_, rfl⟩
        obtain ⟨W1, hW1⟩ : ∃ W1, W1 = W0.alloc (.cells #[.int .u64 0] 45) := ⟨_, rfl⟩
        have hz0 : W0.heap.size = w.heap.size + 1 := by rw [hW0, World.size_alloc]
        have q1 : Cs W1 w.heap.size [.int .u64 l] := by rw [hW1]; exact (by rw [hW0]; exact Cs.first w _ _ : Cs W0 w.heap.size [.int .u64 l]).below (gAl _ _) (by omega)
        have z1 : Cs W1 (w.heap.size + 1) [.int .u64 0] := by rw [hW1, ← hz0]; exact Cs.first W0 _ _
        have hb1 : Below w.heap.size w W1 := by rw [hW1]; exact gNx (by rw [hW0]; exact gAl _ _) (gAl _ _)
        rw [← hW0, ← hW1]
        clear hW0 hW1 hz0 W0
        refine wp_region_held_drew (S := fun V => V.rangeAt w.heap.size 0 [.int .u64 l]) (by kernel_rfl) ((World.rangeAt_drew W1 _ _ _).2 q1.range) (fun hH => ?_)
        clear hH
        have hs0 : W1.drew.rangeAt w.heap.size 0 [.int .u64 l] := (World.rangeAt_drew W1 _ _ _).2 q1.range
        have HB0 : Hid (Below w.heap.size w W1.drew) := Lib.hid hb1.drew
        have HT : Hid (Cs W1.drew (w.heap.size + 1) [.int .u64 0]) := Lib.hid (z1.below (Below.refl W1.heap.size W1).drew z1.lt)
        clear q1 z1 hb1
        generalize W1.drew = V0 at *
        refine tk 0 (by assumption) rfl (by kernel_rfl) (fun _ _ _ h => h) (tk_load (S := fun V => V.rangeAt w.heap.size 0 [.int .u64 l]) 45 (.tmp 2) rfl w.heap.size 0 rfl [.int .u64 l] _ (fun V hV => hV) Try.underlying45 (by rfl) (by kernel_rfl)) ?_
        try simp only [Act.put, sqA, sqB, sqC, sqD, sqE, sqF]
        refine tk 1 (by assumption) rfl (by kernel_rfl) (fun _ _ _ h => h) (fun V hV => by go_simp; try with_reducible rfl) ?_
        try simp only [Act.put, sqA, sqB, sqC, sqD, sqE, sqF]
        refine tk 2 (by assumption) rfl (by kernel_rfl) (fun _ _ _ h => h) (fun V hV => by go_simp; try with_reducible rfl) ?_
        try simp only [Act.put, sqA, sqB, sqC, sqD, sqE, sqF]
        refine tk 3 (by assumption) rfl (by kernel_rfl) (fun _ _ _ h => h) (fun V hV => by go_simp; try with_reducible rfl) ?_
        try simp only [Act.put, sqA, sqB, sqC, sqD, sqE, sqF]
        refine wpAnyH_take (i := 4) (oi := _) (v := undef) rfl (by kernel_rfl) (by kernel_rfl) (by kernel_rfl) (fun _ _ _ h => h) (Or.inr ⟨by kernel_rfl, rfl⟩) (by assumption) ?_
        try simp only [Act.put, sqA, sqB, sqC, sqD, sqE, sqF]
        refine wpAnyH_take (i := 5) (oi := _) (v := undef) rfl (by kernel_rfl) (by kernel_rfl) (by kernel_rfl) (fun _ _ _ h => h) (Or.inr ⟨by kernel_rfl, rfl⟩) (by assumption) ?_
        try simp only [Act.put, sqA, sqB, sqC, sqD, sqE, sqF]
        refine wpAnyH_take (i := 6) (oi := _) (v := undef) rfl (by kernel_rfl) (by kernel_rfl) (by kernel_rfl) (fun _ _ _ h => h) (Or.inr ⟨by kernel_rfl, rfl⟩) (by assumption) ?_
        try simp only [Act.put, sqA, sqB, sqC, sqD, sqE, sqF]
        refine wpAnyH_take (i := 7) (oi := _) (v := undef) rfl (by kernel_rfl) (by kernel_rfl) (by kernel_rfl) (fun _ _ _ h => h) (Or.inr ⟨by kernel_rfl, rfl⟩) (by assumption) ?_
        try simp only [Act.put, sqA, sqB, sqC, sqD, sqE, sqF]
        refine tk 8 (by assumption) rfl (by kernel_rfl) (fun _ _ _ h => h) (fun V hV => by go_simp; try with_reducible rfl) ?_
        try simp only [Act.put, sqA, sqB, sqC, sqD, sqE, sqF]
        refine wpAnyH_ready (rs := [9]) (by kernel_rfl) (by simp) ?_
        refine AllReadyH.cons (o := _) rfl (fun K hK => ?_) AllReadyH.nil
        rw [if_pos (by rfl)]
        refine wp_store_mid 45 (.tmp 4) (.tmp 19) rfl (w.heap.size + 1) 0 #[.int .u64 l] rfl rfl HT.out.there (by kernel_rfl) (all_oneCell_toArray (cs := [.int .u64 l]) (by intro v hv; simp only [List.mem_cons, List.not_mem_nil, or_false] at hv; rcases hv with rfl; rfl)) ?_
        obtain ⟨V9, hV9⟩ : ∃ V9, V9 = V0.setCells (w.heap.size + 1) 0 [.int .u64 l] := ⟨_, rfl⟩
        have c9 : V9.cell? ⟨w.heap.size + 1, 0, none⟩ = some (.int .u64 l) := by rw [hV9]; exact (World.rangeAt_setCells_same _ _ _ [.int .u64 l] HT.out.there) 0 _ rfl
        have s9 : V9.rangeAt w.heap.size 0 [.int .u64 l] := by intro k v hv; rw [hV9]; exact (World.cell?_of_block (a := ⟨w.heap.size, 0 + k, none⟩) (setCells_other (w.heap.size + 1) [.int .u64 l] 0 V0 w.heap.size (by omega))).trans (hs0 k v hv)
        have HB9 : Hid (Below w.heap.size w V9) := Lib.hid (by rw [hV9]; exact below_set (w.heap.size + 1) (Nat.le_succ _) [.int .u64 l] 0 V0 HB0.out)
        rw [show V0.setCells (w.heap.size + 1) 0 (#[.int .u64 l] : Array Value).toList = V9 from hV9.symm]
        refine hK.out _ _ s9 (fun hH => ?_)
        clear hK K hH hV9
        try simp only [Act.put, sqA, sqB, sqC, sqD, sqE, sqF]
        refine tk 10 (by assumption) rfl (by kernel_rfl) (fun _ _ _ h => h) (fun V hV => by go_simp; try with_reducible rfl) ?_
        try simp only [Act.put, sqA, sqB, sqC, sqD, sqE, sqF]
        refine tk 11 (by assumption) rfl (by kernel_rfl) (fun _ _ _ h => h) (fun V hV => by go_simp; try with_reducible rfl) ?_
        try simp only [Act.put, sqA, sqB, sqC, sqD, sqE, sqF]
        refine wpAnyH_done (by kernel_rfl) ?_ _
        go_wp2_with fail
        refine bodyPost_ret (v := .tuple #[.agg #[.int .u64 l], .bool false, .bool false]) (by simp [results, Try.results28, go_sem, c9]) rfl ?_
        exact ⟨rfl, HB9.out⟩
  · obtain rfl : l = 18446744073709551615 := by omega
    have hn : ¬ (18446744073709551615 < s ∧ s - 18446744073709551615 = 1) := by omega
    rw [if_neg hn, decide_eq_false hn]
    by_cases h4 : 1 ≤ s
    · have h5 : s ≤ 18446744073709551615 := by omega
      rw [decide_eq_true (show (18446744073709551615 < s ∧ s - 18446744073709551615 = 1) ∨ (1 ≤ s ∧ s ≤ 18446744073709551615) by omega)]
      clear hn hs hl
      go_enter Try.func28, Try.ntmps28
      go_upto_region 3 with fail
      obtain ⟨W0, hW0⟩ : ∃ W0, W0 = w.alloc (.cells #[.int .u64 18446744073709551615] 45) := ⟨_, rfl⟩
      obtain ⟨W1, hW1⟩ : ∃ W1, W1 = W0.alloc (.cells #[.int .u64 0] 45) := ⟨_, rfl⟩
      have hz0 : W0.heap.size = w.heap.size + 1 := by rw [hW0, World.size_alloc]
      have q1 : Cs W1 w.heap.size [.int .u64 18446744073709551615] := by rw [hW1]; exact (by rw [hW0]; exact Cs.first w _ _ : Cs W0 w.heap.size [.int .u64 18446744073709551615]).below (gAl _ _) (by omega)
      have z1 : Cs W1 (w.heap.size + 1) [.int .u64 0] := by rw [hW1, ← hz0]; exact Cs.first W0 _ _
      have hb1 : Below w.heap.size w W1 := by rw [hW1]; exact gNx (by rw [hW0]; exact gAl _ _) (gAl _ _)
      rw [← hW0, ← hW1]
      clear hW0 hW1 hz0 W0
      refine wp_region_held_drew (S := fun V => V.rangeAt w.heap.size 0 [.int .u64 18446744073709551615]) (by kernel_rfl) ((World.rangeAt_drew W1 _ _ _).2 q1.range) (fun hH => ?_)
      clear hH
      have hs0 : W1.drew.rangeAt w.heap.size 0 [.int .u64 18446744073709551615] := (World.rangeAt_drew W1 _ _ _).2 q1.range
      have HB0 : Hid (Below w.heap.size w W1.drew) := Lib.hid hb1.drew
      have HT : Hid (Cs W1.drew (w.heap.size + 1) [.int .u64 0]) := Lib.hid (z1.below (Below.refl W1.heap.size W1).drew z1.lt)
      clear q1 z1 hb1
      generalize W1.drew = V0 at *
      refine tk 0 (by assumption) rfl (by kernel_rfl) (fun _ _ _ h => h) (tk_load (S := fun V => V.rangeAt w.heap.size 0 [.int .u64 18446744073709551615]) 45 (.tmp 2) rfl w.heap.size 0 rfl [.int .u64 18446744073709551615] _ (fun V hV => hV) Try.underlying45 (by rfl) (by kernel_rfl)) ?_
      try simp only [Act.put, sqA, sqB, sqC, sqD, sqE, sqF]
      refine tk 1 (by assumption) rfl (by kernel_rfl) (fun _ _ _ h => h) (fun V hV => by go_simp; try with_reducible rfl) ?_
      try simp only [Act.put, sqA, sqB, sqC, sqD, sqE, sqF]
      refine tk 2 (by assumption) rfl (by kernel_rfl) (fun _ _ _ h => h) (fun V hV => by go_simp; try with_reducible rfl) ?_
      try simp only [Act.put, sqA, sqB, sqC, sqD, sqE, sqF]
      refine tk 3 (by assumption) rfl (by kernel_rfl) (fun _ _ _ h => h) (fun V hV => by go_simp; try with_reducible rfl) ?_
      try simp only [Act.put, sqA, sqB, sqC, sqD, sqE, sqF]
      refine tk 4 (by assumption) rfl (by kernel_rfl) (fun _ _ _ h => h) (fun V hV => by go_simp; try with_reducible rfl) ?_
      try simp only [Act.put, sqA, sqB, sqC, sqD, sqE, sqF]
      refine tk 5 (by assumption) rfl (by kernel_rfl) (fun _ _ _ h => h) (fun V hV => by go_simp; try with_reducible rfl) ?_
      try simp only [Act.put, sqA, sqB, sqC, sqD, sqE, sqF]
      refine tk 6 (by assumption) rfl (by kernel_rfl) (fun _ _ _ h => h) (fun V hV => by have z3 := hV 0 _ rfl; go_simp; try with_reducible rfl) ?_
      try simp only [Act.put, sqA, sqB, sqC, sqD, sqE, sqF]
      refine tk 7 (by assumption) rfl (by kernel_rfl) (fun _ _ _ h => h) (fun V hV => by go_simp; try with_reducible rfl) ?_
      try simp only [Act.put, sqA, sqB, sqC, sqD, sqE, sqF]
      refine tk 8 (by assumption) rfl (by kernel_rfl) (fun _ _ _ h => h) (fun V hV => by go_simp; try with_reducible rfl) ?_
      try simp only [Act.put, sqA, sqB, sqC, sqD, sqE, sqF]
      refine wpAnyH_ready (rs := [9]) (by kernel_rfl) (by simp) ?_
      refine AllReadyH.cons (o := _) rfl (fun K hK => ?_) AllReadyH.nil
      rw [if_pos (by rfl)]
      refine wp_store_mid 45 (.tmp 4) (.tmp 19) rfl (w.heap.size + 1) 0 #[.int .u64 18446744073709551615] rfl rfl HT.out.there (by kernel_rfl) (all_oneCell_toArray (cs := [.int .u64 18446744073709551615]) (by intro v hv; simp only [List.mem_cons, List.not_mem_nil, or_false] at hv; rcases hv with rfl; rfl)) ?_
      obtain ⟨V9, hV9⟩ : ∃ V9, V9 = V0.setCells (w.heap.size + 1) 0 [.int .u64 18446744073709551615] := ⟨_, rfl⟩
      have c9 : V9.cell? ⟨w.heap.size + 1, 0, none⟩ = some (.int .u64 18446744073709551615) := by rw [hV9]; exact (World.rangeAt_setCells_same _ _ _ [.int .u64 18446744073709551615] HT.out.there) 0 _ rfl
      have s9 : V9.rangeAt w.heap.size 0 [.int .u64 18446744073709551615] := by intro k v hv; rw [hV9]; exact (World.cell?_of_block (a := ⟨w.heap.size, 0 + k, none⟩) (setCells_other (w.heap.size + 1) [.int .u64 18446744073709551615] 0 V0 w.heap.size (by omega))).trans (hs0 k v hv)
      have HB9 : Hid (Below w.heap.size w V9) := Lib.hid (by rw [hV9]; exact below_set (w.heap.size + 1) (Nat.le_succ _) [.int .u64 18446744073709551615] 0 V0 HB0.out)
      rw [show V0.setCells (w.heap.size + 1) 0 (#[.int .u64 18446744073709551615] : Array Value).toList = V9 from hV9.symm]
      refine hK.out _ _ s9 (fun hH => ?_)
      clear hK K hH hV9
      try simp only [Act.put, sqA, sqB, sqC, sqD, sqE, sqF]
      refine tk 10 (by assumption) rfl (by kernel_rfl) (fun _ _ _ h => h) (fun V hV => by go_simp; try with_reducible rfl) ?_
      try simp only [Act.put, sqA, sqB, sqC, sqD, sqE, sqF]
      refine tk 11 (by assumption) rfl (by kernel_rfl) (fun _ _ _ h => h) (fun V hV => by go_simp; try with_reducible rfl) ?_
      try simp only [Act.put, sqA, sqB, sqC, sqD, sqE, sqF]
      refine wpAnyH_done (by kernel_rfl) ?_ _
      go_wp2_with fail
      refine bodyPost_ret (v := .tuple #[.agg #[.int .u64 18446744073709551615], .bool false, .bool true]) (by simp [results, Try.results28, go_sem, c9]) rfl ?_
      exact ⟨rfl, HB9.out⟩
    · rw [decide_eq_false (show ¬ ((18446744073709551615 < s ∧ s - 18446744073709551615 = 1) ∨ (1 ≤ s ∧ s ≤ 18446744073709551615)) by omega)]
      clear hn hs hl
      go_enter Try.func28, Try.ntmps28
      go_upto_region 3 with fail
      obtain ⟨W0, hW0⟩ : ∃ W0, W0 = w.alloc (.cells #[.int .u64 18446744073709551615] 45) := ⟨_, rfl⟩
      obtain ⟨W1, hW1⟩ : ∃ W1, W1 = W0.alloc (.cells #[.int .u64 0] 45) := ⟨_, rfl⟩
      have hz0 : W0.heap.size = w.heap.size + 1 := by rw [hW0, World.size_alloc]
      have q1 : Cs W1 w.heap.size [.int .u64 18446744073709551615] := by rw [hW1]; exact (by rw [hW0]; exact Cs.first w _ _ : Cs W0 w.heap.size [.int .u64 18446744073709551615]).below (gAl _ _) (by omega)
      have z1 : Cs W1 (w.heap.size + 1) [.int .u64 0] := by rw [hW1, ← hz0]; exact Cs.first W0 _ _
      have hb1 : Below w.heap.size w W1 := by rw [hW1]; exact gNx (by rw [hW0]; exact gAl _ _) (gAl _ _)
      rw [← hW0, ← hW1]
      clear hW0 hW1 hz0 W0
      refine wp_region_held_drew (S := fun V => V.rangeAt w.heap.size 0 [.int .u64 18446744073709551615]) (by kernel_rfl) ((World.rangeAt_drew W1 _ _ _).2 q1.range) (fun hH => ?_)
      clear hH
      have hs0 : W1.drew.rangeAt w.heap.size 0 [.int .u64 18446744073709551615] := (World.rangeAt_drew W1 _ _ _).2 q1.range
      have HB0 : Hid (Below w.heap.size w W1.drew) := Lib.hid hb1.drew
      have HT : Hid (Cs W1.drew (w.heap.size + 1) [.int .u64 0]) := Lib.hid (z1.below (Below.refl W1.heap.size W1).drew z1.lt)
      clear q1 z1 hb1
      generalize W1.drew = V0 at *
      refine tk 0 (by assumption) rfl (by kernel_rfl) (fun _ _ _ h => h) (tk_load (S := fun V => V.rangeAt w.heap.size 0 [.int .u64 18446744073709551615]) 45 (.tmp 2) rfl w.heap.size 0 rfl [.int .u64 18446744073709551615] _ (fun V hV => hV) Try.underlying45 (by rfl) (by kernel_rfl)) ?_
      try simp only [Act.put, sqA, sqB, sqC, sqD, sqE, sqF]
      refine tk 1 (by assumption) rfl (by kernel_rfl) (fun _ _ _ h => h) (fun V hV => by go_simp; try with_reducible rfl) ?_
      try simp only [Act.put, sqA, sqB, sqC, sqD, sqE, sqF]
      refine tk 2 (by assumption) rfl (by kernel_rfl) (fun _ _ _ h => h) (fun V hV => by go_simp; try with_reducible rfl) ?_
      try simp only [Act.put, sqA, sqB, sqC, sqD, sqE, sqF]
      refine tk 3 (by assumption) rfl (by kernel_rfl) (fun _ _ _ h => h) (fun V hV => by go_simp; try with_reducible rfl) ?_
      try simp only [Act.put, sqA, sqB, sqC, sqD, sqE, sqF]
      refine wpAnyH_take (i := 4) (oi := _) (v := undef) rfl (by kernel_rfl) (by kernel_rfl) (by kernel_rfl) (fun _ _ _ h => h) (Or.inr ⟨by kernel_rfl, rfl⟩) (by assumption) ?_
      try simp only [Act.put, sqA, sqB, sqC, sqD, sqE, sqF]
      refine wpAnyH_take (i := 5) (oi := _) (v := undef) rfl (by kernel_rfl) (by kernel_rfl) (by kernel_rfl) (fun _ _ _ h => h) (Or.inr ⟨by kernel_rfl, rfl⟩) (by assumption) ?_
      try simp only [Act.put, sqA, sqB, sqC, sqD, sqE, sqF]
      refine wpAnyH_take (i := 6) (oi := _) (v := undef) rfl (by kernel_rfl) (by kernel_rfl) (by kernel_rfl) (fun _ _ _ h => h) (Or.inr ⟨by kernel_rfl, rfl⟩) (by assumption) ?_
      try simp only [Act.put, sqA, sqB, sqC, sqD, sqE, sqF]
      refine wpAnyH_take (i := 7) (oi := _) (v := undef) rfl (by kernel_rfl) (by kernel_rfl) (by kernel_rfl) (fun _ _ _ h => h) (Or.inr ⟨by kernel_rfl, rfl⟩) (by assumption) ?_
      try simp only [Act.put, sqA, sqB, sqC, sqD, sqE, sqF]
      refine tk 8 (by assumption) rfl (by kernel_rfl) (fun _ _ _ h => h) (fun V hV => by go_simp; try with_reducible rfl) ?_
      try simp only [Act.put, sqA, sqB, sqC, sqD, sqE, sqF]
      refine wpAnyH_ready (rs := [9]) (by kernel_rfl) (by simp) ?_
      refine AllReadyH.cons (o := _) rfl (fun K hK => ?_) AllReadyH.nil
      rw [if_pos (by rfl)]
      refine wp_store_mid 45 (.tmp 4) (.tmp 19) rfl (w.heap.size + 1) 0 #[.int .u64 18446744073709551615] rfl rfl HT.out.there (by kernel_rfl) (all_oneCell_toArray (cs := [.int .u64 18446744073709551615]) (by intro v hv; simp only [List.mem_cons, List.not_mem_nil, or_false] at hv; rcases hv with rfl; rfl)) ?_
      obtain ⟨V9, hV9⟩ : ∃ V9, V9 = V0.setCells (w.heap.size + 1) 0 [.int .u64 18446744073709551615] := ⟨_, rfl⟩
      have c9 : V9.cell? ⟨w.heap.size + 1, 0, none⟩ = some (.int .u64 18446744073709551615) := by rw [hV9]; exact (World.rangeAt_setCells_same _ _ _ [.int .u64 18446744073709551615] HT.out.there) 0 _ rfl
      have s9 : V9.rangeAt w.heap.size 0 [.int .u64 18446744073709551615] := by intro k v hv; rw [hV9]; exact (World.cell?_of_block (a := ⟨w.heap.size, 0 + k, none⟩) (setCells_other (w.heap.size + 1) [.int .u64 18446744073709551615] 0 V0 w.heap.size (by omega))).trans (hs0 k v hv)
      have HB9 : Hid (Below w.heap.size w V9) := Lib.hid (by rw [hV9]; exact below_set (w.heap.size + 1) (Nat.le_succ _) [.int .u64 18446744073709551615] 0 V0 HB0.out)
      rw [show V0.setCells (w.heap.size + 1) 0 (#[.int .u64 18446744073709551615] : Array Value).toList = V9 from hV9.symm]
      refine hK.out _ _ s9 (fun hH => ?_)
      clear hK K hH hV9
      try simp only [Act.put, sqA, sqB, sqC, sqD, sqE, sqF]
      refine tk 10 (by assumption) rfl (by kernel_rfl) (fun _ _ _ h => h) (fun V hV => by go_simp; try with_reducible rfl) ?_
      try simp only [Act.put, sqA, sqB, sqC, sqD, sqE, sqF]
      refine tk 11 (by assumption) rfl (by kernel_rfl) (fun _ _ _ h => h) (fun V hV => by go_simp; try with_reducible rfl) ?_
      try simp only [Act.put, sqA, sqB, sqC, sqD, sqE, sqF]
      refine wpAnyH_done (by kernel_rfl) ?_ _
      go_wp2_with fail
      refine bodyPost_ret (v := .tuple #[.agg #[.int .u64 18446744073709551615], .bool false, .bool false]) (by simp [results, Try.results28, go_sem, c9]) rfl ?_
      exact ⟨rfl, HB9.out⟩
end Go.Proofs.Ytfnmfmelcghjbaa
