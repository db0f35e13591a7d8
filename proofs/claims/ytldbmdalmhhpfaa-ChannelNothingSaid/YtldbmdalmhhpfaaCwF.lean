/- Channel: swap, tick, Take. -/
import Derived.Test.YtldbmdalmhhpfaaCwE
namespace Go.Proofs.Ytldbmdalmhhpfaa
open Go.RowKit Go.Lib Go.Ow Go.Cw Go.Cq
set_option linter.unusedVariables false
set_option linter.unusedSimpArgs false
set_option maxRecDepth 100000

theorem range_at {w : World} {r o : Nat} {l : List Gm} (h : w.rangeAt r o (gmRow l)) {n : Nat} (hn : n < l.length) : w.rangeAt r (o + n * 4) (gmC l[n]) := fun j v hj => by
  have hj4 : j < 4 := (List.getElem?_eq_some_iff.1 hj).1
  have := h (n * 4 + j) v ((flat_get gmC 4 gmC_len l n j hn hj4).trans hj)
  rw [← Nat.add_assoc] at this; exact this
theorem there_at {w : World} {r o k : Nat} (h : w.there r o (k * 4)) {n : Nat} (hn : n < k) : w.there r (o + n * 4) 4 := fun j hj => by
  have := h (n * 4 + j) (by omega)
  rw [← Nat.add_assoc] at this; exact this
/-- One datagram put in the place of another. -/
theorem rw_put {w : World} {r o cap n : Nat} {l : List Gm} (h : Rw w r 35 4 (.slice (some ⟨r, o, none⟩) l.length cap) l.length (gmRow l)) (hn : n < l.length) (g : Gm) : Rw (w.setCells r (o + n * 4) (gmC g)) r 35 4 (.slice (some ⟨r, o, none⟩) (l.set n g).length cap) (l.set n g).length (gmRow (l.set n g)) := by
  rw [List.length_set, row_set l n hn g]
  have := h.over (by omega) (n * 4) (gmC g) (by rw [gmC_len]; omega)
  rw [gmC_len, show n * 4 + 4 = (n + 1) * 4 by omega] at this
  exact this
set_option maxHeartbeats 8000000 in
theorem swap_any (i k : Int) (w : World) (fb r : Nat) (l : List Gm) (h : Fl w fb r l) :
    Calls Try.prog 44 #[.pointer (some ⟨fb, 0, none⟩), .int .i64 i, .int .i64 k] w fun e w' => e = .returned (.int .i64 (doE l 5 i k)) ∧ Dn w fb r (doL l 5 i k) w' := by
  have HF := Lib.hid h
  have HI := Lib.hid (has_any i w fb r l h)
  have HK := Lib.hid (has_any k w fb r l h)
  have HGD := Lib.hid (h.good.do 5 i k)
  cases hb : hasB l i with
  | false =>
    have HZ : Hid (doE l 5 i k = 4 ∧ doL l 5 i k = l) := Lib.hid (by simp [doE, doL, hb])
    rw [hb] at HI
    clear h hb
    go_enter Try.func44, Try.ntmps44
    go_wp2_with fail
    refine HI.out.mono ?_
    rintro e w2 ⟨rfl, rfl⟩
    go_wp2_with fail
    go_ret
    exact ⟨by rw [HZ.out.1]; rfl, by rw [HZ.out.2]; exact Dn.same HF.out (Below.refl _ _)⟩
  | true =>
    cases hc : hasB l k with
    | false =>
      have HZ : Hid (doE l 5 i k = 4 ∧ doL l 5 i k = l) := Lib.hid (by simp [doE, doL, hb, hc])
      rw [hb] at HI
      rw [hc] at HK
      clear h hb hc
      go_enter Try.func44, Try.ntmps44
      go_wp2_with fail
      refine HI.out.mono ?_
      rintro e w2 ⟨rfl, rfl⟩
      go_wp2_with fail
      refine HK.out.mono ?_
      rintro e w2 ⟨rfl, rfl⟩
      go_wp2_with fail
      go_ret
      exact ⟨by rw [HZ.out.1]; rfl, by rw [HZ.out.2]; exact Dn.same HF.out (Below.refl _ _)⟩
    | true =>
      obtain ⟨n, rfl, hn, -⟩ := has_nat hb
      obtain ⟨m, rfl, hm, -⟩ := has_nat hc
      have hgn : gat l (n : Int) = l[n] := by unfold gat; simp [List.getD_eq_getElem?_getD, List.getElem?_eq_getElem hn]
      have hgm : gat l (m : Int) = l[m] := by unfold gat; simp [List.getD_eq_getElem?_getD, List.getElem?_eq_getElem hm]
      obtain ⟨o, cap, h1, h2, hcap, hlow, hne, hra, hth⟩ := fl_at h (by omega)
      obtain ⟨na, nb, ns, nt, en⟩ := gm_parts l[n]
      obtain ⟨ma, mb, ms, mt, em⟩ := gm_parts l[m]
      have hrn := range_at hra hn
      have hrm := range_at hra hm
      rw [en] at hrn hgn
      rw [em] at hrm hgm
      have HZ : Hid (doE l 5 (n : Int) (m : Int) = 0 ∧ doL l 5 (n : Int) (m : Int) = (l.set n ⟨ma, mb, ms, mt⟩).set m ⟨na, nb, ns, nt⟩) := Lib.hid (by
        have e : doE l 5 (n : Int) (m : Int) = 0 := by simp [doE, hb, hc]
        refine ⟨e, ?_⟩
        unfold doL
        rw [e, if_neg (by decide), if_neg (by decide), if_neg (by decide), if_neg (by decide), if_neg (by decide), if_pos rfl, hgn, hgm]
        rfl)
      have hgd := HGD.out
      rw [HZ.out.2] at hgd
      obtain ⟨V0, hV0⟩ : ∃ V0, V0 = w.drew := ⟨_, rfl⟩
      have hx0 : Xr fb r w V0 := by rw [hV0]; exact (Xr.refl fb r w).drew
      have HRN : Hid (V0.rangeAt r (o + n * 4) [.int .i64 na, .int .i64 nb, .string ns, .int .i64 nt]) := Lib.hid (by rw [hV0]; exact (World.rangeAt_drew w _ _ _).2 hrn)
      have HRM : Hid (V0.rangeAt r (o + m * 4) [.int .i64 ma, .int .i64 mb, .string ms, .int .i64 mt]) := Lib.hid (by rw [hV0]; exact (World.rangeAt_drew w _ _ _).2 hrm)
      have ht0 : V0.there r o (l.length * 4) := by rw [hV0]; exact (World.there_drew w _ _ _).2 hth
      have HT1 : Hid (V0.there r (o + n * 4) 4) := Lib.hid (there_at ht0 hn)
      have HT2 : Hid ((V0.setCells r (o + n * 4) (#[.int .i64 ma, .int .i64 mb, .string ms, .int .i64 mt] : Array Value).toList).there r (o + m * 4) 4) := Lib.hid (World.there_setCells (there_at ht0 hm) _ _ _)
      have h10 : V0.heap[fb]? = some (.cells #[.pointer (some ⟨fb, 0, none⟩), .slice (some ⟨r, o, none⟩) l.length cap] 55 (0, 0)) := by rw [hV0]; exact h1
      have h11 : (V0.setCells r (o + n * 4) (#[.int .i64 ma, .int .i64 mb, .string ms, .int .i64 mt] : Array Value).toList).heap[fb]? = some (.cells #[.pointer (some ⟨fb, 0, none⟩), .slice (some ⟨r, o, none⟩) l.length cap] 55 (0, 0)) := by rw [setCells_other r _ _ _ fb hne]; exact h10
      have h12 : ((V0.setCells r (o + n * 4) (#[.int .i64 ma, .int .i64 mb, .string ms, .int .i64 mt] : Array Value).toList).setCells r (o + m * 4) (#[.int .i64 na, .int .i64 nb, .string ns, .int .i64 nt] : Array Value).toList).heap[fb]? = some (.cells #[.pointer (some ⟨fb, 0, none⟩), .slice (some ⟨r, o, none⟩) l.length cap] 55 (0, 0)) := by rw [setCells_other r _ _ _ fb hne]; exact h11
      have hs0 : V0.cell? ⟨fb, 0, none⟩ = some (.pointer (some ⟨fb, 0, none⟩)) ∧ V0.cell? ⟨fb, 1, none⟩ = some (.slice (some ⟨r, o, none⟩) l.length cap) := ⟨(two_cells h10).1, (two_cells h10).2.1⟩
      have HS1 := Lib.hid (⟨(two_cells h11).1, (two_cells h11).2.1⟩ : _ ∧ _)
      have HS2 := Lib.hid (⟨(two_cells h12).1, (two_cells h12).2.1⟩ : _ ∧ _)
      have hw : Rw V0 r 35 4 (.slice (some ⟨r, o, none⟩) l.length cap) l.length (gmRow l) := by rw [hV0]; exact h2
      have HDN : Hid (Dn w fb r ((l.set n ⟨ma, mb, ms, mt⟩).set m ⟨na, nb, ns, nt⟩) ((V0.setCells r (o + n * 4) (#[.int .i64 ma, .int .i64 mb, .string ms, .int .i64 mt] : Array Value).toList).setCells r (o + m * 4) (#[.int .i64 na, .int .i64 nb, .string ns, .int .i64 nt] : Array Value).toList)) := Lib.hid (by
        have hx := ((hx0.setCells (o := o + n * 4) (Or.inr rfl) (gmC ⟨ma, mb, ms, mt⟩)).setCells (o := o + m * 4) (Or.inr rfl) (gmC ⟨na, nb, ns, nt⟩))
        refine ⟨⟨r, ⟨⟨.slice (some ⟨r, o, none⟩) l.length cap, h12, ?_⟩, hgd, Nat.lt_of_lt_of_le hlow hx.size⟩, Or.inl rfl⟩, hx⟩
        have hp1 := rw_put hw hn ⟨ma, mb, ms, mt⟩
        have hp2 := rw_put (by rw [List.length_set] at hp1 ⊢; exact hp1) (by rw [List.length_set]; exact hm) ⟨na, nb, ns, nt⟩
        rw [List.length_set, List.length_set] at hp2 ⊢
        exact hp2)
      have hni : (n : Int) < (l.length : Int) := by omega
      have hn0 : (0 : Int) ≤ (n : Int) := by omega
      have hmi : (m : Int) < (l.length : Int) := by omega
      have hm0 : (0 : Int) ≤ (m : Int) := by omega
      rw [hb] at HI
      rw [hc] at HK
      clear h hb hc hn hm hgn hgm h1 h2 hcap hlow hne hra hth hrn hrm en em hgd hx0 ht0 h10 h11 h12 hw
      go_enter Try.func44, Try.ntmps44
      go_wp2_with fail
      refine HI.out.mono ?_
      rintro e w2 ⟨rfl, rfl⟩
      go_wp2_with fail
      refine HK.out.mono ?_
      rintro e w2 ⟨rfl, rfl⟩
      go_upto_region 3 with (fail)
      refine wp_region_held_drew (S := fun V => V.cell? ⟨fb, 0, none⟩ = some (.pointer (some ⟨fb, 0, none⟩)) ∧ V.cell? ⟨fb, 1, none⟩ = some (.slice (some ⟨r, o, none⟩) l.length cap)) (by kernel_rfl) (by rw [← hV0]; exact hs0) (fun hH => ?_)
      rw [← hV0]
      clear hV0
      refine tk 0 hs0 rfl (by kernel_rfl) (fun _ _ _ h => h) (fun V hV => by go_simp; try with_reducible rfl) ?_
      try simp only [Act.put, sqA, sqB, sqC, sqD, sqE, sqF]
      refine tk 1 hs0 rfl (by kernel_rfl) (fun _ _ _ h => h) (fun V hV => by go_simp; try with_reducible rfl) ?_
      try simp only [Act.put, sqA, sqB, sqC, sqD, sqE, sqF]
      refine tk 2 hs0 rfl (by kernel_rfl) (fun _ _ _ h => h) (fun V hV => by go_simp; try with_reducible rfl) ?_
      try simp only [Act.put, sqA, sqB, sqC, sqD, sqE, sqF]
      refine tk 3 hs0 rfl (by kernel_rfl) (fun _ _ _ h => h) (fun V hV => by obtain ⟨hx0, hx1⟩ := hV; go_simp; try with_reducible rfl) ?_
      try simp only [Act.put, sqA, sqB, sqC, sqD, sqE, sqF]
      refine tk 4 hs0 rfl (by kernel_rfl) (fun _ _ _ h => h) (fun V hV => by go_simp; try with_reducible rfl) ?_
      try simp only [Act.put, sqA, sqB, sqC, sqD, sqE, sqF]
      refine tk 5 hs0 rfl (by kernel_rfl) (fun _ _ _ h => h) (fun V hV => by go_simp; try with_reducible rfl) ?_
      try simp only [Act.put, sqA, sqB, sqC, sqD, sqE, sqF]
      refine tk 6 hs0 rfl (by kernel_rfl) (fun _ _ _ h => h) (fun V hV => by go_simp; try with_reducible rfl) ?_
      try simp only [Act.put, sqA, sqB, sqC, sqD, sqE, sqF]
      refine tk 7 hs0 rfl (by kernel_rfl) (fun _ _ _ h => h) (fun V hV => by go_simp; try with_reducible rfl) ?_
      try simp only [Act.put, sqA, sqB, sqC, sqD, sqE, sqF]
      refine tk 8 hs0 rfl (by kernel_rfl) (fun _ _ _ h => h) (fun V hV => by obtain ⟨hx0, hx1⟩ := hV; go_simp; try with_reducible rfl) ?_
      try simp only [Act.put, sqA, sqB, sqC, sqD, sqE, sqF]
      refine tk 9 hs0 rfl (by kernel_rfl) (fun _ _ _ h => h) (fun V hV => by go_simp; try with_reducible rfl) ?_
      try simp only [Act.put, sqA, sqB, sqC, sqD, sqE, sqF]
      refine tk 10 hs0 rfl (by kernel_rfl) (fun _ _ _ h => h) (fun V hV => by go_simp; try with_reducible rfl) ?_
      try simp only [Act.put, sqA, sqB, sqC, sqD, sqE, sqF]
      refine tk 11 hs0 rfl (by kernel_rfl) (fun _ _ _ h => h) (fun V hV => by go_simp; try with_reducible rfl) ?_
      try simp only [Act.put, sqA, sqB, sqC, sqD, sqE, sqF]
      refine tk 12 hs0 rfl (by kernel_rfl) (fun _ _ _ h => h) (fun V hV => by go_simp; try with_reducible rfl) ?_
      try simp only [Act.put, sqA, sqB, sqC, sqD, sqE, sqF]
      refine tk 13 hs0 rfl (by kernel_rfl) (fun _ _ _ h => h) (fun V hV => by obtain ⟨hx0, hx1⟩ := hV; go_simp; try with_reducible rfl) ?_
      try simp only [Act.put, sqA, sqB, sqC, sqD, sqE, sqF]
      refine tk 14 hs0 rfl (by kernel_rfl) (fun _ _ _ h => h) (fun V hV => by go_simp; try with_reducible rfl) ?_
      try simp only [Act.put, sqA, sqB, sqC, sqD, sqE, sqF]
      refine tk 15 hs0 rfl (by kernel_rfl) (fun _ _ _ h => h) (fun V hV => by go_simp; try with_reducible rfl) ?_
      try simp only [Act.put, sqA, sqB, sqC, sqD, sqE, sqF]
      refine tk 17 hs0 rfl (by kernel_rfl) (fun _ _ _ h => h) (fun V hV => by go_simp; try with_reducible rfl) ?_
      try simp only [Act.put, sqA, sqB, sqC, sqD, sqE, sqF]
      refine tk 18 hs0 rfl (by kernel_rfl) (fun _ _ _ h => h) (fun V hV => by go_simp; try with_reducible rfl) ?_
      try simp only [Act.put, sqA, sqB, sqC, sqD, sqE, sqF]
      refine tk 19 hs0 rfl (by kernel_rfl) (fun _ _ _ h => h) (fun V hV => by go_simp; try with_reducible rfl) ?_
      try simp only [Act.put, sqA, sqB, sqC, sqD, sqE, sqF]
      refine tk 20 hs0 rfl (by kernel_rfl) (fun _ _ _ h => h) (fun V hV => by obtain ⟨hx0, hx1⟩ := hV; go_simp; try with_reducible rfl) ?_
      try simp only [Act.put, sqA, sqB, sqC, sqD, sqE, sqF]
      refine tk 21 hs0 rfl (by kernel_rfl) (fun _ _ _ h => h) (fun V hV => by go_simp; try with_reducible rfl) ?_
      try simp only [Act.put, sqA, sqB, sqC, sqD, sqE, sqF]
      refine tk 22 hs0 rfl (by kernel_rfl) (fun _ _ _ h => h) (fun V hV => by go_simp; try with_reducible rfl) ?_
      try simp only [Act.put, sqA, sqB, sqC, sqD, sqE, sqF]
      refine wpAnyH_ready (rs := [16, 23]) (by kernel_rfl) (by simp) ?_
      refine AllReadyH.cons (o := _) rfl (fun K hK => ?_) (AllReadyH.cons (o := _) rfl (fun K hK => ?_) AllReadyH.nil)
      · rw [if_pos (by rfl)]
        refine wp_load_mid 35 (.tmp 32) rfl r (o + m * 4) rfl [.int .i64 ma, .int .i64 mb, .string ms, .int .i64 mt] _ HRM.out Try.underlying35 (by rfl) (by kernel_rfl) ?_
        refine hK.out _ _ hs0 (fun hH => ?_)
        clear hK K
        try simp only [Act.put, sqA, sqB, sqC, sqD, sqE, sqF]
        refine wpAnyH_ready (rs := [23]) (by kernel_rfl) (by simp) ?_
        refine AllReadyH.cons (o := _) rfl (fun K hK => ?_) AllReadyH.nil
        rw [if_pos (by rfl)]
        refine wp_load_mid 35 (.tmp 39) rfl r (o + n * 4) rfl [.int .i64 na, .int .i64 nb, .string ns, .int .i64 nt] _ HRN.out Try.underlying35 (by rfl) (by kernel_rfl) ?_
        refine hK.out _ _ hs0 (fun hH => ?_)
        clear hK K
        try simp only [Act.put, sqA, sqB, sqC, sqD, sqE, sqF]
        refine tk 24 hs0 rfl (by kernel_rfl) (fun _ _ _ h => h) (fun V hV => by go_simp; try with_reducible rfl) ?_
        try simp only [Act.put, sqA, sqB, sqC, sqD, sqE, sqF]
        refine wpAnyH_ready (rs := [25]) (by kernel_rfl) (by simp) ?_
        refine AllReadyH.cons (o := _) rfl (fun K hK => ?_) AllReadyH.nil
        rw [if_pos (by rfl)]
        refine wp_store_mid _ _ _ rfl r (o + n * 4) #[.int .i64 ma, .int .i64 mb, .string ms, .int .i64 mt] rfl rfl HT1.out (by kernel_rfl) (all_oneCell_toArray (cs := [.int .i64 ma, .int .i64 mb, .string ms, .int .i64 mt]) (by intro v hv; simp only [List.mem_cons, List.not_mem_nil, or_false] at hv; rcases hv with rfl | rfl | rfl | rfl <;> rfl)) ?_
        refine hK.out _ _ HS1.out (fun hH => ?_)
        clear hK K
        try simp only [Act.put, sqA, sqB, sqC, sqD, sqE, sqF]
        refine tk 26 HS1.out rfl (by kernel_rfl) (fun _ _ _ h => h) (fun V hV => by go_simp; try with_reducible rfl) ?_
        try simp only [Act.put, sqA, sqB, sqC, sqD, sqE, sqF]
        refine wpAnyH_ready (rs := [27]) (by kernel_rfl) (by simp) ?_
        refine AllReadyH.cons (o := _) rfl (fun K hK => ?_) AllReadyH.nil
        rw [if_pos (by rfl)]
        refine wp_store_mid _ _ _ rfl r (o + m * 4) #[.int .i64 na, .int .i64 nb, .string ns, .int .i64 nt] rfl rfl HT2.out (by kernel_rfl) (all_oneCell_toArray (cs := [.int .i64 na, .int .i64 nb, .string ns, .int .i64 nt]) (by intro v hv; simp only [List.mem_cons, List.not_mem_nil, or_false] at hv; rcases hv with rfl | rfl | rfl | rfl <;> rfl)) ?_
        refine hK.out _ _ HS2.out (fun hH => ?_)
        clear hK K
        try simp only [Act.put, sqA, sqB, sqC, sqD, sqE, sqF]
        refine wpAnyH_done (by kernel_rfl) ?_ _
        clear hH
        obtain ⟨VZ, hVZ⟩ : ∃ VZ, VZ = (V0.setCells r (o + n * 4) (#[.int .i64 ma, .int .i64 mb, .string ms, .int .i64 mt] : Array Value).toList).setCells r (o + m * 4) (#[.int .i64 na, .int .i64 nb, .string ns, .int .i64 nt] : Array Value).toList := ⟨_, rfl⟩
        rw [← hVZ]
        rw [← hVZ] at HDN
        clear hVZ
        go_wp2_with fail
        go_ret
        exact ⟨by rw [HZ.out.1]; rfl, by rw [HZ.out.2]; exact HDN.out⟩
      · rw [if_pos (by rfl)]
        refine wp_load_mid 35 (.tmp 39) rfl r (o + n * 4) rfl [.int .i64 na, .int .i64 nb, .string ns, .int .i64 nt] _ HRN.out Try.underlying35 (by rfl) (by kernel_rfl) ?_
        refine hK.out _ _ hs0 (fun hH => ?_)
        clear hK K
        try simp only [Act.put, sqA, sqB, sqC, sqD, sqE, sqF]
        refine wpAnyH_ready (rs := [16]) (by kernel_rfl) (by simp) ?_
        refine AllReadyH.cons (o := _) rfl (fun K hK => ?_) AllReadyH.nil
        rw [if_pos (by rfl)]
        refine wp_load_mid 35 (.tmp 32) rfl r (o + m * 4) rfl [.int .i64 ma, .int .i64 mb, .string ms, .int .i64 mt] _ HRM.out Try.underlying35 (by rfl) (by kernel_rfl) ?_
        refine hK.out _ _ hs0 (fun hH => ?_)
        clear hK K
        try simp only [Act.put, sqA, sqB, sqC, sqD, sqE, sqF]
        refine tk 24 hs0 rfl (by kernel_rfl) (fun _ _ _ h => h) (fun V hV => by go_simp; try with_reducible rfl) ?_
        try simp only [Act.put, sqA, sqB, sqC, sqD, sqE, sqF]
        refine wpAnyH_ready (rs := [25]) (by kernel_rfl) (by simp) ?_
        refine AllReadyH.cons (o := _) rfl (fun K hK => ?_) AllReadyH.nil
        rw [if_pos (by rfl)]
        refine wp_store_mid _ _ _ rfl r (o + n * 4) #[.int .i64 ma, .int .i64 mb, .string ms, .int .i64 mt] rfl rfl HT1.out (by kernel_rfl) (all_oneCell_toArray (cs := [.int .i64 ma, .int .i64 mb, .string ms, .int .i64 mt]) (by intro v hv; simp only [List.mem_cons, List.not_mem_nil, or_false] at hv; rcases hv with rfl | rfl | rfl | rfl <;> rfl)) ?_
        refine hK.out _ _ HS1.out (fun hH => ?_)
        clear hK K
        try simp only [Act.put, sqA, sqB, sqC, sqD, sqE, sqF]
        refine tk 26 HS1.out rfl (by kernel_rfl) (fun _ _ _ h => h) (fun V hV => by go_simp; try with_reducible rfl) ?_
        try simp only [Act.put, sqA, sqB, sqC, sqD, sqE, sqF]
        refine wpAnyH_ready (rs := [27]) (by kernel_rfl) (by simp) ?_
        refine AllReadyH.cons (o := _) rfl (fun K hK => ?_) AllReadyH.nil
        rw [if_pos (by rfl)]
        refine wp_store_mid _ _ _ rfl r (o + m * 4) #[.int .i64 na, .int .i64 nb, .string ns, .int .i64 nt] rfl rfl HT2.out (by kernel_rfl) (all_oneCell_toArray (cs := [.int .i64 na, .int .i64 nb, .string ns, .int .i64 nt]) (by intro v hv; simp only [List.mem_cons, List.not_mem_nil, or_false] at hv; rcases hv with rfl | rfl | rfl | rfl <;> rfl)) ?_
        refine hK.out _ _ HS2.out (fun hH => ?_)
        clear hK K
        try simp only [Act.put, sqA, sqB, sqC, sqD, sqE, sqF]
        refine wpAnyH_done (by kernel_rfl) ?_ _
        clear hH
        obtain ⟨VZ, hVZ⟩ : ∃ VZ, VZ = (V0.setCells r (o + n * 4) (#[.int .i64 ma, .int .i64 mb, .string ms, .int .i64 mt] : Array Value).toList).setCells r (o + m * 4) (#[.int .i64 na, .int .i64 nb, .string ns, .int .i64 nt] : Array Value).toList := ⟨_, rfl⟩
        rw [← hVZ]
        rw [← hVZ] at HDN
        clear hVZ
        go_wp2_with fail
        go_ret
        exact ⟨by rw [HZ.out.1]; rfl, by rw [HZ.out.2]; exact HDN.out⟩
end Go.Proofs.Ytldbmdalmhhpfaa
