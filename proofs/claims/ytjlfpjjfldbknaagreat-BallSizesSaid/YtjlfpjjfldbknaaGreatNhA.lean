/- Graphs: what is up. -/
import Derived.Test.YtjlfpjjfldbknaaGreatNgV
import Derived.Test.YtjlfpjjfldbknaaGreatNqA
namespace Go.Proofs.YtjlfpjjfldbknaaGreat
open Go.RowKit Go.Lib Go.Fq Go.Iq Go.Nq Go.Ow
set_option linter.unusedVariables false
set_option linter.unusedSimpArgs false
set_option maxRecDepth 100000

set_option maxHeartbeats 2000000 in
theorem gIsUp_any (ns : List Nd) (na : Option Addr) (nc : Nat) (la : Option Addr) (ln lc : Nat) (x : Int) (w : World) (hin : NodesIn w w.heap.size ns na) (h : NodesP ns) (hn : ns.length < 4611686018427387904) :
    Calls Tryz.prog 69 #[.agg #[.slice na ns.length nc, .slice la ln lc], .int .i64 x] w fun e w' => e = .returned (.bool (upB ns x)) ∧ Below w.heap.size w w' := by
  obtain ⟨W1, hW1⟩ : ∃ W1, W1 = w.alloc (.cells #[.slice na ns.length nc, .slice la ln lc] 25) := ⟨_, rfl⟩
  have hb1 : Below w.heap.size w W1 := by rw [hW1]; exact gAl _ _
  have hs1 : w.heap.size < W1.heap.size := by rw [hW1]; simp
  have hc1 : W1.heap[w.heap.size]? = some (.cells #[.slice na ns.length nc, .slice la ln lc] 25 (0, 0)) := by rw [hW1]; exact heap_alloc_new w _
  have HKG : Hid (∀ V, Below W1.heap.size W1 V → V.cell? ⟨w.heap.size, 0, none⟩ = some (.slice na ns.length nc) ∧ V.cell? ⟨w.heap.size, 1, none⟩ = some (.slice la ln lc)) := Lib.hid (fun V h => by
    have hh := (h.block _ hs1).trans hc1
    exact ⟨by rw [cell_of_row V _ 0 _ _ (0, 0) hh]; rfl, by rw [cell_of_row V _ 1 _ _ (0, 0) hh]; rfl⟩)
  have HB1 := Lib.hid hb1
  have HN : Hid (∀ V, Below W1.heap.size W1 V → NodesIn V V.heap.size ns na) := Lib.hid (fun V hV => hin.kept (fun i hi => (gNx hb1 hV).block i hi) (gNx hb1 hV).size)
  have HF := Lib.hid (gFindNode_any ns na nc la ln lc x W1 (HN.out W1 (Below.refl _ _)) h hn)
  have HU1 : Hid (has ns x = false → upB ns x = false) := Lib.hid (fun e => by rw [upB_at h x, dif_neg (by rw [e]; decide)])
  have HU2 : Hid (∀ hk : Nq.ahead ns x < ns.length, has ns x = true → upB ns x = (ns[Nq.ahead ns x]'hk).up) := Lib.hid (fun hk e => by rw [upB_at h x, dif_pos e])
  have HAT := Lib.hid (has_at h x)
  have HPV := Lib.hid trivial
  obtain ⟨c0, c1⟩ := HKG.out W1 (Below.refl _ _)
  clear hin h hn hb1 hs1 hc1
  go_enter Tryz.func69, Tryz.ntmps69
  go_upto_region 1 with (fail)
  rw [← hW1]
  clear hW1
  go_wp2_with fail
  refine HF.out.mono ?_
  rintro e V1 ⟨rfl, hb2⟩
  have B1 := Lib.hid hb2
  have HNV := Lib.hid (HN.out V1 hb2)
  obtain ⟨d0, d1⟩ := HKG.out V1 hb2
  clear hb2 c0 c1 HF HKG HN
  
  cases hh : has ns x with
  | false =>
    have HUU := Lib.hid (HU1.out hh)
    
    clear HU1 HU2 HAT hh
    go_wp2_with fail
    go_ret
    rw [HUU.out]
    exact ⟨rfl, gNx HB1.out B1.out⟩
  | true =>
    obtain ⟨hk, he⟩ := HAT.out.1 hh
    obtain ⟨b, o, rfl, hb, hc⟩ := HNV.out.at _ hk
    obtain ⟨e0, e1, e2⟩ := hc _ hk
    have HUU := Lib.hid (HU2.out hk hh)
    
    have hki : (Nq.ahead ns x : Int) < (ns.length : Int) := by omega
    have hk0 : (0 : Int) ≤ (Nq.ahead ns x : Int) := by omega
    clear HU1 HU2 HAT hh hc he HNV HPV
    generalize (ns[Nq.ahead ns x]'hk) = nd at *
    clear hk
    generalize Nq.ahead ns x = pos at *
    go_wp2_with fail
    go_ret
    rw [HUU.out]
    exact ⟨by first | rfl | simp, gNx HB1.out B1.out⟩
set_option maxHeartbeats 2000000 in
theorem rUp_any (ns : List Nd) (na : Option Addr) (nc : Nat) (la : Option Addr) (ln lc : Nat) (x : Int) (w : World) (hin : NodesIn w w.heap.size ns na) (h : NodesP ns) (hn : ns.length < 4611686018427387904) :
    Calls Tryz.prog 64 #[.agg #[.slice na ns.length nc, .slice la ln lc], .int .i64 x] w fun e w' => e = .returned (.bool (upB ns x)) ∧ Below w.heap.size w w' := by
  obtain ⟨W1, hW1⟩ : ∃ W1, W1 = w.alloc (.cells #[.slice na ns.length nc, .slice la ln lc] 25) := ⟨_, rfl⟩
  have hb1 : Below w.heap.size w W1 := by rw [hW1]; exact gAl _ _
  have hs1 : w.heap.size < W1.heap.size := by rw [hW1]; simp
  have hc1 : W1.heap[w.heap.size]? = some (.cells #[.slice na ns.length nc, .slice la ln lc] 25 (0, 0)) := by rw [hW1]; exact heap_alloc_new w _
  have HKG : Hid (∀ V, Below W1.heap.size W1 V → V.cell? ⟨w.heap.size, 0, none⟩ = some (.slice na ns.length nc) ∧ V.cell? ⟨w.heap.size, 1, none⟩ = some (.slice la ln lc)) := Lib.hid (fun V h => by
    have hh := (h.block _ hs1).trans hc1
    exact ⟨by rw [cell_of_row V _ 0 _ _ (0, 0) hh]; rfl, by rw [cell_of_row V _ 1 _ _ (0, 0) hh]; rfl⟩)
  have HB1 := Lib.hid hb1
  have HN : Hid (∀ V, Below W1.heap.size W1 V → NodesIn V V.heap.size ns na) := Lib.hid (fun V hV => hin.kept (fun i hi => (gNx hb1 hV).block i hi) (gNx hb1 hV).size)
  have HF := Lib.hid (rPlace_any ns na nc la ln lc x W1 (HN.out W1 (Below.refl _ _)) h hn)
  have HU1 : Hid (has ns x = false → upB ns x = false) := Lib.hid (fun e => by rw [upB_at h x, dif_neg (by rw [e]; decide)])
  have HU2 : Hid (∀ hk : Nq.ahead ns x < ns.length, has ns x = true → upB ns x = (ns[Nq.ahead ns x]'hk).up) := Lib.hid (fun hk e => by rw [upB_at h x, dif_pos e])
  have HAT := Lib.hid (has_at h x)
  have HPV : Hid (placeV ns x = if has ns x then (Nq.ahead ns x : Int) else -1) := Lib.hid rfl
  obtain ⟨c0, c1⟩ := HKG.out W1 (Below.refl _ _)
  clear hin h hn hb1 hs1 hc1
  go_enter Tryz.func64, Tryz.ntmps64
  go_upto_region 1 with (fail)
  rw [← hW1]
  clear hW1
  go_wp2_with fail
  refine HF.out.mono ?_
  rintro e V1 ⟨rfl, hb2⟩
  have B1 := Lib.hid hb2
  have HNV := Lib.hid (HN.out V1 hb2)
  obtain ⟨d0, d1⟩ := HKG.out V1 hb2
  clear hb2 c0 c1 HF HKG HN
  rw [HPV.out]
  cases hh : has ns x with
  | false =>
    have HUU := Lib.hid (HU1.out hh)
    rw [if_neg (by decide)]
    clear HU1 HU2 HAT hh
    go_wp2_with fail
    go_ret
    rw [HUU.out]
    exact ⟨rfl, gNx HB1.out B1.out⟩
  | true =>
    obtain ⟨hk, he⟩ := HAT.out.1 hh
    obtain ⟨b, o, rfl, hb, hc⟩ := HNV.out.at _ hk
    obtain ⟨e0, e1, e2⟩ := hc _ hk
    have HUU := Lib.hid (HU2.out hk hh)
    rw [if_pos rfl]
    have hki : (Nq.ahead ns x : Int) < (ns.length : Int) := by omega
    have hk0 : (0 : Int) ≤ (Nq.ahead ns x : Int) := by omega
    clear HU1 HU2 HAT hh hc he HNV HPV
    generalize (ns[Nq.ahead ns x]'hk) = nd at *
    clear hk
    generalize Nq.ahead ns x = pos at *
    go_wp2_with fail
    go_ret
    rw [HUU.out]
    exact ⟨by first | rfl | simp, gNx HB1.out B1.out⟩
set_option maxHeartbeats 2000000 in
theorem gIsLive_any (ns : List Nd) (na : Option Addr) (nc : Nat) (la : Option Addr) (ln lc : Nat) (y : Lk) (w : World) (hin : NodesIn w w.heap.size ns na) (h : NodesP ns) (hn : ns.length < 4611686018427387904) :
    Calls Tryz.prog 47 #[.agg #[.slice na ns.length nc, .slice la ln lc], .agg #[.int .i64 y.a, .int .i64 y.b, .float .f64 y.w, .bool y.up]] w fun e w' => e = .returned (.bool (liveL ns y)) ∧ Below w.heap.size w w' := by
  obtain ⟨W1, hW1⟩ : ∃ W1, W1 = (w.alloc (.cells #[.slice na ns.length nc, .slice la ln lc] 25)).alloc (.cells #[.int .i64 y.a, .int .i64 y.b, .float .f64 y.w, .bool y.up] 62) := ⟨_, rfl⟩
  have hb1 : Below w.heap.size w W1 := by rw [hW1]; exact (gAl _ _).alloc (by simp) _
  have hs1 : w.heap.size + 1 < W1.heap.size := by rw [hW1]; simp
  have k1 : W1.cell? ⟨w.heap.size, 0, none⟩ = some (.slice na ns.length nc) ∧ W1.cell? ⟨w.heap.size, 1, none⟩ = some (.slice la ln lc) ∧ W1.cell? ⟨w.heap.size + 1, 0, none⟩ = some (.int .i64 y.a) ∧ W1.cell? ⟨w.heap.size + 1, 1, none⟩ = some (.int .i64 y.b) ∧ W1.cell? ⟨w.heap.size + 1, 3, none⟩ = some (.bool y.up) := by rw [hW1]; exact ⟨by simp [go_sem], by simp [go_sem], by simp [go_sem], by simp [go_sem], by simp [go_sem]⟩
  have HKA : Hid (∀ V, Below W1.heap.size W1 V → V.cell? ⟨w.heap.size, 0, none⟩ = some (.slice na ns.length nc) ∧ V.cell? ⟨w.heap.size, 1, none⟩ = some (.slice la ln lc) ∧ V.cell? ⟨w.heap.size + 1, 0, none⟩ = some (.int .i64 y.a) ∧ V.cell? ⟨w.heap.size + 1, 1, none⟩ = some (.int .i64 y.b)) := Lib.hid (fun V h => ⟨(h.cell (p := ⟨w.heap.size, 0, none⟩) (by show w.heap.size < _; omega)).trans k1.1, (h.cell (p := ⟨w.heap.size, 1, none⟩) (by show w.heap.size < _; omega)).trans k1.2.1, (h.cell (p := ⟨w.heap.size + 1, 0, none⟩) hs1).trans k1.2.2.1, (h.cell (p := ⟨w.heap.size + 1, 1, none⟩) hs1).trans k1.2.2.2.1⟩)
  have HT := Lib.hid (fun (x : Int) (V : World) (hb : Below W1.heap.size W1 V) => gIsUp_any ns na nc la ln lc x V (hin.kept (fun i hi => (gNx hb1 hb).block i hi) (gNx hb1 hb).size) h hn)
  have HB1 := Lib.hid hb1
  obtain ⟨c0, c1, c2, c3, c4⟩ := k1
  clear hin h hn hs1 hb1
  have HTa := Lib.hid (HT.out y.a)
  have HTb := Lib.hid (HT.out y.b)
  have HL : Hid (liveL ns y = (y.up && upB ns y.a && upB ns y.b)) := Lib.hid rfl
  rw [HL.out]
  clear HT HL
  generalize upB ns y.a = ha at *
  generalize upB ns y.b = hb at *
  obtain ⟨yu, hyu⟩ : ∃ u, u = y.up := ⟨_, rfl⟩
  rw [← hyu] at c4 hW1 ⊢
  have HYU := Lib.hid hyu
  clear hyu
  cases yu with
  | false =>
    go_enter Tryz.func47, Tryz.ntmps47
    go_upto_region 1 with (fail)
    rw [← hW1]
    clear hW1
    go_wp2_with fail
    go_ret
    exact ⟨rfl, HB1.out⟩
  | true =>
    go_enter Tryz.func47, Tryz.ntmps47
    go_upto_region 1 with (fail)
    rw [← hW1]
    clear hW1
    go_wp2_with fail
    refine (HTa.out _ (Below.refl _ _)).mono ?_
    rintro e V1 ⟨rfl, hb2⟩
    obtain ⟨d0, d1, d2, d3⟩ := HKA.out V1 hb2
    have B1 := Lib.hid hb2
    clear hb2 c0 c1 c2 c3 c4
    cases ha with
    | true =>
      go_wp2_with fail
      refine (HTb.out _ B1.out).mono ?_
      rintro e V2 ⟨rfl, hb2⟩
      have B2 := Lib.hid (gNx B1.out hb2)
      clear hb2
      go_wp2_with fail
      go_ret
      exact ⟨by simp, gNx HB1.out B2.out⟩
    | false =>
      go_wp2_with fail
      go_ret
      exact ⟨by simp, gNx HB1.out B1.out⟩
set_option maxHeartbeats 2000000 in
theorem rIsLive_any (ns : List Nd) (na : Option Addr) (nc : Nat) (la : Option Addr) (ln lc : Nat) (y : Lk) (w : World) (hin : NodesIn w w.heap.size ns na) (h : NodesP ns) (hn : ns.length < 4611686018427387904) :
    Calls Tryz.prog 45 #[.agg #[.slice na ns.length nc, .slice la ln lc], .agg #[.int .i64 y.a, .int .i64 y.b, .float .f64 y.w, .bool y.up]] w fun e w' => e = .returned (.bool (liveL ns y)) ∧ Below w.heap.size w w' := by
  obtain ⟨W1, hW1⟩ : ∃ W1, W1 = (w.alloc (.cells #[.slice na ns.length nc, .slice la ln lc] 25)).alloc (.cells #[.int .i64 y.a, .int .i64 y.b, .float .f64 y.w, .bool y.up] 62) := ⟨_, rfl⟩
  have hb1 : Below w.heap.size w W1 := by rw [hW1]; exact (gAl _ _).alloc (by simp) _
  have hs1 : w.heap.size + 1 < W1.heap.size := by rw [hW1]; simp
  have k1 : W1.cell? ⟨w.heap.size, 0, none⟩ = some (.slice na ns.length nc) ∧ W1.cell? ⟨w.heap.size, 1, none⟩ = some (.slice la ln lc) ∧ W1.cell? ⟨w.heap.size + 1, 0, none⟩ = some (.int .i64 y.a) ∧ W1.cell? ⟨w.heap.size + 1, 1, none⟩ = some (.int .i64 y.b) ∧ W1.cell? ⟨w.heap.size + 1, 3, none⟩ = some (.bool y.up) := by rw [hW1]; exact ⟨by simp [go_sem], by simp [go_sem], by simp [go_sem], by simp [go_sem], by simp [go_sem]⟩
  have HKA : Hid (∀ V, Below W1.heap.size W1 V → V.cell? ⟨w.heap.size, 0, none⟩ = some (.slice na ns.length nc) ∧ V.cell? ⟨w.heap.size, 1, none⟩ = some (.slice la ln lc) ∧ V.cell? ⟨w.heap.size + 1, 0, none⟩ = some (.int .i64 y.a) ∧ V.cell? ⟨w.heap.size + 1, 1, none⟩ = some (.int .i64 y.b)) := Lib.hid (fun V h => ⟨(h.cell (p := ⟨w.heap.size, 0, none⟩) (by show w.heap.size < _; omega)).trans k1.1, (h.cell (p := ⟨w.heap.size, 1, none⟩) (by show w.heap.size < _; omega)).trans k1.2.1, (h.cell (p := ⟨w.heap.size + 1, 0, none⟩) hs1).trans k1.2.2.1, (h.cell (p := ⟨w.heap.size + 1, 1, none⟩) hs1).trans k1.2.2.2.1⟩)
  have HT := Lib.hid (fun (x : Int) (V : World) (hb : Below W1.heap.size W1 V) => rUp_any ns na nc la ln lc x V (hin.kept (fun i hi => (gNx hb1 hb).block i hi) (gNx hb1 hb).size) h hn)
  have HB1 := Lib.hid hb1
  obtain ⟨c0, c1, c2, c3, c4⟩ := k1
  clear hin h hn hs1 hb1
  have HTa := Lib.hid (HT.out y.a)
  have HTb := Lib.hid (HT.out y.b)
  have HL : Hid (liveL ns y = (y.up && upB ns y.a && upB ns y.b)) := Lib.hid rfl
  rw [HL.out]
  clear HT HL
  generalize upB ns y.a = ha at *
  generalize upB ns y.b = hb at *
  obtain ⟨yu, hyu⟩ : ∃ u, u = y.up := ⟨_, rfl⟩
  rw [← hyu] at c4 hW1 ⊢
  have HYU := Lib.hid hyu
  clear hyu
  cases yu with
  | false =>
    go_enter Tryz.func45, Tryz.ntmps45
    go_upto_region 1 with (fail)
    rw [← hW1]
    clear hW1
    go_wp2_with fail
    go_ret
    exact ⟨rfl, HB1.out⟩
  | true =>
    go_enter Tryz.func45, Tryz.ntmps45
    go_upto_region 1 with (fail)
    rw [← hW1]
    clear hW1
    go_wp2_with fail
    refine (HTa.out _ (Below.refl _ _)).mono ?_
    rintro e V1 ⟨rfl, hb2⟩
    obtain ⟨d0, d1, d2, d3⟩ := HKA.out V1 hb2
    have B1 := Lib.hid hb2
    clear hb2 c0 c1 c2 c3 c4
    cases ha with
    | true =>
      go_wp2_with fail
      refine (HTb.out _ B1.out).mono ?_
      rintro e V2 ⟨rfl, hb2⟩
      have B2 := Lib.hid (gNx B1.out hb2)
      clear hb2
      go_wp2_with fail
      go_ret
      exact ⟨by simp, gNx HB1.out B2.out⟩
    | false =>
      go_wp2_with fail
      go_ret
      exact ⟨by simp, gNx HB1.out B1.out⟩
end Go.Proofs.YtjlfpjjfldbknaaGreat
