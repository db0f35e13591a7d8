/- Graphs: Neighbours. -/
import Derived.Test.YtgjpgpjdealbeaaNhG
import Derived.Test.YtgjpgpjdealbeaaNqJ
namespace Go.Proofs.Ytgjpgpjdealbeaa
open Go.RowKit Go.Lib Go.Fq Go.Iq Go.Nq Go.Ow
set_option linter.unusedVariables false
set_option linter.unusedSimpArgs false
set_option maxRecDepth 100000

/-- What Neighbours tells: a row of the call's own, and a number. -/
def NbEnds (w : World) (L : List Lk) (n : Int) (e : Ending) (w' : World) : Prop := ∃ v, e = .returned (.tuple #[v, .int .i64 n]) ∧ Own w' w.heap.size 54 4 v L.length (lkRow L) ∧ (∀ y ∈ L, y.w < 2 ^ 64) ∧ Below w.heap.size w w'
theorem own_nil (w : World) (b : Nat) (T : TypeId) (k : Nat) : Own w b T k (.slice none 0 0) 0 [] := Or.inl ⟨rfl, rfl, none, rfl⟩
set_option maxHeartbeats 8000000 in
theorem gNeighbours_any (G : Gr) (na : Option Addr) (nc : Nat) (la : Option Addr) (lc : Nat) (x : Int) (w : World) (hin : GrIn w G na la) :
    Calls Try.prog 21 #[.agg #[.slice na G.nodes.length nc, .slice la G.links.length lc], .int .i64 x] w fun e w' => NbEnds w (nbL G x) (nbE G x) e w' := by
  have hst := g_storeL
  obtain ⟨W1, hW1⟩ : ∃ W1, W1 = w.alloc (.cells #[.slice na G.nodes.length nc, .slice la G.links.length lc] 25) := ⟨_, rfl⟩
  have hb1 : Below w.heap.size w W1 := by rw [hW1]; exact gAl _ _
  have hs1 : w.heap.size < W1.heap.size := by rw [hW1]; simp
  have hc1 : W1.heap[w.heap.size]? = some (.cells #[.slice na G.nodes.length nc, .slice la G.links.length lc] 25 (0, 0)) := by rw [hW1]; exact heap_alloc_new w _
  have HKG : Hid (∀ V, Below W1.heap.size W1 V → V.cell? ⟨w.heap.size, 0, none⟩ = some (.slice na G.nodes.length nc) ∧ V.cell? ⟨w.heap.size, 1, none⟩ = some (.slice la G.links.length lc)) := Lib.hid (fun V h => by
    have hh := (h.block _ hs1).trans hc1
    exact ⟨by rw [cell_of_row V _ 0 _ _ (0, 0) hh]; rfl, by rw [cell_of_row V _ 1 _ _ (0, 0) hh]; rfl⟩)
  have HB1 := Lib.hid hb1
  have HS1 := Lib.hid (Nat.le_of_lt hs1)
  have HIN : Hid (∀ V, Below W1.heap.size W1 V → GrIn V G na la) := Lib.hid (fun V hV => hin.below (gNx hb1 hV))
  have HQ := Lib.hid hin.wts
  have HSZ : Hid (G.nodes.length * 16 ≤ 140737488351232 ∧ G.links.length * 32 ≤ 140737488351232) := Lib.hid ⟨hin.n1, hin.l1⟩
  obtain ⟨g0, g1⟩ := HKG.out W1 (Below.refl _ _)
  clear hin hb1 hs1 hc1
  by_cases hz : checkG G = 0
  case neg =>
    have HP : Hid (nbE G x = checkG G ∧ nbL G x = []) := Lib.hid ⟨nbE_no hz x, nbL_no (by rw [nbE_no hz]; exact hz)⟩
    obtain ⟨ce, hce⟩ : ∃ ce, ce = checkG G := ⟨_, rfl⟩
    have hz2 : (ce != 0) = true := by rw [hce]; simpa using hz
    have HCE := Lib.hid hce
    clear hz hce
    go_enter Try.func21, Try.ntmps21
    go_upto_region 1 with (fail)
    rw [← hW1]
    clear hW1
    go_wp2_with fail
    refine (gCheck_any G na la nc lc W1 (HIN.out W1 (Below.refl _ _)).nodes (HIN.out W1 (Below.refl _ _)).links HQ.out (by have := HSZ.out; omega) (by have := HSZ.out; omega)).mono ?_
    rintro e V1 ⟨rfl, hb⟩
    have B1 := Lib.hid hb
    clear hb g0 g1
    obtain ⟨g0, g1⟩ := HKG.out V1 B1.out
    rw [← HCE.out]
    go_wp2_with fail
    refine bodyPost_ret (results_tmp2 Try.results21 _ _ _) rfl ?_
    rw [HP.out.1, HP.out.2, ← HCE.out]
    exact ⟨_, rfl, own_nil _ _ _ _, (fun y hy => by cases hy), gNx HB1.out B1.out⟩
  case pos =>
    have HCK := Lib.hid hz
    have hnp := (check_zero.1 hz).2.2.1
    have HNP := Lib.hid hnp
    clear hz hnp
    cases hh : has G.nodes x with
    | false =>
      have HP : Hid (nbE G x = 4 ∧ nbL G x = []) := Lib.hid ⟨nbE_miss HCK.out hh, nbL_no (by rw [nbE_miss HCK.out hh]; decide)⟩
      have HH := Lib.hid hh
      clear hh
      go_enter Try.func21, Try.ntmps21
      go_upto_region 1 with (fail)
      rw [← hW1]
      clear hW1
      go_wp2_with fail
      refine (gCheck_any G na la nc lc W1 (HIN.out W1 (Below.refl _ _)).nodes (HIN.out W1 (Below.refl _ _)).links HQ.out (by have := HSZ.out; omega) (by have := HSZ.out; omega)).mono ?_
      rintro e V1 ⟨rfl, hb⟩
      have B1 := Lib.hid hb
      clear hb g0 g1
      obtain ⟨g0, g1⟩ := HKG.out V1 B1.out
      rw [HCK.out]
      go_wp2_with fail
      refine (gIsThere_any G.nodes na nc la G.links.length lc x V1 (HIN.out V1 B1.out).nodes HNP.out (by have := HSZ.out; omega)).mono ?_
      rintro e V2 ⟨rfl, hb⟩
      rw [HH.out]
      have B2 := Lib.hid (gNx B1.out hb)
      clear hb g0 g1
      go_wp2_with fail
      refine bodyPost_ret (results_tmp2 Try.results21 _ _ _) rfl ?_
      rw [HP.out.1, HP.out.2]
      exact ⟨_, rfl, own_nil _ _ _ _, (fun y hy => by cases hy), gNx HB1.out B2.out⟩
    | true =>
      have HP : Hid (nbE G x = 0 ∧ nbL G x = G.links.filter (nbP G x)) := Lib.hid ⟨nbE_ok HCK.out hh, by rw [nbL_ok (nbE_ok HCK.out hh)]; rfl⟩
      have HH := Lib.hid hh
      clear hh
      go_enter Try.func21, Try.ntmps21
      go_upto_region 1 with (fail)
      rw [← hW1]
      clear hW1
      go_wp2_with fail
      refine (gCheck_any G na la nc lc W1 (HIN.out W1 (Below.refl _ _)).nodes (HIN.out W1 (Below.refl _ _)).links HQ.out (by have := HSZ.out; omega) (by have := HSZ.out; omega)).mono ?_
      rintro e V1 ⟨rfl, hb⟩
      have B1 := Lib.hid hb
      clear hb g0 g1
      obtain ⟨g0, g1⟩ := HKG.out V1 B1.out
      rw [HCK.out]
      go_wp2_with fail
      refine (gIsThere_any G.nodes na nc la G.links.length lc x V1 (HIN.out V1 B1.out).nodes HNP.out (by have := HSZ.out; omega)).mono ?_
      rintro e V2 ⟨rfl, hb⟩
      rw [HH.out]
      have B2 := Lib.hid (gNx B1.out hb)
      clear hb g0 g1
      obtain ⟨g0, g1⟩ := HKG.out V2 B2.out
      go_wp2_with fail
      clear g0 g1
      go_loopw [7, 22] (fun u v wr => ∃ k : Nat, v = .int .i64 (k : Int) ∧ k ≤ G.links.length ∧ Own wr W1.heap.size 54 4 u ((G.links.take k).filter (nbP G x)).length (lkRow ((G.links.take k).filter (nbP G x))) ∧ Below W1.heap.size W1 wr) (fun _ v _ => G.links.length - (RowKit.intOf v).toNat)
      case atStart => exact ⟨0, rfl, by omega, own_nil _ _ _ _, B2.out⟩
      case round =>
        obtain ⟨k, rfl, hk, how, hbel⟩ := hrel
        by_cases hlt : k < G.links.length
        · have hlti : (k : Int) < (G.links.length : Int) := by omega
          have hk0 : (0 : Int) ≤ (k : Int) := by omega
          have hkw : IntKind.i64.wrap ((k : Int) + 1) = (k : Int) + 1 := by rw [IntKind.wrap_i64]; have := HSZ.out; omega
          obtain ⟨b, o, rfl, hb, hc⟩ := (HIN.out wr hbel).links.at k hlt
          obtain ⟨c0, c1, c2, c3⟩ := hc k hlt
          have HFI := Lib.hid (filter_go (nbP G x) G.links k hlt)
          have HFIT : Hid ((((G.links.take k).filter (nbP G x)).length + 1) * 32 ≤ 140737488355328) := Lib.hid (by have := filter_le (nbP G x) G.links k; have := HSZ.out; omega)
          have HOW := Lib.hid how
          have HBEL := Lib.hid hbel
          clear hc how hbel hb
          generalize G.links[k] = y at *
          generalize (G.links.take k).filter (nbP G x) = L at *
          obtain ⟨ua, uc, rfl⟩ := HOW.out.slice
          obtain ⟨W4, hW4⟩ : ∃ W4, W4 = wr.alloc (.cells #[.int .i64 y.a, .int .i64 y.b, .float .f64 y.w, .bool y.up] 54) := ⟨_, rfl⟩
          have b4 : Below wr.heap.size wr W4 := by rw [hW4]; exact gAl _ _
          have r4 : W4.heap[wr.heap.size]? = some (.cells #[.int .i64 y.a, .int .i64 y.b, .float .f64 y.w, .bool y.up] 54 (0, 0)) := by rw [hW4]; exact heap_alloc_new wr _
          have s4 : wr.heap.size < W4.heap.size := by rw [hW4]; simp
          have HB4 := Lib.hid b4
          have HR4 : Hid (∀ V, Below W4.heap.size W4 V → V.heap[wr.heap.size]? = some (.cells #[.int .i64 y.a, .int .i64 y.b, .float .f64 y.w, .bool y.up] 54 (0, 0))) := Lib.hid (fun V hV => (hV.block _ s4).trans r4)
          go_upto_region 10 with (fail)
          rw [← hW4]
          clear hW4 c0 c1 c2 c3 b4 s4 r4
          by_cases ha : y.a = x
          · have ha2 : (y.a == x) = true := by simpa using ha
            have HPP : Hid (nbP G x y = liveL G.nodes y) := Lib.hid (by unfold nbP; rw [ha2]; simp)
            clear ha
            obtain ⟨g0, g1⟩ := HKG.out W4 (gNx HBEL.out HB4.out)
            obtain ⟨c0, c1, c2, c3⟩ := cells_four (HR4.out W4 (Below.refl _ _))
            go_wp2_with fail
            refine (gIsLive_any G.nodes na nc (some ⟨b, o, none⟩) G.links.length lc y W4 (HIN.out W4 (gNx HBEL.out HB4.out)).nodes HNP.out (by have := HSZ.out; omega)).mono ?_
            rintro e V5 ⟨rfl, hb⟩
            have HB5 := Lib.hid (gNx HB4.out hb)
            have hr5 := HR4.out V5 hb
            clear hb g0 g1 c0 c1 c2 c3
            cases hv : liveL G.nodes y with
            | false =>
              have HX := Lib.hid (HFI.out.trans (if_neg (by rw [HPP.out, hv]; exact Bool.false_ne_true)))
              clear HFI hv hr5
              go_wp2_with fail
              refine ⟨⟨k + 1, by simp, by omega, by rw [HX.out]; exact HOW.out.below HB5.out, gNx HBEL.out HB5.out⟩, ?_⟩
              simp [RowKit.intOf]; omega
            | true =>
              have HX := Lib.hid (HFI.out.trans (if_pos (by rw [HPP.out, hv])))
              clear HFI hv
              obtain ⟨c0, c1, c2, c3⟩ := cells_four hr5
              obtain ⟨v6, V6, hrun, ho, hw⟩ := own_append (P := Try.prog) Try.underlying23 lkInfo rfl (HOW.out.below (gNx HB5.out (gAl V5 (.cells #[.int .i64 y.a, .int .i64 y.b, .float .f64 y.w, .bool y.up] 54)))) (Nat.le_trans HBEL.out.size (Nat.le_trans HB5.out.size (gAl V5 (.cells #[.int .i64 y.a, .int .i64 y.b, .float .f64 y.w, .bool y.up] 54)).size)) (vb := V5.heap.size) (heap_alloc_new V5 (.cells #[.int .i64 y.a, .int .i64 y.b, .float .f64 y.w, .bool y.up] 54)) rfl (lkC_one y) HFIT.out (by have := HFIT.out; omega)
              have HR := Lib.hid hrun
              have HO6 := Lib.hid ho
              have HB6 := Lib.hid (hw.below (Nat.le_trans HBEL.out.size (Nat.le_trans HB5.out.size (gAl V5 (.cells #[.int .i64 y.a, .int .i64 y.b, .float .f64 y.w, .bool y.up] 54)).size)))
              clear hrun ho hw hr5
              go_wp2_with (at_builtin; refine Lib.wpList_append_run _ rfl _ _ _ _ rfl _ _ rfl rfl _ _ (HR.out _) ?_)
              refine ⟨⟨k + 1, by simp, by omega, by rw [HX.out, lkRow_snoc', List.length_append]; exact HO6.out, (HBEL.out.trans ((gNx HB5.out (gAl V5 (.cells #[.int .i64 y.a, .int .i64 y.b, .float .f64 y.w, .bool y.up] 54))).mono HBEL.out.size)).trans HB6.out⟩, ?_⟩
              simp [RowKit.intOf]; omega
          · have ha2 : (y.a == x) = false := by simpa using ha
            by_cases hbx : y.b = x
            · have hb2 : (y.b == x) = true := by simpa using hbx
              have HPP : Hid (nbP G x y = liveL G.nodes y) := Lib.hid (by unfold nbP; rw [ha2, hb2]; simp)
              clear ha hbx
              obtain ⟨g0, g1⟩ := HKG.out W4 (gNx HBEL.out HB4.out)
              obtain ⟨c0, c1, c2, c3⟩ := cells_four (HR4.out W4 (Below.refl _ _))
              go_wp2_with fail
              refine (gIsLive_any G.nodes na nc (some ⟨b, o, none⟩) G.links.length lc y W4 (HIN.out W4 (gNx HBEL.out HB4.out)).nodes HNP.out (by have := HSZ.out; omega)).mono ?_
              rintro e V5 ⟨rfl, hb⟩
              have HB5 := Lib.hid (gNx HB4.out hb)
              have hr5 := HR4.out V5 hb
              clear hb g0 g1 c0 c1 c2 c3
              cases hv : liveL G.nodes y with
              | false =>
                have HX := Lib.hid (HFI.out.trans (if_neg (by rw [HPP.out, hv]; exact Bool.false_ne_true)))
                clear HFI hv hr5
                go_wp2_with fail
                refine ⟨⟨k + 1, by simp, by omega, by rw [HX.out]; exact HOW.out.below HB5.out, gNx HBEL.out HB5.out⟩, ?_⟩
                simp [RowKit.intOf]; omega
              | true =>
                have HX := Lib.hid (HFI.out.trans (if_pos (by rw [HPP.out, hv])))
                clear HFI hv
                obtain ⟨c0, c1, c2, c3⟩ := cells_four hr5
                obtain ⟨v6, V6, hrun, ho, hw⟩ := own_append (P := Try.prog) Try.underlying23 lkInfo rfl (HOW.out.below (gNx HB5.out (gAl V5 (.cells #[.int .i64 y.a, .int .i64 y.b, .float .f64 y.w, .bool y.up] 54)))) (Nat.le_trans HBEL.out.size (Nat.le_trans HB5.out.size (gAl V5 (.cells #[.int .i64 y.a, .int .i64 y.b, .float .f64 y.w, .bool y.up] 54)).size)) (vb := V5.heap.size) (heap_alloc_new V5 (.cells #[.int .i64 y.a, .int .i64 y.b, .float .f64 y.w, .bool y.up] 54)) rfl (lkC_one y) HFIT.out (by have := HFIT.out; omega)
                have HR := Lib.hid hrun
                have HO6 := Lib.hid ho
                have HB6 := Lib.hid (hw.below (Nat.le_trans HBEL.out.size (Nat.le_trans HB5.out.size (gAl V5 (.cells #[.int .i64 y.a, .int .i64 y.b, .float .f64 y.w, .bool y.up] 54)).size)))
                clear hrun ho hw hr5
                go_wp2_with (at_builtin; refine Lib.wpList_append_run _ rfl _ _ _ _ rfl _ _ rfl rfl _ _ (HR.out _) ?_)
                refine ⟨⟨k + 1, by simp, by omega, by rw [HX.out, lkRow_snoc', List.length_append]; exact HO6.out, (HBEL.out.trans ((gNx HB5.out (gAl V5 (.cells #[.int .i64 y.a, .int .i64 y.b, .float .f64 y.w, .bool y.up] 54))).mono HBEL.out.size)).trans HB6.out⟩, ?_⟩
                simp [RowKit.intOf]; omega
            · have hb2 : (y.b == x) = false := by simpa using hbx
              have HX := Lib.hid (HFI.out.trans (if_neg (by unfold nbP; rw [ha2, hb2]; exact Bool.false_ne_true)))
              clear ha hbx HFI
              obtain ⟨c0, c1, c2, c3⟩ := cells_four (HR4.out W4 (Below.refl _ _))
              go_wp2_with fail
              refine ⟨⟨k + 1, by simp, by omega, by rw [HX.out]; exact HOW.out.below HB4.out, gNx HBEL.out HB4.out⟩, ?_⟩
              simp [RowKit.intOf]; omega
        · have hnk : ¬ (k : Int) < (G.links.length : Int) := by omega
          have htk : G.links.take k = G.links := List.take_of_length_le (by omega)
          rw [htk] at how
          have HOW := Lib.hid (how.mono HS1.out)
          have HBEL := Lib.hid hbel
          clear hlt htk how hbel
          go_wp2_with fail
          refine bodyPost_ret (results_tmp2 Try.results21 _ _ _) rfl ?_
          rw [HP.out.1, HP.out.2]
          exact ⟨_, rfl, HOW.out, fun y hy => HQ.out y (List.mem_filter.1 hy).1, gNx HB1.out HBEL.out⟩
end Go.Proofs.Ytgjpgpjdealbeaa
