/- Paths: netFor. -/
import Derived.Test.YtomcnaghdfhkkaaPtI
import Derived.Test.YtomcnaghdfhkkaaIqS
namespace Go.Proofs.Ytomcnaghdfhkkaa
open Go.RowKit Go.Lib Go.Fq Go.Pq Go.Iq Go.Nq Go.Ow
set_option linter.unusedVariables false
set_option linter.unusedSimpArgs false
set_option maxRecDepth 100000

/-- Why nothing can be told: 0, or an error. -/
def askE (G : Gr) (max : Nat) (ids : List Int) : Int := if limitF max ≠ 0 then limitF max else if checkG G ≠ 0 then checkG G else if ids.all (has G.nodes) = true then 0 else 4
theorem askE_limit {G : Gr} {max : Nat} {ids : List Int} (h : limitF max ≠ 0) : askE G max ids = limitF max := if_pos h
theorem askE_check {G : Gr} {max : Nat} {ids : List Int} (h : limitF max = 0) (h2 : checkG G ≠ 0) : askE G max ids = checkG G := by unfold askE; rw [if_neg (by simpa using h), if_pos h2]
theorem askE_none {G : Gr} {max : Nat} {ids : List Int} (h : limitF max = 0) (h2 : checkG G = 0) (h3 : ids.all (has G.nodes) = false) : askE G max ids = 4 := by unfold askE; rw [if_neg (by simpa using h), if_neg (by simpa using h2), h3]; rfl
theorem askE_ok {G : Gr} {max : Nat} {ids : List Int} (h : limitF max = 0) (h2 : checkG G = 0) (h3 : ids.all (has G.nodes) = true) : askE G max ids = 0 := by unfold askE; rw [if_neg (by simpa using h), if_neg (by simpa using h2), h3]; rfl
theorem askE_zero {G : Gr} {max : Nat} {ids : List Int} (h : askE G max ids = 0) : limitF max = 0 ∧ checkG G = 0 ∧ ids.all (has G.nodes) = true := by
  unfold askE at h
  split at h
  · rename_i g; exact absurd h g
  · rename_i g
    split at h
    · rename_i g2; exact absurd h g2
    · rename_i g2
      split at h
      · rename_i g3; exact ⟨by simpa using g, by simpa using g2, g3⟩
      · cases h
/-- What netFor tells. -/
def NetForEnds (w : World) (G : Gr) (na : Option Addr) (nc : Nat) (E : Int) (e : Ending) (w' : World) : Prop :=
  (E ≠ 0 ∧ e = .returned (.tuple #[.agg #[.slice none 0 0, .slice none 0 0], .int .i64 E]) ∧ Below w.heap.size w w') ∨
  (E = 0 ∧ ∃ rb c, e = .returned (.tuple #[.agg #[.slice na G.nodes.length nc, .slice (some ⟨rb, 0, none⟩) G.nodes.length c], .int .i64 0]) ∧ RdsIn w' w.heap.size w'.heap.size (netL G.nodes (liveG G).links) (.slice (some ⟨rb, 0, none⟩) G.nodes.length c) ∧ Below w.heap.size w w')
theorem two_cells {w : World} {b : Nat} {x y : Value} {t : TypeId} (h : w.heap[b]? = some (.cells #[x, y] t (0, 0))) : w.cell? ⟨b, 0, none⟩ = some x ∧ w.cell? ⟨b, 1, none⟩ = some y ∧ w.frozen? ⟨b, 0, none⟩ = false ∧ w.frozen? ⟨b, 1, none⟩ = false :=
  ⟨by rw [cell_of_row w b 0 _ _ (0, 0) h]; rfl, by rw [cell_of_row w b 1 _ _ (0, 0) h]; rfl, frozen_of_row w b 0 _ _ h, frozen_of_row w b 1 _ _ h⟩
theorem two_range {w : World} {b : Nat} {x y : Value} {t : TypeId} (h : w.heap[b]? = some (.cells #[x, y] t (0, 0))) : w.rangeAt b 0 [x, y] := by
  intro j v hj
  rw [cell_of_row w b _ _ _ (0, 0) h]
  simpa using hj
set_option maxHeartbeats 16000000 in
theorem netFor_any (G : Gr) (na : Option Addr) (nc : Nat) (la : Option Addr) (lc : Nat) (max : Nat) (ia : Option Addr) (ic : Nat) (ids : List Int) (w : World) (hin : GrIn w G na la) (hm : max < 2 ^ 64) (hids : IsInts w ia ids.length ids) (hil : ids.length < 1048576) :
    Calls Try.prog 31 #[.agg #[.slice na G.nodes.length nc, .slice la G.links.length lc], .float .f64 max, .slice ia ids.length ic] w fun e w' => NetForEnds w G na nc (askE G max ids) e w' := by
  have hst := g_storeL
  obtain ⟨W1, hW1⟩ : ∃ W1, W1 = w.alloc (.cells #[.slice na G.nodes.length nc, .slice la G.links.length lc] 25) := ⟨_, rfl⟩
  obtain ⟨W2, hW2⟩ : ∃ W2, W2 = W1.alloc (.cells #[.slice none 0 0, .slice none 0 0] 63) := ⟨_, rfl⟩
  have b1 : Below w.heap.size w W1 := by rw [hW1]; exact gAl _ _
  have b2 : Below W1.heap.size W1 W2 := by rw [hW2]; exact gAl _ _
  have s1 : W1.heap.size = w.heap.size + 1 := by rw [hW1]; simp
  have s2 : W2.heap.size = W1.heap.size + 1 := by rw [hW2]; simp
  have r1 : W1.heap[w.heap.size]? = some (.cells #[.slice na G.nodes.length nc, .slice la G.links.length lc] 25 (0, 0)) := by rw [hW1]; exact heap_alloc_new w _
  have r2 : W2.heap[W1.heap.size]? = some (.cells #[.slice none 0 0, .slice none 0 0] 63 (0, 0)) := by rw [hW2]; exact heap_alloc_new W1 _
  have hb2 : Below w.heap.size w W2 := gNx b1 b2
  have q1 : W2.heap[w.heap.size]? = some (.cells #[.slice na G.nodes.length nc, .slice la G.links.length lc] 25 (0, 0)) := (b2.block _ (by omega)).trans r1
  obtain ⟨br, hbr⟩ : ∃ br, br = W1.heap.size := ⟨_, rfl⟩
  have HBR : Hid (br < W2.heap.size ∧ w.heap.size ≤ br ∧ br ≠ w.heap.size ∧ w.heap.size < W2.heap.size) := Lib.hid (by omega)
  have HKG : Hid (∀ V, Below W2.heap.size W2 V → V.cell? ⟨w.heap.size, 0, none⟩ = some (.slice na G.nodes.length nc) ∧ V.cell? ⟨w.heap.size, 1, none⟩ = some (.slice la G.links.length lc)) := Lib.hid (fun V hV => by
    have := (hV.block w.heap.size (by omega)).trans q1
    exact ⟨by rw [cell_of_row V _ 0 _ _ (0, 0) this]; rfl, by rw [cell_of_row V _ 1 _ _ (0, 0) this]; rfl⟩)
  have HRS : Hid (∀ V, Below W2.heap.size W2 V → V.heap[br]? = some (.cells #[.slice none 0 0, .slice none 0 0] 63 (0, 0))) := Lib.hid (fun V hV => by rw [hbr]; exact (hV.block _ (by omega)).trans r2)
  have HWB : Hid (∀ V, Below W2.heap.size W2 V → Below w.heap.size w V) := Lib.hid (fun V hV => gNx hb2 hV)
  have HG2 : Hid (∀ V, Below W2.heap.size W2 V → GrIn V G na la) := Lib.hid (fun V hV => hin.below (gNx hb2 hV))
  have HII : Hid (∀ V, Below W2.heap.size W2 V → IsInts V ia ids.length ids) := Lib.hid (fun V hV => hids.below (gNx hb2 hV))
  have HIL := Lib.hid hil
  have HLM := Lib.hid (limit_any max W2 hm)
  have HBRS : Hid (br < W2.heap.size) := Lib.hid HBR.out.1
  clear hin b1 b2 r1 r2 q1 hb2 hids hil hm
  by_cases hlz : limitF max = 0
  case neg =>
    have HE := Lib.hid (askE_limit (G := G) (ids := ids) hlz)
    have HNZ := Lib.hid hlz
    have hlz2 : (limitF max != 0) = true := by simpa using hlz
    obtain ⟨le, hle⟩ : ∃ le, le = limitF max := ⟨_, rfl⟩
    rw [← hle] at HE hlz2 HLM HNZ
    rw [HE.out]
    clear hlz hle
    go_enter Try.func31, Try.ntmps31
    go_upto_region 1 with (fail)
    rw [← hW1, ← hW2, ← s1, ← hbr]
    clear hW1 hW2 s1 s2 hbr
    obtain ⟨x0, x1, x2, x3⟩ := two_cells (HRS.out W2 (Below.refl _ _))
    go_wp2_with (go_at_call 56; refine HLM.out.mono ?_; rintro e w' ⟨rfl, rfl⟩)
    have hq1 := heap_setCell_same W2 br 0 _ _ (.slice none 0 0) (HRS.out W2 (Below.refl _ _))
    have hq2 := heap_setCell_same _ br 1 _ _ (.slice none 0 0) hq1
    refine bodyPost_ret (results_cell2 Try.results31 _ _ br 0 [.slice none 0 0, .slice none 0 0] _ rfl (two_range hq2) Try.underlying63 (by rfl) (by kernel_rfl)) rfl ?_
    exact Or.inl ⟨HNZ.out, rfl, ((HWB.out W2 (Below.refl _ _)).setCell (p := ⟨br, 0, none⟩) HBR.out.2.1 _).setCell (p := ⟨br, 1, none⟩) HBR.out.2.1 _⟩
  case pos =>
    rw [hlz] at HLM
    have HLZ := Lib.hid hlz
    clear hlz
    by_cases hz : checkG G = 0
    case neg =>
      have HE := Lib.hid (askE_check (ids := ids) HLZ.out hz)
      have HNZ := Lib.hid hz
      have HNO := Lib.hid (netOf_any G na nc la lc W2 (HG2.out W2 (Below.refl _ _)))
      have hz2 : (checkG G != 0) = true := by simpa using hz
      rw [HE.out]
      obtain ⟨ce, hce⟩ : ∃ ce, ce = checkG G := ⟨_, rfl⟩
      have HCE := Lib.hid hce
      rw [← hce] at hz2 HNZ ⊢
      clear hz hce HE
      go_enter Try.func31, Try.ntmps31
      go_upto_region 1 with (fail)
      rw [← hW1, ← hW2, ← s1, ← hbr]
      clear hW1 hW2 s1 s2 hbr
      obtain ⟨g0, g1⟩ := HKG.out W2 (Below.refl _ _)
      go_wp2_with (go_at_call 56; refine HLM.out.mono ?_; rintro e w' ⟨rfl, rfl⟩)
      refine HNO.out.mono ?_
      rintro e w3 (⟨-, rfl, hb3⟩ | ⟨hc, -⟩)
      case inr => exact absurd (HCE.out.trans hc) HNZ.out
      rw [← HCE.out]
      have HB3 := Lib.hid hb3
      obtain ⟨x0, x1, x2, x3⟩ := two_cells (HRS.out w3 hb3)
      have hs3 : br < w3.heap.size := Nat.lt_of_lt_of_le HBR.out.1 hb3.size
      have HS3 := Lib.hid hs3
      clear hb3 g0 g1
      go_wp2_with fail
      have hq1 := heap_setCell_same w3 br 0 _ _ (.slice none 0 0) (HRS.out w3 HB3.out)
      have hq2 := heap_setCell_same _ br 1 _ _ (.slice none 0 0) hq1
      have hbel := ((HWB.out w3 HB3.out).setCell (p := ⟨br, 0, none⟩) HBR.out.2.1 (.slice none 0 0)).setCell (p := ⟨br, 1, none⟩) HBR.out.2.1 (.slice none 0 0)
      have hq3 := ((gAl _ (.cells #[.slice none 0 0, .slice none 0 0] 63)).block br (Array.getElem?_eq_some_iff.1 hq2).1).trans hq2
      refine bodyPost_ret (results_cell2 Try.results31 _ _ br 0 [.slice none 0 0, .slice none 0 0] _ rfl (two_range hq3) Try.underlying63 (by rfl) (by kernel_rfl)) rfl ?_
      exact Or.inl ⟨HNZ.out, rfl, hbel.alloc hbel.size _⟩
    case pos =>
      have HZ := Lib.hid hz
      have hnp := (check_zero.1 hz).2.2.1
      have HNP := Lib.hid hnp
      have HNL : Hid (G.nodes.length ≤ 256) := Lib.hid (check_zero.1 hz).1
      have HNO := Lib.hid (netOf_any G na nc la lc W2 (HG2.out W2 (Below.refl _ _)))
      clear hz hnp
      go_enter Try.func31, Try.ntmps31
      go_upto_region 1 with (fail)
      rw [← hW1, ← hW2, ← s1, ← hbr]
      clear hW1 hW2 s1 s2 hbr
      obtain ⟨g0, g1⟩ := HKG.out W2 (Below.refl _ _)
      go_wp2_with (go_at_call 56; refine HLM.out.mono ?_; rintro e w' ⟨rfl, rfl⟩)
      refine HNO.out.mono ?_
      rintro e w3 (⟨hc, -⟩ | ⟨-, rv, rfl, -, hrd, hb3⟩)
      case inl => exact absurd HZ.out hc
      obtain ⟨rb, rc, hrv, hrb, hrow⟩ := hrd
      subst hrv
      have hnl := netL_len G.nodes (liveG G).links
      have HRD : Hid (RdsIn w3 W2.heap.size w3.heap.size (netL G.nodes (liveG G).links) (.slice (some ⟨rb, 0, none⟩) G.nodes.length rc)) := Lib.hid ⟨rb, rc, by rw [hnl], hrb, hrow⟩
      have HB3 := Lib.hid hb3
      rw [hnl]
      clear hb3 hrb hrow hnl g0 g1
      obtain ⟨W4, hW4⟩ : ∃ W4, W4 = w3.alloc (.cells #[.slice na G.nodes.length nc, .slice (some ⟨rb, 0, none⟩) G.nodes.length rc] 63) := ⟨_, rfl⟩
      have hb4 : Below w3.heap.size w3 W4 := by rw [hW4]; exact gAl _ _
      have HB4 : Hid (Below W2.heap.size W2 W4) := Lib.hid (gNx HB3.out hb4)
      have HRD4 : Hid (∀ V, Below W4.heap.size W4 V → RdsIn V W2.heap.size V.heap.size (netL G.nodes (liveG G).links) (.slice (some ⟨rb, 0, none⟩) G.nodes.length rc)) := Lib.hid (fun V hV => (HRD.out.below hb4).below hV)
      have r4 : W4.heap[w3.heap.size]? = some (.cells #[.slice na G.nodes.length nc, .slice (some ⟨rb, 0, none⟩) G.nodes.length rc] 63 (0, 0)) := by rw [hW4]; exact heap_alloc_new w3 _
      obtain ⟨nb, hnb⟩ : ∃ nb, nb = w3.heap.size := ⟨_, rfl⟩
      rw [← hnb] at r4
      have hs4 : nb < W4.heap.size := (Array.getElem?_eq_some_iff.1 r4).1
      have HNB : Hid (∀ V, Below W4.heap.size W4 V → V.heap[nb]? = some (.cells #[.slice na G.nodes.length nc, .slice (some ⟨rb, 0, none⟩) G.nodes.length rc] 63 (0, 0))) := Lib.hid (fun V hV => (hV.block nb hs4).trans r4)
      go_upto_region 7 with (fail)
      rw [← hW4, ← hnb]
      clear hW4 hnb hb4 r4 hs4
      go_wp2_with fail
      go_loopw [32] (fun v wr => ∃ k : Nat, v = .int .i64 (k : Int) ∧ k ≤ ids.length ∧ (ids.take k).all (has G.nodes) = true ∧ Below W4.heap.size W4 wr) (fun v _ => ids.length - (RowKit.intOf v).toNat)
      case atStart => exact ⟨0, rfl, Nat.zero_le _, rfl, Below.refl _ _⟩
      case round =>
        obtain ⟨k, rfl, hk, hall, hbel⟩ := hrel
        have HBE := Lib.hid hbel
        have HALL := Lib.hid hall
        clear hbel hall
        by_cases hlt : k < ids.length
        · have hlti : (k : Int) < (ids.length : Int) := by omega
          have hk0 : (0 : Int) ≤ (k : Int) := by omega
          have hkw : IntKind.i64.wrap ((k : Int) + 1) = (k : Int) + 1 := by rw [IntKind.wrap_i64]; have := HIL.out; omega
          obtain ⟨b, off, rfl, hc⟩ := (HII.out wr (gNx HB4.out HBE.out)).2 (by omega)
          have c0 := hc k hlt
          have hgd : ids.getD k 0 = ids[k] := by simp [List.getD_eq_getElem?_getD, hlt]
          rw [hgd] at c0
          have HTK : Hid ((ids.take (k + 1)).all (has G.nodes) = (has G.nodes ids[k])) := Lib.hid (by
            rw [List.take_add_one, List.getElem?_eq_getElem hlt, List.all_append, HALL.out]
            simp)
          have HNA : Hid (has G.nodes ids[k] = false → ids.all (has G.nodes) = false) := Lib.hid (fun h => by
            cases hq : ids.all (has G.nodes) with
            | false => rfl
            | true => rw [List.all_eq_true.1 hq _ (List.getElem_mem hlt)] at h; cases h)
          generalize ids[k] = x at *
          clear hc hgd
          obtain ⟨m0, m1, -, -⟩ := two_cells (HNB.out wr HBE.out)
          go_wp2_with fail
          refine (pPlace_any G.nodes na nc (.slice (some ⟨rb, 0, none⟩) G.nodes.length rc) x wr (HG2.out wr (gNx HB4.out HBE.out)).nodes HNP.out (by have := HNL.out; omega) rfl).mono ?_
          rintro e w5 ⟨rfl, hb5⟩
          have HB5 := Lib.hid (gNx HBE.out hb5)
          clear hb5 m0 m1 c0
          cases hx : has G.nodes x with
          | true =>
            have HX := Lib.hid (HTK.out.trans hx)
            clear hx
            go_wp2_with fail
            refine ⟨⟨k + 1, by simp, by omega, HX.out, HB5.out⟩, ?_⟩
            simp [RowKit.intOf]; omega
          | false =>
            have HE := Lib.hid (askE_none HLZ.out HZ.out (HNA.out hx))
            clear hx
            obtain ⟨x0, x1, x2, x3⟩ := two_cells (HRS.out w5 (gNx HB4.out HB5.out))
            go_wp2_with fail
            have hq1 := heap_setCell_same w5 br 0 _ _ (.slice none 0 0) (HRS.out w5 (gNx HB4.out HB5.out))
            have hq2 := heap_setCell_same _ br 1 _ _ (.slice none 0 0) hq1
            refine bodyPost_ret (results_cell2 Try.results31 _ _ br 0 [.slice none 0 0, .slice none 0 0] _ rfl (two_range hq2) Try.underlying63 (by rfl) (by kernel_rfl)) rfl ?_
            exact Or.inl ⟨by rw [HE.out]; decide, by rw [HE.out]; rfl, ((HWB.out w5 (gNx HB4.out HB5.out)).setCell (p := ⟨br, 0, none⟩) HBR.out.2.1 _).setCell (p := ⟨br, 1, none⟩) HBR.out.2.1 _⟩
        · have hnk : ¬ (k : Int) < (ids.length : Int) := by omega
          have htk : ids.take k = ids := List.take_of_length_le (by omega)
          rw [htk] at HALL
          have HE := Lib.hid (askE_ok HLZ.out HZ.out HALL.out)
          clear hlt htk
          obtain ⟨m0, m1, -, -⟩ := two_cells (HNB.out wr HBE.out)
          obtain ⟨x0, x1, x2, x3⟩ := two_cells (HRS.out wr (gNx HB4.out HBE.out))
          go_wp2_with fail
          have hq1 := heap_setCell_same wr br 0 _ _ (.slice na G.nodes.length nc) (HRS.out wr (gNx HB4.out HBE.out))
          have hq2 := heap_setCell_same _ br 1 _ _ (.slice (some ⟨rb, 0, none⟩) G.nodes.length rc) hq1
          refine bodyPost_ret (results_cell2 Try.results31 _ _ br 0 [.slice na G.nodes.length nc, .slice (some ⟨rb, 0, none⟩) G.nodes.length rc] _ rfl (two_range hq2) Try.underlying63 (by rfl) (by kernel_rfl)) rfl ?_
          refine Or.inr ⟨HE.out, rb, rc, rfl, ?_, ((HWB.out wr (gNx HB4.out HBE.out)).setCell (p := ⟨br, 0, none⟩) HBR.out.2.1 _).setCell (p := ⟨br, 1, none⟩) HBR.out.2.1 _⟩
          refine (HRD4.out wr HBE.out).kept (fun i hi hlt => ?_) (by have := HBR.out; omega) (by simp [World.setCell])
          have hne : i ≠ br := by have := HBR.out; omega
          rw [Below.heap_setCell _ _ _ _ hne, Below.heap_setCell _ _ _ _ hne]
end Go.Proofs.Ytomcnaghdfhkkaa
