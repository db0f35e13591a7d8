/- Paths: netFor. Paths: stopsFrom, distsOf. Paths: distsOf, Dists, Nexts. -/
import Derived.Test.YtjlfpjjfldbknaaGreatPtI
import Derived.Test.YtjlfpjjfldbknaaGreatIqS
section
namespace Go.Proofs.YtjlfpjjfldbknaaGreat
open Go.RowKit Go.Lib Go.Fq Go.Pq Go.Iq Go.Nq Go.Ow
set_option linter.unusedVariables false
set_option linter.unusedSimpArgs false
set_option maxRecDepth 100000

/-- Why nothing can be told: 0, or an error. -/
def askE (G : Gr) (max : Nat) (ids : List Int) : Int := if limitF max ≠ 0 then limitF max else if checkG G ≠ 0 then checkG G else if ids.all (has G.nodes) = true then 0 else 4
theorem askE_limit {G : Gr} {max : Nat} {ids : List Int} (h : limitF max ≠ 0) : askE G max ids = limitF max := if_pos h
theorem askE_check {G : Gr} {max : Nat} {ids : List Int} (h : limitF max = 0) (h2 : checkG G ≠ 0) : askE G max ids = checkG G := by unfold askE; rw [if_neg (by simpa using h), if_pos h2]
theorem askE_none {G : Gr} {max : Nat} {ids : List Int} (h : limitF max = 0) (h2 : checkG G = 0) (h3 : ids.all (has G.nodes) = false) : askE G max ids = 4 := by unfold askE; rw [if_neg (by simpa using h), if_neg (by simpa using h2), h3]; rfl
theorem askE_ok {G : Gr} {max : Nat} {ids : List Int} (h : limitF max = 0) (h2 : checkG G = 0) (h3 : ids.all (has G.nodes) = true) : askE G max ids = 0 := by unfold askE; rw [if_neg (by simpa using h), if_neg (by simpa using h2), h3]; rfl
theorem askE_zero {G : Gr} {max : Nat} {ids : List Int} (h : askE G max ids = 0) : limitF max = 0 ∧ checkG G = 0 ∧ ids.all (has G.nodes) = true := by
  unfold askE at h
  split at h
  · rename_i g; exact absurd h g
  · rename_i g
    split at h
    · rename_i g2; exact absurd h g2
    · rename_i g2
      split at h
      · rename_i g3; exact ⟨by simpa using g, by simpa using g2, g3⟩
      · cases h
/-- What netFor tells. -/
def NetForEnds (w : World) (G : Gr) (na : Option Addr) (nc : Nat) (E : Int) (e : Ending) (w' : World) : Prop :=
  (E ≠ 0 ∧ e = .returned (.tuple #[.agg #[.slice none 0 0, .slice none 0 0], .int .i64 E]) ∧ Below w.heap.size w w') ∨
  (E = 0 ∧ ∃ rb c, e = .returned (.tuple #[.agg #[.slice na G.nodes.length nc, .slice (some ⟨rb, 0, none⟩) G.nodes.length c], .int .i64 0]) ∧ RdsIn w' w.heap.size w'.heap.size (netL G.nodes (liveG G).links) (.slice (some ⟨rb, 0, none⟩) G.nodes.length c) ∧ Below w.heap.size w w')
theorem two_cells {w : World} {b : Nat} {x y : Value} {t : TypeId} (h : w.heap[b]? = some (.cells #[x, y] t (0, 0))) : w.cell? ⟨b, 0, none⟩ = some x ∧ w.cell? ⟨b, 1, none⟩ = some y ∧ w.frozen? ⟨b, 0, none⟩ = false ∧ w.frozen? ⟨b, 1, none⟩ = false :=
  ⟨by rw [cell_of_row w b 0 _ _ (0, 0) h]; rfl, by rw [cell_of_row w b 1 _ _ (0, 0) h]; rfl, frozen_of_row w b 0 _ _ h, frozen_of_row w b 1 _ _ h⟩
theorem two_range {w : World} {b : Nat} {x y : Value} {t : TypeId} (h : w.heap[b]? = some (.cells #[x, y] t (0, 0))) : w.rangeAt b 0 [x, y] := by
  intro j v hj
  rw [cell_of_row w b _ _ _ (0, 0) h]
  simpa using hj
set_option maxHeartbeats 16000000 in
theorem netFor_any (G : Gr) (na : Option Addr) (nc : Nat) (la : Option Addr) (lc : Nat) (max : Nat) (ia : Option Addr) (ic : Nat) (ids : List Int) (w : World) (hin : GrIn w G na la) (hm : max < 2 ^ 64) (hids : IsInts w ia ids.length ids) (hil : ids.length < 1048576) :
    Calls Tryz.prog 95 #[.agg #[.slice na G.nodes.length nc, .slice la G.links.length lc], .float .f64 max, .slice ia ids.length ic] w fun e w' => NetForEnds w G na nc (askE G max ids) e w' := by
  have hst := g_storeL
  obtain ⟨W1, hW1⟩ : ∃ W1, W1 = w.alloc (.cells #[.slice na G.nodes.length nc, .slice la G.links.length lc] 25) := ⟨_, rfl⟩
  obtain ⟨W2, hW2⟩ : ∃ W2, W2 = W1.alloc (.cells #[.slice none 0 0, .slice none 0 0] 125) := ⟨_, rfl⟩
  have b1 : Below w.heap.size w W1 := by rw [hW1]; exact gAl _ _
  have b2 : Below W1.heap.size W1 W2 := by rw [hW2]; exact gAl _ _
  have s1 : W1.heap.size = w.heap.size + 1 := by rw [hW1]; simp
  have s2 : W2.heap.size = W1.heap.size + 1 := by rw [hW2]; simp
  have r1 : W1.heap[w.heap.size]? = some (.cells #[.slice na G.nodes.length nc, .slice la G.links.length lc] 25 (0, 0)) := by rw [hW1]; exact heap_alloc_new w _
  have r2 : W2.heap[W1.heap.size]? = some (.cells #[.slice none 0 0, .slice none 0 0] 125 (0, 0)) := by rw [hW2]; exact heap_alloc_new W1 _
  have hb2 : Below w.heap.size w W2 := gNx b1 b2
  have q1 : W2.heap[w.heap.size]? = some (.cells #[.slice na G.nodes.length nc, .slice la G.links.length lc] 25 (0, 0)) := (b2.block _ (by omega)).trans r1
  obtain ⟨br, hbr⟩ : ∃ br, br = W1.heap.size := ⟨_, rfl⟩
  have HBR : Hid (br < W2.heap.size ∧ w.heap.size ≤ br ∧ br ≠ w.heap.size ∧ w.heap.size < W2.heap.size) := Lib.hid (by omega)
  have HKG : Hid (∀ V, Below W2.heap.size W2 V → V.cell? ⟨w.heap.size, 0, none⟩ = some (.slice na G.nodes.length nc) ∧ V.cell? ⟨w.heap.size, 1, none⟩ = some (.slice la G.links.length lc)) := Lib.hid (fun V hV => by
    have := (hV.block w.heap.size (by omega)).trans q1
    exact ⟨by rw [cell_of_row V _ 0 _ _ (0, 0) this]; rfl, by rw [cell_of_row V _ 1 _ _ (0, 0) this]; rfl⟩)
  have HRS : Hid (∀ V, Below W2.heap.size W2 V → V.heap[br]? = some (.cells #[.slice none 0 0, .slice none 0 0] 125 (0, 0))) := Lib.hid (fun V hV => by rw [hbr]; exact (hV.block _ (by omega)).trans r2)
  have HWB : Hid (∀ V, Below W2.heap.size W2 V → Below w.heap.size w V) := Lib.hid (fun V hV => gNx hb2 hV)
  have HG2 : Hid (∀ V, Below W2.heap.size W2 V → GrIn V G na la) := Lib.hid (fun V hV => hin.below (gNx hb2 hV))
  have HII : Hid (∀ V, Below W2.heap.size W2 V → IsInts V ia ids.length ids) := Lib.hid (fun V hV => hids.below (gNx hb2 hV))
  have HIL := Lib.hid hil
  have HLM := Lib.hid (limit_any max W2 hm)
  have HBRS : Hid (br < W2.heap.size) := Lib.hid HBR.out.1
  clear hin b1 b2 r1 r2 q1 hb2 hids hil hm
  by_cases hlz : limitF max = 0
  case neg =>
    have HE := Lib.hid (askE_limit (G := G) (ids := ids) hlz)
    have HNZ := Lib.hid hlz
    have hlz2 : (limitF max != 0) = true := by simpa using hlz
    obtain ⟨le, hle⟩ : ∃ le, le = limitF max := ⟨_, rfl⟩
    rw [← hle] at HE hlz2 HLM HNZ
    rw [HE.out]
    clear hlz hle
    go_enter Tryz.func95, Tryz.ntmps95
    go_upto_region 1 with (fail)
    rw [← hW1, ← hW2, ← s1, ← hbr]
    clear hW1 hW2 s1 s2 hbr
    obtain ⟨x0, x1, x2, x3⟩ := two_cells (HRS.out W2 (Below.refl _ _))
    go_wp2_with (go_at_call 31; refine HLM.out.mono ?_; rintro e w' ⟨rfl, rfl⟩)
    have hq1 := heap_setCell_same W2 br 0 _ _ (.slice none 0 0) (HRS.out W2 (Below.refl _ _))
    have hq2 := heap_setCell_same _ br 1 _ _ (.slice none 0 0) hq1
    refine bodyPost_ret (results_cell2 Tryz.results95 _ _ br 0 [.slice none 0 0, .slice none 0 0] _ rfl (two_range hq2) Tryz.underlying125 (by rfl) (by kernel_rfl)) rfl ?_
    exact Or.inl ⟨HNZ.out, rfl, ((HWB.out W2 (Below.refl _ _)).setCell (p := ⟨br, 0, none⟩) HBR.out.2.1 _).setCell (p := ⟨br, 1, none⟩) HBR.out.2.1 _⟩
  case pos =>
    rw [hlz] at HLM
    have HLZ := Lib.hid hlz
    clear hlz
    by_cases hz : checkG G = 0
    case neg =>
      have HE := Lib.hid (askE_check (ids := ids) HLZ.out hz)
      have HNZ := Lib.hid hz
      have HNO := Lib.hid (netOf_any G na nc la lc W2 (HG2.out W2 (Below.refl _ _)))
      have hz2 : (checkG G != 0) = true := by simpa using hz
      rw [HE.out]
      obtain ⟨ce, hce⟩ : ∃ ce, ce = checkG G := ⟨_, rfl⟩
      have HCE := Lib.hid hce
      rw [← hce] at hz2 HNZ ⊢
      clear hz hce HE
      go_enter Tryz.func95, Tryz.ntmps95
      go_upto_region 1 with (fail)
      rw [← hW1, ← hW2, ← s1, ← hbr]
      clear hW1 hW2 s1 s2 hbr
      obtain ⟨g0, g1⟩ := HKG.out W2 (Below.refl _ _)
      go_wp2_with (go_at_call 31; refine HLM.out.mono ?_; rintro e w' ⟨rfl, rfl⟩)
      refine HNO.out.mono ?_
      rintro e w3 (⟨-, rfl, hb3⟩ | ⟨hc, -⟩)
      case inr => exact absurd (HCE.out.trans hc) HNZ.out
      rw [← HCE.out]
      have HB3 := Lib.hid hb3
      obtain ⟨x0, x1, x2, x3⟩ := two_cells (HRS.out w3 hb3)
      have hs3 : br < w3.heap.size := Nat.lt_of_lt_of_le HBR.out.1 hb3.size
      have HS3 := Lib.hid hs3
      clear hb3 g0 g1
      go_wp2_with fail
      have hq1 := heap_setCell_same w3 br 0 _ _ (.slice none 0 0) (HRS.out w3 HB3.out)
      have hq2 := heap_setCell_same _ br 1 _ _ (.slice none 0 0) hq1
      have hbel := ((HWB.out w3 HB3.out).setCell (p := ⟨br, 0, none⟩) HBR.out.2.1 (.slice none 0 0)).setCell (p := ⟨br, 1, none⟩) HBR.out.2.1 (.slice none 0 0)
      have hq3 := ((gAl _ (.cells #[.slice none 0 0, .slice none 0 0] 125)).block br (Array.getElem?_eq_some_iff.1 hq2).1).trans hq2
      refine bodyPost_ret (results_cell2 Tryz.results95 _ _ br 0 [.slice none 0 0, .slice none 0 0] _ rfl (two_range hq3) Tryz.underlying125 (by rfl) (by kernel_rfl)) rfl ?_
      exact Or.inl ⟨HNZ.out, rfl, hbel.alloc hbel.size _⟩
    case pos =>
      have HZ := Lib.hid hz
      have hnp := (check_zero.1 hz).2.2.1
      have HNP := Lib.hid hnp
      have HNL : Hid (G.nodes.length ≤ 256) := Lib.hid (check_zero.1 hz).1
      have HNO := Lib.hid (netOf_any G na nc la lc W2 (HG2.out W2 (Below.refl _ _)))
      clear hz hnp
      go_enter Tryz.func95, Tryz.ntmps95
      go_upto_region 1 with (fail)
      rw [← hW1, ← hW2, ← s1, ← hbr]
      clear hW1 hW2 s1 s2 hbr
      obtain ⟨g0, g1⟩ := HKG.out W2 (Below.refl _ _)
      go_wp2_with (go_at_call 31; refine HLM.out.mono ?_; rintro e w' ⟨rfl, rfl⟩)
      refine HNO.out.mono ?_
      rintro e w3 (⟨hc, -⟩ | ⟨-, rv, rfl, -, hrd, hb3⟩)
      case inl => exact absurd HZ.out hc
      obtain ⟨rb, rc, hrv, hrb, hrow⟩ := hrd
      subst hrv
      have hnl := netL_len G.nodes (liveG G).links
      have HRD : Hid (RdsIn w3 W2.heap.size w3.heap.size (netL G.nodes (liveG G).links) (.slice (some ⟨rb, 0, none⟩) G.nodes.length rc)) := Lib.hid ⟨rb, rc, by rw [hnl], hrb, hrow⟩
      have HB3 := Lib.hid hb3
      rw [hnl]
      clear hb3 hrb hrow hnl g0 g1
      obtain ⟨W4, hW4⟩ : ∃ W4, W4 = w3.alloc (.cells #[.slice na G.nodes.length nc, .slice (some ⟨rb, 0, none⟩) G.nodes.length rc] 125) := ⟨_, rfl⟩
      have hb4 : Below w3.heap.size w3 W4 := by rw [hW4]; exact gAl _ _
      have HB4 : Hid (Below W2.heap.size W2 W4) := Lib.hid (gNx HB3.out hb4)
      have HRD4 : Hid (∀ V, Below W4.heap.size W4 V → RdsIn V W2.heap.size V.heap.size (netL G.nodes (liveG G).links) (.slice (some ⟨rb, 0, none⟩) G.nodes.length rc)) := Lib.hid (fun V hV => (HRD.out.below hb4).below hV)
      have r4 : W4.heap[w3.heap.size]? = some (.cells #[.slice na G.nodes.length nc, .slice (some ⟨rb, 0, none⟩) G.nodes.length rc] 125 (0, 0)) := by rw [hW4]; exact heap_alloc_new w3 _
      obtain ⟨nb, hnb⟩ : ∃ nb, nb = w3.heap.size := ⟨_, rfl⟩
      rw [← hnb] at r4
      have hs4 : nb < W4.heap.size := (Array.getElem?_eq_some_iff.1 r4).1
      have HNB : Hid (∀ V, Below W4.heap.size W4 V → V.heap[nb]? = some (.cells #[.slice na G.nodes.length nc, .slice (some ⟨rb, 0, none⟩) G.nodes.length rc] 125 (0, 0))) := Lib.hid (fun V hV => (hV.block nb hs4).trans r4)
      go_upto_region 7 with (fail)
      rw [← hW4, ← hnb]
      clear hW4 hnb hb4 r4 hs4
      go_wp2_with fail
      go_loopw [32] (fun v wr => ∃ k : Nat, v = .int .i64 (k : Int) ∧ k ≤ ids.length ∧ (ids.take k).all (has G.nodes) = true ∧ Below W4.heap.size W4 wr) (fun v _ => ids.length - (RowKit.intOf v).toNat)
      case atStart => exact ⟨0, rfl, Nat.zero_le _, rfl, Below.refl _ _⟩
      case round =>
        obtain ⟨k, rfl, hk, hall, hbel⟩ := hrel
        have HBE := Lib.hid hbel
        have HALL := Lib.hid hall
        clear hbel hall
        by_cases hlt : k < ids.length
        · have hlti : (k : Int) < (ids.length : Int) := by omega
          have hk0 : (0 : Int) ≤ (k : Int) := by omega
          have hkw : IntKind.i64.wrap ((k : Int) + 1) = (k : Int) + 1 := by rw [IntKind.wrap_i64]; have := HIL.out; omega
          obtain ⟨b, off, rfl, hc⟩ := (HII.out wr (gNx HB4.out HBE.out)).2 (by omega)
          have c0 := hc k hlt
          have hgd : ids.getD k 0 = ids[k] := by simp [List.getD_eq_getElem?_getD, hlt]
          rw [hgd] at c0
          have HTK : Hid ((ids.take (k + 1)).all (has G.nodes) = (has G.nodes ids[k])) := Lib.hid (by
            rw [List.take_add_one, List.getElem?_eq_getElem hlt, List.all_append, HALL.out]
            simp)
          have HNA : Hid (has G.nodes ids[k] = false → ids.all (has G.nodes) = false) := Lib.hid (fun h => by
            cases hq : ids.all (has G.nodes) with
            | false => rfl
            | true => rw [List.all_eq_true.1 hq _ (List.getElem_mem hlt)] at h; cases h)
          generalize ids[k] = x at *
          clear hc hgd
          obtain ⟨m0, m1, -, -⟩ := two_cells (HNB.out wr HBE.out)
          go_wp2_with fail
          refine (pPlace_any G.nodes na nc (.slice (some ⟨rb, 0, none⟩) G.nodes.length rc) x wr (HG2.out wr (gNx HB4.out HBE.out)).nodes HNP.out (by have := HNL.out; omega) rfl).mono ?_
          rintro e w5 ⟨rfl, hb5⟩
          have HB5 := Lib.hid (gNx HBE.out hb5)
          clear hb5 m0 m1 c0
          cases hx : has G.nodes x with
          | true =>
            have HX := Lib.hid (HTK.out.trans hx)
            clear hx
            go_wp2_with fail
            refine ⟨⟨k + 1, by simp, by omega, HX.out, HB5.out⟩, ?_⟩
            simp [RowKit.intOf]; omega
          | false =>
            have HE := Lib.hid (askE_none HLZ.out HZ.out (HNA.out hx))
            clear hx
            obtain ⟨x0, x1, x2, x3⟩ := two_cells (HRS.out w5 (gNx HB4.out HB5.out))
            go_wp2_with fail
            have hq1 := heap_setCell_same w5 br 0 _ _ (.slice none 0 0) (HRS.out w5 (gNx HB4.out HB5.out))
            have hq2 := heap_setCell_same _ br 1 _ _ (.slice none 0 0) hq1
            refine bodyPost_ret (results_cell2 Tryz.results95 _ _ br 0 [.slice none 0 0, .slice none 0 0] _ rfl (two_range hq2) Tryz.underlying125 (by rfl) (by kernel_rfl)) rfl ?_
            exact Or.inl ⟨by rw [HE.out]; decide, by rw [HE.out]; rfl, ((HWB.out w5 (gNx HB4.out HB5.out)).setCell (p := ⟨br, 0, none⟩) HBR.out.2.1 _).setCell (p := ⟨br, 1, none⟩) HBR.out.2.1 _⟩
        · have hnk : ¬ (k : Int) < (ids.length : Int) := by omega
          have htk : ids.take k = ids := List.take_of_length_le (by omega)
          rw [htk] at HALL
          have HE := Lib.hid (askE_ok HLZ.out HZ.out HALL.out)
          clear hlt htk
          obtain ⟨m0, m1, -, -⟩ := two_cells (HNB.out wr HBE.out)
          obtain ⟨x0, x1, x2, x3⟩ := two_cells (HRS.out wr (gNx HB4.out HBE.out))
          go_wp2_with fail
          have hq1 := heap_setCell_same wr br 0 _ _ (.slice na G.nodes.length nc) (HRS.out wr (gNx HB4.out HBE.out))
          have hq2 := heap_setCell_same _ br 1 _ _ (.slice (some ⟨rb, 0, none⟩) G.nodes.length rc) hq1
          refine bodyPost_ret (results_cell2 Tryz.results95 _ _ br 0 [.slice na G.nodes.length nc, .slice (some ⟨rb, 0, none⟩) G.nodes.length rc] _ rfl (two_range hq2) Tryz.underlying125 (by rfl) (by kernel_rfl)) rfl ?_
          refine Or.inr ⟨HE.out, rb, rc, rfl, ?_, ((HWB.out wr (gNx HB4.out HBE.out)).setCell (p := ⟨br, 0, none⟩) HBR.out.2.1 _).setCell (p := ⟨br, 1, none⟩) HBR.out.2.1 _⟩
          refine (HRD4.out wr HBE.out).kept (fun i hi hlt => ?_) (by have := HBR.out; omega) (by simp [World.setCell])
          have hne : i ≠ br := by have := HBR.out; omega
          rw [Below.heap_setCell _ _ _ _ hne, Below.heap_setCell _ _ _ _ hne]
end Go.Proofs.YtjlfpjjfldbknaaGreat
end

section
namespace Go.Proofs.YtjlfpjjfldbknaaGreat
open Go.RowKit Go.Lib Go.Fq Go.Pq Go.Iq Go.Nq Go.Ow
set_option linter.unusedVariables false
set_option linter.unusedSimpArgs false
set_option maxRecDepth 100000

/-- What stopsFrom tells. -/
def StopsEnds (w : World) (G : Gr) (E : Int) (s lim : Nat) (e : Ending) (w' : World) : Prop :=
  (E ≠ 0 ∧ e = .returned (.tuple #[.slice none 0 0, .int .i64 E]) ∧ Below w.heap.size w w') ∨
  (E = 0 ∧ ∃ D sb, e = .returned (.tuple #[.slice (some ⟨sb, 0, none⟩) G.nodes.length G.nodes.length, .int .i64 0]) ∧ Own w' w.heap.size 134 3 (.slice (some ⟨sb, 0, none⟩) G.nodes.length G.nodes.length) G.nodes.length (arRow D) ∧ StopsP G s lim D ∧ Below w.heap.size w w')
set_option maxHeartbeats 16000000 in
theorem stopsFrom_any (G : Gr) (na : Option Addr) (nc : Nat) (la : Option Addr) (lc : Nat) (max : Nat) (fr : Int) (w : World) (hin : GrIn w G na la) (hm : max < 2 ^ 64) :
    Calls Tryz.prog 92 #[.agg #[.slice na G.nodes.length nc, .slice la G.links.length lc], .float .f64 max, .int .i64 fr] w fun e w' => StopsEnds w G (askE G max [fr]) (Nq.ahead G.nodes fr) (qn max) e w' := by
  have hst := g_storeL
  obtain ⟨W1, hW1⟩ : ∃ W1, W1 = w.alloc (.cells #[.slice na G.nodes.length nc, .slice la G.links.length lc] 25) := ⟨_, rfl⟩
  have b1 : Below w.heap.size w W1 := by rw [hW1]; exact gAl _ _
  have r1 : W1.heap[w.heap.size]? = some (.cells #[.slice na G.nodes.length nc, .slice la G.links.length lc] 25 (0, 0)) := by rw [hW1]; exact heap_alloc_new w _
  obtain ⟨g0, g1, -, -⟩ := two_cells r1
  obtain ⟨W2, hW2⟩ : ∃ W2, W2 = W1.alloc (.cells #[.int .i64 fr] 3) := ⟨_, rfl⟩
  have b2 : Below W1.heap.size W1 W2 := by rw [hW2]; exact gAl _ _
  have r2 : W2.heap[W1.heap.size]? = some (.cells #[.int .i64 fr] 3 (0, 0)) := by rw [hW2]; exact heap_alloc_new W1 _
  have HB2 : Hid (Below w.heap.size w W2) := Lib.hid (gNx b1 b2)
  have HG : Hid (∀ V, Below w.heap.size w V → GrIn V G na la) := Lib.hid (fun V hV => hin.below hV)
  have hii : IsInts W2 (some ⟨W1.heap.size, 0, none⟩) [fr].length [fr] := ⟨rfl, fun _ => ⟨_, _, rfl, fun i hi => by
    have : i = 0 := by simp only [List.length_singleton] at hi; omega
    subst this
    rw [cell_of_row W2 _ _ _ _ (0, 0) r2]; rfl⟩⟩
  have HNF := Lib.hid (netFor_any G na nc la lc max (some ⟨W1.heap.size, 0, none⟩) 1 [fr] W2 (hin.below (gNx b1 b2)) hm hii (by simp))
  simp only [List.length_singleton] at HNF
  have HM := Lib.hid hm
  have HWT := Lib.hid hin.wts
  clear hin b1 r1 b2 r2 hii hm
  go_enter Tryz.func92, Tryz.ntmps92
  go_upto_region 1 with (fail)
  rw [← hW1]
  clear hW1
  go_wp2_with fail
  rw [← hW2]
  clear hW2
  refine HNF.out.mono ?_
  rintro e w3 (⟨hne, rfl, hb3⟩ | ⟨hE, rb, rc, rfl, hrd, hb3⟩)
  · have HNE := Lib.hid hne
    have HB3 := Lib.hid (gNx HB2.out hb3)
    obtain ⟨E, hEE⟩ : ∃ E, E = askE G max [fr] := ⟨_, rfl⟩
    have HEE := Lib.hid hEE
    rw [← hEE] at hne HNE ⊢
    have hz2 : (E != 0) = true := by simpa using hne
    clear hne hb3 g0 g1 hEE
    go_wp2_with fail
    refine bodyPost_ret (v := .tuple #[.slice none 0 0, .int .i64 E]) (by simp [results, Tryz.results92, go_sem]) rfl ?_
    rw [← HEE.out]
    exact Or.inl ⟨HNE.out, rfl, gNx HB3.out (gAl _ _)⟩
  · obtain ⟨a1, a2, a3⟩ := askE_zero hE
    have HE := Lib.hid hE
    have HZ := Lib.hid a2
    have hhas : has G.nodes fr = true := by simpa using a3
    obtain ⟨lim, l1, l2, l3⟩ := limit_q max HM.out a1
    subst l3
    have HQ : Hid (qn (qw lim) = lim) := Lib.hid (qn_qw (by omega))
    have HLIM : Hid (0 < lim ∧ lim ≤ 4294967296) := Lib.hid ⟨by omega, l2⟩
    have HNP := Lib.hid (check_zero.1 a2).2.2.1
    have HNL : Hid (G.nodes.length ≤ 256) := Lib.hid (check_zero.1 a2).1
    have HPL : Hid (Nq.ahead G.nodes fr < G.nodes.length) := Lib.hid ((has_at (check_zero.1 a2).2.2.1 fr).1 hhas).1
    have HH := Lib.hid hhas
    have HRD := Lib.hid hrd
    have HB3 : Hid (Below w.heap.size w w3) := Lib.hid (gNx HB2.out hb3)
    clear a1 a2 a3 l1 hE hrd hb3 hhas g0 g1 HNF
    obtain ⟨W4, hW4⟩ : ∃ W4, W4 = w3.alloc (.cells #[.slice na G.nodes.length nc, .slice (some ⟨rb, 0, none⟩) G.nodes.length rc] 125) := ⟨_, rfl⟩
    have hb4 : Below w3.heap.size w3 W4 := by rw [hW4]; exact gAl _ _
    have r4 : W4.heap[w3.heap.size]? = some (.cells #[.slice na G.nodes.length nc, .slice (some ⟨rb, 0, none⟩) G.nodes.length rc] 125 (0, 0)) := by rw [hW4]; exact heap_alloc_new w3 _
    obtain ⟨nb, hnb⟩ : ∃ nb, nb = w3.heap.size := ⟨_, rfl⟩
    rw [← hnb] at r4
    have hs4 : nb < W4.heap.size := (Array.getElem?_eq_some_iff.1 r4).1
    have HNB : Hid (∀ V, Below W4.heap.size W4 V → V.heap[nb]? = some (.cells #[.slice na G.nodes.length nc, .slice (some ⟨rb, 0, none⟩) G.nodes.length rc] 125 (0, 0))) := Lib.hid (fun V hV => (hV.block nb hs4).trans r4)
    have HB4 : Hid (Below w.heap.size w W4) := Lib.hid (gNx HB3.out hb4)
    have HRD4 : Hid (∀ V, Below W4.heap.size W4 V → RdsIn V 0 V.heap.size (netL G.nodes (liveG G).links) (.slice (some ⟨rb, 0, none⟩) G.nodes.length rc)) := Lib.hid (fun V hV => ((HRD.out.below hb4).below hV).low (Nat.zero_le _))
    go_upto_region 4 with (fail)
    rw [← hW4, ← hnb]
    clear hW4 hnb hb4 r4 hs4
    obtain ⟨m0, m1, -, -⟩ := two_cells (HNB.out W4 (Below.refl _ _))
    go_wp2_with fail
    refine (pPlace_any G.nodes na nc (.slice (some ⟨rb, 0, none⟩) G.nodes.length rc) fr W4 (HG.out W4 HB4.out).nodes HNP.out (by have := HNL.out; omega) rfl).mono ?_
    rintro e w5 ⟨rfl, hb5⟩
    rw [HH.out]
    have HB5 := Lib.hid hb5
    clear hb5 m0 m1
    obtain ⟨m0, m1, -, -⟩ := two_cells (HNB.out w5 HB5.out)
    obtain ⟨s, hsE⟩ : ∃ s, s = Nq.ahead G.nodes fr := ⟨_, rfl⟩
    have HSE := Lib.hid hsE
    rw [← hsE] at HPL ⊢
    clear hsE
    obtain ⟨W6, hW6⟩ : ∃ W6, W6 = w5.alloc (.cells #[.slice none 0 0] 132) := ⟨_, rfl⟩
    have hb6 : Below w5.heap.size w5 W6 := by rw [hW6]; exact gAl _ _
    have HB6 : Hid (Below w.heap.size w W6) := Lib.hid (gNx HB4.out (gNx HB5.out hb6))
    have HWK := Lib.hid (walk_any G na nc (.slice (some ⟨rb, 0, none⟩) G.nodes.length rc) s lim w5.heap.size W6 HZ.out HWT.out rfl ((HG.out w5 (gNx HB4.out HB5.out)).nodes.kept (fun i hi => hb6.block i hi) (Nat.le_refl _)) ((HRD4.out w5 HB5.out).kept (fun i _ hi => hb6.block i hi) (Nat.le_refl _) (Nat.le_refl _)) HPL.out HLIM.out.1 HLIM.out.2 (by rw [hW6]; exact heap_alloc_new w5 _))
    have HQS : Hid (w.heap.size ≤ w5.heap.size ∧ w5.heap.size < W6.heap.size) := Lib.hid ⟨(gNx HB4.out HB5.out).size, by rw [hW6]; simp⟩
    clear hb6
    go_wp2_with fail
    rw [← hW6]
    clear hW6
    refine HWK.out.mono ?_
    rintro e w7 ⟨D, sb, rfl, ho, hbx, hsp⟩
    have HF : Hid (StopsEnds w G (askE G (qw lim) [fr]) s (qn (qw lim)) (.returned (.tuple #[.slice (some ⟨sb, 0, none⟩) G.nodes.length G.nodes.length, .int .i64 0])) w7) := Lib.hid (Or.inr ⟨HE.out, D, sb, rfl, ho.mono (Nat.le_of_lt (Nat.lt_of_le_of_lt HQS.out.1 HQS.out.2)), by rw [HQ.out]; exact hsp, HB6.out.trans (hbx.below (Nat.le_of_lt (Nat.lt_of_le_of_lt HQS.out.1 HQS.out.2)) HQS.out.1)⟩)
    clear ho hbx hsp m0 m1
    go_wp2_with fail
    refine bodyPost_ret (v := .tuple #[.slice (some ⟨sb, 0, none⟩) G.nodes.length G.nodes.length, .int .i64 0]) (by simp [results, Tryz.results92, go_sem]) rfl ?_
    rw [← HSE.out]
    exact HF.out
end Go.Proofs.YtjlfpjjfldbknaaGreat
end

section
namespace Go.Proofs.YtjlfpjjfldbknaaGreat
open Go.RowKit Go.Lib Go.Fq Go.Pq Go.Iq Go.Nq Go.Ow
set_option linter.unusedVariables false
set_option linter.unusedSimpArgs false
set_option maxRecDepth 100000

/-- A row that is filled one by one. -/
def fE (f : Nat → Value) (z : Value) (n k : Nat) : List Value := (List.range k).map f ++ List.replicate (n - k) z
theorem fE_len (f : Nat → Value) (z : Value) (n k : Nat) (h : k ≤ n) : (fE f z n k).length = n := by simp [fE]; omega
theorem fE_set (f : Nat → Value) (z : Value) (n k : Nat) (h : k < n) : (fE f z n k).set k (f k) = fE f z n (k + 1) := by
  unfold fE
  rw [List.set_append_right _ _ (by simp), List.range_succ, List.map_append, List.append_assoc]
  congr 1
  obtain ⟨m, hm⟩ : ∃ m, n - k = m + 1 := ⟨n - k - 1, by omega⟩
  rw [hm, List.replicate_succ, show n - (k + 1) = m by omega]
  simp
theorem fE_at (f : Nat → Value) (z : Value) (n k : Nat) (h : k < n) : (fE f z n k)[k]? = some z := by
  unfold fE
  rw [List.getElem?_append_right (by simp), List.length_map, List.length_range, Nat.sub_self, List.getElem?_replicate, if_pos (by omega)]
theorem fE_all (f : Nat → Value) (z : Value) (n : Nat) : fE f z n n = (List.range n).map f := by simp [fE]
def dRow (l : List (Option Nat)) : List Value := l.map (fun o => .float .f64 (dw o))
def dF (D : List (Option (Nat × Nat))) (i : Nat) : Value := .float .f64 (dw ((dd D i).map Prod.fst))
def nF (D : List (Option (Nat × Nat))) (i : Nat) : Value := .int .i64 (fo (dd D i) : Int)
theorem dF_all (D : List (Option (Nat × Nat))) (n : Nat) (h : D.length = n) : (List.range n).map (dF D) = dRow (dOf D) := by
  apply List.ext_getElem
  · simp [dRow, dOf, h]
  intro i h1 h2
  have hi : i < D.length := by simpa [h] using h1
  simp [dRow, dOf, dF, ← dd_at hi]
theorem ar_cells {w : World} {base n sb u : Nat} {D : List (Option (Nat × Nat))} (h : Own w base 134 3 (.slice (some ⟨sb, 0, none⟩) n n) n (arRow D)) (hl : D.length = n) (hu : u < n) : w.cell? ⟨sb, u * 3, none⟩ = some (.int .i64 (u : Int)) ∧ w.cell? ⟨sb, u * 3 + 1, none⟩ = some (dF D u) ∧ w.cell? ⟨sb, u * 3 + 2, none⟩ = some (nF D u) := by
  obtain ⟨g, cap, e1, e2, e3, e4, e5⟩ := h.range (by omega)
  simp only [Value.slice.injEq, Option.some.injEq, Addr.mk.injEq, and_true, true_and] at e1
  obtain ⟨rfl, rfl⟩ := e1
  have hul : u < (ix D).length := by rw [ix_len, hl]; exact hu
  have h0 := fun j (hj : j < 3) => flat_get arC 3 arC_len (ix D) u j hul hj
  simp only [ix_get] at h0
  have h1 := fun j x (hj : j < 3) (hv : (arC (u, dd D u))[j]? = some x) => e4 (u * 3 + j) x ((h0 j hj).trans hv)
  exact ⟨by simpa using h1 0 _ (by omega) rfl, by simpa using h1 1 (dF D u) (by omega) rfl, by simpa using h1 2 (nF D u) (by omega) rfl⟩
theorem flInfo : (Tryz.prog.info? 26).map (fun i => (i.zero, i.size, i.bytes)) = some (some (.float .f64 0), 1, 8) := by kernel_rfl
theorem inInfo : (Tryz.prog.info? 3).map (fun i => (i.zero, i.size, i.bytes)) = some (some (.int .i64 0), 1, 8) := by kernel_rfl
theorem fE_zero (f : Nat → Value) (z : Value) (n : Nat) : fE f z n 0 = List.replicate n z := by simp [fE]
theorem make_floats (f : Nat → Value) (n : Nat) (hn : n ≤ 1048576) (V : World) : (Instr.makeSlice 90 (.int .i64 (n : Int)) (.int .i64 (n : Int))).run Tryz.prog V = .ok (.slice (some ⟨V.heap.size, 0, none⟩) n n) (V.alloc (.cells (fE f (.float .f64 0) n 0).toArray 26)) := by
  obtain ⟨i0, hi, hz0, hz1, hz2⟩ := info_parts flInfo
  have h := run_make (P := Tryz.prog) V 90 26 i0 _ Tryz.underlying90 hi hz0 .i64 .i64 (n : Int) (n : Int) (by omega) (by omega) (by rw [hz2]; omega) (by omega)
  rw [h, hz1, fE_zero]
  simp only [Int.toNat_natCast, Nat.mul_one, Value.cells]
  rw [← toList_madeCells_one]
theorem make_ints (f : Nat → Value) (n : Nat) (hn : n ≤ 1048576) (V : World) : (Instr.makeSlice 35 (.int .i64 (n : Int)) (.int .i64 (n : Int))).run Tryz.prog V = .ok (.slice (some ⟨V.heap.size, 0, none⟩) n n) (V.alloc (.cells (fE f (.int .i64 0) n 0).toArray 3)) := by
  obtain ⟨i0, hi, hz0, hz1, hz2⟩ := info_parts inInfo
  have h := run_make (P := Tryz.prog) V 35 3 i0 _ Tryz.underlying35 hi hz0 .i64 .i64 (n : Int) (n : Int) (by omega) (by omega) (by rw [hz2]; omega) (by omega)
  rw [h, hz1, fE_zero]
  simp only [Int.toNat_natCast, Nat.mul_one, Value.cells]
  rw [← toList_madeCells_one]
/-- A row laid anew, none of it filled. -/
theorem own_fE (V : World) (f : Nat → Value) (z : Value) (t : TypeId) (n : Nat) (hn : n ≤ 1048576) : Own (V.alloc (.cells (fE f z n 0).toArray t)) V.heap.size t 1 (.slice (some ⟨V.heap.size, 0, none⟩) n n) n (fE f z n 0) :=
  Or.inr ⟨V.heap.size, n, _, rfl, Nat.le_refl _, heap_alloc_new V _, Nat.le_refl _, by unfold maxLen; omega, by rw [List.size_toArray, fE_len _ _ _ _ (Nat.zero_le _), Nat.mul_one], by rw [List.take_of_length_le (by rw [fE_len _ _ _ _ (Nat.zero_le _)]; omega)]⟩
/-- A cell of a row of one-cell elements. -/
theorem row1_cell {w : World} {base g n : Nat} {t : TypeId} {xs : List Value} (h : Own w base t 1 (.slice (some ⟨g, 0, none⟩) n n) n xs) {i : Nat} (hi : i < n) {v : Value} (hv : xs[i]? = some v) : w.cell? ⟨g, i, none⟩ = some v ∧ w.frozen? ⟨g, i, none⟩ = false := by
  obtain ⟨g', cap, e1, e2, e3, e4, e5⟩ := h.range (by omega)
  simp only [Value.slice.injEq, Option.some.injEq, Addr.mk.injEq, and_true, true_and] at e1
  obtain ⟨rfl, rfl⟩ := e1
  exact ⟨by simpa using e4 i v hv, by simpa using (e5 i (by omega)).2⟩
set_option maxHeartbeats 8000000 in
theorem distsOf_any (n sb base : Nat) (D : List (Option (Nat × Nat))) (w : World) (h : Own w base 134 3 (.slice (some ⟨sb, 0, none⟩) n n) n (arRow D)) (hl : D.length = n) (hn : n ≤ 256) :
    Calls Tryz.prog 93 #[.slice (some ⟨sb, 0, none⟩) n n] w fun e w' => ∃ g, e = .returned (.slice (some ⟨g, 0, none⟩) n n) ∧ Own w' w.heap.size 26 1 (.slice (some ⟨g, 0, none⟩) n n) n (dRow (dOf D)) ∧ Below w.heap.size w w' := by
  have hst := g_storeL
  have hmk := make_floats (dF D) n (by omega)
  have HO := Lib.hid (fun V (hV : Below w.heap.size w V) => h.below hV)
  have HL := Lib.hid hl
  have HN := Lib.hid hn
  have HFE := Lib.hid (own_fE w (dF D) (.float .f64 0) 26 n (by omega))
  clear h hl hn
  go_enter Tryz.func93, Tryz.ntmps93
  go_upto_region 2 with (fail)
  obtain ⟨W1, hW1⟩ : ∃ W1, W1 = w.alloc (.cells (fE (dF D) (.float .f64 0) n 0).toArray 26) := ⟨_, rfl⟩
  rw [← hW1]
  rw [← hW1] at HFE
  have HB1 : Hid (Below w.heap.size w W1) := Lib.hid (by rw [hW1]; exact gAl _ _)
  obtain ⟨db, hdb⟩ : ∃ db, db = w.heap.size := ⟨_, rfl⟩
  rw [← hdb] at HFE ⊢
  have HDB := Lib.hid hdb
  clear hW1 hmk hdb
  go_wp2_with fail
  go_loopw [11] (fun v wr => ∃ k : Nat, v = .int .i64 (k : Int) ∧ k ≤ n ∧ Own wr db 26 1 (.slice (some ⟨db, 0, none⟩) n n) n (fE (dF D) (.float .f64 0) n k) ∧ Below w.heap.size w wr) (fun v _ => n - (RowKit.intOf v).toNat)
  case atStart => exact ⟨0, rfl, Nat.zero_le _, HFE.out, HB1.out⟩
  case round =>
    obtain ⟨k, rfl, hk, ho, hbel⟩ := hrel
    by_cases hlt : k < n
    · have hlti : (k : Int) < (n : Int) := by omega
      have hk0 : (0 : Int) ≤ (k : Int) := by omega
      have hkw : IntKind.i64.wrap ((k : Int) + 1) = (k : Int) + 1 := by rw [IntKind.wrap_i64]; have := HN.out; omega
      obtain ⟨c0, c1, c2⟩ := ar_cells (HO.out wr hbel) HL.out hlt
      obtain ⟨f0, f1⟩ := row1_cell ho hlt (fE_at _ _ n k hlt)
      have HOW := Lib.hid ho
      have HBE := Lib.hid hbel
      have HSE : Hid ((fE (dF D) (.float .f64 0) n k).set k (.float .f64 (dw ((dd D k).map Prod.fst))) = fE (dF D) (.float .f64 0) n (k + 1)) := Lib.hid (fE_set (dF D) (.float .f64 0) n k hlt)
      have hdbs : db < wr.heap.size := (Array.getElem?_eq_some_iff.1 (own_set ho (by omega) (j := 0) (.int .i64 0)).2.2.choose_spec).1
      unfold dF at c1
      unfold nF at c2
      have HSBW : Hid (sb ≠ wr.heap.size) := Lib.hid (by
        obtain ⟨g', cap, e1, e2, -⟩ := (HO.out wr hbel).range (by omega)
        simp only [Value.slice.injEq, Option.some.injEq, Addr.mk.injEq, and_true, true_and] at e1
        omega)
      clear ho hbel
      generalize dw ((dd D k).map Prod.fst) = dk at *
      go_wp2_with fail
      have hset := (own_set HOW.out (j := k) (by omega) (.float .f64 dk)).1
      rw [HSE.out] at hset
      have hbel := (HBE.out.setCell (p := ⟨db, k, none⟩) (by show w.heap.size ≤ db; have := HDB.out; omega) (.float .f64 dk))
      refine ⟨⟨k + 1, by simp, by omega, hset.below (gAl _ _), hbel.alloc hbel.size _⟩, ?_⟩
      simp [RowKit.intOf]; omega
    · have hnk : ¬ (k : Int) < (n : Int) := by omega
      have hke : k = n := by omega
      rw [hke, fE_all, dF_all D n HL.out] at ho
      have HOW := Lib.hid ho
      have HBE := Lib.hid hbel
      clear hke hlt hk ho hbel
      go_wp2_with fail
      go_ret
      exact ⟨db, rfl, by rw [← HDB.out]; exact HOW.out, HBE.out⟩
/-- What Dists tells. -/
def DistsEnds (w : World) (G : Gr) (E : Int) (s lim : Nat) (e : Ending) (w' : World) : Prop :=
  (E ≠ 0 ∧ e = .returned (.tuple #[.slice none 0 0, .int .i64 E]) ∧ Below w.heap.size w w') ∨
  (E = 0 ∧ ∃ l v, e = .returned (.tuple #[v, .int .i64 0]) ∧ Own w' w.heap.size 26 1 v G.nodes.length (dRow l) ∧ DistsP G s lim l ∧ Below w.heap.size w w')
set_option maxHeartbeats 8000000 in
theorem pDists_any (G : Gr) (na : Option Addr) (nc : Nat) (la : Option Addr) (lc : Nat) (max : Nat) (fr : Int) (w : World) (hin : GrIn w G na la) (hm : max < 2 ^ 64) :
    Calls Tryz.prog 87 #[.agg #[.slice na G.nodes.length nc, .slice la G.links.length lc], .float .f64 max, .int .i64 fr] w fun e w' => DistsEnds w G (askE G max [fr]) (Nq.ahead G.nodes fr) (qn max) e w' := by
  obtain ⟨W1, hW1⟩ : ∃ W1, W1 = w.alloc (.cells #[.slice na G.nodes.length nc, .slice la G.links.length lc] 25) := ⟨_, rfl⟩
  have b1 : Below w.heap.size w W1 := by rw [hW1]; exact gAl _ _
  have r1 : W1.heap[w.heap.size]? = some (.cells #[.slice na G.nodes.length nc, .slice la G.links.length lc] 25 (0, 0)) := by rw [hW1]; exact heap_alloc_new w _
  obtain ⟨g0, g1, -, -⟩ := two_cells r1
  have HC := Lib.hid (stopsFrom_any G na nc la lc max fr W1 (hin.below b1) hm)
  have HB1 := Lib.hid b1
  have HNL : Hid (checkG G = 0 → G.nodes.length ≤ 256) := Lib.hid (fun h => (check_zero.1 h).1)
  obtain ⟨E, hEE⟩ : ∃ E, E = askE G max [fr] := ⟨_, rfl⟩
  have HEE := Lib.hid hEE
  have HZZ : Hid (E = 0 → checkG G = 0) := Lib.hid (fun h => (askE_zero (by rw [← hEE]; exact h)).2.1)
  rw [← hEE] at HC ⊢
  generalize Nq.ahead G.nodes fr = s at *
  generalize qn max = lim at *
  clear hin hm b1 r1 hEE HEE
  go_enter Tryz.func87, Tryz.ntmps87
  go_upto_region 1 with (fail)
  rw [← hW1]
  clear hW1
  go_wp2_with fail
  refine HC.out.mono ?_
  rintro e w2 (⟨hne, rfl, hb2⟩ | ⟨hE, D, sb, rfl, ho, hsp, hb2⟩)
  · have HNE := Lib.hid hne
    have HB2 := Lib.hid (gNx HB1.out hb2)
    have hz2 : (E != 0) = true := by simpa using hne
    clear hne hb2 g0 g1
    go_wp2_with fail
    refine bodyPost_ret (v := .tuple #[.slice none 0 0, .int .i64 E]) (by simp [results, Tryz.results87, go_sem]) rfl ?_
    exact Or.inl ⟨HNE.out, rfl, HB2.out⟩
  · subst hE
    have HB2 := Lib.hid (gNx HB1.out hb2)
    have HD := Lib.hid (distsOf_any G.nodes.length sb _ D w2 ho hsp.1 (HNL.out (HZZ.out rfl)))
    have HSP := Lib.hid hsp.dists
    clear ho hsp hb2 g0 g1
    go_wp2_with fail
    refine HD.out.mono ?_
    rintro e w3 ⟨g, rfl, ho3, hb3⟩
    have HO3 := Lib.hid ho3
    have HB3 := Lib.hid (gNx HB2.out hb3)
    have HLO := Lib.hid HB2.out.size
    clear ho3 hb3
    go_wp2_with fail
    refine bodyPost_ret (v := .tuple #[.slice (some ⟨g, 0, none⟩) G.nodes.length G.nodes.length, .int .i64 0]) (by simp [results, Tryz.results87, go_sem]) rfl ?_
    exact Or.inr ⟨rfl, dOf D, _, rfl, HO3.out.mono HLO.out, HSP.out, HB3.out⟩
end Go.Proofs.YtjlfpjjfldbknaaGreat
end
