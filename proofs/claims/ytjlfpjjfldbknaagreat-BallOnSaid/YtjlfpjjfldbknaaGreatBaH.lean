/- Balls: the program's Homes and Table; the path of four, awake. -/
import Derived.Test.YtjlfpjjfldbknaaGreatBaF
import Derived.Test.YtjlfpjjfldbknaaGreatBaG
import Derived.Test.YtjlfpjjfldbknaaGreatBqA
namespace Go.Proofs.YtjlfpjjfldbknaaGreat
open Go.RowKit Go.Lib Go.Fq Go.Pq Go.Iq Go.Nq Go.Ow Go.Bq
set_option linter.unusedVariables false
set_option linter.unusedSimpArgs false
set_option maxRecDepth 100000

/-- Why a graph and a limit may not be. -/
def ballE (G : Gr) (max : Nat) : Int := if checkG G ≠ 0 then checkG G else limitF max
theorem ballE_zero {G : Gr} {max : Nat} : ballE G max = 0 ↔ checkG G = 0 ∧ limitF max = 0 := by
  unfold ballE
  split
  · rename_i h; exact ⟨fun e => absurd e h, fun e => absurd e.1 h⟩
  · rename_i h
    have h : checkG G = 0 := by simpa using h
    exact ⟨fun e => ⟨h, e⟩, fun e => e.2⟩
theorem SightEnds.cases {w w' : World} {G : Gr} {max : Nat} {e : Ending} (h : SightEnds w G max e w') : Below w.heap.size w w' ∧ ((ballE G max ≠ 0 ∧ e = .returned (.tuple #[.pointer none, .int .i64 (ballE G max)])) ∨
    (ballE G max = 0 ∧ ∃ sb db B0 na nc la lc hv, e = .returned (.tuple #[.pointer (some ⟨sb, 0, none⟩), .int .i64 0]) ∧ w.heap.size ≤ sb ∧ w.heap.size ≤ db ∧ Sg w' sb db B0 (liveG G) max na nc la lc hv)) := by
  rcases h with ⟨h1, h2, h3⟩ | ⟨h1, h2, h3, h4⟩ | ⟨h1, h2, h3, h4⟩
  · have e : ballE G max = checkG G := by unfold ballE; rw [if_pos h1]
    exact ⟨h3, Or.inl ⟨by rw [e]; exact h1, by rw [e]; exact h2⟩⟩
  · have e : ballE G max = limitF max := by unfold ballE; rw [if_neg (by simpa using h1)]
    exact ⟨h4, Or.inl ⟨by rw [e]; exact h2, by rw [e]; exact h3⟩⟩
  · exact ⟨h3, Or.inr ⟨ballE_zero.2 ⟨h1, h2⟩, h4⟩⟩
/-- What Homes tells. -/
def HomesEnds (w : World) (G : Gr) (max : Nat) (e : Ending) (w' : World) : Prop := Below w.heap.size w w' ∧
  ((ballE G max ≠ 0 ∧ e = .returned (.tuple #[.slice none 0 0, .int .i64 (ballE G max)])) ∨
   (ballE G max = 0 ∧ ∃ v, e = .returned (.tuple #[v, .int .i64 0]) ∧ Own w' w.heap.size 50 3 v (liveG G).nodes.length (hmRow (liveG G) (qn max) (liveG G).nodes.length)))
set_option maxHeartbeats 8000000 in
theorem pHomes_any (G : Gr) (na : Option Addr) (nc : Nat) (la : Option Addr) (lc : Nat) (max : Nat) (w : World) (hin : GrIn w G na la) (hm : max < 2 ^ 64) :
    Calls Tryz.prog 17 #[.agg #[.slice na G.nodes.length nc, .slice la G.links.length lc], .float .f64 max] w fun e w' => HomesEnds w G max e w' := by
  obtain ⟨W1, hW1⟩ : ∃ W1, W1 = w.alloc (.cells #[.slice na G.nodes.length nc, .slice la G.links.length lc] 25) := ⟨_, rfl⟩
  have b1 : Below w.heap.size w W1 := by rw [hW1]; exact gAl _ _
  have r1 : W1.heap[w.heap.size]? = some (.cells #[.slice na G.nodes.length nc, .slice la G.links.length lc] 25 (0, 0)) := by rw [hW1]; exact heap_alloc_new w _
  obtain ⟨g0, g1, -, -⟩ := two_cells r1
  have HC := Lib.hid (sightOf_any G na nc la lc max W1 (hin.below b1) hm)
  have HB1 := Lib.hid b1
  clear hin b1 r1 hm
  go_enter Tryz.func17, Tryz.ntmps17
  go_upto_region 1 with (fail)
  rw [← hW1]
  clear hW1
  go_wp2_with fail
  refine HC.out.mono ?_
  rintro e w2 he
  obtain ⟨hb2, ⟨hne, rfl⟩ | ⟨hE, sb, db, B0, an, cn, al, cl, hv, rfl, hsb, hdb, hsg⟩⟩ := he.cases
  · have HB2 := Lib.hid (gNx HB1.out hb2)
    have HNE := Lib.hid hne
    obtain ⟨E, hE⟩ : ∃ E, E = ballE G max := ⟨_, rfl⟩
    have HEE := Lib.hid hE
    rw [← hE]
    have hz : (E != 0) = true := by rw [hE]; simpa using hne
    clear hb2 he hne hE g0 g1
    go_wp2_with fail
    refine bodyPost_ret (v := .tuple #[.slice none 0 0, .int .i64 E]) (by simp [results, Tryz.results17, go_sem]) rfl ?_
    exact ⟨HB2.out, Or.inl ⟨HNE.out, by rw [HEE.out]⟩⟩
  · have HB2 := Lib.hid (gNx HB1.out hb2)
    have HE := Lib.hid hE
    have HSB : Hid (w.heap.size ≤ w2.heap.size ∧ w.heap.size ≤ db) := Lib.hid (by have := hb2.size; have := HB1.out.size; omega)
    have HH := Lib.hid (bHomes_any w2 sb db B0 (liveG G) max an cn al cl hv hsg)
    clear hb2 he hE g0 g1 hsg hsb hdb
    go_wp2_with fail
    refine HH.out.mono ?_
    rintro e w3 ⟨v, rfl, ho, -, hbx⟩
    have HO := Lib.hid (ho.mono HSB.out.1)
    have HB3 : Hid (Below w.heap.size w w3) := Lib.hid (HB2.out.trans (hbx.below HSB.out.1 HSB.out.2))
    clear ho hbx
    go_wp2_with fail
    refine bodyPost_ret (v := .tuple #[v, .int .i64 0]) (by simp [results, Tryz.results17, go_sem]) rfl ?_
    exact ⟨HB3.out, Or.inr ⟨HE.out, v, rfl, HO.out⟩⟩
/-- What Table tells. -/
def TabEnds (w : World) (G : Gr) (max : Nat) (id : Int) (e : Ending) (w' : World) : Prop := Below w.heap.size w w' ∧
  ((ballE G max ≠ 0 ∧ e = .returned (.tuple #[.slice none 0 0, .int .i64 (ballE G max)])) ∨
   (ballE G max = 0 ∧ upB G.nodes id = false ∧ e = .returned (.tuple #[.slice none 0 0, .int .i64 4])) ∨
   (ballE G max = 0 ∧ upB G.nodes id = true ∧ ∃ v, e = .returned (.tuple #[v, .int .i64 0]) ∧ Own w' w.heap.size 43 6 v (tabI (liveG G) (qn max) id).length (enRow (tabI (liveG G) (qn max) id))))
set_option maxHeartbeats 8000000 in
theorem pTable_any (G : Gr) (na : Option Addr) (nc : Nat) (la : Option Addr) (lc : Nat) (max : Nat) (id : Int) (w : World) (hin : GrIn w G na la) (hm : max < 2 ^ 64) :
    Calls Tryz.prog 7 #[.agg #[.slice na G.nodes.length nc, .slice la G.links.length lc], .float .f64 max, .int .i64 id] w fun e w' => TabEnds w G max id e w' := by
  obtain ⟨W1, hW1⟩ : ∃ W1, W1 = w.alloc (.cells #[.slice na G.nodes.length nc, .slice la G.links.length lc] 25) := ⟨_, rfl⟩
  have b1 : Below w.heap.size w W1 := by rw [hW1]; exact gAl _ _
  have r1 : W1.heap[w.heap.size]? = some (.cells #[.slice na G.nodes.length nc, .slice la G.links.length lc] 25 (0, 0)) := by rw [hW1]; exact heap_alloc_new w _
  obtain ⟨g0, g1, -, -⟩ := two_cells r1
  have HC := Lib.hid (sightOf_any G na nc la lc max W1 (hin.below b1) hm)
  have HB1 := Lib.hid b1
  clear hin b1 r1 hm
  go_enter Tryz.func7, Tryz.ntmps7
  go_upto_region 1 with (fail)
  rw [← hW1]
  clear hW1
  go_wp2_with fail
  refine HC.out.mono ?_
  rintro e w2 he
  obtain ⟨hb2, ⟨hne, rfl⟩ | ⟨hE, sb, db, B0, an, cn, al, cl, hv, rfl, hsb, hdb, hsg⟩⟩ := he.cases
  · have HB2 := Lib.hid (gNx HB1.out hb2)
    have HNE := Lib.hid hne
    obtain ⟨E, hE⟩ : ∃ E, E = ballE G max := ⟨_, rfl⟩
    have HEE := Lib.hid hE
    rw [← hE]
    have hz : (E != 0) = true := by rw [hE]; simpa using hne
    clear hb2 he hne hE g0 g1
    go_wp2_with fail
    refine bodyPost_ret (v := .tuple #[.slice none 0 0, .int .i64 E]) (by simp [results, Tryz.results7, go_sem]) rfl ?_
    exact ⟨HB2.out, Or.inl ⟨HNE.out, by rw [HEE.out]⟩⟩
  · have HB2 := Lib.hid (gNx HB1.out hb2)
    have HE := Lib.hid hE
    have HSB : Hid (w.heap.size ≤ w2.heap.size ∧ w.heap.size ≤ db) := Lib.hid (by have := hb2.size; have := HB1.out.size; omega)
    have HP := Lib.hid (bPlace_any id w2 sb db B0 (liveG G) max an cn al cl hv hsg)
    have HSG := Lib.hid hsg
    have HUP : Hid (has (liveG G).nodes id = upB G.nodes id) := Lib.hid (up_live G.nodes id).2
    rw [HUP.out] at HP
    clear hb2 he hE g0 g1 hsg hsb hdb
    obtain ⟨ub, hub⟩ : ∃ ub, ub = upB G.nodes id := ⟨_, rfl⟩
    have HUB := Lib.hid hub
    rw [← hub] at HP HUP
    clear hub
    cases ub with
    | false =>
      go_wp2_with fail
      refine HP.out.mono ?_
      rintro e w3 ⟨rfl, hb3⟩
      have HB3 : Hid (Below w.heap.size w w3) := Lib.hid (gNx HB2.out hb3)
      clear hb3
      go_wp2_with fail
      refine bodyPost_ret (v := .tuple #[.slice none 0 0, .int .i64 4]) (by simp [results, Tryz.results7, go_sem]) rfl ?_
      exact ⟨HB3.out, Or.inr (Or.inl ⟨HE.out, HUB.out.symm, rfl⟩)⟩
    | true =>
      have n3 := (check_zero.1 HSG.out.bg.hz).2.2.1
      obtain ⟨hk, -⟩ := (has_at n3 id).1 HUP.out
      have hid := (id_at n3 HUP.out).1
      obtain ⟨at_, hat⟩ : ∃ at_, at_ = Nq.ahead (liveG G).nodes id := ⟨_, rfl⟩
      rw [← hat] at hk hid HP
      have HK := Lib.hid hk
      have HID := Lib.hid hid
      clear hk hid hat n3
      go_wp2_with fail
      refine HP.out.mono ?_
      rintro e w3 ⟨rfl, hb3⟩
      have HB3 : Hid (Below w.heap.size w w3 ∧ w.heap.size ≤ w3.heap.size) := Lib.hid ⟨gNx HB2.out hb3, by have := hb3.size; have := HSB.out; omega⟩
      have HS3 := Lib.hid (HSG.out.below hb3)
      have HH := Lib.hid (bHomes_any w3 sb db B0 (liveG G) max an cn al cl hv (HSG.out.below hb3))
      clear hb3
      go_wp2_with fail
      refine HH.out.mono ?_
      rintro e w4 ⟨v, rfl, ho, hs4, hbx⟩
      obtain ⟨hg, hc, rfl, -, hmi⟩ := hm_in ho (by have := HK.out; omega)
      have HB4 : Hid (Below w.heap.size w w4 ∧ w.heap.size ≤ w4.heap.size) := Lib.hid ⟨HB3.out.1.trans (hbx.below HB3.out.2 HSB.out.2), Nat.le_trans HB3.out.2 hbx.size⟩
      have HT := Lib.hid (bTable_any at_ hg hc w4 sb db B0 (liveG G) max an cn al cl hv hs4 HK.out hmi)
      rw [HID.out] at HT
      clear ho hs4 hbx hmi
      go_wp2_with fail
      refine HT.out.mono ?_
      rintro e w5 ⟨v, rfl, ho, -, hbx⟩
      have HO := Lib.hid (ho.mono HB4.out.2)
      have HB5 : Hid (Below w.heap.size w w5) := Lib.hid (HB4.out.1.trans (hbx.below HB4.out.2 HSB.out.2))
      clear ho hbx
      go_wp2_with fail
      refine bodyPost_ret (v := .tuple #[v, .int .i64 0]) (by simp [results, Tryz.results7, go_sem]) rfl ?_
      exact ⟨HB5.out, Or.inr (Or.inr ⟨HE.out, HUB.out.symm, v, rfl, HO.out⟩)⟩
set_option maxHeartbeats 4000000 in
theorem path_any (w : World) : Calls Tryz.prog 28 #[] w fun e w' => ∃ na la, e = .returned (.agg #[.slice na paG.nodes.length 4, .slice la paG.links.length 3]) ∧ GrIn w' paG na la ∧ Below w.heap.size w w' := by
  have hst := g_storeL
  go_enter Tryz.func28, Tryz.ntmps28
  go_wp2_with fail
  obtain ⟨W1, hW1⟩ : ∃ W1, W1 = w.alloc (.cells #[.slice (some ⟨w.heap.size + 1, 0, none⟩) 4 4, .slice (some ⟨w.heap.size + 1 + 1 + 1, 0, none⟩) 3 3] 25) := ⟨_, rfl⟩
  obtain ⟨W2, hW2⟩ : ∃ W2, W2 = W1.alloc (.cells #[.int .i64 1, .bool true, .bool true, .int .i64 2, .bool true, .bool false, .int .i64 3, .bool true, .bool false, .int .i64 4, .bool true, .bool false] 60) := ⟨_, rfl⟩
  obtain ⟨W3, hW3⟩ : ∃ W3, W3 = W2.alloc (.cells #[.slice (some ⟨w.heap.size + 1, 0, none⟩) 4 4, .slice (some ⟨w.heap.size + 1 + 1 + 1, 0, none⟩) 3 3] 25) := ⟨_, rfl⟩
  obtain ⟨W4, hW4⟩ : ∃ W4, W4 = W3.alloc (.cells #[.int .i64 1, .int .i64 2, .float .f64 4607182418800017408, .bool true, .int .i64 2, .int .i64 3, .float .f64 4607182418800017408, .bool true, .int .i64 3, .int .i64 4, .float .f64 4607182418800017408, .bool true] 62) := ⟨_, rfl⟩
  rw [← hW1, ← hW2, ← hW3, ← hW4]
  have s1 : W1.heap.size = w.heap.size + 1 := by rw [hW1]; simp
  have s2 : W2.heap.size = w.heap.size + 1 + 1 := by rw [hW2]; simp [s1]
  have s3 : W3.heap.size = w.heap.size + 1 + 1 + 1 := by rw [hW3]; simp [s2]
  have b1 : Below w.heap.size w W1 := by rw [hW1]; exact gAl _ _
  have b2 : Below W1.heap.size W1 W2 := by rw [hW2]; exact gAl _ _
  have b3 : Below W2.heap.size W2 W3 := by rw [hW3]; exact gAl _ _
  have b4 : Below W3.heap.size W3 W4 := by rw [hW4]; exact gAl _ _
  have b24 := gNx b2 (gNx b3 b4)
  have r1 : W4.heap[w.heap.size]? = some (.cells #[.slice (some ⟨w.heap.size + 1, 0, none⟩) 4 4, .slice (some ⟨w.heap.size + 1 + 1 + 1, 0, none⟩) 3 3] 25 (0, 0)) := (b24.block _ (by omega)).trans (by rw [hW1]; exact heap_alloc_new w _)
  have r2 : W4.heap[w.heap.size + 1]? = some (.cells #[.int .i64 1, .bool true, .bool true, .int .i64 2, .bool true, .bool false, .int .i64 3, .bool true, .bool false, .int .i64 4, .bool true, .bool false] 60 (0, 0)) := ((gNx b3 b4).block _ (by omega)).trans (by rw [hW2, ← s1]; exact heap_alloc_new W1 _)
  have r4 : W4.heap[w.heap.size + 1 + 1 + 1]? = some (.cells #[.int .i64 1, .int .i64 2, .float .f64 4607182418800017408, .bool true, .int .i64 2, .int .i64 3, .float .f64 4607182418800017408, .bool true, .int .i64 3, .int .i64 4, .float .f64 4607182418800017408, .bool true] 62 (0, 0)) := by rw [hW4, ← s3]; exact heap_alloc_new W3 _
  have z2 : w.heap.size + 1 < W4.heap.size := (Array.getElem?_eq_some_iff.1 r2).1
  have z4 : w.heap.size + 1 + 1 + 1 < W4.heap.size := (Array.getElem?_eq_some_iff.1 r4).1
  refine bodyPost_ret (results_cell Tryz.results28 _ _ w.heap.size 0 [.slice (some ⟨w.heap.size + 1, 0, none⟩) 4 4, .slice (some ⟨w.heap.size + 1 + 1 + 1, 0, none⟩) 3 3] _ rfl (two_range r1) Tryz.underlying25 (by rfl) (by kernel_rfl)) rfl ?_
  refine ⟨some ⟨w.heap.size + 1, 0, none⟩, some ⟨w.heap.size + 1 + 1 + 1, 0, none⟩, rfl, ⟨Or.inr ⟨_, 0, rfl, z2, fun k hk => ?_⟩, Or.inr ⟨_, 0, rfl, z4, fun k hk => ?_⟩, pa_wts, by decide, by decide⟩, gNx b1 b24⟩
  · match k, hk with
    | 0, _ => exact ⟨by rw [cell_of_row W4 _ _ _ _ (0, 0) r2]; rfl, by rw [cell_of_row W4 _ _ _ _ (0, 0) r2]; rfl, by rw [cell_of_row W4 _ _ _ _ (0, 0) r2]; rfl⟩
    | 1, _ => exact ⟨by rw [cell_of_row W4 _ _ _ _ (0, 0) r2]; rfl, by rw [cell_of_row W4 _ _ _ _ (0, 0) r2]; rfl, by rw [cell_of_row W4 _ _ _ _ (0, 0) r2]; rfl⟩
    | 2, _ => exact ⟨by rw [cell_of_row W4 _ _ _ _ (0, 0) r2]; rfl, by rw [cell_of_row W4 _ _ _ _ (0, 0) r2]; rfl, by rw [cell_of_row W4 _ _ _ _ (0, 0) r2]; rfl⟩
    | 3, _ => exact ⟨by rw [cell_of_row W4 _ _ _ _ (0, 0) r2]; rfl, by rw [cell_of_row W4 _ _ _ _ (0, 0) r2]; rfl, by rw [cell_of_row W4 _ _ _ _ (0, 0) r2]; rfl⟩
  · match k, hk with
    | 0, _ => exact ⟨by rw [cell_of_row W4 _ _ _ _ (0, 0) r4]; rfl, by rw [cell_of_row W4 _ _ _ _ (0, 0) r4]; rfl, by rw [cell_of_row W4 _ _ _ _ (0, 0) r4]; rfl, by rw [cell_of_row W4 _ _ _ _ (0, 0) r4]; rfl⟩
    | 1, _ => exact ⟨by rw [cell_of_row W4 _ _ _ _ (0, 0) r4]; rfl, by rw [cell_of_row W4 _ _ _ _ (0, 0) r4]; rfl, by rw [cell_of_row W4 _ _ _ _ (0, 0) r4]; rfl, by rw [cell_of_row W4 _ _ _ _ (0, 0) r4]; rfl⟩
    | 2, _ => exact ⟨by rw [cell_of_row W4 _ _ _ _ (0, 0) r4]; rfl, by rw [cell_of_row W4 _ _ _ _ (0, 0) r4]; rfl, by rw [cell_of_row W4 _ _ _ _ (0, 0) r4]; rfl, by rw [cell_of_row W4 _ _ _ _ (0, 0) r4]; rfl⟩
set_option maxHeartbeats 8000000 in
theorem bAwake_any (w : World) : Calls Tryz.prog 11 #[] w fun e w' => e = .returned (.bool true) ∧ Below w.heap.size w w' := by
  go_enter Tryz.func11, Tryz.ntmps11
  go_wp2_with fail
  refine (path_any w).mono ?_
  rintro e w1 ⟨na, la, rfl, hin, hb1⟩
  have HB1 := Lib.hid hb1
  have HC := Lib.hid (pTable_any paG na 4 la 3 4621819117588971520 2 w1 hin (by decide))
  clear hin hb1
  go_wp2_with fail
  refine HC.out.mono ?_
  rintro e w2 ⟨hb2, ⟨hne, -⟩ | ⟨-, hup, -⟩ | ⟨-, -, v, rfl, ho⟩⟩
  · exact absurd (ballE_zero.2 ⟨pa_check, aw_limit⟩) hne
  · rw [show upB paG.nodes 2 = true by decide] at hup; cases hup
  rw [pa_live, aw_qn] at ho
  obtain ⟨x1, x2, x3, e1, e2, e3, e4, e5, e6⟩ := pa_table
  rw [e1] at ho
  obtain ⟨g, cap, rfl, h1, h2, h3, h4⟩ := ho.range (by simp)
  have k0 : ∀ j u, (enRow [x1, x2, x3])[j]? = some u → w2.cell? ⟨g, j, none⟩ = some u := fun j u hj => by simpa using h3 j u hj
  have c0 : w2.cell? ⟨g, 0, none⟩ = some (.int .i64 1) := by rw [← e3]; exact k0 0 _ rfl
  have c1 : w2.cell? ⟨g, 1, none⟩ = some (.int .i64 1) := by have h := k0 1 _ (show _ = some (Value.int .i64 x1.kind) from rfl); rw [e2] at h; exact h
  have c6 : w2.cell? ⟨g, 6, none⟩ = some (.int .i64 3) := by rw [← e5]; exact k0 6 _ rfl
  have c7 : w2.cell? ⟨g, 7, none⟩ = some (.int .i64 2) := by rw [← e4]; exact k0 7 _ rfl
  have c12 : w2.cell? ⟨g, 12, none⟩ = some (.int .i64 4) := by rw [← e6]; exact k0 12 _ rfl
  have HB2 := Lib.hid (gNx HB1.out hb2)
  simp only [List.length_cons, List.length_nil] at *
  clear ho k0 h1 h2 h3 h4 e1 e2 e3 e4 e5 e6 hb2
  go_wp2_with fail
  go_ret
  exact ⟨rfl, HB2.out⟩
end Go.Proofs.YtjlfpjjfldbknaaGreat
