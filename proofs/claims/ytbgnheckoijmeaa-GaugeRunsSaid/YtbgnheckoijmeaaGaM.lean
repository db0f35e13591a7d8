/- Gauges: the document's own Run. -/
import Derived.Test.YtbgnheckoijmeaaGaL
namespace Go.Proofs.Ytbgnheckoijmeaa
open Go.Fq Go.RowKit Go.Lib
open Go.Iq (below_next block_lt)
set_option linter.unusedVariables false
set_option linter.unusedSimpArgs false

theorem own_set3' {w : World} {base : Nat} {e : TypeId} {v : Value} {n : Nat} {xs : List Value} {b : Nat} (h : w.ownsRow base e 1 v n xs) (hb : v.ownBlock ≠ some b) (x y z : Value) :
    (((w.setCell ⟨b, 0, none⟩ x).setCell ⟨b, 1, none⟩ y).setCell ⟨b, 2, none⟩ z).ownsRow base e 1 v n xs := by
  refine h.kept (row := some b) ⟨rfl, rfl, rfl, by simp, fun k hk hne => ?_⟩ (.inr hb)
  have hk : k ≠ b := fun e => hne (by rw [e])
  rw [Below.heap_setCell _ _ _ k hk, Below.heap_setCell _ _ _ k hk, Below.heap_setCell _ _ _ k hk]

/-- A row of floats does not lie where a gauge lies. -/
theorem own_apart {w : World} {base : Nat} {e : TypeId} {v : Value} {n : Nat} {zs : List Nat} {b : Nat} {N : Int} {M V : Nat} (h : w.ownsRow base e 1 v n (zs.map (Value.float .f64))) (hn : 0 < n) (g : G3 w b N M V) : v.ownBlock ≠ some b := by
  intro hb
  rcases h.2 with ⟨rfl, _⟩ | ⟨g', cap, cur, rfl, _⟩
  · simp [Value.ownBlock] at hb
  · simp only [Value.ownBlock, Option.some.injEq] at hb
    subst hb
    have hl : zs.length = n := by simpa using h.1
    have h0 := h.cellAt 0 (by omega)
    rw [g.1, List.getElem?_map, List.getElem?_eq_getElem (by omega), Option.map_some, Option.some.injEq] at h0
    cases h0

/-- What holds at the head of a round. -/
structure RefAt (w wr : World) (b3 b5 k : Nat) (zs : List Nat) (v : Value) (left : Int) : Prop where
  own : wr.ownsRow (b3 + 1) 22 1 v (runTo zs k).1.length ((runTo zs k).1.map (Value.float .f64))
  off : v.ownBlock ≠ some b5
  res : G3 wr b3 0 0 0
  gau : G3 wr b5 (runTo zs k).2.1 (runTo zs k).2.2.1 (runTo zs k).2.2.2
  bel : Below b3 w wr
  siz : b5 < wr.heap.size
  cnt : left = (k : Int) - ((runTo zs k).1.length : Int)

set_option maxHeartbeats 4000000 in
theorem run_ref (a : Option Addr) (len cap : Nat) (zs : List Nat) (w : World) (hI : IsFloats w a len zs) (hr : len * 8 ≤ 140737488351232) :
    Calls Try.prog 21 #[.slice a len cap] w fun e w' => ∃ (ao : Option Addr) (co : Nat), e = .returned (.tuple #[.slice ao (runTo zs len).1.length co, gaug (runTo zs len).2.1 (runTo zs len).2.2.1 (runTo zs len).2.2.2, .int .i64 ((len : Int) - ((runTo zs len).1.length : Int))]) ∧
      IsFloats w' ao (runTo zs len).1.length (runTo zs len).1 ∧ Below w.heap.size w w' := by
  have HI := Lib.hid hI
  clear hI
  have hst := g_store
  obtain ⟨i0, hi, hz0, hz1, hz2⟩ : ∃ i0, Try.prog.info? 22 = some i0 ∧ i0.zero = some (.float .f64 0) ∧ i0.size = 1 ∧ i0.bytes = 8 := by
    have h := infoFloat
    cases hi : Try.prog.info? 22 with
    | none => rw [hi] at h; cases h
    | some i =>
      rw [hi, Option.map_some, Option.some.injEq, Prod.mk.injEq, Prod.mk.injEq] at h
      exact ⟨i, rfl, h.1, h.2.1, h.2.2⟩
  have HS : Hid (RefAt w (((w.alloc (.cells #[.int .i64 0, .float .f64 0, .float .f64 0] 24)).alloc (.cells #[] 22)).alloc (.cells #[.int .i64 0, .float .f64 0, .float .f64 0] 24)) w.heap.size (w.heap.size + 1 + 1) 0 zs (.slice (some ⟨w.heap.size + 1, 0, none⟩) 0 0) 0) := Lib.hid (by
    have h1 := World.ownsRow_lit (base := w.heap.size + 1) (e := 22) (size := 1) (w.alloc (.cells #[.int .i64 0, .float .f64 0, .float .f64 0] 24)) #[] 0 (by simp) (by unfold maxLen; omega) rfl
    have h2 := G3.first ((w.alloc (.cells #[.int .i64 0, .float .f64 0, .float .f64 0] 24)).alloc (.cells #[] 22)) 0 0 0 24
    have h3 := (G3.second w 0 0 0 24 (.cells #[] 22)).below ((Below.refl _ _).alloc (Nat.le_refl _) (.cells #[.int .i64 0, .float .f64 0, .float .f64 0] 24)) (by simp; omega)
    simp only [World.size_alloc] at h1 h2
    exact ⟨h1.alloc _, by simp [Value.ownBlock], h3, h2, (below2 w _ _).alloc (by simp; omega) _, by simp, by show (0 : Int) = 0 - 0; omega⟩)
  go_enter Try.func21, Try.ntmps21
  go_wp2_with fail
  generalize hb3 : w.heap.size = b3 at *
  generalize hb5 : b3 + 1 + 1 = b5 at *
  go_loopw [7, 6, 8] (fun left v i wr => ∃ (k : Nat) (l : Int), k ≤ len ∧ i = .int .i64 k ∧ left = .int .i64 l ∧ RefAt w wr b3 b5 k zs v l) (fun _ _ i _ => len - (intOf i).toNat)
  case atStart => exact ⟨0, 0, Nat.zero_le _, rfl, rfl, HS.out⟩
  case round =>
    obtain ⟨k, l, hk, rfl, rfl, hR⟩ := hrel
    obtain ⟨hown, hoff, hres, hgau, hbel, hsiz, hcnt⟩ := hR
    obtain ⟨okl, okf, okn, okm, okv⟩ := runTo_ok zs k
    have HBel := Lib.hid hbel
    have H35 : Hid (b3 < b5 ∧ b3 + 1 ≤ wr.heap.size) := Lib.hid (by omega)
    by_cases hlt : k < len
    · obtain ⟨b, off, rfl, hc⟩ := HI.out.2.2 (by omega)
      have c := hc k hlt
      have cz : wr.cell? ⟨b, off + k, none⟩ = some (.float .f64 (zs.getD k 0)) := by
        rw [← c]; exact HBel.out.cell (p := ⟨b, off + k, none⟩) (by rw [← hb3]; exact block_lt c)
      have hz64 : zs.getD k 0 < 2 ^ 64 := by
        have hl : k < zs.length := by rw [HI.out.1]; exact hlt
        rw [List.getD_eq_getElem?_getD, List.getElem?_eq_getElem hl, Option.getD_some]; exact HI.out.2.1 _ (List.getElem_mem _)
      have hnext : runTo zs (k + 1) = runStep (runTo zs k) (zs.getD k 0) := rfl
      have HNext := Lib.hid hnext
      have HAt := Lib.hid (show ∀ (wr : World) (v : Value) (l : Int), (∀ st, runTo zs (k + 1) = st → wr.ownsRow (b3 + 1) 22 1 v st.1.length (st.1.map (Value.float .f64)) ∧ G3 wr b5 st.2.1 st.2.2.1 st.2.2.2 ∧ l = ((k + 1 : Nat) : Int) - (st.1.length : Int)) → v.ownBlock ≠ some b5 → G3 wr b3 0 0 0 → Below b3 w wr → b5 < wr.heap.size → RefAt w wr b3 b5 (k + 1) zs v l from
        fun wr v l h ho h3 hb hs => ⟨(h _ rfl).1, ho, h3, (h _ rfl).2.1, hb, hs, (h _ rfl).2.2⟩)
      have hlen : (runTo zs k).1.length < 17592186043904 := by omega
      have hb3l : b3 < wr.heap.size := by omega
      have hbw : b < wr.heap.size := block_lt cz
      clear c hc hbel hnext
      generalize runTo zs k = st at *
      obtain ⟨held, N, M, V⟩ := st
      generalize hz : zs.getD k 0 = z at *
      clear hz
      simp only at hown hgau okl okf okn okm okv hlen hcnt
      have HF := Lib.hid (fun w => reffeed_any N M V z okn okm okv hz64 w)
      have HK := Lib.hid (fun N' M' V' E (h : feedF N M V z = ((N', M', V'), E)) => feed_keeps okn h)
      have hstep : runStep (held, N, M, V) z = if (feedF N M V z).2 = 0 then (held ++ [heldF held (feedF N M V z).1], (feedF N M V z).1) else (held, N, M, V) := rfl
      rw [hstep] at HNext
      generalize feedF N M V z = r at *
      obtain ⟨⟨N', M', V'⟩, E⟩ := r
      have HE := HK.out _ _ _ _ rfl
      clear HK hstep
      simp only at HNext
      obtain ⟨ao, co, rfl, hnc, hfl, hnn⟩ := floats_of_own hown okf
      obtain ⟨c0, c1, c2, f0, f1, f2⟩ := id hgau
      have hK : ∀ w', Below wr.heap.size wr w' → HeldAt w' b5 b (off + k) N M V z := fun w' hb => ⟨hgau.below hb hsiz, by rw [hb.cell (p := ⟨b, off + k, none⟩) hbw]; exact cz⟩
      go_wp2_with fail
      go_region_held3 (fun w' => (w'.cell? ⟨b5, 0, none⟩ = some (.int .i64 N) ∧ w'.cell? ⟨b5, 1, none⟩ = some (.float .f64 M) ∧ w'.cell? ⟨b5, 2, none⟩ = some (.float .f64 V)) ∧ w'.cell? ⟨b, off + k, none⟩ = some (.float .f64 z) ∧ Below wr.heap.size wr w')
        (first | (exact keepH hK (Below.refl _ _)) | (exact keepH hK (Below.drew (Below.refl _ _))) | (exact keepH hK (by assumption)) | (exact keepH hK (allocH (by assumption))) | (exact keepH hK (allocB (by assumption))) | (exact keepH hK allocD) | (exact keepH hK (setB (by assumption) (by first | omega | (simp; omega) | simp))) | (exact keepH hK (setH (by assumption) (by first | omega | (simp; omega) | simp))))
        (first | (go_at_call 10; refine (HF.out _).mono ?_; rintro e w3 ⟨rfl, hb⟩; have hb3q := nextH (by assumption) hb; first | (obtain ⟨g0, g1, g2, q0, q1, q2⟩ := (show G3 w3 wr.heap.size 0 0 0 from (G3.first wr.drew 0 0 0 24).below hb (by simp))) | skip))
      rotate_left
      · have hq := set3_G3 (N := N') (M := M') (V := V') (show G3 w3 wr.heap.size 0 0 0 from ⟨g0, g1, g2, q0, q1, q2⟩)
        have hbq := setB (x := .int .i64 N') (y := .float .f64 M') (z := .float .f64 V') hb3q (Nat.le_refl _)
        clear hb hb3q g0 g1 g2 q0 q1 q2 c0 c1 c2 f0 f1 f2
        have hh := hK _ hbq
        generalize (((w3.setCell ⟨wr.heap.size, 0, none⟩ (.int .i64 N')).setCell ⟨wr.heap.size, 1, none⟩ (.float .f64 M')).setCell ⟨wr.heap.size, 2, none⟩ (.float .f64 V')) = wf at *
        obtain ⟨q0, q1, q2, _⟩ := id hq
        obtain ⟨hgf, _⟩ := hh
        have hrf := hres.below hbq hb3l
        have hof := own_below hown hbq
        obtain ⟨c0, c1, c2, f0, f1, f2⟩ := id hgf
        have hbf := hbq.size
        have hB1 := Lib.hid (show Below b3 w wf from HBel.out.trans (hbq.mono (by omega)))
        rcases HE with ⟨rfl, k1, k2, k3, k4⟩ | hne
        · rw [if_pos rfl] at HNext
          have hoX := own_set3' hof hoff (.int .i64 N') (.float .f64 M') (.float .f64 V')
          have hgX := set3_G3 (N := N') (M := M') (V := V') hgf
          have hrX := hrf.other (c := b5) (by have := H35.out; omega) (.int .i64 N') (.float .f64 M') (.float .f64 V')
          have hBX := set3B (x := .int .i64 N') (y := .float .f64 M') (z := .float .f64 V') hB1.out b5 (by have := H35.out; omega)
          have hsX : wf.heap.size ≤ (((wf.setCell ⟨b5, 0, none⟩ (.int .i64 N')).setCell ⟨b5, 1, none⟩ (.float .f64 M')).setCell ⟨b5, 2, none⟩ (.float .f64 V')).heap.size := by simp
          have HC := Lib.hid (fun w => refcost_any N' M' V' (by unfold infR at k3; omega) (by unfold infR at k4; omega) w)
          have hc64 := costF_lt N' M' V'
          have hheld : heldF held (N', M', V') = if held.length = 0 then (costF N' M' V').1 else (holdF (held.getD (held.length - 1) 0) (costF N' M' V').1).1 := rfl
          have hx64 := heldF_lt held (N', M', V') okf
          clear k1 k2 k3 k4
          generalize heldF held (N', M', V') = x at *
          generalize costF N' M' V' = cr at *
          obtain ⟨cw, cE⟩ := cr
          simp only at hheld hc64
          go_wp2_with fail
          clear c0 c1 c2 f0 f1 f2 q0 q1 q2 hq hgf hrf hof
          generalize (((wf.setCell ⟨b5, 0, none⟩ (.int .i64 N')).setCell ⟨b5, 1, none⟩ (.float .f64 M')).setCell ⟨b5, 2, none⟩ (.float .f64 V')) = wX at *
          refine (HC.out _).mono ?_
          rintro e w4 ⟨rfl, b4⟩
          have hs4 := b4.size
          have ho4 := own_below hoX b4
          have hg4 := hgX.below b4 (by omega)
          have hr4 := hrX.below b4 (by omega)
          have hB4 := Lib.hid (show Below b3 w w4 from hBX.trans (b4.mono (by omega)))
          have hrow : ∀ j, (Value.slice ao held.length co).ownBlock = some j → b3 + 1 ≤ j := fun j hj => (ho4.lt j hj).1
          have h1f := one_float w4 x hx64 22
          have hlenA : (held ++ [x]).length = held.length + 1 := by simp
          have hfin : ∀ (w5 : World) (v5 : Value), w5.ownsRow (b3 + 1) 22 1 v5 (held.length + 1) ((held ++ [x]).map (Value.float .f64)) → World.grownBy (w4.alloc (.cells #[.float .f64 x] 22)) w5 (Value.slice ao held.length co).ownBlock →
              RefAt w w5 b3 b5 (k + 1) zs v5 ((k : Int) - (held.length : Int)) := fun w5 v5 h5 g5 => by
            have hg5 := (hg4.below ((Below.refl _ _).alloc (Nat.le_refl _) (.cells #[.float .f64 x] 22)) (by omega)).grown g5 (by simp; omega) hoff
            have hr5 := (hr4.below ((Below.refl _ _).alloc (Nat.le_refl _) (.cells #[.float .f64 x] 22)) (by omega)).grown g5 (by simp; omega) (fun h => by have := hrow _ h; omega)
            have hB5 := Below.grown (hB4.out.alloc (by omega) (.cells #[.float .f64 x] 22)) g5 (by simp; omega) (fun j hj => by have := hrow _ hj; omega)
            have hs5 := g5.size
            simp only [World.size_alloc] at hs5
            refine HAt.out _ _ _ (fun st hst => by rw [← hst, HNext.out]; exact ⟨by show w5.ownsRow (b3 + 1) _ 1 v5 (held ++ [x]).length ((held ++ [x]).map (Value.float .f64)); rw [hlenA]; exact h5, hg5, by show (k : Int) - (held.length : Int) = ((k + 1 : Nat) : Int) - ((held ++ [x]).length : Int); rw [hlenA]; omega⟩) ?_ hr5 hB5 (by omega)
            exact own_apart h5 (by omega) hg5
          by_cases hl : held.length = 0
          · rw [if_pos hl] at hheld
            subst hheld
            obtain rfl : held = [] := List.eq_nil_of_length_eq_zero hl
            clear hl
            have ho40 : w4.ownsRow (b3 + 1) 22 1 (.slice ao 0 co) 0 (([] : List Nat).map (Value.float .f64)) := ho4
            have hfin0 : ∀ (w5 : World) (v5 : Value), w5.ownsRow (b3 + 1) 22 1 v5 (0 + 1) ((([] : List Nat) ++ [x]).map (Value.float .f64)) → World.grownBy (w4.alloc (.cells #[.float .f64 x] 22)) w5 (Value.slice ao 0 co).ownBlock → RefAt w w5 b3 b5 (k + 1) zs v5 (k : Int) := fun w5 v5 h g => by
              have h2 := hfin w5 v5 h g
              simpa using h2
            have HFin0 := Lib.hid hfin0
            clear hfin hfin0 ho4
            go_wp2_with (at_builtin; refine wpList_append_floats _ rfl _ _ 37 rfl (b3 + 1) 22 i0 Try.underlying37 hi hz0 hz1 hz2 _ 0 [] rfl (ho40.alloc _) (some ⟨w4.heap.size, 0, none⟩) 1 1 [x] rfl h1f (fun h => by cases h) (by unfold maxLen; omega) (by omega) (by simp; omega) ?_; intro v5 w5 hown5 (hgrow5 : World.grownBy _ _ (Value.slice ao 0 co).ownBlock); have HF5 := Lib.hid (HFin0.out _ _ hown5 hgrow5); clear hown5 hgrow5)
            exact ⟨⟨k + 1, _, by omega, by go_num, rfl, HF5.out⟩, by simp [intOf]; omega⟩
          · rw [if_neg hl] at hheld
            obtain ⟨a', c', he, _, hfX, _⟩ := floats_of_own ho4 okf
            obtain ⟨rfl, _, rfl⟩ := Value.slice.inj he
            obtain ⟨hb', hoff', rfl, hcell⟩ := hfX.2.2 (by omega)
            have clast := hcell (held.length - 1) (by omega)
            have hl64 : held.getD (held.length - 1) 0 < 2 ^ 64 := by
              have hl2 : held.length - 1 < held.length := by omega
              rw [List.getD_eq_getElem?_getD, List.getElem?_eq_getElem hl2, Option.getD_some]; exact okf _ (List.getElem_mem _)
            have HH := Lib.hid (fun w => refhold_any (held.getD (held.length - 1) 0) cw hl64 hc64 w)
            generalize held.getD (held.length - 1) 0 = y at *
            generalize holdF y cw = hr9 at *
            obtain ⟨hw9, hE9⟩ := hr9
            simp only at hheld
            subst hheld
            have hgt : decide (0 < (held.length : Int)) = true := decide_eq_true (by omega)
            have hpos : 0 < held.length := by omega
            have hcast : ((held.length - 1 : Nat) : Int) = (held.length : Int) - 1 := by omega
            clear hcell hfX he hl
            go_wp2_with (first | (go_at_call 19; refine (HH.out _).mono ?_; rintro e w' ⟨rfl, rfl⟩) | (at_builtin; refine wpList_append_floats _ rfl _ _ 37 rfl (b3 + 1) 22 i0 Try.underlying37 hi hz0 hz1 hz2 _ held.length held rfl (ho4.alloc _) (some ⟨w4.heap.size, 0, none⟩) 1 1 [x] rfl h1f (fun h => by cases h) (by unfold maxLen; omega) (by omega) (by simp; omega) ?_; intro v5 w5 hown5 (hgrow5 : World.grownBy _ _ (Value.slice (some ⟨hb', hoff', none⟩) held.length co).ownBlock); have HF5 := Lib.hid (hfin _ _ hown5 hgrow5); clear hown5 hgrow5))
            exact ⟨⟨k + 1, _, by omega, by go_num, rfl, HF5.out⟩, by simp [intOf]; omega⟩
        · rw [if_neg hne] at HNext
          have hne' : (E != 0) = true := by simpa using hne
          go_wp2_with fail
          go_roundw
          case rel => exact ⟨k + 1, (k : Int) - (held.length : Int) + 1, by omega, by go_num, by first | rfl | (congr 1; go_arith), HAt.out _ _ _ (fun st hst => by rw [← hst, HNext.out]; exact ⟨hof, hgf, by show (k : Int) - (held.length : Int) + 1 = ((k + 1 : Nat) : Int) - (held.length : Int); omega⟩) hoff hrf hB1.out (by omega)⟩
          case measure => simp [intOf]; omega
      · have hq := G3.first w3 N' M' V' 24
        have hbq : Below wr.heap.size wr (w3.alloc (.cells #[.int .i64 N', .float .f64 M', .float .f64 V'] 24)) := allocB hb3q
        clear hb hb3q c0 c1 c2 f0 f1 f2
        have hh := hK _ hbq
        generalize w3.alloc (.cells #[.int .i64 N', .float .f64 M', .float .f64 V'] 24) = wf at *
        obtain ⟨q0, q1, q2, _⟩ := id hq
        obtain ⟨hgf, _⟩ := hh
        have hrf := hres.below hbq hb3l
        have hof := own_below hown hbq
        obtain ⟨c0, c1, c2, f0, f1, f2⟩ := id hgf
        have hbf := hbq.size
        have hB1 := Lib.hid (show Below b3 w wf from HBel.out.trans (hbq.mono (by omega)))
        rcases HE with ⟨rfl, k1, k2, k3, k4⟩ | hne
        · rw [if_pos rfl] at HNext
          have hoX := own_set3' hof hoff (.int .i64 N') (.float .f64 M') (.float .f64 V')
          have hgX := set3_G3 (N := N') (M := M') (V := V') hgf
          have hrX := hrf.other (c := b5) (by have := H35.out; omega) (.int .i64 N') (.float .f64 M') (.float .f64 V')
          have hBX := set3B (x := .int .i64 N') (y := .float .f64 M') (z := .float .f64 V') hB1.out b5 (by have := H35.out; omega)
          have hsX : wf.heap.size ≤ (((wf.setCell ⟨b5, 0, none⟩ (.int .i64 N')).setCell ⟨b5, 1, none⟩ (.float .f64 M')).setCell ⟨b5, 2, none⟩ (.float .f64 V')).heap.size := by simp
          have HC := Lib.hid (fun w => refcost_any N' M' V' (by unfold infR at k3; omega) (by unfold infR at k4; omega) w)
          have hc64 := costF_lt N' M' V'
          have hheld : heldF held (N', M', V') = if held.length = 0 then (costF N' M' V').1 else (holdF (held.getD (held.length - 1) 0) (costF N' M' V').1).1 := rfl
          have hx64 := heldF_lt held (N', M', V') okf
          clear k1 k2 k3 k4
          generalize heldF held (N', M', V') = x at *
          generalize costF N' M' V' = cr at *
          obtain ⟨cw, cE⟩ := cr
          simp only at hheld hc64
          go_wp2_with fail
          clear c0 c1 c2 f0 f1 f2 q0 q1 q2 hq hgf hrf hof
          generalize (((wf.setCell ⟨b5, 0, none⟩ (.int .i64 N')).setCell ⟨b5, 1, none⟩ (.float .f64 M')).setCell ⟨b5, 2, none⟩ (.float .f64 V')) = wX at *
          refine (HC.out _).mono ?_
          rintro e w4 ⟨rfl, b4⟩
          have hs4 := b4.size
          have ho4 := own_below hoX b4
          have hg4 := hgX.below b4 (by omega)
          have hr4 := hrX.below b4 (by omega)
          have hB4 := Lib.hid (show Below b3 w w4 from hBX.trans (b4.mono (by omega)))
          have hrow : ∀ j, (Value.slice ao held.length co).ownBlock = some j → b3 + 1 ≤ j := fun j hj => (ho4.lt j hj).1
          have h1f := one_float w4 x hx64 22
          have hlenA : (held ++ [x]).length = held.length + 1 := by simp
          have hfin : ∀ (w5 : World) (v5 : Value), w5.ownsRow (b3 + 1) 22 1 v5 (held.length + 1) ((held ++ [x]).map (Value.float .f64)) → World.grownBy (w4.alloc (.cells #[.float .f64 x] 22)) w5 (Value.slice ao held.length co).ownBlock →
              RefAt w w5 b3 b5 (k + 1) zs v5 ((k : Int) - (held.length : Int)) := fun w5 v5 h5 g5 => by
            have hg5 := (hg4.below ((Below.refl _ _).alloc (Nat.le_refl _) (.cells #[.float .f64 x] 22)) (by omega)).grown g5 (by simp; omega) hoff
            have hr5 := (hr4.below ((Below.refl _ _).alloc (Nat.le_refl _) (.cells #[.float .f64 x] 22)) (by omega)).grown g5 (by simp; omega) (fun h => by have := hrow _ h; omega)
            have hB5 := Below.grown (hB4.out.alloc (by omega) (.cells #[.float .f64 x] 22)) g5 (by simp; omega) (fun j hj => by have := hrow _ hj; omega)
            have hs5 := g5.size
            simp only [World.size_alloc] at hs5
            refine HAt.out _ _ _ (fun st hst => by rw [← hst, HNext.out]; exact ⟨by show w5.ownsRow (b3 + 1) _ 1 v5 (held ++ [x]).length ((held ++ [x]).map (Value.float .f64)); rw [hlenA]; exact h5, hg5, by show (k : Int) - (held.length : Int) = ((k + 1 : Nat) : Int) - ((held ++ [x]).length : Int); rw [hlenA]; omega⟩) ?_ hr5 hB5 (by omega)
            exact own_apart h5 (by omega) hg5
          by_cases hl : held.length = 0
          · rw [if_pos hl] at hheld
            subst hheld
            obtain rfl : held = [] := List.eq_nil_of_length_eq_zero hl
            clear hl
            have ho40 : w4.ownsRow (b3 + 1) 22 1 (.slice ao 0 co) 0 (([] : List Nat).map (Value.float .f64)) := ho4
            have hfin0 : ∀ (w5 : World) (v5 : Value), w5.ownsRow (b3 + 1) 22 1 v5 (0 + 1) ((([] : List Nat) ++ [x]).map (Value.float .f64)) → World.grownBy (w4.alloc (.cells #[.float .f64 x] 22)) w5 (Value.slice ao 0 co).ownBlock → RefAt w w5 b3 b5 (k + 1) zs v5 (k : Int) := fun w5 v5 h g => by
              have h2 := hfin w5 v5 h g
              simpa using h2
            have HFin0 := Lib.hid hfin0
            clear hfin hfin0 ho4
            go_wp2_with (at_builtin; refine wpList_append_floats _ rfl _ _ 37 rfl (b3 + 1) 22 i0 Try.underlying37 hi hz0 hz1 hz2 _ 0 [] rfl (ho40.alloc _) (some ⟨w4.heap.size, 0, none⟩) 1 1 [x] rfl h1f (fun h => by cases h) (by unfold maxLen; omega) (by omega) (by simp; omega) ?_; intro v5 w5 hown5 (hgrow5 : World.grownBy _ _ (Value.slice ao 0 co).ownBlock); have HF5 := Lib.hid (HFin0.out _ _ hown5 hgrow5); clear hown5 hgrow5)
            exact ⟨⟨k + 1, _, by omega, by go_num, rfl, HF5.out⟩, by simp [intOf]; omega⟩
          · rw [if_neg hl] at hheld
            obtain ⟨a', c', he, _, hfX, _⟩ := floats_of_own ho4 okf
            obtain ⟨rfl, _, rfl⟩ := Value.slice.inj he
            obtain ⟨hb', hoff', rfl, hcell⟩ := hfX.2.2 (by omega)
            have clast := hcell (held.length - 1) (by omega)
            have hl64 : held.getD (held.length - 1) 0 < 2 ^ 64 := by
              have hl2 : held.length - 1 < held.length := by omega
              rw [List.getD_eq_getElem?_getD, List.getElem?_eq_getElem hl2, Option.getD_some]; exact okf _ (List.getElem_mem _)
            have HH := Lib.hid (fun w => refhold_any (held.getD (held.length - 1) 0) cw hl64 hc64 w)
            generalize held.getD (held.length - 1) 0 = y at *
            generalize holdF y cw = hr9 at *
            obtain ⟨hw9, hE9⟩ := hr9
            simp only at hheld
            subst hheld
            have hgt : decide (0 < (held.length : Int)) = true := decide_eq_true (by omega)
            have hpos : 0 < held.length := by omega
            have hcast : ((held.length - 1 : Nat) : Int) = (held.length : Int) - 1 := by omega
            clear hcell hfX he hl
            go_wp2_with (first | (go_at_call 19; refine (HH.out _).mono ?_; rintro e w' ⟨rfl, rfl⟩) | (at_builtin; refine wpList_append_floats _ rfl _ _ 37 rfl (b3 + 1) 22 i0 Try.underlying37 hi hz0 hz1 hz2 _ held.length held rfl (ho4.alloc _) (some ⟨w4.heap.size, 0, none⟩) 1 1 [x] rfl h1f (fun h => by cases h) (by unfold maxLen; omega) (by omega) (by simp; omega) ?_; intro v5 w5 hown5 (hgrow5 : World.grownBy _ _ (Value.slice (some ⟨hb', hoff', none⟩) held.length co).ownBlock); have HF5 := Lib.hid (hfin _ _ hown5 hgrow5); clear hown5 hgrow5))
            exact ⟨⟨k + 1, _, by omega, by go_num, rfl, HF5.out⟩, by simp [intOf]; omega⟩
        · rw [if_neg hne] at HNext
          have hne' : (E != 0) = true := by simpa using hne
          go_wp2_with fail
          go_roundw
          case rel => exact ⟨k + 1, (k : Int) - (held.length : Int) + 1, by omega, by go_num, by first | rfl | (congr 1; go_arith), HAt.out _ _ _ (fun st hst => by rw [← hst, HNext.out]; exact ⟨hof, hgf, by show (k : Int) - (held.length : Int) + 1 = ((k + 1 : Nat) : Int) - (held.length : Int); omega⟩) hoff hrf hB1.out (by omega)⟩
          case measure => simp [intOf]; omega
    · obtain rfl : k = len := by omega
      clear HS
      obtain ⟨st, hst0⟩ : ∃ st, runTo zs k = st := ⟨_, rfl⟩
      have HST := Lib.hid hst0
      rw [hst0] at hown hgau okl okf okn okm okv hcnt
      clear hst0
      obtain ⟨held, N, M, V⟩ := st
      simp only at hown hgau okl okf okn okm okv hcnt
      obtain ⟨ao, co, rfl, hnc, hfl, hnn⟩ := floats_of_own hown okf
      have ho2 := own_set3 hown (b := b3) (by omega) (.int .i64 N) (.float .f64 M) (.float .f64 V)
      obtain ⟨a', c', he, _, hfX, _⟩ := floats_of_own ho2 okf
      obtain ⟨rfl, _, rfl⟩ := Value.slice.inj he
      have HX := Lib.hid hfX
      have HB9 := Lib.hid (set3B (x := .int .i64 N) (y := .float .f64 M) (z := .float .f64 V) HBel.out b3 (by omega))
      clear he hfX ho2 okf okn okm okv hfl
      obtain ⟨c0, c1, c2, f0, f1, f2⟩ := id hgau
      obtain ⟨d0, d1, d2, q0, q1, q2⟩ := id hres
      have hne35 : b5 ≠ b3 := by have := H35.out; omega
      go_wp2_with fail
      go_region_with (fail)
      all_goals go_wp2_with fail
      all_goals
        (try simp only [Exit.inBlock, Exit.then])
        refine bodyPost_ret (v := .tuple #[.slice ao held.length co, gaug N M V, .int .i64 ((k : Int) - (held.length : Int))]) (by simp [results, Try.results21, go_sem, d0, d1, d2]) rfl ?_
        exact ⟨ao, co, by rw [HST.out], by rw [HST.out]; exact HX.out, by rw [hb3]; exact HB9.out.drew⟩
end Go.Proofs.Ytbgnheckoijmeaa
