/- Paths: what goes up a heap, what goes down. -/
import Derived.Test.YtjlfpjjfldbknaaGreatPtA
import Derived.Handy
import Derived.Deep.LoopGhost
namespace Go.Proofs.YtjlfpjjfldbknaaGreat
open Go.RowKit Go.Lib Go.Fq Go.Pq Go.Ow
set_option linter.unusedVariables false
set_option linter.unusedSimpArgs false
set_option maxRecDepth 100000

/-- A queue in memory: its struct's block q holds the row. -/
structure QAt (w : World) (base q : Nat) (v : Value) (L : List Sp) : Prop where
  qb : w.heap[q]? = some (.cells #[v] 132 (0, 0))
  row : RowAt w base v L
  few : Few L
theorem QAt.below {w w' : World} {base q : Nat} {v : Value} {L : List Sp} (h : QAt w base q v L) (hb : Below w.heap.size w w') : QAt w' base q v L :=
  ⟨(hb.block q (Array.getElem?_eq_some_iff.1 h.qb).1).trans h.qb, h.row.below hb, h.few⟩
theorem QAt.cell {w : World} {base q : Nat} {v : Value} {L : List Sp} (h : QAt w base q v L) : w.cell? ⟨q, 0, none⟩ = some v := by
  rw [cell_of_row w q 0 _ _ (0, 0) h.qb]; rfl
theorem mLess0 (q : Nat) (w : World) : (Go.method 272 162 (.pointer (some ⟨q, 0, none⟩)) "Less").run Tryz.prog w = (do let x ← loadVar 130 ⟨q, 0, none⟩; pure (126, x)).run Tryz.prog w := by kernel_rfl
theorem mLess (q : Nat) (v : Value) (w : World) (h : w.cell? ⟨q, 0, none⟩ = some v) : (Go.method 272 162 (.pointer (some ⟨q, 0, none⟩)) "Less").run Tryz.prog w = .ok (126, v) w := by
  rw [mLess0]
  simp [go_sem, h]
theorem mSwap0 (q : Nat) (w : World) : (Go.method 272 162 (.pointer (some ⟨q, 0, none⟩)) "Swap").run Tryz.prog w = (do let x ← loadVar 130 ⟨q, 0, none⟩; pure (127, x)).run Tryz.prog w := by kernel_rfl
theorem mSwap (q : Nat) (v : Value) (w : World) (h : w.cell? ⟨q, 0, none⟩ = some v) : (Go.method 272 162 (.pointer (some ⟨q, 0, none⟩)) "Swap").run Tryz.prog w = .ok (127, v) w := by
  rw [mSwap0]
  simp [go_sem, h]
theorem mLen0 (q : Nat) (w : World) : (Go.method 272 162 (.pointer (some ⟨q, 0, none⟩)) "Len").run Tryz.prog w = (do let x ← loadVar 130 ⟨q, 0, none⟩; pure (125, x)).run Tryz.prog w := by kernel_rfl
theorem mLen (q : Nat) (v : Value) (w : World) (h : w.cell? ⟨q, 0, none⟩ = some v) : (Go.method 272 162 (.pointer (some ⟨q, 0, none⟩)) "Len").run Tryz.prog w = .ok (125, v) w := by
  rw [mLen0]
  simp [go_sem, h]
theorem mPush (q : Nat) (w : World) : (Go.method 272 162 (.pointer (some ⟨q, 0, none⟩)) "Push").run Tryz.prog w = .ok (130, .pointer (some ⟨q, 0, none⟩)) w := by kernel_rfl
theorem mPop (q : Nat) (w : World) : (Go.method 272 162 (.pointer (some ⟨q, 0, none⟩)) "Pop").run Tryz.prog w = .ok (129, .pointer (some ⟨q, 0, none⟩)) w := by kernel_rfl
theorem bSwap_n (n g cap : Nat) (L : List Sp) (base i k : Nat) (w : World) (hl : L.length = n) (h : RowAt w base (.slice (some ⟨g, 0, none⟩) n cap) L) (hi : i < n) (hk : k < n) :
    Calls Tryz.prog 127 #[.slice (some ⟨g, 0, none⟩) n cap, .int .i64 (i : Int), .int .i64 (k : Int)] w fun e w' => e = .returned (.tuple #[]) ∧ RowAt w' base (.slice (some ⟨g, 0, none⟩) n cap) (swp L i k) ∧ ∀ q, Kq q (.slice (some ⟨g, 0, none⟩) n cap) (.slice (some ⟨g, 0, none⟩) n cap) w w' := by
  subst hl
  exact bSwap_any g cap L base i k w h hi hk
/-- The struct's block is no row's block. -/
theorem QAt.apart {q base : Nat} {v : Value} {L : List Sp} {w : World} (h : QAt w base q v L) : NotRow v q := by
  intro n c hv
  rcases h.row with ⟨h1, h2, a, h3⟩ | ⟨g, cap, cur, h3, hb, hg, hc, hm, hs, hx⟩
  · rw [h3] at hv; cases hv; rfl
  · rw [h3] at hv
    simp only [Value.slice.injEq, Option.some.injEq, Addr.mk.injEq, and_true] at hv
    obtain ⟨rfl, _⟩ := hv
    have := h.qb
    rw [hg] at this
    cases this
/-- The queue behind a change of its row alone, the struct's block as it was. -/
theorem QAt.turn {q base : Nat} {v : Value} {L L' : List Sp} {w w' : World} (h : QAt w base q v L) (hk : ∀ q2, Kq q2 v v w w') (hr : RowAt w' base v L') (hf : Few L') : QAt w' base q v L' :=
  ⟨((hk (q + 1)).block q (Array.getElem?_eq_some_iff.1 h.qb).1 (by omega) h.apart).trans h.qb, hr, hf⟩
set_option maxHeartbeats 4000000 in
theorem hUp_any (g cap base q j : Nat) (L : List Sp) (w : World) (h : QAt w base q (.slice (some ⟨g, 0, none⟩) L.length cap) L) (hj : j < L.length) (hn : L.length < 4611686018427387904) (hu : UpI L L.length j) :
    Calls Tryz.prog 123 #[.iface 162 (.pointer (some ⟨q, 0, none⟩)), .int .i64 (j : Int)] w fun e w' => e = .returned (.tuple #[]) ∧ ∃ L', L'.length = L.length ∧ Mix L L' L.length ∧ HeapP L' L.length ∧ QAt w' base q (.slice (some ⟨g, 0, none⟩) L.length cap) L' ∧ Kq q (.slice (some ⟨g, 0, none⟩) L.length cap) (.slice (some ⟨g, 0, none⟩) L.length cap) w w' := by
  have H0 := Lib.hid h
  have hc := h.cell
  clear h
  go_enter Tryz.func123, Tryz.ntmps123
  go_wp2_with fail
  go_loopg [1] j (fun k v wr => v = .int .i64 (k : Int) ∧ k < L.length ∧ ∃ L', L'.length = L.length ∧ Mix L L' L.length ∧ UpI L' L.length k ∧ QAt wr base q (.slice (some ⟨g, 0, none⟩) L.length cap) L' ∧ Kq q (.slice (some ⟨g, 0, none⟩) L.length cap) (.slice (some ⟨g, 0, none⟩) L.length cap) w wr)
  case atStart => exact ⟨rfl, hj, L, rfl, Mix.refl _ _, hu, H0.out, Kq.of_below (Below.refl _ _)⟩
  case round =>
    obtain ⟨rfl, hk, L', hl, hm, hup, hQ, hK⟩ := hrel
    have HM := Lib.hid hm
    have HU := Lib.hid hup
    have HQ := Lib.hid hQ
    have HK := Lib.hid hK
    clear hm hup hQ hK hc
    by_cases h0 : gk = 0
    · subst h0
      have hp : (((0 : Nat) : Int) - 1) = -1 := by omega
      go_wp2_with fail
      refine bodyPost_end (results_none rfl _ _ _) rfl ?_
      exact ⟨rfl, L', hl, HM.out, up_end0 HU.out, HQ.out, HK.out⟩
    · have hw : IntKind.i64.wrap ((gk : Int) - 1) = (gk : Int) - 1 := by rw [IntKind.wrap_i64]; omega
      have hd : wrap64 (((gk : Int) - 1).tdiv 2) = (par gk : Int) := by
        rw [Int.tdiv_eq_ediv_of_nonneg (by omega)]
        unfold par wrap64; omega
      have hpl : par gk < gk := par_lt (by omega)
      have hne : ((par gk : Int) == (gk : Int)) = false := by rw [beq_eq_false_iff_ne]; omega
      have HC := Lib.hid (bLess_any (.slice (some ⟨g, 0, none⟩) L.length cap) L' base gk (par gk) wr HQ.out.row HQ.out.few (by omega) (by omega))
      have m1 := mLess q _ wr HQ.out.cell
      generalize hpp : par gk = pp at *
      have HPP := Lib.hid hpp
      have HN := Lib.hid hn
      have HL := Lib.hid hl
      clear hpp hn
      cases hls : lessS (at_ L' gk) (at_ L' pp) with
      | false =>
        rw [hls] at HC
        go_wp2_with (go_at_call 126; refine HC.out.mono ?_; rintro e w' ⟨rfl, hb2⟩; have HB2 := Lib.hid hb2; clear hb2)
        refine bodyPost_end (results_none rfl _ _ _) rfl ?_
        exact ⟨rfl, L', hl, HM.out, up_end HU.out (by rw [HPP.out]; exact hls), HQ.out.below HB2.out, HK.out.shut HB2.out⟩
      | true =>
        rw [hls] at HC
        have HS := Lib.hid (fun W (hW : Below wr.heap.size wr W) => bSwap_n L.length g cap L' base pp gk W hl (HQ.out.row.below hW) (by omega) (by omega))
        have HM2 : Hid (∀ W, Below wr.heap.size wr W → W.cell? ⟨q, 0, none⟩ = some (.slice (some ⟨g, 0, none⟩) L.length cap)) := Lib.hid (fun W hW => (HQ.out.below hW).cell)
        go_wp2_with (go_at_call 126; refine HC.out.mono ?_; rintro e w' ⟨rfl, hb2⟩; have m2 := mSwap q _ w' (HM2.out w' hb2); have HB2 := Lib.hid hb2; clear hb2)
        refine (HS.out _ HB2.out).mono ?_
        rintro e w3 ⟨rfl, hr3, hk3⟩
        have HR3 := Lib.hid hr3
        have HK3 := Lib.hid hk3
        clear hr3 hk3 m1 m2
        go_wp2_with fail
        go_roundg pp
        case measure => exact hpl
        case rel =>
          have hpl2 : pp < L.length := by omega
          have hg2 : gk < L'.length := by omega
          have hs1 := swp_len L' pp gk
          have hq2 := (HQ.out.below HB2.out).turn HK3.out HR3.out (few_swp HQ.out.few (by omega) hg2)
          refine ⟨rfl, hpl2, swp L' pp gk, by omega, HM.out.trans (mix_swp (by omega) hpl2 (by omega)), ?_, hq2, (HK.out.shut HB2.out).trans (HK3.out q)⟩
          have := up_step (l := L') (n := L.length) (j := gk) (by omega) (by omega) (by omega) HU.out (by rw [HPP.out]; exact hls)
          rw [HPP.out] at this
          exact this
set_option maxHeartbeats 8000000 in
theorem hDown_any (g cap base q n : Nat) (L : List Sp) (w : World) (h : QAt w base q (.slice (some ⟨g, 0, none⟩) L.length cap) L) (hnl : n ≤ L.length) (hn : L.length < 1152921504606846976) (hu : DownI L n 0) :
    Calls Tryz.prog 124 #[.iface 162 (.pointer (some ⟨q, 0, none⟩)), .int .i64 0, .int .i64 (n : Int)] w fun e w' => (∃ b, e = .returned (.bool b)) ∧ ∃ L', Mix L L' n ∧ HeapP L' n ∧ QAt w' base q (.slice (some ⟨g, 0, none⟩) L.length cap) L' ∧ Kq q (.slice (some ⟨g, 0, none⟩) L.length cap) (.slice (some ⟨g, 0, none⟩) L.length cap) w w' := by
  have H0 := Lib.hid h
  have HN := Lib.hid hn
  clear h hn
  go_enter Tryz.func124, Tryz.ntmps124
  go_wp2_with fail
  go_loopg [7] n (fun gk v wr => ∃ k : Nat, v = .int .i64 (k : Int) ∧ gk = n - k ∧ k ≤ n ∧ ∃ L', Mix L L' n ∧ DownI L' n k ∧ QAt wr base q (.slice (some ⟨g, 0, none⟩) L.length cap) L' ∧ Kq q (.slice (some ⟨g, 0, none⟩) L.length cap) (.slice (some ⟨g, 0, none⟩) L.length cap) w wr)
  case atStart => exact ⟨0, rfl, by omega, by omega, L, Mix.refl _ _, hu, H0.out, Kq.of_below (Below.refl _ _)⟩
  case round =>
    obtain ⟨k, rfl, hgk, hk, L', hm, hd, hQ, hK⟩ := hrel
    have hll := hm.1
    have HM := Lib.hid hm
    have HD := Lib.hid hd
    have HQ := Lib.hid hQ
    have HK := Lib.hid hK
    have HCE : Hid (∀ W, Below wr.heap.size wr W → W.cell? ⟨q, 0, none⟩ = some (.slice (some ⟨g, 0, none⟩) L.length cap)) := Lib.hid (fun W hW => (HQ.out.below hW).cell)
    clear hm hd hQ hK hu
    subst hgk
    obtain ⟨j1, hj1⟩ : ∃ j1, j1 = 2 * k + 1 := ⟨_, rfl⟩
    have hkn : k < 1152921504606846976 := by have := HN.out; omega
    have w1 : IntKind.i64.wrap (2 * (k : Int)) = 2 * (k : Int) := by rw [IntKind.wrap_i64]; omega
    have w2 : IntKind.i64.wrap (2 * (k : Int) + 1) = (j1 : Int) := by rw [IntKind.wrap_i64]; omega
    by_cases hleaf : n ≤ j1
    · have hl1 : (n : Int) ≤ (j1 : Int) := by omega
      have HJ1 := Lib.hid hj1
      clear hj1
      go_wp2_with fail
      refine bodyPost_ret (v := .bool (decide (0 < k))) (by simp [results, Tryz.results124, go_sem]) rfl ?_
      exact ⟨⟨_, rfl⟩, L', HM.out, down_leaf (by have := HJ1.out; omega) HD.out, HQ.out, HK.out⟩
    · have hl1 : ¬ (n : Int) ≤ (j1 : Int) := by omega
      have hl2 : ¬ (j1 : Int) < 0 := by omega
      obtain ⟨j2, hj2⟩ : ∃ j2, j2 = 2 * k + 2 := ⟨_, rfl⟩
      have w3 : IntKind.i64.wrap ((j1 : Int) + 1) = (j2 : Int) := by rw [IntKind.wrap_i64]; omega
      by_cases hj2n : n ≤ j2
      · have hl3 : ¬ (j2 : Int) < (n : Int) := by omega
        have HLEAST := Lib.hid (show ∀ c, 0 < c → c < n → par c = k → leS (at_ L' j1) (at_ L' c) by rw [hj1]; exact child_one (by omega))
        have HJN : Hid (k < j1 ∧ j1 < n) := Lib.hid (by omega)
        have HC2 := Lib.hid (fun W (hW : Below wr.heap.size wr W) => bLess_any (.slice (some ⟨g, 0, none⟩) L.length cap) L' base j1 k W (HQ.out.row.below hW) HQ.out.few (by omega) (by omega))
        have HS := Lib.hid (fun W (hW : Below wr.heap.size wr W) => bSwap_n L.length g cap L' base k j1 W (by omega) (HQ.out.row.below hW) (by omega) (by omega))
        have m1 := mLess q _ wr (HCE.out wr (Below.refl _ _))
        have HJ1 := Lib.hid hj1
        clear hj1 hj2 hll
        go_wp2_with fail
        cases hls : lessS (at_ L' j1) (at_ L' k) with
        | false =>
          rw [hls] at HC2
          refine (HC2.out _ (Below.refl _ _)).mono ?_
          rintro e w2 ⟨rfl, hb2⟩
          have HB2 := Lib.hid (gNx (Below.refl _ _) hb2)
          clear hb2 m1
          have HLS := Lib.hid hls
          clear hls
          go_wp2_with fail
          refine bodyPost_ret (v := .bool (decide (0 < k))) (by simp [results, Tryz.results124, go_sem]) rfl ?_
          exact ⟨⟨_, rfl⟩, L', HM.out, down_end HD.out HLEAST.out HLS.out, HQ.out.below HB2.out, HK.out.shut HB2.out⟩
        | true =>
          rw [hls] at HC2
          refine (HC2.out _ (Below.refl _ _)).mono ?_
          rintro e w2 ⟨rfl, hb2⟩
          have HB2 := Lib.hid (gNx (Below.refl _ _) hb2)
          clear hb2 m1
          have HLS := Lib.hid hls
          clear hls
          have m3 := mSwap q _ w2 (HCE.out w2 HB2.out)
          go_wp2_with fail
          refine (HS.out _ HB2.out).mono ?_
          rintro e w3 ⟨rfl, hr3, hk3⟩
          have HR3 := Lib.hid hr3
          have HK3 := Lib.hid hk3
          clear hr3 hk3 m3
          go_wp2_with fail
          go_roundg (n - j1)
          case measure => have := HJN.out; omega
          case rel =>
            have hjn := HJN.out
            have hj1 := HJ1.out
            have hll := HM.out.1
            have hs1 := swp_len L' k j1
            have hg1 : k < L'.length := by omega
            have hg2 : j1 < L'.length := by omega
            have hq2 := (HQ.out.below HB2.out).turn HK3.out HR3.out (few_swp HQ.out.few hg1 hg2)
            exact ⟨j1, rfl, rfl, by omega, swp L' k j1, HM.out.trans (mix_swp (by omega) (by omega) (by omega)), down_step (by omega) (by omega) (by unfold par; omega) (by omega) HD.out HLEAST.out HLS.out, hq2, (HK.out.shut HB2.out).trans (HK3.out q)⟩
      · have hl3 : (j2 : Int) < (n : Int) := by omega
        have HC1 := Lib.hid (bLess_any (.slice (some ⟨g, 0, none⟩) L.length cap) L' base j2 j1 wr HQ.out.row HQ.out.few (by omega) (by omega))
        have m1 := mLess q _ wr (HCE.out wr (Below.refl _ _))
        cases hch : lessS (at_ L' j2) (at_ L' j1) with
        | false =>
          rw [hch] at HC1
          have HLEAST := Lib.hid (show ∀ c, 0 < c → c < n → par c = k → leS (at_ L' j1) (at_ L' c) by rw [hj1]; rw [hj1, hj2] at hch; exact child_left hch)
          have HJN : Hid (k < j1 ∧ j1 < n) := Lib.hid (by omega)
          have HC2 := Lib.hid (fun W (hW : Below wr.heap.size wr W) => bLess_any (.slice (some ⟨g, 0, none⟩) L.length cap) L' base j1 k W (HQ.out.row.below hW) HQ.out.few (by omega) (by omega))
          have HS := Lib.hid (fun W (hW : Below wr.heap.size wr W) => bSwap_n L.length g cap L' base k j1 W (by omega) (HQ.out.row.below hW) (by omega) (by omega))
          have HJ1 := Lib.hid hj1
          clear hj1 hj2 hch hll
          go_wp2_with fail
          refine HC1.out.mono ?_
          rintro e w1' ⟨rfl, hb1⟩
          have HB1 := Lib.hid hb1
          clear hb1 m1
          have m1 := mLess q _ w1' (HCE.out w1' HB1.out)
          go_wp2_with fail
          cases hls : lessS (at_ L' j1) (at_ L' k) with
          | false =>
            rw [hls] at HC2
            refine (HC2.out _ HB1.out).mono ?_
            rintro e w2 ⟨rfl, hb2⟩
            have HB2 := Lib.hid (gNx HB1.out hb2)
            clear hb2 m1
            have HLS := Lib.hid hls
            clear hls
            go_wp2_with fail
            refine bodyPost_ret (v := .bool (decide (0 < k))) (by simp [results, Tryz.results124, go_sem]) rfl ?_
            exact ⟨⟨_, rfl⟩, L', HM.out, down_end HD.out HLEAST.out HLS.out, HQ.out.below HB2.out, HK.out.shut HB2.out⟩
          | true =>
            rw [hls] at HC2
            refine (HC2.out _ HB1.out).mono ?_
            rintro e w2 ⟨rfl, hb2⟩
            have HB2 := Lib.hid (gNx HB1.out hb2)
            clear hb2 m1
            have HLS := Lib.hid hls
            clear hls
            have m3 := mSwap q _ w2 (HCE.out w2 HB2.out)
            go_wp2_with fail
            refine (HS.out _ HB2.out).mono ?_
            rintro e w3 ⟨rfl, hr3, hk3⟩
            have HR3 := Lib.hid hr3
            have HK3 := Lib.hid hk3
            clear hr3 hk3 m3
            go_wp2_with fail
            go_roundg (n - j1)
            case measure => have := HJN.out; omega
            case rel =>
              have hjn := HJN.out
              have hj1 := HJ1.out
              have hll := HM.out.1
              have hs1 := swp_len L' k j1
              have hg1 : k < L'.length := by omega
              have hg2 : j1 < L'.length := by omega
              have hq2 := (HQ.out.below HB2.out).turn HK3.out HR3.out (few_swp HQ.out.few hg1 hg2)
              exact ⟨j1, rfl, rfl, by omega, swp L' k j1, HM.out.trans (mix_swp (by omega) (by omega) (by omega)), down_step (by omega) (by omega) (by unfold par; omega) (by omega) HD.out HLEAST.out HLS.out, hq2, (HK.out.shut HB2.out).trans (HK3.out q)⟩
        | true =>
          rw [hch] at HC1
          have HLEAST := Lib.hid (show ∀ c, 0 < c → c < n → par c = k → leS (at_ L' j2) (at_ L' c) by rw [hj2]; rw [hj1, hj2] at hch; exact child_right hch)
          have HJN : Hid (k < j2 ∧ j2 < n) := Lib.hid (by omega)
          have HC2 := Lib.hid (fun W (hW : Below wr.heap.size wr W) => bLess_any (.slice (some ⟨g, 0, none⟩) L.length cap) L' base j2 k W (HQ.out.row.below hW) HQ.out.few (by omega) (by omega))
          have HS := Lib.hid (fun W (hW : Below wr.heap.size wr W) => bSwap_n L.length g cap L' base k j2 W (by omega) (HQ.out.row.below hW) (by omega) (by omega))
          have HJ1 := Lib.hid hj2
          clear hj1 hj2 hch hll
          go_wp2_with fail
          refine HC1.out.mono ?_
          rintro e w1' ⟨rfl, hb1⟩
          have HB1 := Lib.hid hb1
          clear hb1 m1
          have m1 := mLess q _ w1' (HCE.out w1' HB1.out)
          go_wp2_with fail
          cases hls : lessS (at_ L' j2) (at_ L' k) with
          | false =>
            rw [hls] at HC2
            refine (HC2.out _ HB1.out).mono ?_
            rintro e w2 ⟨rfl, hb2⟩
            have HB2 := Lib.hid (gNx HB1.out hb2)
            clear hb2 m1
            have HLS := Lib.hid hls
            clear hls
            go_wp2_with fail
            refine bodyPost_ret (v := .bool (decide (0 < k))) (by simp [results, Tryz.results124, go_sem]) rfl ?_
            exact ⟨⟨_, rfl⟩, L', HM.out, down_end HD.out HLEAST.out HLS.out, HQ.out.below HB2.out, HK.out.shut HB2.out⟩
          | true =>
            rw [hls] at HC2
            refine (HC2.out _ HB1.out).mono ?_
            rintro e w2 ⟨rfl, hb2⟩
            have HB2 := Lib.hid (gNx HB1.out hb2)
            clear hb2 m1
            have HLS := Lib.hid hls
            clear hls
            have m3 := mSwap q _ w2 (HCE.out w2 HB2.out)
            go_wp2_with fail
            refine (HS.out _ HB2.out).mono ?_
            rintro e w3 ⟨rfl, hr3, hk3⟩
            have HR3 := Lib.hid hr3
            have HK3 := Lib.hid hk3
            clear hr3 hk3 m3
            go_wp2_with fail
            go_roundg (n - j2)
            case measure => have := HJN.out; omega
            case rel =>
              have hjn := HJN.out
              have hj1 := HJ1.out
              have hll := HM.out.1
              have hs1 := swp_len L' k j2
              have hg1 : k < L'.length := by omega
              have hg2 : j2 < L'.length := by omega
              have hq2 := (HQ.out.below HB2.out).turn HK3.out HR3.out (few_swp HQ.out.few hg1 hg2)
              exact ⟨j2, rfl, rfl, by omega, swp L' k j2, HM.out.trans (mix_swp (by omega) (by omega) (by omega)), down_step (by omega) (by omega) (by unfold par; omega) (by omega) HD.out HLEAST.out HLS.out, hq2, (HK.out.shut HB2.out).trans (HK3.out q)⟩
end Go.Proofs.YtjlfpjjfldbknaaGreat
