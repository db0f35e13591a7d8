/- Gauges: the law that the mean lies between. -/
import Derived.Test.YtbgnheckoijmeaaGaE
import Derived.Test.YtbgnheckoijmeaaGqE
import Derived.Test.YtbgnheckoijmeaaIqK
import Derived.LoopTactic
namespace Go.Proofs.Ytbgnheckoijmeaa
open Go.Fq Go.RowKit
open Go.Iq (below_next block_lt IsKInts)
set_option linter.unusedVariables false
set_option linter.unusedSimpArgs false

theorem u32n {a : Int} (h : (Lit.int .u32 a).wf = true) : ∃ n : Nat, a = (n : Int) ∧ n < 2 ^ 32 := by
  simp only [Lit.wf, IntKind.min, IntKind.max, IntKind.signed, IntKind.bits, Bool.and_eq_true] at h
  obtain ⟨n, rfl⟩ := Int.eq_ofNat_of_zero_le (a := a) (by simpa using h.1)
  exact ⟨n, rfl, by have := h.2; simp at this; omega⟩

/-- A whole number below 2 ^ 20, as a float. -/
theorem whole_dy (n : Nat) : floatOfInt .f64 ((n : Int) % 1048576) = dy (8192 * (n % 1048576)) := by
  rw [show (n : Int) % 1048576 = ((n % 1048576 : Nat) : Int) by omega, floatOfInt_nat _ (by omega), int_dy _ (by omega)]

theorem samp_dy (n : Nat) (h : n < 2 ^ 53) : sampB (dy n) = true ∧ mg (dy n) = dy n ∧ dy n < 2 ^ 64 := by
  have hf := (dy_fin h).1
  have hi : infR < 2 ^ 64 := by unfold infR; omega
  have h64 : dy n < 2 ^ 64 := by omega
  have := meas_eq (dy n) h64
  rw [decide_eq_true hf, Bool.and_eq_true] at this
  exact ⟨this.1, mg_small hf, h64⟩

theorem feed_first (n : Nat) (h : n < 2 ^ 53) : feedF 0 0 0 (dy n) = ((1, dy n, kth 4 (dy n)), 0) := by
  obtain ⟨h1, h2, _⟩ := samp_dy n h
  unfold feedF
  rw [if_pos (by decide +kernel), h1, if_pos rfl, h2]
  unfold behindF
  rw [if_pos rfl]

theorem feed_more (N : Int) (M V n : Nat) (h : n < 2 ^ 53) (hN : 1 ≤ N) (hM : M < infR) (hV : V < infR) :
    feedF N M V (dy n) = ((if N < 9223372036854775807 then N + 1 else N, plusF (kth 7 M) (kth 1 (dy n)), plusF (kth 6 V) (kth 2 (apart M (dy n)))), 0) := by
  obtain ⟨h1, h2, _⟩ := samp_dy n h
  have hc : chkF N M V = 0 := by
    unfold chkF
    rw [if_neg (by omega), if_pos ⟨hN, hM, hV⟩]
  unfold feedF
  rw [if_pos hc, h1, if_pos rfl, h2]
  unfold behindF
  rw [if_neg (by omega)]

/-- What holds behind so many samples. -/
structure Mids (w : World) (b : Nat) (L H : Nat) : Prop where
  ex : ∃ (N : Int) (M V : Nat), G3 w b N M V ∧ 1 ≤ N ∧ N ≤ 9223372036854775807 ∧ M < infR ∧ V < infR ∧ dy (8 * (1023 * L)) ≤ M ∧ M ≤ dy (8 * (1025 * H)) 
  le : L ≤ H
  lt : H < 2 ^ 20
attribute [local irreducible] dy

theorem mids_first (w : World) (b n : Nat) (h : n < 2 ^ 20) (g : G3 w b 1 (dy (8192 * n)) (kth 4 (dy (8192 * n)))) : Mids w b n n := by
  have hf := (dy_fin (n := 8192 * n) (by omega)).1
  exact ⟨⟨1, _, _, g, by omega, by omega, hf, kth_fin (by omega) hf, dy_mono (by omega), dy_mono (by omega)⟩, Nat.le_refl _, h⟩

theorem dy_lt {a b : Nat} (ha : a < 2 ^ 53) (hb : b < 2 ^ 53) : dy a < dy b ↔ a < b := by
  rw [← units_lt_iff, (dy_fin ha).2, (dy_fin hb).2]
  exact Nat.mul_lt_mul_right DU_pos
theorem ord_lt {S L : Nat} (hS : S < 2 ^ 20) (hL : L < 2 ^ 20) : (FloatKind.f64.format.order (dy (8192 * S)) (dy (8192 * L)) == some .lt) = decide (S < L) := by
  rw [lt_pos (Nat.le_of_lt (dy_fin (by omega)).1) (Nat.le_of_lt (dy_fin (by omega)).1), decide_eq_decide, dy_lt (by omega) (by omega)]
  omega
theorem ord_gt {S L : Nat} (hS : S < 2 ^ 20) (hL : L < 2 ^ 20) : (FloatKind.f64.format.order (dy (8192 * S)) (dy (8192 * L)) == some .gt) = decide (L < S) := by
  rw [gt_pos (Nat.le_of_lt (dy_fin (by omega)).1) (Nat.le_of_lt (dy_fin (by omega)).1), decide_eq_decide, dy_lt (by omega) (by omega)]
  omega

/-- What holds behind one more sample. -/
theorem mids_next {N : Int} {M V L H S L' H' : Nat} (hN : 1 ≤ N) (hN2 : N ≤ 9223372036854775807) (hM : M < infR) (hV : V < infR) (h1 : dy (8 * (1023 * L)) ≤ M) (h2 : M ≤ dy (8 * (1025 * H))) (hL : L' ≤ L) (hH : H ≤ H') (hS : L' ≤ S ∧ S ≤ H') (hlt : H' < 2 ^ 20)
    (w : World) (b : Nat) (g : G3 w b (if N < 9223372036854775807 then N + 1 else N) (plusF (kth 7 M) (kth 1 (dy (8192 * S)))) (plusF (kth 6 V) (kth 2 (apart M (dy (8192 * S)))))) : Mids w b L' H' := by
  obtain ⟨w1, w2⟩ := widen hL hH h1 h2
  have hs := (dy_fin (n := 8192 * S) (by omega)).1
  obtain ⟨m1, m2⟩ := mean_between hlt (by omega) w1 w2 hS.1 hS.2
  exact ⟨⟨_, _, _, g, by split <;> omega, by split <;> omega, blend_fin7 hM hs, blend_fin6 hV (apart_le hM hs), m1, m2⟩, by omega, hlt⟩

set_option maxHeartbeats 2000000 in
theorem law_between (x : Int) (a : Option Addr) (len cap : Nat) (zs : List Int) (w : World) (hx : (Lit.int .u32 x).wf = true)
    (hI : IsKInts .u32 w a len zs ∧ (∀ z ∈ zs, (Lit.int .u32 z).wf = true) ∧ (a = none → cap = 0)) (hr : len * 4 ≤ 140737488351232) :
    Calls Try.prog 8 #[.int .u32 x, .slice a len cap] w fun e w' => e = .returned (.bool true) ∧ Below w.heap.size w w' := by
  obtain ⟨X, rfl, hX⟩ := u32n hx
  have hI1 := hI.1
  have HZ := Lib.hid hI.2.1
  clear hI hx
  have HI := Lib.hid hI1
  have HL := Lib.hid hI1.1
  clear hI1
  have e0 := whole_dy X
  have HF := Lib.hid (fun w => feed_any 0 0 0 (dy (8192 * (X % 1048576))) (by omega) (by omega) (by omega) (samp_dy _ (by omega)).2.2 w)
  rw [feed_first _ (by omega)] at HF
  have HM := Lib.hid (fun w b => mids_first w b (X % 1048576) (by omega))
  have hst := g_store
  generalize X % 1048576 = Y at *
  obtain ⟨D, hD⟩ : ∃ D, dy (8192 * Y) = D := ⟨_, rfl⟩
  have HD := Lib.hid hD
  rw [hD] at e0 HF HM
  clear hD
  obtain ⟨K, hK⟩ : ∃ K, kth 4 D = K := ⟨_, rfl⟩
  rw [hK] at HF HM
  clear hK
  go_enter Try.func8, Try.ntmps8
  go_wp2_with fail
  refine (HF.out _).mono ?_
  rintro e w1 ⟨rfl, b1⟩
  go_wp2_with fail
  have HB := Lib.hid (show Below w.heap.size w (w1.alloc (.cells #[.int .i64 1, .float .f64 D, .float .f64 K] 24)) from b1.alloc b1.size _)
  have HG := Lib.hid (HM.out (w1.alloc (.cells #[.int .i64 1, .float .f64 D, .float .f64 K] 24)) w1.heap.size (G3.first w1 1 D K 24))
  have HY := Lib.hid HD.out
  have HS1 := Lib.hid b1.size
  clear HM HF b1 e0
  generalize hb7 : w1.heap.size = b7 at *
  go_loopw [5, 6, 8, 9] (fun lo hi e i wr => ∃ k L H : Nat, k ≤ len ∧ i = .int .i64 k ∧ e = .int .i64 0 ∧ lo = .float .f64 (dy (8192 * L)) ∧ hi = .float .f64 (dy (8192 * H)) ∧ Mids wr b7 L H ∧ Below w.heap.size w wr ∧ b7 < wr.heap.size) (fun _ _ _ i _ => len - (intOf i).toNat)
  case atStart => exact ⟨0, Y, Y, Nat.zero_le _, rfl, rfl, by rw [HY.out], by rw [HY.out], HG.out, HB.out, by rw [← hb7]; simp⟩
  case round =>
    obtain ⟨k, L, H, hk, rfl, rfl, rfl, rfl, hmid, hbel, hb7⟩ := hrel
    have HBel := Lib.hid hbel
    obtain ⟨⟨N, M, V, hg, hN, hN2, hM, hV, hm1, hm2⟩, hLH, hHlt⟩ := hmid
    obtain ⟨c0, c1, c2, f0, f1, f2⟩ := id hg
    by_cases hlt : k < len
    · obtain ⟨b, off, rfl, hc⟩ := HI.out.2 (by omega)
      have c := hc k hlt
      have cz : wr.cell? ⟨b, off + k, none⟩ = some (.int .u32 (zs.getD k 0)) := by
        rw [← c]; exact HBel.out.cell (p := ⟨b, off + k, none⟩) (block_lt c)
      have hmem : zs.getD k 0 ∈ zs := by
        have hl : k < zs.length := by rw [HL.out]; exact hlt
        rw [List.getD_eq_getElem?_getD, List.getElem?_eq_getElem hl, Option.getD_some]; exact List.getElem_mem _
      obtain ⟨z, hz, hz2⟩ := u32n (HZ.out _ hmem)
      rw [hz] at cz
      clear c hc hmem hz
      have es := whole_dy z
      have hS : z % 1048576 < 2 ^ 20 := by omega
      generalize z % 1048576 = s at *
      have HF := Lib.hid (fun w => feed_any N M V (dy (8192 * s)) hN2 (by unfold infR at hM; omega) (by unfold infR at hV; omega) (samp_dy _ (by omega)).2.2 w)
      rw [feed_more N M V _ (by omega) hN hM hV] at HF
      have o1 := ord_lt hS (show L < 2 ^ 20 by omega)
      have o2 := ord_gt hS hHlt
      have HNext : ∀ L' H', L' ≤ L → H ≤ H' → (L' ≤ s ∧ s ≤ H') → H' < 2 ^ 20 → Hid (∀ (w : World) (b : Nat), G3 w b (if N < 9223372036854775807 then N + 1 else N) (plusF (kth 7 M) (kth 1 (dy (8192 * s)))) (plusF (kth 6 V) (kth 2 (apart M (dy (8192 * s))))) → Mids w b L' H') :=
        fun L' H' a1 a2 a3 a4 => Lib.hid (fun w b g => mids_next hN hN2 hM hV hm1 hm2 a1 a2 a3 a4 w b g)
      generalize (if N < 9223372036854775807 then N + 1 else N) = N' at *
      generalize plusF (kth 7 M) (kth 1 (dy (8192 * s))) = M' at *
      generalize plusF (kth 6 V) (kth 2 (apart M (dy (8192 * s)))) = V' at *
      have HRel : ∃ L' H', Hid (∀ (w : World) (b : Nat), G3 w b N' M' V' → Mids w b L' H') ∧
          (((decide (s < L) = true ∧ decide (H < s) = false) ∧ s = L' ∧ H = H') ∨ ((decide (s < L) = false ∧ decide (H < s) = true) ∧ L = L' ∧ s = H') ∨ ((decide (s < L) = false ∧ decide (H < s) = false) ∧ L = L' ∧ H = H')) := by
        by_cases h1 : s < L
        · exact ⟨s, H, HNext s H (by omega) (by omega) (by omega) hHlt, .inl ⟨⟨decide_eq_true h1, decide_eq_false (by omega)⟩, rfl, rfl⟩⟩
        · by_cases h2 : H < s
          · exact ⟨L, s, HNext L s (by omega) (by omega) (by omega) hS, .inr (.inl ⟨⟨decide_eq_false h1, decide_eq_true h2⟩, rfl, rfl⟩)⟩
          · exact ⟨L, H, HNext L H (by omega) (by omega) (by omega) hHlt, .inr (.inr ⟨⟨decide_eq_false h1, decide_eq_false h2⟩, rfl, rfl⟩)⟩
      obtain ⟨L', H', HR, hcase⟩ := HRel
      clear HNext hN hN2 hM hV hm1 hm2 hLH hHlt
      rcases hcase with ⟨⟨d1, d2⟩, rfl, rfl⟩ | ⟨⟨d1, d2⟩, rfl, rfl⟩ | ⟨⟨d1, d2⟩, rfl, rfl⟩
      all_goals
        rw [d1] at o1
        rw [d2] at o2
        clear d1 d2
        obtain ⟨x1, hx1⟩ : ∃ x1, dy (8192 * L) = x1 := ⟨_, rfl⟩
        obtain ⟨x2, hx2⟩ : ∃ x2, dy (8192 * H) = x2 := ⟨_, rfl⟩
        obtain ⟨x3, hx3⟩ : ∃ x3, dy (8192 * s) = x3 := ⟨_, rfl⟩
        have HX1 := Lib.hid hx1
        have HX2 := Lib.hid hx2
        have HX3 := Lib.hid hx3
        rw [hx1] at o1 ⊢
        rw [hx2] at o2 ⊢
        rw [hx3] at o1 o2 es HF
        clear hx1 hx2 hx3
        go_wp2_with fail
        refine (HF.out _).mono ?_
        rintro e w3 ⟨rfl, b3⟩
        have hg3 := hg.below b3 hb7
        obtain ⟨c0, c1, c2, f0, f1, f2⟩ := id hg3
        have hs3 := b3.size
        have hb73 : b7 < w3.heap.size := by omega
        go_wp2_with fail
        go_roundw
        case rel => exact ⟨k + 1, _, _, by omega, by go_num, rfl, by first | rw [HX1.out] | rw [HX3.out], by first | rw [HX2.out] | rw [HX3.out], HR.out _ _ (set3_G3 hg3), set3B (below_next HBel.out b3) _ HS1.out _ _ _, by simp; omega⟩
        case measure => simp [intOf]; omega
    · obtain rfl : k = len := by omega
      obtain ⟨q, d, s, h1, h2, h3, h4, h5⟩ := between_end hHlt hLH hM hm1 hm2
      have e1 := fun w => run_f (P := Try.prog) .quo 22 _ _ _ h1 w
      have e2 := fun w => run_f (P := Try.prog) .sub 22 _ _ _ h2 w
      have e3 := fun w => run_f (P := Try.prog) .add 22 _ _ _ h3 w
      clear h1 h2 h3 hm1 hm2
      generalize dy (8192 * L) = x1 at *
      generalize dy (8192 * H) = x2 at *
      go_wp2_with fail
      refine (awake5_any _).mono ?_
      rintro e w3 ⟨rfl, b3⟩
      go_wp2_with fail
      go_ret
      exact ⟨rfl, below_next HBel.out b3⟩
end Go.Proofs.Ytbgnheckoijmeaa
