/- Gauges: the law that feeding keeps gauges. -/
import Derived.Test.YtbgnheckoijmeaaGaH
import Derived.Test.YtbgnheckoijmeaaFqS
import Derived.Test.YtbgnheckoijmeaaIqS
import Derived.LoopTactic
import Derived.Deep.RegionHeld3
import Derived.StillTailTactics
namespace Go.Proofs.Ytbgnheckoijmeaa
open Go.Fq Go.RowKit
open Go.Iq (below_next block_lt)
set_option linter.unusedVariables false
set_option linter.unusedSimpArgs false

theorem feed_keeps {n N : Int} {m v f M V : Nat} {E : Int} (hn : n ≤ 9223372036854775807) (h : feedF n m v f = ((N, M, V), E)) :
    (E = 0 ∧ 1 ≤ N ∧ N ≤ 9223372036854775807 ∧ M < infR ∧ V < infR) ∨ (E ≠ 0) := by
  unfold feedF at h
  split at h
  · rename_i hc
    obtain ⟨h0, hm, hv⟩ := chkF_ok hc
    split at h
    · rename_i hs
      have hf := samp_fin hs
      left
      unfold behindF at h
      split at h
      · simp only [Prod.mk.injEq] at h
        obtain ⟨⟨rfl, rfl, rfl⟩, rfl⟩ := h
        exact ⟨rfl, by omega, by omega, hf, kth_fin (by omega) hf⟩
      · simp only [Prod.mk.injEq] at h
        obtain ⟨⟨rfl, rfl, rfl⟩, rfl⟩ := h
        exact ⟨rfl, by split <;> omega, by split <;> omega, blend_fin7 hm hf, blend_fin6 hv (apart_le hm hf)⟩
    · simp only [Prod.mk.injEq] at h
      right; omega
  · simp only [Prod.mk.injEq] at h
    right; omega

theorem chk_fed {N : Int} {M V : Nat} (h1 : 1 ≤ N) (h2 : M < infR) (h3 : V < infR) : chkF N M V = 0 := by
  unfold chkF; rw [if_neg (by omega), if_pos ⟨h1, h2, h3⟩]
theorem cost_fed {N : Int} {M V : Nat} (h1 : 1 ≤ N) (h2 : M < infR) (h3 : V < infR) : (costF N M V).2 = 0 ∧ weightF (costF N M V).1 = 0 ∧ (costF N M V).1 < 2 ^ 64 := by
  have hle := (cost_add (m := M) (v := V) h2).2
  have hn : nanB (costS M V) = false := nan_of_le (by unfold mg; unfold infR at *; omega)
  have hlt : costS M V < 2 ^ 64 := by unfold infR at hle; omega
  obtain ⟨a, b⟩ := roundF_good (costS M V) hlt
  unfold costF
  rw [if_pos (chk_fed h1 h2 h3), if_neg (by omega)]
  rcases b with ⟨b1, _⟩ | ⟨b1, b2, _⟩
  · exfalso
    unfold roundF at b1
    rw [hn] at b1
    simp only [Bool.false_eq_true, if_false] at b1
    split at b1
    · cases b1
    · split at b1 <;> cases b1
  · exact ⟨b1, b2, a⟩

/-- What a region that reads a gauge and a float beside a call goes by. -/
def HeldAt (w' : World) (b2 b o : Nat) (N : Int) (M V z : Nat) : Prop := G3 w' b2 N M V ∧ w'.cell? ⟨b, o, none⟩ = some (.float .f64 z)
theorem keepH {W w' : World} {b2 b o : Nat} {N : Int} {M V z : Nat} (K : ∀ w', Below W.heap.size W w' → HeldAt w' b2 b o N M V z) (h : Below W.heap.size W w') :
    (w'.cell? ⟨b2, 0, none⟩ = some (.int .i64 N) ∧ w'.cell? ⟨b2, 1, none⟩ = some (.float .f64 M) ∧ w'.cell? ⟨b2, 2, none⟩ = some (.float .f64 V)) ∧ w'.cell? ⟨b, o, none⟩ = some (.float .f64 z) ∧ Below W.heap.size W w' := by
  obtain ⟨⟨a0, a1, a2, _⟩, h2⟩ := K w' h
  exact ⟨⟨a0, a1, a2⟩, h2, h⟩
theorem nextH {W wx w' : World} {P Q : Prop} (h : P ∧ Q ∧ Below W.heap.size W wx) (hb : Below wx.heap.size wx w') : Below W.heap.size W w' := below_next h.2.2 hb
theorem allocH {W wx : World} {P Q : Prop} {o : Obj} (h : P ∧ Q ∧ Below W.heap.size W wx) : Below W.heap.size W (wx.alloc o) := h.2.2.alloc h.2.2.size _
theorem allocB {W wx : World} {o : Obj} (h : Below W.heap.size W wx) : Below W.heap.size W (wx.alloc o) := h.alloc h.size _
theorem allocD {W : World} {o : Obj} : Below W.heap.size W (W.drew.alloc o) := (Below.drew (Below.refl _ _)).alloc (Nat.le_refl _) _
theorem setB {W wx : World} {b : Nat} {x y z : Value} (h : Below W.heap.size W wx) (hb : W.heap.size ≤ b) : Below W.heap.size W (((wx.setCell ⟨b, 0, none⟩ x).setCell ⟨b, 1, none⟩ y).setCell ⟨b, 2, none⟩ z) := set3B h b hb _ _ _
theorem setH {W wx : World} {P Q : Prop} {b : Nat} {x y z : Value} (h : P ∧ Q ∧ Below W.heap.size W wx) (hb : W.heap.size ≤ b) : Below W.heap.size W (((wx.setCell ⟨b, 0, none⟩ x).setCell ⟨b, 1, none⟩ y).setCell ⟨b, 2, none⟩ z) := set3B h.2.2 b hb _ _ _

set_option maxHeartbeats 2000000 in
theorem law_keeps (n : Int) (m v : Nat) (a : Option Addr) (len cap : Nat) (zs : List Nat) (w : World) (hn : n ≤ 9223372036854775807) (hm : m < 2 ^ 64) (hv : v < 2 ^ 64)
    (hI : IsFloats w a len zs) (hr : len * 8 ≤ 140737488351232) :
    Calls Try.prog 7 #[gaug n m v, .slice a len cap] w fun e w' => e = .returned (.bool true) ∧ Below w.heap.size w w' := by
  have HI := Lib.hid hI
  clear hI
  have hst := g_store
  have HB := Lib.hid (show Below w.heap.size w (w.alloc (.cells #[.int .i64 n, .float .f64 m, .float .f64 v] 24)) from (Below.refl _ _).alloc (Nat.le_refl _) _)
  have HG := Lib.hid (show ∃ (N : Int) (M V : Nat), G3 (w.alloc (.cells #[.int .i64 n, .float .f64 m, .float .f64 v] 24)) w.heap.size N M V ∧ N ≤ 9223372036854775807 ∧ M < 2 ^ 64 ∧ V < 2 ^ 64 from ⟨n, m, v, G3.first w n m v 24, hn, hm, hv⟩)
  clear hn hm hv
  go_enter Try.func7, Try.ntmps7
  go_wp2_with fail
  generalize hb2 : w.heap.size = b2 at *
  go_loopw [5] (fun i wr => ∃ k : Nat, k ≤ len ∧ i = .int .i64 k ∧ (∃ (N : Int) (M V : Nat), G3 wr b2 N M V ∧ N ≤ 9223372036854775807 ∧ M < 2 ^ 64 ∧ V < 2 ^ 64) ∧ Below b2 w wr ∧ b2 < wr.heap.size) (fun i _ => len - (intOf i).toNat)
  case atStart => exact ⟨0, Nat.zero_le _, rfl, HG.out, HB.out, by rw [← hb2]; simp⟩
  case round =>
    obtain ⟨k, hk, rfl, ⟨N, M, V, hg, hN, hM, hV⟩, hbel, hb7⟩ := hrel
    have HBel := Lib.hid hbel
    by_cases hlt : k < len
    · obtain ⟨b, off, rfl, hc⟩ := HI.out.2.2 (by omega)
      have c := hc k hlt
      have cz : wr.cell? ⟨b, off + k, none⟩ = some (.float .f64 (zs.getD k 0)) := by
        rw [← c]; exact HBel.out.cell (p := ⟨b, off + k, none⟩) (by rw [← hb2]; exact block_lt c)
      have hz64 : zs.getD k 0 < 2 ^ 64 := by
        have hl : k < zs.length := by rw [HI.out.1]; exact hlt
        rw [List.getD_eq_getElem?_getD, List.getElem?_eq_getElem hl, Option.getD_some]; exact HI.out.2.1 _ (List.getElem_mem _)
      have hbw : b < wr.heap.size := block_lt cz
      clear c hc
      generalize zs.getD k 0 = z at *
      have HF := Lib.hid (fun w => feed_any N M V z hN hM hV hz64 w)
      have HK := Lib.hid (fun N' M' V' E (h : feedF N M V z = ((N', M', V'), E)) => feed_keeps hN h)
      generalize hfd : feedF N M V z = r at *
      obtain ⟨⟨N', M', V'⟩, E⟩ := r
      have HE := HK.out _ _ _ _ rfl
      clear HK hfd hbel
      have hg' := hg
      obtain ⟨c0, c1, c2, f0, f1, f2⟩ := id hg
      have hK : ∀ w', Below wr.heap.size wr w' → HeldAt w' b2 b (off + k) N M V z := fun w' hb => ⟨hg.below hb hb7, by rw [hb.cell (p := ⟨b, off + k, none⟩) hbw]; exact cz⟩
      go_wp2_with fail
      go_region_held3 (fun w' => (w'.cell? ⟨b2, 0, none⟩ = some (.int .i64 N) ∧ w'.cell? ⟨b2, 1, none⟩ = some (.float .f64 M) ∧ w'.cell? ⟨b2, 2, none⟩ = some (.float .f64 V)) ∧ w'.cell? ⟨b, off + k, none⟩ = some (.float .f64 z) ∧ Below wr.heap.size wr w')
        (first | (exact keepH hK (Below.refl _ _)) | (exact keepH hK (Below.drew (Below.refl _ _))) | (exact keepH hK (by assumption)) | (exact keepH hK (allocH (by assumption))) | (exact keepH hK (allocB (by assumption))) | (exact keepH hK allocD) | (exact keepH hK (setB (by assumption) (by first | omega | (simp; omega) | simp))) | (exact keepH hK (setH (by assumption) (by first | omega | (simp; omega) | simp))))
        (first | (go_at_call 9; refine (HF.out _).mono ?_; rintro e w3 ⟨rfl, hb⟩; have hb3 := nextH (by assumption) hb; first | (obtain ⟨g0, g1, g2, q0, q1, q2⟩ := (show G3 w3 wr.heap.size 0 0 0 from (G3.first wr.drew 0 0 0 24).below hb (by simp))) | skip))
      rotate_left
      · have hq := set3_G3 (N := N') (M := M') (V := V') (show G3 w3 wr.heap.size 0 0 0 from ⟨g0, g1, g2, q0, q1, q2⟩)
        have hbq := setB (x := .int .i64 N') (y := .float .f64 M') (z := .float .f64 V') hb3 (Nat.le_refl _)
        clear hb hb3 g0 g1 g2 q0 q1 q2 c0 c1 c2 f0 f1 f2
        have hh := hK _ hbq
        generalize (((w3.setCell ⟨wr.heap.size, 0, none⟩ (.int .i64 N')).setCell ⟨wr.heap.size, 1, none⟩ (.float .f64 M')).setCell ⟨wr.heap.size, 2, none⟩ (.float .f64 V')) = wf at *
        obtain ⟨q0, q1, q2, _⟩ := id hq
        obtain ⟨hgf, _⟩ := hh
        obtain ⟨c0, c1, c2, f0, f1, f2⟩ := id hgf
        have hbf := hbq.size
        rcases HE with ⟨rfl, k1, k2, k3, k4⟩ | hne
        · obtain ⟨s1, s2, s3⟩ := cost_fed k1 k3 k4
          have HC := Lib.hid (fun w => cost_any N' M' V' (by unfold infR at k3; omega) (by unfold infR at k4; omega) w)
          have HD := Lib.hid (fun w => check_any N' M' V' w (by unfold infR at k3; omega) (by unfold infR at k4; omega))
          have HW := Lib.hid (fun w => refweight_any _ w s3)
          rw [s1] at HC
          rw [s2] at HW
          rw [chk_fed k1 k3 k4] at HD
          have hNk := Lib.hid (show N' ≤ 9223372036854775807 ∧ M' < 2 ^ 64 ∧ V' < 2 ^ 64 from ⟨k2, by unfold infR at k3; omega, by unfold infR at k4; omega⟩)
          clear k1 k2 k3 k4 s1 s2 s3
          generalize (costF N' M' V').1 = W at *
          have hgs := set3_G3 (N := N') (M := M') (V := V') hgf
          go_wp2_with fail
          refine (HC.out _).mono ?_
          rintro e w4 ⟨rfl, b4⟩
          have b4s := b4.size
          simp only [World.size_setCell] at b4s
          have hg4 := hgs.below b4 (by simp; omega)
          obtain ⟨d0, d1, d2, _⟩ := id hg4
          go_wp2_with fail
          refine (HD.out _).mono ?_
          rintro e w5 ⟨rfl, b5⟩
          have hg5 := hg4.below b5 (by omega)
          have b5s := b5.size
          go_wp2_with (go_at_call 23; refine (HW.out _).mono ?_; rintro e w' ⟨rfl, rfl⟩)
          go_roundw
          case rel =>
            have t1 : Below b2 w wf := HBel.out.trans (hbq.mono (by omega))
            have t2 := set3B (x := .int .i64 N') (y := .float .f64 M') (z := .float .f64 V') t1 b2 (Nat.le_refl _)
            exact ⟨k + 1, by omega, by go_num, ⟨N', M', V', hg5, hNk.out.1, hNk.out.2.1, hNk.out.2.2⟩, (t2.trans (b4.mono (by simp; omega))).trans (b5.mono (by omega)), by omega⟩
          case measure => simp [intOf]; omega
        · have hne' : (E != 0) = true := by simpa using hne
          go_wp2_with fail
          go_roundw
          case rel => exact ⟨k + 1, by omega, by go_num, ⟨N, M, V, hgf, hN, hM, hV⟩, HBel.out.trans (hbq.mono (by omega)), by omega⟩
          case measure => simp [intOf]; omega
      · have hq := G3.first w3 N' M' V' 24
        have hbq : Below wr.heap.size wr (w3.alloc (.cells #[.int .i64 N', .float .f64 M', .float .f64 V'] 24)) := allocB hb3
        clear hb hb3 c0 c1 c2 f0 f1 f2
        have hh := hK _ hbq
        generalize w3.alloc (.cells #[.int .i64 N', .float .f64 M', .float .f64 V'] 24) = wf at *
        obtain ⟨q0, q1, q2, _⟩ := id hq
        obtain ⟨hgf, _⟩ := hh
        obtain ⟨c0, c1, c2, f0, f1, f2⟩ := id hgf
        have hbf := hbq.size
        rcases HE with ⟨rfl, k1, k2, k3, k4⟩ | hne
        · obtain ⟨s1, s2, s3⟩ := cost_fed k1 k3 k4
          have HC := Lib.hid (fun w => cost_any N' M' V' (by unfold infR at k3; omega) (by unfold infR at k4; omega) w)
          have HD := Lib.hid (fun w => check_any N' M' V' w (by unfold infR at k3; omega) (by unfold infR at k4; omega))
          have HW := Lib.hid (fun w => refweight_any _ w s3)
          rw [s1] at HC
          rw [s2] at HW
          rw [chk_fed k1 k3 k4] at HD
          have hNk := Lib.hid (show N' ≤ 9223372036854775807 ∧ M' < 2 ^ 64 ∧ V' < 2 ^ 64 from ⟨k2, by unfold infR at k3; omega, by unfold infR at k4; omega⟩)
          clear k1 k2 k3 k4 s1 s2 s3
          generalize (costF N' M' V').1 = W at *
          have hgs := set3_G3 (N := N') (M := M') (V := V') hgf
          go_wp2_with fail
          refine (HC.out _).mono ?_
          rintro e w4 ⟨rfl, b4⟩
          have b4s := b4.size
          simp only [World.size_setCell] at b4s
          have hg4 := hgs.below b4 (by simp; omega)
          obtain ⟨d0, d1, d2, _⟩ := id hg4
          go_wp2_with fail
          refine (HD.out _).mono ?_
          rintro e w5 ⟨rfl, b5⟩
          have hg5 := hg4.below b5 (by omega)
          have b5s := b5.size
          go_wp2_with (go_at_call 23; refine (HW.out _).mono ?_; rintro e w' ⟨rfl, rfl⟩)
          go_roundw
          case rel =>
            have t1 : Below b2 w wf := HBel.out.trans (hbq.mono (by omega))
            have t2 := set3B (x := .int .i64 N') (y := .float .f64 M') (z := .float .f64 V') t1 b2 (Nat.le_refl _)
            exact ⟨k + 1, by omega, by go_num, ⟨N', M', V', hg5, hNk.out.1, hNk.out.2.1, hNk.out.2.2⟩, (t2.trans (b4.mono (by simp; omega))).trans (b5.mono (by omega)), by omega⟩
          case measure => simp [intOf]; omega
        · have hne' : (E != 0) = true := by simpa using hne
          go_wp2_with fail
          go_roundw
          case rel => exact ⟨k + 1, by omega, by go_num, ⟨N, M, V, hgf, hN, hM, hV⟩, HBel.out.trans (hbq.mono (by omega)), by omega⟩
          case measure => simp [intOf]; omega
    · obtain rfl : k = len := by omega
      go_wp2_with fail
      refine (awake5_any _).mono ?_
      rintro e w3 ⟨rfl, b3⟩
      go_wp2_with fail
      go_ret
      exact ⟨rfl, by rw [hb2]; exact HBel.out.trans (b3.mono (by omega))⟩
end Go.Proofs.Ytbgnheckoijmeaa
