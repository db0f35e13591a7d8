/- Gauges: the law of Feed. -/
import Derived.Test.YtbgnheckoijmeaaGaE
import Derived.Deep.RegionHeld3
namespace Go.Proofs.Ytbgnheckoijmeaa
open Go.Fq Go.RowKit
open Go.Iq (below_next block_lt)
set_option linter.unusedVariables false

theorem feedF_bd (n : Int) (m v f : Nat) (hf : f < 2 ^ 64) : (feedF n m v f).1.2.1 < 2 ^ 64 ∧ (feedF n m v f).1.2.2 < 2 ^ 64 := by
  have hi : infR < 2 ^ 64 := by unfold infR; omega
  unfold feedF
  split
  · split
    · unfold behindF
      have h1 := kth_le_inf 4 (mg f)
      have h2 := plusF_le_inf (kth 7 m) (kth 1 (mg f))
      have h3 := plusF_le_inf (kth 6 v) (kth 2 (apart m (mg f)))
      have h4 := mg_lt2 f
      split
      · exact ⟨h4, by show kth 4 (mg f) < _; omega⟩
      · exact ⟨by show plusF _ _ < _; omega, by show plusF _ _ < _; omega⟩
    · exact ⟨by show (0 : Nat) < _; omega, by show (0 : Nat) < _; omega⟩
  · exact ⟨by show (0 : Nat) < _; omega, by show (0 : Nat) < _; omega⟩
where mg_lt2 (a : Nat) : mg a < 2 ^ 64 := by unfold mg; omega

theorem keepS {wA w' : World} {a b c : Nat} {n N : Int} {m v M V : Nat} (K : ∀ w', Below wA.heap.size wA w' → G3 w' a n m v ∧ G3 w' b N M V ∧ G3 w' c N M V) (h : Below wA.heap.size wA w') :
    (w'.cell? ⟨a, 0, none⟩ = some (.int .i64 n) ∧ w'.cell? ⟨a, 1, none⟩ = some (.float .f64 m) ∧ w'.cell? ⟨a, 2, none⟩ = some (.float .f64 v)) ∧
      (w'.cell? ⟨b, 0, none⟩ = some (.int .i64 N) ∧ w'.cell? ⟨b, 1, none⟩ = some (.float .f64 M) ∧ w'.cell? ⟨b, 2, none⟩ = some (.float .f64 V)) ∧
      (w'.cell? ⟨c, 0, none⟩ = some (.int .i64 N) ∧ w'.cell? ⟨c, 1, none⟩ = some (.float .f64 M) ∧ w'.cell? ⟨c, 2, none⟩ = some (.float .f64 V)) ∧ Below wA.heap.size wA w' := by
  obtain ⟨⟨a0, a1, a2, _⟩, ⟨b0, b1, b2, _⟩, ⟨c0, c1, c2, _⟩⟩ := K w' h
  exact ⟨⟨a0, a1, a2⟩, ⟨b0, b1, b2⟩, ⟨c0, c1, c2⟩, h⟩

theorem nextS {wA wx w' : World} {P Q R : Prop} (h : P ∧ Q ∧ R ∧ Below wA.heap.size wA wx) (hb : Below wx.heap.size wx w') : Below wA.heap.size wA w' := below_next h.2.2.2 hb

set_option maxHeartbeats 2000000 in
theorem law_feeds (n : Int) (m v f : Nat) (w : World) (hw : n ≤ 9223372036854775807) (hm : m < 2 ^ 64) (hv : v < 2 ^ 64) (hf : f < 2 ^ 64) :
    Calls Try.prog 3 #[gaug n m v, .float .f64 f] w fun e w' => e = .returned (.bool true) ∧ Below w.heap.size w w' := by
  have HP := Lib.hid (fun w => feed_any n m v f hw hm hv hf w)
  have HR := Lib.hid (fun w => reffeed_any n m v f hw hm hv hf w)
  have HC := Lib.hid (fun w => check_any n m v w hm hv)
  have HD := Lib.hid (fun w => refcheck_any n m v w hm hv)
  have hst := g_store
  clear hw hm hv hf
  generalize feedF n m v f = r at *
  obtain ⟨⟨N, M, V⟩, E⟩ := r
  have b0 : Below w.heap.size w (w.alloc (.cells #[.int .i64 n, .float .f64 m, .float .f64 v] 24)) := (Below.refl _ _).alloc (Nat.le_refl _) _
  have g0 := G3.first w n m v 24
  go_enter Try.func3, Try.ntmps3
  go_wp2_with fail
  refine (HP.out _).mono ?_
  rintro e w1 ⟨rfl, b1⟩
  obtain ⟨c0, c1, c2, _⟩ := g0.below b1 (by simp)
  have hs1 : w.heap.size + 1 ≤ w1.heap.size := by simpa using b1.size
  have hl1 : w.heap.size < w1.heap.size := by omega
  go_wp2_with fail
  refine (HR.out _).mono ?_
  rintro e w2 ⟨rfl, b2⟩
  have hs2 : w1.heap.size + 1 ≤ w2.heap.size := by simpa using b2.size
  obtain ⟨d0, d1, d2, _⟩ := ((g0.below b1 (by simp)).below ((Below.refl _ _).alloc (Nat.le_refl _) (.cells #[.int .i64 N, .float .f64 M, .float .f64 V] 24)) hl1).below b2 (by simp; omega)
  obtain ⟨e0, e1, e2, _⟩ := (G3.first w1 N M V 24).below b2 (by simp)
  have hl2 : w.heap.size < w2.heap.size := by omega
  have hl3 : w1.heap.size < w2.heap.size := by omega
  go_wp2_with fail
  have bA : Below w.heap.size w (w2.alloc (.cells #[.int .i64 N, .float .f64 M, .float .f64 V] 24)) :=
    ((((b0.trans (b1.mono (by simp))).alloc (by omega) (.cells #[.int .i64 N, .float .f64 M, .float .f64 V] 24)).trans (b2.mono (by simp; omega))).alloc (by omega) _)
  obtain ⟨wA, hwA⟩ : ∃ wA, wA = w2.alloc (.cells #[.int .i64 N, .float .f64 M, .float .f64 V] 24) := ⟨_, rfl⟩
  have K : ∀ w', Below wA.heap.size wA w' → G3 w' w.heap.size n m v ∧ G3 w' w1.heap.size N M V ∧ G3 w' w2.heap.size N M V := fun w' hb => by
    subst hwA
    refine ⟨?_, ?_, ?_⟩
    · exact ((((g0.below b1 (by simp)).below ((Below.refl _ _).alloc (Nat.le_refl _) (.cells #[.int .i64 N, .float .f64 M, .float .f64 V] 24)) hl1).below b2 (by simp; omega)).below ((Below.refl _ _).alloc (Nat.le_refl _) (.cells #[.int .i64 N, .float .f64 M, .float .f64 V] 24)) hl2).below hb (by simp; omega)
    · exact (((G3.first w1 N M V 24).below b2 (by simp)).below ((Below.refl _ _).alloc (Nat.le_refl _) (.cells #[.int .i64 N, .float .f64 M, .float .f64 V] 24)) hl3).below hb (by simp; omega)
    · exact (G3.first w2 N M V 24).below hb (by simp)
  rw [← hwA] at bA ⊢
  clear hwA c0 c1 c2 d0 d1 d2 e0 e1 e2 b1 b2 g0 b0
  go_region_held3 (fun w' => (w'.cell? ⟨w.heap.size, 0, none⟩ = some (.int .i64 n) ∧ w'.cell? ⟨w.heap.size, 1, none⟩ = some (.float .f64 m) ∧ w'.cell? ⟨w.heap.size, 2, none⟩ = some (.float .f64 v)) ∧
      (w'.cell? ⟨w1.heap.size, 0, none⟩ = some (.int .i64 N) ∧ w'.cell? ⟨w1.heap.size, 1, none⟩ = some (.float .f64 M) ∧ w'.cell? ⟨w1.heap.size, 2, none⟩ = some (.float .f64 V)) ∧
      (w'.cell? ⟨w2.heap.size, 0, none⟩ = some (.int .i64 N) ∧ w'.cell? ⟨w2.heap.size, 1, none⟩ = some (.float .f64 M) ∧ w'.cell? ⟨w2.heap.size, 2, none⟩ = some (.float .f64 V)) ∧ Below wA.heap.size wA w')
    (first | (exact keepS K (Below.refl _ _)) | (exact keepS K (Below.drew (Below.refl _ _))) | (exact keepS K (by assumption)))
    (first | (go_at_call 11; refine (same5_any _ _ _ _).mono ?_; rintro e w' ⟨rfl, hb⟩;  have hbS := nextS (by assumption) hb) | (go_at_call 12; refine (HC.out _).mono ?_; rintro e w' ⟨rfl, hb⟩; have hbC := nextS (by assumption) hb) | (go_at_call 13; refine (HD.out _).mono ?_; rintro e w' ⟨rfl, hb⟩; have hbD := nextS (by assumption) hb) | (go_at_call 14; refine (awake5_any _).mono ?_; rintro e w' ⟨rfl, hb⟩; have hbA := nextS (by assumption) hb))
  go_wp2_with fail
  go_ret
  exact ⟨rfl, below_next bA hbA⟩
end Go.Proofs.Ytbgnheckoijmeaa
