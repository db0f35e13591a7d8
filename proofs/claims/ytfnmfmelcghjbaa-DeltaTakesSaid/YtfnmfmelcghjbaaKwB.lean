/- Caches, the program: numbers, what is gone, news that may be told; the order of destinations, where one stands. -/
import Derived.Test.YtfnmfmelcghjbaaKwA
import Derived.Test.YtfnmfmelcghjbaaRtA
import Derived.Test.YtfnmfmelcghjbaaMgJ
namespace Go.Proofs.Ytfnmfmelcghjbaa
open Go.RowKit Go.Lib Go.Ow Go.Cw Go.Mq Go.Kq Go.Kw
set_option linter.unusedVariables false
set_option linter.unusedSimpArgs false
set_option maxRecDepth 100000

theorem may_adv (l : List Nw) : mayB ⟨2, 1, 1, 1, l, ⟨0, 0, 0, 0, 0, 0, 0, 0, ByteArray.empty, 0, 0, ByteArray.empty⟩⟩ = toldB l := by
  unfold mayB
  simp only
  rw [if_neg (by decide), if_pos (by decide)]
  have hz : zeroPk ⟨0, 0, 0, 0, 0, 0, 0, 0, ByteArray.empty, 0, 0, ByteArray.empty⟩ = true := by decide +kernel
  rw [hz]; simp
theorem news_right {w : World} {B : Nat} {l : List Nw} {b o k : Nat} (h : ∀ i (h : i < l.length), NwAt w b (o + i * 5) l[i]) (hb : b < B) : NewsIn w B (l.drop k) (some ⟨b, o + k * 5, none⟩) :=
  Or.inr ⟨b, o + k * 5, rfl, hb, fun i hi => by
    rw [List.length_drop] at hi
    have := h (k + i) (by omega)
    have e : o + (k + i) * 5 = o + k * 5 + i * 5 := by omega
    rw [e] at this
    rw [List.getElem_drop]
    exact this⟩
theorem news_left {w : World} {B : Nat} {l : List Nw} {b o k : Nat} (h : ∀ i (h : i < l.length), NwAt w b (o + i * 5) l[i]) (hb : b < B) : NewsIn w B (l.take k) (some ⟨b, o, none⟩) :=
  Or.inr ⟨b, o, rfl, hb, fun i hi => by
    rw [List.length_take] at hi
    rw [List.getElem_take]
    exact h i (by omega)⟩
def cmpZ (a b : Int) : Int := if a < b then -1 else if b < a then 1 else 0
theorem kNaN_any (x : Int) (w : World) : Calls Try.prog 72 #[.int .i64 x] w fun e w' => e = .returned (.bool false) ∧ w = w' := by
  have h : (x == x) = true := beq_self_eq_true x
  go_enter Try.func72, Try.ntmps72
  go_wp2_with fail
  go_ret
  exact ⟨rfl, rfl⟩
theorem kCmp_any (x y : Int) (w : World) : Calls Try.prog 67 #[.int .i64 x, .int .i64 y] w fun e w' => e = .returned (.int .i64 (cmpZ x y)) ∧ w = w' := by
  unfold cmpZ
  by_cases h1 : x < y
  · rw [if_pos h1]
    go_enter Try.func67, Try.ntmps67
    go_wp2_with (go_at_call 72; refine (kNaN_any _ _).mono ?_; rintro e w' ⟨rfl, rfl⟩)
    go_ret
    exact ⟨rfl, rfl⟩
  · rw [if_neg h1]
    by_cases h2 : y < x
    · rw [if_pos h2]
      go_enter Try.func67, Try.ntmps67
      go_wp2_with (go_at_call 72; refine (kNaN_any _ _).mono ?_; rintro e w' ⟨rfl, rfl⟩)
      go_ret
      exact ⟨rfl, rfl⟩
    · rw [if_neg h2]
      go_enter Try.func67, Try.ntmps67
      go_wp2_with (go_at_call 72; refine (kNaN_any _ _).mono ?_; rintro e w' ⟨rfl, rfl⟩)
      go_ret
      exact ⟨rfl, rfl⟩
def orZ (x y : Int) : Int := if x = 0 then y else x
theorem kOr_any (x y : Int) (b : Nat) (w : World) (h0 : w.cell? ⟨b, 0, none⟩ = some (.int .i64 x)) (h1 : w.cell? ⟨b, 1, none⟩ = some (.int .i64 y)) : Calls Try.prog 66 #[.slice (some ⟨b, 0, none⟩) 2 2] w fun e w' => e = .returned (.int .i64 (orZ x y)) ∧ w = w' := by
  unfold orZ
  go_enter Try.func66, Try.ntmps66
  go_wp2_with fail
  go_loopw [8] (fun ii wr => ∃ k : Nat, ii = .int .i64 (k : Int) ∧ k ≤ 2 ∧ wr = w ∧ (1 ≤ k → x = 0) ∧ (2 ≤ k → y = 0)) (fun ii _ => 2 - (RowKit.intOf ii).toNat)
  case atStart => exact ⟨0, rfl, by omega, rfl, by omega, by omega⟩
  case round =>
    obtain ⟨k, rfl, hk, rfl, hx, hy⟩ := hrel
    match k, hk with
    | 0, _ =>
      by_cases h : x = 0
      · subst h
        go_wp2_with fail
        exact ⟨⟨1, by simp, by omega, by simp, by simp, by simp⟩, by simp [RowKit.intOf]⟩
      · have hb : (x != 0) = true := by simp [h]
        go_wp2_with fail
        refine bodyPost_ret (v := .int .i64 x) (by simp [results, Try.results66, go_sem]) rfl ?_
        exact ⟨by simp [h], rfl⟩
    | 1, _ =>
      obtain rfl := hx (by omega)
      by_cases h : y = 0
      · subst h
        go_wp2_with fail
        exact ⟨⟨2, by simp, by omega, by simp, by simp, by simp⟩, by simp [RowKit.intOf]⟩
      · have hb : (y != 0) = true := by simp [h]
        go_wp2_with fail
        refine bodyPost_ret (v := .int .i64 y) (by simp [results, Try.results66, go_sem]) rfl ?_
        exact ⟨by simp, rfl⟩
    | 2, _ =>
      obtain rfl := hx (by omega)
      obtain rfl := hy (by omega)
      go_wp2_with fail
      refine bodyPost_ret (v := .int .i64 0) (by simp [results, Try.results66, go_sem]) rfl ?_
      exact ⟨by simp, rfl⟩
def byD (a b : Nw) : Int := orZ (cmpZ a.kind b.kind) (cmpZ a.dest b.dest)
/-- What a destination may be that is asked for: any two whole numbers. -/
def Wd (n : Nw) : Prop := -9223372036854775808 ≤ n.dest ∧ n.dest < 9223372036854775808
theorem byD_neg {a b : Nw} (ha : Wd a) (hb : Wd b) : byD a b < 0 ↔ ky a < ky b := by
  unfold byD orZ cmpZ ky
  obtain ⟨a1, a2⟩ := ha
  obtain ⟨b1, b2⟩ := hb
  split <;> (try split) <;> (try split) <;> omega
theorem byD_zero {a b : Nw} (ha : Wd a) (hb : Wd b) : byD a b = 0 ↔ ky a = ky b := by
  unfold byD orZ cmpZ ky
  obtain ⟨a1, a2⟩ := ha
  obtain ⟨b1, b2⟩ := hb
  split <;> (try split) <;> (try split) <;> omega
end Go.Proofs.Ytfnmfmelcghjbaa
