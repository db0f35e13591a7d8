/- The text of a float: the program's walk and the document's own. -/
import Derived.Test.YtloaajoeciajaaaDoorFlT
import Derived.Test.YtloaajoeciajaaaDoorFqP
import Derived.Test.YtloaajoeciajaaaDoorShelf
import Derived.Deep.RegionHeld3
import Derived.Deep.RegionWith
import Derived.BigRegion
import Derived.WalkSmall
import Derived.IntWalk
import Derived.Lib.ItoaLen
namespace Go.Proofs.YtloaajoeciajaaaDoor
open Go.Fq Go.RowKit

/-- The parts' texts. -/
def partS (r : Nat) : ByteArray := ⟨(partL.getD r []).toArray⟩
structure Env (w0 w : World) : Prop where
  bel : Below w0.heap.size w0 w
  tab : Lib.TabIs Tryd.prog w0 "internal/strconv.uint64pow10" .u64 Lib.pow10Tab
  cell : ∀ r, r < 4 → w0.cell? ⟨0, r, none⟩ = some (.string (partS r))

theorem below_grow {B : Nat} {a w : World} (h : Below B a w) (os : Array Obj) (hB : B ≤ w.heap.size) : Below B a (Sort.grow w os) :=
  h.trans ⟨rfl, rfl, rfl, by simp [Sort.grow], fun k hk => by simp [Sort.grow, Array.getElem?_append_left (show k < w.heap.size by omega)]⟩
theorem below_drewN {B : Nat} {a w : World} (h : Below B a w) (n : Nat) : Below B a (w.drewN n) := h.trans ⟨rfl, rfl, rfl, Nat.le_refl _, fun _ _ => rfl⟩
theorem block_lt {w : World} {p : Addr} {v : Value} (h : w.cell? p = some v) : p.block < w.heap.size := by
  rcases Nat.lt_or_ge p.block w.heap.size with g | g
  · exact g
  · have : w.heap[p.block]? = none := by simp [g]
    simp [World.cell?, this] at h
theorem Env.drew {w0 w : World} (h : Env w0 w) : Env w0 w.drew := ⟨h.bel.drew, h.tab, h.cell⟩
theorem Env.drewN {w0 w : World} (h : Env w0 w) (n : Nat) : Env w0 (w.drewN n) := ⟨below_drewN h.bel n, h.tab, h.cell⟩
theorem Env.at {w0 w : World} (h : Env w0 w) (r : Nat) (hr : r < 4) : w.cell? ⟨0, r, none⟩ = some (.string (partS r)) :=
  (h.bel.cell (block_lt (h.cell r hr))).trans (h.cell r hr)
theorem gPow : Tryd.prog.globalNamed "internal/strconv.uint64pow10" = some 2 := by kernel_rfl
theorem tab_lt {w0 : World} (h : Lib.TabIs Tryd.prog w0 "internal/strconv.uint64pow10" .u64 Lib.pow10Tab) : 2 < w0.heap.size :=
  block_lt (h.cell gPow 0 (by decide))
theorem Env.tabNow {w0 w : World} (h : Env w0 w) : Lib.TabIs Tryd.prog w "internal/strconv.uint64pow10" .u64 Lib.pow10Tab :=
  var?_below h.bel gPow (tab_lt h.tab) h.tab

theorem fmt_env (w0 w : World) (n : Int) (h0 : -9223372036854775808 ≤ n) (h1 : n ≤ 9223372036854775807) (h : Env w0 w) :
    Calls Tryd.prog 15 #[.int .i64 n, .int .i64 10] w fun e w' => e = .returned (.string ⟨(Lib.itoa n).toArray⟩) ∧ Env w0 w' := by
  refine (Tryd.strconv_FormatInt_10 n h0 h1 w h.tabNow).mono ?_
  rintro e w' ⟨he, k, os, rfl⟩
  exact ⟨he, below_grow (below_drewN h.bel k) os h.bel.size, h.tab, h.cell⟩

theorem Env.alloc {w0 w : World} (h : Env w0 w) (o : Obj) : Env w0 (w.alloc o) := ⟨h.bel.alloc h.bel.size o, h.tab, h.cell⟩
theorem add_part (k : Nat) (hk : k ≤ 1099511627776) (B : ByteArray) (hB : B.size ≤ 3) (w : World) : (Op.stringOp .add ⟨(Lib.itoa (k : Int)).toArray⟩ B).run Tryd.prog w = .ok (.string (⟨(Lib.itoa (k : Int)).toArray⟩ ++ B)) w := by
  refine run_string_add_sum w _ _ ?_
  have h1 := Lib.itoa_length_le (k : Int) (by omega) (by omega)
  have h3 : (⟨(Lib.itoa (k : Int)).toArray⟩ : ByteArray).size = (Lib.itoa (k : Int)).length := by simp [ByteArray.size]
  omega

/-- The text of q quarters. -/
def textQ (q : Nat) : ByteArray := ⟨(Lib.itoa ((q / 4 : Nat) : Int)).toArray⟩ ++ partS (q % 4)

set_option maxHeartbeats 1000000 in
theorem text_told (q k r : Nat) (d : Nat) (w0 w : World) (hq : q ≤ 4398046511104) (hr : r < 4) (hqr : q % 4 = r) (hqk : q / 4 = k) (h : Env w0 w)
    (hI : (FloatKind.f64.format.order d 9218868437227405311 == some .gt) = false)
    (hQ : Hid (∀ w, Calls Tryd.prog 8 #[.float .f64 d] w fun e w' => e = .returned (.tuple #[.int .i64 q, .int .i64 0]) ∧ w = w')) :
    Calls Tryd.prog 6 #[.float .f64 d] w fun e w' => e = .returned (.tuple #[.string (textQ q), .int .i64 0]) ∧ Env w0 w' := by
  have hc := h.at r hr
  have HE := Lib.hid h; clear h
  have HTX : Hid (textQ q = ⟨(Lib.itoa (k : Int)).toArray⟩ ++ partS r) := Lib.hid (by unfold textQ; rw [hqr, hqk])
  have HR := Lib.hid hqr; clear hqr
  have HK := Lib.hid hqk; clear hqk
  have hkb : k ≤ 1099511627776 := by have := HK.out; omega
  go_enter Tryd.func6, Tryd.ntmps6
  go_wp2_with (first | (go_at_call 14; go_in) | (go_at_call 8; refine (hQ.out _).mono ?_; rintro e w' ⟨rfl, rfl⟩))
  have hS := HE.out
  have e1 : (q : Int).tmod 4 = (r : Int) := by
    have := HR.out
    rw [Int.tmod_eq_emod_of_nonneg (by omega)]
    omega
  have e2 : IntKind.i64.wrap ((q : Int) / 4) = (k : Int) := by
    have := HK.out
    rw [show (q : Int) / 4 = (k : Int) by omega]
    exact IntWalk.i64_in _ (by omega)
  have e6 := add_part k hkb (partS r) (by
    have : r = 0 ∨ r = 1 ∨ r = 2 ∨ r = 3 := by omega
    rcases this with rfl | rfl | rfl | rfl <;> decide)
  have e4 : (0 : Int) ≤ (r : Int) := by omega
  have e5 : (r : Int) < 4 := by omega
  go_region_with (go_at_call 15; refine (fmt_env w0 _ _ (by omega) (by omega) (by first | assumption | exact Env.drew (by assumption))).mono ?_; rintro e w' ⟨rfl, hEnv'⟩; have hcell' := hEnv'.at r hr)
  all_goals (try go_wp2)
  all_goals go_ret2
  all_goals exact ⟨by rw [HTX.out]; rfl, by repeat (first | assumption | apply Env.drew)⟩

set_option maxHeartbeats 1000000 in
theorem reftext_told (q k r : Nat) (d d4 dt : Nat) (w0 w : World) (hd : d < 2 ^ 64) (hq : q ≤ 4398046511104) (hr : r < 4) (hqr : q % 4 = r) (hqk : q / 4 = k) (h : Env w0 w)
    (hI : (FloatKind.f64.format.order d 9218868437227405311 == some .gt) = false) (ht : toldB d = true)
    (hT : Hid (∀ w, Calls Tryd.prog 17 #[.float .f64 d] w fun e w' => e = .returned (.float .f64 dt) ∧ w = w'))
    (hct : ∀ w, (convert 22 2 (.float .f64 dt)).run Tryd.prog w = .ok (.int .i64 k) w)
    (hm : ∀ w, (binOp .mul 22 (.float .f64 d) (.float .f64 4616189618054758400)).run Tryd.prog w = .ok (.float .f64 d4) w)
    (hc : ∀ w, (convert 22 2 (.float .f64 d4)).run Tryd.prog w = .ok (.int .i64 q) w) :
    Calls Tryd.prog 7 #[.float .f64 d] w fun e w' => e = .returned (.tuple #[.string (textQ q), .int .i64 0]) ∧ Env w0 w' := by
  have HE := Lib.hid h; clear h
  have H := Lib.hid hd; clear hd
  have HTX : Hid (textQ q = ⟨(Lib.itoa (k : Int)).toArray⟩ ++ partS r) := Lib.hid (by unfold textQ; rw [hqr, hqk])
  have hkb : k ≤ 1099511627776 := by omega
  have hsub : (q : Int) - 4 * (k : Int) = (r : Int) := by omega
  have e60 := add_part k hkb ⟨#[]⟩ (by decide)
  have e61 := add_part k hkb ⟨#[46, 50, 53]⟩ (by decide)
  have e62 := add_part k hkb ⟨#[46, 53]⟩ (by decide)
  have e63 := add_part k hkb ⟨#[46, 55, 53]⟩ (by decide)
  clear hqr hqk
  have hcases : r = 0 ∨ r = 1 ∨ r = 2 ∨ r = 3 := by omega
  rcases hcases with rfl | rfl | rfl | rfl
  all_goals
    go_enter Tryd.func7, Tryd.ntmps7
    go_wp2_with (first | (go_at_call 16; refine (told_any _ _ H.out).mono ?_; rintro e w' ⟨rfl, rfl⟩) | (go_at_call 17; refine (hT.out _).mono ?_; rintro e w' ⟨rfl, rfl⟩) | (go_at_call 15; refine (fmt_env w0 _ _ (by omega) (by omega) HE.out).mono ?_; rintro e w1 ⟨rfl, hEnv'⟩))
    go_ret2
    exact ⟨by rw [HTX.out]; rfl, Env.alloc (by assumption) _⟩
end Go.Proofs.YtloaajoeciajaaaDoor
