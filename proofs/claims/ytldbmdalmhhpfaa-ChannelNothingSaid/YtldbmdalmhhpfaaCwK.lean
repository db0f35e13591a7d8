/- Channel: a flight that a call owns; the law's gram, awake. -/
import Derived.Test.YtldbmdalmhhpfaaCwJ
namespace Go.Proofs.Ytldbmdalmhhpfaa
open Go.RowKit Go.Lib Go.Ow Go.Cw Go.Cq
set_option linter.unusedVariables false
set_option linter.unusedSimpArgs false
set_option maxRecDepth 100000

/-- A flight whose blocks lie at B or above; all below B is as it was. -/
def Mine (B : Nat) (w0 : World) (fb : Nat) (l : List Gm) (w : World) : Prop := B ≤ fb ∧ Below B w0 w ∧ ∃ r, B ≤ r ∧ Fl w fb r l
theorem Mine.good {B : Nat} {w0 w : World} {fb : Nat} {l : List Gm} (h : Mine B w0 fb l w) : Cq.Good l := by obtain ⟨-, -, r, -, hf⟩ := h; exact hf.good
theorem Mine.below {B : Nat} {w0 w w' : World} {fb : Nat} {l : List Gm} (h : Mine B w0 fb l w) (k : Below w.heap.size w w') : Mine B w0 fb l w' := by
  obtain ⟨h1, h2, r, h3, hf⟩ := h
  exact ⟨h1, h2.trans (k.mono (by have := hf.low; omega)), r, h3, hf.below k⟩
theorem Mine.dn {B : Nat} {w0 w w' : World} {fb r : Nat} {l l' : List Gm} (h1 : B ≤ fb) (h2 : Below B w0 w) (h3 : B ≤ r) (hf : Fl w fb r l) (hd : Dn w fb r l' w') : Mine B w0 fb l' w' := by
  obtain ⟨r', hf', hr'⟩ := hd.fl
  exact ⟨h1, h2.trans (hd.xr.below h1 h3 (by have := hf.low; omega)), r', by have := hf.low; omega, hf'⟩
theorem Mine.calls {B : Nat} {w0 w : World} {fb : Nat} {l l' : List Gm} {f : Nat} {args : Array Value} {x : Ending} (h : Mine B w0 fb l w) (hc : ∀ r, Fl w fb r l → Calls Try.prog f args w fun e w' => e = x ∧ Dn w fb r l' w') : Calls Try.prog f args w fun e w' => e = x ∧ Mine B w0 fb l' w' := by
  obtain ⟨h1, h2, r, h3, hf⟩ := h
  exact (hc r hf).mono (fun e w' he => ⟨he.1, Mine.dn h1 h2 h3 hf he.2⟩)
theorem mine_len {B : Nat} {w0 w : World} {fb : Nat} {l : List Gm} (h : Mine B w0 fb l w) : Calls Try.prog 21 #[.pointer (some ⟨fb, 0, none⟩)] w fun e w' => e = .returned (.int .i64 (l.length : Int)) ∧ w' = w := by
  obtain ⟨-, -, r, -, hf⟩ := h
  exact len_any w fb r l hf
theorem mine_new (w : World) : Calls Try.prog 14 #[] w fun e w' => ∃ fb, e = .returned (.pointer (some ⟨fb, 0, none⟩)) ∧ Mine w.heap.size w fb [] w' :=
  (new_any w).mono (fun e w' ⟨fb, h1, h2, h3, h4⟩ => ⟨fb, h1, h2, h4, fb, h2, h3⟩)
theorem gram_any (s : ByteArray) (w : World) : Calls Try.prog 18 #[.string s] w fun e w' => e = .returned (.agg #[.int .i64 1, .int .i64 2, .string s, .int .i64 0]) ∧ Below w.heap.size w w' := by
  go_enter Try.func18, Try.ntmps18
  go_wp2_with fail
  refine bodyPost_ret (results_cell Try.results18 _ _ w.heap.size 0 [.int .i64 1, .int .i64 2, .string s, .int .i64 0] _ rfl (gm_range (g := ⟨1, 2, s, 0⟩) (heap_alloc_new w _)) Try.underlying35 (by rfl) (by kernel_rfl)) rfl ?_
  exact ⟨rfl, gAl _ _⟩
theorem awk1 (s : ByteArray) (hs : s.size ≤ 65536) : mayB ⟨1, 2, s, 0⟩ = true := mayB_iff.2 ⟨rfl, rfl, by simp only; omega, by simp only; omega, by simp only; omega, by simp only; omega⟩
theorem awk2 (s : ByteArray) (hs : s.size ≤ 65536) (l : List Gm) (hl : l.length < 65536) : putE l ⟨1, 2, s, 0⟩ = 0 ∧ putL l ⟨1, 2, s, 0⟩ = l ++ [⟨1, 2, s, 0⟩] := by
  have e : putE l ⟨1, 2, s, 0⟩ = 0 := by unfold putE; rw [if_pos (awk1 s hs), if_neg (by omega)]
  exact ⟨e, by unfold putL; rw [if_pos e]⟩
theorem mine_put1 (s : ByteArray) (hs : s.size ≤ 65536) {B : Nat} {w0 w : World} {fb : Nat} {l : List Gm} (h : Mine B w0 fb l w) (hl : l.length < 65536) : Calls Try.prog 15 #[.pointer (some ⟨fb, 0, none⟩), .agg #[.int .i64 1, .int .i64 2, .string s, .int .i64 0]] w fun e w' => e = .returned (.int .i64 0) ∧ Mine B w0 fb (l ++ [⟨1, 2, s, 0⟩]) w' := by
  obtain ⟨e1, e2⟩ := awk2 s hs l hl
  have := h.calls (fun r hf => put_any 1 2 s 0 w fb r l hf)
  rw [e1, e2] at this
  exact this
theorem mine_take2 (x y : ByteArray) {B : Nat} {w0 w : World} {fb : Nat} (h : Mine B w0 fb [⟨1, 2, x, 0⟩, ⟨1, 2, y, 0⟩] w) : Calls Try.prog 20 #[.pointer (some ⟨fb, 0, none⟩), .int .i64 1] w fun e w' => e = .returned (.tuple #[.agg #[.int .i64 1, .int .i64 2, .string y, .int .i64 0], .int .i64 0]) ∧ Mine B w0 fb [⟨1, 2, x, 0⟩] w' :=
  h.calls (fun r hf => take_any 1 w fb r _ hf)
set_option maxHeartbeats 4000000 in
theorem awake_any (w : World) : Calls Try.prog 11 #[] w fun e w' => e = .returned (.bool true) ∧ Below w.heap.size w w' := by
  go_enter Try.func11, Try.ntmps11
  go_wp2_with fail
  refine (mine_new w).mono ?_
  rintro e w1 ⟨fb, rfl, hm⟩
  have HM1 := Lib.hid hm
  clear hm
  go_wp2_with fail
  refine (gram_any _ w1).mono ?_
  rintro e w2 ⟨rfl, hb2⟩
  have HM2 := Lib.hid (mine_put1 ⟨#[97]⟩ (by decide) (HM1.out.below hb2) (by decide))
  clear hb2
  go_wp2_with fail
  refine HM2.out.mono ?_
  rintro e w3 ⟨rfl, hm⟩
  have HM3 := Lib.hid hm
  clear hm HM2 HM1
  go_wp2_with fail
  refine (gram_any _ w3).mono ?_
  rintro e w4 ⟨rfl, hb2⟩
  have HM2 := Lib.hid (mine_put1 ⟨#[98]⟩ (by decide) (HM3.out.below hb2) (by decide))
  clear hb2
  go_wp2_with fail
  refine HM2.out.mono ?_
  rintro e w5 ⟨rfl, hm⟩
  have HM4 := Lib.hid (mine_take2 ⟨#[97]⟩ ⟨#[98]⟩ hm)
  clear hm HM2 HM3
  go_wp2_with fail
  refine HM4.out.mono ?_
  rintro e w6 ⟨rfl, hm⟩
  have HM5 := Lib.hid hm
  clear hm HM4
  go_upto_region 5 with (fail)
  obtain ⟨W6, hW6⟩ : ∃ W6, W6 = w6.alloc (.cells #[.int .i64 1, .int .i64 2, .string ⟨#[98]⟩, .int .i64 0] 35) := ⟨_, rfl⟩
  have r6 : W6.heap[w6.heap.size]? = some (.cells #[.int .i64 1, .int .i64 2, .string ⟨#[98]⟩, .int .i64 0] 35 (0, 0)) := by rw [hW6]; exact heap_alloc_new w6 _
  have hm6 := HM5.out.below (show Below w6.heap.size w6 W6 by rw [hW6]; exact gAl _ _)
  have HM4 := Lib.hid hm6
  obtain ⟨xb, hxb⟩ : ∃ xb, xb = w6.heap.size := ⟨_, rfl⟩
  have HSS : Hid (∀ V, Below W6.heap.size W6 V → V.cell? ⟨xb, 0, none⟩ = some (.int .i64 1) ∧ V.cell? ⟨xb, 1, none⟩ = some (.int .i64 2) ∧ V.cell? ⟨xb, 2, none⟩ = some (.string ⟨#[98]⟩) ∧ V.cell? ⟨xb, 3, none⟩ = some (.int .i64 0)) := Lib.hid (fun V hV => four_cells (by rw [hxb, hV.block _ (by rw [hW6]; simp)]; exact r6))
  rw [← hW6, ← hxb]
  clear hW6 r6 hm6 hxb HM5
  refine wp_region_held_drew (S := fun V => V.cell? ⟨xb, 0, none⟩ = some (.int .i64 1) ∧ V.cell? ⟨xb, 1, none⟩ = some (.int .i64 2) ∧ V.cell? ⟨xb, 2, none⟩ = some (.string ⟨#[98]⟩) ∧ V.cell? ⟨xb, 3, none⟩ = some (.int .i64 0)) (by kernel_rfl) (HSS.out _ (Below.drew (Below.refl _ _))) (fun hH => ?_)
  have hs0 := HSS.out _ (Below.drew (Below.refl _ _))
  have HV0 : Hid (Below W6.heap.size W6 W6.drew) := Lib.hid (Below.drew (Below.refl _ _))
  generalize W6.drew = V0 at *
  refine tk 0 (by assumption) rfl (by kernel_rfl) (fun _ _ _ h => h) (fun V hV => by go_simp; try with_reducible rfl) ?_
  try simp only [Act.put, sqA, sqB, sqC, sqD, sqE, sqF]
  refine tk 1 (by assumption) rfl (by kernel_rfl) (fun _ _ _ h => h) (fun V hV => by go_simp; try with_reducible rfl) ?_
  try simp only [Act.put, sqA, sqB, sqC, sqD, sqE, sqF]
  refine tk 2 (by assumption) rfl (by kernel_rfl) (fun _ _ _ h => h) (fun V hV => by go_simp; try with_reducible rfl) ?_
  try simp only [Act.put, sqA, sqB, sqC, sqD, sqE, sqF]
  refine tk 3 (by assumption) rfl (by kernel_rfl) (fun _ _ _ h => h) (fun V hV => by obtain ⟨hx0, hx1, hx2, hx3⟩ := hV; go_simp; try with_reducible rfl) ?_
  try simp only [Act.put, sqA, sqB, sqC, sqD, sqE, sqF]
  refine wpAnyH_ready (rs := [4]) (by kernel_rfl) (by simp) ?_
  refine AllReadyH.cons (o := _) rfl (fun K hK => ?_) AllReadyH.nil
  go_simp
  refine (gram_any _ V0).mono ?_
  rintro e V1 ⟨rfl, hb1⟩
  have HV1 := Lib.hid (HV0.out.trans (hb1.mono HV0.out.size))
  clear hb1
  go_wp2_with fail
  refine hK.out _ _ (HSS.out _ HV1.out) (fun hH => ?_)
  clear hK K
  try simp only [Act.put, sqA, sqB, sqC, sqD, sqE, sqF]
  refine tk 5 (by assumption) rfl (by kernel_rfl) (fun _ _ _ h => h) (fun V hV => by go_simp; try with_reducible rfl) ?_
  try simp only [Act.put, sqA, sqB, sqC, sqD, sqE, sqF]
  refine tk 6 (by assumption) rfl (by kernel_rfl) (fun _ _ _ h => h) (fun V hV => by go_simp; try with_reducible rfl) ?_
  try simp only [Act.put, sqA, sqB, sqC, sqD, sqE, sqF]
  refine tk 7 (by assumption) rfl (by kernel_rfl) (fun _ _ _ h => h) (fun V hV => by go_simp; try with_reducible rfl) ?_
  try simp only [Act.put, sqA, sqB, sqC, sqD, sqE, sqF]
  refine tk 8 (by assumption) rfl (by kernel_rfl) (fun _ _ _ h => h) (fun V hV => by go_simp; try with_reducible rfl) ?_
  try simp only [Act.put, sqA, sqB, sqC, sqD, sqE, sqF]
  refine wpAnyH_ready (rs := [9]) (by kernel_rfl) (by simp) ?_
  refine AllReadyH.cons (o := _) rfl (fun K hK => ?_) AllReadyH.nil
  go_simp
  refine (mine_len (HM4.out.below HV1.out)).mono ?_
  rintro e V2 ⟨rfl, hv2⟩
  rw [hv2]
  clear hv2
  go_wp2_with fail
  refine hK.out _ _ (HSS.out _ HV1.out) (fun hH => ?_)
  clear hK K
  try simp only [Act.put, sqA, sqB, sqC, sqD, sqE, sqF]
  refine tk 10 (by assumption) rfl (by kernel_rfl) (fun _ _ _ h => h) (fun V hV => by go_simp; try with_reducible rfl) ?_
  try simp only [Act.put, sqA, sqB, sqC, sqD, sqE, sqF]
  refine tk 11 (by assumption) rfl (by kernel_rfl) (fun _ _ _ h => h) (fun V hV => by go_simp; try with_reducible rfl) ?_
  try simp only [Act.put, sqA, sqB, sqC, sqD, sqE, sqF]
  refine tk 12 (by assumption) rfl (by kernel_rfl) (fun _ _ _ h => h) (fun V hV => by go_simp; try with_reducible rfl) ?_
  try simp only [Act.put, sqA, sqB, sqC, sqD, sqE, sqF]
  refine wpAnyH_done (by kernel_rfl) ?_ _
  go_wp2_with fail
  go_ret
  exact ⟨rfl, (HM4.out.below HV1.out).2.1⟩
end Go.Proofs.Ytldbmdalmhhpfaa
