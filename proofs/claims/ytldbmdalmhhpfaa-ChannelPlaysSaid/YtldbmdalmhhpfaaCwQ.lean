/- Channel: Load; what a flight tells that nobody gave. -/
import Derived.Test.YtldbmdalmhhpfaaCwP
namespace Go.Proofs.Ytldbmdalmhhpfaa
open Go.RowKit Go.Lib Go.Ow Go.Cw Go.Cq
set_option linter.unusedVariables false
set_option linter.unusedSimpArgs false
set_option maxRecDepth 100000

/-- What Load tells. -/
def LoadEnds (w : World) (l : List Gm) (e : Ending) (w' : World) : Prop := (loadE l = 0 ∧ ∃ fb, e = .returned (.tuple #[.pointer (some ⟨fb, 0, none⟩), .int .i64 0]) ∧ Mine w.heap.size w fb l w') ∨ (loadE l ≠ 0 ∧ e = .returned (.tuple #[.pointer none, .int .i64 (loadE l)]) ∧ Below w.heap.size w w')
theorem loadE_all {l : List Gm} (h : ∀ j (hj : j < l.length), mayB l[j] = true) : loadE l = if 65536 < l.length then 2 else 0 := by
  unfold loadE
  rw [if_pos]
  rw [List.all_eq_true]
  intro x hx
  obtain ⟨j, hj, rfl⟩ := List.getElem_of_mem hx
  exact h j hj
theorem loadE_bad {l : List Gm} {j : Nat} (hj : j < l.length) (h : mayB l[j] = false) : loadE l = 1 := by
  unfold loadE
  rw [if_neg]
  intro hall
  rw [List.all_eq_true] at hall
  have := hall _ (List.getElem_mem hj)
  rw [h] at this; cases this
theorem loadE_good {l : List Gm} (h : loadE l = 0) : Cq.Good l := by
  unfold loadE at h
  by_cases ha : l.all mayB = true
  · rw [if_pos ha] at h
    by_cases hl : 65536 < l.length
    · rw [if_pos hl] at h; omega
    · exact ⟨by omega, fun g hg => List.all_eq_true.1 ha g hg⟩
  · rw [if_neg ha] at h; omega
set_option maxHeartbeats 8000000 in
theorem load_any (l : List Gm) (b : Nat) (a : Option Addr) (c : Nat) (w : World) (h : Gs w b l a) (hl : l.length * 40 ≤ 140737488355328) :
    Calls Try.prog 8 #[.slice a l.length c] w fun e w' => LoadEnds w l e w' := by
  have HR := Lib.hid (fun V (hV : Below w.heap.size w V) => h.below hV)
  have HL := Lib.hid hl
  clear h hl
  go_enter Try.func8, Try.ntmps8
  go_wp2_with fail
  go_loopw [9] (fun ii wr => ∃ k : Nat, ii = .int .i64 (k : Int) ∧ k ≤ l.length ∧ (∀ j (hj : j < l.length), j < k → mayB l[j] = true) ∧ Below w.heap.size w wr) (fun ii _ => l.length - (RowKit.intOf ii).toNat)
  case atStart => exact ⟨0, rfl, Nat.zero_le _, fun j hj hk => absurd hk (by omega), Below.refl _ _⟩
  case round =>
    obtain ⟨k, rfl, hk, hall, hbel⟩ := hrel
    obtain ⟨wo, hwo⟩ : ∃ wo, wo = wr := ⟨_, rfl⟩
    subst hwo
    have HB := Lib.hid hbel
    have HA := Lib.hid hall
    by_cases hlt : k < l.length
    · have hlti : (k : Int) < (l.length : Int) := by omega
      have hk0 : (0 : Int) ≤ (k : Int) := by omega
      have hkw : IntKind.i64.wrap ((k : Int) + 1) = (k : Int) + 1 := by rw [IntKind.wrap_i64]; have := HL.out; omega
      have HNX : Hid (mayB l[k] = true → ∀ (V : World), Below w.heap.size w V → (∃ k' : Nat, Value.int .i64 ((k : Int) + 1) = .int .i64 (k' : Int) ∧ k' ≤ l.length ∧ (∀ j (hj : j < l.length), j < k' → mayB l[j] = true) ∧ Below w.heap.size w V) ∧ l.length - (RowKit.intOf (Value.int .i64 ((k : Int) + 1))).toNat < l.length - (RowKit.intOf (Value.int .i64 (k : Int))).toNat) := Lib.hid (fun hm V h1 => by
        refine ⟨⟨k + 1, congrArg (Value.int .i64) (by omega), by omega, fun j hj hjk => ?_, h1⟩, ?_⟩
        · by_cases e : j = k
          · subst e; exact hm
          · exact hall j hj (by omega)
        · show l.length - ((k : Int) + 1).toNat < l.length - (k : Int).toNat
          omega)
      have HBD : Hid (mayB l[k] = false → loadE l = 1) := Lib.hid (fun h => loadE_bad hlt h)
      obtain ⟨o, rfl, hlow, hra⟩ := (HR.out wo hbel).at (by omega)
      obtain ⟨k0, k1, k2, k3⟩ := gm_cells hra hlt
      have hbl : w.heap.size ≤ wo.heap.size := hbel.size
      have HBL := Lib.hid hbl
      generalize l[k] = g at *
      obtain ⟨x, y, s, t⟩ := g
      simp only at k0 k1 k2 k3
      have HM := Lib.hid (mayBe_any x y s t)
      clear hlt hk hall hbel hlow hra hbl
      generalize mayB ⟨x, y, s, t⟩ = q at *
      cases q with
      | true =>
        go_wp2_with fail
        refine (HM.out _).mono ?_
        rintro e w3 ⟨rfl, hb3⟩
        have HB3 : Hid (Below w.heap.size w w3) := Lib.hid (HB.out.trans ((gNx (gAl wo _) hb3).mono HBL.out))
        clear hb3 k0 k1 k2 k3
        go_wp2_with fail
        exact HNX.out trivial _ HB3.out
      | false =>
        go_wp2_with fail
        refine (HM.out _).mono ?_
        rintro e w3 ⟨rfl, hb3⟩
        have HB3 : Hid (Below w.heap.size w w3) := Lib.hid (HB.out.trans ((gNx (gAl wo _) hb3).mono HBL.out))
        clear hb3 k0 k1 k2 k3
        go_wp2_with fail
        refine bodyPost_ret (v := .tuple #[.pointer none, .int .i64 1]) (by simp [results, Try.results8, go_sem]) rfl ?_
        exact Or.inr ⟨by rw [HBD.out trivial]; decide, by rw [HBD.out trivial], HB3.out⟩
    · have hnk : ¬ (k : Int) < (l.length : Int) := by omega
      have HLE : Hid (loadE l = if 65536 < l.length then 2 else 0) := Lib.hid (loadE_all (fun j hj => hall j hj (by omega)))
      by_cases hbig : 65536 < l.length
      · have hbi : (65536 : Int) < (l.length : Int) := by omega
        have HZ : Hid (loadE l = 2) := Lib.hid (by rw [HLE.out, if_pos hbig])
        clear hlt hk hall hbel hbig
        go_wp2_with fail
        refine bodyPost_ret (v := .tuple #[.pointer none, .int .i64 2]) (by simp [results, Try.results8, go_sem]) rfl ?_
        exact Or.inr ⟨by rw [HZ.out]; decide, by rw [HZ.out], HB.out⟩
      · have hbi : ¬ (65536 : Int) < (l.length : Int) := by omega
        have HZ : Hid (loadE l = 0) := Lib.hid (by rw [HLE.out, if_neg hbig])
        have HGD := Lib.hid (loadE_good HZ.out)
        clear hlt hk hall hbel hbig
        go_wp2_with fail
        refine (new_any wo).mono ?_
        rintro e w3 ⟨fb, rfl, hfb, hfl, hb3⟩
        have HB3 := Lib.hid (gNx HB.out hb3)
        have HFB : Hid (w.heap.size ≤ fb) := Lib.hid (by have := HB.out.size; omega)
        obtain ⟨v, h1, h2⟩ := hfl.row
        have H1 := Lib.hid h1
        have HC := Lib.hid (gmClone_any l (.slice a l.length c) w3 (fun V hV => by
          have hg := HR.out V (gNx HB3.out hV)
          rcases hg with rfl | ⟨o, rfl, -, hra⟩
          · cases a with
            | none =>
              by_cases hc : c = 0
              · subst hc; exact Src.ofNil V Try.underlying22 0
              · exact Src.ofNil V Try.underlying22 c
            | some a => exact Src.ofSlice V Try.underlying22 a 0 c [] (by simp) (fun j u hj => by simp at hj) (fun u hu => by cases hu)
          · exact Src.ofSlice V Try.underlying22 ⟨b, o, none⟩ l.length c _ (gmRow_len l) (fun j u hj => by rw [Addr.add_lit]; exact hra j u hj) (gmRow_one l)) ⟨a, c, rfl, fun e => by
          rcases HR.out w3 HB3.out with h | ⟨o, h, -⟩
          · exact h
          · rw [e] at h; cases h⟩ (by have := HL.out; omega))
        clear hfb hfl hb3 h1 h2
        go_wp2_with fail
        refine HC.out.mono ?_
        rintro e w4 ⟨hb4, v4, r4, rfl, hr4, hrw4⟩
        have h1 : w4.heap[fb]? = some (.cells #[.pointer (some ⟨fb, 0, none⟩), v] 55 (0, 0)) := (hb4.block fb (Array.getElem?_eq_some_iff.1 H1.out).1).trans H1.out
        obtain ⟨a4, c4, rfl⟩ := hrw4.slice
        have HE : Hid (Mine w.heap.size w fb l (w4.setCell ⟨fb, 1, none⟩ (.slice a4 l.length c4))) := Lib.hid (by
          have hB4 := gNx HB3.out hb4
          have hsz := HB3.out.size
          refine ⟨HFB.out, ⟨hB4.os, hB4.tape, hB4.output, by simpa [World.setCell] using hB4.size, fun j hj => (Below.heap_setCell _ _ _ _ (by have := HFB.out; show j ≠ fb; omega)).trans (hB4.block j hj)⟩, ?_⟩
          rcases hrw4 with ⟨h0, hx, hv⟩ | ⟨o, cap, cur, e, hr, hrest⟩
          · exact ⟨fb, HFB.out, fl_put h1 (Or.inl ⟨h0, hx, hv⟩) HGD.out (Array.getElem?_eq_some_iff.1 h1).1⟩
          · exact ⟨r4, by omega, fl_put h1 (Or.inr ⟨o, cap, cur, e, hr, hrest⟩) HGD.out (Array.getElem?_eq_some_iff.1 hr).1⟩)
        obtain ⟨c0, c1, f0, f1⟩ := two_cells h1
        clear hb4 hr4 hrw4 h1
        go_wp2_with fail
        refine bodyPost_ret (v := .tuple #[.pointer (some ⟨fb, 0, none⟩), .int .i64 0]) (by simp [results, Try.results8, go_sem]) rfl ?_
        exact Or.inl ⟨HZ.out, fb, rfl, HE.out⟩
end Go.Proofs.Ytldbmdalmhhpfaa
