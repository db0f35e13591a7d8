/- Channel: the document's Copy, Ready, Same. -/
import Derived.Test.YtldbmdalmhhpfaaCwN
namespace Go.Proofs.Ytldbmdalmhhpfaa
open Go.RowKit Go.Lib Go.Ow Go.Cw Go.Cq
set_option linter.unusedVariables false
set_option linter.unusedSimpArgs false
set_option maxRecDepth 100000

theorem rw_gs {w : World} {r : Nat} {l : List Gm} {a : Option Addr} {c : Nat} (h : Rw w r 35 4 (.slice a l.length c) l.length (gmRow l)) : Gs w r l a := by
  by_cases hn : 0 < l.length
  · obtain ⟨o, cap, e, -, h1, -, h2, -, -⟩ := h.at hn
    cases e
    exact Or.inr ⟨o, rfl, h1, h2⟩
  · exact Or.inl (List.length_eq_zero_iff.1 (by omega))
theorem Gs.at {w : World} {b : Nat} {l : List Gm} {a : Option Addr} (h : Gs w b l a) (hn : 0 < l.length) : ∃ o, a = some ⟨b, o, none⟩ ∧ b < w.heap.size ∧ w.rangeAt b o (gmRow l) := by
  rcases h with rfl | h
  · simp at hn
  · exact h
/-- One datagram more. -/
theorem gm_app {w : World} {r k : Nat} {a : Option Addr} {c : Nat} {l : List Gm} (x y : Int) (s : ByteArray) (t : Int) (h : Rw w r 35 4 (.slice a l.length c) l.length (gmRow l)) (hf : (l.length + 1) * 40 ≤ 140737488355328) {B : Nat} (hB : B ≤ r) {w0 : World} (hb : Below B w0 w) (hB2 : B ≤ w.heap.size) (W8 : World) (hW8 : W8 = w.alloc (.cells #[.int .i64 x, .int .i64 y, .string s, .int .i64 t] 35)) :
    ∃ a' c' W9 r', (∀ ty, (Builtin.append_ #[22, 22] ty #[.slice a l.length c, .slice (some ⟨w.heap.size, 0, none⟩) 1 1]).run Try.prog W8 = .ok (.slice a' (l ++ [(⟨x, y, s, t⟩ : Gm)]).length c') W9) ∧ Rw W9 r' 35 4 (.slice a' (l ++ [(⟨x, y, s, t⟩ : Gm)]).length c') (l ++ [(⟨x, y, s, t⟩ : Gm)]).length (gmRow (l ++ [(⟨x, y, s, t⟩ : Gm)])) ∧ B ≤ r' ∧ Below B w0 W9 := by
  have b8 : Below w.heap.size w W8 := by rw [hW8]; exact gAl _ _
  have r8 : W8.heap[w.heap.size]? = some (.cells (gmC ⟨x, y, s, t⟩).toArray 35 (0, 0)) := by rw [hW8]; exact heap_alloc_new w _
  obtain ⟨v2, Wn, r2, hrun, hrow, hr2, hxr, hoth⟩ := rw_app (P := Try.prog) (vb := w.heap.size) (vs := gmC ⟨x, y, s, t⟩) Try.underlying22 gmInfo rfl (h.below b8) r8 rfl (gmC_one _) (by omega) (by omega) r
  obtain ⟨a2, c2, rfl⟩ := hrow.slice
  have e1 : (l ++ [(⟨x, y, s, t⟩ : Gm)]).length = l.length + 1 := by simp
  have e2 : gmRow (l ++ [(⟨x, y, s, t⟩ : Gm)]) = gmRow l ++ gmC ⟨x, y, s, t⟩ := by rw [gmRow_app, gmRow_one1]
  refine ⟨a2, c2, Wn, r2, by rw [e1]; exact hrun, by rw [e1, e2]; exact hrow, by have := b8.size; omega, hb.trans ((b8.mono hB2).trans (hxr.below hB hB (by have := b8.size; omega)))⟩
theorem take_go (l : List Gm) {k : Nat} (h : k < l.length) {x y : Int} {s : ByteArray} {t : Int} (e : l[k] = ⟨x, y, s, t⟩) : l.take (k + 1) = l.take k ++ [⟨x, y, s, t⟩] := by rw [List.take_succ_eq_append_getElem h, e]
set_option maxHeartbeats 8000000 in
theorem rCopy_any (l : List Gm) (b : Nat) (a : Option Addr) (c : Nat) (w : World) (h : Gs w b l a) (hl : l.length * 40 ≤ 140737488355328) :
    Calls Try.prog 9 #[.slice a l.length c] w fun e w' => Row1 w l e w' := by
  have HR := Lib.hid (fun V (hV : Below w.heap.size w V) => h.below hV)
  have HL := Lib.hid hl
  clear h hl
  go_enter Try.func9, Try.ntmps9
  go_wp2_with fail
  go_loopw [4, 3] (fun ii v wr => ∃ (k : Nat) (a : Option Addr) (c : Nat) (r' : Nat), ii = .int .i64 (k : Int) ∧ v = .slice a (l.take k).length c ∧ k ≤ l.length ∧ w.heap.size ≤ r' ∧ Rw wr r' 35 4 (.slice a (l.take k).length c) (l.take k).length (gmRow (l.take k)) ∧ Below w.heap.size w wr) (fun ii _ _ => l.length - (RowKit.intOf ii).toNat)
  case atStart => exact ⟨0, _, 0, w.heap.size, rfl, rfl, Nat.zero_le _, Nat.le_refl _, Or.inl ⟨rfl, rfl, _, rfl⟩, gAl _ _⟩
  case round =>
    obtain ⟨k, a3, c3, r', rfl, rfl, hk, hr', hrow, hbel⟩ := hrel
    obtain ⟨wo, hwo⟩ : ∃ wo, wo = wr := ⟨_, rfl⟩
    subst hwo
    have HB := Lib.hid hbel
    have HROW := Lib.hid hrow
    have HR2 := Lib.hid hr'
    by_cases hlt : k < l.length
    · have hlti : (k : Int) < (l.length : Int) := by omega
      have hk0 : (0 : Int) ≤ (k : Int) := by omega
      have hkw : IntKind.i64.wrap ((k : Int) + 1) = (k : Int) + 1 := by rw [IntKind.wrap_i64]; have := HL.out; omega
      have HK1 : Hid (k + 1 ≤ l.length ∧ l.length - (k + 1) < l.length - k ∧ ((k : Int) + 1).toNat = k + 1 ∧ (k : Int) + 1 = ((k + 1 : Nat) : Int)) := Lib.hid ⟨by omega, by omega, by omega, by omega⟩
      obtain ⟨o, rfl, hlow, hra⟩ := (HR.out wo hbel).at (by omega)
      obtain ⟨k0, k1, k2, k3⟩ := gm_cells hra hlt
      obtain ⟨g, hg⟩ : ∃ g, l[k] = g := ⟨_, rfl⟩
      rw [hg] at k0 k1 k2 k3
      obtain ⟨x, y, s, t⟩ := g
      simp only at k0 k1 k2 k3
      have HTK := Lib.hid (take_go l hlt hg)
      have hbl : w.heap.size ≤ wo.heap.size := hbel.size
      have htl : (l.take k).length = k := by rw [List.length_take]; omega
      obtain ⟨W8, hW8⟩ : ∃ W8, W8 = wo.alloc (.cells #[.int .i64 x, .int .i64 y, .string s, .int .i64 t] 35) := ⟨_, rfl⟩
      obtain ⟨a', c', W9, r9, hrun, hrow9, hr9, hb9⟩ := gm_app (k := k) x y s t hrow (by rw [htl]; have := HL.out; omega) hr' hbel hbl W8 hW8
      rw [hW8] at hrun
      rw [← HTK.out] at hrun hrow9
      have HRUN := Lib.hid hrun
      have HROW9 := Lib.hid hrow9
      have HR9 := Lib.hid hr9
      have HB9 := Lib.hid hb9
      clear hrun hrow9 hr9 hb9 hW8 hlt hk hrow hr' hbel hlow hra hbl htl hg
      generalize hm : l.take k = m at *
      generalize hm2 : l.take (k + 1) = m2 at *
      have HM2 := Lib.hid hm2
      clear hm hm2
      go_wp2_with (at_builtin; refine Lib.wpList_append_run _ rfl _ _ _ _ rfl _ _ rfl rfl _ _ (HRUN.out _) ?_)
      refine ⟨⟨k + 1, a', c', r9, congrArg (Value.int .i64) HK1.out.2.2.2, by rw [HM2.out], HK1.out.1, HR9.out, by rw [HM2.out]; exact HROW9.out, HB9.out⟩, ?_⟩
      show l.length - ((k : Int) + 1).toNat < l.length - (k : Int).toNat
      rw [HK1.out.2.2.1]
      exact HK1.out.2.1
    · have hnk : ¬ (k : Int) < (l.length : Int) := by omega
      have HE : Hid (Rw wo r' 35 4 (.slice a3 (l.take k).length c3) l.length (gmRow l)) := Lib.hid (by
        have e : l.take k = l := List.take_of_length_le (by omega)
        rw [e] at hrow ⊢; exact hrow)
      clear hlt hk hrow hr' hbel
      go_wp2_with fail
      refine bodyPost_ret (v := .slice a3 (l.take k).length c3) (by simp [results, Try.results9, go_sem]) rfl ?_
      exact ⟨HB.out, _, _, rfl, HR2.out, HE.out⟩
set_option maxHeartbeats 8000000 in
theorem rReady_any (l : List Gm) (b : Nat) (a : Option Addr) (c : Nat) (w : World) (h : Gs w b l a) (hl : l.length * 40 ≤ 140737488355328) :
    Calls Try.prog 25 #[.slice a l.length c] w fun e w' => Ints1 w (readyL l) e w' := by
  have HR := Lib.hid (fun V (hV : Below w.heap.size w V) => h.below hV)
  have HL := Lib.hid hl
  clear h hl
  go_enter Try.func25, Try.ntmps25
  go_wp2_with fail
  go_loopw [4, 3] (fun ii v wr => ∃ (k : Nat) (a : Option Addr) (c : Nat) (r' : Nat), ii = .int .i64 (k : Int) ∧ v = .slice a (readyK l k).length c ∧ k ≤ l.length ∧ w.heap.size ≤ r' ∧ Rw wr r' 3 1 (.slice a (readyK l k).length c) (readyK l k).length (iv (readyK l k)) ∧ Below w.heap.size w wr) (fun ii _ _ => l.length - (RowKit.intOf ii).toNat)
  case atStart => exact ⟨0, _, 0, w.heap.size, rfl, rfl, Nat.zero_le _, Nat.le_refl _, Or.inl ⟨rfl, rfl, _, rfl⟩, gAl _ _⟩
  case round =>
    obtain ⟨k, a3, c3, r', rfl, rfl, hk, hr', hrow, hbel⟩ := hrel
    obtain ⟨wo, hwo⟩ : ∃ wo, wo = wr := ⟨_, rfl⟩
    subst hwo
    have HB := Lib.hid hbel
    have HROW := Lib.hid hrow
    have HR2 := Lib.hid hr'
    by_cases hlt : k < l.length
    · have hlti : (k : Int) < (l.length : Int) := by omega
      have hk0 : (0 : Int) ≤ (k : Int) := by omega
      have hkw : IntKind.i64.wrap ((k : Int) + 1) = (k : Int) + 1 := by rw [IntKind.wrap_i64]; have := HL.out; omega
      have HK1 : Hid (k + 1 ≤ l.length ∧ l.length - (k + 1) < l.length - k ∧ ((k : Int) + 1).toNat = k + 1 ∧ (k : Int) + 1 = ((k + 1 : Nat) : Int)) := Lib.hid ⟨by omega, by omega, by omega, by omega⟩
      obtain ⟨o, rfl, hlow, hra⟩ := (HR.out wo hbel).at (by omega)
      obtain ⟨k0, k1, k2, k3⟩ := gm_cells hra hlt
      have HGO := Lib.hid (readyK_go l hlt)
      have HRL := Lib.hid (readyK_len l k)
      generalize l[k] = g at *
      obtain ⟨x, y, s, t⟩ := g
      simp only at k0 k1 k2 k3
      have hbl : w.heap.size ≤ wo.heap.size := hbel.size
      have HBL := Lib.hid hbl
      clear hlt hk hrow hr' hbel hlow hra hbl
      by_cases hz : t = 0
      · subst hz
        have HGN := Lib.hid (HGO.out.trans (if_pos rfl))
        clear HGO
        obtain ⟨W8, hW8⟩ : ∃ W8, W8 = wo.alloc (.cells #[.int .i64 (k : Int)] 3) := ⟨_, rfl⟩
        obtain ⟨a', c', W9, r9, hrun, hrow9, hr9, hb9⟩ := iv_app (k : Int) HROW.out HRL.out (by have := HL.out; have := HK1.out; omega) HR2.out HB.out HBL.out W8 hW8
        rw [hW8] at hrun
        have HRUN := Lib.hid hrun
        have HROW9 := Lib.hid hrow9
        have HR9 := Lib.hid hr9
        have HB9 := Lib.hid hb9
        clear hrun hrow9 hr9 hb9 hW8
        go_wp2_with (at_builtin; refine Lib.wpList_append_run _ rfl _ _ _ _ rfl _ _ rfl rfl _ _ (HRUN.out _) ?_)
        refine ⟨⟨k + 1, a', c', r9, congrArg (Value.int .i64) HK1.out.2.2.2, by rw [HGN.out, List.length_append]; rfl, HK1.out.1, HR9.out, by rw [HGN.out]; exact HROW9.out, HB9.out⟩, ?_⟩
        show l.length - ((k : Int) + 1).toNat < l.length - (k : Int).toNat
        rw [HK1.out.2.2.1]
        exact HK1.out.2.1
      · have HGN := Lib.hid (HGO.out.trans (if_neg hz))
        clear HGO
        have hz2 : (t == 0) = false := by simpa using hz
        clear hz
        go_wp2_with fail
        refine ⟨⟨k + 1, a3, c3, r', congrArg (Value.int .i64) HK1.out.2.2.2, by rw [HGN.out], HK1.out.1, HR2.out, by rw [HGN.out]; exact HROW.out, HB.out⟩, ?_⟩
        show l.length - ((k : Int) + 1).toNat < l.length - (k : Int).toNat
        rw [HK1.out.2.2.1]
        exact HK1.out.2.1
    · have hnk : ¬ (k : Int) < (l.length : Int) := by omega
      obtain rfl : k = l.length := by omega
      clear hlt hk hrow hr' hbel
      go_wp2_with fail
      refine bodyPost_ret (v := .slice a3 (readyK l l.length).length c3) (by simp [results, Try.results25, go_sem]) rfl ?_
      exact ⟨HB.out, _, _, rfl, HR2.out, HROW.out⟩
set_option maxHeartbeats 8000000 in
theorem rSame_any (l : List Gm) (b : Nat) (a : Option Addr) (c : Nat) (b2 : Nat) (a2 : Option Addr) (c2 : Nat) (w : World) (h : Gs w b l a) (h2 : Gs w b2 l a2) (hl : l.length * 40 ≤ 140737488355328) :
    Calls Try.prog 26 #[.slice a l.length c, .slice a2 l.length c2] w fun e w' => e = .returned (.bool true) ∧ Below w.heap.size w w' := by
  have HR := Lib.hid (fun V (hV : Below w.heap.size w V) => h.below hV)
  have HR2 := Lib.hid (fun V (hV : Below w.heap.size w V) => h2.below hV)
  have HL := Lib.hid hl
  clear h h2 hl
  go_enter Try.func26, Try.ntmps26
  go_wp2_with fail
  go_loopw [5] (fun ii wr => ∃ k : Nat, ii = .int .i64 (k : Int) ∧ k ≤ l.length ∧ Below w.heap.size w wr) (fun ii _ => l.length - (RowKit.intOf ii).toNat)
  case atStart => exact ⟨0, rfl, Nat.zero_le _, Below.refl _ _⟩
  case round =>
    obtain ⟨k, rfl, hk, hbel⟩ := hrel
    obtain ⟨wo, hwo⟩ : ∃ wo, wo = wr := ⟨_, rfl⟩
    subst hwo
    have HB := Lib.hid hbel
    by_cases hlt : k < l.length
    · have hlti : (k : Int) < (l.length : Int) := by omega
      have hk0 : (0 : Int) ≤ (k : Int) := by omega
      have hkw : IntKind.i64.wrap ((k : Int) + 1) = (k : Int) + 1 := by rw [IntKind.wrap_i64]; have := HL.out; omega
      have HNX : Hid (∀ (V : World), Below w.heap.size w V → (∃ k' : Nat, Value.int .i64 ((k : Int) + 1) = .int .i64 (k' : Int) ∧ k' ≤ l.length ∧ Below w.heap.size w V) ∧ l.length - (RowKit.intOf (Value.int .i64 ((k : Int) + 1))).toNat < l.length - (RowKit.intOf (Value.int .i64 (k : Int))).toNat) := Lib.hid (fun V h1 => by
        refine ⟨⟨k + 1, congrArg (Value.int .i64) (by omega), by omega, h1⟩, ?_⟩
        show l.length - ((k : Int) + 1).toNat < l.length - (k : Int).toNat
        omega)
      obtain ⟨o, rfl, hlow, hra⟩ := (HR.out wo hbel).at (by omega)
      obtain ⟨o2, rfl, hlow2, hra2⟩ := (HR2.out wo hbel).at (by omega)
      obtain ⟨k0, k1, k2, k3⟩ := gm_cells hra hlt
      obtain ⟨m0, m1, m2, m3⟩ := gm_cells hra2 hlt
      generalize l[k] = g at *
      obtain ⟨x, y, s, t⟩ := g
      simp only at k0 k1 k2 k3 m0 m1 m2 m3
      have HSS : Hid (∀ V, Below wo.heap.size wo V → V.cell? ⟨b, o + k * 4, none⟩ = some (.int .i64 x) ∧ V.cell? ⟨b, o + k * 4 + 1, none⟩ = some (.int .i64 y) ∧ V.cell? ⟨b, o + k * 4 + 2, none⟩ = some (.string s) ∧ V.cell? ⟨b, o + k * 4 + 3, none⟩ = some (.int .i64 t) ∧ V.cell? ⟨b2, o2 + k * 4, none⟩ = some (.int .i64 x) ∧ V.cell? ⟨b2, o2 + k * 4 + 1, none⟩ = some (.int .i64 y) ∧ V.cell? ⟨b2, o2 + k * 4 + 2, none⟩ = some (.string s) ∧ V.cell? ⟨b2, o2 + k * 4 + 3, none⟩ = some (.int .i64 t)) := Lib.hid (fun V hV => by
        have e := fun q => World.cell?_of_block (a := ⟨b, q, none⟩) (hV.block b hlow)
        have e2 := fun q => World.cell?_of_block (a := ⟨b2, q, none⟩) (hV.block b2 hlow2)
        exact ⟨(e _).trans k0, (e _).trans k1, (e _).trans k2, (e _).trans k3, (e2 _).trans m0, (e2 _).trans m1, (e2 _).trans m2, (e2 _).trans m3⟩)
      have HB1 : Hid (Below w.heap.size w wo.drew) := Lib.hid HB.out.drew
      clear hlt hk hbel hlow hra hlow2 hra2 k0 k1 k2 k3 m0 m1 m2 m3
      go_upto_region 6 with (fail)
      refine wp_region_held_drew (S := fun V => V.cell? ⟨b, o + k * 4, none⟩ = some (.int .i64 x) ∧ V.cell? ⟨b, o + k * 4 + 1, none⟩ = some (.int .i64 y) ∧ V.cell? ⟨b, o + k * 4 + 2, none⟩ = some (.string s) ∧ V.cell? ⟨b, o + k * 4 + 3, none⟩ = some (.int .i64 t) ∧ V.cell? ⟨b2, o2 + k * 4, none⟩ = some (.int .i64 x) ∧ V.cell? ⟨b2, o2 + k * 4 + 1, none⟩ = some (.int .i64 y) ∧ V.cell? ⟨b2, o2 + k * 4 + 2, none⟩ = some (.string s) ∧ V.cell? ⟨b2, o2 + k * 4 + 3, none⟩ = some (.int .i64 t)) (by kernel_rfl) (HSS.out _ (Below.drew (Below.refl _ _))) (fun hH => ?_)
      have hs0 := HSS.out _ (Below.drew (Below.refl _ _))
      generalize wo.drew = V0 at *
      refine tk 0 (by assumption) rfl (by kernel_rfl) (fun _ _ _ h => h) (fun V hV => by go_simp; try with_reducible rfl) ?_
      try simp only [Act.put, sqA, sqB, sqC, sqD, sqE, sqF]
      refine tk 1 (by assumption) rfl (by kernel_rfl) (fun _ _ _ h => h) (fun V hV => by go_simp; try with_reducible rfl) ?_
      try simp only [Act.put, sqA, sqB, sqC, sqD, sqE, sqF]
      refine tk 2 (by assumption) rfl (by kernel_rfl) (fun _ _ _ h => h) (fun V hV => by go_simp; try with_reducible rfl) ?_
      try simp only [Act.put, sqA, sqB, sqC, sqD, sqE, sqF]
      refine tk 3 (by assumption) rfl (by kernel_rfl) (fun _ _ _ h => h) (fun V hV => by obtain ⟨hx0, hx1, hx2, hx3, hx4, hx5, hx6, hx7⟩ := hV; go_simp; try with_reducible rfl) ?_
      try simp only [Act.put, sqA, sqB, sqC, sqD, sqE, sqF]
      refine tk 4 (by assumption) rfl (by kernel_rfl) (fun _ _ _ h => h) (fun V hV => by go_simp; try with_reducible rfl) ?_
      try simp only [Act.put, sqA, sqB, sqC, sqD, sqE, sqF]
      refine tk 5 (by assumption) rfl (by kernel_rfl) (fun _ _ _ h => h) (fun V hV => by go_simp; try with_reducible rfl) ?_
      try simp only [Act.put, sqA, sqB, sqC, sqD, sqE, sqF]
      refine tk 6 (by assumption) rfl (by kernel_rfl) (fun _ _ _ h => h) (fun V hV => by go_simp; try with_reducible rfl) ?_
      try simp only [Act.put, sqA, sqB, sqC, sqD, sqE, sqF]
      refine tk 7 (by assumption) rfl (by kernel_rfl) (fun _ _ _ h => h) (fun V hV => by obtain ⟨hx0, hx1, hx2, hx3, hx4, hx5, hx6, hx7⟩ := hV; go_simp; try with_reducible rfl) ?_
      try simp only [Act.put, sqA, sqB, sqC, sqD, sqE, sqF]
      refine tk 8 (by assumption) rfl (by kernel_rfl) (fun _ _ _ h => h) (fun V hV => by go_simp; try with_reducible rfl) ?_
      try simp only [Act.put, sqA, sqB, sqC, sqD, sqE, sqF]
      refine wpAnyH_done (by kernel_rfl) ?_ _
      clear hs0 hH
      go_wp2_with fail
      exact HNX.out _ HB1.out
    · have hnk : ¬ (k : Int) < (l.length : Int) := by omega
      clear hlt hk hbel
      go_wp2_with fail
      go_ret
      exact ⟨rfl, HB.out⟩
end Go.Proofs.Ytldbmdalmhhpfaa
