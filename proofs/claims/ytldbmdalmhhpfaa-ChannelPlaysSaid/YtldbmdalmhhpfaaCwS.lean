/- Channel: the document's May, without, cut, tick. -/
import Derived.Test.YtldbmdalmhhpfaaCwO
namespace Go.Proofs.Ytldbmdalmhhpfaa
open Go.RowKit Go.Lib Go.Ow Go.Cw Go.Cq
set_option linter.unusedVariables false
set_option linter.unusedSimpArgs false
set_option maxRecDepth 100000

set_option maxHeartbeats 4000000 in
theorem rMay_any (a b : Int) (s : ByteArray) (t : Int) (w : World) : Calls Try.prog 24 #[.agg #[.int .i64 a, .int .i64 b, .string s, .int .i64 t]] w fun e w' => e = .returned (.bool (mayB ⟨a, b, s, t⟩)) ∧ Below w.heap.size w w' := by
  have HZ : Hid (mayB ⟨a, b, s, t⟩ = (idB a && idB b && (a != b) && decide ((s.size : Int) ≤ 65536) && decide (0 ≤ t) && decide (t ≤ 65536))) := Lib.hid rfl
  generalize mayB ⟨a, b, s, t⟩ = Z at *
  have HA := Lib.hid (rNumber_any a)
  have HB := Lib.hid (rNumber_any b)
  generalize idB a = x at *
  generalize idB b = y at *
  cases x with
  | false =>
    go_enter Try.func24, Try.ntmps24
    go_wp2_with fail
    refine (HA.out _).mono ?_
    rintro e w2 ⟨rfl, hw2⟩
    rw [hw2]
    clear hw2
    go_wp2_with fail
    go_ret
    exact ⟨by rw [HZ.out]; first | rfl | (simp; omega), gAl _ _⟩
  | true =>
    cases y with
    | false =>
      go_enter Try.func24, Try.ntmps24
      go_wp2_with fail
      refine (HA.out _).mono ?_
      rintro e w2 ⟨rfl, hw2⟩
      rw [hw2]
      clear hw2
      go_wp2_with fail
      refine (HB.out _).mono ?_
      rintro e w2 ⟨rfl, hw2⟩
      rw [hw2]
      clear hw2
      go_wp2_with fail
      go_ret
      exact ⟨by rw [HZ.out]; first | rfl | (simp; omega), gAl _ _⟩
    | true =>
      by_cases h0 : a = b
      · have hne : (a != b) = false := by simpa using h0
        have HZ : Hid (Z = false) := Lib.hid (by rw [HZ.out, hne]; rfl)
        clear h0
        go_enter Try.func24, Try.ntmps24
        go_wp2_with fail
        refine (HA.out _).mono ?_
        rintro e w2 ⟨rfl, hw2⟩
        rw [hw2]
        clear hw2
        go_wp2_with fail
        refine (HB.out _).mono ?_
        rintro e w2 ⟨rfl, hw2⟩
        rw [hw2]
        clear hw2
        go_wp2_with fail
        go_ret
        exact ⟨by rw [HZ.out]; first | rfl | (simp; omega), gAl _ _⟩
      have hne : (a != b) = true := by simpa using h0
      have HZ : Hid (Z = (decide ((s.size : Int) ≤ 65536) && decide (0 ≤ t) && decide (t ≤ 65536))) := Lib.hid (by rw [HZ.out, hne]; simp)
      clear h0
      by_cases h1 : (s.size : Int) ≤ 65536
      case neg =>
        have HZ : Hid (Z = false) := Lib.hid (by rw [HZ.out]; simp [h1])
        go_enter Try.func24, Try.ntmps24
        go_wp2_with fail
        refine (HA.out _).mono ?_
        rintro e w2 ⟨rfl, hw2⟩
        rw [hw2]
        clear hw2
        go_wp2_with fail
        refine (HB.out _).mono ?_
        rintro e w2 ⟨rfl, hw2⟩
        rw [hw2]
        clear hw2
        go_wp2_with fail
        go_ret
        exact ⟨by rw [HZ.out]; first | rfl | (simp; omega), gAl _ _⟩
      by_cases h2 : 0 ≤ t
      case neg =>
        have HZ : Hid (Z = false) := Lib.hid (by rw [HZ.out]; simp [h2])
        go_enter Try.func24, Try.ntmps24
        go_wp2_with fail
        refine (HA.out _).mono ?_
        rintro e w2 ⟨rfl, hw2⟩
        rw [hw2]
        clear hw2
        go_wp2_with fail
        refine (HB.out _).mono ?_
        rintro e w2 ⟨rfl, hw2⟩
        rw [hw2]
        clear hw2
        go_wp2_with fail
        go_ret
        exact ⟨by rw [HZ.out]; first | rfl | (simp; omega), gAl _ _⟩
      by_cases h3 : t ≤ 65536
      case neg =>
        have HZ : Hid (Z = false) := Lib.hid (by rw [HZ.out]; simp [h3])
        go_enter Try.func24, Try.ntmps24
        go_wp2_with fail
        refine (HA.out _).mono ?_
        rintro e w2 ⟨rfl, hw2⟩
        rw [hw2]
        clear hw2
        go_wp2_with fail
        refine (HB.out _).mono ?_
        rintro e w2 ⟨rfl, hw2⟩
        rw [hw2]
        clear hw2
        go_wp2_with fail
        go_ret
        exact ⟨by rw [HZ.out]; first | rfl | (simp; omega), gAl _ _⟩
      have HZ : Hid (Z = true) := Lib.hid (by rw [HZ.out]; simp [h1, h2, h3])
      go_enter Try.func24, Try.ntmps24
      go_wp2_with fail
      refine (HA.out _).mono ?_
      rintro e w2 ⟨rfl, hw2⟩
      rw [hw2]
      clear hw2
      go_wp2_with fail
      refine (HB.out _).mono ?_
      rintro e w2 ⟨rfl, hw2⟩
      rw [hw2]
      clear hw2
      go_wp2_with fail
      go_ret
      exact ⟨by rw [HZ.out]; first | rfl | (simp; omega), gAl _ _⟩
theorem wo_go (l : List Gm) {n k : Nat} (h : k < l.length) : (l.take (k + 1)).eraseIdx n = if k = n then (l.take k).eraseIdx n else (l.take k).eraseIdx n ++ [l[k]] := by
  rw [List.take_succ_eq_append_getElem h]
  have hl : (l.take k).length = k := by rw [List.length_take]; omega
  by_cases e : k = n
  · rw [if_pos e]
    subst e
    rw [List.eraseIdx_append_of_length_le (by omega), hl, Nat.sub_self, List.eraseIdx_of_length_le (l := l.take k) (by omega)]; simp
  · rw [if_neg e]
    by_cases hn : n < k
    · rw [List.eraseIdx_append_of_lt_length (by omega)]
    · rw [List.eraseIdx_of_length_le (by simp; omega), List.eraseIdx_of_length_le (by omega)]
set_option maxHeartbeats 8000000 in
theorem rWithout_any (l : List Gm) (n : Nat) (b : Nat) (a : Option Addr) (c : Nat) (w : World) (h : Gs w b l a) (hl : l.length * 40 ≤ 140737488355328) :
    Calls Try.prog 38 #[.slice a l.length c, .int .i64 (n : Int)] w fun e w' => Row1 w (l.eraseIdx n) e w' := by
  have HR := Lib.hid (fun V (hV : Below w.heap.size w V) => h.below hV)
  have HL := Lib.hid hl
  have plen : ∀ k, k ≤ l.length → ((l.take k).eraseIdx n).length ≤ k := fun k hk => Nat.le_trans (List.length_eraseIdx_le _ _) (by rw [List.length_take]; omega)
  clear h hl
  go_enter Try.func38, Try.ntmps38
  go_wp2_with fail
  go_loopw [6, 5] (fun ii v wr => ∃ (k : Nat) (a : Option Addr) (c : Nat) (r' : Nat), ii = .int .i64 (k : Int) ∧ v = .slice a ((l.take k).eraseIdx n).length c ∧ k ≤ l.length ∧ w.heap.size ≤ r' ∧ Rw wr r' 35 4 (.slice a ((l.take k).eraseIdx n).length c) ((l.take k).eraseIdx n).length (gmRow ((l.take k).eraseIdx n)) ∧ Below w.heap.size w wr) (fun ii _ _ => l.length - (RowKit.intOf ii).toNat)
  case atStart => exact ⟨0, some ⟨w.heap.size, 0, none⟩, 0, w.heap.size, rfl, by simp, Nat.zero_le _, Nat.le_refl _, Or.inl ⟨by simp, by simp [gmRow], some ⟨w.heap.size, 0, none⟩, by simp⟩, gAl _ _⟩
  case round =>
    obtain ⟨k, a3, c3, r', rfl, rfl, hk, hr', hrow, hbel⟩ := hrel
    obtain ⟨wo, hwo⟩ : ∃ wo, wo = wr := ⟨_, rfl⟩
    subst hwo
    have HB := Lib.hid hbel
    have HROW := Lib.hid hrow
    have HR2 := Lib.hid hr'
    by_cases hlt : k < l.length
    · have hlti : (k : Int) < (l.length : Int) := by omega
      have hk0 : (0 : Int) ≤ (k : Int) := by omega
      have hkw : IntKind.i64.wrap ((k : Int) + 1) = (k : Int) + 1 := by rw [IntKind.wrap_i64]; have := HL.out; omega
      have HK1 : Hid (k + 1 ≤ l.length ∧ l.length - (k + 1) < l.length - k ∧ ((k : Int) + 1).toNat = k + 1 ∧ (k : Int) + 1 = ((k + 1 : Nat) : Int)) := Lib.hid ⟨by omega, by omega, by omega, by omega⟩
      obtain ⟨o, rfl, hlow, hra⟩ := (HR.out wo hbel).at (by omega)
      obtain ⟨k0, k1, k2, k3⟩ := gm_cells hra hlt
      have hplen := plen k hk
      obtain ⟨g, hg⟩ : ∃ g, l[k] = g := ⟨_, rfl⟩
      rw [hg] at k0 k1 k2 k3
      obtain ⟨x, y, s, t⟩ := g
      simp only at k0 k1 k2 k3
      have hbl : w.heap.size ≤ wo.heap.size := hbel.size
      obtain ⟨W8, hW8⟩ : ∃ W8, W8 = wo.alloc (.cells #[.int .i64 x, .int .i64 y, .string s, .int .i64 t] 35) := ⟨_, rfl⟩
      obtain ⟨a', c', W9, r9, hrun, hrow9, hr9, hb9⟩ := gm_app (k := k) x y s t hrow (by have := HL.out; omega) hr' hbel hbl W8 hW8
      rw [hW8] at hrun
      have HRUN := Lib.hid hrun
      have HROW9 := Lib.hid hrow9
      have HR9 := Lib.hid hr9
      have HB9 := Lib.hid hb9
      have hgo := wo_go (n := n) l hlt
      rw [hg] at hgo
      by_cases hkn : k = n
      · rw [if_pos hkn] at hgo
        have hq : ((k : Int) != (n : Int)) = false := by rw [hkn]; simp
        clear hkn
        clear hrun hrow9 hr9 hb9 hW8 hlt hk hrow hr' hbel hlow hra hbl hg hplen HRUN HROW9 HR9 HB9
        have HGO := Lib.hid hgo
        clear hgo plen
        go_wp2_with fail
        refine ⟨⟨k + 1, a3, c3, r', congrArg (Value.int .i64) HK1.out.2.2.2, by rw [HGO.out], HK1.out.1, HR2.out, by rw [HGO.out]; exact HROW.out, HB.out⟩, ?_⟩
        show l.length - ((k : Int) + 1).toNat < l.length - (k : Int).toNat
        rw [HK1.out.2.2.1]
        exact HK1.out.2.1
      · rw [if_neg hkn] at hgo
        have hq : ((k : Int) != (n : Int)) = true := by simp; omega
        clear hkn
        clear hrun hrow9 hr9 hb9 hW8 hlt hk hrow hr' hbel hlow hra hbl hg hplen
        generalize hm : (l.take k).eraseIdx n = m at *
        generalize hm2 : (l.take (k + 1)).eraseIdx n = m2 at *
        have HM2 := Lib.hid hm2
        have HGO := Lib.hid hgo
        clear hm hm2 hgo plen
        go_wp2_with (at_builtin; refine Lib.wpList_append_run _ rfl _ _ _ _ rfl _ _ rfl rfl _ _ (HRUN.out _) ?_)
        refine ⟨⟨k + 1, a', c', r9, congrArg (Value.int .i64) HK1.out.2.2.2, by rw [HM2.out, HGO.out, List.length_append]; rfl, HK1.out.1, HR9.out, by rw [HM2.out, HGO.out]; exact HROW9.out, HB9.out⟩, ?_⟩
        show l.length - ((k : Int) + 1).toNat < l.length - (k : Int).toNat
        rw [HK1.out.2.2.1]
        exact HK1.out.2.1
    · have hnk : ¬ (k : Int) < (l.length : Int) := by omega
      have e : (l.take k).eraseIdx n = l.eraseIdx n := by rw [List.take_of_length_le (by omega)]
      rw [e] at hrow ⊢
      have HE := Lib.hid hrow
      clear hlt hk hrow hr' hbel HROW e
      go_wp2_with fail
      refine bodyPost_ret (v := .slice a3 (l.eraseIdx n).length c3) (by simp [results, Try.results38, go_sem]) rfl ?_
      exact ⟨HB.out, _, _, rfl, HR2.out, HE.out⟩
set_option maxHeartbeats 16000000 in
theorem rCut_any (l : List Gm) (x0 y0 : Int) (b : Nat) (a : Option Addr) (c : Nat) (w : World) (h : Gs w b l a) (hl : l.length * 40 ≤ 140737488355328) :
    Calls Try.prog 40 #[.slice a l.length c, .int .i64 x0, .int .i64 y0] w fun e w' => Row1 w (keepL x0 y0 l) e w' := by
  have HR := Lib.hid (fun V (hV : Below w.heap.size w V) => h.below hV)
  have HL := Lib.hid hl
  have plen : ∀ k, k ≤ l.length → (keepL x0 y0 (l.take k)).length ≤ k := fun k hk => by
    unfold keepL
    exact Nat.le_trans (List.length_filter_le _ _) (by rw [List.length_take]; omega)
  clear h hl
  go_enter Try.func40, Try.ntmps40
  go_wp2_with fail
  go_loopw [8, 7] (fun ii v wr => ∃ (k : Nat) (a : Option Addr) (c : Nat) (r' : Nat), ii = .int .i64 (k : Int) ∧ v = .slice a (keepL x0 y0 (l.take k)).length c ∧ k ≤ l.length ∧ w.heap.size ≤ r' ∧ Rw wr r' 35 4 (.slice a (keepL x0 y0 (l.take k)).length c) (keepL x0 y0 (l.take k)).length (gmRow (keepL x0 y0 (l.take k))) ∧ Below w.heap.size w wr) (fun ii _ _ => l.length - (RowKit.intOf ii).toNat)
  case atStart => exact ⟨0, some ⟨w.heap.size, 0, none⟩, 0, w.heap.size, rfl, by simp [keepL], Nat.zero_le _, Nat.le_refl _, Or.inl ⟨by simp [keepL], by simp [gmRow, keepL], some ⟨w.heap.size, 0, none⟩, by simp [keepL]⟩, gAl _ _⟩
  case round =>
    obtain ⟨k, a3, c3, r', rfl, rfl, hk, hr', hrow, hbel⟩ := hrel
    obtain ⟨wo, hwo⟩ : ∃ wo, wo = wr := ⟨_, rfl⟩
    subst hwo
    have HB := Lib.hid hbel
    have HROW := Lib.hid hrow
    have HR2 := Lib.hid hr'
    by_cases hlt : k < l.length
    · have hlti : (k : Int) < (l.length : Int) := by omega
      have hk0 : (0 : Int) ≤ (k : Int) := by omega
      have hkw : IntKind.i64.wrap ((k : Int) + 1) = (k : Int) + 1 := by rw [IntKind.wrap_i64]; have := HL.out; omega
      have HK1 : Hid (k + 1 ≤ l.length ∧ l.length - (k + 1) < l.length - k ∧ ((k : Int) + 1).toNat = k + 1 ∧ (k : Int) + 1 = ((k + 1 : Nat) : Int)) := Lib.hid ⟨by omega, by omega, by omega, by omega⟩
      obtain ⟨o, rfl, hlow, hra⟩ := (HR.out wo hbel).at (by omega)
      obtain ⟨k0, k1, k2, k3⟩ := gm_cells hra hlt
      have hplen := plen k hk
      obtain ⟨g, hg⟩ : ∃ g, l[k] = g := ⟨_, rfl⟩
      rw [hg] at k0 k1 k2 k3
      obtain ⟨x, y, s, t⟩ := g
      simp only at k0 k1 k2 k3
      have hbl : w.heap.size ≤ wo.heap.size := hbel.size
      obtain ⟨W8, hW8⟩ : ∃ W8, W8 = wo.alloc (.cells #[.int .i64 x, .int .i64 y, .string s, .int .i64 t] 35) := ⟨_, rfl⟩
      obtain ⟨a', c', W9, r9, hrun, hrow9, hr9, hb9⟩ := gm_app (k := k) x y s t hrow (by have := HL.out; omega) hr' hbel hbl W8 hW8
      rw [hW8] at hrun
      have HRUN := Lib.hid hrun
      have HROW9 := Lib.hid hrow9
      have HR9 := Lib.hid hr9
      have HB9 := Lib.hid hb9
      have hgo := keep_go (a := x0) (b := y0) hlt
      rw [hg] at hgo
      have hbt : betB x0 y0 ⟨x, y, s, t⟩ = ((x == x0 && y == y0) || (x == y0 && y == x0)) := rfl
      obtain ⟨q1, h1⟩ : ∃ q, (x == x0) = q := ⟨_, rfl⟩
      obtain ⟨q2, h2⟩ : ∃ q, (y == y0) = q := ⟨_, rfl⟩
      obtain ⟨q3, h3⟩ : ∃ q, (x == y0) = q := ⟨_, rfl⟩
      obtain ⟨q4, h4⟩ : ∃ q, (y == x0) = q := ⟨_, rfl⟩
      rw [h1, h2, h3, h4] at hbt
      by_cases hq : betB x0 y0 ⟨x, y, s, t⟩ = true
      · rw [if_pos hq] at hgo
        rw [hq] at hbt
        clear hq
        cases q1 <;> cases q2 <;> cases q3 <;> cases q4 <;> first
          | (exfalso; revert hbt; decide)
          | (clear hbt
             clear hrun hrow9 hr9 hb9 hW8 hlt hk hrow hr' hbel hlow hra hbl hg hplen HRUN HROW9 HR9 HB9
             have HGO := Lib.hid hgo
             clear hgo plen
             go_wp2_with fail
             refine ⟨⟨k + 1, a3, c3, r', congrArg (Value.int .i64) HK1.out.2.2.2, by rw [HGO.out], HK1.out.1, HR2.out, by rw [HGO.out]; exact HROW.out, HB.out⟩, ?_⟩
             show l.length - ((k : Int) + 1).toNat < l.length - (k : Int).toNat
             rw [HK1.out.2.2.1]
             exact HK1.out.2.1)
      · rw [if_neg hq] at hgo
        have hqf : betB x0 y0 ⟨x, y, s, t⟩ = false := by simpa using hq
        rw [hqf] at hbt
        clear hq hqf
        cases q1 <;> cases q2 <;> cases q3 <;> cases q4 <;> first
          | (exfalso; revert hbt; decide)
          | (clear hbt
             clear hrun hrow9 hr9 hb9 hW8 hlt hk hrow hr' hbel hlow hra hbl hg hplen
             generalize hm : keepL x0 y0 (l.take k) = m at *
             generalize hm2 : keepL x0 y0 (l.take (k + 1)) = m2 at *
             have HM2 := Lib.hid hm2
             have HGO := Lib.hid hgo
             clear hm hm2 hgo plen
             go_wp2_with (at_builtin; refine Lib.wpList_append_run _ rfl _ _ _ _ rfl _ _ rfl rfl _ _ (HRUN.out _) ?_)
             refine ⟨⟨k + 1, a', c', r9, congrArg (Value.int .i64) HK1.out.2.2.2, by rw [HM2.out, HGO.out, List.length_append]; rfl, HK1.out.1, HR9.out, by rw [HM2.out, HGO.out]; exact HROW9.out, HB9.out⟩, ?_⟩
             show l.length - ((k : Int) + 1).toNat < l.length - (k : Int).toNat
             rw [HK1.out.2.2.1]
             exact HK1.out.2.1)
    · have hnk : ¬ (k : Int) < (l.length : Int) := by omega
      have e : keepL x0 y0 (l.take k) = keepL x0 y0 l := by rw [List.take_of_length_le (by omega)]
      rw [e] at hrow ⊢
      have HE := Lib.hid hrow
      clear hlt hk hrow hr' hbel HROW e
      go_wp2_with fail
      refine bodyPost_ret (v := .slice a3 (keepL x0 y0 l).length c3) (by simp [results, Try.results40, go_sem]) rfl ?_
      exact ⟨HB.out, _, _, rfl, HR2.out, HE.out⟩
set_option maxHeartbeats 8000000 in
theorem rTick_any (l : List Gm) (hmay : ∀ g ∈ l, g.wt ≤ 65536) (b : Nat) (a : Option Addr) (c : Nat) (w : World) (h : Gs w b l a) (hl : l.length * 40 ≤ 140737488355328) :
    Calls Try.prog 39 #[.slice a l.length c] w fun e w' => Row1 w (l.map tickG) e w' := by
  have HC := Lib.hid (rCopy_any l b a c w h hl)
  have HL := Lib.hid hl
  have HMAY : Hid (∀ n (hn : n < l.length), l[n].wt ≤ 65536) := Lib.hid (fun n hn => hmay _ (List.getElem_mem hn))
  clear h hl hmay
  go_enter Try.func39, Try.ntmps39
  go_wp2_with fail
  refine HC.out.mono ?_
  rintro e w1 ⟨hb1, v1, r1, rfl, hr1, hrow1⟩
  obtain ⟨a1, c1, rfl⟩ := hrow1.slice
  have HB1 := Lib.hid hb1
  have HR1 := Lib.hid hr1
  have HW1 := Lib.hid hrow1
  clear hb1 hr1 hrow1 HC
  go_wp2_with fail
  go_loopw [4] (fun i wr => ∃ k : Nat, i = .int .i64 (k : Int) ∧ k ≤ l.length ∧ Rw wr r1 35 4 (.slice a1 l.length c1) l.length (gmRow (tickK l k)) ∧ Below w.heap.size w wr) (fun i _ => l.length - (RowKit.intOf i).toNat)
  case atStart => exact ⟨0, rfl, Nat.zero_le _, by simpa [tickK] using HW1.out, HB1.out⟩
  case round =>
    obtain ⟨k, rfl, hk, h2, hbel⟩ := hrel
    obtain ⟨wo, hwo⟩ : ∃ wo, wo = wr := ⟨_, rfl⟩
    subst hwo
    have HB := Lib.hid hbel
    have H2R := Lib.hid h2
    by_cases hlt : k < l.length
    · have hlti : (k : Int) < (l.length : Int) := by omega
      have hk0 : (0 : Int) ≤ (k : Int) := by omega
      have hkw : IntKind.i64.wrap ((k : Int) + 1) = (k : Int) + 1 := by rw [IntKind.wrap_i64]; have := HL.out; omega
      have HK1 : Hid (k + 1 ≤ l.length ∧ l.length - (k + 1) < l.length - k ∧ ((k : Int) + 1).toNat = k + 1 ∧ (k : Int) + 1 = ((k + 1 : Nat) : Int)) := Lib.hid ⟨by omega, by omega, by omega, by omega⟩
      obtain ⟨o, cap, e1, hcap, hlow, hcur, hra, hth, hml⟩ := h2.at (by omega)
      simp only [Value.slice.injEq, true_and] at e1
      obtain ⟨rfl, rfl⟩ := e1
      have hkl : k < (tickK l k).length := by rw [tickK_len]; exact hlt
      obtain ⟨-, -, -, k3⟩ := gm_cells hra hkl
      rw [tickK_at l hlt] at k3
      have q3 : wo.frozen? ⟨r1, o + k * 4 + 3, none⟩ = false := by rw [Nat.add_assoc]; exact (hth (k * 4 + 3) (by omega)).2
      have hmay := HMAY.out k hlt
      have hgo := tickK_go l hlt
      have hrw := fun t => row_wait (tickK l k) k hkl t
      simp only [tickK_at l hlt] at hrw
      have hset : Rw (wo.setCell ⟨r1, o + k * 4 + 3, none⟩ (.int .i64 (l[k].wt - 1))) r1 35 4 (.slice (some ⟨r1, o, none⟩) l.length c1) l.length ((gmRow (tickK l k)).set (k * 4 + 3) (.int .i64 (l[k].wt - 1))) := by
        rw [Nat.add_assoc]; exact h2.set (by omega) (k * 4 + 3) _ (by omega)
      have HWX : Hid (Below w.heap.size w (wo.setCell ⟨r1, o + k * 4 + 3, none⟩ (.int .i64 (l[k].wt - 1)))) := Lib.hid ⟨hbel.os, hbel.tape, hbel.output, by simpa [World.setCell] using hbel.size, fun j hj => (Below.heap_setCell _ _ _ _ (by have := HR1.out; show j ≠ r1; omega)).trans (hbel.block j hj)⟩
      by_cases hp : 0 < l[k].wt
      · have HROW : Hid (Rw (wo.setCell ⟨r1, o + k * 4 + 3, none⟩ (.int .i64 (l[k].wt - 1))) r1 35 4 (.slice (some ⟨r1, o, none⟩) l.length c1) l.length (gmRow (tickK l (k + 1)))) := Lib.hid (by
          rw [hgo]
          unfold tickG
          rw [if_pos hp, hrw]; exact hset)
        have hw1 : IntKind.i64.wrap (l[k].wt - 1) = l[k].wt - 1 := by rw [IntKind.wrap_i64]; omega
        generalize l[k].wt = gt at *
        clear h2 hbel hcap hlow hcur hra hth hml hkl hmay hgo hrw hset hlt hk
        go_wp2_with fail
        refine ⟨⟨k + 1, congrArg (Value.int .i64) HK1.out.2.2.2, HK1.out.1, HROW.out, HWX.out⟩, ?_⟩
        show l.length - ((k : Int) + 1).toNat < l.length - (k : Int).toNat
        rw [HK1.out.2.2.1]
        exact HK1.out.2.1
      · have HROW : Hid (Rw wo r1 35 4 (.slice (some ⟨r1, o, none⟩) l.length c1) l.length (gmRow (tickK l (k + 1)))) := Lib.hid (by
          rw [hgo]
          unfold tickG
          rw [if_neg hp, show (tickK l k).set k l[k] = tickK l k by
            conv => lhs; rw [← tickK_at l hlt]
            rw [List.set_getElem_self]]
          exact h2)
        generalize l[k].wt = gt at *
        clear h2 hbel hcap hlow hcur hra hth hml hkl hmay hgo hrw hset hlt hk
        go_wp2_with fail
        refine ⟨⟨k + 1, congrArg (Value.int .i64) HK1.out.2.2.2, HK1.out.1, HROW.out, HB.out⟩, ?_⟩
        show l.length - ((k : Int) + 1).toNat < l.length - (k : Int).toNat
        rw [HK1.out.2.2.1]
        exact HK1.out.2.1
    · have hnk : ¬ (k : Int) < (l.length : Int) := by omega
      have HE : Hid (Rw wo r1 35 4 (.slice a1 l.length c1) (l.map tickG).length (gmRow (l.map tickG))) := Lib.hid (by
        rw [tickK_all l (by omega)] at h2
        rw [List.length_map]; exact h2)
      clear hlt hk h2 hbel
      go_wp2_with fail
      refine bodyPost_ret (v := .slice a1 l.length c1) (by simp [results, Try.results39, go_sem]) rfl ?_
      exact ⟨HB.out, _, _, rfl, HR1.out, HE.out⟩
end Go.Proofs.Ytldbmdalmhhpfaa
