/- Channel: cut. -/
import Derived.Test.YtldbmdalmhhpfaaCwG
namespace Go.Proofs.Ytldbmdalmhhpfaa
open Go.RowKit Go.Lib Go.Ow Go.Cw Go.Cq
set_option linter.unusedVariables false
set_option linter.unusedSimpArgs false
set_option maxRecDepth 100000

set_option maxHeartbeats 4000000 in
theorem cut1_any (pa pb : Nat) (a b x y : Int) (s : ByteArray) (t : Int) (w : World) (ha : w.cell? ⟨pa, 0, none⟩ = some (.int .i64 a)) (hb : w.cell? ⟨pb, 0, none⟩ = some (.int .i64 b)) (la : pa < w.heap.size) (lb : pb < w.heap.size) :
    Calls Try.prog 51 #[.agg #[.int .i64 x, .int .i64 y, .string s, .int .i64 t], .pointer (some ⟨pa, 0, none⟩), .pointer (some ⟨pb, 0, none⟩)] w fun e w' => e = .returned (.bool (betB a b ⟨x, y, s, t⟩)) ∧ Below w.heap.size w w' := by
  have HZ : Hid (betB a b ⟨x, y, s, t⟩ = ((x == a && y == b) || (x == b && y == a))) := Lib.hid rfl
  generalize betB a b ⟨x, y, s, t⟩ = Z at *
  obtain ⟨q1, h1⟩ : ∃ q, (x == a) = q := ⟨_, rfl⟩
  obtain ⟨q2, h2⟩ : ∃ q, (y == b) = q := ⟨_, rfl⟩
  obtain ⟨q3, h3⟩ : ∃ q, (x == b) = q := ⟨_, rfl⟩
  obtain ⟨q4, h4⟩ : ∃ q, (y == a) = q := ⟨_, rfl⟩
  rw [h1, h2, h3, h4] at HZ
  cases q1 <;> cases q2 <;> cases q3 <;> cases q4 <;>
  · go_enter Try.func51, Try.ntmps51
    go_wp2_with fail
    go_ret
    exact ⟨by rw [HZ.out]; rfl, gAl _ _⟩
/-- The first that lies between the two. -/
def idxB (a b : Int) (l : List Gm) : Int := match l.findIdx? (betB a b) with
  | some i => (i : Int)
  | none => -1
theorem idx_none {a b : Int} {l : List Gm} (h : ∀ i (hi : i < l.length), betB a b l[i] = false) : idxB a b l = -1 := by
  unfold idxB
  rw [List.findIdx?_eq_none_iff.2]
  intro x hx
  obtain ⟨i, hi, rfl⟩ := List.getElem_of_mem hx
  exact h i hi
theorem idx_some {a b : Int} {l : List Gm} {i : Nat} (hi : i < l.length) (h : betB a b l[i] = true) (hl : ∀ j (hj : j < i), betB a b (l[j]'(by omega)) = false) : idxB a b l = (i : Int) := by
  unfold idxB
  have : l.findIdx? (betB a b) = some i := by
    rw [List.findIdx?_eq_some_iff_getElem]
    exact ⟨hi, h, fun j hj => by simp [hl j hj]⟩
  rw [this]
set_option maxHeartbeats 4000000 in
theorem gmIndex_any (pa pb : Nat) (a b : Int) (l : List Gm) (r : Nat) (v : Value) (w : World) (h : Rw w r 35 4 v l.length (gmRow l)) (hl : l.length ≤ 65536) (ha : w.cell? ⟨pa, 0, none⟩ = some (.int .i64 a)) (hb : w.cell? ⟨pb, 0, none⟩ = some (.int .i64 b)) (la : pa < w.heap.size) (lb : pb < w.heap.size) :
    Calls Try.prog 52 #[v, .func (.func 51) #[] #[.pointer (some ⟨pa, 0, none⟩), .pointer (some ⟨pb, 0, none⟩)]] w fun e w' => e = .returned (.int .i64 (idxB a b l)) ∧ Below w.heap.size w w' := by
  obtain ⟨va, vc, rfl⟩ := h.slice
  have HR := Lib.hid (fun V (hV : Below w.heap.size w V) => h.below hV)
  have HLN := Lib.hid hl
  have HCU := Lib.hid (fun (x y : Int) (s : ByteArray) (t : Int) V (hV : Below w.heap.size w V) => cut1_any pa pb a b x y s t V ((hV.cell (p := ⟨pa, 0, none⟩) la).trans ha) ((hV.cell (p := ⟨pb, 0, none⟩) lb).trans hb) (Nat.lt_of_lt_of_le la hV.size) (Nat.lt_of_lt_of_le lb hV.size))
  clear h hl ha hb la lb
  go_enter Try.func52, Try.ntmps52
  go_wp2_with fail
  go_loopw [8] (fun i wr => ∃ k : Nat, i = .int .i64 (k : Int) ∧ k ≤ l.length ∧ (∀ j (hj : j < l.length), j < k → betB a b l[j] = false) ∧ Below w.heap.size w wr) (fun i _ => l.length - (RowKit.intOf i).toNat)
  case atStart => exact ⟨0, rfl, Nat.zero_le _, fun j hj hk => absurd hk (by omega), Below.refl _ _⟩
  case round =>
    obtain ⟨k, rfl, hk, hno, hbel⟩ := hrel
    obtain ⟨wo, hwo⟩ : ∃ wo, wo = wr := ⟨_, rfl⟩
    subst hwo
    have HBE := Lib.hid hbel
    have HNO := Lib.hid hno
    by_cases hlt : k < l.length
    · have hlti : (k : Int) < (l.length : Int) := by omega
      have hk0 : (0 : Int) ≤ (k : Int) := by omega
      have hkw : IntKind.i64.wrap ((k : Int) + 1) = (k : Int) + 1 := by rw [IntKind.wrap_i64]; have := HLN.out; omega
      have HK1 : Hid (k + 1 ≤ l.length ∧ l.length - (k + 1) < l.length - k ∧ ((k : Int) + 1).toNat = k + 1 ∧ (k : Int) + 1 = ((k + 1 : Nat) : Int)) := Lib.hid ⟨by omega, by omega, by omega, by omega⟩
      obtain ⟨o, cap, e1, hcap, hlow, hcur, hra, hth, hml⟩ := (HR.out wo hbel).at (by omega)
      simp only [Value.slice.injEq, true_and] at e1
      obtain ⟨rfl, rfl⟩ := e1
      obtain ⟨k0, k1, k2, k3⟩ := gm_cells hra hlt
      have HIX : Hid (betB a b l[k] = true → idxB a b l = (k : Int)) := Lib.hid (fun h => idx_some hlt h (fun j hj => hno j (by omega) hj))
      have HNX : Hid (betB a b l[k] = false → ∀ j (hj : j < l.length), j < k + 1 → betB a b l[j] = false) := Lib.hid (fun h j hj hk => by
        by_cases e : j = k
        · subst e; exact h
        · exact hno j hj (by omega))
      generalize l[k] = g at *
      obtain ⟨x, y, s, t⟩ := g
      simp only at k0 k1 k2 k3
      have HC := Lib.hid (HCU.out x y s t wo hbel)
      clear hlt hbel hk hno hcap hlow hcur hra hth hml
      generalize betB a b ⟨x, y, s, t⟩ = q at *
      cases q with
      | true =>
        go_wp2_with fail
        refine HC.out.mono ?_
        rintro e w2 ⟨rfl, hb2⟩
        have HB2 := Lib.hid (gNx HBE.out hb2)
        clear hb2 k0 k1 k2 k3
        go_wp2_with fail
        go_ret
        exact ⟨by rw [HIX.out trivial]; rfl, HB2.out⟩
      | false =>
        go_wp2_with fail
        refine HC.out.mono ?_
        rintro e w2 ⟨rfl, hb2⟩
        have HB2 := Lib.hid (gNx HBE.out hb2)
        clear hb2 k0 k1 k2 k3
        go_wp2_with fail
        refine ⟨⟨k + 1, congrArg (Value.int .i64) HK1.out.2.2.2, HK1.out.1, HNX.out trivial, HB2.out⟩, ?_⟩
        show l.length - ((k : Int) + 1).toNat < l.length - (k : Int).toNat
        rw [HK1.out.2.2.1]
        exact HK1.out.2.1
    · have hnk : ¬ (k : Int) < (l.length : Int) := by omega
      have HIX : Hid (idxB a b l = -1) := Lib.hid (idx_none (fun j hj => hno j hj (by omega)))
      clear hlt hbel hk hno
      go_wp2_with fail
      go_ret
      exact ⟨by rw [HIX.out]; rfl, HBE.out⟩
/-- What is kept. -/
def keepL (a b : Int) (l : List Gm) : List Gm := l.filter (fun g => !betB a b g)
theorem keep_none {a b : Int} {l : List Gm} (h : idxB a b l = -1) : keepL a b l = l := by
  unfold idxB at h
  cases hf : l.findIdx? (betB a b) with
  | some i => rw [hf] at h; simp only at h; omega
  | none =>
    rw [List.findIdx?_eq_none_iff] at hf
    unfold keepL
    rw [List.filter_eq_self]
    intro x hx
    have := hf x hx
    simp [this]
theorem keep_some {a b : Int} {l : List Gm} (h : idxB a b l ≠ -1) : ∃ i, i < l.length ∧ idxB a b l = (i : Int) ∧ keepL a b (l.take (i + 1)) = l.take i := by
  unfold idxB at h ⊢
  cases hf : l.findIdx? (betB a b) with
  | none => rw [hf] at h; exact absurd rfl h
  | some i =>
    rw [List.findIdx?_eq_some_iff_getElem] at hf
    obtain ⟨hi, h1, h2⟩ := hf
    refine ⟨i, hi, rfl, ?_⟩
    unfold keepL
    rw [List.take_succ_eq_append_getElem hi, List.filter_append, List.filter_cons_of_neg (by simp [h1]), List.filter_nil, List.append_nil, List.filter_eq_self]
    intro x hx
    obtain ⟨j, hj, rfl⟩ := List.getElem_of_mem hx
    rw [List.length_take] at hj
    rw [List.getElem_take]
    have := h2 j (by omega)
    simpa using this
theorem keep_go {a b : Int} {l : List Gm} {j : Nat} (hj : j < l.length) : keepL a b (l.take (j + 1)) = if betB a b l[j] = true then keepL a b (l.take j) else keepL a b (l.take j) ++ [l[j]] := by
  unfold keepL
  rw [List.take_succ_eq_append_getElem hj, List.filter_append]
  by_cases h : betB a b l[j] = true
  · rw [if_pos h, List.filter_cons_of_neg (by simp [h])]; simp
  · rw [if_neg h, List.filter_cons_of_pos (by simpa using h)]; simp
theorem gm_sets (w : World) (r o : Nat) (x y : Int) (s : ByteArray) (t : Int) : w.setCells r o (gmC ⟨x, y, s, t⟩) = (((w.setCell ⟨r, o, none⟩ (.int .i64 x)).setCell ⟨r, o + 1, none⟩ (.int .i64 y)).setCell ⟨r, o + 2, none⟩ (.string s)).setCell ⟨r, o + 3, none⟩ (.int .i64 t) := rfl
/-- What a walk over a row leaves: the first that are kept, then whatever, then what was there. -/
structure DfI (a b : Int) (l m : List Gm) (i j : Nat) : Prop where
  len : m.length = l.length
  ij : i < j
  head : m.take i = keepL a b (l.take j)
  tail : m.drop j = l.drop j
theorem DfI.put {a b : Int} {l m : List Gm} {i j : Nat} (h : DfI a b l m i j) (hj : j < l.length) (hk : betB a b l[j] = false) : DfI a b l (m.set i l[j]) (i + 1) (j + 1) := by
  have hi : i < m.length := by rw [h.len]; have := h.ij; omega
  refine ⟨by rw [List.length_set]; exact h.len, by have := h.ij; omega, ?_, ?_⟩
  · rw [keep_go hj, if_neg (by simp [hk]), List.take_succ_eq_append_getElem (by rw [List.length_set]; exact hi), List.getElem_set_self, List.take_set_of_le (Nat.le_refl _), h.head]
  · rw [List.drop_set_of_lt (by have := h.ij; omega), ← List.drop_drop, ← List.drop_drop, h.tail]
theorem DfI.skip {a b : Int} {l m : List Gm} {i j : Nat} (h : DfI a b l m i j) (hj : j < l.length) (hk : betB a b l[j] = true) : DfI a b l m i (j + 1) := by
  refine ⟨h.len, by have := h.ij; omega, ?_, ?_⟩
  · rw [keep_go hj, if_pos hk, h.head]
  · rw [← List.drop_drop, ← List.drop_drop, h.tail]
theorem DfI.here {a b : Int} {l m : List Gm} {i j : Nat} (h : DfI a b l m i j) (hj : j < l.length) : ∃ hm : j < m.length, m[j] = l[j] := by
  have hm : j < m.length := by rw [h.len]; exact hj
  refine ⟨hm, ?_⟩
  have e := h.tail
  rw [List.drop_eq_getElem_cons hm, List.drop_eq_getElem_cons hj] at e
  exact (List.cons.inj e).1
set_option maxHeartbeats 8000000 in
theorem gmDeleteF_any (pa pb : Nat) (a b : Int) (l : List Gm) (r : Nat) (v : Value) (w : World) (h : Rw w r 35 4 v l.length (gmRow l)) (hl : l.length ≤ 65536) (ha : w.cell? ⟨pa, 0, none⟩ = some (.int .i64 a)) (hb : w.cell? ⟨pb, 0, none⟩ = some (.int .i64 b)) (la : pa < w.heap.size) (lb : pb < w.heap.size) (na : pa ≠ r) (nb : pb ≠ r) (hrl : r < w.heap.size) :
    Calls Try.prog 50 #[v, .func (.func 51) #[] #[.pointer (some ⟨pa, 0, none⟩), .pointer (some ⟨pb, 0, none⟩)]] w fun e w' => ∃ v', e = .returned v' ∧ Rw w' r 35 4 v' (keepL a b l).length (gmRow (keepL a b l)) ∧ Xr r r w w' ∧ (l = [] → Below w.heap.size w w') := by
  obtain ⟨va, vc, rfl⟩ := h.slice
  have HIX := Lib.hid (gmIndex_any pa pb a b l r _ w h hl ha hb la lb)
  have HR := Lib.hid (fun V (hV : Below w.heap.size w V) => h.below hV)
  have HLN := Lib.hid hl
  have HCU := Lib.hid (fun (x y : Int) (s : ByteArray) (t : Int) V (hV : Xr r r w V) => cut1_any pa pb a b x y s t V ((World.cell?_of_block (a := ⟨pa, 0, none⟩) (hV.block pa la na na)).trans ha) ((World.cell?_of_block (a := ⟨pb, 0, none⟩) (hV.block pb lb nb nb)).trans hb) (Nat.lt_of_lt_of_le la hV.size) (Nat.lt_of_lt_of_le lb hV.size))
  have HRL := Lib.hid hrl
  clear h hl ha hb la lb na nb hrl
  by_cases hix : idxB a b l = -1
  · have HK := Lib.hid (keep_none hix)
    rw [hix] at HIX
    clear hix
    go_enter Try.func50, Try.ntmps50
    go_wp2_with fail
    refine HIX.out.mono ?_
    rintro e w2 ⟨rfl, hb2⟩
    have HB2 := Lib.hid hb2
    clear hb2
    go_wp2_with fail
    go_ret
    exact ⟨_, rfl, by rw [HK.out]; exact HR.out _ HB2.out, Xr.of_below HB2.out, fun _ => HB2.out⟩
  · obtain ⟨i, hi, hie, hki⟩ := keep_some hix
    have hin : ((i : Int) == -1) = false := by rw [beq_eq_false_iff_ne]; omega
    have hiw : IntKind.i64.wrap ((i : Int) + 1) = (i : Int) + 1 := by rw [IntKind.wrap_i64]; have := HLN.out; omega
    rw [hie] at HIX
    have HST : Hid (DfI a b l l i (i + 1)) := Lib.hid ⟨rfl, Nat.lt_succ_self _, hki.symm, rfl⟩
    have HI := Lib.hid hi
    clear hix hie hki hi
    go_enter Try.func50, Try.ntmps50
    go_wp2_with fail
    refine HIX.out.mono ?_
    rintro e w2 ⟨rfl, hb2⟩
    have HB2 := Lib.hid hb2
    clear hb2
    go_wp2_with fail
    go_loopw [6, 5] (fun jv iv wr => ∃ (i j : Nat) (m : List Gm), jv = .int .i64 (j : Int) ∧ iv = .int .i64 (i : Int) ∧ j ≤ l.length ∧ DfI a b l m i j ∧ Rw wr r 35 4 (.slice va l.length vc) l.length (gmRow m) ∧ Xr r r w wr) (fun jv _ _ => l.length - (RowKit.intOf jv).toNat)
    case atStart => exact ⟨i, i + 1, l, rfl, rfl, HI.out, HST.out, HR.out _ HB2.out, Xr.of_below HB2.out⟩
    case round =>
      obtain ⟨i, j, m, rfl, rfl, hj, hd, hrw, hx⟩ := hrel
      obtain ⟨wo, hwo⟩ : ∃ wo, wo = wr := ⟨_, rfl⟩
      subst hwo
      have HD := Lib.hid hd
      have HX := Lib.hid hx
      obtain ⟨o, cap, e1, hcap, hlow, hcur, hra, hth, hml⟩ := hrw.at (by have := HI.out; omega)
      simp only [Value.slice.injEq, true_and] at e1
      obtain ⟨rfl, rfl⟩ := e1
      have HRW := Lib.hid hrw
      have HLOW := Lib.hid hlow
      have hij := hd.ij
      have hml2 := hd.len
      by_cases hlt : j < l.length
      · have hlti : (j : Int) < (l.length : Int) := by omega
        have hj0 : (0 : Int) ≤ (j : Int) := by omega
        have hjw : IntKind.i64.wrap ((j : Int) + 1) = (j : Int) + 1 := by rw [IntKind.wrap_i64]; have := HLN.out; omega
        have hiw : IntKind.i64.wrap ((i : Int) + 1) = (i : Int) + 1 := by rw [IntKind.wrap_i64]; have := HLN.out; omega
        have hi0 : (0 : Int) ≤ (i : Int) := by omega
        have hil : (i : Int) < (l.length : Int) := by omega
        have HK1 : Hid (j + 1 ≤ l.length ∧ l.length - (j + 1) < l.length - j ∧ ((j : Int) + 1).toNat = j + 1 ∧ (j : Int) + 1 = ((j + 1 : Nat) : Int) ∧ (i : Int) + 1 = ((i + 1 : Nat) : Int)) := Lib.hid ⟨by omega, by omega, by omega, by omega, by omega⟩
        obtain ⟨hjm, hme⟩ := hd.here hlt
        obtain ⟨k0, k1, k2, k3⟩ := gm_cells hra hjm
        rw [hme] at k0 k1 k2 k3
        have HPUT := Lib.hid (hd.put hlt)
        have HSKIP := Lib.hid (hd.skip hlt)
        have him : i < m.length := by omega
        have HRP : Hid (∀ V, Rw V r 35 4 (.slice (some ⟨r, o, none⟩) l.length vc) l.length (gmRow m) → ∀ g, Rw (V.setCells r (o + i * 4) (gmC g)) r 35 4 (.slice (some ⟨r, o, none⟩) l.length vc) l.length (gmRow (m.set i g))) := Lib.hid (fun V hV g => by
          have := rw_put (l := m) (by rw [hml2]; exact hV) him g
          rw [List.length_set, hml2] at this; exact this)
        generalize l[j] = g at *
        obtain ⟨x, y, s, t⟩ := g
        simp only at k0 k1 k2 k3
        obtain ⟨W5, hW5⟩ : ∃ W5, W5 = wo.alloc (.cells #[.int .i64 x, .int .i64 y, .string s, .int .i64 t] 35) := ⟨_, rfl⟩
        have b5 : Below wo.heap.size wo W5 := by rw [hW5]; exact gAl _ _
        have r5 : GmB W5 wo.heap.size ⟨x, y, s, t⟩ := by rw [hW5]; exact heap_alloc_new wo _
        obtain ⟨yb, hyb⟩ : ∃ yb, yb = wo.heap.size := ⟨_, rfl⟩
        have s5 : yb < W5.heap.size := by rw [hW5, hyb]; simp
        rw [← hyb] at r5
        have HX5 := Lib.hid (hx.trans (Xr.of_below b5) (Or.inl rfl))
        have HC := Lib.hid (HCU.out x y s t W5 HX5.out)
        have HY : Hid (∀ V, Below W5.heap.size W5 V → GmB V yb ⟨x, y, s, t⟩) := Lib.hid (fun V hV => (hV.block yb s5).trans r5)
        have HR5 : Hid (∀ V, Below W5.heap.size W5 V → Rw V r 35 4 (.slice (some ⟨r, o, none⟩) l.length vc) l.length (gmRow m)) := Lib.hid (fun V hV => (hrw.below b5).below hV)
        have HIL : Hid (i < l.length) := Lib.hid (by omega)
        generalize betB a b ⟨x, y, s, t⟩ = q at *
        clear hlt hj hd hrw hx hcap hlow hcur hra hth hml hij hml2 hjm hme him s5 b5
        go_upto_region 8 with (fail)
        rw [← hW5, ← hyb]
        clear hW5 hyb k0 k1 k2 k3 r5
        obtain ⟨k0, k1, k2, k3, -, -, -, -⟩ := (HY.out W5 (Below.refl _ _)).cells
        cases q with
        | true =>
          go_wp2_with fail
          refine HC.out.mono ?_
          rintro e w6 ⟨rfl, hb6⟩
          have HX6 := Lib.hid (HX5.out.trans (Xr.of_below hb6) (Or.inl rfl))
          have HR6 := Lib.hid (HR5.out w6 hb6)
          clear hb6 k0 k1 k2 k3
          go_wp2_with fail
          refine ⟨⟨i, j + 1, m, congrArg (Value.int .i64) HK1.out.2.2.2.1, rfl, HK1.out.1, HSKIP.out trivial, HR6.out, HX6.out⟩, ?_⟩
          show l.length - ((j : Int) + 1).toNat < l.length - (j : Int).toNat
          rw [HK1.out.2.2.1]
          exact HK1.out.2.1
        | false =>
          go_wp2_with fail
          refine HC.out.mono ?_
          rintro e w6 ⟨rfl, hb6⟩
          have HX6 := Lib.hid (HX5.out.trans (Xr.of_below hb6) (Or.inl rfl))
          have HR6 := Lib.hid (HR5.out w6 hb6)
          clear k0 k1 k2 k3
          obtain ⟨k0, k1, k2, k3, -, -, -, -⟩ := (HY.out w6 hb6).cells
          obtain ⟨o2, cap2, e2, -, -, -, -, hth, -⟩ := HR6.out.at (by have := HIL.out; omega)
          simp only [Value.slice.injEq, Option.some.injEq, Addr.mk.injEq, and_true, true_and] at e2
          obtain ⟨rfl, rfl⟩ := e2
          have hta := there_at hth HIL.out
          obtain ⟨u0, hu0⟩ := Option.isSome_iff_exists.1 (hta 0 (by omega)).1
          obtain ⟨u1, hu1⟩ := Option.isSome_iff_exists.1 (hta 1 (by omega)).1
          obtain ⟨u2, hu2⟩ := Option.isSome_iff_exists.1 (hta 2 (by omega)).1
          obtain ⟨u3, hu3⟩ := Option.isSome_iff_exists.1 (hta 3 (by omega)).1
          have p0 := (hta 0 (by omega)).2
          have p1 := (hta 1 (by omega)).2
          have p2 := (hta 2 (by omega)).2
          have p3 := (hta 3 (by omega)).2
          rw [Nat.add_zero] at hu0 p0
          have hrn := HRP.out w6 HR6.out ⟨x, y, s, t⟩
          have hxn := HX6.out.setCells (o := o + i * 4) (Or.inl rfl) (gmC ⟨x, y, s, t⟩)
          rw [gm_sets] at hrn hxn
          have HRN := Lib.hid hrn
          have HXN := Lib.hid hxn
          clear hb6 hth hta hrn hxn
          go_wp2_with fail
          refine ⟨⟨i + 1, j + 1, _, congrArg (Value.int .i64) HK1.out.2.2.2.1, congrArg (Value.int .i64) HK1.out.2.2.2.2, HK1.out.1, HPUT.out trivial, HRN.out, HXN.out⟩, ?_⟩
          show l.length - ((j : Int) + 1).toNat < l.length - (j : Int).toNat
          rw [HK1.out.2.2.1]
          exact HK1.out.2.1
      · have hnj : ¬ (j : Int) < (l.length : Int) := by omega
        have hje : j = l.length := by omega
        obtain ⟨i0, hi0, hz0, hzs, hzb⟩ := info_parts gmInfo
        have hil : i < l.length := by omega
        have hrt := hrw.right (by omega) (i := i) (by omega)
        obtain ⟨o3, cap3, e3, -, -, -, -, hth3, -⟩ := hrt.at (by omega)
        simp only [Value.slice.injEq, Option.some.injEq, Addr.mk.injEq, and_true, true_and] at e3
        obtain ⟨rfl, rfl⟩ := e3
        have hcl := fun ty => run_clear_k (P := Try.prog) wo 22 35 ty (.agg #[.int .i64 0, .int .i64 0, .string ⟨#[]⟩, .int .i64 0]) 4 Try.underlying22 zero_gm rfl (by intro v hv; simp only [Value.cells, List.mem_toArray, List.mem_cons, List.not_mem_nil, or_false, Array.mem_def] at hv; rcases hv with rfl | rfl | rfl | rfl <;> rfl) r (o + i * 4) (l.length - i) (vc - i) (by omega) hth3
        have hzl : (Builtin.zeroCells (Value.agg #[.int .i64 0, .int .i64 0, .string ⟨#[]⟩, .int .i64 0]).cells (l.length - i)).toList.length = (l.length - i) * 4 := by rw [Array.length_toList, zero_size]; rfl
        obtain ⟨ZS, hZS⟩ : ∃ ZS, ZS = (Builtin.zeroCells (Value.agg #[.int .i64 0, .int .i64 0, .string ⟨#[]⟩, .int .i64 0]).cells (l.length - i)).toList := ⟨_, rfl⟩
        rw [← hZS] at hcl hzl
        have hsub : (l.length - i) * 4 = l.length * 4 - i * 4 := Nat.sub_mul _ _ _
        have hov := (hrw.over (by omega) (i * 4) ZS (by omega)).left (by omega) (m := i) (by omega)
        have hkl : (keepL a b l).length = i := by
          have := hd.head
          rw [hje, List.take_length] at this
          rw [← this, List.length_take, hml2]; omega
        have hrow : Rw (wo.setCells r (o + i * 4) ZS) r 35 4 (.slice (some ⟨r, o, none⟩) i vc) (keepL a b l).length (gmRow (keepL a b l)) := by
          rw [hkl]
          have e : gmRow (keepL a b l) = (gmRow m).take (i * 4) := by
            have := hd.head
            rw [hje, List.take_length] at this
            rw [← this]
            exact flat_take gmC 4 gmC_len m i
          rw [e]
          have e4 : (List.take (i * 4) (gmRow m) ++ ZS ++ List.drop (i * 4 + ZS.length) (gmRow m)).take (i * 4) = (gmRow m).take (i * 4) := by
            rw [List.append_assoc, List.take_append_of_le_length (by rw [List.length_take, gmRow_len]; omega), List.take_take, Nat.min_self]
          rw [e4] at hov
          exact hov
        have HROW := Lib.hid hrow
        have HXZ := Lib.hid (hx.setCells (o := o + i * 4) (Or.inl rfl) ZS)
        have b1 : (0 : Int) ≤ (i : Int) := by omega
        have b2 : (i : Int) ≤ (l.length : Int) := by omega
        have b3 : ¬ (vc = i) := by omega
        have b4 : (l.length : Int) ≤ (vc : Int) := by omega
        have b5 : (i : Int) ≤ (vc : Int) := by omega
        clear hlt hj hd hrw hx hcap hlow hcur hra hth hml hij hml2 hrt hth3 hov hkl hrow hZS hzl hsub hi0 hz0 hzs hzb hje hil
        go_wp2_with fail
        go_ret
        exact ⟨_, rfl, HROW.out, HXZ.out, fun e => by have := HI.out; rw [e] at this; simp at this⟩
set_option maxHeartbeats 8000000 in
theorem cut_any (i k : Int) (w : World) (fb r : Nat) (l : List Gm) (h : Fl w fb r l) :
    Calls Try.prog 46 #[.pointer (some ⟨fb, 0, none⟩), .int .i64 i, .int .i64 k] w fun e w' => e = .returned (.int .i64 (doE l 7 i k)) ∧ Dn w fb r (doL l 7 i k) w' := by
  have HT := Lib.hid (fun V => areTwo_any i k V)
  have HGD := Lib.hid (h.good.do 7 i k)
  have HF := Lib.hid h
  obtain ⟨v, h1, h2⟩ := h.row
  obtain ⟨va, vc, rfl⟩ := h2.slice
  obtain ⟨W1, hW1⟩ : ∃ W1, W1 = w.alloc (.cells #[.int .i64 i] 3) := ⟨_, rfl⟩
  obtain ⟨W2, hW2⟩ : ∃ W2, W2 = W1.alloc (.cells #[.int .i64 k] 3) := ⟨_, rfl⟩
  have z1 : W1.heap.size = w.heap.size + 1 := by rw [hW1]; simp
  have b1 : Below w.heap.size w W1 := by rw [hW1]; exact gAl _ _
  have b2 : Below W1.heap.size W1 W2 := by rw [hW2]; exact gAl _ _
  have z2 : W2.heap.size = w.heap.size + 2 := by rw [hW2]; simp [z1]
  have r1 : W2.cell? ⟨w.heap.size, 0, none⟩ = some (.int .i64 i) := by
    have e : W2.heap[w.heap.size]? = W1.heap[w.heap.size]? := b2.block _ (by omega)
    rw [World.cell?_of_block (a := ⟨w.heap.size, 0, none⟩) e, hW1, cell_of_row _ _ 0 _ _ (0, 0) (heap_alloc_new w _)]; rfl
  have r2 : W2.cell? ⟨w.heap.size + 1, 0, none⟩ = some (.int .i64 k) := by
    rw [← z1, hW2, cell_of_row _ _ 0 _ _ (0, 0) (heap_alloc_new W1 _)]; rfl
  have b12 := gNx b1 b2
  have HB := Lib.hid b12
  obtain ⟨c0, c1, f0, f1⟩ := two_cells ((b12.block fb h.low).trans h1)
  have hrl := h.rl
  have HWS : Hid (W2 = (w.alloc (.cells #[.int .i64 i] 3)).alloc (.cells #[.int .i64 k] 3)) := Lib.hid (by rw [hW2, hW1])
  by_cases ht : twoB i k = true
  · have HZ : Hid (doE l 7 i k = 0 ∧ doL l 7 i k = keepL i k l) := Lib.hid (by
      have e : doE l 7 i k = 0 := by simp [doE, ht]
      refine ⟨e, ?_⟩
      unfold doL
      rw [e]
      rfl)
    have HDF := Lib.hid (gmDeleteF_any w.heap.size (w.heap.size + 1) i k l r _ W2 (h2.below b12) h.good.few r1 r2 (by omega) (by omega) (by omega) (by omega) (by omega))
    have H1 : Hid (∀ V, Xr r r W2 V → (l = [] → Below W2.heap.size W2 V) → V.heap[fb]? = some (.cells #[.pointer (some ⟨fb, 0, none⟩), .slice va l.length vc] 55 (0, 0))) := Lib.hid (fun V hV hn => by
      have hlw : fb < W2.heap.size := by have := h.low; omega
      have hw2 := (b12.block fb h.low).trans h1
      cases hl : l with
      | nil => rw [hl] at hw2; exact ((hn hl).block fb hlw).trans hw2
      | cons g l' =>
        obtain ⟨o, cap, e, -, -, hcur, -⟩ := (h2.below b12).at (by rw [hl]; simp)
        have hne : fb ≠ r := fl_ne (n := 0) (xs := []) hw2 hcur
        rw [hl] at hw2
        exact (hV.block fb hlw hne hne).trans hw2)
    rw [HZ.out.2] at HGD
    rw [ht] at HT
    have HLOW : Hid (r < W2.heap.size) := Lib.hid (by omega)
    clear h h1 h2 hW1 hW2 z1 z2 b1 b2 b12 hrl ht f0 f1
    go_enter Try.func46, Try.ntmps46
    go_upto_region 1 with (fail)
    rw [← HWS.out]
    go_wp2_with fail
    refine (HT.out _).mono ?_
    rintro e w3 ⟨rfl, hw3⟩
    rw [hw3]
    clear hw3
    go_wp2_with fail
    refine HDF.out.mono ?_
    rintro e w4 ⟨v4, rfl, hr4, hx4, hn4⟩
    have h14 := H1.out w4 hx4 hn4
    have hx : Xr fb r W2 w4 := ⟨hx4.os, hx4.tape, hx4.output, hx4.size, fun j hj hp hq => hx4.block j hj hq hq⟩
    have HDN : Hid (Dn w fb r (keepL i k l) (w4.setCell ⟨fb, 1, none⟩ v4)) := Lib.hid (Dn.open HB.out ⟨⟨r, fl_put h14 hr4 HGD.out (Nat.lt_of_lt_of_le HLOW.out hx4.size), Or.inl rfl⟩, hx.setCell (Or.inl rfl) _⟩)
    obtain ⟨a4, c4, rfl⟩ := hr4.slice
    clear c0 c1
    obtain ⟨c0, c1, f0, f1⟩ := two_cells h14
    clear hr4 hx4 hn4 h14 hx
    go_wp2_with fail
    go_ret
    exact ⟨by rw [HZ.out.1]; rfl, by rw [HZ.out.2]; exact HDN.out⟩
  · have HZ : Hid (doE l 7 i k = 1 ∧ doL l 7 i k = l) := Lib.hid (by
      have e : doE l 7 i k = 1 := by simp [doE, ht]
      exact ⟨e, by unfold doL; rw [e, if_pos (by decide)]⟩)
    have ht : twoB i k = false := by simpa using ht
    rw [ht] at HT
    clear h h1 h2 hW1 hW2 z1 z2 b1 b2 b12 hrl ht f0 f1
    go_enter Try.func46, Try.ntmps46
    go_upto_region 1 with (fail)
    rw [← HWS.out]
    go_wp2_with fail
    refine (HT.out _).mono ?_
    rintro e w3 ⟨rfl, hw3⟩
    rw [hw3]
    clear hw3
    go_wp2_with fail
    go_ret
    exact ⟨by rw [HZ.out.1]; rfl, by rw [HZ.out.2]; exact Dn.same HF.out HB.out⟩
end Go.Proofs.Ytldbmdalmhhpfaa
