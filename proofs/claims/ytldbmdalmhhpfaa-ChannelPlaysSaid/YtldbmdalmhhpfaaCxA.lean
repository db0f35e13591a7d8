/- Channel: two flights and their lists, apart; the law of flights apart. -/
import Derived.Test.YtldbmdalmhhpfaaCwZ
import Derived.Test.YtldbmdalmhhpfaaCwP
namespace Go.Proofs.Ytldbmdalmhhpfaa
open Go.RowKit Go.Lib Go.Ow Go.Cw Go.Cq
set_option linter.unusedVariables false
set_option linter.unusedSimpArgs false
set_option maxRecDepth 100000

/-- A flight and its list; apart, where there is something in the list. -/
structure Pc (w : World) (fb r : Nat) (l : List Gm) (b : Nat) (a : Option Addr) : Prop where
  fl : Fl w fb r l
  gs : Gs w b l a
  n : l ≠ [] → b ≠ fb ∧ b ≠ r
theorem Pc.below {w w' : World} {fb r : Nat} {l : List Gm} {b : Nat} {a : Option Addr} (h : Pc w fb r l b a) (k : Below w.heap.size w w') : Pc w' fb r l b a := ⟨h.fl.below k, h.gs.below k, h.n⟩
theorem does2 (w : World) (fb r : Nat) (l : List Gm) (lb : Nat) (la : Option Addr) (lc : Nat) (hp : Pc w fb r l lb la) (a : Ac) :
    Calls Try.prog 13 #[.pointer (some ⟨fb, 0, none⟩), .slice la l.length lc, .agg #[.bool a.put, .int .i64 a.g.fr, .int .i64 a.g.to, .string a.g.bs, .int .i64 a.g.wt, .int .i64 a.kd, .int .i64 a.i, .int .i64 a.k]] w fun e w' => ∃ a' c' b' r', e = .returned (.tuple #[.slice a' (actL l a).length c', .bool true]) ∧ Pc w' fb r' (actL l a) b' a' ∧ (r' = r ∨ w.heap.size ≤ r') ∧ ((b' = lb ∧ l ≠ []) ∨ w.heap.size ≤ b') ∧ Xr fb r w w' := by
  by_cases hz : l = []
  · have h1 := hp.fl.low
    have h2 := hp.fl.rl
    refine (does_any w fb r l (w.heap.size + fb + r + 1) la lc ⟨hp.fl, Or.inl hz, by omega, by omega⟩ a).mono ?_
    rintro e w' ⟨a', c', b', r', he, hq, hr, hb, hx⟩
    exact ⟨a', c', b', r', he, ⟨hq.fl, hq.gs, fun _ => ⟨hq.n1, hq.n2⟩⟩, hr, Or.inr (by omega), hx⟩
  · refine (does_any w fb r l lb la lc ⟨hp.fl, hp.gs, (hp.n hz).1, (hp.n hz).2⟩ a).mono ?_
    rintro e w' ⟨a', c', b', r', he, hq, hr, hb, hx⟩
    exact ⟨a', c', b', r', he, ⟨hq.fl, hq.gs, fun _ => ⟨hq.n1, hq.n2⟩⟩, hr, by rcases hb with h | h; exact Or.inl ⟨h, hz⟩; exact Or.inr h, hx⟩
/-- Two of them. -/
structure Two (B : Nat) (w0 w : World) (fb r : Nat) (l : List Gm) (b : Nat) (a : Option Addr) (gb s : Nat) (m : List Gm) (c : Nat) (d : Option Addr) : Prop where
  f : Pc w fb r l b a
  g : Pc w gb s m c d
  x1 : fb ≠ gb ∧ fb ≠ s ∧ r ≠ gb ∧ r ≠ s
  x2 : m ≠ [] → c ≠ fb ∧ c ≠ r
  x3 : l ≠ [] → b ≠ gb ∧ b ≠ s
  lo : B ≤ fb ∧ B ≤ r ∧ B ≤ gb ∧ B ≤ s
  bel : Below B w0 w
theorem Two.symm {B : Nat} {w0 w : World} {fb r : Nat} {l : List Gm} {b : Nat} {a : Option Addr} {gb s : Nat} {m : List Gm} {c : Nat} {d : Option Addr} (h : Two B w0 w fb r l b a gb s m c d) : Two B w0 w gb s m c d fb r l b a :=
  ⟨h.g, h.f, ⟨h.x1.1.symm, h.x1.2.2.1.symm, h.x1.2.1.symm, h.x1.2.2.2.symm⟩, h.x3, h.x2, ⟨h.lo.2.2.1, h.lo.2.2.2, h.lo.1, h.lo.2.1⟩, h.bel⟩
theorem Two.below {B : Nat} {w0 w w' : World} {fb r : Nat} {l : List Gm} {b : Nat} {a : Option Addr} {gb s : Nat} {m : List Gm} {c : Nat} {d : Option Addr} (h : Two B w0 w fb r l b a gb s m c d) (k : Below w.heap.size w w') : Two B w0 w' fb r l b a gb s m c d :=
  ⟨h.f.below k, h.g.below k, h.x1, h.x2, h.x3, h.lo, h.bel.trans (k.mono (by have := h.f.fl.low; have := h.lo; omega))⟩
theorem two_does {B : Nat} {w0 w : World} {fb r : Nat} {l : List Gm} {b : Nat} {a : Option Addr} {gb s : Nat} {m : List Gm} {c : Nat} {d : Option Addr} (h : Two B w0 w fb r l b a gb s m c d) (ac : Nat) (x : Ac) :
    Calls Try.prog 13 #[.pointer (some ⟨fb, 0, none⟩), .slice a l.length ac, .agg #[.bool x.put, .int .i64 x.g.fr, .int .i64 x.g.to, .string x.g.bs, .int .i64 x.g.wt, .int .i64 x.kd, .int .i64 x.i, .int .i64 x.k]] w fun e w' => ∃ a' c' b' r', e = .returned (.tuple #[.slice a' (actL l x).length c', .bool true]) ∧ Two B w0 w' fb r' (actL l x) b' a' gb s m c d := by
  refine (does2 w fb r l b a ac h.f x).mono ?_
  rintro e w' ⟨a', c', b', r', he, hq, hr, hb, hx⟩
  have hfl := h.f.fl.low
  have hrl := h.f.fl.rl
  have hgl := h.g.fl.low
  have hsl := h.g.fl.rl
  obtain ⟨x11, x12, x13, x14⟩ := h.x1
  obtain ⟨l1, l2, l3, l4⟩ := h.lo
  have hcl : m ≠ [] → c < w.heap.size := fun hm => by
    rcases h.g.gs with h | ⟨o, -, h, -⟩
    · exact absurd h hm
    · exact h
  refine ⟨a', c', b', r', he, ⟨hq, ⟨h.g.fl.keep hx.size (hx.block gb hgl x11.symm x13.symm) (fun _ => hx.block s hsl x12.symm x14.symm), ?_, h.g.n⟩, ⟨x11, x12, by omega, by omega⟩, fun hm => ?_, fun hl => ?_, ⟨l1, by omega, l3, l4⟩, h.bel.trans (hx.below l1 l2 (by omega))⟩⟩
  · by_cases hm : m = []
    · exact Or.inl hm
    · exact h.g.gs.keep hx.size (hx.block c (hcl hm) (h.x2 hm).1 (h.x2 hm).2)
  · have := h.x2 hm
    have := hcl hm
    omega
  · rcases hb with ⟨rfl, hz⟩ | hb
    · exact h.x3 hz
    · omega
theorem two_is {B : Nat} {w0 w : World} {fb r : Nat} {l : List Gm} {b : Nat} {a : Option Addr} {gb s : Nat} {m : List Gm} {c : Nat} {d : Option Addr} (h : Two B w0 w fb r l b a gb s m c d) (ac : Nat) :
    Calls Try.prog 12 #[.pointer (some ⟨fb, 0, none⟩), .slice a l.length ac] w fun e w' => e = .returned (.bool true) ∧ Two B w0 w' fb r l b a gb s m c d :=
  (is_any w fb r l h.f.fl b a ac h.f.gs).mono fun _ _ k => ⟨k.1, h.below k.2⟩
theorem bel2w (w : World) (o p : Obj) : Below w.heap.size w ((w.alloc o).alloc p) := ((Below.refl _ _).alloc (Nat.le_refl _) o).alloc (by simp) _
set_option maxHeartbeats 16000000 in
theorem law_capart (L1 : List Ac) (a1 : Option Addr) (c1 : Nat) (L2 : List Ac) (a2 : Option Addr) (c2 : Nat) (w : World) (h1 : ActsOk w L1 a1) (h2 : ActsOk w L2 a2) :
    Calls Try.prog 6 #[.slice a1 L1.length c1, .slice a2 L2.length c2] w fun e w' => e = .returned (.bool true) ∧ Below w.heap.size w w' := by
  have H1 := Lib.hid (fun V (hV : Below w.heap.size w V) => h1.rows.keep rfl hV)
  have H2 := Lib.hid (fun V (hV : Below w.heap.size w V) => h2.rows.keep rfl hV)
  have HL : Hid (L1.length * 72 ≤ 140737488351232 ∧ L2.length * 72 ≤ 140737488351232) := Lib.hid ⟨h1.n1, h2.n1⟩
  clear h1 h2
  go_enter Try.func6, Try.ntmps6
  go_wp2_with fail
  refine (mine_new w).mono ?_
  rintro e w1 ⟨fb, rfl, hm1⟩
  have HM1 := Lib.hid hm1
  clear hm1
  go_wp2_with fail
  refine (mine_new w1).mono ?_
  rintro e w2 ⟨gb, rfl, hm2⟩
  have HT : Hid (∃ r s, Two w.heap.size w w2 fb r [] 0 none gb s [] 0 none) := Lib.hid (by
    obtain ⟨p1, p2, r, p3, hf⟩ := HM1.out
    obtain ⟨q1, q2, s, q3, hg⟩ := hm2
    have f1 := hf.low
    have f2 := hf.rl
    exact ⟨r, s, ⟨hf.below q2, Or.inl rfl, fun h => absurd rfl h⟩, ⟨hg, Or.inl rfl, fun h => absurd rfl h⟩, ⟨by omega, by omega, by omega, by omega⟩, fun h => absurd rfl h, fun h => absurd rfl h, ⟨p1, p3, by omega, by omega⟩, p2.trans (q2.mono (by omega))⟩)
  clear hm2
  go_wp2_with fail
  go_loopw [10, 7, 8, 9] (fun ii v1 v2 v3 wr => ∃ (k : Nat) (r : Nat) (l : List Gm) (b : Nat) (a : Option Addr) (ac : Nat) (s : Nat) (m : List Gm) (c : Nat) (d : Option Addr) (dc : Nat), ii = .int .i64 (k : Int) ∧ v1 = .slice a l.length ac ∧ v2 = .slice d m.length dc ∧ v3 = .bool true ∧ k ≤ L1.length + L2.length ∧ Two w.heap.size w wr fb r l b a gb s m c d) (fun ii _ _ _ _ => L1.length + L2.length - (RowKit.intOf ii).toNat)
  case atStart =>
    obtain ⟨r, s, h⟩ := HT.out
    have h2 := h.below (bel2w w2 (.cells #[] 35) (.cells #[] 35))
    exact ⟨0, r, [], 0, _, 0, s, [], 0, _, 0, rfl, rfl, rfl, rfl, Nat.zero_le _, ⟨⟨h2.f.fl, Or.inl rfl, fun h => absurd rfl h⟩, ⟨h2.g.fl, Or.inl rfl, fun h => absurd rfl h⟩, h2.x1, fun h => absurd rfl h, fun h => absurd rfl h, h2.lo, h2.bel⟩⟩
  case round =>
    clear HT
    obtain ⟨k, r, l, b, a, ac, s, m, c, d, dc, rfl, rfl, rfl, rfl, hkk, ht⟩ := hrel
    obtain ⟨wo, hwo⟩ : ∃ wo, wo = wr := ⟨_, rfl⟩
    subst hwo
    have HT := Lib.hid ht
    clear ht
    have hk0 : (0 : Int) ≤ (k : Int) := by omega
    have HKW : Hid (k < L1.length ∨ k < L2.length → IntKind.i64.wrap ((k : Int) + 1) = (k : Int) + 1) := Lib.hid (fun h => by rw [IntKind.wrap_i64]; have := HL.out; omega)
    have HNX : Hid (k < L1.length ∨ k < L2.length → ∀ (r : Nat) (l : List Gm) (b : Nat) (a : Option Addr) (ac : Nat) (s : Nat) (m : List Gm) (c : Nat) (d : Option Addr) (dc : Nat) (V : World), Two w.heap.size w V fb r l b a gb s m c d → (∃ (k' : Nat) (r' : Nat) (l' : List Gm) (b' : Nat) (a' : Option Addr) (ac' : Nat) (s' : Nat) (m' : List Gm) (c' : Nat) (d' : Option Addr) (dc' : Nat), Value.int .i64 ((k : Int) + 1) = .int .i64 (k' : Int) ∧ Value.slice a l.length ac = .slice a' l'.length ac' ∧ Value.slice d m.length dc = .slice d' m'.length dc' ∧ k' ≤ L1.length + L2.length ∧ Two w.heap.size w V fb r' l' b' a' gb s' m' c' d') ∧ L1.length + L2.length - (RowKit.intOf (Value.int .i64 ((k : Int) + 1))).toNat < L1.length + L2.length - (RowKit.intOf (Value.int .i64 (k : Int))).toNat) := Lib.hid (fun hh r l b a ac s m c d dc V h => by
      refine ⟨⟨k + 1, r, l, b, a, ac, s, m, c, d, dc, congrArg (Value.int .i64) (by omega), rfl, rfl, by omega, h⟩, ?_⟩
      show L1.length + L2.length - ((k : Int) + 1).toNat < L1.length + L2.length - (k : Int).toNat
      omega)
    clear hkk
    by_cases hk1 : k < L1.length
    · have q1 : (k : Int) < (L1.length : Int) := by omega
      have hkw := HKW.out (Or.inl hk1)
      have HN := Lib.hid (HNX.out (Or.inl hk1))
      rcases H1.out _ HT.out.bel with h0 | ⟨bb1, o1, rfl, hb1, hc1⟩
      · rw [h0] at hk1; exact absurd hk1 (by simp)
      have hcj := hc1 k hk1
      generalize L1[k] = ac at *
      obtain ⟨pt, ⟨fr, to_, bs, wt⟩, kd, i, kk⟩ := ac
      obtain ⟨c0, c1_, c2_, c3, c4, c5, c6, c7⟩ := hcj
      simp only at c0 c1_ c2_ c3 c4 c5 c6 c7
      have HDO := Lib.hid (fun ac' => two_does HT.out ac' ⟨pt, ⟨fr, to_, bs, wt⟩, kd, i, kk⟩)
      simp only at HDO
      generalize actL l ⟨pt, ⟨fr, to_, bs, wt⟩, kd, i, kk⟩ = l9 at *
      clear hc1 hb1
      by_cases hk2 : k < L2.length
      · have q2 : (k : Int) < (L2.length : Int) := by omega
        go_wp2_with fail
        refine (HDO.out _).mono ?_
        rintro e w3 ⟨pa, pc, pb, pr, rfl, ht⟩
        have HT3 := Lib.hid ht
        clear ht c0 c1_ c2_ c3 c4 c5 c6 c7 HDO HT
        have HT := HT3
        clear HT3
        generalize hl : l = lold at *
        clear hl
        rcases H2.out _ HT.out.bel with h0 | ⟨bb2, o2, rfl, hb2, hc2⟩
        · rw [h0] at hk2; exact absurd hk2 (by simp)
        have hcj := hc2 k hk2
        generalize L2[k] = ac at *
        obtain ⟨pt, ⟨fr, to_, bs, wt⟩, kd, i, kk⟩ := ac
        obtain ⟨c0, c1_, c2_, c3, c4, c5, c6, c7⟩ := hcj
        simp only at c0 c1_ c2_ c3 c4 c5 c6 c7
        have HDO := Lib.hid (fun ac' => two_does HT.out.symm ac' ⟨pt, ⟨fr, to_, bs, wt⟩, kd, i, kk⟩)
        simp only at HDO
        generalize actL m ⟨pt, ⟨fr, to_, bs, wt⟩, kd, i, kk⟩ = l9 at *
        clear hc2 hb2
        go_wp2_with fail
        refine (HDO.out _).mono ?_
        rintro e w4 ⟨qa, qc, qb, qr, rfl, ht⟩
        have HT4 := Lib.hid ht.symm
        clear ht c0 c1_ c2_ c3 c4 c5 c6 c7 HDO HT
        go_wp2_with fail
        refine (two_is HT4.out _).mono ?_
        rintro e w5 ⟨rfl, ht5⟩
        have HT5 := Lib.hid ht5.symm
        clear ht5
        go_wp2_with fail
        refine (two_is HT5.out _).mono ?_
        rintro e w6 ⟨rfl, ht6⟩
        have HT6 := Lib.hid ht6.symm
        clear ht6
        go_wp2_with fail
        obtain ⟨⟨k', r', l', b', a', ac', s', m', c', d', dc', e1, e2, e3, e4, e5⟩, e6⟩ := HN.out _ _ _ _ pc _ _ _ _ qc _ HT6.out
        exact ⟨⟨k', r', l', b', a', ac', s', m', c', d', dc', e1, e2, e3, rfl, e4, e5⟩, e6⟩
      · have q2 : ¬ (k : Int) < (L2.length : Int) := by omega
        clear hk1 hk2
        go_wp2_with fail
        refine (HDO.out _).mono ?_
        rintro e w4 ⟨pa, pc, pb, pr, rfl, ht⟩
        have HT4 := Lib.hid ht
        clear ht c0 c1_ c2_ c3 c4 c5 c6 c7 HDO HT
        go_wp2_with fail
        refine (two_is HT4.out _).mono ?_
        rintro e w5 ⟨rfl, ht5⟩
        have HT5 := Lib.hid ht5.symm
        clear ht5
        go_wp2_with fail
        refine (two_is HT5.out _).mono ?_
        rintro e w6 ⟨rfl, ht6⟩
        have HT6 := Lib.hid ht6.symm
        clear ht6
        go_wp2_with fail
        obtain ⟨⟨k', r', l', b', a', ac', s', m', c', d', dc', e1, e2, e3, e4, e5⟩, e6⟩ := HN.out _ _ _ _ pc _ _ _ _ dc _ HT6.out
        exact ⟨⟨k', r', l', b', a', ac', s', m', c', d', dc', e1, e2, e3, rfl, e4, e5⟩, e6⟩
    · have q1 : ¬ (k : Int) < (L1.length : Int) := by omega
      by_cases hk2 : k < L2.length
      · have q2 : (k : Int) < (L2.length : Int) := by omega
        have hkw := HKW.out (Or.inr hk2)
        have HN := Lib.hid (HNX.out (Or.inr hk2))
        rcases H2.out _ HT.out.bel with h0 | ⟨bb2, o2, rfl, hb2, hc2⟩
        · rw [h0] at hk2; exact absurd hk2 (by simp)
        have hcj := hc2 k hk2
        generalize L2[k] = ac at *
        obtain ⟨pt, ⟨fr, to_, bs, wt⟩, kd, i, kk⟩ := ac
        obtain ⟨c0, c1_, c2_, c3, c4, c5, c6, c7⟩ := hcj
        simp only at c0 c1_ c2_ c3 c4 c5 c6 c7
        have HDO := Lib.hid (fun ac' => two_does HT.out.symm ac' ⟨pt, ⟨fr, to_, bs, wt⟩, kd, i, kk⟩)
        simp only at HDO
        generalize actL m ⟨pt, ⟨fr, to_, bs, wt⟩, kd, i, kk⟩ = l9 at *
        clear hc2 hb2
        clear hk1 hk2
        go_wp2_with fail
        refine (HDO.out _).mono ?_
        rintro e w4 ⟨qa, qc, qb, qr, rfl, ht⟩
        have HT4 := Lib.hid ht.symm
        clear ht c0 c1_ c2_ c3 c4 c5 c6 c7 HDO HT
        go_wp2_with fail
        refine (two_is HT4.out _).mono ?_
        rintro e w5 ⟨rfl, ht5⟩
        have HT5 := Lib.hid ht5.symm
        clear ht5
        go_wp2_with fail
        refine (two_is HT5.out _).mono ?_
        rintro e w6 ⟨rfl, ht6⟩
        have HT6 := Lib.hid ht6.symm
        clear ht6
        go_wp2_with fail
        obtain ⟨⟨k', r', l', b', a', ac', s', m', c', d', dc', e1, e2, e3, e4, e5⟩, e6⟩ := HN.out _ _ _ _ ac _ _ _ _ qc _ HT6.out
        exact ⟨⟨k', r', l', b', a', ac', s', m', c', d', dc', e1, e2, e3, rfl, e4, e5⟩, e6⟩
      · have q2 : ¬ (k : Int) < (L2.length : Int) := by omega
        clear hk1 hk2
        go_wp2_with fail
        refine (awake_any _).mono ?_
        rintro e w4 ⟨rfl, b4⟩
        go_wp2_with fail
        go_ret
        exact ⟨rfl, HT.out.bel.trans (b4.mono (by have := HT.out.f.fl.low; have := HT.out.lo; omega))⟩
end Go.Proofs.Ytldbmdalmhhpfaa
