/- Channel: the document's Load; the law of plays. -/
import Derived.Test.YtldbmdalmhhpfaaCxA
import Derived.Test.YtldbmdalmhhpfaaCwQ
namespace Go.Proofs.Ytldbmdalmhhpfaa
open Go.RowKit Go.Lib Go.Ow Go.Cw Go.Cq
set_option linter.unusedVariables false
set_option linter.unusedSimpArgs false
set_option maxRecDepth 100000

set_option maxHeartbeats 8000000 in
theorem rLoad_any (l : List Gm) (b : Nat) (a : Option Addr) (c : Nat) (w : World) (h : Gs w b l a) (hl : l.length * 40 ≤ 140737488355328) :
    Calls Try.prog 10 #[.slice a l.length c] w fun e w' => e = .returned (.int .i64 (loadE l)) ∧ Below w.heap.size w w' := by
  have HR := Lib.hid (fun V (hV : Below w.heap.size w V) => h.below hV)
  have HL := Lib.hid hl
  clear h hl
  go_enter Try.func10, Try.ntmps10
  go_wp2_with fail
  go_loopw [3] (fun ii wr => ∃ k : Nat, ii = .int .i64 (k : Int) ∧ k ≤ l.length ∧ (∀ j (hj : j < l.length), j < k → mayB l[j] = true) ∧ Below w.heap.size w wr) (fun ii _ => l.length - (RowKit.intOf ii).toNat)
  case atStart => exact ⟨0, rfl, Nat.zero_le _, fun j hj hk => absurd hk (by omega), Below.refl _ _⟩
  case round =>
    obtain ⟨k, rfl, hk, hall, hbel⟩ := hrel
    obtain ⟨wo, hwo⟩ : ∃ wo, wo = wr := ⟨_, rfl⟩
    subst hwo
    have HB := Lib.hid hbel
    have HA := Lib.hid hall
    by_cases hlt : k < l.length
    · have hlti : (k : Int) < (l.length : Int) := by omega
      have hk0 : (0 : Int) ≤ (k : Int) := by omega
      have hkw : IntKind.i64.wrap ((k : Int) + 1) = (k : Int) + 1 := by rw [IntKind.wrap_i64]; have := HL.out; omega
      have HNX : Hid (mayB l[k] = true → ∀ (V : World), Below w.heap.size w V → (∃ k' : Nat, Value.int .i64 ((k : Int) + 1) = .int .i64 (k' : Int) ∧ k' ≤ l.length ∧ (∀ j (hj : j < l.length), j < k' → mayB l[j] = true) ∧ Below w.heap.size w V) ∧ l.length - (RowKit.intOf (Value.int .i64 ((k : Int) + 1))).toNat < l.length - (RowKit.intOf (Value.int .i64 (k : Int))).toNat) := Lib.hid (fun hm V h1 => by
        refine ⟨⟨k + 1, congrArg (Value.int .i64) (by omega), by omega, fun j hj hjk => ?_, h1⟩, ?_⟩
        · by_cases e : j = k
          · subst e; exact hm
          · exact hall j hj (by omega)
        · show l.length - ((k : Int) + 1).toNat < l.length - (k : Int).toNat
          omega)
      have HBD : Hid (mayB l[k] = false → loadE l = 1) := Lib.hid (fun h => loadE_bad hlt h)
      obtain ⟨o, rfl, hlow, hra⟩ := (HR.out wo hbel).at (by omega)
      obtain ⟨k0, k1, k2, k3⟩ := gm_cells hra hlt
      have hbl : w.heap.size ≤ wo.heap.size := hbel.size
      have HBL := Lib.hid hbl
      generalize l[k] = g at *
      obtain ⟨x, y, s, t⟩ := g
      simp only at k0 k1 k2 k3
      have HM := Lib.hid (rMay_any x y s t)
      clear hlt hk hall hbel hlow hra hbl
      generalize mayB ⟨x, y, s, t⟩ = q at *
      cases q with
      | true =>
        go_wp2_with fail
        refine (HM.out _).mono ?_
        rintro e w3 ⟨rfl, hb3⟩
        have HB3 : Hid (Below w.heap.size w w3) := Lib.hid (HB.out.trans (hb3.mono HBL.out))
        clear hb3 k0 k1 k2 k3
        go_wp2_with fail
        exact HNX.out trivial _ HB3.out
      | false =>
        go_wp2_with fail
        refine (HM.out _).mono ?_
        rintro e w3 ⟨rfl, hb3⟩
        have HB3 : Hid (Below w.heap.size w w3) := Lib.hid (HB.out.trans (hb3.mono HBL.out))
        clear hb3 k0 k1 k2 k3
        go_wp2_with fail
        go_ret
        exact ⟨by rw [HBD.out trivial]; rfl, HB3.out⟩
    · have hnk : ¬ (k : Int) < (l.length : Int) := by omega
      have HLE : Hid (loadE l = if 65536 < l.length then 2 else 0) := Lib.hid (loadE_all (fun j hj => hall j hj (by omega)))
      by_cases hbig : 65536 < l.length
      · have hbi : (65536 : Int) < (l.length : Int) := by omega
        have HZ : Hid (loadE l = 2) := Lib.hid (by rw [HLE.out, if_pos hbig])
        clear hlt hk hall hbel hbig
        go_wp2_with fail
        go_ret
        exact ⟨by rw [HZ.out]; rfl, HB.out⟩
      · have hbi : ¬ (65536 : Int) < (l.length : Int) := by omega
        have HZ : Hid (loadE l = 0) := Lib.hid (by rw [HLE.out, if_neg hbig])
        clear hlt hk hall hbel hbig
        go_wp2_with fail
        go_ret
        exact ⟨by rw [HZ.out]; rfl, HB.out⟩
/-- A flight and its list in a law's own memory. -/
structure One (B : Nat) (w0 w : World) (fb r : Nat) (l : List Gm) (b : Nat) (a : Option Addr) : Prop where
  p : Pc w fb r l b a
  lo : B ≤ fb ∧ B ≤ r
  bel : Below B w0 w
theorem One.below {B : Nat} {w0 w w' : World} {fb r : Nat} {l : List Gm} {b : Nat} {a : Option Addr} (h : One B w0 w fb r l b a) (k : Below w.heap.size w w') : One B w0 w' fb r l b a :=
  ⟨h.p.below k, h.lo, h.bel.trans (k.mono (by have := h.p.fl.low; have := h.lo; omega))⟩
theorem one_does {B : Nat} {w0 w : World} {fb r : Nat} {l : List Gm} {b : Nat} {a : Option Addr} (h : One B w0 w fb r l b a) (ac : Nat) (x : Ac) :
    Calls Try.prog 13 #[.pointer (some ⟨fb, 0, none⟩), .slice a l.length ac, .agg #[.bool x.put, .int .i64 x.g.fr, .int .i64 x.g.to, .string x.g.bs, .int .i64 x.g.wt, .int .i64 x.kd, .int .i64 x.i, .int .i64 x.k]] w fun e w' => ∃ a' c' b' r', e = .returned (.tuple #[.slice a' (actL l x).length c', .bool true]) ∧ One B w0 w' fb r' (actL l x) b' a' := by
  refine (does2 w fb r l b a ac h.p x).mono ?_
  rintro e w' ⟨a', c', b', r', he, hq, hr, hb, hx⟩
  have := h.p.fl.low
  have := h.p.fl.rl
  obtain ⟨l1, l2⟩ := h.lo
  exact ⟨a', c', b', r', he, hq, ⟨l1, by omega⟩, h.bel.trans (hx.below l1 l2 (by omega))⟩
theorem one_is {B : Nat} {w0 w : World} {fb r : Nat} {l : List Gm} {b : Nat} {a : Option Addr} (h : One B w0 w fb r l b a) (ac : Nat) :
    Calls Try.prog 12 #[.pointer (some ⟨fb, 0, none⟩), .slice a l.length ac] w fun e w' => e = .returned (.bool true) ∧ One B w0 w' fb r l b a :=
  (is_any w fb r l h.p.fl b a ac h.p.gs).mono fun _ _ k => ⟨k.1, h.below k.2⟩
set_option maxHeartbeats 16000000 in
theorem law_cplays (l : List Gm) (a : Option Addr) (c : Nat) (L1 : List Ac) (a1 : Option Addr) (c1 : Nat) (w : World) (hin : GmsOk w l a) (h1 : ActsOk w L1 a1) :
    Calls Try.prog 3 #[.slice a l.length c, .slice a1 L1.length c1] w fun e w' => e = .returned (.bool true) ∧ Below w.heap.size w w' := by
  obtain ⟨b, hg⟩ := hin.rows
  have HGS := Lib.hid (fun V (hV : Below w.heap.size w V) => hg.below hV)
  have HG40 : Hid (l.length * 40 ≤ 140737488355328) := Lib.hid (by have := hin.n1; omega)
  have H1 := Lib.hid (fun V (hV : Below w.heap.size w V) => h1.rows.keep rfl hV)
  have HL : Hid (L1.length * 72 ≤ 140737488351232) := Lib.hid h1.n1
  have HC1 := Lib.hid (fun V (hV : Below w.heap.size w V) => rCopy_any l b a c V (hg.below hV) HG40.out)
  have HRL := Lib.hid (fun V (hV : Below w.heap.size w V) => rLoad_any l b a c V (hg.below hV) HG40.out)
  clear hin hg h1
  go_enter Try.func3, Try.ntmps3
  go_wp2_with fail
  refine (HC1.out _ (Below.refl _ _)).mono ?_
  rintro e w1 ⟨hb1, v1, r1, rfl, hr1, hrow1⟩
  obtain ⟨p1, q1, rfl⟩ := hrow1.slice
  have HB1 := Lib.hid hb1
  have HLD := Lib.hid (load_any l r1 p1 q1 w1 (rw_gs hrow1) HG40.out)
  clear hb1 hr1 hrow1
  go_wp2_with fail
  refine HLD.out.mono ?_
  rintro e w2 (⟨hz, fb, rfl, hm⟩ | ⟨hnz, rfl, hb2⟩)
  · have HM := Lib.hid hm
    rw [hz] at HRL
    have HBB : Hid (Below w.heap.size w w2) := Lib.hid (by
      obtain ⟨-, h, -⟩ := hm
      exact gNx HB1.out h)
    clear hz hm HLD
    go_wp2_with fail
    refine (HRL.out _ HBB.out).mono ?_
    rintro e w3 ⟨rfl, hb3⟩
    have HB3 := Lib.hid hb3
    clear hb3
    go_wp2_with fail
    refine (HC1.out _ (gNx HBB.out HB3.out)).mono ?_
    rintro e w4 ⟨hb4, v4, r4, rfl, hr4, hrow4⟩
    obtain ⟨p4, q4, rfl⟩ := hrow4.slice
    have HO : Hid (∃ r, One w.heap.size w w4 fb r l r4 p4) := Lib.hid (by
      obtain ⟨f1, f2, r, f3, f4⟩ := HM.out
      have s1 := HB1.out.size
      have s3 := HB3.out.size
      have f5 := f4.low
      have f6 := f4.rl
      exact ⟨r, ⟨(f4.below HB3.out).below hb4, rw_gs hrow4, fun _ => ⟨by omega, by omega⟩⟩, ⟨by omega, by omega⟩, gNx (gNx HBB.out HB3.out) hb4⟩)
    have HI : Hid (∀ V, Below w4.heap.size w4 V → Calls Try.prog 12 #[.pointer (some ⟨fb, 0, none⟩), .slice a l.length c] V fun e w' => e = .returned (.bool true) ∧ Below V.heap.size V w') := Lib.hid (fun V hV => by
      obtain ⟨r, ho⟩ := HO.out
      exact is_any V fb r l (ho.p.fl.below hV) b a c (HGS.out V (gNx (gNx (gNx HBB.out HB3.out) hb4) hV)))
    clear hb4 hr4 hrow4
    go_wp2_with fail
    refine (HI.out _ (Below.refl _ _)).mono ?_
    rintro e w5 ⟨rfl, hb5⟩
    have HO5 : Hid (∃ r, One w.heap.size w w5 fb r l r4 p4) := Lib.hid (by
      obtain ⟨r, ho⟩ := HO.out
      exact ⟨r, ho.below hb5⟩)
    clear hb5 HI HO
    go_wp2_with fail
    go_loopw [9, 7, 8] (fun ii v1 v3 wr => ∃ (k : Nat) (r : Nat) (m : List Gm) (bb : Nat) (d : Option Addr) (dc : Nat), ii = .int .i64 (k : Int) ∧ v1 = .slice d m.length dc ∧ v3 = .bool true ∧ k ≤ L1.length ∧ One w.heap.size w wr fb r m bb d) (fun ii _ _ _ => L1.length - (RowKit.intOf ii).toNat)
    case atStart =>
      obtain ⟨r, ho⟩ := HO5.out
      exact ⟨0, r, l, r4, p4, q4, rfl, rfl, rfl, Nat.zero_le _, ho⟩
    case round =>
      clear HO5
      obtain ⟨k, r, m, bb, d, dc, rfl, rfl, rfl, hkk, ho⟩ := hrel
      obtain ⟨wo, hwo⟩ : ∃ wo, wo = wr := ⟨_, rfl⟩
      subst hwo
      have HO := Lib.hid ho
      clear ho
      have hk0 : (0 : Int) ≤ (k : Int) := by omega
      by_cases hk1 : k < L1.length
      · have q1 : (k : Int) < (L1.length : Int) := by omega
        have hkw : IntKind.i64.wrap ((k : Int) + 1) = (k : Int) + 1 := by rw [IntKind.wrap_i64]; have := HL.out; omega
        have HN : Hid (∀ (r : Nat) (m : List Gm) (bb : Nat) (d : Option Addr) (dc : Nat) (V : World), One w.heap.size w V fb r m bb d → (∃ (k' : Nat) (r' : Nat) (m' : List Gm) (b' : Nat) (d' : Option Addr) (dc' : Nat), Value.int .i64 ((k : Int) + 1) = .int .i64 (k' : Int) ∧ Value.slice d m.length dc = .slice d' m'.length dc' ∧ k' ≤ L1.length ∧ One w.heap.size w V fb r' m' b' d') ∧ L1.length - (RowKit.intOf (Value.int .i64 ((k : Int) + 1))).toNat < L1.length - (RowKit.intOf (Value.int .i64 (k : Int))).toNat) := Lib.hid (fun r m bb d dc V h => by
          refine ⟨⟨k + 1, r, m, bb, d, dc, congrArg (Value.int .i64) (by omega), rfl, by omega, h⟩, ?_⟩
          show L1.length - ((k : Int) + 1).toNat < L1.length - (k : Int).toNat
          omega)
        rcases H1.out _ HO.out.bel with h0 | ⟨b1, o1, rfl, hbl1, hc1⟩
        · rw [h0] at hk1; exact absurd hk1 (by simp)
        have hcj := hc1 k hk1
        generalize L1[k] = ac at *
        obtain ⟨pt, ⟨fr, to_, bs, wt⟩, kd, i, kk⟩ := ac
        obtain ⟨c0, c1_, c2_, c3, c4, c5, c6, c7⟩ := hcj
        simp only at c0 c1_ c2_ c3 c4 c5 c6 c7
        have HDO := Lib.hid (fun ac' => one_does HO.out ac' ⟨pt, ⟨fr, to_, bs, wt⟩, kd, i, kk⟩)
        simp only at HDO
        generalize actL m ⟨pt, ⟨fr, to_, bs, wt⟩, kd, i, kk⟩ = l9 at *
        clear hc1 hbl1 hk1 hkk
        go_wp2_with fail
        refine (HDO.out _).mono ?_
        rintro e w6 ⟨pa, pc, pb, pr, rfl, ht⟩
        have HT6 := Lib.hid ht
        clear ht c0 c1_ c2_ c3 c4 c5 c6 c7 HDO HO
        go_wp2_with fail
        refine (one_is HT6.out _).mono ?_
        rintro e w7 ⟨rfl, ht7⟩
        have HT7 := Lib.hid ht7
        clear ht7
        go_wp2_with fail
        obtain ⟨⟨k', r', m', b', d', dc', e1, e2, e4, e5⟩, e6⟩ := HN.out _ _ _ _ pc _ HT7.out
        exact ⟨⟨k', r', m', b', d', dc', e1, e2, rfl, e4, e5⟩, e6⟩
      · have q1 : ¬ (k : Int) < (L1.length : Int) := by omega
        clear hk1 hkk
        go_wp2_with fail
        refine (awake_any _).mono ?_
        rintro e w6 ⟨rfl, b6⟩
        go_wp2_with fail
        go_ret
        exact ⟨rfl, (HO.out.below b6).bel⟩
  · have HBB := Lib.hid (gNx HB1.out hb2)
    have hE : (loadE l != loadE l) = false := by simp
    have hE2 : (loadE l != 0) = true := by simpa using hnz
    have hE3 : (loadE l == 0) = false := by simpa using hnz
    generalize loadE l = E at *
    clear hnz hb2 HLD
    go_wp2_with fail
    refine (HRL.out _ HBB.out).mono ?_
    rintro e w3 ⟨rfl, hb3⟩
    have HB3 := Lib.hid (gNx HBB.out hb3)
    clear hb3
    go_wp2_with fail
    refine (awake_any _).mono ?_
    rintro e w4 ⟨rfl, hb4⟩
    go_wp2_with fail
    go_ret
    exact ⟨rfl, gNx HB3.out hb4⟩
end Go.Proofs.Ytldbmdalmhhpfaa
