/- Sessions: a session in memory; awake; the law of plays. -/
import Derived.Test.YtippekflhlmgiaaSwM
import Derived.Test.YtippekflhlmgiaaRtA
import Derived.Deep.Cut
import Derived.Deep.DeepCutAuto
import Derived.Deep.RegionLaw
import Derived.RegionCalls
import Derived.Deep.RegionWith
import Derived.BigRegion
import Derived.BigQuiet
namespace Go.Proofs.Ytippekflhlmgiaa
open Go.RowKit Go.Lib Go.Sq
set_option linter.unusedVariables false
set_option linter.unusedSimpArgs false
set_option maxRecDepth 100000

theorem gAl (W : World) (o : Obj) : Below W.heap.size W (W.alloc o) := (Below.refl _ _).alloc (Nat.le_refl _) _
theorem gNx {W w w' : World} (h : Below W.heap.size W w) (k : Below w.heap.size w w') : Below W.heap.size W w' := h.trans (k.mono h.size)
/-- A session's four cells, that may be written. -/
def S4 (w : World) (b o : Nat) (x : Se) : Prop :=
  w.cell? ⟨b, o, none⟩ = some (.int .u64 x.m) ∧ w.cell? ⟨b, o + 1, none⟩ = some (.int .u64 x.p) ∧ w.cell? ⟨b, o + 2, none⟩ = some (.bool x.u) ∧ w.cell? ⟨b, o + 3, none⟩ = some (.int .i64 x.s) ∧
    w.frozen? ⟨b, o, none⟩ = false ∧ w.frozen? ⟨b, o + 1, none⟩ = false ∧ w.frozen? ⟨b, o + 2, none⟩ = false ∧ w.frozen? ⟨b, o + 3, none⟩ = false
theorem S4.below {w w' : World} {b o : Nat} {x : Se} (h : S4 w b o x) {B : Nat} (bel : Below B w w') (hb : b < B) : S4 w' b o x := by
  obtain ⟨a0, a1, a2, a3, a4, a5, a6, a7⟩ := h
  exact ⟨(bel.cell (p := ⟨b, o, none⟩) hb).trans a0, (bel.cell (p := ⟨b, o + 1, none⟩) hb).trans a1, (bel.cell (p := ⟨b, o + 2, none⟩) hb).trans a2, (bel.cell (p := ⟨b, o + 3, none⟩) hb).trans a3,
    (bel.frozen (p := ⟨b, o, none⟩) hb).trans a4, (bel.frozen (p := ⟨b, o + 1, none⟩) hb).trans a5, (bel.frozen (p := ⟨b, o + 2, none⟩) hb).trans a6, (bel.frozen (p := ⟨b, o + 3, none⟩) hb).trans a7⟩
theorem S4.first (w : World) (x : Se) : S4 (w.alloc (seO x)) w.heap.size 0 x :=
  ⟨by simp [go_sem], by simp [go_sem], by simp [go_sem], by simp [go_sem], by simp [go_sem], by simp [go_sem], by simp [go_sem], by simp [go_sem]⟩
theorem S4.set {w : World} {b o : Nat} {x : Se} (h : S4 w b o x) (y : Se) : S4 ((((w.setCell ⟨b, o, none⟩ (.int .u64 y.m)).setCell ⟨b, o + 1, none⟩ (.int .u64 y.p)).setCell ⟨b, o + 2, none⟩ (.bool y.u)).setCell ⟨b, o + 3, none⟩ (.int .i64 y.s)) b o y := by
  obtain ⟨c0, c1, c2, c3, f0, f1, f2, f3⟩ := h
  exact ⟨by simp [go_sem, c0, c1, c2, c3], by simp [go_sem, c0, c1, c2, c3], by simp [go_sem, c0, c1, c2, c3], by simp [go_sem, c0, c1, c2, c3], by simp [go_sem, f0], by simp [go_sem, f1], by simp [go_sem, f2], by simp [go_sem, f3]⟩
theorem S4.other {w : World} {b c o q : Nat} {x : Se} (h : S4 w b o x) (hne : b ≠ c) (y0 y1 y2 y3 : Value) : S4 ((((w.setCell ⟨c, q, none⟩ y0).setCell ⟨c, q + 1, none⟩ y1).setCell ⟨c, q + 2, none⟩ y2).setCell ⟨c, q + 3, none⟩ y3) b o x := by
  obtain ⟨c0, c1, c2, c3, f0, f1, f2, f3⟩ := h
  exact ⟨by simp [go_sem, c0, hne], by simp [go_sem, c1, hne], by simp [go_sem, c2, hne], by simp [go_sem, c3, hne], by simp [go_sem, f0], by simp [go_sem, f1], by simp [go_sem, f2], by simp [go_sem, f3]⟩
theorem S4.drew {w : World} {b o : Nat} {x : Se} (h : S4 w b o x) : S4 w.drew b o x := h
abbrev seL (x : Se) : List Value := [.int .u64 x.m, .int .u64 x.p, .bool x.u, .int .i64 x.s]
theorem seL_one (x : Se) : ∀ v ∈ seL x, v.oneCell' = true := by
  intro v hv
  simp only [seL, List.mem_cons, List.not_mem_nil, or_false] at hv
  rcases hv with rfl | rfl | rfl | rfl <;> rfl
theorem S4.range {w : World} {b o : Nat} {x : Se} (h : S4 w b o x) : w.rangeAt b o (seL x) := by
  obtain ⟨c0, c1, c2, c3, -⟩ := h
  intro j v hj
  match j, hj with
  | 0, hj => simp only [seL, List.getElem?_cons_zero, Option.some.injEq] at hj; subst hj; exact c0
  | 1, hj => simp only [seL, List.getElem?_cons_succ, List.getElem?_cons_zero, Option.some.injEq] at hj; subst hj; exact c1
  | 2, hj => simp only [seL, List.getElem?_cons_succ, List.getElem?_cons_zero, Option.some.injEq] at hj; subst hj; exact c2
  | 3, hj => simp only [seL, List.getElem?_cons_succ, List.getElem?_cons_zero, Option.some.injEq] at hj; subst hj; exact c3
  | n + 4, hj => simp [seL] at hj
theorem S4.there {w : World} {b o : Nat} {x : Se} (h : S4 w b o x) : w.there b o 4 := by
  obtain ⟨c0, c1, c2, c3, f0, f1, f2, f3⟩ := h
  intro j hj
  match j, hj with
  | 0, _ => exact ⟨by rw [Nat.add_zero, c0]; rfl, f0⟩
  | 1, _ => exact ⟨by rw [c1]; rfl, f1⟩
  | 2, _ => exact ⟨by rw [c2]; rfl, f2⟩
  | 3, _ => exact ⟨by rw [c3]; rfl, f3⟩
theorem S4.setL {w : World} {b o : Nat} {x : Se} (h : S4 w b o x) (y : Se) : S4 (w.setCells b o (seL y)) b o y := h.set y
theorem S4.otherL {w : World} {b c o q : Nat} {x : Se} (h : S4 w b o x) (hne : b ≠ c) (y : Se) : S4 (w.setCells c q (seL y)) b o x := h.other hne _ _ _ _
theorem set4B {B : Nat} {w w1 : World} (h : Below B w w1) (b o : Nat) (hb : B ≤ b) (y0 y1 y2 y3 : Value) : Below B w ((((w1.setCell ⟨b, o, none⟩ y0).setCell ⟨b, o + 1, none⟩ y1).setCell ⟨b, o + 2, none⟩ y2).setCell ⟨b, o + 3, none⟩ y3) :=
  (((h.setCell hb _).setCell hb _).setCell hb _).setCell hb _
theorem two_set {B bs bt : Nat} {w V0 : World} {x y : Se} (h1 : S4 V0 bs 0 x) (h2 : S4 V0 bt 0 x) (hne : bs ≠ bt) (hb : Below B w V0) (hs : B ≤ bs) (ht : B ≤ bt) (h3 : bt < V0.heap.size) (h4 : bs < V0.heap.size) (cs : List Value) (hcs : cs = seL y) :
    ∃ V9, V9 = (V0.setCells bs 0 cs).setCells bt 0 cs ∧ Hid (S4 V9 bs 0 y ∧ S4 V9 bt 0 y ∧ Below B w V9 ∧ bt < V9.heap.size ∧ bs < V9.heap.size) := by
  subst hcs
  have hz : V0.heap.size ≤ ((V0.setCells bs 0 (seL y)).setCells bt 0 (seL y)).heap.size := (below_set (B := 0) bt (Nat.zero_le _) (seL y) 0 _ (below_set (B := 0) bs (Nat.zero_le _) (seL y) 0 V0 (Below.refl 0 V0))).size
  exact ⟨_, rfl, Lib.hid ⟨(h1.setL y).otherL hne y, (h2.otherL hne.symm y).setL y, below_set bt ht _ _ _ (below_set bs hs _ _ _ hb), Nat.lt_of_lt_of_le h3 hz, Nat.lt_of_lt_of_le h4 hz⟩⟩
theorem down_bel (x : Se) (h : Ok x) (w : World) : Calls Try.prog 22 #[seV x] w fun e w' => e = .returned (seV (downF x)) ∧ Below w.heap.size w w' := (down_any x h w).mono fun _ _ h => ⟨h.1, by rw [h.2]; exact bel2 _ _ _⟩
theorem rDown_bel (x : Se) (h : Ok x) (w : World) : Calls Try.prog 23 #[seV x] w fun e w' => e = .returned (seV (downF x)) ∧ Below w.heap.size w w' := (rDown_any x h w).mono fun _ _ h => ⟨h.1, by rw [h.2]; exact bel2 _ _ _⟩
set_option maxHeartbeats 4000000 in
theorem awake_any (w : World) : Calls Try.prog 14 #[] w fun e w' => e = .returned (.bool true) ∧ Below w.heap.size w w' := by
  have H1 := Lib.hid (fun w => hear_any ⟨5, 0, false, 0⟩ 9 0 w)
  have H2 := Lib.hid (fun w => hear_any ⟨5, 9, false, 0⟩ 9 5 w)
  rw [show hearF ⟨5, 0, false, 0⟩ 9 0 = (⟨5, 9, false, 0⟩, true, false) from rfl] at H1
  rw [show hearF ⟨5, 9, false, 0⟩ 9 5 = (⟨5, 9, true, 0⟩, false, true) from rfl] at H2
  go_enter Try.func14, Try.ntmps14
  go_wp2_with fail
  refine (new_any 5 _).mono ?_
  rintro e w1 ⟨rfl, b1⟩
  go_wp2_with fail
  refine (H1.out _).mono ?_
  rintro e w2 ⟨rfl, b2⟩
  have s2 := (S4.first w1 ⟨5, 0, false, 0⟩).below b2 (by simp)
  have hz1 := b1.size
  have hz2 := b2.size
  have B2 : Below w.heap.size w w2 := gNx (gNx b1 (gAl _ _)) b2
  simp only [World.size_alloc] at hz2
  clear b2 b1
  have HS := Lib.hid (show w.heap.size ≤ w1.heap.size ∧ w1.heap.size < w2.heap.size ∧ Below w.heap.size w w2 ∧ S4 w2 w1.heap.size 0 ⟨5, 0, false, 0⟩ from ⟨by omega, by omega, B2, s2⟩)
  obtain ⟨c0, c1, c2, c3, f0, f1, f2, f3⟩ := s2
  generalize w1.heap.size = bs at *
  clear hz1 hz2 B2
  go_wp2_with fail
  refine (H2.out _).mono ?_
  rintro e w3 ⟨rfl, b3⟩
  obtain ⟨q1, q2, q3, q4⟩ := HS.out
  have s3 := (q4.set ⟨5, 9, false, 0⟩).below b3 (by simpa using q2)
  have B3 : Below w.heap.size w w3 := gNx (set4B q3 bs 0 q1 _ _ _ _) b3
  clear b3 c0 c1 c2 c3 f0 f1 f2 f3 q2 q3 q4
  obtain ⟨c0, c1, c2, c3, f0, f1, f2, f3⟩ := s3
  go_wp2_with fail
  go_ret
  exact ⟨rfl, set4B B3 bs 0 q1 _ _ _ _⟩
set_option maxHeartbeats 16000000 in
theorem law_splays (m p : Int) (u : Bool) (s : Int) (L : List Cl) (a : Option Addr) (c : Nat) (w : World) (hs : (0 ≤ m ∧ m ≤ 18446744073709551615) ∧ (0 ≤ p ∧ p ≤ 18446744073709551615) ∧ True ∧ (-9223372036854775808 ≤ s ∧ s ≤ 9223372036854775807)) (hin : ClsOk w L a) :
    Calls Try.prog 4 #[.agg #[.int .u64 m, .int .u64 p, .bool u, .int .i64 s], .slice a L.length c] w fun e w' => e = .returned (.bool true) ∧ Below w.heap.size w w' := by
  have HIN := Lib.hid (fun V (hV : Below w.heap.size w V) => hin.rows.keep rfl hV)
  have HL : Hid (L.length * 32 ≤ 140737488351232) := Lib.hid hin.n1
  have HLO : Hid (∀ x ∈ L, ClOk x) := Lib.hid hin.ok
  have HOK : Hid (Ok ⟨m, p, u, s⟩) := Lib.hid ⟨hs.1.1, hs.1.2, hs.2.1.1, hs.2.1.2, hs.2.2.2.1, hs.2.2.2.2⟩
  clear hs hin
  go_enter Try.func4, Try.ntmps4
  go_wp2_with fail
  refine (rMay_any ⟨m, p, u, s⟩ _).mono ?_
  rintro e w1 ⟨rfl, b1⟩
  have s1 := (S4.first w ⟨m, p, u, s⟩).below b1 (by simp)
  have hz1 := b1.size
  have B1 : Below w.heap.size w w1 := gNx (gAl _ _) b1
  simp only [World.size_alloc] at hz1
  clear b1
  have HS1 := Lib.hid (show w.heap.size < w1.heap.size ∧ Below w.heap.size w w1 ∧ S4 w1 w.heap.size 0 ⟨m, p, u, s⟩ from ⟨by omega, B1, s1⟩)
  obtain ⟨c0, c1, c2, c3, f0, f1, f2, f3⟩ := s1
  clear hz1 B1
  cases hmay : mayB ⟨m, p, u, s⟩ with
  | false =>
    clear hmay
    go_wp2_with fail
    refine (awake_any _).mono ?_
    rintro e w2 ⟨rfl, b2⟩
    go_wp2_with fail
    go_ret
    exact ⟨rfl, gNx HS1.out.2.1 b2⟩
  | true =>
    clear hmay
    go_wp2_with fail
    go_loopw [6] (fun ii wr => ∃ (k : Nat) (x : Se), ii = .int .i64 (k : Int) ∧ k ≤ L.length ∧ Ok x ∧ w1.heap.size < wr.heap.size ∧ Below w.heap.size w wr ∧ S4 wr w.heap.size 0 x ∧ S4 wr w1.heap.size 0 x) (fun ii _ => L.length - (RowKit.intOf ii).toNat)
    case atStart => exact ⟨0, _, rfl, Nat.zero_le _, HOK.out, by simp, HS1.out.2.1.alloc (Nat.le_of_lt HS1.out.1) _, HS1.out.2.2.below (gAl _ _) HS1.out.1, S4.first w1 ⟨m, p, u, s⟩⟩
    case round =>
      obtain ⟨hsw, -, -⟩ := HS1.out
      clear c0 c1 c2 c3 f0 f1 f2 f3 HS1 HOK
      obtain ⟨k, x, rfl, hk, hox, hsz, hbw, hs4, ht4⟩ := hrel
      obtain ⟨wo, hwo⟩ : ∃ wo, wo = wr := ⟨_, rfl⟩
      subst hwo
      generalize w1.heap.size = bt at *
      have HBW := Lib.hid hbw
      have HNE : Hid (w.heap.size ≠ bt ∧ w.heap.size ≤ bt ∧ w.heap.size < wo.heap.size ∧ bt < wo.heap.size) := Lib.hid ⟨by omega, by omega, by omega, by omega⟩
      have HS := Lib.hid (show ∀ V, Below wo.heap.size wo V → S4 V w.heap.size 0 x ∧ S4 V bt 0 x from fun V hV => ⟨hs4.below hV (by omega), ht4.below hV (by omega)⟩)
      obtain ⟨c0, c1, c2, c3, f0, f1, f2, f3⟩ := hs4
      have hbl : w.heap.size < wo.heap.size := HNE.out.2.2.1
      clear hbw ht4 hsz hsw
      by_cases hlt : k < L.length
      · have hlti : (k : Int) < (L.length : Int) := by omega
        have hk0 : (0 : Int) ≤ (k : Int) := by omega
        have hkw : IntKind.i64.wrap ((k : Int) + 1) = (k : Int) + 1 := by rw [IntKind.wrap_i64]; have := HL.out; omega
        have HNX : Hid (∀ (y : Se) (V : World), Ok y → bt < V.heap.size → Below w.heap.size w V → S4 V w.heap.size 0 y → S4 V bt 0 y → (∃ (k' : Nat) (x : Se), Value.int .i64 ((k : Int) + 1) = .int .i64 (k' : Int) ∧ k' ≤ L.length ∧ Ok x ∧ bt < V.heap.size ∧ Below w.heap.size w V ∧ S4 V w.heap.size 0 x ∧ S4 V bt 0 x) ∧ L.length - (RowKit.intOf (Value.int .i64 ((k : Int) + 1))).toNat < L.length - (RowKit.intOf (Value.int .i64 (k : Int))).toNat) := Lib.hid (fun y V h1 h2 h3 h4 h5 => by
          refine ⟨⟨k + 1, y, congrArg (Value.int .i64) (by omega), by omega, h1, h2, h3, h4, h5⟩, ?_⟩
          show L.length - ((k : Int) + 1).toNat < L.length - (k : Int).toNat
          omega)
        rcases HIN.out wo HBW.out with h0 | ⟨b, o, rfl, hb, hc⟩
        · rw [h0] at hlt; exact absurd hlt (by simp)
        have hcj := hc k hlt
        have hlo := HLO.out _ (List.getElem_mem hlt)
        generalize L[k] = ac at *
        obtain ⟨kd, n, e, life⟩ := ac
        obtain ⟨d0, d1, d2, d3⟩ := hcj
        obtain ⟨-, hn, he, hlf⟩ := hlo
        simp only at d0 d1 d2 d3 hn he hlf
        clear hc hlt hk hb
        by_cases h0 : kd = 0
        · subst h0
          have H1 := Lib.hid (fun w => hear_any x n e w)
          have H2 := Lib.hid (fun w => rHear_any x n e w)
          have HO := Lib.hid (hox.hear e hn.1 hn.2)
          generalize hearF x n e = r at *
          obtain ⟨y, f, g⟩ := r
          simp only at H1 H2 HO
          have ef : (f == f) = true := by simp
          have eg : (g == g) = true := by simp
          clear hn he hlf hox
          go_wp2_with fail
          refine (H1.out _).mono ?_
          rintro e1 w2 ⟨rfl, b2⟩
          have hz2 : wo.heap.size < w2.heap.size := by have := b2.size; simp only [World.size_alloc] at this; omega
          have k1 : Below wo.heap.size wo w2 := gNx (gAl wo _) b2
          have HK1 := Lib.hid k1
          have g1 : w2.cell? ⟨wo.heap.size, 1, none⟩ = some (.int .u64 n) := (b2.cell (p := ⟨wo.heap.size, 1, none⟩) (by simp)).trans (by simp [go_sem])
          have g2 : w2.cell? ⟨wo.heap.size, 2, none⟩ = some (.int .u64 e) := (b2.cell (p := ⟨wo.heap.size, 2, none⟩) (by simp)).trans (by simp [go_sem])
          have g3 : w2.cell? ⟨wo.heap.size, 3, none⟩ = some (.int .i64 life) := (b2.cell (p := ⟨wo.heap.size, 3, none⟩) (by simp)).trans (by simp [go_sem])
          have hb2 : bt < w2.heap.size := Nat.lt_trans HNE.out.2.2.2 hz2
          clear b2 d0 d1 d2 d3 c0 c1 c2 c3 f0 f1 f2 f3 hbl
          obtain ⟨tc0, tc1, tc2, tc3, tf0, tf1, tf2, tf3⟩ := (HS.out w2 k1).2
          clear k1
          go_wp2_with fail
          refine (H2.out _).mono ?_
          rintro e2 w3 ⟨rfl, b3⟩
          have hz3 : w2.heap.size < w3.heap.size := by have := b3.size; simp only [World.size_alloc] at this; omega
          have k2 : Below wo.heap.size wo w3 := gNx HK1.out (gNx (gAl w2 _) b3)
          have HK2 := Lib.hid k2
          have ya := (S4.first w2 y).below b3 (by simp)
          have HYA := Lib.hid ya
          have hb3 : w.heap.size < w3.heap.size := by have := HNE.out; omega
          have hb4 : bt < w3.heap.size := by have := HNE.out; omega
          clear b3 tc0 tc1 tc2 tc3 tf0 tf1 tf2 tf3 g1 g2 g3
          obtain ⟨sc0, sc1, sc2, sc3, sf0, sf1, sf2, sf3⟩ := (HS.out w3 k2).1
          obtain ⟨tc0, tc1, tc2, tc3, tf0, tf1, tf2, tf3⟩ := (HS.out w3 k2).2
          obtain ⟨yc0, yc1, yc2, yc3, yf0, yf1, yf2, yf3⟩ := ya
          have hne : w.heap.size ≠ bt := HNE.out.1
          clear k2
          clear sc0 sc1 sc2 sc3 sf0 sf1 sf2 sf3 tc0 tc1 tc2 tc3 tf0 tf1 tf2 tf3 yc0 yc1 yc2 yc3 yf0 yf1 yf2 yf3
          have HF : Hid (S4 (w3.alloc (seO y)).drew w2.heap.size 0 y ∧ S4 (w3.alloc (seO y)).drew w3.heap.size 0 y ∧ S4 (w3.alloc (seO y)).drew w.heap.size 0 x ∧ S4 (w3.alloc (seO y)).drew bt 0 x ∧ w.heap.size ≠ w2.heap.size ∧ w.heap.size ≠ w3.heap.size ∧ bt ≠ w2.heap.size ∧ bt ≠ w3.heap.size ∧ Below w.heap.size w (w3.alloc (seO y)).drew ∧ bt < (w3.alloc (seO y)).drew.heap.size ∧ w.heap.size < (w3.alloc (seO y)).drew.heap.size) := Lib.hid ⟨(HYA.out.below (gAl w3 _) hz3).drew, (S4.first w3 y).drew, (HS.out _ (gNx HK2.out (gAl w3 _))).1, (HS.out _ (gNx HK2.out (gAl w3 _))).2, by have := HNE.out; omega, by have := HNE.out; omega, by have := HNE.out; omega, by have := HNE.out; omega, by have := gNx HBW.out (gNx HK2.out (gAl w3 (seO y))); exact this.drew, by simp; omega, by simp; omega⟩
          go_upto_region 13 with (fail)
          generalize w2.heap.size = ba at *
          generalize w3.heap.size = bb at *
          refine wp_region_held_drew (S := fun V => S4 V ba 0 y ∧ S4 V bb 0 y) (by kernel_rfl) ⟨HF.out.1, HF.out.2.1⟩ (fun hH => ?_)
          clear hH
          generalize (w3.alloc (Obj.cells #[.int .u64 y.m, .int .u64 y.p, .bool y.u, .int .i64 y.s] 28)).drew = V0 at *
          have hs0 : S4 V0 ba 0 y ∧ S4 V0 bb 0 y := ⟨HF.out.1, HF.out.2.1⟩
          refine tk 0 hs0 rfl (by kernel_rfl) (fun _ _ _ h => h) (tk_load (S := fun V => S4 V ba 0 y ∧ S4 V bb 0 y) 28 (.tmp 9) rfl ba 0 rfl (seL y) _ (fun V hV => hV.1.range) Try.underlying28 (by rfl) (by kernel_rfl)) ?_
          try simp only [Act.put, sqA, sqB, sqC, sqD, sqE, sqF]
          refine tk 1 hs0 rfl (by kernel_rfl) (fun _ _ _ h => h) (tk_load (S := fun V => S4 V ba 0 y ∧ S4 V bb 0 y) 28 (.tmp 12) rfl bb 0 rfl (seL y) _ (fun V hV => hV.2.range) Try.underlying28 (by rfl) (by kernel_rfl)) ?_
          try simp only [Act.put, sqA, sqB, sqC, sqD, sqE, sqF]
          refine tk 2 hs0 rfl (by kernel_rfl) (fun _ _ _ h => h) (fun V hV => by go_simp; try with_reducible rfl) ?_
          try simp only [Act.put, sqA, sqB, sqC, sqD, sqE, sqF]
          refine tk 3 hs0 rfl (by kernel_rfl) (fun _ _ _ h => h) (fun V hV => by go_simp; try with_reducible rfl) ?_
          try simp only [Act.put, sqA, sqB, sqC, sqD, sqE, sqF]
          refine tk 4 hs0 rfl (by kernel_rfl) (fun _ _ _ h => h) (fun V hV => by go_simp; try with_reducible rfl) ?_
          try simp only [Act.put, sqA, sqB, sqC, sqD, sqE, sqF]
          refine tk 5 hs0 rfl (by kernel_rfl) (fun _ _ _ h => h) (fun V hV => by go_simp; try with_reducible rfl) ?_
          try simp only [Act.put, sqA, sqB, sqC, sqD, sqE, sqF]
          refine tk 6 hs0 rfl (by kernel_rfl) (fun _ _ _ h => h) (fun V hV => by go_simp; try with_reducible rfl) ?_
          try simp only [Act.put, sqA, sqB, sqC, sqD, sqE, sqF]
          refine tk 7 hs0 rfl (by kernel_rfl) (fun _ _ _ h => h) (fun V hV => by go_simp; try with_reducible rfl) ?_
          try simp only [Act.put, sqA, sqB, sqC, sqD, sqE, sqF]
          refine tk 8 hs0 rfl (by kernel_rfl) (fun _ _ _ h => h) (fun V hV => by go_simp; try with_reducible rfl) ?_
          try simp only [Act.put, sqA, sqB, sqC, sqD, sqE, sqF]
          refine tk 9 hs0 rfl (by kernel_rfl) (fun _ _ _ h => h) (fun V hV => by go_simp; try with_reducible rfl) ?_
          try simp only [Act.put, sqA, sqB, sqC, sqD, sqE, sqF]
          refine wpAnyH_ready (rs := [10]) (by kernel_rfl) (by simp) ?_
          refine AllReadyH.cons (o := _) rfl (fun K hK => ?_) AllReadyH.nil
          rw [if_pos (by rfl)]
          refine wp_store_mid 28 (.tmp 2) (.tmp 68) rfl w.heap.size 0 (seL y).toArray rfl rfl HF.out.2.2.1.there (by kernel_rfl) (all_oneCell_toArray (seL_one y)) ?_
          refine hK.out _ _ ⟨HF.out.1.otherL HF.out.2.2.2.2.1.symm y, HF.out.2.1.otherL HF.out.2.2.2.2.2.1.symm y⟩ (fun hH => ?_)
          clear hK K hH
          try simp only [Act.put, sqA, sqB, sqC, sqD, sqE, sqF]
          refine wpAnyH_ready (rs := [11]) (by kernel_rfl) (by simp) ?_
          refine AllReadyH.cons (o := _) rfl (fun K hK => ?_) AllReadyH.nil
          rw [if_pos (by rfl)]
          refine wp_store_mid 28 (.tmp 5) (.tmp 69) rfl bt 0 (seL y).toArray rfl rfl (HF.out.2.2.2.1.otherL HNE.out.1.symm y).there (by kernel_rfl) (all_oneCell_toArray (seL_one y)) ?_
          refine hK.out _ _ ⟨(HF.out.1.otherL HF.out.2.2.2.2.1.symm y).otherL HF.out.2.2.2.2.2.2.1.symm y, (HF.out.2.1.otherL HF.out.2.2.2.2.2.1.symm y).otherL HF.out.2.2.2.2.2.2.2.1.symm y⟩ (fun hH => ?_)
          clear hK K hH
          have hs2 : S4 ((V0.setCells w.heap.size 0 (seL y).toArray.toList).setCells bt 0 (seL y).toArray.toList) ba 0 y ∧ S4 ((V0.setCells w.heap.size 0 (seL y).toArray.toList).setCells bt 0 (seL y).toArray.toList) bb 0 y := ⟨(HF.out.1.otherL HF.out.2.2.2.2.1.symm y).otherL HF.out.2.2.2.2.2.2.1.symm y, (HF.out.2.1.otherL HF.out.2.2.2.2.2.1.symm y).otherL HF.out.2.2.2.2.2.2.2.1.symm y⟩
          try simp only [Act.put, sqA, sqB, sqC, sqD, sqE, sqF]
          refine tk 12 hs2 rfl (by kernel_rfl) (fun _ _ _ h => h) (fun V hV => by go_simp; try with_reducible rfl) ?_
          try simp only [Act.put, sqA, sqB, sqC, sqD, sqE, sqF]
          refine wpAnyH_done (by kernel_rfl) ?_ _
          obtain ⟨V9, hV9, HG⟩ := two_set (y := y) HF.out.2.2.1 HF.out.2.2.2.1 HNE.out.1 HF.out.2.2.2.2.2.2.2.2.1 (Nat.le_refl _) HNE.out.2.1 HF.out.2.2.2.2.2.2.2.2.2.1 HF.out.2.2.2.2.2.2.2.2.2.2 (seL y).toArray.toList rfl
          rw [← hV9]
          clear hV9 hs0 hs2 HF HYA HK1 HK2 H1 H2
          obtain ⟨sc0, sc1, sc2, sc3, sf0, sf1, sf2, sf3⟩ := HG.out.1
          go_wp2_with fail
          refine (hello_any y _).mono ?_
          rintro e3 w4 ⟨rfl, b4⟩
          clear sc0 sc1 sc2 sc3 sf0 sf1 sf2 sf3
          have HB4 : Hid (Below V9.heap.size V9 w4) := Lib.hid b4
          clear b4
          obtain ⟨tc0, tc1, tc2, tc3, tf0, tf1, tf2, tf3⟩ := HG.out.2.1.below HB4.out HG.out.2.2.2.1
          go_wp2_with fail
          refine (rHello_any y _).mono ?_
          rintro e4 w5 ⟨rfl, b5⟩
          clear tc0 tc1 tc2 tc3 tf0 tf1 tf2 tf3
          have HB5 : Hid (Below V9.heap.size V9 w5) := Lib.hid (gNx HB4.out b5)
          clear b5
          obtain ⟨sc0, sc1, sc2, sc3, sf0, sf1, sf2, sf3⟩ := HG.out.1.below HB5.out HG.out.2.2.2.2
          obtain ⟨tc0, tc1, tc2, tc3, tf0, tf1, tf2, tf3⟩ := HG.out.2.1.below HB5.out HG.out.2.2.2.1
          have en1 : (y.m != y.m) = false := by simp
          have en2 : (y.p != y.p) = false := by simp
          go_wp2_with fail
          refine (rSame_any y _).mono ?_
          rintro e5 w6 ⟨rfl, b6⟩
          have HB6 : Hid (Below V9.heap.size V9 w6) := Lib.hid (gNx HB5.out b6)
          clear b6
          go_wp2_with fail
          exact HNX.out y w6 HO.out (Nat.lt_of_lt_of_le HG.out.2.2.2.1 HB6.out.size) (HG.out.2.2.1.trans (HB6.out.mono (Nat.le_of_lt HG.out.2.2.2.2))) (HG.out.1.below HB6.out HG.out.2.2.2.2) (HG.out.2.1.below HB6.out HG.out.2.2.2.1)
        by_cases h1 : kd = 1
        · subst h1
          clear h0
          have H1 := Lib.hid (fun w => accept_any x n e w)
          have H2 := Lib.hid (fun w => rAccept_any x n e w)
          have HO := Lib.hid (hox.accept n e)
          generalize acceptF x n e = r at *
          obtain ⟨y, f, g⟩ := r
          simp only at H1 H2 HO
          have ef : (f == f) = true := by simp
          have eg : (g == g) = true := by simp
          clear hn he hlf hox
          go_wp2_with fail
          refine (H1.out _).mono ?_
          rintro e1 w2 ⟨rfl, b2⟩
          have hz2 : wo.heap.size < w2.heap.size := by have := b2.size; simp only [World.size_alloc] at this; omega
          have k1 : Below wo.heap.size wo w2 := gNx (gAl wo _) b2
          have HK1 := Lib.hid k1
          have g1 : w2.cell? ⟨wo.heap.size, 1, none⟩ = some (.int .u64 n) := (b2.cell (p := ⟨wo.heap.size, 1, none⟩) (by simp)).trans (by simp [go_sem])
          have g2 : w2.cell? ⟨wo.heap.size, 2, none⟩ = some (.int .u64 e) := (b2.cell (p := ⟨wo.heap.size, 2, none⟩) (by simp)).trans (by simp [go_sem])
          have g3 : w2.cell? ⟨wo.heap.size, 3, none⟩ = some (.int .i64 life) := (b2.cell (p := ⟨wo.heap.size, 3, none⟩) (by simp)).trans (by simp [go_sem])
          have hb2 : bt < w2.heap.size := Nat.lt_trans HNE.out.2.2.2 hz2
          clear b2 d0 d1 d2 d3 c0 c1 c2 c3 f0 f1 f2 f3 hbl
          obtain ⟨tc0, tc1, tc2, tc3, tf0, tf1, tf2, tf3⟩ := (HS.out w2 k1).2
          clear k1
          go_wp2_with fail
          refine (H2.out _).mono ?_
          rintro e2 w3 ⟨rfl, b3⟩
          have hz3 : w2.heap.size < w3.heap.size := by have := b3.size; simp only [World.size_alloc] at this; omega
          have k2 : Below wo.heap.size wo w3 := gNx HK1.out (gNx (gAl w2 _) b3)
          have HK2 := Lib.hid k2
          have ya := (S4.first w2 y).below b3 (by simp)
          have HYA := Lib.hid ya
          have hb3 : w.heap.size < w3.heap.size := by have := HNE.out; omega
          have hb4 : bt < w3.heap.size := by have := HNE.out; omega
          clear b3 tc0 tc1 tc2 tc3 tf0 tf1 tf2 tf3 g1 g2 g3
          obtain ⟨sc0, sc1, sc2, sc3, sf0, sf1, sf2, sf3⟩ := (HS.out w3 k2).1
          obtain ⟨tc0, tc1, tc2, tc3, tf0, tf1, tf2, tf3⟩ := (HS.out w3 k2).2
          obtain ⟨yc0, yc1, yc2, yc3, yf0, yf1, yf2, yf3⟩ := ya
          have hne : w.heap.size ≠ bt := HNE.out.1
          clear k2
          clear sc0 sc1 sc2 sc3 sf0 sf1 sf2 sf3 tc0 tc1 tc2 tc3 tf0 tf1 tf2 tf3 yc0 yc1 yc2 yc3 yf0 yf1 yf2 yf3
          have HF : Hid (S4 (w3.alloc (seO y)).drew w2.heap.size 0 y ∧ S4 (w3.alloc (seO y)).drew w3.heap.size 0 y ∧ S4 (w3.alloc (seO y)).drew w.heap.size 0 x ∧ S4 (w3.alloc (seO y)).drew bt 0 x ∧ w.heap.size ≠ w2.heap.size ∧ w.heap.size ≠ w3.heap.size ∧ bt ≠ w2.heap.size ∧ bt ≠ w3.heap.size ∧ Below w.heap.size w (w3.alloc (seO y)).drew ∧ bt < (w3.alloc (seO y)).drew.heap.size ∧ w.heap.size < (w3.alloc (seO y)).drew.heap.size) := Lib.hid ⟨(HYA.out.below (gAl w3 _) hz3).drew, (S4.first w3 y).drew, (HS.out _ (gNx HK2.out (gAl w3 _))).1, (HS.out _ (gNx HK2.out (gAl w3 _))).2, by have := HNE.out; omega, by have := HNE.out; omega, by have := HNE.out; omega, by have := HNE.out; omega, by have := gNx HBW.out (gNx HK2.out (gAl w3 (seO y))); exact this.drew, by simp; omega, by simp; omega⟩
          go_upto_region 17 with (fail)
          generalize w2.heap.size = ba at *
          generalize w3.heap.size = bb at *
          refine wp_region_held_drew (S := fun V => S4 V ba 0 y ∧ S4 V bb 0 y) (by kernel_rfl) ⟨HF.out.1, HF.out.2.1⟩ (fun hH => ?_)
          clear hH
          generalize (w3.alloc (Obj.cells #[.int .u64 y.m, .int .u64 y.p, .bool y.u, .int .i64 y.s] 28)).drew = V0 at *
          have hs0 : S4 V0 ba 0 y ∧ S4 V0 bb 0 y := ⟨HF.out.1, HF.out.2.1⟩
          refine tk 0 hs0 rfl (by kernel_rfl) (fun _ _ _ h => h) (tk_load (S := fun V => S4 V ba 0 y ∧ S4 V bb 0 y) 28 (.tmp 15) rfl ba 0 rfl (seL y) _ (fun V hV => hV.1.range) Try.underlying28 (by rfl) (by kernel_rfl)) ?_
          try simp only [Act.put, sqA, sqB, sqC, sqD, sqE, sqF]
          refine tk 1 hs0 rfl (by kernel_rfl) (fun _ _ _ h => h) (tk_load (S := fun V => S4 V ba 0 y ∧ S4 V bb 0 y) 28 (.tmp 18) rfl bb 0 rfl (seL y) _ (fun V hV => hV.2.range) Try.underlying28 (by rfl) (by kernel_rfl)) ?_
          try simp only [Act.put, sqA, sqB, sqC, sqD, sqE, sqF]
          refine tk 2 hs0 rfl (by kernel_rfl) (fun _ _ _ h => h) (fun V hV => by go_simp; try with_reducible rfl) ?_
          try simp only [Act.put, sqA, sqB, sqC, sqD, sqE, sqF]
          refine tk 3 hs0 rfl (by kernel_rfl) (fun _ _ _ h => h) (fun V hV => by go_simp; try with_reducible rfl) ?_
          try simp only [Act.put, sqA, sqB, sqC, sqD, sqE, sqF]
          refine tk 4 hs0 rfl (by kernel_rfl) (fun _ _ _ h => h) (fun V hV => by go_simp; try with_reducible rfl) ?_
          try simp only [Act.put, sqA, sqB, sqC, sqD, sqE, sqF]
          refine tk 5 hs0 rfl (by kernel_rfl) (fun _ _ _ h => h) (fun V hV => by go_simp; try with_reducible rfl) ?_
          try simp only [Act.put, sqA, sqB, sqC, sqD, sqE, sqF]
          refine tk 6 hs0 rfl (by kernel_rfl) (fun _ _ _ h => h) (fun V hV => by go_simp; try with_reducible rfl) ?_
          try simp only [Act.put, sqA, sqB, sqC, sqD, sqE, sqF]
          refine tk 7 hs0 rfl (by kernel_rfl) (fun _ _ _ h => h) (fun V hV => by go_simp; try with_reducible rfl) ?_
          try simp only [Act.put, sqA, sqB, sqC, sqD, sqE, sqF]
          refine tk 8 hs0 rfl (by kernel_rfl) (fun _ _ _ h => h) (fun V hV => by go_simp; try with_reducible rfl) ?_
          try simp only [Act.put, sqA, sqB, sqC, sqD, sqE, sqF]
          refine tk 9 hs0 rfl (by kernel_rfl) (fun _ _ _ h => h) (fun V hV => by go_simp; try with_reducible rfl) ?_
          try simp only [Act.put, sqA, sqB, sqC, sqD, sqE, sqF]
          refine wpAnyH_ready (rs := [10]) (by kernel_rfl) (by simp) ?_
          refine AllReadyH.cons (o := _) rfl (fun K hK => ?_) AllReadyH.nil
          rw [if_pos (by rfl)]
          refine wp_store_mid 28 (.tmp 2) (.tmp 100) rfl w.heap.size 0 (seL y).toArray rfl rfl HF.out.2.2.1.there (by kernel_rfl) (all_oneCell_toArray (seL_one y)) ?_
          refine hK.out _ _ ⟨HF.out.1.otherL HF.out.2.2.2.2.1.symm y, HF.out.2.1.otherL HF.out.2.2.2.2.2.1.symm y⟩ (fun hH => ?_)
          clear hK K hH
          try simp only [Act.put, sqA, sqB, sqC, sqD, sqE, sqF]
          refine wpAnyH_ready (rs := [11]) (by kernel_rfl) (by simp) ?_
          refine AllReadyH.cons (o := _) rfl (fun K hK => ?_) AllReadyH.nil
          rw [if_pos (by rfl)]
          refine wp_store_mid 28 (.tmp 5) (.tmp 101) rfl bt 0 (seL y).toArray rfl rfl (HF.out.2.2.2.1.otherL HNE.out.1.symm y).there (by kernel_rfl) (all_oneCell_toArray (seL_one y)) ?_
          refine hK.out _ _ ⟨(HF.out.1.otherL HF.out.2.2.2.2.1.symm y).otherL HF.out.2.2.2.2.2.2.1.symm y, (HF.out.2.1.otherL HF.out.2.2.2.2.2.1.symm y).otherL HF.out.2.2.2.2.2.2.2.1.symm y⟩ (fun hH => ?_)
          clear hK K hH
          have hs2 : S4 ((V0.setCells w.heap.size 0 (seL y).toArray.toList).setCells bt 0 (seL y).toArray.toList) ba 0 y ∧ S4 ((V0.setCells w.heap.size 0 (seL y).toArray.toList).setCells bt 0 (seL y).toArray.toList) bb 0 y := ⟨(HF.out.1.otherL HF.out.2.2.2.2.1.symm y).otherL HF.out.2.2.2.2.2.2.1.symm y, (HF.out.2.1.otherL HF.out.2.2.2.2.2.1.symm y).otherL HF.out.2.2.2.2.2.2.2.1.symm y⟩
          try simp only [Act.put, sqA, sqB, sqC, sqD, sqE, sqF]
          refine tk 12 hs2 rfl (by kernel_rfl) (fun _ _ _ h => h) (fun V hV => by go_simp; try with_reducible rfl) ?_
          try simp only [Act.put, sqA, sqB, sqC, sqD, sqE, sqF]
          refine wpAnyH_done (by kernel_rfl) ?_ _
          obtain ⟨V9, hV9, HG⟩ := two_set (y := y) HF.out.2.2.1 HF.out.2.2.2.1 HNE.out.1 HF.out.2.2.2.2.2.2.2.2.1 (Nat.le_refl _) HNE.out.2.1 HF.out.2.2.2.2.2.2.2.2.2.1 HF.out.2.2.2.2.2.2.2.2.2.2 (seL y).toArray.toList rfl
          rw [← hV9]
          clear hV9 hs0 hs2 HF HYA HK1 HK2 H1 H2
          obtain ⟨sc0, sc1, sc2, sc3, sf0, sf1, sf2, sf3⟩ := HG.out.1
          go_wp2_with fail
          refine (hello_any y _).mono ?_
          rintro e3 w4 ⟨rfl, b4⟩
          clear sc0 sc1 sc2 sc3 sf0 sf1 sf2 sf3
          have HB4 : Hid (Below V9.heap.size V9 w4) := Lib.hid b4
          clear b4
          obtain ⟨tc0, tc1, tc2, tc3, tf0, tf1, tf2, tf3⟩ := HG.out.2.1.below HB4.out HG.out.2.2.2.1
          go_wp2_with fail
          refine (rHello_any y _).mono ?_
          rintro e4 w5 ⟨rfl, b5⟩
          clear tc0 tc1 tc2 tc3 tf0 tf1 tf2 tf3
          have HB5 : Hid (Below V9.heap.size V9 w5) := Lib.hid (gNx HB4.out b5)
          clear b5
          obtain ⟨sc0, sc1, sc2, sc3, sf0, sf1, sf2, sf3⟩ := HG.out.1.below HB5.out HG.out.2.2.2.2
          obtain ⟨tc0, tc1, tc2, tc3, tf0, tf1, tf2, tf3⟩ := HG.out.2.1.below HB5.out HG.out.2.2.2.1
          have en1 : (y.m != y.m) = false := by simp
          have en2 : (y.p != y.p) = false := by simp
          go_wp2_with fail
          refine (rSame_any y _).mono ?_
          rintro e5 w6 ⟨rfl, b6⟩
          have HB6 : Hid (Below V9.heap.size V9 w6) := Lib.hid (gNx HB5.out b6)
          clear b6
          go_wp2_with fail
          exact HNX.out y w6 HO.out (Nat.lt_of_lt_of_le HG.out.2.2.2.1 HB6.out.size) (HG.out.2.2.1.trans (HB6.out.mono (Nat.le_of_lt HG.out.2.2.2.2))) (HG.out.1.below HB6.out HG.out.2.2.2.2) (HG.out.2.1.below HB6.out HG.out.2.2.2.1)
        by_cases h2 : kd = 2
        · subst h2
          clear h0 h1
          have H1 := Lib.hid (fun w => tick_any x hox life w)
          have H2 := Lib.hid (fun w => rTick_any x hox life w)
          have HO := Lib.hid (hox.tick life)
          generalize tickF x life = r at *
          obtain ⟨y, f⟩ := r
          simp only at H1 H2 HO
          have ef : (f == f) = true := by simp
          clear hn he hlf hox
          go_wp2_with fail
          refine (H1.out _).mono ?_
          rintro e1 w2 ⟨rfl, b2⟩
          have hz2 : wo.heap.size < w2.heap.size := by have := b2.size; simp only [World.size_alloc] at this; omega
          have k1 : Below wo.heap.size wo w2 := gNx (gAl wo _) b2
          have HK1 := Lib.hid k1
          have g1 : w2.cell? ⟨wo.heap.size, 1, none⟩ = some (.int .u64 n) := (b2.cell (p := ⟨wo.heap.size, 1, none⟩) (by simp)).trans (by simp [go_sem])
          have g2 : w2.cell? ⟨wo.heap.size, 2, none⟩ = some (.int .u64 e) := (b2.cell (p := ⟨wo.heap.size, 2, none⟩) (by simp)).trans (by simp [go_sem])
          have g3 : w2.cell? ⟨wo.heap.size, 3, none⟩ = some (.int .i64 life) := (b2.cell (p := ⟨wo.heap.size, 3, none⟩) (by simp)).trans (by simp [go_sem])
          have hb2 : bt < w2.heap.size := Nat.lt_trans HNE.out.2.2.2 hz2
          clear b2 d0 d1 d2 d3 c0 c1 c2 c3 f0 f1 f2 f3 hbl
          obtain ⟨tc0, tc1, tc2, tc3, tf0, tf1, tf2, tf3⟩ := (HS.out w2 k1).2
          clear k1
          go_wp2_with fail
          refine (H2.out _).mono ?_
          rintro e2 w3 ⟨rfl, b3⟩
          have hz3 : w2.heap.size < w3.heap.size := by have := b3.size; simp only [World.size_alloc] at this; omega
          have k2 : Below wo.heap.size wo w3 := gNx HK1.out (gNx (gAl w2 _) b3)
          have HK2 := Lib.hid k2
          have ya := (S4.first w2 y).below b3 (by simp)
          have HYA := Lib.hid ya
          have hb3 : w.heap.size < w3.heap.size := by have := HNE.out; omega
          have hb4 : bt < w3.heap.size := by have := HNE.out; omega
          clear b3 tc0 tc1 tc2 tc3 tf0 tf1 tf2 tf3 g1 g2 g3
          obtain ⟨sc0, sc1, sc2, sc3, sf0, sf1, sf2, sf3⟩ := (HS.out w3 k2).1
          obtain ⟨tc0, tc1, tc2, tc3, tf0, tf1, tf2, tf3⟩ := (HS.out w3 k2).2
          obtain ⟨yc0, yc1, yc2, yc3, yf0, yf1, yf2, yf3⟩ := ya
          have hne : w.heap.size ≠ bt := HNE.out.1
          clear k2
          clear sc0 sc1 sc2 sc3 sf0 sf1 sf2 sf3 tc0 tc1 tc2 tc3 tf0 tf1 tf2 tf3 yc0 yc1 yc2 yc3 yf0 yf1 yf2 yf3
          have HF : Hid (S4 (w3.alloc (seO y)).drew w2.heap.size 0 y ∧ S4 (w3.alloc (seO y)).drew w3.heap.size 0 y ∧ S4 (w3.alloc (seO y)).drew w.heap.size 0 x ∧ S4 (w3.alloc (seO y)).drew bt 0 x ∧ w.heap.size ≠ w2.heap.size ∧ w.heap.size ≠ w3.heap.size ∧ bt ≠ w2.heap.size ∧ bt ≠ w3.heap.size ∧ Below w.heap.size w (w3.alloc (seO y)).drew ∧ bt < (w3.alloc (seO y)).drew.heap.size ∧ w.heap.size < (w3.alloc (seO y)).drew.heap.size) := Lib.hid ⟨(HYA.out.below (gAl w3 _) hz3).drew, (S4.first w3 y).drew, (HS.out _ (gNx HK2.out (gAl w3 _))).1, (HS.out _ (gNx HK2.out (gAl w3 _))).2, by have := HNE.out; omega, by have := HNE.out; omega, by have := HNE.out; omega, by have := HNE.out; omega, by have := gNx HBW.out (gNx HK2.out (gAl w3 (seO y))); exact this.drew, by simp; omega, by simp; omega⟩
          go_upto_region 21 with (fail)
          generalize w2.heap.size = ba at *
          generalize w3.heap.size = bb at *
          refine wp_region_held_drew (S := fun V => S4 V ba 0 y ∧ S4 V bb 0 y) (by kernel_rfl) ⟨HF.out.1, HF.out.2.1⟩ (fun hH => ?_)
          clear hH
          generalize (w3.alloc (Obj.cells #[.int .u64 y.m, .int .u64 y.p, .bool y.u, .int .i64 y.s] 28)).drew = V0 at *
          have hs0 : S4 V0 ba 0 y ∧ S4 V0 bb 0 y := ⟨HF.out.1, HF.out.2.1⟩
          refine tk 0 hs0 rfl (by kernel_rfl) (fun _ _ _ h => h) (tk_load (S := fun V => S4 V ba 0 y ∧ S4 V bb 0 y) 28 (.tmp 21) rfl ba 0 rfl (seL y) _ (fun V hV => hV.1.range) Try.underlying28 (by rfl) (by kernel_rfl)) ?_
          try simp only [Act.put, sqA, sqB, sqC, sqD, sqE, sqF]
          refine tk 1 hs0 rfl (by kernel_rfl) (fun _ _ _ h => h) (tk_load (S := fun V => S4 V ba 0 y ∧ S4 V bb 0 y) 28 (.tmp 23) rfl bb 0 rfl (seL y) _ (fun V hV => hV.2.range) Try.underlying28 (by rfl) (by kernel_rfl)) ?_
          try simp only [Act.put, sqA, sqB, sqC, sqD, sqE, sqF]
          refine tk 2 hs0 rfl (by kernel_rfl) (fun _ _ _ h => h) (fun V hV => by go_simp; try with_reducible rfl) ?_
          try simp only [Act.put, sqA, sqB, sqC, sqD, sqE, sqF]
          refine tk 3 hs0 rfl (by kernel_rfl) (fun _ _ _ h => h) (fun V hV => by go_simp; try with_reducible rfl) ?_
          try simp only [Act.put, sqA, sqB, sqC, sqD, sqE, sqF]
          refine tk 4 hs0 rfl (by kernel_rfl) (fun _ _ _ h => h) (fun V hV => by go_simp; try with_reducible rfl) ?_
          try simp only [Act.put, sqA, sqB, sqC, sqD, sqE, sqF]
          refine wpAnyH_ready (rs := [5]) (by kernel_rfl) (by simp) ?_
          refine AllReadyH.cons (o := _) rfl (fun K hK => ?_) AllReadyH.nil
          rw [if_pos (by rfl)]
          refine wp_store_mid 28 (.tmp 2) (.tmp 126) rfl w.heap.size 0 (seL y).toArray rfl rfl HF.out.2.2.1.there (by kernel_rfl) (all_oneCell_toArray (seL_one y)) ?_
          refine hK.out _ _ ⟨HF.out.1.otherL HF.out.2.2.2.2.1.symm y, HF.out.2.1.otherL HF.out.2.2.2.2.2.1.symm y⟩ (fun hH => ?_)
          clear hK K hH
          try simp only [Act.put, sqA, sqB, sqC, sqD, sqE, sqF]
          refine wpAnyH_ready (rs := [6]) (by kernel_rfl) (by simp) ?_
          refine AllReadyH.cons (o := _) rfl (fun K hK => ?_) AllReadyH.nil
          rw [if_pos (by rfl)]
          refine wp_store_mid 28 (.tmp 5) (.tmp 127) rfl bt 0 (seL y).toArray rfl rfl (HF.out.2.2.2.1.otherL HNE.out.1.symm y).there (by kernel_rfl) (all_oneCell_toArray (seL_one y)) ?_
          refine hK.out _ _ ⟨(HF.out.1.otherL HF.out.2.2.2.2.1.symm y).otherL HF.out.2.2.2.2.2.2.1.symm y, (HF.out.2.1.otherL HF.out.2.2.2.2.2.1.symm y).otherL HF.out.2.2.2.2.2.2.2.1.symm y⟩ (fun hH => ?_)
          clear hK K hH
          have hs2 : S4 ((V0.setCells w.heap.size 0 (seL y).toArray.toList).setCells bt 0 (seL y).toArray.toList) ba 0 y ∧ S4 ((V0.setCells w.heap.size 0 (seL y).toArray.toList).setCells bt 0 (seL y).toArray.toList) bb 0 y := ⟨(HF.out.1.otherL HF.out.2.2.2.2.1.symm y).otherL HF.out.2.2.2.2.2.2.1.symm y, (HF.out.2.1.otherL HF.out.2.2.2.2.2.1.symm y).otherL HF.out.2.2.2.2.2.2.2.1.symm y⟩
          try simp only [Act.put, sqA, sqB, sqC, sqD, sqE, sqF]
          refine tk 7 hs2 rfl (by kernel_rfl) (fun _ _ _ h => h) (fun V hV => by go_simp; try with_reducible rfl) ?_
          try simp only [Act.put, sqA, sqB, sqC, sqD, sqE, sqF]
          refine wpAnyH_done (by kernel_rfl) ?_ _
          obtain ⟨V9, hV9, HG⟩ := two_set (y := y) HF.out.2.2.1 HF.out.2.2.2.1 HNE.out.1 HF.out.2.2.2.2.2.2.2.2.1 (Nat.le_refl _) HNE.out.2.1 HF.out.2.2.2.2.2.2.2.2.2.1 HF.out.2.2.2.2.2.2.2.2.2.2 (seL y).toArray.toList rfl
          rw [← hV9]
          clear hV9 hs0 hs2 HF HYA HK1 HK2 H1 H2
          obtain ⟨sc0, sc1, sc2, sc3, sf0, sf1, sf2, sf3⟩ := HG.out.1
          go_wp2_with fail
          refine (hello_any y _).mono ?_
          rintro e3 w4 ⟨rfl, b4⟩
          clear sc0 sc1 sc2 sc3 sf0 sf1 sf2 sf3
          have HB4 : Hid (Below V9.heap.size V9 w4) := Lib.hid b4
          clear b4
          obtain ⟨tc0, tc1, tc2, tc3, tf0, tf1, tf2, tf3⟩ := HG.out.2.1.below HB4.out HG.out.2.2.2.1
          go_wp2_with fail
          refine (rHello_any y _).mono ?_
          rintro e4 w5 ⟨rfl, b5⟩
          clear tc0 tc1 tc2 tc3 tf0 tf1 tf2 tf3
          have HB5 : Hid (Below V9.heap.size V9 w5) := Lib.hid (gNx HB4.out b5)
          clear b5
          obtain ⟨sc0, sc1, sc2, sc3, sf0, sf1, sf2, sf3⟩ := HG.out.1.below HB5.out HG.out.2.2.2.2
          obtain ⟨tc0, tc1, tc2, tc3, tf0, tf1, tf2, tf3⟩ := HG.out.2.1.below HB5.out HG.out.2.2.2.1
          have en1 : (y.m != y.m) = false := by simp
          have en2 : (y.p != y.p) = false := by simp
          go_wp2_with fail
          refine (rSame_any y _).mono ?_
          rintro e5 w6 ⟨rfl, b6⟩
          have HB6 : Hid (Below V9.heap.size V9 w6) := Lib.hid (gNx HB5.out b6)
          clear b6
          go_wp2_with fail
          exact HNX.out y w6 HO.out (Nat.lt_of_lt_of_le HG.out.2.2.2.1 HB6.out.size) (HG.out.2.2.1.trans (HB6.out.mono (Nat.le_of_lt HG.out.2.2.2.2))) (HG.out.1.below HB6.out HG.out.2.2.2.2) (HG.out.2.1.below HB6.out HG.out.2.2.2.1)
        by_cases h3 : kd = 3
        · subst h3
          clear h0 h1 h2
          have H1 := Lib.hid (fun w => down_bel x hox w)
          have H2 := Lib.hid (fun w => rDown_bel x hox w)
          have HO := Lib.hid hox.down
          generalize downF x = y at *
          clear hn he hlf hox
          have hbt : bt < wo.heap.size := HNE.out.2.2.2
          have hne := HNE.out.1
          obtain ⟨tc0, tc1, tc2, tc3, tf0, tf1, tf2, tf3⟩ := (HS.out wo (Below.refl _ _)).2
          go_upto_region 23 with (fail)
          clear tc0 tc1 tc2 tc3 tf0 tf1 tf2 tf3 c0 c1 c2 c3 f0 f1 f2 f3 d0 d1 d2 d3
          refine wp_region_held_drew (S := fun _ => True) (by kernel_rfl) trivial (fun hH => ?_)
          clear hH
          have KV : Hid (Below wo.heap.size wo (wo.alloc (.cells #[.int .i64 3, .int .u64 n, .int .u64 e, .int .i64 life] 39)).drew) := Lib.hid (gAl wo _).drew
          generalize (wo.alloc (.cells #[.int .i64 3, .int .u64 n, .int .u64 e, .int .i64 life] 39)).drew = V0 at *
          refine wpAnyH_ready (rs := [0, 2]) (by kernel_rfl) (by simp) ?_
          refine AllReadyH.cons (o := _) rfl (fun K hK => ?_) (AllReadyH.cons (o := _) rfl (fun K hK => ?_) (AllReadyH.nil))
          · rw [if_pos (by rfl)]
            refine wp_load_mid 28 (.tmp 2) rfl w.heap.size 0 rfl (seL x) _ (HS.out _ KV.out).1.range Try.underlying28 (by rfl) (by kernel_rfl) ?_
            refine hK.out _ _ trivial (fun hH => ?_)
            clear hK K hH
            try simp only [Act.put, sqA, sqB, sqC, sqD, sqE, sqF]
            refine wpAnyH_ready (rs := [1, 2]) (by kernel_rfl) (by simp) ?_
            refine AllReadyH.cons (o := _) rfl (fun K hK => ?_) (AllReadyH.cons (o := _) rfl (fun K hK => ?_) (AllReadyH.nil))
            · go_simp
              refine (H1.out _).mono ?_
              rintro e1 VN ⟨rfl, b1⟩
              have KW := Lib.hid (gNx KV.out b1)
              clear b1
              clear KV
              have KV := KW
              clear KW
              try go_wp2_with fail
              refine hK.out _ _ trivial (fun hH => ?_)
              clear hK K hH
              try simp only [Act.put, sqA, sqB, sqC, sqD, sqE, sqF]
              refine wpAnyH_ready (rs := [2]) (by kernel_rfl) (by simp) ?_
              refine AllReadyH.cons (o := _) rfl (fun K hK => ?_) AllReadyH.nil
              rw [if_pos (by rfl)]
              refine wp_load_mid 28 (.tmp 5) rfl bt 0 rfl (seL x) _ (HS.out _ KV.out).2.range Try.underlying28 (by rfl) (by kernel_rfl) ?_
              refine hK.out _ _ trivial (fun hH => ?_)
              clear hK K hH
              try simp only [Act.put, sqA, sqB, sqC, sqD, sqE, sqF]
              refine wpAnyH_ready (rs := [3]) (by kernel_rfl) (by simp) ?_
              refine AllReadyH.cons (o := _) rfl (fun K hK => ?_) AllReadyH.nil
              go_simp
              refine (H2.out _).mono ?_
              rintro e1 VN ⟨rfl, b1⟩
              have KW := Lib.hid (gNx KV.out b1)
              clear b1
              clear KV
              have KV := KW
              clear KW
              try go_wp2_with fail
              refine hK.out _ _ trivial (fun hH => ?_)
              clear hK K hH
              try simp only [Act.put, sqA, sqB, sqC, sqD, sqE, sqF]
              refine wpAnyH_ready (rs := [4]) (by kernel_rfl) (by simp) ?_
              refine AllReadyH.cons (o := _) rfl (fun K hK => ?_) AllReadyH.nil
              rw [if_pos (by rfl)]
              refine wp_store_mid 28 (.tmp 2) (.tmp 134) rfl w.heap.size 0 (seL y).toArray rfl rfl (HS.out _ KV.out).1.there (by kernel_rfl) (all_oneCell_toArray (seL_one y)) ?_
              refine hK.out _ _ trivial (fun hH => ?_)
              clear hK K hH
              try simp only [Act.put, sqA, sqB, sqC, sqD, sqE, sqF]
              refine wpAnyH_ready (rs := [5]) (by kernel_rfl) (by simp) ?_
              refine AllReadyH.cons (o := _) rfl (fun K hK => ?_) AllReadyH.nil
              rw [if_pos (by rfl)]
              refine wp_store_mid 28 (.tmp 5) (.tmp 136) rfl bt 0 (seL y).toArray rfl rfl ((HS.out _ KV.out).2.otherL HNE.out.1.symm y).there (by kernel_rfl) (all_oneCell_toArray (seL_one y)) ?_
              refine hK.out _ _ trivial (fun hH => ?_)
              clear hK K hH
              try simp only [Act.put, sqA, sqB, sqC, sqD, sqE, sqF]
              refine wpAnyH_done (by kernel_rfl) ?_ _
              obtain ⟨V9, hV9, HG⟩ := two_set (y := y) (HS.out _ KV.out).1 (HS.out _ KV.out).2 HNE.out.1 (gNx HBW.out KV.out) (Nat.le_refl _) HNE.out.2.1 (Nat.lt_of_lt_of_le HNE.out.2.2.2 KV.out.size) (Nat.lt_of_lt_of_le HNE.out.2.2.1 KV.out.size) (seL y).toArray.toList rfl
              rw [← hV9]
              clear hV9 KV H1 H2
              obtain ⟨sc0, sc1, sc2, sc3, sf0, sf1, sf2, sf3⟩ := HG.out.1
              go_wp2_with fail
              refine (hello_any y _).mono ?_
              rintro e3 w4 ⟨rfl, b4⟩
              clear sc0 sc1 sc2 sc3 sf0 sf1 sf2 sf3
              have HB4 : Hid (Below V9.heap.size V9 w4) := Lib.hid b4
              clear b4
              obtain ⟨tc0, tc1, tc2, tc3, tf0, tf1, tf2, tf3⟩ := HG.out.2.1.below HB4.out HG.out.2.2.2.1
              go_wp2_with fail
              refine (rHello_any y _).mono ?_
              rintro e4 w5 ⟨rfl, b5⟩
              clear tc0 tc1 tc2 tc3 tf0 tf1 tf2 tf3
              have HB5 : Hid (Below V9.heap.size V9 w5) := Lib.hid (gNx HB4.out b5)
              clear b5
              obtain ⟨sc0, sc1, sc2, sc3, sf0, sf1, sf2, sf3⟩ := HG.out.1.below HB5.out HG.out.2.2.2.2
              obtain ⟨tc0, tc1, tc2, tc3, tf0, tf1, tf2, tf3⟩ := HG.out.2.1.below HB5.out HG.out.2.2.2.1
              have en1 : (y.m != y.m) = false := by simp
              have en2 : (y.p != y.p) = false := by simp
              go_wp2_with fail
              refine (rSame_any y _).mono ?_
              rintro e5 w6 ⟨rfl, b6⟩
              have HB6 : Hid (Below V9.heap.size V9 w6) := Lib.hid (gNx HB5.out b6)
              clear b6
              go_wp2_with fail
              exact HNX.out y w6 HO.out (Nat.lt_of_lt_of_le HG.out.2.2.2.1 HB6.out.size) (HG.out.2.2.1.trans (HB6.out.mono (Nat.le_of_lt HG.out.2.2.2.2))) (HG.out.1.below HB6.out HG.out.2.2.2.2) (HG.out.2.1.below HB6.out HG.out.2.2.2.1)
            · rw [if_pos (by rfl)]
              refine wp_load_mid 28 (.tmp 5) rfl bt 0 rfl (seL x) _ (HS.out _ KV.out).2.range Try.underlying28 (by rfl) (by kernel_rfl) ?_
              refine hK.out _ _ trivial (fun hH => ?_)
              clear hK K hH
              try simp only [Act.put, sqA, sqB, sqC, sqD, sqE, sqF]
              refine wpAnyH_ready (rs := [1]) (by kernel_rfl) (by simp) ?_
              refine AllReadyH.cons (o := _) rfl (fun K hK => ?_) AllReadyH.nil
              go_simp
              refine (H1.out _).mono ?_
              rintro e1 VN ⟨rfl, b1⟩
              have KW := Lib.hid (gNx KV.out b1)
              clear b1
              clear KV
              have KV := KW
              clear KW
              try go_wp2_with fail
              refine hK.out _ _ trivial (fun hH => ?_)
              clear hK K hH
              try simp only [Act.put, sqA, sqB, sqC, sqD, sqE, sqF]
              refine wpAnyH_ready (rs := [3]) (by kernel_rfl) (by simp) ?_
              refine AllReadyH.cons (o := _) rfl (fun K hK => ?_) AllReadyH.nil
              go_simp
              refine (H2.out _).mono ?_
              rintro e1 VN ⟨rfl, b1⟩
              have KW := Lib.hid (gNx KV.out b1)
              clear b1
              clear KV
              have KV := KW
              clear KW
              try go_wp2_with fail
              refine hK.out _ _ trivial (fun hH => ?_)
              clear hK K hH
              try simp only [Act.put, sqA, sqB, sqC, sqD, sqE, sqF]
              refine wpAnyH_ready (rs := [4]) (by kernel_rfl) (by simp) ?_
              refine AllReadyH.cons (o := _) rfl (fun K hK => ?_) AllReadyH.nil
              rw [if_pos (by rfl)]
              refine wp_store_mid 28 (.tmp 2) (.tmp 134) rfl w.heap.size 0 (seL y).toArray rfl rfl (HS.out _ KV.out).1.there (by kernel_rfl) (all_oneCell_toArray (seL_one y)) ?_
              refine hK.out _ _ trivial (fun hH => ?_)
              clear hK K hH
              try simp only [Act.put, sqA, sqB, sqC, sqD, sqE, sqF]
              refine wpAnyH_ready (rs := [5]) (by kernel_rfl) (by simp) ?_
              refine AllReadyH.cons (o := _) rfl (fun K hK => ?_) AllReadyH.nil
              rw [if_pos (by rfl)]
              refine wp_store_mid 28 (.tmp 5) (.tmp 136) rfl bt 0 (seL y).toArray rfl rfl ((HS.out _ KV.out).2.otherL HNE.out.1.symm y).there (by kernel_rfl) (all_oneCell_toArray (seL_one y)) ?_
              refine hK.out _ _ trivial (fun hH => ?_)
              clear hK K hH
              try simp only [Act.put, sqA, sqB, sqC, sqD, sqE, sqF]
              refine wpAnyH_done (by kernel_rfl) ?_ _
              obtain ⟨V9, hV9, HG⟩ := two_set (y := y) (HS.out _ KV.out).1 (HS.out _ KV.out).2 HNE.out.1 (gNx HBW.out KV.out) (Nat.le_refl _) HNE.out.2.1 (Nat.lt_of_lt_of_le HNE.out.2.2.2 KV.out.size) (Nat.lt_of_lt_of_le HNE.out.2.2.1 KV.out.size) (seL y).toArray.toList rfl
              rw [← hV9]
              clear hV9 KV H1 H2
              obtain ⟨sc0, sc1, sc2, sc3, sf0, sf1, sf2, sf3⟩ := HG.out.1
              go_wp2_with fail
              refine (hello_any y _).mono ?_
              rintro e3 w4 ⟨rfl, b4⟩
              clear sc0 sc1 sc2 sc3 sf0 sf1 sf2 sf3
              have HB4 : Hid (Below V9.heap.size V9 w4) := Lib.hid b4
              clear b4
              obtain ⟨tc0, tc1, tc2, tc3, tf0, tf1, tf2, tf3⟩ := HG.out.2.1.below HB4.out HG.out.2.2.2.1
              go_wp2_with fail
              refine (rHello_any y _).mono ?_
              rintro e4 w5 ⟨rfl, b5⟩
              clear tc0 tc1 tc2 tc3 tf0 tf1 tf2 tf3
              have HB5 : Hid (Below V9.heap.size V9 w5) := Lib.hid (gNx HB4.out b5)
              clear b5
              obtain ⟨sc0, sc1, sc2, sc3, sf0, sf1, sf2, sf3⟩ := HG.out.1.below HB5.out HG.out.2.2.2.2
              obtain ⟨tc0, tc1, tc2, tc3, tf0, tf1, tf2, tf3⟩ := HG.out.2.1.below HB5.out HG.out.2.2.2.1
              have en1 : (y.m != y.m) = false := by simp
              have en2 : (y.p != y.p) = false := by simp
              go_wp2_with fail
              refine (rSame_any y _).mono ?_
              rintro e5 w6 ⟨rfl, b6⟩
              have HB6 : Hid (Below V9.heap.size V9 w6) := Lib.hid (gNx HB5.out b6)
              clear b6
              go_wp2_with fail
              exact HNX.out y w6 HO.out (Nat.lt_of_lt_of_le HG.out.2.2.2.1 HB6.out.size) (HG.out.2.2.1.trans (HB6.out.mono (Nat.le_of_lt HG.out.2.2.2.2))) (HG.out.1.below HB6.out HG.out.2.2.2.2) (HG.out.2.1.below HB6.out HG.out.2.2.2.1)
          · rw [if_pos (by rfl)]
            refine wp_load_mid 28 (.tmp 5) rfl bt 0 rfl (seL x) _ (HS.out _ KV.out).2.range Try.underlying28 (by rfl) (by kernel_rfl) ?_
            refine hK.out _ _ trivial (fun hH => ?_)
            clear hK K hH
            try simp only [Act.put, sqA, sqB, sqC, sqD, sqE, sqF]
            refine wpAnyH_ready (rs := [0]) (by kernel_rfl) (by simp) ?_
            refine AllReadyH.cons (o := _) rfl (fun K hK => ?_) AllReadyH.nil
            rw [if_pos (by rfl)]
            refine wp_load_mid 28 (.tmp 2) rfl w.heap.size 0 rfl (seL x) _ (HS.out _ KV.out).1.range Try.underlying28 (by rfl) (by kernel_rfl) ?_
            refine hK.out _ _ trivial (fun hH => ?_)
            clear hK K hH
            try simp only [Act.put, sqA, sqB, sqC, sqD, sqE, sqF]
            refine wpAnyH_ready (rs := [1]) (by kernel_rfl) (by simp) ?_
            refine AllReadyH.cons (o := _) rfl (fun K hK => ?_) AllReadyH.nil
            go_simp
            refine (H1.out _).mono ?_
            rintro e1 VN ⟨rfl, b1⟩
            have KW := Lib.hid (gNx KV.out b1)
            clear b1
            clear KV
            have KV := KW
            clear KW
            try go_wp2_with fail
            refine hK.out _ _ trivial (fun hH => ?_)
            clear hK K hH
            try simp only [Act.put, sqA, sqB, sqC, sqD, sqE, sqF]
            refine wpAnyH_ready (rs := [3]) (by kernel_rfl) (by simp) ?_
            refine AllReadyH.cons (o := _) rfl (fun K hK => ?_) AllReadyH.nil
            go_simp
            refine (H2.out _).mono ?_
            rintro e1 VN ⟨rfl, b1⟩
            have KW := Lib.hid (gNx KV.out b1)
            clear b1
            clear KV
            have KV := KW
            clear KW
            try go_wp2_with fail
            refine hK.out _ _ trivial (fun hH => ?_)
            clear hK K hH
            try simp only [Act.put, sqA, sqB, sqC, sqD, sqE, sqF]
            refine wpAnyH_ready (rs := [4]) (by kernel_rfl) (by simp) ?_
            refine AllReadyH.cons (o := _) rfl (fun K hK => ?_) AllReadyH.nil
            rw [if_pos (by rfl)]
            refine wp_store_mid 28 (.tmp 2) (.tmp 134) rfl w.heap.size 0 (seL y).toArray rfl rfl (HS.out _ KV.out).1.there (by kernel_rfl) (all_oneCell_toArray (seL_one y)) ?_
            refine hK.out _ _ trivial (fun hH => ?_)
            clear hK K hH
            try simp only [Act.put, sqA, sqB, sqC, sqD, sqE, sqF]
            refine wpAnyH_ready (rs := [5]) (by kernel_rfl) (by simp) ?_
            refine AllReadyH.cons (o := _) rfl (fun K hK => ?_) AllReadyH.nil
            rw [if_pos (by rfl)]
            refine wp_store_mid 28 (.tmp 5) (.tmp 136) rfl bt 0 (seL y).toArray rfl rfl ((HS.out _ KV.out).2.otherL HNE.out.1.symm y).there (by kernel_rfl) (all_oneCell_toArray (seL_one y)) ?_
            refine hK.out _ _ trivial (fun hH => ?_)
            clear hK K hH
            try simp only [Act.put, sqA, sqB, sqC, sqD, sqE, sqF]
            refine wpAnyH_done (by kernel_rfl) ?_ _
            obtain ⟨V9, hV9, HG⟩ := two_set (y := y) (HS.out _ KV.out).1 (HS.out _ KV.out).2 HNE.out.1 (gNx HBW.out KV.out) (Nat.le_refl _) HNE.out.2.1 (Nat.lt_of_lt_of_le HNE.out.2.2.2 KV.out.size) (Nat.lt_of_lt_of_le HNE.out.2.2.1 KV.out.size) (seL y).toArray.toList rfl
            rw [← hV9]
            clear hV9 KV H1 H2
            obtain ⟨sc0, sc1, sc2, sc3, sf0, sf1, sf2, sf3⟩ := HG.out.1
            go_wp2_with fail
            refine (hello_any y _).mono ?_
            rintro e3 w4 ⟨rfl, b4⟩
            clear sc0 sc1 sc2 sc3 sf0 sf1 sf2 sf3
            have HB4 : Hid (Below V9.heap.size V9 w4) := Lib.hid b4
            clear b4
            obtain ⟨tc0, tc1, tc2, tc3, tf0, tf1, tf2, tf3⟩ := HG.out.2.1.below HB4.out HG.out.2.2.2.1
            go_wp2_with fail
            refine (rHello_any y _).mono ?_
            rintro e4 w5 ⟨rfl, b5⟩
            clear tc0 tc1 tc2 tc3 tf0 tf1 tf2 tf3
            have HB5 : Hid (Below V9.heap.size V9 w5) := Lib.hid (gNx HB4.out b5)
            clear b5
            obtain ⟨sc0, sc1, sc2, sc3, sf0, sf1, sf2, sf3⟩ := HG.out.1.below HB5.out HG.out.2.2.2.2
            obtain ⟨tc0, tc1, tc2, tc3, tf0, tf1, tf2, tf3⟩ := HG.out.2.1.below HB5.out HG.out.2.2.2.1
            have en1 : (y.m != y.m) = false := by simp
            have en2 : (y.p != y.p) = false := by simp
            go_wp2_with fail
            refine (rSame_any y _).mono ?_
            rintro e5 w6 ⟨rfl, b6⟩
            have HB6 : Hid (Below V9.heap.size V9 w6) := Lib.hid (gNx HB5.out b6)
            clear b6
            go_wp2_with fail
            exact HNX.out y w6 HO.out (Nat.lt_of_lt_of_le HG.out.2.2.2.1 HB6.out.size) (HG.out.2.2.1.trans (HB6.out.mono (Nat.le_of_lt HG.out.2.2.2.2))) (HG.out.1.below HB6.out HG.out.2.2.2.2) (HG.out.2.1.below HB6.out HG.out.2.2.2.1)
        have q0 : (kd == 0) = false := by simpa using h0
        have q1 : (kd == 1) = false := by simpa using h1
        have q2 : (kd == 2) = false := by simpa using h2
        have q3 : (kd == 3) = false := by simpa using h3
        clear h0 h1 h2 h3 hn he hlf
        have HO := Lib.hid hox
        clear hox
        go_upto_region 24 with (fail)
        obtain ⟨V9, hV9⟩ : ∃ V9, V9 = wo.alloc (.cells #[.int .i64 kd, .int .u64 n, .int .u64 e, .int .i64 life] 39) := ⟨_, rfl⟩
        rw [← hV9]
        have HG : Hid (S4 V9 w.heap.size 0 x ∧ S4 V9 bt 0 x ∧ Below w.heap.size w V9 ∧ bt < V9.heap.size ∧ w.heap.size < V9.heap.size) := Lib.hid (by subst hV9; exact ⟨(HS.out _ (gAl _ _)).1, (HS.out _ (gAl _ _)).2, gNx HBW.out (gAl _ _), by have := HNE.out; simp; omega, by have := HNE.out; simp; omega⟩)
        clear hV9 c0 c1 c2 c3 f0 f1 f2 f3 d0 d1 d2 d3
        obtain ⟨sc0, sc1, sc2, sc3, sf0, sf1, sf2, sf3⟩ := HG.out.1
        go_wp2_with fail
        refine (hello_any x _).mono ?_
        rintro e3 w4 ⟨rfl, b4⟩
        clear sc0 sc1 sc2 sc3 sf0 sf1 sf2 sf3
        have HB4 : Hid (Below V9.heap.size V9 w4) := Lib.hid b4
        clear b4
        obtain ⟨tc0, tc1, tc2, tc3, tf0, tf1, tf2, tf3⟩ := HG.out.2.1.below HB4.out HG.out.2.2.2.1
        go_wp2_with fail
        refine (rHello_any x _).mono ?_
        rintro e4 w5 ⟨rfl, b5⟩
        clear tc0 tc1 tc2 tc3 tf0 tf1 tf2 tf3
        have HB5 : Hid (Below V9.heap.size V9 w5) := Lib.hid (gNx HB4.out b5)
        clear b5
        obtain ⟨sc0, sc1, sc2, sc3, sf0, sf1, sf2, sf3⟩ := HG.out.1.below HB5.out HG.out.2.2.2.2
        obtain ⟨tc0, tc1, tc2, tc3, tf0, tf1, tf2, tf3⟩ := HG.out.2.1.below HB5.out HG.out.2.2.2.1
        have en1 : (x.m != x.m) = false := by simp
        have en2 : (x.p != x.p) = false := by simp
        go_wp2_with fail
        refine (rSame_any x _).mono ?_
        rintro e5 w6 ⟨rfl, b6⟩
        have HB6 : Hid (Below V9.heap.size V9 w6) := Lib.hid (gNx HB5.out b6)
        clear b6
        go_wp2_with fail
        exact HNX.out x w6 HO.out (Nat.lt_of_lt_of_le HG.out.2.2.2.1 HB6.out.size) (HG.out.2.2.1.trans (HB6.out.mono (Nat.le_of_lt HG.out.2.2.2.2))) (HG.out.1.below HB6.out HG.out.2.2.2.2) (HG.out.2.1.below HB6.out HG.out.2.2.2.1)
      · have hnk : ¬ (k : Int) < (L.length : Int) := by omega
        clear hlt hk
        go_wp2_with fail
        refine (awake_any _).mono ?_
        rintro e w2 ⟨rfl, b2⟩
        go_wp2_with fail
        go_ret
        exact ⟨rfl, gNx HBW.out b2⟩
end Go.Proofs.Ytippekflhlmgiaa
