/- Sessions: two ends; the law of meeting. -/
import Derived.Test.YtippekflhlmgiaaSwS
namespace Go.Sq
/-- Two ends: neither one has a nonce of the other that is not said yet. -/
structure Pr (x y : Se) : Prop where
  a : Ok x
  b : Ok y
  m : 0 < x.m
  n : 0 < y.m
  p : x.p ≤ y.m
  q : y.p ≤ x.m
theorem Pr.symm {x y : Se} (h : Pr x y) : Pr y x := ⟨h.b, h.a, h.n, h.m, h.q, h.p⟩
theorem hear_is {x : Se} {n : Int} (e : Int) (h0 : 0 < n) (h1 : x.p ≤ n) : (hearF x n e).1.m = x.m ∧ (hearF x n e).1.p = n ∧ (e = x.m → (hearF x n e).1.u = true) := by
  unfold hearF
  rw [if_neg (by omega), if_neg (by omega)]
  split
  · exact ⟨rfl, rfl, fun h => by simp [h]⟩
  · exact ⟨rfl, by simp only; omega, fun h => by simp [h]⟩
theorem Pr.hear {x y : Se} (h : Pr x y) : Pr (hearF x y.m y.p).1 y := by
  obtain ⟨h1, h2, -⟩ := hear_is (x := x) (n := y.m) y.p h.n h.p
  have := h.b.m1
  exact ⟨h.a.hear _ (by have := h.n; omega) this, h.b, by rw [h1]; exact h.m, h.n, by rw [h2]; exact Int.le_refl _, by rw [h1]; exact h.q⟩
theorem next_le {m : Int} : m ≤ nextM m := by unfold nextM; split <;> omega
theorem Pr.down {x y : Se} (h : Pr x y) : Pr (downF x) y := ⟨h.a.down, h.b, Int.lt_of_lt_of_le h.m next_le, h.n, Int.le_of_lt h.n, Int.le_trans h.q next_le⟩
theorem Pr.tick {x y : Se} (h : Pr x y) (l : Int) : Pr (tickF x l).1 y := by
  have hk := h.a.tick l
  unfold tickF at hk ⊢
  split
  · exact h
  · split
    · exact h.down
    · rename_i h1 h2
      rw [if_neg h1, if_neg h2] at hk
      exact ⟨hk, h.b, h.m, h.n, h.p, h.q⟩
/-- What three greetings make. -/
def y0 (x0 x1 : Se) : Se := (hearF x0 x1.m x1.p).1
def y1 (x0 x1 : Se) : Se := (hearF x1 (y0 x0 x1).m (y0 x0 x1).p).1
def z0 (x0 x1 : Se) : Se := (hearF (y0 x0 x1) (y1 x0 x1).m (y1 x0 x1).p).1
theorem three {x0 x1 : Se} (h : Pr x0 x1) : (z0 x0 x1).u = true ∧ (y1 x0 x1).u = true ∧ ((z0 x0 x1).p == (y1 x0 x1).m) = true ∧ ((y1 x0 x1).p == (z0 x0 x1).m) = true := by
  have a := h.hear
  obtain ⟨a1, a2, -⟩ := hear_is (x := x0) (n := x1.m) x1.p h.n h.p
  have b := a.symm.hear
  obtain ⟨b1, b2, b3⟩ := hear_is (x := x1) (n := (y0 x0 x1).m) (y0 x0 x1).p a.m a.q
  obtain ⟨c1, c2, c3⟩ := hear_is (x := y0 x0 x1) (n := (y1 x0 x1).m) (y1 x0 x1).p b.m b.q
  change (y0 x0 x1).m = _ at a1
  change (y0 x0 x1).p = _ at a2
  change (y1 x0 x1).m = _ at b1
  change (y1 x0 x1).p = _ at b2
  change _ → (y1 x0 x1).u = true at b3
  change (z0 x0 x1).m = _ at c1
  change (z0 x0 x1).p = _ at c2
  change _ → (z0 x0 x1).u = true at c3
  exact ⟨c3 b2, b3 a2, by simp [c2], by simp [c1, b2]⟩
def stM (x0 x1 : Se) : Nat → Se × Se
  | 0 => (x0, x1)
  | 1 => (y0 x0 x1, x1)
  | 2 => (y0 x0 x1, y1 x0 x1)
  | _ => (z0 x0 x1, y1 x0 x1)
def stI (m0 m1 : Int) : Nat → Se × Se
  | 0 => (⟨0, 0, false, 0⟩, ⟨0, 0, false, 0⟩)
  | 1 => (⟨m0, 0, false, 0⟩, ⟨0, 0, false, 0⟩)
  | _ => (⟨m0, 0, false, 0⟩, ⟨m1, 0, false, 0⟩)
end Go.Sq
namespace Go.Proofs.Ytippekflhlmgiaa
open Go.RowKit Go.Lib Go.Sq
set_option linter.unusedVariables false
set_option linter.unusedSimpArgs false
set_option maxRecDepth 100000

theorem and_one_two (x : Int) : bits BinOp.and IntKind.i64 x 1 = 0 ∨ bits BinOp.and IntKind.i64 x 1 = 1 := by
  have h : (BitVec.ofInt 64 x &&& BitVec.ofInt 64 1).toNat = (BitVec.ofInt 64 x).toNat % 2 := by
    rw [BitVec.toNat_and]
    exact Nat.and_one_is_mod _
  unfold bits
  show IntKind.i64.wrap (((BitVec.ofInt 64 x &&& BitVec.ofInt 64 1).toNat : Nat) : Int) = 0 ∨ IntKind.i64.wrap (((BitVec.ofInt 64 x &&& BitVec.ofInt 64 1).toNat : Nat) : Int) = 1
  rw [h]
  rcases Nat.mod_two_eq_zero_or_one (BitVec.ofInt 64 x).toNat with e | e <;> rw [e]
  · exact Or.inl (by decide)
  · exact Or.inr (by decide)
theorem S4.beside {w : World} {b o q : Nat} {x : Se} (h : S4 w b o x) (hd : o + 4 ≤ q ∨ q + 4 ≤ o) (v0 v1 v2 v3 : Value) : S4 ((((w.setCell ⟨b, q, none⟩ v0).setCell ⟨b, q + 1, none⟩ v1).setCell ⟨b, q + 2, none⟩ v2).setCell ⟨b, q + 3, none⟩ v3) b o x := by
  obtain ⟨c0, c1, c2, c3, f0, f1, f2, f3⟩ := h
  have e : ∀ j k, j < 4 → k < 4 → o + j ≠ q + k := by omega
  have e00 := e 0 0 (by omega) (by omega)
  have e01 := e 0 1 (by omega) (by omega)
  have e02 := e 0 2 (by omega) (by omega)
  have e03 := e 0 3 (by omega) (by omega)
  have e10 := e 1 0 (by omega) (by omega)
  have e11 := e 1 1 (by omega) (by omega)
  have e12 := e 1 2 (by omega) (by omega)
  have e13 := e 1 3 (by omega) (by omega)
  have e20 := e 2 0 (by omega) (by omega)
  have e21 := e 2 1 (by omega) (by omega)
  have e22 := e 2 2 (by omega) (by omega)
  have e23 := e 2 3 (by omega) (by omega)
  have e30 := e 3 0 (by omega) (by omega)
  have e31 := e 3 1 (by omega) (by omega)
  have e32 := e 3 2 (by omega) (by omega)
  have e33 := e 3 3 (by omega) (by omega)
  simp only [Nat.add_zero] at e00 e01 e02 e03 e10 e20 e30
  exact ⟨by simp [go_sem, c0, *], by simp [go_sem, c1, *], by simp [go_sem, c2, *], by simp [go_sem, c3, *], by simp [go_sem, f0], by simp [go_sem, f1], by simp [go_sem, f2], by simp [go_sem, f3]⟩
/-- Two sessions, one behind the other. -/
def E8 (w : World) (b : Nat) (x y : Se) : Prop := S4 w b 0 x ∧ S4 w b 4 y
theorem E8.below {w w' : World} {b : Nat} {x y : Se} (h : E8 w b x y) {B : Nat} (bel : Below B w w') (hb : b < B) : E8 w' b x y := ⟨h.1.below bel hb, h.2.below bel hb⟩
theorem E8.set0 {w : World} {b : Nat} {x y : Se} (h : E8 w b x y) (z : Se) : E8 ((((w.setCell ⟨b, 0, none⟩ (.int .u64 z.m)).setCell ⟨b, 0 + 1, none⟩ (.int .u64 z.p)).setCell ⟨b, 0 + 2, none⟩ (.bool z.u)).setCell ⟨b, 0 + 3, none⟩ (.int .i64 z.s)) b z y := ⟨h.1.set z, h.2.beside (Or.inr (by omega)) _ _ _ _⟩
theorem E8.set1 {w : World} {b : Nat} {x y : Se} (h : E8 w b x y) (z : Se) : E8 ((((w.setCell ⟨b, 4, none⟩ (.int .u64 z.m)).setCell ⟨b, 4 + 1, none⟩ (.int .u64 z.p)).setCell ⟨b, 4 + 2, none⟩ (.bool z.u)).setCell ⟨b, 4 + 3, none⟩ (.int .i64 z.s)) b x z := ⟨h.1.beside (Or.inl (by omega)) _ _ _ _, h.2.set z⟩
theorem E8.first (w : World) : E8 (w.alloc (.cells #[.int .u64 0, .int .u64 0, .bool false, .int .i64 0, .int .u64 0, .int .u64 0, .bool false, .int .i64 0] 50)) w.heap.size ⟨0, 0, false, 0⟩ ⟨0, 0, false, 0⟩ :=
  ⟨⟨by simp [go_sem], by simp [go_sem], by simp [go_sem], by simp [go_sem], by simp [go_sem], by simp [go_sem], by simp [go_sem], by simp [go_sem]⟩, ⟨by simp [go_sem], by simp [go_sem], by simp [go_sem], by simp [go_sem], by simp [go_sem], by simp [go_sem], by simp [go_sem], by simp [go_sem]⟩⟩
theorem range_n {W W' : World} {b o : Nat} {cs : List Value} (h : W.rangeAt b o cs) (hb : b < W.heap.size) (k : Below W.heap.size W W') : W'.rangeAt b o cs := fun j v hj => (k.cell (p := ⟨b, o + j, none⟩) hb).trans (h j v hj)
theorem range_nil (w : World) (b o : Nat) : w.rangeAt b o [] := fun j v hj => by simp at hj
theorem hear_ex (x : Se) (n e : Int) (y : Se) (hy : (hearF x n e).1 = y) (w : World) : Calls Try.prog 16 #[seV x, .int .u64 n, .int .u64 e] w fun e' w' => ∃ f g, e' = .returned (.tuple #[seV y, .bool f, .bool g]) ∧ Below w.heap.size w w' := by
  subst hy
  exact (hear_any x n e w).mono fun _ _ h => ⟨_, _, h.1, h.2⟩
theorem tick_ex (x : Se) (h : Ok x) (l : Int) (y : Se) (hy : (tickF x l).1 = y) (w : World) : Calls Try.prog 20 #[seV x, .int .i64 l] w fun e' w' => ∃ f, e' = .returned (.tuple #[seV y, .bool f]) ∧ Below w.heap.size w w' := by
  subst hy
  exact (tick_any x h l w).mono fun _ _ h => ⟨_, h.1, h.2⟩
theorem down_ex (x : Se) (h : Ok x) (y : Se) (hy : downF x = y) (w : World) : Calls Try.prog 22 #[seV x] w fun e' w' => e' = .returned (seV y) ∧ Below w.heap.size w w' := by
  subst hy
  exact down_bel x h w
theorem range_set4 {w : World} {b c o q : Nat} {cs : List Value} (h : w.rangeAt c o cs) (hne : c ≠ b) (v0 v1 v2 v3 : Value) : ((((w.setCell ⟨b, q, none⟩ v0).setCell ⟨b, q + 1, none⟩ v1).setCell ⟨b, q + 2, none⟩ v2).setCell ⟨b, q + 3, none⟩ v3).rangeAt c o cs := World.rangeAt_setCells_apart h b q [v0, v1, v2, v3] (Or.inl hne)
theorem e8_put0 {B b cb : Nat} {w V0 : World} {x y : Se} {cs : List Value} (h : E8 V0 b x y) (hb : Below B w V0) (hB : B ≤ b) (hr : V0.rangeAt cb 0 cs) (hne : cb ≠ b) (hl : b < V0.heap.size) (m p : Int) (u : Bool) (s : Int) :
    ∃ V9, V9 = (((V0.setCell ⟨b, 0, none⟩ (.int .u64 m)).setCell ⟨b, 1, none⟩ (.int .u64 p)).setCell ⟨b, 2, none⟩ (.bool u)).setCell ⟨b, 3, none⟩ (.int .i64 s) ∧ Hid (E8 V9 b ⟨m, p, u, s⟩ y ∧ Below B w V9 ∧ V9.rangeAt cb 0 cs ∧ b < V9.heap.size) :=
  ⟨_, rfl, Lib.hid ⟨h.set0 ⟨m, p, u, s⟩, set4B hb b 0 hB _ _ _ _, range_set4 (q := 0) hr hne _ _ _ _, Nat.lt_of_lt_of_le hl (set4B (B := 0) (Below.refl 0 V0) b 0 (Nat.zero_le _) (.int .u64 m) (.int .u64 p) (.bool u) (.int .i64 s)).size⟩⟩
theorem e8_put1 {B b cb : Nat} {w V0 : World} {x y : Se} {cs : List Value} (h : E8 V0 b x y) (hb : Below B w V0) (hB : B ≤ b) (hr : V0.rangeAt cb 0 cs) (hne : cb ≠ b) (hl : b < V0.heap.size) (m p : Int) (u : Bool) (s : Int) :
    ∃ V9, V9 = (((V0.setCell ⟨b, 4, none⟩ (.int .u64 m)).setCell ⟨b, 5, none⟩ (.int .u64 p)).setCell ⟨b, 6, none⟩ (.bool u)).setCell ⟨b, 7, none⟩ (.int .i64 s) ∧ Hid (E8 V9 b x ⟨m, p, u, s⟩ ∧ Below B w V9 ∧ V9.rangeAt cb 0 cs ∧ b < V9.heap.size) :=
  ⟨_, rfl, Lib.hid ⟨h.set1 ⟨m, p, u, s⟩, set4B hb b 4 hB _ _ _ _, range_set4 (q := 4) hr hne _ _ _ _, Nat.lt_of_lt_of_le hl (set4B (B := 0) (Below.refl 0 V0) b 4 (Nat.zero_le _) (.int .u64 m) (.int .u64 p) (.bool u) (.int .i64 s)).size⟩⟩
set_option maxHeartbeats 16000000 in
theorem law_smeets (m0 m1 : Int) (L : List Sp) (a : Option Addr) (c : Nat) (w : World) (h0 : 0 ≤ m0 ∧ m0 ≤ 18446744073709551615) (h1 : 0 ≤ m1 ∧ m1 ≤ 18446744073709551615) (hin : SpsOk w L a) :
    Calls Try.prog 6 #[.agg #[.int .u64 m0, .int .u64 m1], .slice a L.length c] w fun e w' => e = .returned (.bool true) ∧ Below w.heap.size w w' := by
  have HIN := Lib.hid (fun V (hV : Below w.heap.size w V) => hin.rows.keep rfl hV)
  have HL : Hid (L.length * 32 ≤ 140737488351232) := Lib.hid hin.n1
  have HLO : Hid (∀ x ∈ L, SpOk x) := Lib.hid hin.ok
  have HM : Hid ((0 ≤ m0 ∧ m0 ≤ 18446744073709551615) ∧ (0 ≤ m1 ∧ m1 ≤ 18446744073709551615)) := Lib.hid ⟨h0, h1⟩
  clear h0 h1 hin
  go_enter Try.func6, Try.ntmps6
  go_wp2_with fail
  go_loopw [6] (fun ii wr => ∃ (k : Nat), ii = .int .i64 (k : Int) ∧ k ≤ 2 ∧ (0 < k → m0 ≠ 0) ∧ (1 < k → m1 ≠ 0) ∧ w.heap.size + 1 < wr.heap.size ∧ Below w.heap.size w wr ∧ wr.rangeAt w.heap.size 0 [.int .u64 m0, .int .u64 m1] ∧ E8 wr (w.heap.size + 1) (stI m0 m1 k).1 (stI m0 m1 k).2) (fun ii _ => 2 - (RowKit.intOf ii).toNat)
  case atStart => exact ⟨0, rfl, by omega, by omega, by omega, by simp, bel2 _ _ _, range_n (range_box0 w [.int .u64 m0, .int .u64 m1] 48) (by simp) (gAl _ _), (by have h := E8.first (w.alloc (.cells #[.int .u64 m0, .int .u64 m1] 48)); rw [World.size_alloc] at h; exact h)⟩
  case round =>
    obtain ⟨k, rfl, hk, hn0, hn1, hsz, hbw, hra, he8⟩ := hrel
    obtain ⟨wo, hwo⟩ : ∃ wo, wo = wr := ⟨_, rfl⟩
    subst hwo
    have hbl : w.heap.size + 1 < wo.heap.size := hsz
    have hbl0 : w.heap.size < wo.heap.size := by omega
    have HBW := Lib.hid hbw
    have HRA := Lib.hid hra
    have HE8 := Lib.hid he8
    have m0c := hra 0 _ rfl
    have m1c := hra 1 _ rfl
    clear hra hbw hsz
    by_cases h0 : k = 0
    · subst h0
      have HN := Lib.hid (fun w => new_any m0 w)
      by_cases hz : m0 = 0
      · rw [if_pos hz] at HN
        have HZ := Lib.hid hz
        clear hz
        go_wp2_with fail
        refine (HN.out _).mono ?_
        rintro e w2 ⟨rfl, b2⟩
        have hm := HRA.out 0 _ rfl
        have m2 : w2.cell? ⟨w.heap.size, 0, none⟩ = some (.int .u64 m0) := (b2.cell (p := ⟨w.heap.size, 0, none⟩) hbl0).trans hm
        clear hm
        have hm0 : (m0 == 0) = true := by simpa using HZ.out
        have hl2 : w.heap.size < w2.heap.size := Nat.lt_of_lt_of_le hbl0 b2.size
        have HB2 := Lib.hid (gNx HBW.out b2)
        clear b2 m0c m1c
        go_wp2_with fail
        refine (awake_any _).mono ?_
        rintro e w3 ⟨rfl, b3⟩
        go_wp2_with fail
        go_ret
        exact ⟨rfl, gNx HB2.out (gNx (gAl _ _) b3)⟩
      · rw [if_neg hz] at HN
        have HZ := Lib.hid hz
        clear hz
        go_wp2_with fail
        refine (HN.out _).mono ?_
        rintro e w2 ⟨rfl, b2⟩
        have q2 : E8 w2 (w.heap.size + 1) ⟨0, 0, false, 0⟩ ⟨0, 0, false, 0⟩ := HE8.out.below b2 hbl
        have hl2 : w.heap.size + 1 < w2.heap.size := Nat.lt_of_lt_of_le hbl b2.size
        have HQ : Hid (E8 w2 (w.heap.size + 1) ⟨0, 0, false, 0⟩ ⟨0, 0, false, 0⟩ ∧ Below w.heap.size w w2 ∧ w2.rangeAt w.heap.size 0 [.int .u64 m0, .int .u64 m1] ∧ w.heap.size + 1 < w2.heap.size) := Lib.hid ⟨q2, gNx HBW.out b2, range_n HRA.out hbl0 b2, hl2⟩
        obtain ⟨sc0, sc1, sc2, sc3, sf0, sf1, sf2, sf3⟩ := q2.1
        clear b2 m0c m1c q2 HE8 HRA HN
        go_wp2_with fail
        obtain ⟨V9, hV9, HG⟩ := e8_put0 HQ.out.1 HQ.out.2.1 (Nat.le_succ _) HQ.out.2.2.1 (Nat.ne_of_lt (Nat.lt_succ_self _)) HQ.out.2.2.2 m0 0 false 0
        rw [← hV9]
        clear hV9
        exact ⟨⟨1, rfl, by omega, fun _ => HZ.out, fun h => absurd h (by omega), Nat.lt_of_lt_of_le HG.out.2.2.2 (gAl V9 _).size, gNx HG.out.2.1 (gAl V9 _), range_n HG.out.2.2.1 (Nat.lt_trans (Nat.lt_succ_self _) HG.out.2.2.2) (gAl V9 _), HG.out.1.below (gAl V9 _) HG.out.2.2.2⟩, by show 2 - 1 < 2 - 0; omega⟩
    by_cases h1 : k = 1
    · subst h1
      have HN := Lib.hid (fun w => new_any m1 w)
      by_cases hz : m1 = 0
      · rw [if_pos hz] at HN
        have HZ := Lib.hid hz
        clear hz
        go_wp2_with fail
        refine (HN.out _).mono ?_
        rintro e w2 ⟨rfl, b2⟩
        have hm := HRA.out 1 _ rfl
        have m2 : w2.cell? ⟨w.heap.size, 1, none⟩ = some (.int .u64 m1) := (b2.cell (p := ⟨w.heap.size, 1, none⟩) hbl0).trans hm
        clear hm
        have hm0 : (m1 == 0) = true := by simpa using HZ.out
        have hl2 : w.heap.size < w2.heap.size := Nat.lt_of_lt_of_le hbl0 b2.size
        have HB2 := Lib.hid (gNx HBW.out b2)
        clear b2 m0c m1c
        go_wp2_with fail
        refine (awake_any _).mono ?_
        rintro e w3 ⟨rfl, b3⟩
        go_wp2_with fail
        go_ret
        exact ⟨rfl, gNx HB2.out (gNx (gAl _ _) b3)⟩
      · rw [if_neg hz] at HN
        have HZ := Lib.hid hz
        clear hz
        go_wp2_with fail
        refine (HN.out _).mono ?_
        rintro e w2 ⟨rfl, b2⟩
        have q2 : E8 w2 (w.heap.size + 1) ⟨m0, 0, false, 0⟩ ⟨0, 0, false, 0⟩ := HE8.out.below b2 hbl
        have hl2 : w.heap.size + 1 < w2.heap.size := Nat.lt_of_lt_of_le hbl b2.size
        have HQ : Hid (E8 w2 (w.heap.size + 1) ⟨m0, 0, false, 0⟩ ⟨0, 0, false, 0⟩ ∧ Below w.heap.size w w2 ∧ w2.rangeAt w.heap.size 0 [.int .u64 m0, .int .u64 m1] ∧ w.heap.size + 1 < w2.heap.size) := Lib.hid ⟨q2, gNx HBW.out b2, range_n HRA.out hbl0 b2, hl2⟩
        obtain ⟨sc0, sc1, sc2, sc3, sf0, sf1, sf2, sf3⟩ := q2.2
        clear b2 m0c m1c q2 HE8 HRA HN
        go_wp2_with fail
        obtain ⟨V9, hV9, HG⟩ := e8_put1 HQ.out.1 HQ.out.2.1 (Nat.le_succ _) HQ.out.2.2.1 (Nat.ne_of_lt (Nat.lt_succ_self _)) HQ.out.2.2.2 m1 0 false 0
        rw [← hV9]
        clear hV9
        exact ⟨⟨2, rfl, by omega, fun _ => hn0 (by omega), fun h => HZ.out, Nat.lt_of_lt_of_le HG.out.2.2.2 (gAl V9 _).size, gNx HG.out.2.1 (gAl V9 _), range_n HG.out.2.2.1 (Nat.lt_trans (Nat.lt_succ_self _) HG.out.2.2.2) (gAl V9 _), HG.out.1.below (gAl V9 _) HG.out.2.2.2⟩, by show 2 - 2 < 2 - 1; omega⟩
    have hk2 : k = 2 := by omega
    have hk3 : ¬ (k : Int) < 2 := by omega
    have HK2 := Lib.hid hk2
    clear h0 h1 m0c m1c hbl0 HRA hk2
    have HPR : Hid (Pr ⟨m0, 0, false, 0⟩ ⟨m1, 0, false, 0⟩) := Lib.hid ⟨Ok.new HM.out.1.1 HM.out.1.2, Ok.new HM.out.2.1 HM.out.2.2, by have := hn0 (by have := HK2.out; omega); have := HM.out.1.1; simp only; omega, by have := hn1 (by have := HK2.out; omega); have := HM.out.2.1; simp only; omega, HM.out.2.1, HM.out.1.1⟩
    have HE : Hid (E8 wo (w.heap.size + 1) ⟨m0, 0, false, 0⟩ ⟨m1, 0, false, 0⟩) := Lib.hid (by have h := HE8.out; rw [HK2.out] at h; exact h)
    clear HE8 he8 hn0 hn1 hk
    have HEB : Hid (w.heap.size ≤ w.heap.size + 1) := Lib.hid (Nat.le_succ _)
    generalize w.heap.size + 1 = eb at *
    go_wp2_with fail
    go_loopw [9] (fun ii wr => ∃ (j : Nat) (x0 x1 : Se), ii = .int .i64 (j : Int) ∧ j ≤ L.length ∧ Pr x0 x1 ∧ eb < wr.heap.size ∧ Below w.heap.size w wr ∧ E8 wr eb x0 x1) (fun ii _ => L.length - (RowKit.intOf ii).toNat)
    case atStart => exact ⟨0, _, _, rfl, Nat.zero_le _, HPR.out, hbl, HBW.out, HE.out⟩
    case round =>
      clear HPR HE HBW hbl
      obtain ⟨j, x0, x1, rfl, hj, hpr, hbl, hbw, he⟩ := hrel
      obtain ⟨wq, hwq⟩ : ∃ wq, wq = wr := ⟨_, rfl⟩
      subst hwq
      have HPR := Lib.hid hpr
      have HBW := Lib.hid hbw
      have HE := Lib.hid he
      clear hpr hbw he
      by_cases hlt : j < L.length
      · have hlti : (j : Int) < (L.length : Int) := by omega
        have hj0 : (0 : Int) ≤ (j : Int) := by omega
        have hjw : IntKind.i64.wrap ((j : Int) + 1) = (j : Int) + 1 := by rw [IntKind.wrap_i64]; have := HL.out; omega
        have HNX : Hid (∀ (y0 y1 : Se) (V : World), Pr y0 y1 → eb < V.heap.size → Below w.heap.size w V → E8 V eb y0 y1 → (∃ (j' : Nat) (x0 x1 : Se), Value.int .i64 ((j : Int) + 1) = .int .i64 (j' : Int) ∧ j' ≤ L.length ∧ Pr x0 x1 ∧ eb < V.heap.size ∧ Below w.heap.size w V ∧ E8 V eb x0 x1) ∧ L.length - (RowKit.intOf (Value.int .i64 ((j : Int) + 1))).toNat < L.length - (RowKit.intOf (Value.int .i64 (j : Int))).toNat) := Lib.hid (fun y0 y1 V h1 h2 h3 h4 => by
          refine ⟨⟨j + 1, y0, y1, congrArg (Value.int .i64) (by omega), by omega, h1, h2, h3, h4⟩, ?_⟩
          show L.length - ((j : Int) + 1).toNat < L.length - (j : Int).toNat
          omega)
        rcases HIN.out w (Below.refl _ _) with h0 | ⟨b, o, rfl, hb, hc⟩
        · rw [h0] at hlt; exact absurd hlt (by simp)
        have hcj := hc j hlt
        generalize L[j] = ac at *
        obtain ⟨en, kd, ix, life⟩ := ac
        have HLC : Hid (∀ V, Below w.heap.size w V → SpAt V b (o + j * 4) ⟨en, kd, ix, life⟩) := Lib.hid (fun V hV => by
          have e := fun q => World.cell?_of_block (a := ⟨b, q, none⟩) (hV.block b hb)
          obtain ⟨a0, a1, a2, a3⟩ := hcj
          exact ⟨(e _).trans a0, (e _).trans a1, (e _).trans a2, (e _).trans a3⟩)
        clear hcj hc hlt hj
        obtain ⟨d0, d1, -, d3⟩ := HLC.out wq HBW.out
        simp only at d0 d1 d3
        rcases and_one_two en with hbt | hbt
        · have hidx : IntKind.i64.wrap (1 - 0) = 1 := by decide
          by_cases hh : kd = 0 ∨ kd = 1 ∨ kd = 2
          · have HH := Lib.hid (hear_ex x0 x1.m x1.p _ rfl)
            have HP := Lib.hid (HPR.out.hear)
            generalize (hearF x0 x1.m x1.p).1 = y at *
            rcases hh with rfl | rfl | rfl
            all_goals
              obtain ⟨⟨pc0, pc1, pc2, pc3, pf0, pf1, pf2, pf3⟩, ⟨qc0, qc1, qc2, qc3, qf0, qf1, qf2, qf3⟩⟩ := HE.out
              go_wp2_with fail
              refine (hello_any x1 _).mono ?_
              rintro e1 w2 ⟨rfl, b2⟩
              clear pc0 pc1 pc2 pc3 pf0 pf1 pf2 pf3 qc0 qc1 qc2 qc3 qf0 qf1 qf2 qf3
              have HE2 := Lib.hid (HE.out.below b2 hbl)
              have HB2 := Lib.hid (gNx HBW.out b2)
              have hbl2 : eb < w2.heap.size := Nat.lt_of_lt_of_le hbl b2.size
              clear b2
              obtain ⟨⟨pc0, pc1, pc2, pc3, pf0, pf1, pf2, pf3⟩, ⟨qc0, qc1, qc2, qc3, qf0, qf1, qf2, qf3⟩⟩ := HE2.out
              go_wp2_with fail
              refine (HH.out _).mono ?_
              rintro e2 w3 ⟨f, g, rfl, b3⟩
              clear pc0 pc1 pc2 pc3 pf0 pf1 pf2 pf3 qc0 qc1 qc2 qc3 qf0 qf1 qf2 qf3
              have HE3 := Lib.hid (HE2.out.below b3 hbl2)
              have HB3 := Lib.hid (gNx HB2.out b3)
              have hbl3 : eb < w3.heap.size := Nat.lt_of_lt_of_le hbl2 b3.size
              clear b3
              obtain ⟨⟨pc0, pc1, pc2, pc3, pf0, pf1, pf2, pf3⟩, ⟨qc0, qc1, qc2, qc3, qf0, qf1, qf2, qf3⟩⟩ := HE3.out
              go_wp2_with fail
              obtain ⟨V9, hV9, HG⟩ := e8_put0 (cs := []) HE3.out HB3.out HEB.out (range_nil w3 (eb + 1) 0) (Nat.succ_ne_self eb) hbl3 y.m y.p y.u y.s
              rw [← hV9]
              clear hV9
              exact HNX.out _ _ V9 (HP.out) HG.out.2.2.2 HG.out.2.1 HG.out.1
          have n0 : (kd == 0) = false := by simp; omega
          have n1 : (kd == 1) = false := by simp; omega
          have n2 : (kd == 2) = false := by simp; omega
          clear hh
          by_cases h3 : kd = 3
          · subst h3
            clear n0 n1 n2
            have HH := Lib.hid (tick_ex x0 HPR.out.a life _ rfl)
            have HP := Lib.hid (HPR.out.tick life)
            generalize (tickF x0 life).1 = y at *
            obtain ⟨⟨pc0, pc1, pc2, pc3, pf0, pf1, pf2, pf3⟩, ⟨qc0, qc1, qc2, qc3, qf0, qf1, qf2, qf3⟩⟩ := HE.out
            go_upto_region 20 with (fail)
            clear pc0 pc1 pc2 pc3 pf0 pf1 pf2 pf3 qc0 qc1 qc2 qc3 qf0 qf1 qf2 qf3
            refine wp_region_held_drew (S := fun V => Below w.heap.size w V) (by kernel_rfl) HBW.out.drew (fun hH => ?_)
            clear hH
            have HE0 : Hid (E8 wq.drew eb x0 x1) := Lib.hid HE.out
            have hs0 : Below w.heap.size w wq.drew := HBW.out.drew
            have hbl0 : eb < wq.drew.heap.size := hbl
            generalize wq.drew = V0 at *
            refine tk 0 (by assumption) rfl (by kernel_rfl) (fun _ _ _ h => h) (fun V hV => by go_simp; try with_reducible rfl) ?_
            try simp only [Act.put, sqA, sqB, sqC, sqD, sqE, sqF]
            refine tk 1 (by assumption) rfl (by kernel_rfl) (fun _ _ _ h => h) (fun V hV => by go_simp; try with_reducible rfl) ?_
            try simp only [Act.put, sqA, sqB, sqC, sqD, sqE, sqF]
            refine tk 2 (by assumption) rfl (by kernel_rfl) (fun _ _ _ h => h) (fun V hV => by go_simp; try with_reducible rfl) ?_
            try simp only [Act.put, sqA, sqB, sqC, sqD, sqE, sqF]
            refine tk 4 (by assumption) rfl (by kernel_rfl) (fun _ _ _ h => h) (fun V hV => by go_simp; try with_reducible rfl) ?_
            try simp only [Act.put, sqA, sqB, sqC, sqD, sqE, sqF]
            refine tk 5 (by assumption) rfl (by kernel_rfl) (fun _ _ _ h => h) (fun V hV => by go_simp; try with_reducible rfl) ?_
            try simp only [Act.put, sqA, sqB, sqC, sqD, sqE, sqF]
            refine tk 6 (by assumption) rfl (by kernel_rfl) (fun _ _ _ h => h) (fun V hV => by go_simp; try with_reducible rfl) ?_
            try simp only [Act.put, sqA, sqB, sqC, sqD, sqE, sqF]
            refine tk 7 (by assumption) rfl (by kernel_rfl) (fun _ _ _ h => h) (fun V hV => by go_simp; try with_reducible rfl) ?_
            try simp only [Act.put, sqA, sqB, sqC, sqD, sqE, sqF]
            refine tk 8 (by assumption) rfl (by kernel_rfl) (fun _ _ _ h => h) (fun V hV => by obtain ⟨-, -, -, z3⟩ := HLC.out V hV; simp only at z3; go_simp; try with_reducible rfl) ?_
            try simp only [Act.put, sqA, sqB, sqC, sqD, sqE, sqF]
            refine wpAnyH_ready (rs := [3]) (by kernel_rfl) (by simp) ?_
            refine AllReadyH.cons (o := _) rfl (fun K hK => ?_) AllReadyH.nil
            rw [if_pos (by rfl)]
            refine wp_load_mid 28 (.tmp 86) rfl eb 0 rfl (seL x0) _ HE0.out.1.range Try.underlying28 (by rfl) (by kernel_rfl) ?_
            refine hK.out _ _ hs0 (fun hH => ?_)
            clear hK K hH
            try simp only [Act.put, sqA, sqB, sqC, sqD, sqE, sqF]
            refine wpAnyH_ready (rs := [9]) (by kernel_rfl) (by simp) ?_
            refine AllReadyH.cons (o := _) rfl (fun K hK => ?_) AllReadyH.nil
            go_simp
            refine (HH.out _).mono ?_
            rintro e2 w3 ⟨f, rfl, b3⟩
            have HE3 := Lib.hid (HE0.out.below b3 hbl0)
            have hs3 := gNx hs0 b3
            have hbl3 : eb < w3.heap.size := Nat.lt_of_lt_of_le hbl0 b3.size
            clear b3
            go_wp2_with fail
            refine hK.out _ _ hs3 (fun hH => ?_)
            clear hK K hH
            try simp only [Act.put, sqA, sqB, sqC, sqD, sqE, sqF]
            refine tk 10 (by assumption) rfl (by kernel_rfl) (fun _ _ _ h => h) (fun V hV => by go_simp; try with_reducible rfl) ?_
            try simp only [Act.put, sqA, sqB, sqC, sqD, sqE, sqF]
            refine tk 11 (by assumption) rfl (by kernel_rfl) (fun _ _ _ h => h) (fun V hV => by go_simp; try with_reducible rfl) ?_
            try simp only [Act.put, sqA, sqB, sqC, sqD, sqE, sqF]
            refine tk 12 (by assumption) rfl (by kernel_rfl) (fun _ _ _ h => h) (fun V hV => by go_simp; try with_reducible rfl) ?_
            try simp only [Act.put, sqA, sqB, sqC, sqD, sqE, sqF]
            refine tk 13 (by assumption) rfl (by kernel_rfl) (fun _ _ _ h => h) (fun V hV => by go_simp; try with_reducible rfl) ?_
            try simp only [Act.put, sqA, sqB, sqC, sqD, sqE, sqF]
            refine wpAnyH_ready (rs := [14]) (by kernel_rfl) (by simp) ?_
            refine AllReadyH.cons (o := _) rfl (fun K hK => ?_) AllReadyH.nil
            obtain ⟨V9, hV9, HG⟩ := e8_put0 (cs := []) HE3.out hs3 HEB.out (range_nil w3 (eb + 1) 0) (Nat.succ_ne_self eb) hbl3 y.m y.p y.u y.s
            rw [if_pos (by rfl)]
            refine wp_store_mid 28 (.tmp 96) (.tmp 94) rfl eb 0 (seL y).toArray rfl rfl HE3.out.1.there (by kernel_rfl) (all_oneCell_toArray (seL_one y)) ?_
            rw [show w3.setCells eb 0 (seL y).toArray.toList = V9 from hV9.symm]
            have hs9 := HG.out.2.1
            refine hK.out _ _ hs9 (fun hH => ?_)
            clear hK K hH hV9
            try simp only [Act.put, sqA, sqB, sqC, sqD, sqE, sqF]
            refine wpAnyH_done (by kernel_rfl) ?_ _
            go_wp2_with fail
            exact HNX.out _ _ V9 (HP.out) HG.out.2.2.2 HG.out.2.1 HG.out.1
          have n3 : (kd == 3) = false := by simpa using h3
          clear h3
          by_cases h4 : kd = 4
          · subst h4
            clear n0 n1 n2 n3
            have HH := Lib.hid (down_ex x0 HPR.out.a _ rfl)
            have HP := Lib.hid (HPR.out.down)
            generalize downF x0 = y at *
            obtain ⟨⟨pc0, pc1, pc2, pc3, pf0, pf1, pf2, pf3⟩, ⟨qc0, qc1, qc2, qc3, qf0, qf1, qf2, qf3⟩⟩ := HE.out
            go_wp2_with fail
            refine (HH.out _).mono ?_
            rintro e2 w3 ⟨rfl, b3⟩
            clear pc0 pc1 pc2 pc3 pf0 pf1 pf2 pf3 qc0 qc1 qc2 qc3 qf0 qf1 qf2 qf3
            have HE3 := Lib.hid (HE.out.below b3 hbl)
            have HB3 := Lib.hid (gNx HBW.out b3)
            have hbl3 : eb < w3.heap.size := Nat.lt_of_lt_of_le hbl b3.size
            clear b3
            obtain ⟨⟨pc0, pc1, pc2, pc3, pf0, pf1, pf2, pf3⟩, ⟨qc0, qc1, qc2, qc3, qf0, qf1, qf2, qf3⟩⟩ := HE3.out
            go_wp2_with fail
            obtain ⟨V9, hV9, HG⟩ := e8_put0 (cs := []) HE3.out HB3.out HEB.out (range_nil w3 (eb + 1) 0) (Nat.succ_ne_self eb) hbl3 y.m y.p y.u y.s
            rw [← hV9]
            clear hV9
            exact HNX.out _ _ V9 (HP.out) HG.out.2.2.2 HG.out.2.1 HG.out.1
          have n4 : (kd == 4) = false := by simpa using h4
          clear h4
          go_wp2_with fail
          exact HNX.out _ _ wq HPR.out hbl HBW.out HE.out
        · have hidx : IntKind.i64.wrap (1 - 1) = 0 := by decide
          by_cases hh : kd = 0 ∨ kd = 1 ∨ kd = 2
          · have HH := Lib.hid (hear_ex x1 x0.m x0.p _ rfl)
            have HP := Lib.hid (HPR.out.symm.hear)
            generalize (hearF x1 x0.m x0.p).1 = y at *
            rcases hh with rfl | rfl | rfl
            all_goals
              obtain ⟨⟨pc0, pc1, pc2, pc3, pf0, pf1, pf2, pf3⟩, ⟨qc0, qc1, qc2, qc3, qf0, qf1, qf2, qf3⟩⟩ := HE.out
              go_wp2_with fail
              refine (hello_any x0 _).mono ?_
              rintro e1 w2 ⟨rfl, b2⟩
              clear pc0 pc1 pc2 pc3 pf0 pf1 pf2 pf3 qc0 qc1 qc2 qc3 qf0 qf1 qf2 qf3
              have HE2 := Lib.hid (HE.out.below b2 hbl)
              have HB2 := Lib.hid (gNx HBW.out b2)
              have hbl2 : eb < w2.heap.size := Nat.lt_of_lt_of_le hbl b2.size
              clear b2
              obtain ⟨⟨pc0, pc1, pc2, pc3, pf0, pf1, pf2, pf3⟩, ⟨qc0, qc1, qc2, qc3, qf0, qf1, qf2, qf3⟩⟩ := HE2.out
              go_wp2_with fail
              refine (HH.out _).mono ?_
              rintro e2 w3 ⟨f, g, rfl, b3⟩
              clear pc0 pc1 pc2 pc3 pf0 pf1 pf2 pf3 qc0 qc1 qc2 qc3 qf0 qf1 qf2 qf3
              have HE3 := Lib.hid (HE2.out.below b3 hbl2)
              have HB3 := Lib.hid (gNx HB2.out b3)
              have hbl3 : eb < w3.heap.size := Nat.lt_of_lt_of_le hbl2 b3.size
              clear b3
              obtain ⟨⟨pc0, pc1, pc2, pc3, pf0, pf1, pf2, pf3⟩, ⟨qc0, qc1, qc2, qc3, qf0, qf1, qf2, qf3⟩⟩ := HE3.out
              go_wp2_with fail
              obtain ⟨V9, hV9, HG⟩ := e8_put1 (cs := []) HE3.out HB3.out HEB.out (range_nil w3 (eb + 1) 0) (Nat.succ_ne_self eb) hbl3 y.m y.p y.u y.s
              rw [← hV9]
              clear hV9
              exact HNX.out _ _ V9 ((HP.out).symm) HG.out.2.2.2 HG.out.2.1 HG.out.1
          have n0 : (kd == 0) = false := by simp; omega
          have n1 : (kd == 1) = false := by simp; omega
          have n2 : (kd == 2) = false := by simp; omega
          clear hh
          by_cases h3 : kd = 3
          · subst h3
            clear n0 n1 n2
            have HH := Lib.hid (tick_ex x1 HPR.out.symm.a life _ rfl)
            have HP := Lib.hid (HPR.out.symm.tick life)
            generalize (tickF x1 life).1 = y at *
            obtain ⟨⟨pc0, pc1, pc2, pc3, pf0, pf1, pf2, pf3⟩, ⟨qc0, qc1, qc2, qc3, qf0, qf1, qf2, qf3⟩⟩ := HE.out
            go_upto_region 20 with (fail)
            clear pc0 pc1 pc2 pc3 pf0 pf1 pf2 pf3 qc0 qc1 qc2 qc3 qf0 qf1 qf2 qf3
            refine wp_region_held_drew (S := fun V => Below w.heap.size w V) (by kernel_rfl) HBW.out.drew (fun hH => ?_)
            clear hH
            have HE0 : Hid (E8 wq.drew eb x0 x1) := Lib.hid HE.out
            have hs0 : Below w.heap.size w wq.drew := HBW.out.drew
            have hbl0 : eb < wq.drew.heap.size := hbl
            generalize wq.drew = V0 at *
            refine tk 0 (by assumption) rfl (by kernel_rfl) (fun _ _ _ h => h) (fun V hV => by go_simp; try with_reducible rfl) ?_
            try simp only [Act.put, sqA, sqB, sqC, sqD, sqE, sqF]
            refine tk 1 (by assumption) rfl (by kernel_rfl) (fun _ _ _ h => h) (fun V hV => by go_simp; try with_reducible rfl) ?_
            try simp only [Act.put, sqA, sqB, sqC, sqD, sqE, sqF]
            refine tk 2 (by assumption) rfl (by kernel_rfl) (fun _ _ _ h => h) (fun V hV => by go_simp; try with_reducible rfl) ?_
            try simp only [Act.put, sqA, sqB, sqC, sqD, sqE, sqF]
            refine tk 4 (by assumption) rfl (by kernel_rfl) (fun _ _ _ h => h) (fun V hV => by go_simp; try with_reducible rfl) ?_
            try simp only [Act.put, sqA, sqB, sqC, sqD, sqE, sqF]
            refine tk 5 (by assumption) rfl (by kernel_rfl) (fun _ _ _ h => h) (fun V hV => by go_simp; try with_reducible rfl) ?_
            try simp only [Act.put, sqA, sqB, sqC, sqD, sqE, sqF]
            refine tk 6 (by assumption) rfl (by kernel_rfl) (fun _ _ _ h => h) (fun V hV => by go_simp; try with_reducible rfl) ?_
            try simp only [Act.put, sqA, sqB, sqC, sqD, sqE, sqF]
            refine tk 7 (by assumption) rfl (by kernel_rfl) (fun _ _ _ h => h) (fun V hV => by go_simp; try with_reducible rfl) ?_
            try simp only [Act.put, sqA, sqB, sqC, sqD, sqE, sqF]
            refine tk 8 (by assumption) rfl (by kernel_rfl) (fun _ _ _ h => h) (fun V hV => by obtain ⟨-, -, -, z3⟩ := HLC.out V hV; simp only at z3; go_simp; try with_reducible rfl) ?_
            try simp only [Act.put, sqA, sqB, sqC, sqD, sqE, sqF]
            refine wpAnyH_ready (rs := [3]) (by kernel_rfl) (by simp) ?_
            refine AllReadyH.cons (o := _) rfl (fun K hK => ?_) AllReadyH.nil
            rw [if_pos (by rfl)]
            refine wp_load_mid 28 (.tmp 86) rfl eb 4 rfl (seL x1) _ HE0.out.2.range Try.underlying28 (by rfl) (by kernel_rfl) ?_
            refine hK.out _ _ hs0 (fun hH => ?_)
            clear hK K hH
            try simp only [Act.put, sqA, sqB, sqC, sqD, sqE, sqF]
            refine wpAnyH_ready (rs := [9]) (by kernel_rfl) (by simp) ?_
            refine AllReadyH.cons (o := _) rfl (fun K hK => ?_) AllReadyH.nil
            go_simp
            refine (HH.out _).mono ?_
            rintro e2 w3 ⟨f, rfl, b3⟩
            have HE3 := Lib.hid (HE0.out.below b3 hbl0)
            have hs3 := gNx hs0 b3
            have hbl3 : eb < w3.heap.size := Nat.lt_of_lt_of_le hbl0 b3.size
            clear b3
            go_wp2_with fail
            refine hK.out _ _ hs3 (fun hH => ?_)
            clear hK K hH
            try simp only [Act.put, sqA, sqB, sqC, sqD, sqE, sqF]
            refine tk 10 (by assumption) rfl (by kernel_rfl) (fun _ _ _ h => h) (fun V hV => by go_simp; try with_reducible rfl) ?_
            try simp only [Act.put, sqA, sqB, sqC, sqD, sqE, sqF]
            refine tk 11 (by assumption) rfl (by kernel_rfl) (fun _ _ _ h => h) (fun V hV => by go_simp; try with_reducible rfl) ?_
            try simp only [Act.put, sqA, sqB, sqC, sqD, sqE, sqF]
            refine tk 12 (by assumption) rfl (by kernel_rfl) (fun _ _ _ h => h) (fun V hV => by go_simp; try with_reducible rfl) ?_
            try simp only [Act.put, sqA, sqB, sqC, sqD, sqE, sqF]
            refine tk 13 (by assumption) rfl (by kernel_rfl) (fun _ _ _ h => h) (fun V hV => by go_simp; try with_reducible rfl) ?_
            try simp only [Act.put, sqA, sqB, sqC, sqD, sqE, sqF]
            refine wpAnyH_ready (rs := [14]) (by kernel_rfl) (by simp) ?_
            refine AllReadyH.cons (o := _) rfl (fun K hK => ?_) AllReadyH.nil
            obtain ⟨V9, hV9, HG⟩ := e8_put1 (cs := []) HE3.out hs3 HEB.out (range_nil w3 (eb + 1) 0) (Nat.succ_ne_self eb) hbl3 y.m y.p y.u y.s
            rw [if_pos (by rfl)]
            refine wp_store_mid 28 (.tmp 96) (.tmp 94) rfl eb 4 (seL y).toArray rfl rfl HE3.out.2.there (by kernel_rfl) (all_oneCell_toArray (seL_one y)) ?_
            rw [show w3.setCells eb 4 (seL y).toArray.toList = V9 from hV9.symm]
            have hs9 := HG.out.2.1
            refine hK.out _ _ hs9 (fun hH => ?_)
            clear hK K hH hV9
            try simp only [Act.put, sqA, sqB, sqC, sqD, sqE, sqF]
            refine wpAnyH_done (by kernel_rfl) ?_ _
            go_wp2_with fail
            exact HNX.out _ _ V9 ((HP.out).symm) HG.out.2.2.2 HG.out.2.1 HG.out.1
          have n3 : (kd == 3) = false := by simpa using h3
          clear h3
          by_cases h4 : kd = 4
          · subst h4
            clear n0 n1 n2 n3
            have HH := Lib.hid (down_ex x1 HPR.out.symm.a _ rfl)
            have HP := Lib.hid (HPR.out.symm.down)
            generalize downF x1 = y at *
            obtain ⟨⟨pc0, pc1, pc2, pc3, pf0, pf1, pf2, pf3⟩, ⟨qc0, qc1, qc2, qc3, qf0, qf1, qf2, qf3⟩⟩ := HE.out
            go_wp2_with fail
            refine (HH.out _).mono ?_
            rintro e2 w3 ⟨rfl, b3⟩
            clear pc0 pc1 pc2 pc3 pf0 pf1 pf2 pf3 qc0 qc1 qc2 qc3 qf0 qf1 qf2 qf3
            have HE3 := Lib.hid (HE.out.below b3 hbl)
            have HB3 := Lib.hid (gNx HBW.out b3)
            have hbl3 : eb < w3.heap.size := Nat.lt_of_lt_of_le hbl b3.size
            clear b3
            obtain ⟨⟨pc0, pc1, pc2, pc3, pf0, pf1, pf2, pf3⟩, ⟨qc0, qc1, qc2, qc3, qf0, qf1, qf2, qf3⟩⟩ := HE3.out
            go_wp2_with fail
            obtain ⟨V9, hV9, HG⟩ := e8_put1 (cs := []) HE3.out HB3.out HEB.out (range_nil w3 (eb + 1) 0) (Nat.succ_ne_self eb) hbl3 y.m y.p y.u y.s
            rw [← hV9]
            clear hV9
            exact HNX.out _ _ V9 ((HP.out).symm) HG.out.2.2.2 HG.out.2.1 HG.out.1
          have n4 : (kd == 4) = false := by simpa using h4
          clear h4
          go_wp2_with fail
          exact HNX.out _ _ wq HPR.out hbl HBW.out HE.out
      · have hnj : ¬ (j : Int) < (L.length : Int) := by omega
        clear hlt hj
        go_wp2_with fail
        go_loopw [13] (fun ii wr => ∃ (j : Nat), ii = .int .i64 (j : Int) ∧ j ≤ 3 ∧ eb < wr.heap.size ∧ Below w.heap.size w wr ∧ E8 wr eb (stM x0 x1 j).1 (stM x0 x1 j).2) (fun ii _ => 3 - (RowKit.intOf ii).toNat)
        case atStart => exact ⟨0, rfl, by omega, hbl, HBW.out, HE.out⟩
        case round =>
          clear HE HBW hbl hnj
          have HTH := Lib.hid (three HPR.out)
          obtain ⟨j, rfl, hj, hbl, hbw, he⟩ := hrel
          obtain ⟨wv, hwv⟩ : ∃ wv, wv = wr := ⟨_, rfl⟩
          subst hwv
          have HBW := Lib.hid hbw
          have HE := Lib.hid he
          clear hbw he
          have a0 : bits BinOp.and IntKind.i64 0 1 = 0 := by decide
          have a1 : bits BinOp.and IntKind.i64 1 1 = 1 := by decide
          have a2 : bits BinOp.and IntKind.i64 2 1 = 0 := by decide
          by_cases hh : j = 0
          · subst hh
            have HE : Hid (E8 wv eb x0 x1) := Lib.hid HE.out
            have HH := Lib.hid (hear_ex x0 x1.m x1.p (y0 x0 x1) rfl)
            have HN : Hid (∀ V, E8 V eb (y0 x0 x1) x1 → E8 V eb (stM x0 x1 1).1 (stM x0 x1 1).2) := Lib.hid (fun _ h => h)
            generalize y0 x0 x1 = u0 at *
            have hidx : IntKind.i64.wrap (1 - 0) = 1 := by decide
            obtain ⟨⟨pc0, pc1, pc2, pc3, pf0, pf1, pf2, pf3⟩, ⟨qc0, qc1, qc2, qc3, qf0, qf1, qf2, qf3⟩⟩ := HE.out
            go_wp2_with fail
            refine (hello_any x1 _).mono ?_
            rintro e1 w2 ⟨rfl, b2⟩
            clear pc0 pc1 pc2 pc3 pf0 pf1 pf2 pf3 qc0 qc1 qc2 qc3 qf0 qf1 qf2 qf3
            have HE2 := Lib.hid (HE.out.below b2 hbl)
            have HB2 := Lib.hid (gNx HBW.out b2)
            have hbl2 : eb < w2.heap.size := Nat.lt_of_lt_of_le hbl b2.size
            clear b2
            obtain ⟨⟨pc0, pc1, pc2, pc3, pf0, pf1, pf2, pf3⟩, ⟨qc0, qc1, qc2, qc3, qf0, qf1, qf2, qf3⟩⟩ := HE2.out
            go_wp2_with fail
            refine (HH.out _).mono ?_
            rintro e2 w3 ⟨f, g, rfl, b3⟩
            clear pc0 pc1 pc2 pc3 pf0 pf1 pf2 pf3 qc0 qc1 qc2 qc3 qf0 qf1 qf2 qf3
            have HE3 := Lib.hid (HE2.out.below b3 hbl2)
            have HB3 := Lib.hid (gNx HB2.out b3)
            have hbl3 : eb < w3.heap.size := Nat.lt_of_lt_of_le hbl2 b3.size
            clear b3
            obtain ⟨⟨pc0, pc1, pc2, pc3, pf0, pf1, pf2, pf3⟩, ⟨qc0, qc1, qc2, qc3, qf0, qf1, qf2, qf3⟩⟩ := HE3.out
            go_wp2_with fail
            obtain ⟨V9, hV9, HG⟩ := e8_put0 (cs := []) HE3.out HB3.out HEB.out (range_nil w3 (eb + 1) 0) (Nat.succ_ne_self eb) hbl3 u0.m u0.p u0.u u0.s
            rw [← hV9]
            clear hV9
            exact ⟨⟨1, rfl, by omega, HG.out.2.2.2, HG.out.2.1, HN.out _ HG.out.1⟩, by show 3 - 1 < 3 - 0; omega⟩
          by_cases hh : j = 1
          · subst hh
            have HE : Hid (E8 wv eb (y0 x0 x1) x1) := Lib.hid HE.out
            have HH := Lib.hid (hear_ex x1 (y0 x0 x1).m (y0 x0 x1).p (y1 x0 x1) rfl)
            have HN : Hid (∀ V, E8 V eb (y0 x0 x1) (y1 x0 x1) → E8 V eb (stM x0 x1 2).1 (stM x0 x1 2).2) := Lib.hid (fun _ h => h)
            generalize y1 x0 x1 = u1 at *
            generalize y0 x0 x1 = u0 at *
            have hidx : IntKind.i64.wrap (1 - 1) = 0 := by decide
            obtain ⟨⟨pc0, pc1, pc2, pc3, pf0, pf1, pf2, pf3⟩, ⟨qc0, qc1, qc2, qc3, qf0, qf1, qf2, qf3⟩⟩ := HE.out
            go_wp2_with fail
            refine (hello_any u0 _).mono ?_
            rintro e1 w2 ⟨rfl, b2⟩
            clear pc0 pc1 pc2 pc3 pf0 pf1 pf2 pf3 qc0 qc1 qc2 qc3 qf0 qf1 qf2 qf3
            have HE2 := Lib.hid (HE.out.below b2 hbl)
            have HB2 := Lib.hid (gNx HBW.out b2)
            have hbl2 : eb < w2.heap.size := Nat.lt_of_lt_of_le hbl b2.size
            clear b2
            obtain ⟨⟨pc0, pc1, pc2, pc3, pf0, pf1, pf2, pf3⟩, ⟨qc0, qc1, qc2, qc3, qf0, qf1, qf2, qf3⟩⟩ := HE2.out
            go_wp2_with fail
            refine (HH.out _).mono ?_
            rintro e2 w3 ⟨f, g, rfl, b3⟩
            clear pc0 pc1 pc2 pc3 pf0 pf1 pf2 pf3 qc0 qc1 qc2 qc3 qf0 qf1 qf2 qf3
            have HE3 := Lib.hid (HE2.out.below b3 hbl2)
            have HB3 := Lib.hid (gNx HB2.out b3)
            have hbl3 : eb < w3.heap.size := Nat.lt_of_lt_of_le hbl2 b3.size
            clear b3
            obtain ⟨⟨pc0, pc1, pc2, pc3, pf0, pf1, pf2, pf3⟩, ⟨qc0, qc1, qc2, qc3, qf0, qf1, qf2, qf3⟩⟩ := HE3.out
            go_wp2_with fail
            obtain ⟨V9, hV9, HG⟩ := e8_put1 (cs := []) HE3.out HB3.out HEB.out (range_nil w3 (eb + 1) 0) (Nat.succ_ne_self eb) hbl3 u1.m u1.p u1.u u1.s
            rw [← hV9]
            clear hV9
            exact ⟨⟨2, rfl, by omega, HG.out.2.2.2, HG.out.2.1, HN.out _ HG.out.1⟩, by show 3 - 2 < 3 - 1; omega⟩
          by_cases hh : j = 2
          · subst hh
            have HE : Hid (E8 wv eb (y0 x0 x1) (y1 x0 x1)) := Lib.hid HE.out
            have HH := Lib.hid (hear_ex (y0 x0 x1) (y1 x0 x1).m (y1 x0 x1).p (z0 x0 x1) rfl)
            have HN : Hid (∀ V, E8 V eb (z0 x0 x1) (y1 x0 x1) → E8 V eb (stM x0 x1 3).1 (stM x0 x1 3).2) := Lib.hid (fun _ h => h)
            generalize z0 x0 x1 = u2 at *
            generalize y1 x0 x1 = u1 at *
            generalize y0 x0 x1 = u0 at *
            have hidx : IntKind.i64.wrap (1 - 0) = 1 := by decide
            obtain ⟨⟨pc0, pc1, pc2, pc3, pf0, pf1, pf2, pf3⟩, ⟨qc0, qc1, qc2, qc3, qf0, qf1, qf2, qf3⟩⟩ := HE.out
            go_wp2_with fail
            refine (hello_any u1 _).mono ?_
            rintro e1 w2 ⟨rfl, b2⟩
            clear pc0 pc1 pc2 pc3 pf0 pf1 pf2 pf3 qc0 qc1 qc2 qc3 qf0 qf1 qf2 qf3
            have HE2 := Lib.hid (HE.out.below b2 hbl)
            have HB2 := Lib.hid (gNx HBW.out b2)
            have hbl2 : eb < w2.heap.size := Nat.lt_of_lt_of_le hbl b2.size
            clear b2
            obtain ⟨⟨pc0, pc1, pc2, pc3, pf0, pf1, pf2, pf3⟩, ⟨qc0, qc1, qc2, qc3, qf0, qf1, qf2, qf3⟩⟩ := HE2.out
            go_wp2_with fail
            refine (HH.out _).mono ?_
            rintro e2 w3 ⟨f, g, rfl, b3⟩
            clear pc0 pc1 pc2 pc3 pf0 pf1 pf2 pf3 qc0 qc1 qc2 qc3 qf0 qf1 qf2 qf3
            have HE3 := Lib.hid (HE2.out.below b3 hbl2)
            have HB3 := Lib.hid (gNx HB2.out b3)
            have hbl3 : eb < w3.heap.size := Nat.lt_of_lt_of_le hbl2 b3.size
            clear b3
            obtain ⟨⟨pc0, pc1, pc2, pc3, pf0, pf1, pf2, pf3⟩, ⟨qc0, qc1, qc2, qc3, qf0, qf1, qf2, qf3⟩⟩ := HE3.out
            go_wp2_with fail
            obtain ⟨V9, hV9, HG⟩ := e8_put0 (cs := []) HE3.out HB3.out HEB.out (range_nil w3 (eb + 1) 0) (Nat.succ_ne_self eb) hbl3 u2.m u2.p u2.u u2.s
            rw [← hV9]
            clear hV9
            exact ⟨⟨3, rfl, by omega, HG.out.2.2.2, HG.out.2.1, HN.out _ HG.out.1⟩, by show 3 - 3 < 3 - 2; omega⟩
          obtain rfl : j = 3 := by omega
          have HE : Hid (E8 wv eb (z0 x0 x1) (y1 x0 x1)) := Lib.hid HE.out
          obtain ⟨t1, t2, t3, t4⟩ := HTH.out
          generalize z0 x0 x1 = u2 at *
          generalize y1 x0 x1 = u1 at *
          obtain ⟨v0, v1, v2, v3⟩ := u2
          obtain ⟨r0, r1, r2, r3⟩ := u1
          simp only at t1 t2 t3 t4
          subst t1 t2
          obtain ⟨⟨pc0, pc1, pc2, pc3, pf0, pf1, pf2, pf3⟩, ⟨qc0, qc1, qc2, qc3, qf0, qf1, qf2, qf3⟩⟩ := HE.out
          simp only at pc0 pc1 pc2 pc3 qc0 qc1 qc2 qc3
          go_wp2_with fail
          refine (awake_any _).mono ?_
          rintro e4 w4 ⟨rfl, b4⟩
          go_wp2_with fail
          go_ret
          exact ⟨rfl, gNx HBW.out b4⟩
end Go.Proofs.Ytippekflhlmgiaa
