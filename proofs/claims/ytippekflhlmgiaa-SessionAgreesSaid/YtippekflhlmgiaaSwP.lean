/- Sessions: the law of agreement. -/
import Derived.Test.YtippekflhlmgiaaSwO
namespace Go.Sq
/-- One end: who is up was heard. -/
def Aw (k : Int) (x : Se) (G : List Sd) : Prop := Ok x ∧ (x.u = true → heardB G k x.p x.m = true)
/-- What the law asks behind each step. -/
def Gd (k : Int) (x y : Se) (G : List Sd) : Prop := Ok y ∧ decide (y.m < x.m) = false ∧ (decide (y.p < x.p) = false ∨ (decide (y.p < x.p) = true ∧ (y.p != 0) = false ∧ y.u = false)) ∧ (y.u = true → heardB G k y.p y.m = true)
def SdOk (G : List Sd) : Prop := ∀ g ∈ G, 0 ≤ g.n ∧ g.n ≤ 18446744073709551615
theorem Gd.aw {k : Int} {x y : Se} {G : List Sd} (h : Gd k x y G) : Aw k y G := ⟨h.1, h.2.2.2⟩
theorem irr (a : Int) : decide (a < a) = false := by simp
theorem heard_more {G : List Sd} {k p m : Int} (h : heardB G k p m = true) (g : Sd) : heardB (G ++ [g]) k p m = true := by
  unfold heardB at *
  rw [List.any_append, h]; rfl
theorem Aw.more {k : Int} {x : Se} {G : List Sd} (h : Aw k x G) (g : Sd) : Aw k x (G ++ [g]) := ⟨h.1, fun hu => heard_more (h.2 hu) g⟩
theorem Aw.same {k : Int} {x : Se} {G : List Sd} (h : Aw k x G) : Gd k x x G := ⟨h.1, irr _, Or.inl (irr _), h.2⟩
theorem heard_of {G : List Sd} {k : Int} {g : Sd} (hg : g ∈ G) (hk : g.fr ≠ k) : heardB G k g.n g.e = true :=
  List.any_eq_true.2 ⟨g, hg, by simp [okB, hk]⟩
theorem Aw.hear {k : Int} {x : Se} {G : List Sd} (h : Aw k x G) {g : Sd} (hg : g ∈ G) (hk : g.fr ≠ k) (ho : SdOk G) : Gd k x (hearF x g.n g.e).1 G := by
  have hok := h.1.hear g.e (ho g hg).1 (ho g hg).2
  unfold hearF at *
  split
  · exact h.same
  · split
    · exact h.same
    · split
      · rename_i h0 h1 h2
        rw [if_neg h0, if_neg h1, if_pos h2] at hok
        refine ⟨hok, irr _, Or.inl (by simp only [decide_eq_false_iff_not]; omega), fun hu => ?_⟩
        simp only [beq_iff_eq] at hu
        simp only
        rw [← hu]
        exact heard_of hg hk
      · rename_i h0 h1 h2
        rw [if_neg h0, if_neg h1, if_neg h2] at hok
        refine ⟨hok, irr _, Or.inl (irr _), fun hu => ?_⟩
        simp only [Bool.or_eq_true, beq_iff_eq] at hu
        rcases hu with hu | hu
        · exact h.2 hu
        · have e : g.n = x.p := by omega
          simp only
          rw [← e, ← hu]
          exact heard_of hg hk
theorem Aw.accept {k : Int} {x : Se} {G : List Sd} (h : Aw k x G) {g : Sd} (hg : g ∈ G) (hk : g.fr ≠ k) : Gd k x (acceptF x g.n g.e).1 G ∧ ((acceptF x g.n g.e).2.1 = false ∨ ((acceptF x g.n g.e).2.1 = true ∧ g.n = x.p ∧ g.e = x.m)) := by
  have hok := h.1.accept g.n g.e
  unfold acceptF at *
  split
  · exact ⟨h.same, Or.inl rfl⟩
  · rename_i h0
    rw [if_neg h0] at hok
    split
    · rename_i h1
      rw [if_pos h1] at hok
      split
      · rename_i h2
        rw [if_pos h2] at hok
        exact ⟨⟨hok, irr _, Or.inl (irr _), fun _ => by simp only; rw [← h1, ← h2]; exact heard_of hg hk⟩, Or.inr ⟨rfl, h1, h2⟩⟩
      · exact ⟨h.same, Or.inl rfl⟩
    · exact ⟨h.same, Or.inl rfl⟩
theorem Aw.down {k : Int} {x : Se} {G : List Sd} (h : Aw k x G) : Gd k x (downF x) G := by
  refine ⟨h.1.down, ?_, ?_, fun hu => by simp [downF] at hu⟩
  · have := next_le (m := x.m)
    exact decide_eq_false (by show ¬ nextM x.m < x.m; omega)
  · have := h.1.p0
    by_cases hp : 0 < x.p
    · exact Or.inr ⟨decide_eq_true (by show 0 < x.p; exact hp), rfl, rfl⟩
    · exact Or.inl (decide_eq_false (by show ¬ 0 < x.p; exact hp))
theorem Aw.tick {k : Int} {x : Se} {G : List Sd} (h : Aw k x G) (l : Int) : Gd k x (tickF x l).1 G := by
  have hok := h.1.tick l
  unfold tickF at *
  split
  · exact h.same
  · split
    · exact h.down
    · rename_i h0 h1
      rw [if_neg h0, if_neg h1] at hok
      exact ⟨hok, irr _, Or.inl (irr _), h.2⟩
theorem Aw.new {k m : Int} {G : List Sd} (h0 : 0 ≤ m) (h1 : m ≤ 18446744073709551615) : Aw k ⟨m, 0, false, 0⟩ G := ⟨Ok.new h0 h1, fun h => by cases h⟩
theorem SdOk.more {G : List Sd} (h : SdOk G) {g : Sd} (hg : 0 ≤ g.n ∧ g.n ≤ 18446744073709551615) : SdOk (G ++ [g]) := fun y hy => by
  rcases List.mem_append.1 hy with hy | hy
  · exact h y hy
  · rw [List.mem_singleton] at hy; subst hy; exact hg
end Go.Sq
namespace Go.Proofs.Ytippekflhlmgiaa
open Go.RowKit Go.Lib Go.Sq Go.Cw Go.Ow
set_option linter.unusedVariables false
set_option linter.unusedSimpArgs false
set_option maxRecDepth 100000

theorem accept_ex (x : Se) (n e : Int) (w : World) : Calls Try.prog 18 #[seV x, .int .u64 n, .int .u64 e] w fun e' w' => e' = .returned (.tuple #[seV (acceptF x n e).1, .bool (acceptF x n e).2.1, .bool (acceptF x n e).2.2]) ∧ Below w.heap.size w w' := accept_any x n e w
theorem heard_yes (l : List Sd) (r : Nat) (a : Option Addr) (c : Nat) (k m p : Int) (u : Bool) (s : Int) (hh : heardB l k p m = true) (hl : l.length * 24 ≤ 140737488351232) (w : World) (h : Wy w r a c l) :
    Calls Try.prog 26 #[.slice a l.length c, .int .i64 k, .agg #[.int .u64 m, .int .u64 p, .bool u, .int .i64 s]] w fun e w' => e = .returned (.bool true) ∧ Below w.heap.size w w' :=
  (heard_any l r a c k ⟨m, p, u, s⟩ w h (by omega)).mono fun _ _ h => ⟨by rw [h.1, hh], h.2⟩
theorem Wy.eb {w : World} {r : Nat} {a : Option Addr} {c : Nat} {l : List Sd} (h : Wy w r a c l) {b : Nat} (hne : r ≠ b) (v0 v1 v2 v3 : Value) (o : Nat) : Wy ((((w.setCell ⟨b, o, none⟩ v0).setCell ⟨b, o + 1, none⟩ v1).setCell ⟨b, o + 2, none⟩ v2).setCell ⟨b, o + 3, none⟩ v3) r a c l :=
  Rw.keep h (fun _ _ => setCells_other b [v0, v1, v2, v3] o w r hne)
theorem S4.of_there {w : World} {b : Nat} (h : w.there b 0 4) (y : Se) : S4 (w.setCells b 0 (seL y)) b 0 y := by
  have hr := World.rangeAt_setCells_same w b 0 (seL y) h
  have ht := World.there_setCells h b 0 (seL y)
  exact ⟨hr 0 _ rfl, hr 1 _ rfl, hr 2 _ rfl, hr 3 _ rfl, (ht 0 (by omega)).2, (ht 1 (by omega)).2, (ht 2 (by omega)).2, (ht 3 (by omega)).2⟩
theorem ag_put0 {B b r wb gb : Nat} {w V0 : World} {x y z : Se} {a : Option Addr} {c : Nat} {G : List Sd} {cs : List Value} (h : E8 V0 b x y) (hb : Below B w V0) (hB : B ≤ b) (hl : b < V0.heap.size) (hw : Wy V0 r a c G) (hr : r < V0.heap.size) (hne : r ≠ b) (hz : S4 V0 wb 0 z) (hwb : wb ≠ b) (hg : V0.rangeAt gb 0 cs) (hgb : gb ≠ b) (m p : Int) (u : Bool) (s : Int) :
    ∃ V9, V9 = (((V0.setCell ⟨b, 0, none⟩ (.int .u64 m)).setCell ⟨b, 1, none⟩ (.int .u64 p)).setCell ⟨b, 2, none⟩ (.bool u)).setCell ⟨b, 3, none⟩ (.int .i64 s) ∧ E8 V9 b ⟨m, p, u, s⟩ y ∧ Below B w V9 ∧ V0.heap.size ≤ V9.heap.size ∧ Wy V9 r a c G ∧ S4 V9 wb 0 z ∧ V9.rangeAt gb 0 cs :=
  ⟨_, rfl, h.set0 ⟨m, p, u, s⟩, set4B hb b 0 hB _ _ _ _, (set4B (B := 0) (Below.refl 0 V0) b 0 (Nat.zero_le _) (.int .u64 m) (.int .u64 p) (.bool u) (.int .i64 s)).size, hw.eb hne _ _ _ _ 0, hz.other hwb _ _ _ _, range_set4 (q := 0) hg hgb _ _ _ _⟩
theorem ag_put1 {B b r wb gb : Nat} {w V0 : World} {x y z : Se} {a : Option Addr} {c : Nat} {G : List Sd} {cs : List Value} (h : E8 V0 b x y) (hb : Below B w V0) (hB : B ≤ b) (hl : b < V0.heap.size) (hw : Wy V0 r a c G) (hr : r < V0.heap.size) (hne : r ≠ b) (hz : S4 V0 wb 0 z) (hwb : wb ≠ b) (hg : V0.rangeAt gb 0 cs) (hgb : gb ≠ b) (m p : Int) (u : Bool) (s : Int) :
    ∃ V9, V9 = (((V0.setCell ⟨b, 4, none⟩ (.int .u64 m)).setCell ⟨b, 5, none⟩ (.int .u64 p)).setCell ⟨b, 6, none⟩ (.bool u)).setCell ⟨b, 7, none⟩ (.int .i64 s) ∧ E8 V9 b x ⟨m, p, u, s⟩ ∧ Below B w V9 ∧ V0.heap.size ≤ V9.heap.size ∧ Wy V9 r a c G ∧ S4 V9 wb 0 z ∧ V9.rangeAt gb 0 cs :=
  ⟨_, rfl, h.set1 ⟨m, p, u, s⟩, set4B hb b 4 hB _ _ _ _, (set4B (B := 0) (Below.refl 0 V0) b 4 (Nat.zero_le _) (.int .u64 m) (.int .u64 p) (.bool u) (.int .i64 s)).size, hw.eb hne _ _ _ _ 4, hz.other hwb _ _ _ _, range_set4 (q := 4) hg hgb _ _ _ _⟩
set_option maxHeartbeats 32000000 in
theorem law_sagrees (m0 m1 : Int) (L : List Sp) (a : Option Addr) (c : Nat) (w : World) (h0 : 0 ≤ m0 ∧ m0 ≤ 18446744073709551615) (h1 : 0 ≤ m1 ∧ m1 ≤ 18446744073709551615) (hin : SpsOk w L a) :
    Calls Try.prog 5 #[.agg #[.int .u64 m0, .int .u64 m1], .slice a L.length c] w fun e w' => e = .returned (.bool true) ∧ Below w.heap.size w w' := by
  have HIN := Lib.hid (fun V (hV : Below w.heap.size w V) => hin.rows.keep rfl hV)
  have HL : Hid (L.length * 32 ≤ 140737488351232) := Lib.hid hin.n1
  have HLO : Hid (∀ x ∈ L, SpOk x) := Lib.hid hin.ok
  have HM : Hid ((0 ≤ m0 ∧ m0 ≤ 18446744073709551615) ∧ (0 ≤ m1 ∧ m1 ≤ 18446744073709551615)) := Lib.hid ⟨h0, h1⟩
  clear h0 h1 hin
  go_enter Try.func5, Try.ntmps5
  go_wp2_with fail
  go_loopw [6] (fun ii wr => ∃ (k : Nat), ii = .int .i64 (k : Int) ∧ k ≤ 2 ∧ (0 < k → m0 ≠ 0) ∧ (1 < k → m1 ≠ 0) ∧ w.heap.size + 1 < wr.heap.size ∧ Below w.heap.size w wr ∧ wr.rangeAt w.heap.size 0 [.int .u64 m0, .int .u64 m1] ∧ E8 wr (w.heap.size + 1) (stI m0 m1 k).1 (stI m0 m1 k).2) (fun ii _ => 2 - (RowKit.intOf ii).toNat)
  case atStart => exact ⟨0, rfl, by omega, by omega, by omega, by simp, bel2 _ _ _, range_n (range_box0 w [.int .u64 m0, .int .u64 m1] 48) (by simp) (gAl _ _), (by have h := E8.first (w.alloc (.cells #[.int .u64 m0, .int .u64 m1] 48)); rw [World.size_alloc] at h; exact h)⟩
  case round =>
    obtain ⟨k, rfl, hk, hn0, hn1, hsz, hbw, hra, he8⟩ := hrel
    obtain ⟨wo, hwo⟩ : ∃ wo, wo = wr := ⟨_, rfl⟩
    subst hwo
    have hbl : w.heap.size + 1 < wo.heap.size := hsz
    have hbl0 : w.heap.size < wo.heap.size := by omega
    have HBW := Lib.hid hbw
    have HRA := Lib.hid hra
    have HE8 := Lib.hid he8
    have m0c := hra 0 _ rfl
    have m1c := hra 1 _ rfl
    clear hra hbw hsz
    by_cases h0 : k = 0
    · subst h0
      have HN := Lib.hid (fun w => new_any m0 w)
      by_cases hz : m0 = 0
      · rw [if_pos hz] at HN
        have HZ := Lib.hid hz
        clear hz
        go_wp2_with fail
        refine (HN.out _).mono ?_
        rintro e w2 ⟨rfl, b2⟩
        have hm := HRA.out 0 _ rfl
        have m2 : w2.cell? ⟨w.heap.size, 0, none⟩ = some (.int .u64 m0) := (b2.cell (p := ⟨w.heap.size, 0, none⟩) hbl0).trans hm
        clear hm
        have hm0 : (m0 == 0) = true := by simpa using HZ.out
        have hl2 : w.heap.size < w2.heap.size := Nat.lt_of_lt_of_le hbl0 b2.size
        have HB2 := Lib.hid (gNx HBW.out b2)
        clear b2 m0c m1c
        go_wp2_with fail
        refine (awake_any _).mono ?_
        rintro e w3 ⟨rfl, b3⟩
        go_wp2_with fail
        go_ret
        exact ⟨rfl, gNx HB2.out (gNx (gAl _ _) b3)⟩
      · rw [if_neg hz] at HN
        have HZ := Lib.hid hz
        clear hz
        go_wp2_with fail
        refine (HN.out _).mono ?_
        rintro e w2 ⟨rfl, b2⟩
        have q2 : E8 w2 (w.heap.size + 1) ⟨0, 0, false, 0⟩ ⟨0, 0, false, 0⟩ := HE8.out.below b2 hbl
        have hl2 : w.heap.size + 1 < w2.heap.size := Nat.lt_of_lt_of_le hbl b2.size
        have HQ : Hid (E8 w2 (w.heap.size + 1) ⟨0, 0, false, 0⟩ ⟨0, 0, false, 0⟩ ∧ Below w.heap.size w w2 ∧ w2.rangeAt w.heap.size 0 [.int .u64 m0, .int .u64 m1] ∧ w.heap.size + 1 < w2.heap.size) := Lib.hid ⟨q2, gNx HBW.out b2, range_n HRA.out hbl0 b2, hl2⟩
        obtain ⟨sc0, sc1, sc2, sc3, sf0, sf1, sf2, sf3⟩ := q2.1
        clear b2 m0c m1c q2 HE8 HRA HN
        go_wp2_with fail
        obtain ⟨V9, hV9, HG⟩ := e8_put0 HQ.out.1 HQ.out.2.1 (Nat.le_succ _) HQ.out.2.2.1 (Nat.ne_of_lt (Nat.lt_succ_self _)) HQ.out.2.2.2 m0 0 false 0
        rw [← hV9]
        clear hV9
        exact ⟨⟨1, rfl, by omega, fun _ => HZ.out, fun h => absurd h (by omega), Nat.lt_of_lt_of_le HG.out.2.2.2 (gAl V9 _).size, gNx HG.out.2.1 (gAl V9 _), range_n HG.out.2.2.1 (Nat.lt_trans (Nat.lt_succ_self _) HG.out.2.2.2) (gAl V9 _), HG.out.1.below (gAl V9 _) HG.out.2.2.2⟩, by show 2 - 1 < 2 - 0; omega⟩
    by_cases h1 : k = 1
    · subst h1
      have HN := Lib.hid (fun w => new_any m1 w)
      by_cases hz : m1 = 0
      · rw [if_pos hz] at HN
        have HZ := Lib.hid hz
        clear hz
        go_wp2_with fail
        refine (HN.out _).mono ?_
        rintro e w2 ⟨rfl, b2⟩
        have hm := HRA.out 1 _ rfl
        have m2 : w2.cell? ⟨w.heap.size, 1, none⟩ = some (.int .u64 m1) := (b2.cell (p := ⟨w.heap.size, 1, none⟩) hbl0).trans hm
        clear hm
        have hm0 : (m1 == 0) = true := by simpa using HZ.out
        have hl2 : w.heap.size < w2.heap.size := Nat.lt_of_lt_of_le hbl0 b2.size
        have HB2 := Lib.hid (gNx HBW.out b2)
        clear b2 m0c m1c
        go_wp2_with fail
        refine (awake_any _).mono ?_
        rintro e w3 ⟨rfl, b3⟩
        go_wp2_with fail
        go_ret
        exact ⟨rfl, gNx HB2.out (gNx (gAl _ _) b3)⟩
      · rw [if_neg hz] at HN
        have HZ := Lib.hid hz
        clear hz
        go_wp2_with fail
        refine (HN.out _).mono ?_
        rintro e w2 ⟨rfl, b2⟩
        have q2 : E8 w2 (w.heap.size + 1) ⟨m0, 0, false, 0⟩ ⟨0, 0, false, 0⟩ := HE8.out.below b2 hbl
        have hl2 : w.heap.size + 1 < w2.heap.size := Nat.lt_of_lt_of_le hbl b2.size
        have HQ : Hid (E8 w2 (w.heap.size + 1) ⟨m0, 0, false, 0⟩ ⟨0, 0, false, 0⟩ ∧ Below w.heap.size w w2 ∧ w2.rangeAt w.heap.size 0 [.int .u64 m0, .int .u64 m1] ∧ w.heap.size + 1 < w2.heap.size) := Lib.hid ⟨q2, gNx HBW.out b2, range_n HRA.out hbl0 b2, hl2⟩
        obtain ⟨sc0, sc1, sc2, sc3, sf0, sf1, sf2, sf3⟩ := q2.2
        clear b2 m0c m1c q2 HE8 HRA HN
        go_wp2_with fail
        obtain ⟨V9, hV9, HG⟩ := e8_put1 HQ.out.1 HQ.out.2.1 (Nat.le_succ _) HQ.out.2.2.1 (Nat.ne_of_lt (Nat.lt_succ_self _)) HQ.out.2.2.2 m1 0 false 0
        rw [← hV9]
        clear hV9
        exact ⟨⟨2, rfl, by omega, fun _ => hn0 (by omega), fun h => HZ.out, Nat.lt_of_lt_of_le HG.out.2.2.2 (gAl V9 _).size, gNx HG.out.2.1 (gAl V9 _), range_n HG.out.2.2.1 (Nat.lt_trans (Nat.lt_succ_self _) HG.out.2.2.2) (gAl V9 _), HG.out.1.below (gAl V9 _) HG.out.2.2.2⟩, by show 2 - 2 < 2 - 1; omega⟩
    have hk2 : k = 2 := by omega
    have hk3 : ¬ (k : Int) < 2 := by omega
    have HK2 := Lib.hid hk2
    clear h0 h1 m0c m1c hbl0 HRA hk2
    have HE : Hid (E8 wo (w.heap.size + 1) ⟨m0, 0, false, 0⟩ ⟨m1, 0, false, 0⟩) := Lib.hid (by have h := HE8.out; rw [HK2.out] at h; exact h)
    clear HE8 he8 hn0 hn1 hk
    have HEB : Hid (w.heap.size ≤ w.heap.size + 1 ∧ w.heap.size < w.heap.size + 1) := Lib.hid ⟨Nat.le_succ _, Nat.lt_succ_self _⟩
    generalize w.heap.size + 1 = eb at *
    go_wp2_with fail
    go_loopw [10, 9] (fun ii v wr => ∃ (j : Nat) (x0 x1 : Se) (G : List Sd) (a : Option Addr) (c r : Nat), ii = .int .i64 (j : Int) ∧ v = .slice a G.length c ∧ j ≤ L.length ∧ G.length ≤ j ∧ Aw 0 x0 G ∧ Aw 1 x1 G ∧ SdOk G ∧ Wy wr r a c G ∧ r < wr.heap.size ∧ w.heap.size ≤ r ∧ r ≠ eb ∧ eb < wr.heap.size ∧ Below w.heap.size w wr ∧ E8 wr eb x0 x1) (fun ii _ _ => L.length - (RowKit.intOf ii).toNat)
    case atStart => exact ⟨0, _, _, [], none, 0, w.heap.size, rfl, rfl, Nat.zero_le _, Nat.le_refl _, Aw.new HM.out.1.1 HM.out.1.2, Aw.new HM.out.2.1 HM.out.2.2, (fun g hg => by cases hg), Or.inl ⟨rfl, rfl, _, rfl⟩, by have := HEB.out; omega, Nat.le_refl _, Nat.ne_of_lt HEB.out.2, hbl, HBW.out, HE.out⟩
    case round =>
      clear HE HBW hbl
      obtain ⟨j, x0, x1, G, ga, gc, r, rfl, rfl, hj, hgl, haw0, haw1, hso, hwy, hrl, hrb, hre, hbl, hbw, he⟩ := hrel
      obtain ⟨wq, hwq⟩ : ∃ wq, wq = wr := ⟨_, rfl⟩
      subst hwq
      have HA := Lib.hid (show Aw 0 x0 G ∧ Aw 1 x1 G ∧ SdOk G from ⟨haw0, haw1, hso⟩)
      have HBW := Lib.hid hbw
      have HE := Lib.hid he
      have HWY := Lib.hid hwy
      have HR := Lib.hid (show r < wq.heap.size ∧ w.heap.size ≤ r ∧ r ≠ eb ∧ eb < wq.heap.size from ⟨hrl, hrb, hre, hbl⟩)
      have HG1 := Lib.hid hgl
      clear haw0 haw1 hso hwy hrl hrb hre hbw he hgl
      by_cases hlt : j < L.length
      · have hlti : (j : Int) < (L.length : Int) := by omega
        have hj0 : (0 : Int) ≤ (j : Int) := by omega
        have hjw : IntKind.i64.wrap ((j : Int) + 1) = (j : Int) + 1 := by rw [IntKind.wrap_i64]; have := HL.out; omega
        have HLG : Hid ((G.length + 1) * 24 ≤ 140737488351232) := Lib.hid (by have := HL.out; have := HG1.out; omega)
        have HNX : Hid (∀ (y0 y1 : Se) (G' : List Sd) (a' : Option Addr) (c' r' : Nat) (V : World), G'.length ≤ G.length + 1 → Aw 0 y0 G' → Aw 1 y1 G' → SdOk G' → Wy V r' a' c' G' → r' < V.heap.size → w.heap.size ≤ r' → r' ≠ eb → eb < V.heap.size → Below w.heap.size w V → E8 V eb y0 y1 → (∃ (j' : Nat) (x0 x1 : Se) (G : List Sd) (a : Option Addr) (c r : Nat), Value.int .i64 ((j : Int) + 1) = .int .i64 (j' : Int) ∧ Value.slice a' G'.length c' = .slice a G.length c ∧ j' ≤ L.length ∧ G.length ≤ j' ∧ Aw 0 x0 G ∧ Aw 1 x1 G ∧ SdOk G ∧ Wy V r a c G ∧ r < V.heap.size ∧ w.heap.size ≤ r ∧ r ≠ eb ∧ eb < V.heap.size ∧ Below w.heap.size w V ∧ E8 V eb x0 x1) ∧ L.length - (RowKit.intOf (Value.int .i64 ((j : Int) + 1))).toNat < L.length - (RowKit.intOf (Value.int .i64 (j : Int))).toNat) := Lib.hid (fun y0 y1 G' a' c' r' V h1 h2 h3 h4 h5 h6 h7 h8 h9 h10 h11 => by
          refine ⟨⟨j + 1, y0, y1, G', a', c', r', congrArg (Value.int .i64) (by omega), rfl, by omega, by have := HG1.out; omega, h2, h3, h4, h5, h6, h7, h8, h9, h10, h11⟩, ?_⟩
          show L.length - ((j : Int) + 1).toNat < L.length - (j : Int).toNat
          omega)
        rcases HIN.out w (Below.refl _ _) with h0 | ⟨b, o, rfl, hb, hc⟩
        · rw [h0] at hlt; exact absurd hlt (by simp)
        have hcj := hc j hlt
        generalize L[j] = ac at *
        obtain ⟨en, kd, ix, life⟩ := ac
        have HLC : Hid (∀ V, Below w.heap.size w V → SpAt V b (o + j * 4) ⟨en, kd, ix, life⟩) := Lib.hid (fun V hV => by
          have e := fun q => World.cell?_of_block (a := ⟨b, q, none⟩) (hV.block b hb)
          obtain ⟨a0, a1, a2, a3⟩ := hcj
          exact ⟨(e _).trans a0, (e _).trans a1, (e _).trans a2, (e _).trans a3⟩)
        clear hcj hc hlt hj
        obtain ⟨d0, d1, d2, d3⟩ := HLC.out wq HBW.out
        simp only at d0 d1 d2 d3
        rcases and_one_two en with hbt | hbt
        · obtain ⟨⟨pc0, pc1, pc2, pc3, pf0, pf1, pf2, pf3⟩, ⟨qc0, qc1, qc2, qc3, qf0, qf1, qf2, qf3⟩⟩ := HE.out
          go_upto_region 17 with (fail)
          clear pc0 pc1 pc2 pc3 pf0 pf1 pf2 pf3 qc0 qc1 qc2 qc3 qf0 qf1 qf2 qf3
          clear d0 d1 d2 d3
          have HF : Hid (E8 ((wq.alloc (.cells #[.int .i64 en, .int .i64 kd, .int .i64 ix, .int .i64 life] 53)).alloc (seO x0)) eb x0 x1 ∧ Below w.heap.size w ((wq.alloc (.cells #[.int .i64 en, .int .i64 kd, .int .i64 ix, .int .i64 life] 53)).alloc (seO x0)) ∧ Wy ((wq.alloc (.cells #[.int .i64 en, .int .i64 kd, .int .i64 ix, .int .i64 life] 53)).alloc (seO x0)) r ga gc G ∧ ((wq.alloc (.cells #[.int .i64 en, .int .i64 kd, .int .i64 ix, .int .i64 life] 53)).alloc (seO x0)).rangeAt wq.heap.size 0 [.int .i64 en, .int .i64 kd, .int .i64 ix, .int .i64 life] ∧ S4 ((wq.alloc (.cells #[.int .i64 en, .int .i64 kd, .int .i64 ix, .int .i64 life] 53)).alloc (seO x0)) (wq.heap.size + 1) 0 x0 ∧ ((wq.alloc (.cells #[.int .i64 en, .int .i64 kd, .int .i64 ix, .int .i64 life] 53)).alloc (seO x0)).heap.size = wq.heap.size + 2) := Lib.hid (by
            have q := bel2 wq (.cells #[.int .i64 en, .int .i64 kd, .int .i64 ix, .int .i64 life] 53) (seO x0)
            have f := S4.first (wq.alloc (.cells #[.int .i64 en, .int .i64 kd, .int .i64 ix, .int .i64 life] 53)) x0
            rw [World.size_alloc] at f
            exact ⟨HE.out.below q hbl, gNx HBW.out q, Rw.below HWY.out q, range_n (range_box0 wq [.int .i64 en, .int .i64 kd, .int .i64 ix, .int .i64 life] 53) (by simp) (gAl _ _), f, by simp⟩)
          obtain ⟨V1, hV1⟩ : ∃ V1, V1 = (wq.alloc (.cells #[.int .i64 en, .int .i64 kd, .int .i64 ix, .int .i64 life] 53)).alloc (.cells #[.int .u64 x0.m, .int .u64 x0.p, .bool x0.u, .int .i64 x0.s] 28) := ⟨_, rfl⟩
          rw [← hV1]
          rw [show (wq.alloc (.cells #[.int .i64 en, .int .i64 kd, .int .i64 ix, .int .i64 life] 53)).alloc (seO x0) = V1 from hV1.symm] at HF
          clear hV1 HWY HE HBW hbl
          obtain ⟨wb, hwb⟩ : ∃ wb, wb = wq.heap.size + 1 := ⟨_, rfl⟩
          rw [← hwb]
          rw [← hwb] at HF
          have HZ : Hid (r < V1.heap.size ∧ w.heap.size ≤ r ∧ r ≠ eb ∧ eb < V1.heap.size ∧ wb < V1.heap.size ∧ wb ≠ eb ∧ wb ≠ r ∧ wq.heap.size ≠ eb ∧ wq.heap.size < V1.heap.size ∧ wq.heap.size ≠ r ∧ w.heap.size ≤ eb) := Lib.hid (by have := HR.out; have := HF.out.2.2.2.2.2; have := HEB.out; omega)
          clear hwb HR
          generalize wq.heap.size = sb at *
          by_cases h0 : kd = 0
          · subst h0
            as_aux_lemma =>
              obtain ⟨⟨pc0, pc1, pc2, pc3, pf0, pf1, pf2, pf3⟩, ⟨qc0, qc1, qc2, qc3, qf0, qf1, qf2, qf3⟩⟩ := HF.out.1
              have hebl : eb < V1.heap.size := HZ.out.2.2.2.1
              go_wp2_with fail
              refine (hello_any x0 _).mono ?_
              rintro e1 w2 ⟨rfl, b2⟩
              clear pc0 pc1 pc2 pc3 pf0 pf1 pf2 pf3 qc0 qc1 qc2 qc3 qf0 qf1 qf2 qf3
              have HB2 := Lib.hid b2
              clear b2 hebl
              obtain ⟨a9, c9, V9, r9, hrun, hwy9, hr9, hrl9, hxr⟩ := sd_app (w := w2) 0 x0.m x0.p (Rw.below HF.out.2.2.1 HB2.out) (Nat.lt_of_lt_of_le HZ.out.1 HB2.out.size) (by have := HLG.out; omega)
              have HRUN := Lib.hid hrun
              have HX : Hid (S4 V9 wb 0 x0 ∧ E8 V9 eb x0 x1 ∧ Below w.heap.size w V9 ∧ wb < V9.heap.size ∧ eb < V9.heap.size ∧ w.heap.size ≤ r9 ∧ r9 ≠ eb) := Lib.hid (by
                obtain ⟨z1, z2, z3, z4, z5, z6, z7, z8, z9, z10, z11⟩ := HZ.out
                have hs2 := HB2.out.size
                have hs9 := hxr.size
                have e2 := HF.out.1.below HB2.out z4
                have s2 := HF.out.2.2.2.2.1.below HB2.out z5
                exact ⟨s2.xr hxr (by omega) z7 z7, ⟨e2.1.xr hxr (by omega) (Ne.symm z3) (Ne.symm z3), e2.2.xr hxr (by omega) (Ne.symm z3) (Ne.symm z3)⟩, (HF.out.2.1.trans (HB2.out.mono (by omega))).trans (hxr.below z2 z2 (by omega)), by omega, by omega, by omega, by omega⟩)
              have HG : Hid (E8 V9 eb x0 x1 ∧ Below w.heap.size w V9 ∧ Wy V9 r9 a9 c9 (G ++ [(⟨0, x0.m, x0.p⟩ : Sd)]) ∧ S4 V9 wb 0 x0 ∧ r9 < V9.heap.size ∧ eb < V9.heap.size ∧ wb < V9.heap.size ∧ w.heap.size ≤ r9 ∧ r9 ≠ eb) := Lib.hid ⟨HX.out.2.1, HX.out.2.2.1, hwy9, HX.out.1, hrl9, HX.out.2.2.2.2.1, HX.out.2.2.2.1, HX.out.2.2.2.2.2.1, HX.out.2.2.2.2.2.2⟩
              have HGD : Hid (Gd 0 x0 x0 (G ++ [(⟨0, x0.m, x0.p⟩ : Sd)])) := Lib.hid ((HA.out.1.more _).same)
              clear hrun hwy9 hr9 hrl9 hxr HX
              have HLN : Hid ((G ++ [(⟨0, x0.m, x0.p⟩ : Sd)]).length ≤ G.length + 1) := Lib.hid (by simp)
              have HAW : Hid (Aw 0 x0 (G ++ [(⟨0, x0.m, x0.p⟩ : Sd)]) ∧ Aw 1 x1 (G ++ [(⟨0, x0.m, x0.p⟩ : Sd)]) ∧ SdOk (G ++ [(⟨0, x0.m, x0.p⟩ : Sd)])) := Lib.hid ⟨HA.out.1.more _, HA.out.2.1.more _, HA.out.2.2.more ⟨HA.out.1.1.m0, HA.out.1.1.m1⟩⟩
              generalize hGG : G ++ [(⟨0, x0.m, x0.p⟩ : Sd)] = GG at *
              clear hGG
              go_upto_region 34 with (at_builtin; refine Lib.wpList_append_run _ rfl _ _ _ _ rfl _ _ rfl rfl _ _ (HRUN.out _) ?_)
              clear HRUN
              obtain ⟨⟨pc0, pc1, pc2, pc3, pf0, pf1, pf2, pf3⟩, ⟨qc0, qc1, qc2, qc3, qf0, qf1, qf2, qf3⟩⟩ := HG.out.1
              obtain ⟨wc0, wc1, wc2, wc3, -, -, -, -⟩ := HG.out.2.2.2.1
              have hwbl : wb < V9.heap.size := HG.out.2.2.2.2.2.2.1
              have hebl : eb < V9.heap.size := HG.out.2.2.2.2.2.1
              have hm : decide (x0.m < x0.m) = false := HGD.out.2.1
              rcases HGD.out.2.2.1 with hP | ⟨hP, hQ, hu⟩
              · as_aux_lemma =>
                  cases hu : x0.u
                  · rw [hu] at pc2
                    go_wp2_with fail
                    exact HNX.out _ _ GG a9 c9 r9 _ HLN.out (HAW.out.1) (HAW.out.2.1) (HAW.out.2.2) (HG.out.2.2.1.below (gAl V9 _)) (Nat.lt_of_lt_of_le HG.out.2.2.2.2.1 (gAl V9 _).size) HG.out.2.2.2.2.2.2.2.1 HG.out.2.2.2.2.2.2.2.2 (Nat.lt_of_lt_of_le HG.out.2.2.2.2.2.1 (gAl V9 _).size) (HG.out.2.1.trans ((gAl V9 _).mono (Nat.le_trans HG.out.2.2.2.2.2.2.2.1 (Nat.le_of_lt HG.out.2.2.2.2.1)))) (HG.out.1.below (gAl V9 _) HG.out.2.2.2.2.2.1)
                  · have HH := Lib.hid (heard_yes GG r9 a9 c9 0 x0.m x0.p true x0.s (HGD.out.2.2.2 hu) (by have := HLG.out; have := (show GG.length ≤ G.length + 1 from HLN.out); omega))
                    rw [hu] at pc2
                    go_wp2_with fail
                    refine (HH.out _ (Rw.below HG.out.2.2.1 (gAl V9 _))).mono ?_
                    rintro e9 w9 ⟨rfl, b9⟩
                    have HB9 := Lib.hid (gNx (gAl V9 _) b9)
                    clear b9
                    go_wp2_with fail
                    exact HNX.out _ _ GG a9 c9 r9 w9 HLN.out (HAW.out.1) (HAW.out.2.1) (HAW.out.2.2) (HG.out.2.2.1.below HB9.out) (Nat.lt_of_lt_of_le HG.out.2.2.2.2.1 HB9.out.size) HG.out.2.2.2.2.2.2.2.1 HG.out.2.2.2.2.2.2.2.2 (Nat.lt_of_lt_of_le HG.out.2.2.2.2.2.1 HB9.out.size) (HG.out.2.1.trans (HB9.out.mono (Nat.le_trans HG.out.2.2.2.2.2.2.2.1 (Nat.le_of_lt HG.out.2.2.2.2.1)))) (HG.out.1.below HB9.out HG.out.2.2.2.2.2.1)
              · as_aux_lemma =>
                  rw [hu] at pc2
                  go_wp2_with fail
                  exact HNX.out _ _ GG a9 c9 r9 _ HLN.out (HAW.out.1) (HAW.out.2.1) (HAW.out.2.2) (HG.out.2.2.1.below (gAl V9 _)) (Nat.lt_of_lt_of_le HG.out.2.2.2.2.1 (gAl V9 _).size) HG.out.2.2.2.2.2.2.2.1 HG.out.2.2.2.2.2.2.2.2 (Nat.lt_of_lt_of_le HG.out.2.2.2.2.2.1 (gAl V9 _).size) (HG.out.2.1.trans ((gAl V9 _).mono (Nat.le_trans HG.out.2.2.2.2.2.2.2.1 (Nat.le_of_lt HG.out.2.2.2.2.1)))) (HG.out.1.below (gAl V9 _) HG.out.2.2.2.2.2.1)
          by_cases h12 : kd = 1 ∨ kd = 2
          · have n0 : (kd == 0) = false := by simpa using h0
            clear h0
            by_cases hix : 0 ≤ ix ∧ ix < (G.length : Int)
            · obtain ⟨i, rfl⟩ : ∃ i : Nat, ix = (i : Int) := ⟨ix.toNat, by omega⟩
              have hi : i < G.length := by omega
              obtain ⟨go_, rfl, hgl2, hra⟩ := Wy.at HF.out.2.2.1 (by omega)
              obtain ⟨k0, k1, k2⟩ := sd_cells hra hi
              have hmem := List.getElem_mem hi
              generalize G[i] = g at *
              obtain ⟨fr, gn, ge⟩ := g
              simp only at k0 k1 k2
              have q1 : ((i : Int) < 0) = False := by simp
              have q2 : decide ((i : Int) < 0) = false := by simp
              have q3 : decide ((G.length : Int) ≤ (i : Int)) = false := by simp; omega
              have q4 : ¬ ((G.length : Int) ≤ (i : Int)) := by omega
              have q5 : (0 : Int) ≤ (i : Int) := by omega
              have q6 : (i : Int) < (G.length : Int) := by omega
              have hsb : sb < V1.heap.size := HZ.out.2.2.2.2.2.2.2.2.1
              have hrr : r < V1.heap.size := HZ.out.1
              clear q1 hix hra hi
              by_cases hfr : fr = 0
              · have q7 : (fr == 0) = true := by simpa using hfr
                clear hfr
                rcases h12 with rfl | rfl
                all_goals
                  have sd1 := HF.out.2.2.2.1 1 _ rfl
                  have sd2 := HF.out.2.2.2.1 2 _ rfl
                  go_wp2_with fail
                  exact HNX.out _ _ G _ _ r V1 (Nat.le_succ _) HA.out.1 HA.out.2.1 HA.out.2.2 HF.out.2.2.1 HZ.out.1 HZ.out.2.1 HZ.out.2.2.1 HZ.out.2.2.2.1 HF.out.2.1 HF.out.1
              have q7 : (fr == 0) = false := by simpa using hfr
              have HMEM : Hid ((⟨fr, gn, ge⟩ : Sd) ∈ G ∧ (⟨fr, gn, ge⟩ : Sd).fr ≠ 0) := Lib.hid ⟨hmem, hfr⟩
              clear hmem hfr
              rcases h12 with rfl | rfl
              · as_aux_lemma =>
                  have sd1 := HF.out.2.2.2.1 1 _ rfl
                  have sd2 := HF.out.2.2.2.1 2 _ rfl
                  go_upto_region 24 with (fail)
                  clear k0 k1 k2 q2 q3 q4 q5 q6 q7
                  have HF2 : Hid (Below V1.heap.size V1 (V1.alloc (.cells #[.int .i64 fr, .int .u64 gn, .int .u64 ge] 55)) ∧ (V1.alloc (.cells #[.int .i64 fr, .int .u64 gn, .int .u64 ge] 55)).rangeAt V1.heap.size 0 [.int .i64 fr, .int .u64 gn, .int .u64 ge] ∧ V1.heap.size ≠ eb ∧ V1.heap.size < (V1.alloc (.cells #[.int .i64 fr, .int .u64 gn, .int .u64 ge] 55)).heap.size) := Lib.hid ⟨gAl _ _, range_box0 V1 [.int .i64 fr, .int .u64 gn, .int .u64 ge] 55, by have := HZ.out; omega, by simp⟩
                  obtain ⟨gb, hgb⟩ : ∃ gb, gb = V1.heap.size := ⟨_, rfl⟩
                  obtain ⟨V2, hV2⟩ : ∃ V2, V2 = V1.alloc (.cells #[.int .i64 fr, .int .u64 gn, .int .u64 ge] 55) := ⟨_, rfl⟩
                  rw [← hV2, ← hgb]
                  rw [← hV2] at HF2
                  have HG2 : Hid (V2.rangeAt gb 0 [.int .i64 fr, .int .u64 gn, .int .u64 ge] ∧ gb ≠ eb ∧ gb < V2.heap.size) := Lib.hid (by rw [hgb]; exact HF2.out.2)
                  have HB2 := Lib.hid HF2.out.1
                  have sd1 := (range_n HF.out.2.2.2.1 HZ.out.2.2.2.2.2.2.2.2.1 HB2.out) 1 _ rfl
                  clear hV2 hgb HF2 hsb hrr sd2
                  have HH := Lib.hid (hear_ex x0 gn ge _ rfl)
                  have HGD := Lib.hid (HA.out.1.hear (k := 0) HMEM.out.1 HMEM.out.2 HA.out.2.2)
                  simp only at HGD
                  generalize (hearF x0 gn ge).1 = y at *
                  obtain ⟨⟨pc0, pc1, pc2, pc3, pf0, pf1, pf2, pf3⟩, ⟨qc0, qc1, qc2, qc3, qf0, qf1, qf2, qf3⟩⟩ := (HF.out.1.below HB2.out HZ.out.2.2.2.1)
                  go_upto_region 25 with (fail)
                  clear pc0 pc1 pc2 pc3 pf0 pf1 pf2 pf3 qc0 qc1 qc2 qc3 qf0 qf1 qf2 qf3
                  clear sd1
                  refine wp_region_held_drew (S := fun V => V.rangeAt gb 0 [.int .i64 fr, .int .u64 gn, .int .u64 ge]) (by kernel_rfl) ((World.rangeAt_drew V2 _ _ _).2 HG2.out.1) (fun hH => ?_)
                  clear hH
                  have hs0 : V2.drew.rangeAt gb 0 [.int .i64 fr, .int .u64 gn, .int .u64 ge] := (World.rangeAt_drew V2 _ _ _).2 HG2.out.1
                  have HB0 : Hid (Below V1.heap.size V1 V2.drew) := Lib.hid HB2.out.drew
                  have hz0 : gb < V2.drew.heap.size := HG2.out.2.2
                  generalize V2.drew = V0 at *
                  refine tk 0 (by assumption) rfl (by kernel_rfl) (fun _ _ _ h => h) (fun V hV => by go_simp; try with_reducible rfl) ?_
                  try simp only [Act.put, sqA, sqB, sqC, sqD, sqE, sqF]
                  refine tk 1 (by assumption) rfl (by kernel_rfl) (fun _ _ _ h => h) (fun V hV => by go_simp; try with_reducible rfl) ?_
                  try simp only [Act.put, sqA, sqB, sqC, sqD, sqE, sqF]
                  refine tk 2 (by assumption) rfl (by kernel_rfl) (fun _ _ _ h => h) (fun V hV => by go_simp; try with_reducible rfl) ?_
                  try simp only [Act.put, sqA, sqB, sqC, sqD, sqE, sqF]
                  refine tk 4 (by assumption) rfl (by kernel_rfl) (fun _ _ _ h => h) (fun V hV => by go_simp; try with_reducible rfl) ?_
                  try simp only [Act.put, sqA, sqB, sqC, sqD, sqE, sqF]
                  refine tk 5 (by assumption) rfl (by kernel_rfl) (fun _ _ _ h => h) (fun V hV => by have z3 := hV 1 _ rfl; go_simp; try with_reducible rfl) ?_
                  try simp only [Act.put, sqA, sqB, sqC, sqD, sqE, sqF]
                  refine tk 6 (by assumption) rfl (by kernel_rfl) (fun _ _ _ h => h) (fun V hV => by go_simp; try with_reducible rfl) ?_
                  try simp only [Act.put, sqA, sqB, sqC, sqD, sqE, sqF]
                  refine tk 7 (by assumption) rfl (by kernel_rfl) (fun _ _ _ h => h) (fun V hV => by have z3 := hV 2 _ rfl; go_simp; try with_reducible rfl) ?_
                  try simp only [Act.put, sqA, sqB, sqC, sqD, sqE, sqF]
                  refine wpAnyH_ready (rs := [3]) (by kernel_rfl) (by simp) ?_
                  refine AllReadyH.cons (o := _) rfl (fun K hK => ?_) AllReadyH.nil
                  rw [if_pos (by rfl)]
                  refine wp_load_mid 28 (.tmp 112) rfl eb 0 rfl (seL x0) _ (HF.out.1.below HB0.out HZ.out.2.2.2.1).1.range Try.underlying28 (by rfl) (by kernel_rfl) ?_
                  refine hK.out _ _ hs0 (fun hH => ?_)
                  clear hK K hH
                  try simp only [Act.put, sqA, sqB, sqC, sqD, sqE, sqF]
                  refine wpAnyH_ready (rs := [8]) (by kernel_rfl) (by simp) ?_
                  refine AllReadyH.cons (o := _) rfl (fun K hK => ?_) AllReadyH.nil
                  go_simp
                  refine (HH.out _).mono ?_
                  rintro e2 w3 ⟨f, f2, rfl, b3⟩
                  have HB3 : Hid (Below V1.heap.size V1 w3) := Lib.hid (gNx HB0.out b3)
                  have hs3 := range_n hs0 hz0 b3
                  clear b3
                  go_wp2_with fail
                  refine hK.out _ _ hs3 (fun hH => ?_)
                  clear hK K hH
                  try simp only [Act.put, sqA, sqB, sqC, sqD, sqE, sqF]
                  refine tk 9 (by assumption) rfl (by kernel_rfl) (fun _ _ _ h => h) (fun V hV => by go_simp; try with_reducible rfl) ?_
                  try simp only [Act.put, sqA, sqB, sqC, sqD, sqE, sqF]
                  refine tk 10 (by assumption) rfl (by kernel_rfl) (fun _ _ _ h => h) (fun V hV => by go_simp; try with_reducible rfl) ?_
                  try simp only [Act.put, sqA, sqB, sqC, sqD, sqE, sqF]
                  refine tk 11 (by assumption) rfl (by kernel_rfl) (fun _ _ _ h => h) (fun V hV => by go_simp; try with_reducible rfl) ?_
                  try simp only [Act.put, sqA, sqB, sqC, sqD, sqE, sqF]
                  refine tk 12 (by assumption) rfl (by kernel_rfl) (fun _ _ _ h => h) (fun V hV => by go_simp; try with_reducible rfl) ?_
                  try simp only [Act.put, sqA, sqB, sqC, sqD, sqE, sqF]
                  refine tk 13 (by assumption) rfl (by kernel_rfl) (fun _ _ _ h => h) (fun V hV => by go_simp; try with_reducible rfl) ?_
                  try simp only [Act.put, sqA, sqB, sqC, sqD, sqE, sqF]
                  refine wpAnyH_ready (rs := [14]) (by kernel_rfl) (by simp) ?_
                  refine AllReadyH.cons (o := _) rfl (fun K hK => ?_) AllReadyH.nil
                  obtain ⟨V9, hV9, p1, p2, p3, p4, p5, p6⟩ := ag_put0 (cs := [.int .i64 fr, .int .u64 gn, .int .u64 ge]) (HF.out.1.below HB3.out HZ.out.2.2.2.1) (HF.out.2.1.trans (Below.mono HB3.out (Nat.le_trans HZ.out.2.1 (Nat.le_of_lt HZ.out.1)))) HZ.out.2.2.2.2.2.2.2.2.2.2 (Nat.lt_of_lt_of_le HZ.out.2.2.2.1 (Below.size HB3.out)) (Rw.below HF.out.2.2.1 HB3.out) (Nat.lt_of_lt_of_le HZ.out.1 (Below.size HB3.out)) HZ.out.2.2.1 (HF.out.2.2.2.2.1.below HB3.out HZ.out.2.2.2.2.1) HZ.out.2.2.2.2.2.1 (gb := gb) (hs3) (HG2.out.2.1) y.m y.p y.u y.s
                  rw [if_pos (by rfl)]
                  refine wp_store_mid 28 (.tmp 122) (.tmp 119) rfl eb 0 (seL y).toArray rfl rfl (HF.out.1.below HB3.out HZ.out.2.2.2.1).1.there (by kernel_rfl) (all_oneCell_toArray (seL_one y)) ?_
                  rw [show w3.setCells eb 0 (seL y).toArray.toList = V9 from hV9.symm]
                  refine hK.out _ _ p6 (fun hH => ?_)
                  clear hK K hH hV9
                  try simp only [Act.put, sqA, sqB, sqC, sqD, sqE, sqF]
                  refine wpAnyH_done (by kernel_rfl) ?_ _
                  have HG : Hid (E8 V9 eb y x1 ∧ Below w.heap.size w V9 ∧ Wy V9 r (some ⟨r, go_, none⟩) gc G ∧ S4 V9 wb 0 x0 ∧ r < V9.heap.size ∧ eb < V9.heap.size ∧ wb < V9.heap.size ∧ w.heap.size ≤ r ∧ r ≠ eb) := Lib.hid ⟨p1, p2, p4, p5, Nat.lt_of_lt_of_le (Nat.lt_of_lt_of_le HZ.out.1 (Below.size HB3.out)) p3, Nat.lt_of_lt_of_le (Nat.lt_of_lt_of_le HZ.out.2.2.2.1 (Below.size HB3.out)) p3, Nat.lt_of_lt_of_le (Nat.lt_of_lt_of_le HZ.out.2.2.2.2.1 (Below.size HB3.out)) p3, HZ.out.2.1, HZ.out.2.2.1⟩
                  clear p1 p2 p3 p4 p5 p6 hs0 hs3
                  go_upto_region 34 with (fail)
                  obtain ⟨⟨pc0, pc1, pc2, pc3, pf0, pf1, pf2, pf3⟩, ⟨qc0, qc1, qc2, qc3, qf0, qf1, qf2, qf3⟩⟩ := HG.out.1
                  obtain ⟨wc0, wc1, wc2, wc3, -, -, -, -⟩ := HG.out.2.2.2.1
                  have hwbl : wb < V9.heap.size := HG.out.2.2.2.2.2.2.1
                  have hebl : eb < V9.heap.size := HG.out.2.2.2.2.2.1
                  have hm : decide (y.m < x0.m) = false := HGD.out.2.1
                  rcases HGD.out.2.2.1 with hP | ⟨hP, hQ, hu⟩
                  · as_aux_lemma =>
                      cases hu : y.u
                      · rw [hu] at pc2
                        go_wp2_with fail
                        exact HNX.out _ _ G (some ⟨r, go_, none⟩) gc r _ (Nat.le_succ _) (HGD.out.aw) (HA.out.2.1) (HA.out.2.2) (HG.out.2.2.1.below (gAl V9 _)) (Nat.lt_of_lt_of_le HG.out.2.2.2.2.1 (gAl V9 _).size) HG.out.2.2.2.2.2.2.2.1 HG.out.2.2.2.2.2.2.2.2 (Nat.lt_of_lt_of_le HG.out.2.2.2.2.2.1 (gAl V9 _).size) (HG.out.2.1.trans ((gAl V9 _).mono (Nat.le_trans HG.out.2.2.2.2.2.2.2.1 (Nat.le_of_lt HG.out.2.2.2.2.1)))) (HG.out.1.below (gAl V9 _) HG.out.2.2.2.2.2.1)
                      · have HH := Lib.hid (heard_yes G r (some ⟨r, go_, none⟩) gc 0 y.m y.p true y.s (HGD.out.2.2.2 hu) (by have := HLG.out; have := (show G.length ≤ G.length + 1 from (Nat.le_succ _)); omega))
                        rw [hu] at pc2
                        go_wp2_with fail
                        refine (HH.out _ (Rw.below HG.out.2.2.1 (gAl V9 _))).mono ?_
                        rintro e9 w9 ⟨rfl, b9⟩
                        have HB9 := Lib.hid (gNx (gAl V9 _) b9)
                        clear b9
                        go_wp2_with fail
                        exact HNX.out _ _ G (some ⟨r, go_, none⟩) gc r w9 (Nat.le_succ _) (HGD.out.aw) (HA.out.2.1) (HA.out.2.2) (HG.out.2.2.1.below HB9.out) (Nat.lt_of_lt_of_le HG.out.2.2.2.2.1 HB9.out.size) HG.out.2.2.2.2.2.2.2.1 HG.out.2.2.2.2.2.2.2.2 (Nat.lt_of_lt_of_le HG.out.2.2.2.2.2.1 HB9.out.size) (HG.out.2.1.trans (HB9.out.mono (Nat.le_trans HG.out.2.2.2.2.2.2.2.1 (Nat.le_of_lt HG.out.2.2.2.2.1)))) (HG.out.1.below HB9.out HG.out.2.2.2.2.2.1)
                  · as_aux_lemma =>
                      rw [hu] at pc2
                      go_wp2_with fail
                      exact HNX.out _ _ G (some ⟨r, go_, none⟩) gc r _ (Nat.le_succ _) (HGD.out.aw) (HA.out.2.1) (HA.out.2.2) (HG.out.2.2.1.below (gAl V9 _)) (Nat.lt_of_lt_of_le HG.out.2.2.2.2.1 (gAl V9 _).size) HG.out.2.2.2.2.2.2.2.1 HG.out.2.2.2.2.2.2.2.2 (Nat.lt_of_lt_of_le HG.out.2.2.2.2.2.1 (gAl V9 _).size) (HG.out.2.1.trans ((gAl V9 _).mono (Nat.le_trans HG.out.2.2.2.2.2.2.2.1 (Nat.le_of_lt HG.out.2.2.2.2.1)))) (HG.out.1.below (gAl V9 _) HG.out.2.2.2.2.2.1)
              · as_aux_lemma =>
                  have sd1 := HF.out.2.2.2.1 1 _ rfl
                  have sd2 := HF.out.2.2.2.1 2 _ rfl
                  go_upto_region 24 with (fail)
                  clear k0 k1 k2 q2 q3 q4 q5 q6 q7
                  have HF2 : Hid (Below V1.heap.size V1 (V1.alloc (.cells #[.int .i64 fr, .int .u64 gn, .int .u64 ge] 55)) ∧ (V1.alloc (.cells #[.int .i64 fr, .int .u64 gn, .int .u64 ge] 55)).rangeAt V1.heap.size 0 [.int .i64 fr, .int .u64 gn, .int .u64 ge] ∧ V1.heap.size ≠ eb ∧ V1.heap.size < (V1.alloc (.cells #[.int .i64 fr, .int .u64 gn, .int .u64 ge] 55)).heap.size) := Lib.hid ⟨gAl _ _, range_box0 V1 [.int .i64 fr, .int .u64 gn, .int .u64 ge] 55, by have := HZ.out; omega, by simp⟩
                  obtain ⟨gb, hgb⟩ : ∃ gb, gb = V1.heap.size := ⟨_, rfl⟩
                  obtain ⟨V2, hV2⟩ : ∃ V2, V2 = V1.alloc (.cells #[.int .i64 fr, .int .u64 gn, .int .u64 ge] 55) := ⟨_, rfl⟩
                  rw [← hV2, ← hgb]
                  rw [← hV2] at HF2
                  have HG2 : Hid (V2.rangeAt gb 0 [.int .i64 fr, .int .u64 gn, .int .u64 ge] ∧ gb ≠ eb ∧ gb < V2.heap.size) := Lib.hid (by rw [hgb]; exact HF2.out.2)
                  have HB2 := Lib.hid HF2.out.1
                  have sd1 := (range_n HF.out.2.2.2.1 HZ.out.2.2.2.2.2.2.2.2.1 HB2.out) 1 _ rfl
                  clear hV2 hgb HF2 hsb hrr sd2
                  have HH := Lib.hid (accept_ex x0 gn ge)
                  have HAC := Lib.hid (HA.out.1.accept (k := 0) HMEM.out.1 HMEM.out.2)
                  simp only at HAC
                  generalize acceptF x0 gn ge = yy at *
                  obtain ⟨y, f, f2⟩ := yy
                  simp only at HAC HH
                  have HGD := Lib.hid HAC.out.1
                  obtain ⟨⟨pc0, pc1, pc2, pc3, pf0, pf1, pf2, pf3⟩, ⟨qc0, qc1, qc2, qc3, qf0, qf1, qf2, qf3⟩⟩ := (HF.out.1.below HB2.out HZ.out.2.2.2.1)
                  go_upto_region 26 with (fail)
                  clear pc0 pc1 pc2 pc3 pf0 pf1 pf2 pf3 qc0 qc1 qc2 qc3 qf0 qf1 qf2 qf3
                  clear sd1
                  refine wp_region_held_drew (S := fun V => Below V2.heap.size V2 V) (by kernel_rfl) (Below.refl V2.heap.size V2).drew (fun hH => ?_)
                  clear hH
                  obtain ⟨V, hV⟩ : ∃ V, V = V2.drew := ⟨_, rfl⟩
                  have kv : Below V2.heap.size V2 V2.drew := (Below.refl V2.heap.size V2).drew
                  rw [← hV]
                  rw [← hV] at kv
                  clear hV
                  have KV := Lib.hid kv
                  refine tk 0 (by assumption) rfl (by kernel_rfl) (fun _ _ _ h => h) (fun V hV => by go_simp; try with_reducible rfl) ?_
                  try simp only [Act.put, sqA, sqB, sqC, sqD, sqE, sqF]
                  refine tk 1 (by assumption) rfl (by kernel_rfl) (fun _ _ _ h => h) (fun V hV => by go_simp; try with_reducible rfl) ?_
                  try simp only [Act.put, sqA, sqB, sqC, sqD, sqE, sqF]
                  refine tk 2 (by assumption) rfl (by kernel_rfl) (fun _ _ _ h => h) (tk_load (S := fun V => Below V2.heap.size V2 V) 28 (.tmp 125) rfl eb 0 rfl (seL x0) _ (fun V hV => (HF.out.1.below (gNx HB2.out hV) HZ.out.2.2.2.1).1.range) Try.underlying28 (by rfl) (by kernel_rfl)) ?_
                  try simp only [Act.put, sqA, sqB, sqC, sqD, sqE, sqF]
                  refine tk 3 (by assumption) rfl (by kernel_rfl) (fun _ _ _ h => h) (fun V hV => by go_simp; try with_reducible rfl) ?_
                  try simp only [Act.put, sqA, sqB, sqC, sqD, sqE, sqF]
                  refine tk 4 (by assumption) rfl (by kernel_rfl) (fun _ _ _ h => h) (fun V hV => by have z3 := (range_n HG2.out.1 HG2.out.2.2 hV) 1 _ rfl; go_simp; try with_reducible rfl) ?_
                  try simp only [Act.put, sqA, sqB, sqC, sqD, sqE, sqF]
                  refine tk 5 (by assumption) rfl (by kernel_rfl) (fun _ _ _ h => h) (fun V hV => by go_simp; try with_reducible rfl) ?_
                  try simp only [Act.put, sqA, sqB, sqC, sqD, sqE, sqF]
                  refine tk 6 (by assumption) rfl (by kernel_rfl) (fun _ _ _ h => h) (fun V hV => by have z3 := (range_n HG2.out.1 HG2.out.2.2 hV) 2 _ rfl; go_simp; try with_reducible rfl) ?_
                  try simp only [Act.put, sqA, sqB, sqC, sqD, sqE, sqF]
                  refine wpAnyH_ready (rs := [7, 12]) (by kernel_rfl) (by simp) ?_
                  refine AllReadyH.cons (o := _) rfl (fun K hK => ?_) (AllReadyH.cons (o := _) rfl (fun K hK => ?_) (AllReadyH.nil))
                  · go_simp
                    refine (HH.out _).mono ?_
                    rintro e2 VN ⟨rfl, b3⟩
                    have KW := Lib.hid (gNx KV.out b3)
                    try (have NB2 := Lib.hid (show VN.there nb 0 4 ∧ nb < VN.heap.size ∧ V2.heap.size ≤ nb from ⟨there_next NB.out.1 NB.out.2.1 b3, Nat.lt_of_lt_of_le NB.out.2.1 b3.size, NB.out.2.2⟩); clear NB; have NB := NB2; clear NB2)
                    clear b3
                    obtain ⟨V, hV⟩ : ∃ U, U = VN := ⟨_, rfl⟩
                    subst hV
                    clear KV
                    have KV := KW
                    clear KW
                    have kv := KV.out
                    go_wp2_with fail
                    refine hK.out _ _ kv (fun hH => ?_)
                    clear hK K hH
                    try simp only [Act.put, sqA, sqB, sqC, sqD, sqE, sqF]
                    refine tk 8 (by assumption) rfl (by kernel_rfl) (fun _ _ _ h => h) (fun V hV => by go_simp; try with_reducible rfl) ?_
                    try simp only [Act.put, sqA, sqB, sqC, sqD, sqE, sqF]
                    refine tk 9 (by assumption) rfl (by kernel_rfl) (fun _ _ _ h => h) (fun V hV => by go_simp; try with_reducible rfl) ?_
                    try simp only [Act.put, sqA, sqB, sqC, sqD, sqE, sqF]
                    refine tk 10 (by assumption) rfl (by kernel_rfl) (fun _ _ _ h => h) (fun V hV => by go_simp; try with_reducible rfl) ?_
                    try simp only [Act.put, sqA, sqB, sqC, sqD, sqE, sqF]
                    refine tk 11 (by assumption) rfl (by kernel_rfl) (fun _ _ _ h => h) (fun V hV => by go_simp; try with_reducible rfl) ?_
                    try simp only [Act.put, sqA, sqB, sqC, sqD, sqE, sqF]
                    refine wpAnyH_ready (rs := [12]) (by kernel_rfl) (by simp) ?_
                    refine AllReadyH.cons (o := _) rfl (fun K hK => ?_) AllReadyH.nil
                    go_simp
                    obtain ⟨nb, hnb⟩ : ∃ nb, nb = V.heap.size := ⟨_, rfl⟩
                    rw [← hnb]
                    have KW := Lib.hid (gNx KV.out (gAl V (.cells #[.int .u64 0, .int .u64 0, .bool false, .int .i64 0] 28)))
                    have NB : Hid ((V.alloc (.cells #[.int .u64 0, .int .u64 0, .bool false, .int .i64 0] 28)).there nb 0 4 ∧ nb < (V.alloc (.cells #[.int .u64 0, .int .u64 0, .bool false, .int .i64 0] 28)).heap.size ∧ V2.heap.size ≤ nb) := Lib.hid (by rw [hnb]; exact ⟨there_box V [.int .u64 0, .int .u64 0, .bool false, .int .i64 0] 28, by simp, KV.out.size⟩)
                    obtain ⟨VN, hV⟩ : ∃ U, U = V.alloc (.cells #[.int .u64 0, .int .u64 0, .bool false, .int .i64 0] 28) := ⟨_, rfl⟩
                    rw [← hV]
                    rw [← hV] at KW NB
                    clear hV hnb
                    obtain ⟨V, hV⟩ : ∃ U, U = VN := ⟨_, rfl⟩
                    subst hV
                    clear KV
                    have KV := KW
                    clear KW
                    have kv := KV.out
                    refine hK.out _ _ kv (fun hH => ?_)
                    clear hK K hH
                    try simp only [Act.put, sqA, sqB, sqC, sqD, sqE, sqF]
                    refine wpAnyH_ready (rs := [13]) (by kernel_rfl) (by simp) ?_
                    refine AllReadyH.cons (o := _) rfl (fun K hK => ?_) AllReadyH.nil
                    rw [if_pos (by rfl)]
                    refine wp_store_mid 28 (.tmp 17) (.tmp 132) rfl nb 0 (seL y).toArray rfl rfl NB.out.1 (by kernel_rfl) (all_oneCell_toArray (seL_one y)) ?_
                    have KW := Lib.hid (below_set nb NB.out.2.2 (seL y).toArray.toList 0 _ KV.out)
                    have NS := Lib.hid (show S4 (World.setCells _ nb 0 (seL y).toArray.toList) nb 0 y ∧ nb < (World.setCells _ nb 0 (seL y).toArray.toList).heap.size ∧ V2.heap.size ≤ nb from ⟨S4.of_there NB.out.1 y, by rw [setCells_size]; exact NB.out.2.1, NB.out.2.2⟩)
                    clear NB
                    refine hK.out _ _ KW.out (fun hH => ?_)
                    clear hK K hH
                    clear KV
                    have KV := KW
                    clear KW
                    have kv := KV.out
                    generalize World.setCells _ nb 0 (seL y).toArray.toList = V at *
                    try simp only [Act.put, sqA, sqB, sqC, sqD, sqE, sqF]
                    refine tk 14 (by assumption) rfl (by kernel_rfl) (fun _ _ _ h => h) (fun V hV => by go_simp; try with_reducible rfl) ?_
                    try simp only [Act.put, sqA, sqB, sqC, sqD, sqE, sqF]
                    refine tk 15 (by assumption) rfl (by kernel_rfl) (fun _ _ _ h => h) (fun V hV => by go_simp; try with_reducible rfl) ?_
                    try simp only [Act.put, sqA, sqB, sqC, sqD, sqE, sqF]
                    refine wpAnyH_done (by kernel_rfl) ?_ _
                    as_aux_lemma =>
                      have HB3 := Lib.hid (gNx HB2.out KV.out)
                      have hebl := Nat.lt_of_lt_of_le HZ.out.2.2.2.1 HB3.out.size
                      obtain ⟨⟨pc0, pc1, pc2, pc3, pf0, pf1, pf2, pf3⟩, ⟨qc0, qc1, qc2, qc3, qf0, qf1, qf2, qf3⟩⟩ := (HF.out.1.below HB3.out HZ.out.2.2.2.1)
                      obtain ⟨nc0, nc1, nc2, nc3, -, -, -, -⟩ := NS.out.1
                      have hnbl := NS.out.2.1
                      have hnee : nb ≠ eb := by have := NS.out.2.2; have := HB2.out.size; have := HZ.out; omega
                      go_upto_region 28 with (fail)
                      clear pc0 pc1 pc2 pc3 pf0 pf1 pf2 pf3 qc0 qc1 qc2 qc3 qf0 qf1 qf2 qf3
                      clear nc0 nc1 nc2 nc3 hnbl hebl hnee
                      obtain ⟨V9, hV9, p1, p2, p3, p4, p5, p6⟩ := ag_put0 (cs := [.int .i64 fr, .int .u64 gn, .int .u64 ge]) (HF.out.1.below HB3.out HZ.out.2.2.2.1) (HF.out.2.1.trans (Below.mono HB3.out (Nat.le_trans HZ.out.2.1 (Nat.le_of_lt HZ.out.1)))) HZ.out.2.2.2.2.2.2.2.2.2.2 (Nat.lt_of_lt_of_le HZ.out.2.2.2.1 (Below.size HB3.out)) (Rw.below HF.out.2.2.1 HB3.out) (Nat.lt_of_lt_of_le HZ.out.1 (Below.size HB3.out)) HZ.out.2.2.1 (HF.out.2.2.2.2.1.below HB3.out HZ.out.2.2.2.2.1) HZ.out.2.2.2.2.2.1 (gb := gb) (range_n HG2.out.1 HG2.out.2.2 KV.out) (HG2.out.2.1) y.m y.p y.u y.s
                      rw [← hV9]
                      have HG : Hid (E8 V9 eb y x1 ∧ Below w.heap.size w V9 ∧ Wy V9 r (some ⟨r, go_, none⟩) gc G ∧ S4 V9 wb 0 x0 ∧ r < V9.heap.size ∧ eb < V9.heap.size ∧ wb < V9.heap.size ∧ w.heap.size ≤ r ∧ r ≠ eb) := Lib.hid ⟨p1, p2, p4, p5, Nat.lt_of_lt_of_le (Nat.lt_of_lt_of_le HZ.out.1 (Below.size HB3.out)) p3, Nat.lt_of_lt_of_le (Nat.lt_of_lt_of_le HZ.out.2.2.2.1 (Below.size HB3.out)) p3, Nat.lt_of_lt_of_le (Nat.lt_of_lt_of_le HZ.out.2.2.2.2.1 (Below.size HB3.out)) p3, HZ.out.2.1, HZ.out.2.2.1⟩
                      have g1 := p6 1 _ rfl
                      have g2 := p6 2 _ rfl
                      have hgbl : gb < V9.heap.size := Nat.lt_of_lt_of_le (Nat.lt_of_lt_of_le HG2.out.2.2 KV.out.size) p3
                      clear hV9 p1 p2 p3 p4 p5 p6
                      obtain ⟨wc0, wc1, -, -, -, -, -, -⟩ := HG.out.2.2.2.1
                      rcases HAC.out.2 with rfl | ⟨rfl, e1, e2⟩
                      · go_upto_region 34 with (fail)
                        clear wc0 wc1 g1 g2 hgbl
                        obtain ⟨⟨pc0, pc1, pc2, pc3, pf0, pf1, pf2, pf3⟩, ⟨qc0, qc1, qc2, qc3, qf0, qf1, qf2, qf3⟩⟩ := HG.out.1
                        obtain ⟨wc0, wc1, wc2, wc3, -, -, -, -⟩ := HG.out.2.2.2.1
                        have hwbl : wb < V9.heap.size := HG.out.2.2.2.2.2.2.1
                        have hebl : eb < V9.heap.size := HG.out.2.2.2.2.2.1
                        have hm : decide (y.m < x0.m) = false := HGD.out.2.1
                        rcases HGD.out.2.2.1 with hP | ⟨hP, hQ, hu⟩
                        · as_aux_lemma =>
                            cases hu : y.u
                            · rw [hu] at pc2
                              go_wp2_with fail
                              exact HNX.out _ _ G (some ⟨r, go_, none⟩) gc r _ (Nat.le_succ _) (HGD.out.aw) (HA.out.2.1) (HA.out.2.2) (HG.out.2.2.1.below (gAl V9 _)) (Nat.lt_of_lt_of_le HG.out.2.2.2.2.1 (gAl V9 _).size) HG.out.2.2.2.2.2.2.2.1 HG.out.2.2.2.2.2.2.2.2 (Nat.lt_of_lt_of_le HG.out.2.2.2.2.2.1 (gAl V9 _).size) (HG.out.2.1.trans ((gAl V9 _).mono (Nat.le_trans HG.out.2.2.2.2.2.2.2.1 (Nat.le_of_lt HG.out.2.2.2.2.1)))) (HG.out.1.below (gAl V9 _) HG.out.2.2.2.2.2.1)
                            · have HH := Lib.hid (heard_yes G r (some ⟨r, go_, none⟩) gc 0 y.m y.p true y.s (HGD.out.2.2.2 hu) (by have := HLG.out; have := (show G.length ≤ G.length + 1 from (Nat.le_succ _)); omega))
                              rw [hu] at pc2
                              go_wp2_with fail
                              refine (HH.out _ (Rw.below HG.out.2.2.1 (gAl V9 _))).mono ?_
                              rintro e9 w9 ⟨rfl, b9⟩
                              have HB9 := Lib.hid (gNx (gAl V9 _) b9)
                              clear b9
                              go_wp2_with fail
                              exact HNX.out _ _ G (some ⟨r, go_, none⟩) gc r w9 (Nat.le_succ _) (HGD.out.aw) (HA.out.2.1) (HA.out.2.2) (HG.out.2.2.1.below HB9.out) (Nat.lt_of_lt_of_le HG.out.2.2.2.2.1 HB9.out.size) HG.out.2.2.2.2.2.2.2.1 HG.out.2.2.2.2.2.2.2.2 (Nat.lt_of_lt_of_le HG.out.2.2.2.2.2.1 HB9.out.size) (HG.out.2.1.trans (HB9.out.mono (Nat.le_trans HG.out.2.2.2.2.2.2.2.1 (Nat.le_of_lt HG.out.2.2.2.2.1)))) (HG.out.1.below HB9.out HG.out.2.2.2.2.2.1)
                        · as_aux_lemma =>
                            rw [hu] at pc2
                            go_wp2_with fail
                            exact HNX.out _ _ G (some ⟨r, go_, none⟩) gc r _ (Nat.le_succ _) (HGD.out.aw) (HA.out.2.1) (HA.out.2.2) (HG.out.2.2.1.below (gAl V9 _)) (Nat.lt_of_lt_of_le HG.out.2.2.2.2.1 (gAl V9 _).size) HG.out.2.2.2.2.2.2.2.1 HG.out.2.2.2.2.2.2.2.2 (Nat.lt_of_lt_of_le HG.out.2.2.2.2.2.1 (gAl V9 _).size) (HG.out.2.1.trans ((gAl V9 _).mono (Nat.le_trans HG.out.2.2.2.2.2.2.2.1 (Nat.le_of_lt HG.out.2.2.2.2.1)))) (HG.out.1.below (gAl V9 _) HG.out.2.2.2.2.2.1)
                      · have t1 : (gn != x0.p) = false := by simpa using e1
                        have t2 : (ge != x0.m) = false := by simpa using e2
                        clear e1 e2
                        go_upto_region 34 with (fail)
                        clear wc0 wc1 g1 g2 hgbl
                        obtain ⟨⟨pc0, pc1, pc2, pc3, pf0, pf1, pf2, pf3⟩, ⟨qc0, qc1, qc2, qc3, qf0, qf1, qf2, qf3⟩⟩ := HG.out.1
                        obtain ⟨wc0, wc1, wc2, wc3, -, -, -, -⟩ := HG.out.2.2.2.1
                        have hwbl : wb < V9.heap.size := HG.out.2.2.2.2.2.2.1
                        have hebl : eb < V9.heap.size := HG.out.2.2.2.2.2.1
                        have hm : decide (y.m < x0.m) = false := HGD.out.2.1
                        rcases HGD.out.2.2.1 with hP | ⟨hP, hQ, hu⟩
                        · as_aux_lemma =>
                            cases hu : y.u
                            · rw [hu] at pc2
                              go_wp2_with fail
                              exact HNX.out _ _ G (some ⟨r, go_, none⟩) gc r _ (Nat.le_succ _) (HGD.out.aw) (HA.out.2.1) (HA.out.2.2) (HG.out.2.2.1.below (gAl V9 _)) (Nat.lt_of_lt_of_le HG.out.2.2.2.2.1 (gAl V9 _).size) HG.out.2.2.2.2.2.2.2.1 HG.out.2.2.2.2.2.2.2.2 (Nat.lt_of_lt_of_le HG.out.2.2.2.2.2.1 (gAl V9 _).size) (HG.out.2.1.trans ((gAl V9 _).mono (Nat.le_trans HG.out.2.2.2.2.2.2.2.1 (Nat.le_of_lt HG.out.2.2.2.2.1)))) (HG.out.1.below (gAl V9 _) HG.out.2.2.2.2.2.1)
                            · have HH := Lib.hid (heard_yes G r (some ⟨r, go_, none⟩) gc 0 y.m y.p true y.s (HGD.out.2.2.2 hu) (by have := HLG.out; have := (show G.length ≤ G.length + 1 from (Nat.le_succ _)); omega))
                              rw [hu] at pc2
                              go_wp2_with fail
                              refine (HH.out _ (Rw.below HG.out.2.2.1 (gAl V9 _))).mono ?_
                              rintro e9 w9 ⟨rfl, b9⟩
                              have HB9 := Lib.hid (gNx (gAl V9 _) b9)
                              clear b9
                              go_wp2_with fail
                              exact HNX.out _ _ G (some ⟨r, go_, none⟩) gc r w9 (Nat.le_succ _) (HGD.out.aw) (HA.out.2.1) (HA.out.2.2) (HG.out.2.2.1.below HB9.out) (Nat.lt_of_lt_of_le HG.out.2.2.2.2.1 HB9.out.size) HG.out.2.2.2.2.2.2.2.1 HG.out.2.2.2.2.2.2.2.2 (Nat.lt_of_lt_of_le HG.out.2.2.2.2.2.1 HB9.out.size) (HG.out.2.1.trans (HB9.out.mono (Nat.le_trans HG.out.2.2.2.2.2.2.2.1 (Nat.le_of_lt HG.out.2.2.2.2.1)))) (HG.out.1.below HB9.out HG.out.2.2.2.2.2.1)
                        · as_aux_lemma =>
                            rw [hu] at pc2
                            go_wp2_with fail
                            exact HNX.out _ _ G (some ⟨r, go_, none⟩) gc r _ (Nat.le_succ _) (HGD.out.aw) (HA.out.2.1) (HA.out.2.2) (HG.out.2.2.1.below (gAl V9 _)) (Nat.lt_of_lt_of_le HG.out.2.2.2.2.1 (gAl V9 _).size) HG.out.2.2.2.2.2.2.2.1 HG.out.2.2.2.2.2.2.2.2 (Nat.lt_of_lt_of_le HG.out.2.2.2.2.2.1 (gAl V9 _).size) (HG.out.2.1.trans ((gAl V9 _).mono (Nat.le_trans HG.out.2.2.2.2.2.2.2.1 (Nat.le_of_lt HG.out.2.2.2.2.1)))) (HG.out.1.below (gAl V9 _) HG.out.2.2.2.2.2.1)
                  · go_simp
                    obtain ⟨nb, hnb⟩ : ∃ nb, nb = V.heap.size := ⟨_, rfl⟩
                    rw [← hnb]
                    have KW := Lib.hid (gNx KV.out (gAl V (.cells #[.int .u64 0, .int .u64 0, .bool false, .int .i64 0] 28)))
                    have NB : Hid ((V.alloc (.cells #[.int .u64 0, .int .u64 0, .bool false, .int .i64 0] 28)).there nb 0 4 ∧ nb < (V.alloc (.cells #[.int .u64 0, .int .u64 0, .bool false, .int .i64 0] 28)).heap.size ∧ V2.heap.size ≤ nb) := Lib.hid (by rw [hnb]; exact ⟨there_box V [.int .u64 0, .int .u64 0, .bool false, .int .i64 0] 28, by simp, KV.out.size⟩)
                    obtain ⟨VN, hV⟩ : ∃ U, U = V.alloc (.cells #[.int .u64 0, .int .u64 0, .bool false, .int .i64 0] 28) := ⟨_, rfl⟩
                    rw [← hV]
                    rw [← hV] at KW NB
                    clear hV hnb
                    obtain ⟨V, hV⟩ : ∃ U, U = VN := ⟨_, rfl⟩
                    subst hV
                    clear KV
                    have KV := KW
                    clear KW
                    have kv := KV.out
                    refine hK.out _ _ kv (fun hH => ?_)
                    clear hK K hH
                    try simp only [Act.put, sqA, sqB, sqC, sqD, sqE, sqF]
                    refine wpAnyH_ready (rs := [7]) (by kernel_rfl) (by simp) ?_
                    refine AllReadyH.cons (o := _) rfl (fun K hK => ?_) AllReadyH.nil
                    go_simp
                    refine (HH.out _).mono ?_
                    rintro e2 VN ⟨rfl, b3⟩
                    have KW := Lib.hid (gNx KV.out b3)
                    try (have NB2 := Lib.hid (show VN.there nb 0 4 ∧ nb < VN.heap.size ∧ V2.heap.size ≤ nb from ⟨there_next NB.out.1 NB.out.2.1 b3, Nat.lt_of_lt_of_le NB.out.2.1 b3.size, NB.out.2.2⟩); clear NB; have NB := NB2; clear NB2)
                    clear b3
                    obtain ⟨V, hV⟩ : ∃ U, U = VN := ⟨_, rfl⟩
                    subst hV
                    clear KV
                    have KV := KW
                    clear KW
                    have kv := KV.out
                    go_wp2_with fail
                    refine hK.out _ _ kv (fun hH => ?_)
                    clear hK K hH
                    try simp only [Act.put, sqA, sqB, sqC, sqD, sqE, sqF]
                    refine tk 8 (by assumption) rfl (by kernel_rfl) (fun _ _ _ h => h) (fun V hV => by go_simp; try with_reducible rfl) ?_
                    try simp only [Act.put, sqA, sqB, sqC, sqD, sqE, sqF]
                    refine tk 9 (by assumption) rfl (by kernel_rfl) (fun _ _ _ h => h) (fun V hV => by go_simp; try with_reducible rfl) ?_
                    try simp only [Act.put, sqA, sqB, sqC, sqD, sqE, sqF]
                    refine tk 10 (by assumption) rfl (by kernel_rfl) (fun _ _ _ h => h) (fun V hV => by go_simp; try with_reducible rfl) ?_
                    try simp only [Act.put, sqA, sqB, sqC, sqD, sqE, sqF]
                    refine tk 11 (by assumption) rfl (by kernel_rfl) (fun _ _ _ h => h) (fun V hV => by go_simp; try with_reducible rfl) ?_
                    try simp only [Act.put, sqA, sqB, sqC, sqD, sqE, sqF]
                    refine wpAnyH_ready (rs := [13]) (by kernel_rfl) (by simp) ?_
                    refine AllReadyH.cons (o := _) rfl (fun K hK => ?_) AllReadyH.nil
                    rw [if_pos (by rfl)]
                    refine wp_store_mid 28 (.tmp 17) (.tmp 132) rfl nb 0 (seL y).toArray rfl rfl NB.out.1 (by kernel_rfl) (all_oneCell_toArray (seL_one y)) ?_
                    have KW := Lib.hid (below_set nb NB.out.2.2 (seL y).toArray.toList 0 _ KV.out)
                    have NS := Lib.hid (show S4 (World.setCells _ nb 0 (seL y).toArray.toList) nb 0 y ∧ nb < (World.setCells _ nb 0 (seL y).toArray.toList).heap.size ∧ V2.heap.size ≤ nb from ⟨S4.of_there NB.out.1 y, by rw [setCells_size]; exact NB.out.2.1, NB.out.2.2⟩)
                    clear NB
                    refine hK.out _ _ KW.out (fun hH => ?_)
                    clear hK K hH
                    clear KV
                    have KV := KW
                    clear KW
                    have kv := KV.out
                    generalize World.setCells _ nb 0 (seL y).toArray.toList = V at *
                    try simp only [Act.put, sqA, sqB, sqC, sqD, sqE, sqF]
                    refine tk 14 (by assumption) rfl (by kernel_rfl) (fun _ _ _ h => h) (fun V hV => by go_simp; try with_reducible rfl) ?_
                    try simp only [Act.put, sqA, sqB, sqC, sqD, sqE, sqF]
                    refine tk 15 (by assumption) rfl (by kernel_rfl) (fun _ _ _ h => h) (fun V hV => by go_simp; try with_reducible rfl) ?_
                    try simp only [Act.put, sqA, sqB, sqC, sqD, sqE, sqF]
                    refine wpAnyH_done (by kernel_rfl) ?_ _
                    as_aux_lemma =>
                      have HB3 := Lib.hid (gNx HB2.out KV.out)
                      have hebl := Nat.lt_of_lt_of_le HZ.out.2.2.2.1 HB3.out.size
                      obtain ⟨⟨pc0, pc1, pc2, pc3, pf0, pf1, pf2, pf3⟩, ⟨qc0, qc1, qc2, qc3, qf0, qf1, qf2, qf3⟩⟩ := (HF.out.1.below HB3.out HZ.out.2.2.2.1)
                      obtain ⟨nc0, nc1, nc2, nc3, -, -, -, -⟩ := NS.out.1
                      have hnbl := NS.out.2.1
                      have hnee : nb ≠ eb := by have := NS.out.2.2; have := HB2.out.size; have := HZ.out; omega
                      go_upto_region 28 with (fail)
                      clear pc0 pc1 pc2 pc3 pf0 pf1 pf2 pf3 qc0 qc1 qc2 qc3 qf0 qf1 qf2 qf3
                      clear nc0 nc1 nc2 nc3 hnbl hebl hnee
                      obtain ⟨V9, hV9, p1, p2, p3, p4, p5, p6⟩ := ag_put0 (cs := [.int .i64 fr, .int .u64 gn, .int .u64 ge]) (HF.out.1.below HB3.out HZ.out.2.2.2.1) (HF.out.2.1.trans (Below.mono HB3.out (Nat.le_trans HZ.out.2.1 (Nat.le_of_lt HZ.out.1)))) HZ.out.2.2.2.2.2.2.2.2.2.2 (Nat.lt_of_lt_of_le HZ.out.2.2.2.1 (Below.size HB3.out)) (Rw.below HF.out.2.2.1 HB3.out) (Nat.lt_of_lt_of_le HZ.out.1 (Below.size HB3.out)) HZ.out.2.2.1 (HF.out.2.2.2.2.1.below HB3.out HZ.out.2.2.2.2.1) HZ.out.2.2.2.2.2.1 (gb := gb) (range_n HG2.out.1 HG2.out.2.2 KV.out) (HG2.out.2.1) y.m y.p y.u y.s
                      rw [← hV9]
                      have HG : Hid (E8 V9 eb y x1 ∧ Below w.heap.size w V9 ∧ Wy V9 r (some ⟨r, go_, none⟩) gc G ∧ S4 V9 wb 0 x0 ∧ r < V9.heap.size ∧ eb < V9.heap.size ∧ wb < V9.heap.size ∧ w.heap.size ≤ r ∧ r ≠ eb) := Lib.hid ⟨p1, p2, p4, p5, Nat.lt_of_lt_of_le (Nat.lt_of_lt_of_le HZ.out.1 (Below.size HB3.out)) p3, Nat.lt_of_lt_of_le (Nat.lt_of_lt_of_le HZ.out.2.2.2.1 (Below.size HB3.out)) p3, Nat.lt_of_lt_of_le (Nat.lt_of_lt_of_le HZ.out.2.2.2.2.1 (Below.size HB3.out)) p3, HZ.out.2.1, HZ.out.2.2.1⟩
                      have g1 := p6 1 _ rfl
                      have g2 := p6 2 _ rfl
                      have hgbl : gb < V9.heap.size := Nat.lt_of_lt_of_le (Nat.lt_of_lt_of_le HG2.out.2.2 KV.out.size) p3
                      clear hV9 p1 p2 p3 p4 p5 p6
                      obtain ⟨wc0, wc1, -, -, -, -, -, -⟩ := HG.out.2.2.2.1
                      rcases HAC.out.2 with rfl | ⟨rfl, e1, e2⟩
                      · go_upto_region 34 with (fail)
                        clear wc0 wc1 g1 g2 hgbl
                        obtain ⟨⟨pc0, pc1, pc2, pc3, pf0, pf1, pf2, pf3⟩, ⟨qc0, qc1, qc2, qc3, qf0, qf1, qf2, qf3⟩⟩ := HG.out.1
                        obtain ⟨wc0, wc1, wc2, wc3, -, -, -, -⟩ := HG.out.2.2.2.1
                        have hwbl : wb < V9.heap.size := HG.out.2.2.2.2.2.2.1
                        have hebl : eb < V9.heap.size := HG.out.2.2.2.2.2.1
                        have hm : decide (y.m < x0.m) = false := HGD.out.2.1
                        rcases HGD.out.2.2.1 with hP | ⟨hP, hQ, hu⟩
                        · as_aux_lemma =>
                            cases hu : y.u
                            · rw [hu] at pc2
                              go_wp2_with fail
                              exact HNX.out _ _ G (some ⟨r, go_, none⟩) gc r _ (Nat.le_succ _) (HGD.out.aw) (HA.out.2.1) (HA.out.2.2) (HG.out.2.2.1.below (gAl V9 _)) (Nat.lt_of_lt_of_le HG.out.2.2.2.2.1 (gAl V9 _).size) HG.out.2.2.2.2.2.2.2.1 HG.out.2.2.2.2.2.2.2.2 (Nat.lt_of_lt_of_le HG.out.2.2.2.2.2.1 (gAl V9 _).size) (HG.out.2.1.trans ((gAl V9 _).mono (Nat.le_trans HG.out.2.2.2.2.2.2.2.1 (Nat.le_of_lt HG.out.2.2.2.2.1)))) (HG.out.1.below (gAl V9 _) HG.out.2.2.2.2.2.1)
                            · have HH := Lib.hid (heard_yes G r (some ⟨r, go_, none⟩) gc 0 y.m y.p true y.s (HGD.out.2.2.2 hu) (by have := HLG.out; have := (show G.length ≤ G.length + 1 from (Nat.le_succ _)); omega))
                              rw [hu] at pc2
                              go_wp2_with fail
                              refine (HH.out _ (Rw.below HG.out.2.2.1 (gAl V9 _))).mono ?_
                              rintro e9 w9 ⟨rfl, b9⟩
                              have HB9 := Lib.hid (gNx (gAl V9 _) b9)
                              clear b9
                              go_wp2_with fail
                              exact HNX.out _ _ G (some ⟨r, go_, none⟩) gc r w9 (Nat.le_succ _) (HGD.out.aw) (HA.out.2.1) (HA.out.2.2) (HG.out.2.2.1.below HB9.out) (Nat.lt_of_lt_of_le HG.out.2.2.2.2.1 HB9.out.size) HG.out.2.2.2.2.2.2.2.1 HG.out.2.2.2.2.2.2.2.2 (Nat.lt_of_lt_of_le HG.out.2.2.2.2.2.1 HB9.out.size) (HG.out.2.1.trans (HB9.out.mono (Nat.le_trans HG.out.2.2.2.2.2.2.2.1 (Nat.le_of_lt HG.out.2.2.2.2.1)))) (HG.out.1.below HB9.out HG.out.2.2.2.2.2.1)
                        · as_aux_lemma =>
                            rw [hu] at pc2
                            go_wp2_with fail
                            exact HNX.out _ _ G (some ⟨r, go_, none⟩) gc r _ (Nat.le_succ _) (HGD.out.aw) (HA.out.2.1) (HA.out.2.2) (HG.out.2.2.1.below (gAl V9 _)) (Nat.lt_of_lt_of_le HG.out.2.2.2.2.1 (gAl V9 _).size) HG.out.2.2.2.2.2.2.2.1 HG.out.2.2.2.2.2.2.2.2 (Nat.lt_of_lt_of_le HG.out.2.2.2.2.2.1 (gAl V9 _).size) (HG.out.2.1.trans ((gAl V9 _).mono (Nat.le_trans HG.out.2.2.2.2.2.2.2.1 (Nat.le_of_lt HG.out.2.2.2.2.1)))) (HG.out.1.below (gAl V9 _) HG.out.2.2.2.2.2.1)
                      · have t1 : (gn != x0.p) = false := by simpa using e1
                        have t2 : (ge != x0.m) = false := by simpa using e2
                        clear e1 e2
                        go_upto_region 34 with (fail)
                        clear wc0 wc1 g1 g2 hgbl
                        obtain ⟨⟨pc0, pc1, pc2, pc3, pf0, pf1, pf2, pf3⟩, ⟨qc0, qc1, qc2, qc3, qf0, qf1, qf2, qf3⟩⟩ := HG.out.1
                        obtain ⟨wc0, wc1, wc2, wc3, -, -, -, -⟩ := HG.out.2.2.2.1
                        have hwbl : wb < V9.heap.size := HG.out.2.2.2.2.2.2.1
                        have hebl : eb < V9.heap.size := HG.out.2.2.2.2.2.1
                        have hm : decide (y.m < x0.m) = false := HGD.out.2.1
                        rcases HGD.out.2.2.1 with hP | ⟨hP, hQ, hu⟩
                        · as_aux_lemma =>
                            cases hu : y.u
                            · rw [hu] at pc2
                              go_wp2_with fail
                              exact HNX.out _ _ G (some ⟨r, go_, none⟩) gc r _ (Nat.le_succ _) (HGD.out.aw) (HA.out.2.1) (HA.out.2.2) (HG.out.2.2.1.below (gAl V9 _)) (Nat.lt_of_lt_of_le HG.out.2.2.2.2.1 (gAl V9 _).size) HG.out.2.2.2.2.2.2.2.1 HG.out.2.2.2.2.2.2.2.2 (Nat.lt_of_lt_of_le HG.out.2.2.2.2.2.1 (gAl V9 _).size) (HG.out.2.1.trans ((gAl V9 _).mono (Nat.le_trans HG.out.2.2.2.2.2.2.2.1 (Nat.le_of_lt HG.out.2.2.2.2.1)))) (HG.out.1.below (gAl V9 _) HG.out.2.2.2.2.2.1)
                            · have HH := Lib.hid (heard_yes G r (some ⟨r, go_, none⟩) gc 0 y.m y.p true y.s (HGD.out.2.2.2 hu) (by have := HLG.out; have := (show G.length ≤ G.length + 1 from (Nat.le_succ _)); omega))
                              rw [hu] at pc2
                              go_wp2_with fail
                              refine (HH.out _ (Rw.below HG.out.2.2.1 (gAl V9 _))).mono ?_
                              rintro e9 w9 ⟨rfl, b9⟩
                              have HB9 := Lib.hid (gNx (gAl V9 _) b9)
                              clear b9
                              go_wp2_with fail
                              exact HNX.out _ _ G (some ⟨r, go_, none⟩) gc r w9 (Nat.le_succ _) (HGD.out.aw) (HA.out.2.1) (HA.out.2.2) (HG.out.2.2.1.below HB9.out) (Nat.lt_of_lt_of_le HG.out.2.2.2.2.1 HB9.out.size) HG.out.2.2.2.2.2.2.2.1 HG.out.2.2.2.2.2.2.2.2 (Nat.lt_of_lt_of_le HG.out.2.2.2.2.2.1 HB9.out.size) (HG.out.2.1.trans (HB9.out.mono (Nat.le_trans HG.out.2.2.2.2.2.2.2.1 (Nat.le_of_lt HG.out.2.2.2.2.1)))) (HG.out.1.below HB9.out HG.out.2.2.2.2.2.1)
                        · as_aux_lemma =>
                            rw [hu] at pc2
                            go_wp2_with fail
                            exact HNX.out _ _ G (some ⟨r, go_, none⟩) gc r _ (Nat.le_succ _) (HGD.out.aw) (HA.out.2.1) (HA.out.2.2) (HG.out.2.2.1.below (gAl V9 _)) (Nat.lt_of_lt_of_le HG.out.2.2.2.2.1 (gAl V9 _).size) HG.out.2.2.2.2.2.2.2.1 HG.out.2.2.2.2.2.2.2.2 (Nat.lt_of_lt_of_le HG.out.2.2.2.2.2.1 (gAl V9 _).size) (HG.out.2.1.trans ((gAl V9 _).mono (Nat.le_trans HG.out.2.2.2.2.2.2.2.1 (Nat.le_of_lt HG.out.2.2.2.2.1)))) (HG.out.1.below (gAl V9 _) HG.out.2.2.2.2.2.1)
            · as_aux_lemma =>
                by_cases hneg : ix < 0
                · have q2 : decide (ix < 0) = true := by simpa using hneg
                  have hsb : sb < V1.heap.size := HZ.out.2.2.2.2.2.2.2.2.1
                  clear hix
                  rcases h12 with rfl | rfl
                  all_goals
                    have sd1 := HF.out.2.2.2.1 1 _ rfl
                    have sd2 := HF.out.2.2.2.1 2 _ rfl
                    go_wp2_with fail
                    exact HNX.out _ _ G _ _ r V1 (Nat.le_succ _) HA.out.1 HA.out.2.1 HA.out.2.2 HF.out.2.2.1 HZ.out.1 HZ.out.2.1 HZ.out.2.2.1 HZ.out.2.2.2.1 HF.out.2.1 HF.out.1
                · have q2 : decide (ix < 0) = false := by simpa using hneg
                  have q3 : decide ((G.length : Int) ≤ ix) = true := by simp; omega
                  have q4 : (G.length : Int) ≤ ix := by omega
                  have hsb : sb < V1.heap.size := HZ.out.2.2.2.2.2.2.2.2.1
                  clear hix
                  rcases h12 with rfl | rfl
                  all_goals
                    have sd1 := HF.out.2.2.2.1 1 _ rfl
                    have sd2 := HF.out.2.2.2.1 2 _ rfl
                    go_wp2_with fail
                    exact HNX.out _ _ G _ _ r V1 (Nat.le_succ _) HA.out.1 HA.out.2.1 HA.out.2.2 HF.out.2.2.1 HZ.out.1 HZ.out.2.1 HZ.out.2.2.1 HZ.out.2.2.2.1 HF.out.2.1 HF.out.1
          have n0 : (kd == 0) = false := by simpa using h0
          have n1 : (kd == 1) = false := by simp; omega
          have n2 : (kd == 2) = false := by simp; omega
          clear h0 h12
          by_cases h3 : kd = 3
          · subst h3
            clear n0 n1 n2
            as_aux_lemma =>
              have HH := Lib.hid (tick_ex x0 HA.out.1.1 life _ rfl)
              have HGD := Lib.hid (HA.out.1.tick life)
              generalize (tickF x0 life).1 = y at *
              have sd1 := HF.out.2.2.2.1 1 _ rfl
              obtain ⟨⟨pc0, pc1, pc2, pc3, pf0, pf1, pf2, pf3⟩, ⟨qc0, qc1, qc2, qc3, qf0, qf1, qf2, qf3⟩⟩ := HF.out.1
              have hebl : eb < V1.heap.size := HZ.out.2.2.2.1
              go_upto_region 31 with (fail)
              clear pc0 pc1 pc2 pc3 pf0 pf1 pf2 pf3 qc0 qc1 qc2 qc3 qf0 qf1 qf2 qf3
              clear hebl sd1
              refine wp_region_held_drew (S := fun V => V.rangeAt sb 0 [.int .i64 en, .int .i64 3, .int .i64 ix, .int .i64 life]) (by kernel_rfl) ((World.rangeAt_drew V1 _ _ _).2 HF.out.2.2.2.1) (fun hH => ?_)
              clear hH
              have hs0 : V1.drew.rangeAt sb 0 [.int .i64 en, .int .i64 3, .int .i64 ix, .int .i64 life] := (World.rangeAt_drew V1 _ _ _).2 HF.out.2.2.2.1
              have HB0 : Hid (Below V1.heap.size V1 V1.drew) := Lib.hid (Below.refl _ _).drew
              have hz0 : sb < V1.drew.heap.size := HZ.out.2.2.2.2.2.2.2.2.1
              generalize V1.drew = V0 at *
              refine tk 0 (by assumption) rfl (by kernel_rfl) (fun _ _ _ h => h) (fun V hV => by go_simp; try with_reducible rfl) ?_
              try simp only [Act.put, sqA, sqB, sqC, sqD, sqE, sqF]
              refine tk 1 (by assumption) rfl (by kernel_rfl) (fun _ _ _ h => h) (fun V hV => by go_simp; try with_reducible rfl) ?_
              try simp only [Act.put, sqA, sqB, sqC, sqD, sqE, sqF]
              refine tk 2 (by assumption) rfl (by kernel_rfl) (fun _ _ _ h => h) (fun V hV => by go_simp; try with_reducible rfl) ?_
              try simp only [Act.put, sqA, sqB, sqC, sqD, sqE, sqF]
              refine tk 4 (by assumption) rfl (by kernel_rfl) (fun _ _ _ h => h) (fun V hV => by go_simp; try with_reducible rfl) ?_
              try simp only [Act.put, sqA, sqB, sqC, sqD, sqE, sqF]
              refine tk 5 (by assumption) rfl (by kernel_rfl) (fun _ _ _ h => h) (fun V hV => by have z3 := hV 3 _ rfl; go_simp; try with_reducible rfl) ?_
              try simp only [Act.put, sqA, sqB, sqC, sqD, sqE, sqF]
              refine wpAnyH_ready (rs := [3]) (by kernel_rfl) (by simp) ?_
              refine AllReadyH.cons (o := _) rfl (fun K hK => ?_) AllReadyH.nil
              rw [if_pos (by rfl)]
              refine wp_load_mid 28 (.tmp 158) rfl eb 0 rfl (seL x0) _ (HF.out.1.below HB0.out HZ.out.2.2.2.1).1.range Try.underlying28 (by rfl) (by kernel_rfl) ?_
              refine hK.out _ _ hs0 (fun hH => ?_)
              clear hK K hH
              try simp only [Act.put, sqA, sqB, sqC, sqD, sqE, sqF]
              refine wpAnyH_ready (rs := [6]) (by kernel_rfl) (by simp) ?_
              refine AllReadyH.cons (o := _) rfl (fun K hK => ?_) AllReadyH.nil
              go_simp
              refine (HH.out _).mono ?_
              rintro e2 w3 ⟨f, rfl, b3⟩
              have HB3 : Hid (Below V1.heap.size V1 w3) := Lib.hid (gNx HB0.out b3)
              have hs3 := range_n hs0 hz0 b3
              clear b3
              go_wp2_with fail
              refine hK.out _ _ hs3 (fun hH => ?_)
              clear hK K hH
              try simp only [Act.put, sqA, sqB, sqC, sqD, sqE, sqF]
              refine tk 7 (by assumption) rfl (by kernel_rfl) (fun _ _ _ h => h) (fun V hV => by go_simp; try with_reducible rfl) ?_
              try simp only [Act.put, sqA, sqB, sqC, sqD, sqE, sqF]
              refine tk 8 (by assumption) rfl (by kernel_rfl) (fun _ _ _ h => h) (fun V hV => by go_simp; try with_reducible rfl) ?_
              try simp only [Act.put, sqA, sqB, sqC, sqD, sqE, sqF]
              refine tk 9 (by assumption) rfl (by kernel_rfl) (fun _ _ _ h => h) (fun V hV => by go_simp; try with_reducible rfl) ?_
              try simp only [Act.put, sqA, sqB, sqC, sqD, sqE, sqF]
              refine tk 10 (by assumption) rfl (by kernel_rfl) (fun _ _ _ h => h) (fun V hV => by go_simp; try with_reducible rfl) ?_
              try simp only [Act.put, sqA, sqB, sqC, sqD, sqE, sqF]
              refine wpAnyH_ready (rs := [11]) (by kernel_rfl) (by simp) ?_
              refine AllReadyH.cons (o := _) rfl (fun K hK => ?_) AllReadyH.nil
              obtain ⟨V9, hV9, p1, p2, p3, p4, p5, p6⟩ := ag_put0 (cs := [.int .i64 en, .int .i64 3, .int .i64 ix, .int .i64 life]) (HF.out.1.below HB3.out HZ.out.2.2.2.1) (HF.out.2.1.trans (Below.mono HB3.out (Nat.le_trans HZ.out.2.1 (Nat.le_of_lt HZ.out.1)))) HZ.out.2.2.2.2.2.2.2.2.2.2 (Nat.lt_of_lt_of_le HZ.out.2.2.2.1 (Below.size HB3.out)) (Rw.below HF.out.2.2.1 HB3.out) (Nat.lt_of_lt_of_le HZ.out.1 (Below.size HB3.out)) HZ.out.2.2.1 (HF.out.2.2.2.2.1.below HB3.out HZ.out.2.2.2.2.1) HZ.out.2.2.2.2.2.1 (gb := sb) (hs3) (HZ.out.2.2.2.2.2.2.2.1) y.m y.p y.u y.s
              rw [if_pos (by rfl)]
              refine wp_store_mid 28 (.tmp 165) (.tmp 163) rfl eb 0 (seL y).toArray rfl rfl (HF.out.1.below HB3.out HZ.out.2.2.2.1).1.there (by kernel_rfl) (all_oneCell_toArray (seL_one y)) ?_
              rw [show w3.setCells eb 0 (seL y).toArray.toList = V9 from hV9.symm]
              refine hK.out _ _ p6 (fun hH => ?_)
              clear hK K hH hV9
              try simp only [Act.put, sqA, sqB, sqC, sqD, sqE, sqF]
              refine wpAnyH_done (by kernel_rfl) ?_ _
              have HG : Hid (E8 V9 eb y x1 ∧ Below w.heap.size w V9 ∧ Wy V9 r ga gc G ∧ S4 V9 wb 0 x0 ∧ r < V9.heap.size ∧ eb < V9.heap.size ∧ wb < V9.heap.size ∧ w.heap.size ≤ r ∧ r ≠ eb) := Lib.hid ⟨p1, p2, p4, p5, Nat.lt_of_lt_of_le (Nat.lt_of_lt_of_le HZ.out.1 (Below.size HB3.out)) p3, Nat.lt_of_lt_of_le (Nat.lt_of_lt_of_le HZ.out.2.2.2.1 (Below.size HB3.out)) p3, Nat.lt_of_lt_of_le (Nat.lt_of_lt_of_le HZ.out.2.2.2.2.1 (Below.size HB3.out)) p3, HZ.out.2.1, HZ.out.2.2.1⟩
              clear p1 p2 p3 p4 p5 p6 hs0 hs3
              go_upto_region 34 with (fail)
              obtain ⟨⟨pc0, pc1, pc2, pc3, pf0, pf1, pf2, pf3⟩, ⟨qc0, qc1, qc2, qc3, qf0, qf1, qf2, qf3⟩⟩ := HG.out.1
              obtain ⟨wc0, wc1, wc2, wc3, -, -, -, -⟩ := HG.out.2.2.2.1
              have hwbl : wb < V9.heap.size := HG.out.2.2.2.2.2.2.1
              have hebl : eb < V9.heap.size := HG.out.2.2.2.2.2.1
              have hm : decide (y.m < x0.m) = false := HGD.out.2.1
              rcases HGD.out.2.2.1 with hP | ⟨hP, hQ, hu⟩
              · as_aux_lemma =>
                  cases hu : y.u
                  · rw [hu] at pc2
                    go_wp2_with fail
                    exact HNX.out _ _ G ga gc r _ (Nat.le_succ _) (HGD.out.aw) (HA.out.2.1) (HA.out.2.2) (HG.out.2.2.1.below (gAl V9 _)) (Nat.lt_of_lt_of_le HG.out.2.2.2.2.1 (gAl V9 _).size) HG.out.2.2.2.2.2.2.2.1 HG.out.2.2.2.2.2.2.2.2 (Nat.lt_of_lt_of_le HG.out.2.2.2.2.2.1 (gAl V9 _).size) (HG.out.2.1.trans ((gAl V9 _).mono (Nat.le_trans HG.out.2.2.2.2.2.2.2.1 (Nat.le_of_lt HG.out.2.2.2.2.1)))) (HG.out.1.below (gAl V9 _) HG.out.2.2.2.2.2.1)
                  · have HH := Lib.hid (heard_yes G r ga gc 0 y.m y.p true y.s (HGD.out.2.2.2 hu) (by have := HLG.out; have := (show G.length ≤ G.length + 1 from (Nat.le_succ _)); omega))
                    rw [hu] at pc2
                    go_wp2_with fail
                    refine (HH.out _ (Rw.below HG.out.2.2.1 (gAl V9 _))).mono ?_
                    rintro e9 w9 ⟨rfl, b9⟩
                    have HB9 := Lib.hid (gNx (gAl V9 _) b9)
                    clear b9
                    go_wp2_with fail
                    exact HNX.out _ _ G ga gc r w9 (Nat.le_succ _) (HGD.out.aw) (HA.out.2.1) (HA.out.2.2) (HG.out.2.2.1.below HB9.out) (Nat.lt_of_lt_of_le HG.out.2.2.2.2.1 HB9.out.size) HG.out.2.2.2.2.2.2.2.1 HG.out.2.2.2.2.2.2.2.2 (Nat.lt_of_lt_of_le HG.out.2.2.2.2.2.1 HB9.out.size) (HG.out.2.1.trans (HB9.out.mono (Nat.le_trans HG.out.2.2.2.2.2.2.2.1 (Nat.le_of_lt HG.out.2.2.2.2.1)))) (HG.out.1.below HB9.out HG.out.2.2.2.2.2.1)
              · as_aux_lemma =>
                  rw [hu] at pc2
                  go_wp2_with fail
                  exact HNX.out _ _ G ga gc r _ (Nat.le_succ _) (HGD.out.aw) (HA.out.2.1) (HA.out.2.2) (HG.out.2.2.1.below (gAl V9 _)) (Nat.lt_of_lt_of_le HG.out.2.2.2.2.1 (gAl V9 _).size) HG.out.2.2.2.2.2.2.2.1 HG.out.2.2.2.2.2.2.2.2 (Nat.lt_of_lt_of_le HG.out.2.2.2.2.2.1 (gAl V9 _).size) (HG.out.2.1.trans ((gAl V9 _).mono (Nat.le_trans HG.out.2.2.2.2.2.2.2.1 (Nat.le_of_lt HG.out.2.2.2.2.1)))) (HG.out.1.below (gAl V9 _) HG.out.2.2.2.2.2.1)
          have n3 : (kd == 3) = false := by simpa using h3
          clear h3
          by_cases h4 : kd = 4
          · subst h4
            clear n0 n1 n2 n3
            as_aux_lemma =>
              have HH := Lib.hid (down_ex x0 HA.out.1.1 _ rfl)
              have HGD := Lib.hid (HA.out.1.down)
              generalize downF x0 = y at *
              have sd1 := HF.out.2.2.2.1 1 _ rfl
              obtain ⟨⟨pc0, pc1, pc2, pc3, pf0, pf1, pf2, pf3⟩, ⟨qc0, qc1, qc2, qc3, qf0, qf1, qf2, qf3⟩⟩ := HF.out.1
              have hebl : eb < V1.heap.size := HZ.out.2.2.2.1
              go_wp2_with fail
              refine (HH.out _).mono ?_
              rintro e2 w3 ⟨rfl, b3⟩
              clear pc0 pc1 pc2 pc3 pf0 pf1 pf2 pf3 qc0 qc1 qc2 qc3 qf0 qf1 qf2 qf3
              have HB3 := Lib.hid b3
              clear b3 hebl
              obtain ⟨⟨pc0, pc1, pc2, pc3, pf0, pf1, pf2, pf3⟩, ⟨qc0, qc1, qc2, qc3, qf0, qf1, qf2, qf3⟩⟩ := (HF.out.1.below HB3.out HZ.out.2.2.2.1)
              have hebl : eb < w3.heap.size := Nat.lt_of_lt_of_le HZ.out.2.2.2.1 HB3.out.size
              go_upto_region 34 with (fail)
              clear pc0 pc1 pc2 pc3 pf0 pf1 pf2 pf3 qc0 qc1 qc2 qc3 qf0 qf1 qf2 qf3
              clear hebl
              obtain ⟨V9, hV9, p1, p2, p3, p4, p5, p6⟩ := ag_put0 (cs := []) (HF.out.1.below HB3.out HZ.out.2.2.2.1) (HF.out.2.1.trans (Below.mono HB3.out (Nat.le_trans HZ.out.2.1 (Nat.le_of_lt HZ.out.1)))) HZ.out.2.2.2.2.2.2.2.2.2.2 (Nat.lt_of_lt_of_le HZ.out.2.2.2.1 (Below.size HB3.out)) (Rw.below HF.out.2.2.1 HB3.out) (Nat.lt_of_lt_of_le HZ.out.1 (Below.size HB3.out)) HZ.out.2.2.1 (HF.out.2.2.2.2.1.below HB3.out HZ.out.2.2.2.2.1) HZ.out.2.2.2.2.2.1 (gb := eb + 1) (range_nil w3 (eb + 1) 0) (Nat.succ_ne_self eb) y.m y.p y.u y.s
              rw [← hV9]
              have HG : Hid (E8 V9 eb y x1 ∧ Below w.heap.size w V9 ∧ Wy V9 r ga gc G ∧ S4 V9 wb 0 x0 ∧ r < V9.heap.size ∧ eb < V9.heap.size ∧ wb < V9.heap.size ∧ w.heap.size ≤ r ∧ r ≠ eb) := Lib.hid ⟨p1, p2, p4, p5, Nat.lt_of_lt_of_le (Nat.lt_of_lt_of_le HZ.out.1 (Below.size HB3.out)) p3, Nat.lt_of_lt_of_le (Nat.lt_of_lt_of_le HZ.out.2.2.2.1 (Below.size HB3.out)) p3, Nat.lt_of_lt_of_le (Nat.lt_of_lt_of_le HZ.out.2.2.2.2.1 (Below.size HB3.out)) p3, HZ.out.2.1, HZ.out.2.2.1⟩
              clear hV9 p1 p2 p3 p4 p5 p6
              obtain ⟨⟨pc0, pc1, pc2, pc3, pf0, pf1, pf2, pf3⟩, ⟨qc0, qc1, qc2, qc3, qf0, qf1, qf2, qf3⟩⟩ := HG.out.1
              obtain ⟨wc0, wc1, wc2, wc3, -, -, -, -⟩ := HG.out.2.2.2.1
              have hwbl : wb < V9.heap.size := HG.out.2.2.2.2.2.2.1
              have hebl : eb < V9.heap.size := HG.out.2.2.2.2.2.1
              have hm : decide (y.m < x0.m) = false := HGD.out.2.1
              rcases HGD.out.2.2.1 with hP | ⟨hP, hQ, hu⟩
              · as_aux_lemma =>
                  cases hu : y.u
                  · rw [hu] at pc2
                    go_wp2_with fail
                    exact HNX.out _ _ G ga gc r _ (Nat.le_succ _) (HGD.out.aw) (HA.out.2.1) (HA.out.2.2) (HG.out.2.2.1.below (gAl V9 _)) (Nat.lt_of_lt_of_le HG.out.2.2.2.2.1 (gAl V9 _).size) HG.out.2.2.2.2.2.2.2.1 HG.out.2.2.2.2.2.2.2.2 (Nat.lt_of_lt_of_le HG.out.2.2.2.2.2.1 (gAl V9 _).size) (HG.out.2.1.trans ((gAl V9 _).mono (Nat.le_trans HG.out.2.2.2.2.2.2.2.1 (Nat.le_of_lt HG.out.2.2.2.2.1)))) (HG.out.1.below (gAl V9 _) HG.out.2.2.2.2.2.1)
                  · have HH := Lib.hid (heard_yes G r ga gc 0 y.m y.p true y.s (HGD.out.2.2.2 hu) (by have := HLG.out; have := (show G.length ≤ G.length + 1 from (Nat.le_succ _)); omega))
                    rw [hu] at pc2
                    go_wp2_with fail
                    refine (HH.out _ (Rw.below HG.out.2.2.1 (gAl V9 _))).mono ?_
                    rintro e9 w9 ⟨rfl, b9⟩
                    have HB9 := Lib.hid (gNx (gAl V9 _) b9)
                    clear b9
                    go_wp2_with fail
                    exact HNX.out _ _ G ga gc r w9 (Nat.le_succ _) (HGD.out.aw) (HA.out.2.1) (HA.out.2.2) (HG.out.2.2.1.below HB9.out) (Nat.lt_of_lt_of_le HG.out.2.2.2.2.1 HB9.out.size) HG.out.2.2.2.2.2.2.2.1 HG.out.2.2.2.2.2.2.2.2 (Nat.lt_of_lt_of_le HG.out.2.2.2.2.2.1 HB9.out.size) (HG.out.2.1.trans (HB9.out.mono (Nat.le_trans HG.out.2.2.2.2.2.2.2.1 (Nat.le_of_lt HG.out.2.2.2.2.1)))) (HG.out.1.below HB9.out HG.out.2.2.2.2.2.1)
              · as_aux_lemma =>
                  rw [hu] at pc2
                  go_wp2_with fail
                  exact HNX.out _ _ G ga gc r _ (Nat.le_succ _) (HGD.out.aw) (HA.out.2.1) (HA.out.2.2) (HG.out.2.2.1.below (gAl V9 _)) (Nat.lt_of_lt_of_le HG.out.2.2.2.2.1 (gAl V9 _).size) HG.out.2.2.2.2.2.2.2.1 HG.out.2.2.2.2.2.2.2.2 (Nat.lt_of_lt_of_le HG.out.2.2.2.2.2.1 (gAl V9 _).size) (HG.out.2.1.trans ((gAl V9 _).mono (Nat.le_trans HG.out.2.2.2.2.2.2.2.1 (Nat.le_of_lt HG.out.2.2.2.2.1)))) (HG.out.1.below (gAl V9 _) HG.out.2.2.2.2.2.1)
          have n4 : (kd == 4) = false := by simpa using h4
          clear h4
          have HGD := Lib.hid (HA.out.1.same)
          have hV9e : V1 = V1 := rfl
          as_aux_lemma =>
            have HG : Hid (E8 V1 eb x0 x1 ∧ Below w.heap.size w V1 ∧ Wy V1 r ga gc G ∧ S4 V1 wb 0 x0 ∧ r < V1.heap.size ∧ eb < V1.heap.size ∧ wb < V1.heap.size ∧ w.heap.size ≤ r ∧ r ≠ eb) := Lib.hid ⟨HF.out.1, HF.out.2.1, HF.out.2.2.1, HF.out.2.2.2.2.1, HZ.out.1, HZ.out.2.2.2.1, HZ.out.2.2.2.2.1, HZ.out.2.1, HZ.out.2.2.1⟩
            have sd1 := HF.out.2.2.2.1 1 _ rfl
            go_upto_region 34 with (fail)
            obtain ⟨⟨pc0, pc1, pc2, pc3, pf0, pf1, pf2, pf3⟩, ⟨qc0, qc1, qc2, qc3, qf0, qf1, qf2, qf3⟩⟩ := HG.out.1
            obtain ⟨wc0, wc1, wc2, wc3, -, -, -, -⟩ := HG.out.2.2.2.1
            have hwbl : wb < V1.heap.size := HG.out.2.2.2.2.2.2.1
            have hebl : eb < V1.heap.size := HG.out.2.2.2.2.2.1
            have hm : decide (x0.m < x0.m) = false := HGD.out.2.1
            rcases HGD.out.2.2.1 with hP | ⟨hP, hQ, hu⟩
            · as_aux_lemma =>
                cases hu : x0.u
                · rw [hu] at pc2
                  go_wp2_with fail
                  exact HNX.out _ _ G ga gc r _ (Nat.le_succ _) (HA.out.1) (HA.out.2.1) (HA.out.2.2) (HG.out.2.2.1.below (gAl V1 _)) (Nat.lt_of_lt_of_le HG.out.2.2.2.2.1 (gAl V1 _).size) HG.out.2.2.2.2.2.2.2.1 HG.out.2.2.2.2.2.2.2.2 (Nat.lt_of_lt_of_le HG.out.2.2.2.2.2.1 (gAl V1 _).size) (HG.out.2.1.trans ((gAl V1 _).mono (Nat.le_trans HG.out.2.2.2.2.2.2.2.1 (Nat.le_of_lt HG.out.2.2.2.2.1)))) (HG.out.1.below (gAl V1 _) HG.out.2.2.2.2.2.1)
                · have HH := Lib.hid (heard_yes G r ga gc 0 x0.m x0.p true x0.s (HGD.out.2.2.2 hu) (by have := HLG.out; have := (show G.length ≤ G.length + 1 from (Nat.le_succ _)); omega))
                  rw [hu] at pc2
                  go_wp2_with fail
                  refine (HH.out _ (Rw.below HG.out.2.2.1 (gAl V1 _))).mono ?_
                  rintro e9 w9 ⟨rfl, b9⟩
                  have HB9 := Lib.hid (gNx (gAl V1 _) b9)
                  clear b9
                  go_wp2_with fail
                  exact HNX.out _ _ G ga gc r w9 (Nat.le_succ _) (HA.out.1) (HA.out.2.1) (HA.out.2.2) (HG.out.2.2.1.below HB9.out) (Nat.lt_of_lt_of_le HG.out.2.2.2.2.1 HB9.out.size) HG.out.2.2.2.2.2.2.2.1 HG.out.2.2.2.2.2.2.2.2 (Nat.lt_of_lt_of_le HG.out.2.2.2.2.2.1 HB9.out.size) (HG.out.2.1.trans (HB9.out.mono (Nat.le_trans HG.out.2.2.2.2.2.2.2.1 (Nat.le_of_lt HG.out.2.2.2.2.1)))) (HG.out.1.below HB9.out HG.out.2.2.2.2.2.1)
            · as_aux_lemma =>
                rw [hu] at pc2
                go_wp2_with fail
                exact HNX.out _ _ G ga gc r _ (Nat.le_succ _) (HA.out.1) (HA.out.2.1) (HA.out.2.2) (HG.out.2.2.1.below (gAl V1 _)) (Nat.lt_of_lt_of_le HG.out.2.2.2.2.1 (gAl V1 _).size) HG.out.2.2.2.2.2.2.2.1 HG.out.2.2.2.2.2.2.2.2 (Nat.lt_of_lt_of_le HG.out.2.2.2.2.2.1 (gAl V1 _).size) (HG.out.2.1.trans ((gAl V1 _).mono (Nat.le_trans HG.out.2.2.2.2.2.2.2.1 (Nat.le_of_lt HG.out.2.2.2.2.1)))) (HG.out.1.below (gAl V1 _) HG.out.2.2.2.2.2.1)
        · obtain ⟨⟨pc0, pc1, pc2, pc3, pf0, pf1, pf2, pf3⟩, ⟨qc0, qc1, qc2, qc3, qf0, qf1, qf2, qf3⟩⟩ := HE.out
          go_upto_region 17 with (fail)
          clear pc0 pc1 pc2 pc3 pf0 pf1 pf2 pf3 qc0 qc1 qc2 qc3 qf0 qf1 qf2 qf3
          clear d0 d1 d2 d3
          have HF : Hid (E8 ((wq.alloc (.cells #[.int .i64 en, .int .i64 kd, .int .i64 ix, .int .i64 life] 53)).alloc (seO x1)) eb x0 x1 ∧ Below w.heap.size w ((wq.alloc (.cells #[.int .i64 en, .int .i64 kd, .int .i64 ix, .int .i64 life] 53)).alloc (seO x1)) ∧ Wy ((wq.alloc (.cells #[.int .i64 en, .int .i64 kd, .int .i64 ix, .int .i64 life] 53)).alloc (seO x1)) r ga gc G ∧ ((wq.alloc (.cells #[.int .i64 en, .int .i64 kd, .int .i64 ix, .int .i64 life] 53)).alloc (seO x1)).rangeAt wq.heap.size 0 [.int .i64 en, .int .i64 kd, .int .i64 ix, .int .i64 life] ∧ S4 ((wq.alloc (.cells #[.int .i64 en, .int .i64 kd, .int .i64 ix, .int .i64 life] 53)).alloc (seO x1)) (wq.heap.size + 1) 0 x1 ∧ ((wq.alloc (.cells #[.int .i64 en, .int .i64 kd, .int .i64 ix, .int .i64 life] 53)).alloc (seO x1)).heap.size = wq.heap.size + 2) := Lib.hid (by
            have q := bel2 wq (.cells #[.int .i64 en, .int .i64 kd, .int .i64 ix, .int .i64 life] 53) (seO x1)
            have f := S4.first (wq.alloc (.cells #[.int .i64 en, .int .i64 kd, .int .i64 ix, .int .i64 life] 53)) x1
            rw [World.size_alloc] at f
            exact ⟨HE.out.below q hbl, gNx HBW.out q, Rw.below HWY.out q, range_n (range_box0 wq [.int .i64 en, .int .i64 kd, .int .i64 ix, .int .i64 life] 53) (by simp) (gAl _ _), f, by simp⟩)
          obtain ⟨V1, hV1⟩ : ∃ V1, V1 = (wq.alloc (.cells #[.int .i64 en, .int .i64 kd, .int .i64 ix, .int .i64 life] 53)).alloc (.cells #[.int .u64 x1.m, .int .u64 x1.p, .bool x1.u, .int .i64 x1.s] 28) := ⟨_, rfl⟩
          rw [← hV1]
          rw [show (wq.alloc (.cells #[.int .i64 en, .int .i64 kd, .int .i64 ix, .int .i64 life] 53)).alloc (seO x1) = V1 from hV1.symm] at HF
          clear hV1 HWY HE HBW hbl
          obtain ⟨wb, hwb⟩ : ∃ wb, wb = wq.heap.size + 1 := ⟨_, rfl⟩
          rw [← hwb]
          rw [← hwb] at HF
          have HZ : Hid (r < V1.heap.size ∧ w.heap.size ≤ r ∧ r ≠ eb ∧ eb < V1.heap.size ∧ wb < V1.heap.size ∧ wb ≠ eb ∧ wb ≠ r ∧ wq.heap.size ≠ eb ∧ wq.heap.size < V1.heap.size ∧ wq.heap.size ≠ r ∧ w.heap.size ≤ eb) := Lib.hid (by have := HR.out; have := HF.out.2.2.2.2.2; have := HEB.out; omega)
          clear hwb HR
          generalize wq.heap.size = sb at *
          by_cases h0 : kd = 0
          · subst h0
            as_aux_lemma =>
              obtain ⟨⟨pc0, pc1, pc2, pc3, pf0, pf1, pf2, pf3⟩, ⟨qc0, qc1, qc2, qc3, qf0, qf1, qf2, qf3⟩⟩ := HF.out.1
              have hebl : eb < V1.heap.size := HZ.out.2.2.2.1
              go_wp2_with fail
              refine (hello_any x1 _).mono ?_
              rintro e1 w2 ⟨rfl, b2⟩
              clear pc0 pc1 pc2 pc3 pf0 pf1 pf2 pf3 qc0 qc1 qc2 qc3 qf0 qf1 qf2 qf3
              have HB2 := Lib.hid b2
              clear b2 hebl
              obtain ⟨a9, c9, V9, r9, hrun, hwy9, hr9, hrl9, hxr⟩ := sd_app (w := w2) 1 x1.m x1.p (Rw.below HF.out.2.2.1 HB2.out) (Nat.lt_of_lt_of_le HZ.out.1 HB2.out.size) (by have := HLG.out; omega)
              have HRUN := Lib.hid hrun
              have HX : Hid (S4 V9 wb 0 x1 ∧ E8 V9 eb x0 x1 ∧ Below w.heap.size w V9 ∧ wb < V9.heap.size ∧ eb < V9.heap.size ∧ w.heap.size ≤ r9 ∧ r9 ≠ eb) := Lib.hid (by
                obtain ⟨z1, z2, z3, z4, z5, z6, z7, z8, z9, z10, z11⟩ := HZ.out
                have hs2 := HB2.out.size
                have hs9 := hxr.size
                have e2 := HF.out.1.below HB2.out z4
                have s2 := HF.out.2.2.2.2.1.below HB2.out z5
                exact ⟨s2.xr hxr (by omega) z7 z7, ⟨e2.1.xr hxr (by omega) (Ne.symm z3) (Ne.symm z3), e2.2.xr hxr (by omega) (Ne.symm z3) (Ne.symm z3)⟩, (HF.out.2.1.trans (HB2.out.mono (by omega))).trans (hxr.below z2 z2 (by omega)), by omega, by omega, by omega, by omega⟩)
              have HG : Hid (E8 V9 eb x0 x1 ∧ Below w.heap.size w V9 ∧ Wy V9 r9 a9 c9 (G ++ [(⟨1, x1.m, x1.p⟩ : Sd)]) ∧ S4 V9 wb 0 x1 ∧ r9 < V9.heap.size ∧ eb < V9.heap.size ∧ wb < V9.heap.size ∧ w.heap.size ≤ r9 ∧ r9 ≠ eb) := Lib.hid ⟨HX.out.2.1, HX.out.2.2.1, hwy9, HX.out.1, hrl9, HX.out.2.2.2.2.1, HX.out.2.2.2.1, HX.out.2.2.2.2.2.1, HX.out.2.2.2.2.2.2⟩
              have HGD : Hid (Gd 1 x1 x1 (G ++ [(⟨1, x1.m, x1.p⟩ : Sd)])) := Lib.hid ((HA.out.2.1.more _).same)
              clear hrun hwy9 hr9 hrl9 hxr HX
              have HLN : Hid ((G ++ [(⟨1, x1.m, x1.p⟩ : Sd)]).length ≤ G.length + 1) := Lib.hid (by simp)
              have HAW : Hid (Aw 0 x0 (G ++ [(⟨1, x1.m, x1.p⟩ : Sd)]) ∧ Aw 1 x1 (G ++ [(⟨1, x1.m, x1.p⟩ : Sd)]) ∧ SdOk (G ++ [(⟨1, x1.m, x1.p⟩ : Sd)])) := Lib.hid ⟨HA.out.1.more _, HA.out.2.1.more _, HA.out.2.2.more ⟨HA.out.2.1.1.m0, HA.out.2.1.1.m1⟩⟩
              generalize hGG : G ++ [(⟨1, x1.m, x1.p⟩ : Sd)] = GG at *
              clear hGG
              go_upto_region 34 with (at_builtin; refine Lib.wpList_append_run _ rfl _ _ _ _ rfl _ _ rfl rfl _ _ (HRUN.out _) ?_)
              clear HRUN
              obtain ⟨⟨pc0, pc1, pc2, pc3, pf0, pf1, pf2, pf3⟩, ⟨qc0, qc1, qc2, qc3, qf0, qf1, qf2, qf3⟩⟩ := HG.out.1
              obtain ⟨wc0, wc1, wc2, wc3, -, -, -, -⟩ := HG.out.2.2.2.1
              have hwbl : wb < V9.heap.size := HG.out.2.2.2.2.2.2.1
              have hebl : eb < V9.heap.size := HG.out.2.2.2.2.2.1
              have hm : decide (x1.m < x1.m) = false := HGD.out.2.1
              rcases HGD.out.2.2.1 with hP | ⟨hP, hQ, hu⟩
              · as_aux_lemma =>
                  cases hu : x1.u
                  · rw [hu] at qc2
                    go_wp2_with fail
                    exact HNX.out _ _ GG a9 c9 r9 _ HLN.out (HAW.out.1) (HAW.out.2.1) (HAW.out.2.2) (HG.out.2.2.1.below (gAl V9 _)) (Nat.lt_of_lt_of_le HG.out.2.2.2.2.1 (gAl V9 _).size) HG.out.2.2.2.2.2.2.2.1 HG.out.2.2.2.2.2.2.2.2 (Nat.lt_of_lt_of_le HG.out.2.2.2.2.2.1 (gAl V9 _).size) (HG.out.2.1.trans ((gAl V9 _).mono (Nat.le_trans HG.out.2.2.2.2.2.2.2.1 (Nat.le_of_lt HG.out.2.2.2.2.1)))) (HG.out.1.below (gAl V9 _) HG.out.2.2.2.2.2.1)
                  · have HH := Lib.hid (heard_yes GG r9 a9 c9 1 x1.m x1.p true x1.s (HGD.out.2.2.2 hu) (by have := HLG.out; have := (show GG.length ≤ G.length + 1 from HLN.out); omega))
                    rw [hu] at qc2
                    go_wp2_with fail
                    refine (HH.out _ (Rw.below HG.out.2.2.1 (gAl V9 _))).mono ?_
                    rintro e9 w9 ⟨rfl, b9⟩
                    have HB9 := Lib.hid (gNx (gAl V9 _) b9)
                    clear b9
                    go_wp2_with fail
                    exact HNX.out _ _ GG a9 c9 r9 w9 HLN.out (HAW.out.1) (HAW.out.2.1) (HAW.out.2.2) (HG.out.2.2.1.below HB9.out) (Nat.lt_of_lt_of_le HG.out.2.2.2.2.1 HB9.out.size) HG.out.2.2.2.2.2.2.2.1 HG.out.2.2.2.2.2.2.2.2 (Nat.lt_of_lt_of_le HG.out.2.2.2.2.2.1 HB9.out.size) (HG.out.2.1.trans (HB9.out.mono (Nat.le_trans HG.out.2.2.2.2.2.2.2.1 (Nat.le_of_lt HG.out.2.2.2.2.1)))) (HG.out.1.below HB9.out HG.out.2.2.2.2.2.1)
              · as_aux_lemma =>
                  rw [hu] at qc2
                  go_wp2_with fail
                  exact HNX.out _ _ GG a9 c9 r9 _ HLN.out (HAW.out.1) (HAW.out.2.1) (HAW.out.2.2) (HG.out.2.2.1.below (gAl V9 _)) (Nat.lt_of_lt_of_le HG.out.2.2.2.2.1 (gAl V9 _).size) HG.out.2.2.2.2.2.2.2.1 HG.out.2.2.2.2.2.2.2.2 (Nat.lt_of_lt_of_le HG.out.2.2.2.2.2.1 (gAl V9 _).size) (HG.out.2.1.trans ((gAl V9 _).mono (Nat.le_trans HG.out.2.2.2.2.2.2.2.1 (Nat.le_of_lt HG.out.2.2.2.2.1)))) (HG.out.1.below (gAl V9 _) HG.out.2.2.2.2.2.1)
          by_cases h12 : kd = 1 ∨ kd = 2
          · have n0 : (kd == 0) = false := by simpa using h0
            clear h0
            by_cases hix : 0 ≤ ix ∧ ix < (G.length : Int)
            · obtain ⟨i, rfl⟩ : ∃ i : Nat, ix = (i : Int) := ⟨ix.toNat, by omega⟩
              have hi : i < G.length := by omega
              obtain ⟨go_, rfl, hgl2, hra⟩ := Wy.at HF.out.2.2.1 (by omega)
              obtain ⟨k0, k1, k2⟩ := sd_cells hra hi
              have hmem := List.getElem_mem hi
              generalize G[i] = g at *
              obtain ⟨fr, gn, ge⟩ := g
              simp only at k0 k1 k2
              have q1 : ((i : Int) < 0) = False := by simp
              have q2 : decide ((i : Int) < 0) = false := by simp
              have q3 : decide ((G.length : Int) ≤ (i : Int)) = false := by simp; omega
              have q4 : ¬ ((G.length : Int) ≤ (i : Int)) := by omega
              have q5 : (0 : Int) ≤ (i : Int) := by omega
              have q6 : (i : Int) < (G.length : Int) := by omega
              have hsb : sb < V1.heap.size := HZ.out.2.2.2.2.2.2.2.2.1
              have hrr : r < V1.heap.size := HZ.out.1
              clear q1 hix hra hi
              by_cases hfr : fr = 1
              · have q7 : (fr == 1) = true := by simpa using hfr
                clear hfr
                rcases h12 with rfl | rfl
                all_goals
                  have sd1 := HF.out.2.2.2.1 1 _ rfl
                  have sd2 := HF.out.2.2.2.1 2 _ rfl
                  go_wp2_with fail
                  exact HNX.out _ _ G _ _ r V1 (Nat.le_succ _) HA.out.1 HA.out.2.1 HA.out.2.2 HF.out.2.2.1 HZ.out.1 HZ.out.2.1 HZ.out.2.2.1 HZ.out.2.2.2.1 HF.out.2.1 HF.out.1
              have q7 : (fr == 1) = false := by simpa using hfr
              have HMEM : Hid ((⟨fr, gn, ge⟩ : Sd) ∈ G ∧ (⟨fr, gn, ge⟩ : Sd).fr ≠ 1) := Lib.hid ⟨hmem, hfr⟩
              clear hmem hfr
              rcases h12 with rfl | rfl
              · as_aux_lemma =>
                  have sd1 := HF.out.2.2.2.1 1 _ rfl
                  have sd2 := HF.out.2.2.2.1 2 _ rfl
                  go_upto_region 24 with (fail)
                  clear k0 k1 k2 q2 q3 q4 q5 q6 q7
                  have HF2 : Hid (Below V1.heap.size V1 (V1.alloc (.cells #[.int .i64 fr, .int .u64 gn, .int .u64 ge] 55)) ∧ (V1.alloc (.cells #[.int .i64 fr, .int .u64 gn, .int .u64 ge] 55)).rangeAt V1.heap.size 0 [.int .i64 fr, .int .u64 gn, .int .u64 ge] ∧ V1.heap.size ≠ eb ∧ V1.heap.size < (V1.alloc (.cells #[.int .i64 fr, .int .u64 gn, .int .u64 ge] 55)).heap.size) := Lib.hid ⟨gAl _ _, range_box0 V1 [.int .i64 fr, .int .u64 gn, .int .u64 ge] 55, by have := HZ.out; omega, by simp⟩
                  obtain ⟨gb, hgb⟩ : ∃ gb, gb = V1.heap.size := ⟨_, rfl⟩
                  obtain ⟨V2, hV2⟩ : ∃ V2, V2 = V1.alloc (.cells #[.int .i64 fr, .int .u64 gn, .int .u64 ge] 55) := ⟨_, rfl⟩
                  rw [← hV2, ← hgb]
                  rw [← hV2] at HF2
                  have HG2 : Hid (V2.rangeAt gb 0 [.int .i64 fr, .int .u64 gn, .int .u64 ge] ∧ gb ≠ eb ∧ gb < V2.heap.size) := Lib.hid (by rw [hgb]; exact HF2.out.2)
                  have HB2 := Lib.hid HF2.out.1
                  have sd1 := (range_n HF.out.2.2.2.1 HZ.out.2.2.2.2.2.2.2.2.1 HB2.out) 1 _ rfl
                  clear hV2 hgb HF2 hsb hrr sd2
                  have HH := Lib.hid (hear_ex x1 gn ge _ rfl)
                  have HGD := Lib.hid (HA.out.2.1.hear (k := 1) HMEM.out.1 HMEM.out.2 HA.out.2.2)
                  simp only at HGD
                  generalize (hearF x1 gn ge).1 = y at *
                  obtain ⟨⟨pc0, pc1, pc2, pc3, pf0, pf1, pf2, pf3⟩, ⟨qc0, qc1, qc2, qc3, qf0, qf1, qf2, qf3⟩⟩ := (HF.out.1.below HB2.out HZ.out.2.2.2.1)
                  go_upto_region 25 with (fail)
                  clear pc0 pc1 pc2 pc3 pf0 pf1 pf2 pf3 qc0 qc1 qc2 qc3 qf0 qf1 qf2 qf3
                  clear sd1
                  refine wp_region_held_drew (S := fun V => V.rangeAt gb 0 [.int .i64 fr, .int .u64 gn, .int .u64 ge]) (by kernel_rfl) ((World.rangeAt_drew V2 _ _ _).2 HG2.out.1) (fun hH => ?_)
                  clear hH
                  have hs0 : V2.drew.rangeAt gb 0 [.int .i64 fr, .int .u64 gn, .int .u64 ge] := (World.rangeAt_drew V2 _ _ _).2 HG2.out.1
                  have HB0 : Hid (Below V1.heap.size V1 V2.drew) := Lib.hid HB2.out.drew
                  have hz0 : gb < V2.drew.heap.size := HG2.out.2.2
                  generalize V2.drew = V0 at *
                  refine tk 0 (by assumption) rfl (by kernel_rfl) (fun _ _ _ h => h) (fun V hV => by go_simp; try with_reducible rfl) ?_
                  try simp only [Act.put, sqA, sqB, sqC, sqD, sqE, sqF]
                  refine tk 1 (by assumption) rfl (by kernel_rfl) (fun _ _ _ h => h) (fun V hV => by go_simp; try with_reducible rfl) ?_
                  try simp only [Act.put, sqA, sqB, sqC, sqD, sqE, sqF]
                  refine tk 2 (by assumption) rfl (by kernel_rfl) (fun _ _ _ h => h) (fun V hV => by go_simp; try with_reducible rfl) ?_
                  try simp only [Act.put, sqA, sqB, sqC, sqD, sqE, sqF]
                  refine tk 4 (by assumption) rfl (by kernel_rfl) (fun _ _ _ h => h) (fun V hV => by go_simp; try with_reducible rfl) ?_
                  try simp only [Act.put, sqA, sqB, sqC, sqD, sqE, sqF]
                  refine tk 5 (by assumption) rfl (by kernel_rfl) (fun _ _ _ h => h) (fun V hV => by have z3 := hV 1 _ rfl; go_simp; try with_reducible rfl) ?_
                  try simp only [Act.put, sqA, sqB, sqC, sqD, sqE, sqF]
                  refine tk 6 (by assumption) rfl (by kernel_rfl) (fun _ _ _ h => h) (fun V hV => by go_simp; try with_reducible rfl) ?_
                  try simp only [Act.put, sqA, sqB, sqC, sqD, sqE, sqF]
                  refine tk 7 (by assumption) rfl (by kernel_rfl) (fun _ _ _ h => h) (fun V hV => by have z3 := hV 2 _ rfl; go_simp; try with_reducible rfl) ?_
                  try simp only [Act.put, sqA, sqB, sqC, sqD, sqE, sqF]
                  refine wpAnyH_ready (rs := [3]) (by kernel_rfl) (by simp) ?_
                  refine AllReadyH.cons (o := _) rfl (fun K hK => ?_) AllReadyH.nil
                  rw [if_pos (by rfl)]
                  refine wp_load_mid 28 (.tmp 112) rfl eb 4 rfl (seL x1) _ (HF.out.1.below HB0.out HZ.out.2.2.2.1).2.range Try.underlying28 (by rfl) (by kernel_rfl) ?_
                  refine hK.out _ _ hs0 (fun hH => ?_)
                  clear hK K hH
                  try simp only [Act.put, sqA, sqB, sqC, sqD, sqE, sqF]
                  refine wpAnyH_ready (rs := [8]) (by kernel_rfl) (by simp) ?_
                  refine AllReadyH.cons (o := _) rfl (fun K hK => ?_) AllReadyH.nil
                  go_simp
                  refine (HH.out _).mono ?_
                  rintro e2 w3 ⟨f, f2, rfl, b3⟩
                  have HB3 : Hid (Below V1.heap.size V1 w3) := Lib.hid (gNx HB0.out b3)
                  have hs3 := range_n hs0 hz0 b3
                  clear b3
                  go_wp2_with fail
                  refine hK.out _ _ hs3 (fun hH => ?_)
                  clear hK K hH
                  try simp only [Act.put, sqA, sqB, sqC, sqD, sqE, sqF]
                  refine tk 9 (by assumption) rfl (by kernel_rfl) (fun _ _ _ h => h) (fun V hV => by go_simp; try with_reducible rfl) ?_
                  try simp only [Act.put, sqA, sqB, sqC, sqD, sqE, sqF]
                  refine tk 10 (by assumption) rfl (by kernel_rfl) (fun _ _ _ h => h) (fun V hV => by go_simp; try with_reducible rfl) ?_
                  try simp only [Act.put, sqA, sqB, sqC, sqD, sqE, sqF]
                  refine tk 11 (by assumption) rfl (by kernel_rfl) (fun _ _ _ h => h) (fun V hV => by go_simp; try with_reducible rfl) ?_
                  try simp only [Act.put, sqA, sqB, sqC, sqD, sqE, sqF]
                  refine tk 12 (by assumption) rfl (by kernel_rfl) (fun _ _ _ h => h) (fun V hV => by go_simp; try with_reducible rfl) ?_
                  try simp only [Act.put, sqA, sqB, sqC, sqD, sqE, sqF]
                  refine tk 13 (by assumption) rfl (by kernel_rfl) (fun _ _ _ h => h) (fun V hV => by go_simp; try with_reducible rfl) ?_
                  try simp only [Act.put, sqA, sqB, sqC, sqD, sqE, sqF]
                  refine wpAnyH_ready (rs := [14]) (by kernel_rfl) (by simp) ?_
                  refine AllReadyH.cons (o := _) rfl (fun K hK => ?_) AllReadyH.nil
                  obtain ⟨V9, hV9, p1, p2, p3, p4, p5, p6⟩ := ag_put1 (cs := [.int .i64 fr, .int .u64 gn, .int .u64 ge]) (HF.out.1.below HB3.out HZ.out.2.2.2.1) (HF.out.2.1.trans (Below.mono HB3.out (Nat.le_trans HZ.out.2.1 (Nat.le_of_lt HZ.out.1)))) HZ.out.2.2.2.2.2.2.2.2.2.2 (Nat.lt_of_lt_of_le HZ.out.2.2.2.1 (Below.size HB3.out)) (Rw.below HF.out.2.2.1 HB3.out) (Nat.lt_of_lt_of_le HZ.out.1 (Below.size HB3.out)) HZ.out.2.2.1 (HF.out.2.2.2.2.1.below HB3.out HZ.out.2.2.2.2.1) HZ.out.2.2.2.2.2.1 (gb := gb) (hs3) (HG2.out.2.1) y.m y.p y.u y.s
                  rw [if_pos (by rfl)]
                  refine wp_store_mid 28 (.tmp 122) (.tmp 119) rfl eb 4 (seL y).toArray rfl rfl (HF.out.1.below HB3.out HZ.out.2.2.2.1).2.there (by kernel_rfl) (all_oneCell_toArray (seL_one y)) ?_
                  rw [show w3.setCells eb 4 (seL y).toArray.toList = V9 from hV9.symm]
                  refine hK.out _ _ p6 (fun hH => ?_)
                  clear hK K hH hV9
                  try simp only [Act.put, sqA, sqB, sqC, sqD, sqE, sqF]
                  refine wpAnyH_done (by kernel_rfl) ?_ _
                  have HG : Hid (E8 V9 eb x0 y ∧ Below w.heap.size w V9 ∧ Wy V9 r (some ⟨r, go_, none⟩) gc G ∧ S4 V9 wb 0 x1 ∧ r < V9.heap.size ∧ eb < V9.heap.size ∧ wb < V9.heap.size ∧ w.heap.size ≤ r ∧ r ≠ eb) := Lib.hid ⟨p1, p2, p4, p5, Nat.lt_of_lt_of_le (Nat.lt_of_lt_of_le HZ.out.1 (Below.size HB3.out)) p3, Nat.lt_of_lt_of_le (Nat.lt_of_lt_of_le HZ.out.2.2.2.1 (Below.size HB3.out)) p3, Nat.lt_of_lt_of_le (Nat.lt_of_lt_of_le HZ.out.2.2.2.2.1 (Below.size HB3.out)) p3, HZ.out.2.1, HZ.out.2.2.1⟩
                  clear p1 p2 p3 p4 p5 p6 hs0 hs3
                  go_upto_region 34 with (fail)
                  obtain ⟨⟨pc0, pc1, pc2, pc3, pf0, pf1, pf2, pf3⟩, ⟨qc0, qc1, qc2, qc3, qf0, qf1, qf2, qf3⟩⟩ := HG.out.1
                  obtain ⟨wc0, wc1, wc2, wc3, -, -, -, -⟩ := HG.out.2.2.2.1
                  have hwbl : wb < V9.heap.size := HG.out.2.2.2.2.2.2.1
                  have hebl : eb < V9.heap.size := HG.out.2.2.2.2.2.1
                  have hm : decide (y.m < x1.m) = false := HGD.out.2.1
                  rcases HGD.out.2.2.1 with hP | ⟨hP, hQ, hu⟩
                  · as_aux_lemma =>
                      cases hu : y.u
                      · rw [hu] at qc2
                        go_wp2_with fail
                        exact HNX.out _ _ G (some ⟨r, go_, none⟩) gc r _ (Nat.le_succ _) (HA.out.1) (HGD.out.aw) (HA.out.2.2) (HG.out.2.2.1.below (gAl V9 _)) (Nat.lt_of_lt_of_le HG.out.2.2.2.2.1 (gAl V9 _).size) HG.out.2.2.2.2.2.2.2.1 HG.out.2.2.2.2.2.2.2.2 (Nat.lt_of_lt_of_le HG.out.2.2.2.2.2.1 (gAl V9 _).size) (HG.out.2.1.trans ((gAl V9 _).mono (Nat.le_trans HG.out.2.2.2.2.2.2.2.1 (Nat.le_of_lt HG.out.2.2.2.2.1)))) (HG.out.1.below (gAl V9 _) HG.out.2.2.2.2.2.1)
                      · have HH := Lib.hid (heard_yes G r (some ⟨r, go_, none⟩) gc 1 y.m y.p true y.s (HGD.out.2.2.2 hu) (by have := HLG.out; have := (show G.length ≤ G.length + 1 from (Nat.le_succ _)); omega))
                        rw [hu] at qc2
                        go_wp2_with fail
                        refine (HH.out _ (Rw.below HG.out.2.2.1 (gAl V9 _))).mono ?_
                        rintro e9 w9 ⟨rfl, b9⟩
                        have HB9 := Lib.hid (gNx (gAl V9 _) b9)
                        clear b9
                        go_wp2_with fail
                        exact HNX.out _ _ G (some ⟨r, go_, none⟩) gc r w9 (Nat.le_succ _) (HA.out.1) (HGD.out.aw) (HA.out.2.2) (HG.out.2.2.1.below HB9.out) (Nat.lt_of_lt_of_le HG.out.2.2.2.2.1 HB9.out.size) HG.out.2.2.2.2.2.2.2.1 HG.out.2.2.2.2.2.2.2.2 (Nat.lt_of_lt_of_le HG.out.2.2.2.2.2.1 HB9.out.size) (HG.out.2.1.trans (HB9.out.mono (Nat.le_trans HG.out.2.2.2.2.2.2.2.1 (Nat.le_of_lt HG.out.2.2.2.2.1)))) (HG.out.1.below HB9.out HG.out.2.2.2.2.2.1)
                  · as_aux_lemma =>
                      rw [hu] at qc2
                      go_wp2_with fail
                      exact HNX.out _ _ G (some ⟨r, go_, none⟩) gc r _ (Nat.le_succ _) (HA.out.1) (HGD.out.aw) (HA.out.2.2) (HG.out.2.2.1.below (gAl V9 _)) (Nat.lt_of_lt_of_le HG.out.2.2.2.2.1 (gAl V9 _).size) HG.out.2.2.2.2.2.2.2.1 HG.out.2.2.2.2.2.2.2.2 (Nat.lt_of_lt_of_le HG.out.2.2.2.2.2.1 (gAl V9 _).size) (HG.out.2.1.trans ((gAl V9 _).mono (Nat.le_trans HG.out.2.2.2.2.2.2.2.1 (Nat.le_of_lt HG.out.2.2.2.2.1)))) (HG.out.1.below (gAl V9 _) HG.out.2.2.2.2.2.1)
              · as_aux_lemma =>
                  have sd1 := HF.out.2.2.2.1 1 _ rfl
                  have sd2 := HF.out.2.2.2.1 2 _ rfl
                  go_upto_region 24 with (fail)
                  clear k0 k1 k2 q2 q3 q4 q5 q6 q7
                  have HF2 : Hid (Below V1.heap.size V1 (V1.alloc (.cells #[.int .i64 fr, .int .u64 gn, .int .u64 ge] 55)) ∧ (V1.alloc (.cells #[.int .i64 fr, .int .u64 gn, .int .u64 ge] 55)).rangeAt V1.heap.size 0 [.int .i64 fr, .int .u64 gn, .int .u64 ge] ∧ V1.heap.size ≠ eb ∧ V1.heap.size < (V1.alloc (.cells #[.int .i64 fr, .int .u64 gn, .int .u64 ge] 55)).heap.size) := Lib.hid ⟨gAl _ _, range_box0 V1 [.int .i64 fr, .int .u64 gn, .int .u64 ge] 55, by have := HZ.out; omega, by simp⟩
                  obtain ⟨gb, hgb⟩ : ∃ gb, gb = V1.heap.size := ⟨_, rfl⟩
                  obtain ⟨V2, hV2⟩ : ∃ V2, V2 = V1.alloc (.cells #[.int .i64 fr, .int .u64 gn, .int .u64 ge] 55) := ⟨_, rfl⟩
                  rw [← hV2, ← hgb]
                  rw [← hV2] at HF2
                  have HG2 : Hid (V2.rangeAt gb 0 [.int .i64 fr, .int .u64 gn, .int .u64 ge] ∧ gb ≠ eb ∧ gb < V2.heap.size) := Lib.hid (by rw [hgb]; exact HF2.out.2)
                  have HB2 := Lib.hid HF2.out.1
                  have sd1 := (range_n HF.out.2.2.2.1 HZ.out.2.2.2.2.2.2.2.2.1 HB2.out) 1 _ rfl
                  clear hV2 hgb HF2 hsb hrr sd2
                  have HH := Lib.hid (accept_ex x1 gn ge)
                  have HAC := Lib.hid (HA.out.2.1.accept (k := 1) HMEM.out.1 HMEM.out.2)
                  simp only at HAC
                  generalize acceptF x1 gn ge = yy at *
                  obtain ⟨y, f, f2⟩ := yy
                  simp only at HAC HH
                  have HGD := Lib.hid HAC.out.1
                  obtain ⟨⟨pc0, pc1, pc2, pc3, pf0, pf1, pf2, pf3⟩, ⟨qc0, qc1, qc2, qc3, qf0, qf1, qf2, qf3⟩⟩ := (HF.out.1.below HB2.out HZ.out.2.2.2.1)
                  go_upto_region 26 with (fail)
                  clear pc0 pc1 pc2 pc3 pf0 pf1 pf2 pf3 qc0 qc1 qc2 qc3 qf0 qf1 qf2 qf3
                  clear sd1
                  refine wp_region_held_drew (S := fun V => Below V2.heap.size V2 V) (by kernel_rfl) (Below.refl V2.heap.size V2).drew (fun hH => ?_)
                  clear hH
                  obtain ⟨V, hV⟩ : ∃ V, V = V2.drew := ⟨_, rfl⟩
                  have kv : Below V2.heap.size V2 V2.drew := (Below.refl V2.heap.size V2).drew
                  rw [← hV]
                  rw [← hV] at kv
                  clear hV
                  have KV := Lib.hid kv
                  refine tk 0 (by assumption) rfl (by kernel_rfl) (fun _ _ _ h => h) (fun V hV => by go_simp; try with_reducible rfl) ?_
                  try simp only [Act.put, sqA, sqB, sqC, sqD, sqE, sqF]
                  refine tk 1 (by assumption) rfl (by kernel_rfl) (fun _ _ _ h => h) (fun V hV => by go_simp; try with_reducible rfl) ?_
                  try simp only [Act.put, sqA, sqB, sqC, sqD, sqE, sqF]
                  refine tk 2 (by assumption) rfl (by kernel_rfl) (fun _ _ _ h => h) (tk_load (S := fun V => Below V2.heap.size V2 V) 28 (.tmp 125) rfl eb 4 rfl (seL x1) _ (fun V hV => (HF.out.1.below (gNx HB2.out hV) HZ.out.2.2.2.1).2.range) Try.underlying28 (by rfl) (by kernel_rfl)) ?_
                  try simp only [Act.put, sqA, sqB, sqC, sqD, sqE, sqF]
                  refine tk 3 (by assumption) rfl (by kernel_rfl) (fun _ _ _ h => h) (fun V hV => by go_simp; try with_reducible rfl) ?_
                  try simp only [Act.put, sqA, sqB, sqC, sqD, sqE, sqF]
                  refine tk 4 (by assumption) rfl (by kernel_rfl) (fun _ _ _ h => h) (fun V hV => by have z3 := (range_n HG2.out.1 HG2.out.2.2 hV) 1 _ rfl; go_simp; try with_reducible rfl) ?_
                  try simp only [Act.put, sqA, sqB, sqC, sqD, sqE, sqF]
                  refine tk 5 (by assumption) rfl (by kernel_rfl) (fun _ _ _ h => h) (fun V hV => by go_simp; try with_reducible rfl) ?_
                  try simp only [Act.put, sqA, sqB, sqC, sqD, sqE, sqF]
                  refine tk 6 (by assumption) rfl (by kernel_rfl) (fun _ _ _ h => h) (fun V hV => by have z3 := (range_n HG2.out.1 HG2.out.2.2 hV) 2 _ rfl; go_simp; try with_reducible rfl) ?_
                  try simp only [Act.put, sqA, sqB, sqC, sqD, sqE, sqF]
                  refine wpAnyH_ready (rs := [7, 12]) (by kernel_rfl) (by simp) ?_
                  refine AllReadyH.cons (o := _) rfl (fun K hK => ?_) (AllReadyH.cons (o := _) rfl (fun K hK => ?_) (AllReadyH.nil))
                  · go_simp
                    refine (HH.out _).mono ?_
                    rintro e2 VN ⟨rfl, b3⟩
                    have KW := Lib.hid (gNx KV.out b3)
                    try (have NB2 := Lib.hid (show VN.there nb 0 4 ∧ nb < VN.heap.size ∧ V2.heap.size ≤ nb from ⟨there_next NB.out.1 NB.out.2.1 b3, Nat.lt_of_lt_of_le NB.out.2.1 b3.size, NB.out.2.2⟩); clear NB; have NB := NB2; clear NB2)
                    clear b3
                    obtain ⟨V, hV⟩ : ∃ U, U = VN := ⟨_, rfl⟩
                    subst hV
                    clear KV
                    have KV := KW
                    clear KW
                    have kv := KV.out
                    go_wp2_with fail
                    refine hK.out _ _ kv (fun hH => ?_)
                    clear hK K hH
                    try simp only [Act.put, sqA, sqB, sqC, sqD, sqE, sqF]
                    refine tk 8 (by assumption) rfl (by kernel_rfl) (fun _ _ _ h => h) (fun V hV => by go_simp; try with_reducible rfl) ?_
                    try simp only [Act.put, sqA, sqB, sqC, sqD, sqE, sqF]
                    refine tk 9 (by assumption) rfl (by kernel_rfl) (fun _ _ _ h => h) (fun V hV => by go_simp; try with_reducible rfl) ?_
                    try simp only [Act.put, sqA, sqB, sqC, sqD, sqE, sqF]
                    refine tk 10 (by assumption) rfl (by kernel_rfl) (fun _ _ _ h => h) (fun V hV => by go_simp; try with_reducible rfl) ?_
                    try simp only [Act.put, sqA, sqB, sqC, sqD, sqE, sqF]
                    refine tk 11 (by assumption) rfl (by kernel_rfl) (fun _ _ _ h => h) (fun V hV => by go_simp; try with_reducible rfl) ?_
                    try simp only [Act.put, sqA, sqB, sqC, sqD, sqE, sqF]
                    refine wpAnyH_ready (rs := [12]) (by kernel_rfl) (by simp) ?_
                    refine AllReadyH.cons (o := _) rfl (fun K hK => ?_) AllReadyH.nil
                    go_simp
                    obtain ⟨nb, hnb⟩ : ∃ nb, nb = V.heap.size := ⟨_, rfl⟩
                    rw [← hnb]
                    have KW := Lib.hid (gNx KV.out (gAl V (.cells #[.int .u64 0, .int .u64 0, .bool false, .int .i64 0] 28)))
                    have NB : Hid ((V.alloc (.cells #[.int .u64 0, .int .u64 0, .bool false, .int .i64 0] 28)).there nb 0 4 ∧ nb < (V.alloc (.cells #[.int .u64 0, .int .u64 0, .bool false, .int .i64 0] 28)).heap.size ∧ V2.heap.size ≤ nb) := Lib.hid (by rw [hnb]; exact ⟨there_box V [.int .u64 0, .int .u64 0, .bool false, .int .i64 0] 28, by simp, KV.out.size⟩)
                    obtain ⟨VN, hV⟩ : ∃ U, U = V.alloc (.cells #[.int .u64 0, .int .u64 0, .bool false, .int .i64 0] 28) := ⟨_, rfl⟩
                    rw [← hV]
                    rw [← hV] at KW NB
                    clear hV hnb
                    obtain ⟨V, hV⟩ : ∃ U, U = VN := ⟨_, rfl⟩
                    subst hV
                    clear KV
                    have KV := KW
                    clear KW
                    have kv := KV.out
                    refine hK.out _ _ kv (fun hH => ?_)
                    clear hK K hH
                    try simp only [Act.put, sqA, sqB, sqC, sqD, sqE, sqF]
                    refine wpAnyH_ready (rs := [13]) (by kernel_rfl) (by simp) ?_
                    refine AllReadyH.cons (o := _) rfl (fun K hK => ?_) AllReadyH.nil
                    rw [if_pos (by rfl)]
                    refine wp_store_mid 28 (.tmp 17) (.tmp 132) rfl nb 0 (seL y).toArray rfl rfl NB.out.1 (by kernel_rfl) (all_oneCell_toArray (seL_one y)) ?_
                    have KW := Lib.hid (below_set nb NB.out.2.2 (seL y).toArray.toList 0 _ KV.out)
                    have NS := Lib.hid (show S4 (World.setCells _ nb 0 (seL y).toArray.toList) nb 0 y ∧ nb < (World.setCells _ nb 0 (seL y).toArray.toList).heap.size ∧ V2.heap.size ≤ nb from ⟨S4.of_there NB.out.1 y, by rw [setCells_size]; exact NB.out.2.1, NB.out.2.2⟩)
                    clear NB
                    refine hK.out _ _ KW.out (fun hH => ?_)
                    clear hK K hH
                    clear KV
                    have KV := KW
                    clear KW
                    have kv := KV.out
                    generalize World.setCells _ nb 0 (seL y).toArray.toList = V at *
                    try simp only [Act.put, sqA, sqB, sqC, sqD, sqE, sqF]
                    refine tk 14 (by assumption) rfl (by kernel_rfl) (fun _ _ _ h => h) (fun V hV => by go_simp; try with_reducible rfl) ?_
                    try simp only [Act.put, sqA, sqB, sqC, sqD, sqE, sqF]
                    refine tk 15 (by assumption) rfl (by kernel_rfl) (fun _ _ _ h => h) (fun V hV => by go_simp; try with_reducible rfl) ?_
                    try simp only [Act.put, sqA, sqB, sqC, sqD, sqE, sqF]
                    refine wpAnyH_done (by kernel_rfl) ?_ _
                    as_aux_lemma =>
                      have HB3 := Lib.hid (gNx HB2.out KV.out)
                      have hebl := Nat.lt_of_lt_of_le HZ.out.2.2.2.1 HB3.out.size
                      obtain ⟨⟨pc0, pc1, pc2, pc3, pf0, pf1, pf2, pf3⟩, ⟨qc0, qc1, qc2, qc3, qf0, qf1, qf2, qf3⟩⟩ := (HF.out.1.below HB3.out HZ.out.2.2.2.1)
                      obtain ⟨nc0, nc1, nc2, nc3, -, -, -, -⟩ := NS.out.1
                      have hnbl := NS.out.2.1
                      have hnee : nb ≠ eb := by have := NS.out.2.2; have := HB2.out.size; have := HZ.out; omega
                      go_upto_region 28 with (fail)
                      clear pc0 pc1 pc2 pc3 pf0 pf1 pf2 pf3 qc0 qc1 qc2 qc3 qf0 qf1 qf2 qf3
                      clear nc0 nc1 nc2 nc3 hnbl hebl hnee
                      obtain ⟨V9, hV9, p1, p2, p3, p4, p5, p6⟩ := ag_put1 (cs := [.int .i64 fr, .int .u64 gn, .int .u64 ge]) (HF.out.1.below HB3.out HZ.out.2.2.2.1) (HF.out.2.1.trans (Below.mono HB3.out (Nat.le_trans HZ.out.2.1 (Nat.le_of_lt HZ.out.1)))) HZ.out.2.2.2.2.2.2.2.2.2.2 (Nat.lt_of_lt_of_le HZ.out.2.2.2.1 (Below.size HB3.out)) (Rw.below HF.out.2.2.1 HB3.out) (Nat.lt_of_lt_of_le HZ.out.1 (Below.size HB3.out)) HZ.out.2.2.1 (HF.out.2.2.2.2.1.below HB3.out HZ.out.2.2.2.2.1) HZ.out.2.2.2.2.2.1 (gb := gb) (range_n HG2.out.1 HG2.out.2.2 KV.out) (HG2.out.2.1) y.m y.p y.u y.s
                      rw [← hV9]
                      have HG : Hid (E8 V9 eb x0 y ∧ Below w.heap.size w V9 ∧ Wy V9 r (some ⟨r, go_, none⟩) gc G ∧ S4 V9 wb 0 x1 ∧ r < V9.heap.size ∧ eb < V9.heap.size ∧ wb < V9.heap.size ∧ w.heap.size ≤ r ∧ r ≠ eb) := Lib.hid ⟨p1, p2, p4, p5, Nat.lt_of_lt_of_le (Nat.lt_of_lt_of_le HZ.out.1 (Below.size HB3.out)) p3, Nat.lt_of_lt_of_le (Nat.lt_of_lt_of_le HZ.out.2.2.2.1 (Below.size HB3.out)) p3, Nat.lt_of_lt_of_le (Nat.lt_of_lt_of_le HZ.out.2.2.2.2.1 (Below.size HB3.out)) p3, HZ.out.2.1, HZ.out.2.2.1⟩
                      have g1 := p6 1 _ rfl
                      have g2 := p6 2 _ rfl
                      have hgbl : gb < V9.heap.size := Nat.lt_of_lt_of_le (Nat.lt_of_lt_of_le HG2.out.2.2 KV.out.size) p3
                      clear hV9 p1 p2 p3 p4 p5 p6
                      obtain ⟨wc0, wc1, -, -, -, -, -, -⟩ := HG.out.2.2.2.1
                      rcases HAC.out.2 with rfl | ⟨rfl, e1, e2⟩
                      · go_upto_region 34 with (fail)
                        clear wc0 wc1 g1 g2 hgbl
                        obtain ⟨⟨pc0, pc1, pc2, pc3, pf0, pf1, pf2, pf3⟩, ⟨qc0, qc1, qc2, qc3, qf0, qf1, qf2, qf3⟩⟩ := HG.out.1
                        obtain ⟨wc0, wc1, wc2, wc3, -, -, -, -⟩ := HG.out.2.2.2.1
                        have hwbl : wb < V9.heap.size := HG.out.2.2.2.2.2.2.1
                        have hebl : eb < V9.heap.size := HG.out.2.2.2.2.2.1
                        have hm : decide (y.m < x1.m) = false := HGD.out.2.1
                        rcases HGD.out.2.2.1 with hP | ⟨hP, hQ, hu⟩
                        · as_aux_lemma =>
                            cases hu : y.u
                            · rw [hu] at qc2
                              go_wp2_with fail
                              exact HNX.out _ _ G (some ⟨r, go_, none⟩) gc r _ (Nat.le_succ _) (HA.out.1) (HGD.out.aw) (HA.out.2.2) (HG.out.2.2.1.below (gAl V9 _)) (Nat.lt_of_lt_of_le HG.out.2.2.2.2.1 (gAl V9 _).size) HG.out.2.2.2.2.2.2.2.1 HG.out.2.2.2.2.2.2.2.2 (Nat.lt_of_lt_of_le HG.out.2.2.2.2.2.1 (gAl V9 _).size) (HG.out.2.1.trans ((gAl V9 _).mono (Nat.le_trans HG.out.2.2.2.2.2.2.2.1 (Nat.le_of_lt HG.out.2.2.2.2.1)))) (HG.out.1.below (gAl V9 _) HG.out.2.2.2.2.2.1)
                            · have HH := Lib.hid (heard_yes G r (some ⟨r, go_, none⟩) gc 1 y.m y.p true y.s (HGD.out.2.2.2 hu) (by have := HLG.out; have := (show G.length ≤ G.length + 1 from (Nat.le_succ _)); omega))
                              rw [hu] at qc2
                              go_wp2_with fail
                              refine (HH.out _ (Rw.below HG.out.2.2.1 (gAl V9 _))).mono ?_
                              rintro e9 w9 ⟨rfl, b9⟩
                              have HB9 := Lib.hid (gNx (gAl V9 _) b9)
                              clear b9
                              go_wp2_with fail
                              exact HNX.out _ _ G (some ⟨r, go_, none⟩) gc r w9 (Nat.le_succ _) (HA.out.1) (HGD.out.aw) (HA.out.2.2) (HG.out.2.2.1.below HB9.out) (Nat.lt_of_lt_of_le HG.out.2.2.2.2.1 HB9.out.size) HG.out.2.2.2.2.2.2.2.1 HG.out.2.2.2.2.2.2.2.2 (Nat.lt_of_lt_of_le HG.out.2.2.2.2.2.1 HB9.out.size) (HG.out.2.1.trans (HB9.out.mono (Nat.le_trans HG.out.2.2.2.2.2.2.2.1 (Nat.le_of_lt HG.out.2.2.2.2.1)))) (HG.out.1.below HB9.out HG.out.2.2.2.2.2.1)
                        · as_aux_lemma =>
                            rw [hu] at qc2
                            go_wp2_with fail
                            exact HNX.out _ _ G (some ⟨r, go_, none⟩) gc r _ (Nat.le_succ _) (HA.out.1) (HGD.out.aw) (HA.out.2.2) (HG.out.2.2.1.below (gAl V9 _)) (Nat.lt_of_lt_of_le HG.out.2.2.2.2.1 (gAl V9 _).size) HG.out.2.2.2.2.2.2.2.1 HG.out.2.2.2.2.2.2.2.2 (Nat.lt_of_lt_of_le HG.out.2.2.2.2.2.1 (gAl V9 _).size) (HG.out.2.1.trans ((gAl V9 _).mono (Nat.le_trans HG.out.2.2.2.2.2.2.2.1 (Nat.le_of_lt HG.out.2.2.2.2.1)))) (HG.out.1.below (gAl V9 _) HG.out.2.2.2.2.2.1)
                      · have t1 : (gn != x1.p) = false := by simpa using e1
                        have t2 : (ge != x1.m) = false := by simpa using e2
                        clear e1 e2
                        go_upto_region 34 with (fail)
                        clear wc0 wc1 g1 g2 hgbl
                        obtain ⟨⟨pc0, pc1, pc2, pc3, pf0, pf1, pf2, pf3⟩, ⟨qc0, qc1, qc2, qc3, qf0, qf1, qf2, qf3⟩⟩ := HG.out.1
                        obtain ⟨wc0, wc1, wc2, wc3, -, -, -, -⟩ := HG.out.2.2.2.1
                        have hwbl : wb < V9.heap.size := HG.out.2.2.2.2.2.2.1
                        have hebl : eb < V9.heap.size := HG.out.2.2.2.2.2.1
                        have hm : decide (y.m < x1.m) = false := HGD.out.2.1
                        rcases HGD.out.2.2.1 with hP | ⟨hP, hQ, hu⟩
                        · as_aux_lemma =>
                            cases hu : y.u
                            · rw [hu] at qc2
                              go_wp2_with fail
                              exact HNX.out _ _ G (some ⟨r, go_, none⟩) gc r _ (Nat.le_succ _) (HA.out.1) (HGD.out.aw) (HA.out.2.2) (HG.out.2.2.1.below (gAl V9 _)) (Nat.lt_of_lt_of_le HG.out.2.2.2.2.1 (gAl V9 _).size) HG.out.2.2.2.2.2.2.2.1 HG.out.2.2.2.2.2.2.2.2 (Nat.lt_of_lt_of_le HG.out.2.2.2.2.2.1 (gAl V9 _).size) (HG.out.2.1.trans ((gAl V9 _).mono (Nat.le_trans HG.out.2.2.2.2.2.2.2.1 (Nat.le_of_lt HG.out.2.2.2.2.1)))) (HG.out.1.below (gAl V9 _) HG.out.2.2.2.2.2.1)
                            · have HH := Lib.hid (heard_yes G r (some ⟨r, go_, none⟩) gc 1 y.m y.p true y.s (HGD.out.2.2.2 hu) (by have := HLG.out; have := (show G.length ≤ G.length + 1 from (Nat.le_succ _)); omega))
                              rw [hu] at qc2
                              go_wp2_with fail
                              refine (HH.out _ (Rw.below HG.out.2.2.1 (gAl V9 _))).mono ?_
                              rintro e9 w9 ⟨rfl, b9⟩
                              have HB9 := Lib.hid (gNx (gAl V9 _) b9)
                              clear b9
                              go_wp2_with fail
                              exact HNX.out _ _ G (some ⟨r, go_, none⟩) gc r w9 (Nat.le_succ _) (HA.out.1) (HGD.out.aw) (HA.out.2.2) (HG.out.2.2.1.below HB9.out) (Nat.lt_of_lt_of_le HG.out.2.2.2.2.1 HB9.out.size) HG.out.2.2.2.2.2.2.2.1 HG.out.2.2.2.2.2.2.2.2 (Nat.lt_of_lt_of_le HG.out.2.2.2.2.2.1 HB9.out.size) (HG.out.2.1.trans (HB9.out.mono (Nat.le_trans HG.out.2.2.2.2.2.2.2.1 (Nat.le_of_lt HG.out.2.2.2.2.1)))) (HG.out.1.below HB9.out HG.out.2.2.2.2.2.1)
                        · as_aux_lemma =>
                            rw [hu] at qc2
                            go_wp2_with fail
                            exact HNX.out _ _ G (some ⟨r, go_, none⟩) gc r _ (Nat.le_succ _) (HA.out.1) (HGD.out.aw) (HA.out.2.2) (HG.out.2.2.1.below (gAl V9 _)) (Nat.lt_of_lt_of_le HG.out.2.2.2.2.1 (gAl V9 _).size) HG.out.2.2.2.2.2.2.2.1 HG.out.2.2.2.2.2.2.2.2 (Nat.lt_of_lt_of_le HG.out.2.2.2.2.2.1 (gAl V9 _).size) (HG.out.2.1.trans ((gAl V9 _).mono (Nat.le_trans HG.out.2.2.2.2.2.2.2.1 (Nat.le_of_lt HG.out.2.2.2.2.1)))) (HG.out.1.below (gAl V9 _) HG.out.2.2.2.2.2.1)
                  · go_simp
                    obtain ⟨nb, hnb⟩ : ∃ nb, nb = V.heap.size := ⟨_, rfl⟩
                    rw [← hnb]
                    have KW := Lib.hid (gNx KV.out (gAl V (.cells #[.int .u64 0, .int .u64 0, .bool false, .int .i64 0] 28)))
                    have NB : Hid ((V.alloc (.cells #[.int .u64 0, .int .u64 0, .bool false, .int .i64 0] 28)).there nb 0 4 ∧ nb < (V.alloc (.cells #[.int .u64 0, .int .u64 0, .bool false, .int .i64 0] 28)).heap.size ∧ V2.heap.size ≤ nb) := Lib.hid (by rw [hnb]; exact ⟨there_box V [.int .u64 0, .int .u64 0, .bool false, .int .i64 0] 28, by simp, KV.out.size⟩)
                    obtain ⟨VN, hV⟩ : ∃ U, U = V.alloc (.cells #[.int .u64 0, .int .u64 0, .bool false, .int .i64 0] 28) := ⟨_, rfl⟩
                    rw [← hV]
                    rw [← hV] at KW NB
                    clear hV hnb
                    obtain ⟨V, hV⟩ : ∃ U, U = VN := ⟨_, rfl⟩
                    subst hV
                    clear KV
                    have KV := KW
                    clear KW
                    have kv := KV.out
                    refine hK.out _ _ kv (fun hH => ?_)
                    clear hK K hH
                    try simp only [Act.put, sqA, sqB, sqC, sqD, sqE, sqF]
                    refine wpAnyH_ready (rs := [7]) (by kernel_rfl) (by simp) ?_
                    refine AllReadyH.cons (o := _) rfl (fun K hK => ?_) AllReadyH.nil
                    go_simp
                    refine (HH.out _).mono ?_
                    rintro e2 VN ⟨rfl, b3⟩
                    have KW := Lib.hid (gNx KV.out b3)
                    try (have NB2 := Lib.hid (show VN.there nb 0 4 ∧ nb < VN.heap.size ∧ V2.heap.size ≤ nb from ⟨there_next NB.out.1 NB.out.2.1 b3, Nat.lt_of_lt_of_le NB.out.2.1 b3.size, NB.out.2.2⟩); clear NB; have NB := NB2; clear NB2)
                    clear b3
                    obtain ⟨V, hV⟩ : ∃ U, U = VN := ⟨_, rfl⟩
                    subst hV
                    clear KV
                    have KV := KW
                    clear KW
                    have kv := KV.out
                    go_wp2_with fail
                    refine hK.out _ _ kv (fun hH => ?_)
                    clear hK K hH
                    try simp only [Act.put, sqA, sqB, sqC, sqD, sqE, sqF]
                    refine tk 8 (by assumption) rfl (by kernel_rfl) (fun _ _ _ h => h) (fun V hV => by go_simp; try with_reducible rfl) ?_
                    try simp only [Act.put, sqA, sqB, sqC, sqD, sqE, sqF]
                    refine tk 9 (by assumption) rfl (by kernel_rfl) (fun _ _ _ h => h) (fun V hV => by go_simp; try with_reducible rfl) ?_
                    try simp only [Act.put, sqA, sqB, sqC, sqD, sqE, sqF]
                    refine tk 10 (by assumption) rfl (by kernel_rfl) (fun _ _ _ h => h) (fun V hV => by go_simp; try with_reducible rfl) ?_
                    try simp only [Act.put, sqA, sqB, sqC, sqD, sqE, sqF]
                    refine tk 11 (by assumption) rfl (by kernel_rfl) (fun _ _ _ h => h) (fun V hV => by go_simp; try with_reducible rfl) ?_
                    try simp only [Act.put, sqA, sqB, sqC, sqD, sqE, sqF]
                    refine wpAnyH_ready (rs := [13]) (by kernel_rfl) (by simp) ?_
                    refine AllReadyH.cons (o := _) rfl (fun K hK => ?_) AllReadyH.nil
                    rw [if_pos (by rfl)]
                    refine wp_store_mid 28 (.tmp 17) (.tmp 132) rfl nb 0 (seL y).toArray rfl rfl NB.out.1 (by kernel_rfl) (all_oneCell_toArray (seL_one y)) ?_
                    have KW := Lib.hid (below_set nb NB.out.2.2 (seL y).toArray.toList 0 _ KV.out)
                    have NS := Lib.hid (show S4 (World.setCells _ nb 0 (seL y).toArray.toList) nb 0 y ∧ nb < (World.setCells _ nb 0 (seL y).toArray.toList).heap.size ∧ V2.heap.size ≤ nb from ⟨S4.of_there NB.out.1 y, by rw [setCells_size]; exact NB.out.2.1, NB.out.2.2⟩)
                    clear NB
                    refine hK.out _ _ KW.out (fun hH => ?_)
                    clear hK K hH
                    clear KV
                    have KV := KW
                    clear KW
                    have kv := KV.out
                    generalize World.setCells _ nb 0 (seL y).toArray.toList = V at *
                    try simp only [Act.put, sqA, sqB, sqC, sqD, sqE, sqF]
                    refine tk 14 (by assumption) rfl (by kernel_rfl) (fun _ _ _ h => h) (fun V hV => by go_simp; try with_reducible rfl) ?_
                    try simp only [Act.put, sqA, sqB, sqC, sqD, sqE, sqF]
                    refine tk 15 (by assumption) rfl (by kernel_rfl) (fun _ _ _ h => h) (fun V hV => by go_simp; try with_reducible rfl) ?_
                    try simp only [Act.put, sqA, sqB, sqC, sqD, sqE, sqF]
                    refine wpAnyH_done (by kernel_rfl) ?_ _
                    as_aux_lemma =>
                      have HB3 := Lib.hid (gNx HB2.out KV.out)
                      have hebl := Nat.lt_of_lt_of_le HZ.out.2.2.2.1 HB3.out.size
                      obtain ⟨⟨pc0, pc1, pc2, pc3, pf0, pf1, pf2, pf3⟩, ⟨qc0, qc1, qc2, qc3, qf0, qf1, qf2, qf3⟩⟩ := (HF.out.1.below HB3.out HZ.out.2.2.2.1)
                      obtain ⟨nc0, nc1, nc2, nc3, -, -, -, -⟩ := NS.out.1
                      have hnbl := NS.out.2.1
                      have hnee : nb ≠ eb := by have := NS.out.2.2; have := HB2.out.size; have := HZ.out; omega
                      go_upto_region 28 with (fail)
                      clear pc0 pc1 pc2 pc3 pf0 pf1 pf2 pf3 qc0 qc1 qc2 qc3 qf0 qf1 qf2 qf3
                      clear nc0 nc1 nc2 nc3 hnbl hebl hnee
                      obtain ⟨V9, hV9, p1, p2, p3, p4, p5, p6⟩ := ag_put1 (cs := [.int .i64 fr, .int .u64 gn, .int .u64 ge]) (HF.out.1.below HB3.out HZ.out.2.2.2.1) (HF.out.2.1.trans (Below.mono HB3.out (Nat.le_trans HZ.out.2.1 (Nat.le_of_lt HZ.out.1)))) HZ.out.2.2.2.2.2.2.2.2.2.2 (Nat.lt_of_lt_of_le HZ.out.2.2.2.1 (Below.size HB3.out)) (Rw.below HF.out.2.2.1 HB3.out) (Nat.lt_of_lt_of_le HZ.out.1 (Below.size HB3.out)) HZ.out.2.2.1 (HF.out.2.2.2.2.1.below HB3.out HZ.out.2.2.2.2.1) HZ.out.2.2.2.2.2.1 (gb := gb) (range_n HG2.out.1 HG2.out.2.2 KV.out) (HG2.out.2.1) y.m y.p y.u y.s
                      rw [← hV9]
                      have HG : Hid (E8 V9 eb x0 y ∧ Below w.heap.size w V9 ∧ Wy V9 r (some ⟨r, go_, none⟩) gc G ∧ S4 V9 wb 0 x1 ∧ r < V9.heap.size ∧ eb < V9.heap.size ∧ wb < V9.heap.size ∧ w.heap.size ≤ r ∧ r ≠ eb) := Lib.hid ⟨p1, p2, p4, p5, Nat.lt_of_lt_of_le (Nat.lt_of_lt_of_le HZ.out.1 (Below.size HB3.out)) p3, Nat.lt_of_lt_of_le (Nat.lt_of_lt_of_le HZ.out.2.2.2.1 (Below.size HB3.out)) p3, Nat.lt_of_lt_of_le (Nat.lt_of_lt_of_le HZ.out.2.2.2.2.1 (Below.size HB3.out)) p3, HZ.out.2.1, HZ.out.2.2.1⟩
                      have g1 := p6 1 _ rfl
                      have g2 := p6 2 _ rfl
                      have hgbl : gb < V9.heap.size := Nat.lt_of_lt_of_le (Nat.lt_of_lt_of_le HG2.out.2.2 KV.out.size) p3
                      clear hV9 p1 p2 p3 p4 p5 p6
                      obtain ⟨wc0, wc1, -, -, -, -, -, -⟩ := HG.out.2.2.2.1
                      rcases HAC.out.2 with rfl | ⟨rfl, e1, e2⟩
                      · go_upto_region 34 with (fail)
                        clear wc0 wc1 g1 g2 hgbl
                        obtain ⟨⟨pc0, pc1, pc2, pc3, pf0, pf1, pf2, pf3⟩, ⟨qc0, qc1, qc2, qc3, qf0, qf1, qf2, qf3⟩⟩ := HG.out.1
                        obtain ⟨wc0, wc1, wc2, wc3, -, -, -, -⟩ := HG.out.2.2.2.1
                        have hwbl : wb < V9.heap.size := HG.out.2.2.2.2.2.2.1
                        have hebl : eb < V9.heap.size := HG.out.2.2.2.2.2.1
                        have hm : decide (y.m < x1.m) = false := HGD.out.2.1
                        rcases HGD.out.2.2.1 with hP | ⟨hP, hQ, hu⟩
                        · as_aux_lemma =>
                            cases hu : y.u
                            · rw [hu] at qc2
                              go_wp2_with fail
                              exact HNX.out _ _ G (some ⟨r, go_, none⟩) gc r _ (Nat.le_succ _) (HA.out.1) (HGD.out.aw) (HA.out.2.2) (HG.out.2.2.1.below (gAl V9 _)) (Nat.lt_of_lt_of_le HG.out.2.2.2.2.1 (gAl V9 _).size) HG.out.2.2.2.2.2.2.2.1 HG.out.2.2.2.2.2.2.2.2 (Nat.lt_of_lt_of_le HG.out.2.2.2.2.2.1 (gAl V9 _).size) (HG.out.2.1.trans ((gAl V9 _).mono (Nat.le_trans HG.out.2.2.2.2.2.2.2.1 (Nat.le_of_lt HG.out.2.2.2.2.1)))) (HG.out.1.below (gAl V9 _) HG.out.2.2.2.2.2.1)
                            · have HH := Lib.hid (heard_yes G r (some ⟨r, go_, none⟩) gc 1 y.m y.p true y.s (HGD.out.2.2.2 hu) (by have := HLG.out; have := (show G.length ≤ G.length + 1 from (Nat.le_succ _)); omega))
                              rw [hu] at qc2
                              go_wp2_with fail
                              refine (HH.out _ (Rw.below HG.out.2.2.1 (gAl V9 _))).mono ?_
                              rintro e9 w9 ⟨rfl, b9⟩
                              have HB9 := Lib.hid (gNx (gAl V9 _) b9)
                              clear b9
                              go_wp2_with fail
                              exact HNX.out _ _ G (some ⟨r, go_, none⟩) gc r w9 (Nat.le_succ _) (HA.out.1) (HGD.out.aw) (HA.out.2.2) (HG.out.2.2.1.below HB9.out) (Nat.lt_of_lt_of_le HG.out.2.2.2.2.1 HB9.out.size) HG.out.2.2.2.2.2.2.2.1 HG.out.2.2.2.2.2.2.2.2 (Nat.lt_of_lt_of_le HG.out.2.2.2.2.2.1 HB9.out.size) (HG.out.2.1.trans (HB9.out.mono (Nat.le_trans HG.out.2.2.2.2.2.2.2.1 (Nat.le_of_lt HG.out.2.2.2.2.1)))) (HG.out.1.below HB9.out HG.out.2.2.2.2.2.1)
                        · as_aux_lemma =>
                            rw [hu] at qc2
                            go_wp2_with fail
                            exact HNX.out _ _ G (some ⟨r, go_, none⟩) gc r _ (Nat.le_succ _) (HA.out.1) (HGD.out.aw) (HA.out.2.2) (HG.out.2.2.1.below (gAl V9 _)) (Nat.lt_of_lt_of_le HG.out.2.2.2.2.1 (gAl V9 _).size) HG.out.2.2.2.2.2.2.2.1 HG.out.2.2.2.2.2.2.2.2 (Nat.lt_of_lt_of_le HG.out.2.2.2.2.2.1 (gAl V9 _).size) (HG.out.2.1.trans ((gAl V9 _).mono (Nat.le_trans HG.out.2.2.2.2.2.2.2.1 (Nat.le_of_lt HG.out.2.2.2.2.1)))) (HG.out.1.below (gAl V9 _) HG.out.2.2.2.2.2.1)
                      · have t1 : (gn != x1.p) = false := by simpa using e1
                        have t2 : (ge != x1.m) = false := by simpa using e2
                        clear e1 e2
                        go_upto_region 34 with (fail)
                        clear wc0 wc1 g1 g2 hgbl
                        obtain ⟨⟨pc0, pc1, pc2, pc3, pf0, pf1, pf2, pf3⟩, ⟨qc0, qc1, qc2, qc3, qf0, qf1, qf2, qf3⟩⟩ := HG.out.1
                        obtain ⟨wc0, wc1, wc2, wc3, -, -, -, -⟩ := HG.out.2.2.2.1
                        have hwbl : wb < V9.heap.size := HG.out.2.2.2.2.2.2.1
                        have hebl : eb < V9.heap.size := HG.out.2.2.2.2.2.1
                        have hm : decide (y.m < x1.m) = false := HGD.out.2.1
                        rcases HGD.out.2.2.1 with hP | ⟨hP, hQ, hu⟩
                        · as_aux_lemma =>
                            cases hu : y.u
                            · rw [hu] at qc2
                              go_wp2_with fail
                              exact HNX.out _ _ G (some ⟨r, go_, none⟩) gc r _ (Nat.le_succ _) (HA.out.1) (HGD.out.aw) (HA.out.2.2) (HG.out.2.2.1.below (gAl V9 _)) (Nat.lt_of_lt_of_le HG.out.2.2.2.2.1 (gAl V9 _).size) HG.out.2.2.2.2.2.2.2.1 HG.out.2.2.2.2.2.2.2.2 (Nat.lt_of_lt_of_le HG.out.2.2.2.2.2.1 (gAl V9 _).size) (HG.out.2.1.trans ((gAl V9 _).mono (Nat.le_trans HG.out.2.2.2.2.2.2.2.1 (Nat.le_of_lt HG.out.2.2.2.2.1)))) (HG.out.1.below (gAl V9 _) HG.out.2.2.2.2.2.1)
                            · have HH := Lib.hid (heard_yes G r (some ⟨r, go_, none⟩) gc 1 y.m y.p true y.s (HGD.out.2.2.2 hu) (by have := HLG.out; have := (show G.length ≤ G.length + 1 from (Nat.le_succ _)); omega))
                              rw [hu] at qc2
                              go_wp2_with fail
                              refine (HH.out _ (Rw.below HG.out.2.2.1 (gAl V9 _))).mono ?_
                              rintro e9 w9 ⟨rfl, b9⟩
                              have HB9 := Lib.hid (gNx (gAl V9 _) b9)
                              clear b9
                              go_wp2_with fail
                              exact HNX.out _ _ G (some ⟨r, go_, none⟩) gc r w9 (Nat.le_succ _) (HA.out.1) (HGD.out.aw) (HA.out.2.2) (HG.out.2.2.1.below HB9.out) (Nat.lt_of_lt_of_le HG.out.2.2.2.2.1 HB9.out.size) HG.out.2.2.2.2.2.2.2.1 HG.out.2.2.2.2.2.2.2.2 (Nat.lt_of_lt_of_le HG.out.2.2.2.2.2.1 HB9.out.size) (HG.out.2.1.trans (HB9.out.mono (Nat.le_trans HG.out.2.2.2.2.2.2.2.1 (Nat.le_of_lt HG.out.2.2.2.2.1)))) (HG.out.1.below HB9.out HG.out.2.2.2.2.2.1)
                        · as_aux_lemma =>
                            rw [hu] at qc2
                            go_wp2_with fail
                            exact HNX.out _ _ G (some ⟨r, go_, none⟩) gc r _ (Nat.le_succ _) (HA.out.1) (HGD.out.aw) (HA.out.2.2) (HG.out.2.2.1.below (gAl V9 _)) (Nat.lt_of_lt_of_le HG.out.2.2.2.2.1 (gAl V9 _).size) HG.out.2.2.2.2.2.2.2.1 HG.out.2.2.2.2.2.2.2.2 (Nat.lt_of_lt_of_le HG.out.2.2.2.2.2.1 (gAl V9 _).size) (HG.out.2.1.trans ((gAl V9 _).mono (Nat.le_trans HG.out.2.2.2.2.2.2.2.1 (Nat.le_of_lt HG.out.2.2.2.2.1)))) (HG.out.1.below (gAl V9 _) HG.out.2.2.2.2.2.1)
            · as_aux_lemma =>
                by_cases hneg : ix < 0
                · have q2 : decide (ix < 0) = true := by simpa using hneg
                  have hsb : sb < V1.heap.size := HZ.out.2.2.2.2.2.2.2.2.1
                  clear hix
                  rcases h12 with rfl | rfl
                  all_goals
                    have sd1 := HF.out.2.2.2.1 1 _ rfl
                    have sd2 := HF.out.2.2.2.1 2 _ rfl
                    go_wp2_with fail
                    exact HNX.out _ _ G _ _ r V1 (Nat.le_succ _) HA.out.1 HA.out.2.1 HA.out.2.2 HF.out.2.2.1 HZ.out.1 HZ.out.2.1 HZ.out.2.2.1 HZ.out.2.2.2.1 HF.out.2.1 HF.out.1
                · have q2 : decide (ix < 0) = false := by simpa using hneg
                  have q3 : decide ((G.length : Int) ≤ ix) = true := by simp; omega
                  have q4 : (G.length : Int) ≤ ix := by omega
                  have hsb : sb < V1.heap.size := HZ.out.2.2.2.2.2.2.2.2.1
                  clear hix
                  rcases h12 with rfl | rfl
                  all_goals
                    have sd1 := HF.out.2.2.2.1 1 _ rfl
                    have sd2 := HF.out.2.2.2.1 2 _ rfl
                    go_wp2_with fail
                    exact HNX.out _ _ G _ _ r V1 (Nat.le_succ _) HA.out.1 HA.out.2.1 HA.out.2.2 HF.out.2.2.1 HZ.out.1 HZ.out.2.1 HZ.out.2.2.1 HZ.out.2.2.2.1 HF.out.2.1 HF.out.1
          have n0 : (kd == 0) = false := by simpa using h0
          have n1 : (kd == 1) = false := by simp; omega
          have n2 : (kd == 2) = false := by simp; omega
          clear h0 h12
          by_cases h3 : kd = 3
          · subst h3
            clear n0 n1 n2
            as_aux_lemma =>
              have HH := Lib.hid (tick_ex x1 HA.out.2.1.1 life _ rfl)
              have HGD := Lib.hid (HA.out.2.1.tick life)
              generalize (tickF x1 life).1 = y at *
              have sd1 := HF.out.2.2.2.1 1 _ rfl
              obtain ⟨⟨pc0, pc1, pc2, pc3, pf0, pf1, pf2, pf3⟩, ⟨qc0, qc1, qc2, qc3, qf0, qf1, qf2, qf3⟩⟩ := HF.out.1
              have hebl : eb < V1.heap.size := HZ.out.2.2.2.1
              go_upto_region 31 with (fail)
              clear pc0 pc1 pc2 pc3 pf0 pf1 pf2 pf3 qc0 qc1 qc2 qc3 qf0 qf1 qf2 qf3
              clear hebl sd1
              refine wp_region_held_drew (S := fun V => V.rangeAt sb 0 [.int .i64 en, .int .i64 3, .int .i64 ix, .int .i64 life]) (by kernel_rfl) ((World.rangeAt_drew V1 _ _ _).2 HF.out.2.2.2.1) (fun hH => ?_)
              clear hH
              have hs0 : V1.drew.rangeAt sb 0 [.int .i64 en, .int .i64 3, .int .i64 ix, .int .i64 life] := (World.rangeAt_drew V1 _ _ _).2 HF.out.2.2.2.1
              have HB0 : Hid (Below V1.heap.size V1 V1.drew) := Lib.hid (Below.refl _ _).drew
              have hz0 : sb < V1.drew.heap.size := HZ.out.2.2.2.2.2.2.2.2.1
              generalize V1.drew = V0 at *
              refine tk 0 (by assumption) rfl (by kernel_rfl) (fun _ _ _ h => h) (fun V hV => by go_simp; try with_reducible rfl) ?_
              try simp only [Act.put, sqA, sqB, sqC, sqD, sqE, sqF]
              refine tk 1 (by assumption) rfl (by kernel_rfl) (fun _ _ _ h => h) (fun V hV => by go_simp; try with_reducible rfl) ?_
              try simp only [Act.put, sqA, sqB, sqC, sqD, sqE, sqF]
              refine tk 2 (by assumption) rfl (by kernel_rfl) (fun _ _ _ h => h) (fun V hV => by go_simp; try with_reducible rfl) ?_
              try simp only [Act.put, sqA, sqB, sqC, sqD, sqE, sqF]
              refine tk 4 (by assumption) rfl (by kernel_rfl) (fun _ _ _ h => h) (fun V hV => by go_simp; try with_reducible rfl) ?_
              try simp only [Act.put, sqA, sqB, sqC, sqD, sqE, sqF]
              refine tk 5 (by assumption) rfl (by kernel_rfl) (fun _ _ _ h => h) (fun V hV => by have z3 := hV 3 _ rfl; go_simp; try with_reducible rfl) ?_
              try simp only [Act.put, sqA, sqB, sqC, sqD, sqE, sqF]
              refine wpAnyH_ready (rs := [3]) (by kernel_rfl) (by simp) ?_
              refine AllReadyH.cons (o := _) rfl (fun K hK => ?_) AllReadyH.nil
              rw [if_pos (by rfl)]
              refine wp_load_mid 28 (.tmp 158) rfl eb 4 rfl (seL x1) _ (HF.out.1.below HB0.out HZ.out.2.2.2.1).2.range Try.underlying28 (by rfl) (by kernel_rfl) ?_
              refine hK.out _ _ hs0 (fun hH => ?_)
              clear hK K hH
              try simp only [Act.put, sqA, sqB, sqC, sqD, sqE, sqF]
              refine wpAnyH_ready (rs := [6]) (by kernel_rfl) (by simp) ?_
              refine AllReadyH.cons (o := _) rfl (fun K hK => ?_) AllReadyH.nil
              go_simp
              refine (HH.out _).mono ?_
              rintro e2 w3 ⟨f, rfl, b3⟩
              have HB3 : Hid (Below V1.heap.size V1 w3) := Lib.hid (gNx HB0.out b3)
              have hs3 := range_n hs0 hz0 b3
              clear b3
              go_wp2_with fail
              refine hK.out _ _ hs3 (fun hH => ?_)
              clear hK K hH
              try simp only [Act.put, sqA, sqB, sqC, sqD, sqE, sqF]
              refine tk 7 (by assumption) rfl (by kernel_rfl) (fun _ _ _ h => h) (fun V hV => by go_simp; try with_reducible rfl) ?_
              try simp only [Act.put, sqA, sqB, sqC, sqD, sqE, sqF]
              refine tk 8 (by assumption) rfl (by kernel_rfl) (fun _ _ _ h => h) (fun V hV => by go_simp; try with_reducible rfl) ?_
              try simp only [Act.put, sqA, sqB, sqC, sqD, sqE, sqF]
              refine tk 9 (by assumption) rfl (by kernel_rfl) (fun _ _ _ h => h) (fun V hV => by go_simp; try with_reducible rfl) ?_
              try simp only [Act.put, sqA, sqB, sqC, sqD, sqE, sqF]
              refine tk 10 (by assumption) rfl (by kernel_rfl) (fun _ _ _ h => h) (fun V hV => by go_simp; try with_reducible rfl) ?_
              try simp only [Act.put, sqA, sqB, sqC, sqD, sqE, sqF]
              refine wpAnyH_ready (rs := [11]) (by kernel_rfl) (by simp) ?_
              refine AllReadyH.cons (o := _) rfl (fun K hK => ?_) AllReadyH.nil
              obtain ⟨V9, hV9, p1, p2, p3, p4, p5, p6⟩ := ag_put1 (cs := [.int .i64 en, .int .i64 3, .int .i64 ix, .int .i64 life]) (HF.out.1.below HB3.out HZ.out.2.2.2.1) (HF.out.2.1.trans (Below.mono HB3.out (Nat.le_trans HZ.out.2.1 (Nat.le_of_lt HZ.out.1)))) HZ.out.2.2.2.2.2.2.2.2.2.2 (Nat.lt_of_lt_of_le HZ.out.2.2.2.1 (Below.size HB3.out)) (Rw.below HF.out.2.2.1 HB3.out) (Nat.lt_of_lt_of_le HZ.out.1 (Below.size HB3.out)) HZ.out.2.2.1 (HF.out.2.2.2.2.1.below HB3.out HZ.out.2.2.2.2.1) HZ.out.2.2.2.2.2.1 (gb := sb) (hs3) (HZ.out.2.2.2.2.2.2.2.1) y.m y.p y.u y.s
              rw [if_pos (by rfl)]
              refine wp_store_mid 28 (.tmp 165) (.tmp 163) rfl eb 4 (seL y).toArray rfl rfl (HF.out.1.below HB3.out HZ.out.2.2.2.1).2.there (by kernel_rfl) (all_oneCell_toArray (seL_one y)) ?_
              rw [show w3.setCells eb 4 (seL y).toArray.toList = V9 from hV9.symm]
              refine hK.out _ _ p6 (fun hH => ?_)
              clear hK K hH hV9
              try simp only [Act.put, sqA, sqB, sqC, sqD, sqE, sqF]
              refine wpAnyH_done (by kernel_rfl) ?_ _
              have HG : Hid (E8 V9 eb x0 y ∧ Below w.heap.size w V9 ∧ Wy V9 r ga gc G ∧ S4 V9 wb 0 x1 ∧ r < V9.heap.size ∧ eb < V9.heap.size ∧ wb < V9.heap.size ∧ w.heap.size ≤ r ∧ r ≠ eb) := Lib.hid ⟨p1, p2, p4, p5, Nat.lt_of_lt_of_le (Nat.lt_of_lt_of_le HZ.out.1 (Below.size HB3.out)) p3, Nat.lt_of_lt_of_le (Nat.lt_of_lt_of_le HZ.out.2.2.2.1 (Below.size HB3.out)) p3, Nat.lt_of_lt_of_le (Nat.lt_of_lt_of_le HZ.out.2.2.2.2.1 (Below.size HB3.out)) p3, HZ.out.2.1, HZ.out.2.2.1⟩
              clear p1 p2 p3 p4 p5 p6 hs0 hs3
              go_upto_region 34 with (fail)
              obtain ⟨⟨pc0, pc1, pc2, pc3, pf0, pf1, pf2, pf3⟩, ⟨qc0, qc1, qc2, qc3, qf0, qf1, qf2, qf3⟩⟩ := HG.out.1
              obtain ⟨wc0, wc1, wc2, wc3, -, -, -, -⟩ := HG.out.2.2.2.1
              have hwbl : wb < V9.heap.size := HG.out.2.2.2.2.2.2.1
              have hebl : eb < V9.heap.size := HG.out.2.2.2.2.2.1
              have hm : decide (y.m < x1.m) = false := HGD.out.2.1
              rcases HGD.out.2.2.1 with hP | ⟨hP, hQ, hu⟩
              · as_aux_lemma =>
                  cases hu : y.u
                  · rw [hu] at qc2
                    go_wp2_with fail
                    exact HNX.out _ _ G ga gc r _ (Nat.le_succ _) (HA.out.1) (HGD.out.aw) (HA.out.2.2) (HG.out.2.2.1.below (gAl V9 _)) (Nat.lt_of_lt_of_le HG.out.2.2.2.2.1 (gAl V9 _).size) HG.out.2.2.2.2.2.2.2.1 HG.out.2.2.2.2.2.2.2.2 (Nat.lt_of_lt_of_le HG.out.2.2.2.2.2.1 (gAl V9 _).size) (HG.out.2.1.trans ((gAl V9 _).mono (Nat.le_trans HG.out.2.2.2.2.2.2.2.1 (Nat.le_of_lt HG.out.2.2.2.2.1)))) (HG.out.1.below (gAl V9 _) HG.out.2.2.2.2.2.1)
                  · have HH := Lib.hid (heard_yes G r ga gc 1 y.m y.p true y.s (HGD.out.2.2.2 hu) (by have := HLG.out; have := (show G.length ≤ G.length + 1 from (Nat.le_succ _)); omega))
                    rw [hu] at qc2
                    go_wp2_with fail
                    refine (HH.out _ (Rw.below HG.out.2.2.1 (gAl V9 _))).mono ?_
                    rintro e9 w9 ⟨rfl, b9⟩
                    have HB9 := Lib.hid (gNx (gAl V9 _) b9)
                    clear b9
                    go_wp2_with fail
                    exact HNX.out _ _ G ga gc r w9 (Nat.le_succ _) (HA.out.1) (HGD.out.aw) (HA.out.2.2) (HG.out.2.2.1.below HB9.out) (Nat.lt_of_lt_of_le HG.out.2.2.2.2.1 HB9.out.size) HG.out.2.2.2.2.2.2.2.1 HG.out.2.2.2.2.2.2.2.2 (Nat.lt_of_lt_of_le HG.out.2.2.2.2.2.1 HB9.out.size) (HG.out.2.1.trans (HB9.out.mono (Nat.le_trans HG.out.2.2.2.2.2.2.2.1 (Nat.le_of_lt HG.out.2.2.2.2.1)))) (HG.out.1.below HB9.out HG.out.2.2.2.2.2.1)
              · as_aux_lemma =>
                  rw [hu] at qc2
                  go_wp2_with fail
                  exact HNX.out _ _ G ga gc r _ (Nat.le_succ _) (HA.out.1) (HGD.out.aw) (HA.out.2.2) (HG.out.2.2.1.below (gAl V9 _)) (Nat.lt_of_lt_of_le HG.out.2.2.2.2.1 (gAl V9 _).size) HG.out.2.2.2.2.2.2.2.1 HG.out.2.2.2.2.2.2.2.2 (Nat.lt_of_lt_of_le HG.out.2.2.2.2.2.1 (gAl V9 _).size) (HG.out.2.1.trans ((gAl V9 _).mono (Nat.le_trans HG.out.2.2.2.2.2.2.2.1 (Nat.le_of_lt HG.out.2.2.2.2.1)))) (HG.out.1.below (gAl V9 _) HG.out.2.2.2.2.2.1)
          have n3 : (kd == 3) = false := by simpa using h3
          clear h3
          by_cases h4 : kd = 4
          · subst h4
            clear n0 n1 n2 n3
            as_aux_lemma =>
              have HH := Lib.hid (down_ex x1 HA.out.2.1.1 _ rfl)
              have HGD := Lib.hid (HA.out.2.1.down)
              generalize downF x1 = y at *
              have sd1 := HF.out.2.2.2.1 1 _ rfl
              obtain ⟨⟨pc0, pc1, pc2, pc3, pf0, pf1, pf2, pf3⟩, ⟨qc0, qc1, qc2, qc3, qf0, qf1, qf2, qf3⟩⟩ := HF.out.1
              have hebl : eb < V1.heap.size := HZ.out.2.2.2.1
              go_wp2_with fail
              refine (HH.out _).mono ?_
              rintro e2 w3 ⟨rfl, b3⟩
              clear pc0 pc1 pc2 pc3 pf0 pf1 pf2 pf3 qc0 qc1 qc2 qc3 qf0 qf1 qf2 qf3
              have HB3 := Lib.hid b3
              clear b3 hebl
              obtain ⟨⟨pc0, pc1, pc2, pc3, pf0, pf1, pf2, pf3⟩, ⟨qc0, qc1, qc2, qc3, qf0, qf1, qf2, qf3⟩⟩ := (HF.out.1.below HB3.out HZ.out.2.2.2.1)
              have hebl : eb < w3.heap.size := Nat.lt_of_lt_of_le HZ.out.2.2.2.1 HB3.out.size
              go_upto_region 34 with (fail)
              clear pc0 pc1 pc2 pc3 pf0 pf1 pf2 pf3 qc0 qc1 qc2 qc3 qf0 qf1 qf2 qf3
              clear hebl
              obtain ⟨V9, hV9, p1, p2, p3, p4, p5, p6⟩ := ag_put1 (cs := []) (HF.out.1.below HB3.out HZ.out.2.2.2.1) (HF.out.2.1.trans (Below.mono HB3.out (Nat.le_trans HZ.out.2.1 (Nat.le_of_lt HZ.out.1)))) HZ.out.2.2.2.2.2.2.2.2.2.2 (Nat.lt_of_lt_of_le HZ.out.2.2.2.1 (Below.size HB3.out)) (Rw.below HF.out.2.2.1 HB3.out) (Nat.lt_of_lt_of_le HZ.out.1 (Below.size HB3.out)) HZ.out.2.2.1 (HF.out.2.2.2.2.1.below HB3.out HZ.out.2.2.2.2.1) HZ.out.2.2.2.2.2.1 (gb := eb + 1) (range_nil w3 (eb + 1) 0) (Nat.succ_ne_self eb) y.m y.p y.u y.s
              rw [← hV9]
              have HG : Hid (E8 V9 eb x0 y ∧ Below w.heap.size w V9 ∧ Wy V9 r ga gc G ∧ S4 V9 wb 0 x1 ∧ r < V9.heap.size ∧ eb < V9.heap.size ∧ wb < V9.heap.size ∧ w.heap.size ≤ r ∧ r ≠ eb) := Lib.hid ⟨p1, p2, p4, p5, Nat.lt_of_lt_of_le (Nat.lt_of_lt_of_le HZ.out.1 (Below.size HB3.out)) p3, Nat.lt_of_lt_of_le (Nat.lt_of_lt_of_le HZ.out.2.2.2.1 (Below.size HB3.out)) p3, Nat.lt_of_lt_of_le (Nat.lt_of_lt_of_le HZ.out.2.2.2.2.1 (Below.size HB3.out)) p3, HZ.out.2.1, HZ.out.2.2.1⟩
              clear hV9 p1 p2 p3 p4 p5 p6
              obtain ⟨⟨pc0, pc1, pc2, pc3, pf0, pf1, pf2, pf3⟩, ⟨qc0, qc1, qc2, qc3, qf0, qf1, qf2, qf3⟩⟩ := HG.out.1
              obtain ⟨wc0, wc1, wc2, wc3, -, -, -, -⟩ := HG.out.2.2.2.1
              have hwbl : wb < V9.heap.size := HG.out.2.2.2.2.2.2.1
              have hebl : eb < V9.heap.size := HG.out.2.2.2.2.2.1
              have hm : decide (y.m < x1.m) = false := HGD.out.2.1
              rcases HGD.out.2.2.1 with hP | ⟨hP, hQ, hu⟩
              · as_aux_lemma =>
                  cases hu : y.u
                  · rw [hu] at qc2
                    go_wp2_with fail
                    exact HNX.out _ _ G ga gc r _ (Nat.le_succ _) (HA.out.1) (HGD.out.aw) (HA.out.2.2) (HG.out.2.2.1.below (gAl V9 _)) (Nat.lt_of_lt_of_le HG.out.2.2.2.2.1 (gAl V9 _).size) HG.out.2.2.2.2.2.2.2.1 HG.out.2.2.2.2.2.2.2.2 (Nat.lt_of_lt_of_le HG.out.2.2.2.2.2.1 (gAl V9 _).size) (HG.out.2.1.trans ((gAl V9 _).mono (Nat.le_trans HG.out.2.2.2.2.2.2.2.1 (Nat.le_of_lt HG.out.2.2.2.2.1)))) (HG.out.1.below (gAl V9 _) HG.out.2.2.2.2.2.1)
                  · have HH := Lib.hid (heard_yes G r ga gc 1 y.m y.p true y.s (HGD.out.2.2.2 hu) (by have := HLG.out; have := (show G.length ≤ G.length + 1 from (Nat.le_succ _)); omega))
                    rw [hu] at qc2
                    go_wp2_with fail
                    refine (HH.out _ (Rw.below HG.out.2.2.1 (gAl V9 _))).mono ?_
                    rintro e9 w9 ⟨rfl, b9⟩
                    have HB9 := Lib.hid (gNx (gAl V9 _) b9)
                    clear b9
                    go_wp2_with fail
                    exact HNX.out _ _ G ga gc r w9 (Nat.le_succ _) (HA.out.1) (HGD.out.aw) (HA.out.2.2) (HG.out.2.2.1.below HB9.out) (Nat.lt_of_lt_of_le HG.out.2.2.2.2.1 HB9.out.size) HG.out.2.2.2.2.2.2.2.1 HG.out.2.2.2.2.2.2.2.2 (Nat.lt_of_lt_of_le HG.out.2.2.2.2.2.1 HB9.out.size) (HG.out.2.1.trans (HB9.out.mono (Nat.le_trans HG.out.2.2.2.2.2.2.2.1 (Nat.le_of_lt HG.out.2.2.2.2.1)))) (HG.out.1.below HB9.out HG.out.2.2.2.2.2.1)
              · as_aux_lemma =>
                  rw [hu] at qc2
                  go_wp2_with fail
                  exact HNX.out _ _ G ga gc r _ (Nat.le_succ _) (HA.out.1) (HGD.out.aw) (HA.out.2.2) (HG.out.2.2.1.below (gAl V9 _)) (Nat.lt_of_lt_of_le HG.out.2.2.2.2.1 (gAl V9 _).size) HG.out.2.2.2.2.2.2.2.1 HG.out.2.2.2.2.2.2.2.2 (Nat.lt_of_lt_of_le HG.out.2.2.2.2.2.1 (gAl V9 _).size) (HG.out.2.1.trans ((gAl V9 _).mono (Nat.le_trans HG.out.2.2.2.2.2.2.2.1 (Nat.le_of_lt HG.out.2.2.2.2.1)))) (HG.out.1.below (gAl V9 _) HG.out.2.2.2.2.2.1)
          have n4 : (kd == 4) = false := by simpa using h4
          clear h4
          have HGD := Lib.hid (HA.out.2.1.same)
          have hV9e : V1 = V1 := rfl
          as_aux_lemma =>
            have HG : Hid (E8 V1 eb x0 x1 ∧ Below w.heap.size w V1 ∧ Wy V1 r ga gc G ∧ S4 V1 wb 0 x1 ∧ r < V1.heap.size ∧ eb < V1.heap.size ∧ wb < V1.heap.size ∧ w.heap.size ≤ r ∧ r ≠ eb) := Lib.hid ⟨HF.out.1, HF.out.2.1, HF.out.2.2.1, HF.out.2.2.2.2.1, HZ.out.1, HZ.out.2.2.2.1, HZ.out.2.2.2.2.1, HZ.out.2.1, HZ.out.2.2.1⟩
            have sd1 := HF.out.2.2.2.1 1 _ rfl
            go_upto_region 34 with (fail)
            obtain ⟨⟨pc0, pc1, pc2, pc3, pf0, pf1, pf2, pf3⟩, ⟨qc0, qc1, qc2, qc3, qf0, qf1, qf2, qf3⟩⟩ := HG.out.1
            obtain ⟨wc0, wc1, wc2, wc3, -, -, -, -⟩ := HG.out.2.2.2.1
            have hwbl : wb < V1.heap.size := HG.out.2.2.2.2.2.2.1
            have hebl : eb < V1.heap.size := HG.out.2.2.2.2.2.1
            have hm : decide (x1.m < x1.m) = false := HGD.out.2.1
            rcases HGD.out.2.2.1 with hP | ⟨hP, hQ, hu⟩
            · as_aux_lemma =>
                cases hu : x1.u
                · rw [hu] at qc2
                  go_wp2_with fail
                  exact HNX.out _ _ G ga gc r _ (Nat.le_succ _) (HA.out.1) (HA.out.2.1) (HA.out.2.2) (HG.out.2.2.1.below (gAl V1 _)) (Nat.lt_of_lt_of_le HG.out.2.2.2.2.1 (gAl V1 _).size) HG.out.2.2.2.2.2.2.2.1 HG.out.2.2.2.2.2.2.2.2 (Nat.lt_of_lt_of_le HG.out.2.2.2.2.2.1 (gAl V1 _).size) (HG.out.2.1.trans ((gAl V1 _).mono (Nat.le_trans HG.out.2.2.2.2.2.2.2.1 (Nat.le_of_lt HG.out.2.2.2.2.1)))) (HG.out.1.below (gAl V1 _) HG.out.2.2.2.2.2.1)
                · have HH := Lib.hid (heard_yes G r ga gc 1 x1.m x1.p true x1.s (HGD.out.2.2.2 hu) (by have := HLG.out; have := (show G.length ≤ G.length + 1 from (Nat.le_succ _)); omega))
                  rw [hu] at qc2
                  go_wp2_with fail
                  refine (HH.out _ (Rw.below HG.out.2.2.1 (gAl V1 _))).mono ?_
                  rintro e9 w9 ⟨rfl, b9⟩
                  have HB9 := Lib.hid (gNx (gAl V1 _) b9)
                  clear b9
                  go_wp2_with fail
                  exact HNX.out _ _ G ga gc r w9 (Nat.le_succ _) (HA.out.1) (HA.out.2.1) (HA.out.2.2) (HG.out.2.2.1.below HB9.out) (Nat.lt_of_lt_of_le HG.out.2.2.2.2.1 HB9.out.size) HG.out.2.2.2.2.2.2.2.1 HG.out.2.2.2.2.2.2.2.2 (Nat.lt_of_lt_of_le HG.out.2.2.2.2.2.1 HB9.out.size) (HG.out.2.1.trans (HB9.out.mono (Nat.le_trans HG.out.2.2.2.2.2.2.2.1 (Nat.le_of_lt HG.out.2.2.2.2.1)))) (HG.out.1.below HB9.out HG.out.2.2.2.2.2.1)
            · as_aux_lemma =>
                rw [hu] at qc2
                go_wp2_with fail
                exact HNX.out _ _ G ga gc r _ (Nat.le_succ _) (HA.out.1) (HA.out.2.1) (HA.out.2.2) (HG.out.2.2.1.below (gAl V1 _)) (Nat.lt_of_lt_of_le HG.out.2.2.2.2.1 (gAl V1 _).size) HG.out.2.2.2.2.2.2.2.1 HG.out.2.2.2.2.2.2.2.2 (Nat.lt_of_lt_of_le HG.out.2.2.2.2.2.1 (gAl V1 _).size) (HG.out.2.1.trans ((gAl V1 _).mono (Nat.le_trans HG.out.2.2.2.2.2.2.2.1 (Nat.le_of_lt HG.out.2.2.2.2.1)))) (HG.out.1.below (gAl V1 _) HG.out.2.2.2.2.2.1)
      · have hnj : ¬ (j : Int) < (L.length : Int) := by omega
        clear hlt hj
        go_wp2_with fail
        refine (awake_any _).mono ?_
        rintro e4 w4 ⟨rfl, b4⟩
        go_wp2_with fail
        go_ret
        exact ⟨rfl, gNx HBW.out b4⟩
end Go.Proofs.Ytippekflhlmgiaa
