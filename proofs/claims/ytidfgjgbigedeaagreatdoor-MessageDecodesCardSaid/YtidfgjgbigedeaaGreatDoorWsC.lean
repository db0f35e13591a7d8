/- The document's own reader: one field. The document's own reader: one field, letters f, i, b, t. The document's own reader: one field, letter b. The document's own reader: one field, letter t. -/
import Derived.Test.YtidfgjgbigedeaaGreatDoorWsA
import Derived.Test.YtidfgjgbigedeaaGreatDoorWqAll
import Derived.Deep.RegionHeld3
section
namespace Go.Proofs.YtidfgjgbigedeaaGreatDoor
open Go.RowKit Go.Lib Go.Wq
set_option linter.unusedVariables false
set_option linter.unusedSimpArgs false
set_option maxRecDepth 100000

theorem d_store (a : Addr) (n : Nat) (m : Mode) (w : World) : (store a (.float .f64 n) m).run Tryz.prog w = stored Tryz.prog w a (.float .f64 n) m := run_store Tryz.prog w a _ m rfl
/-- A field's value. -/
abbrev fdV (u : Nat) (i : Int) (f : Nat) (bb : Bool) (t : ByteArray) (ra : Option Addr) (rn rc : Nat) : Value := .agg #[.int .u64 (u : Int), .int .i64 i, .float .f64 f, .bool bb, .string t, .slice ra rn rc]
/-- A field's six cells, that may be written. -/
structure F6 (w : World) (b u : Nat) (i : Int) (f : Nat) (bb : Bool) (t : ByteArray) (ra : Option Addr) (rn rc : Nat) : Prop where
  c0 : w.cell? ⟨b, 0, none⟩ = some (.int .u64 (u : Int))
  c1 : w.cell? ⟨b, 1, none⟩ = some (.int .i64 i)
  c2 : w.cell? ⟨b, 2, none⟩ = some (.float .f64 f)
  c3 : w.cell? ⟨b, 3, none⟩ = some (.bool bb)
  c4 : w.cell? ⟨b, 4, none⟩ = some (.string t)
  c5 : w.cell? ⟨b, 5, none⟩ = some (.slice ra rn rc)
  fz : ∀ j, j < 6 → w.frozen? ⟨b, j, none⟩ = false
theorem F6.first (w : World) (t : TypeId) : F6 (w.alloc (.cells #[.int .u64 0, .int .i64 0, .float .f64 0, .bool false, .string ⟨#[]⟩, .slice none 0 0] t)) w.heap.size 0 0 0 false ⟨#[]⟩ none 0 0 :=
  ⟨by simp [go_sem], by simp [go_sem], by simp [go_sem], by simp [go_sem], by simp [go_sem], by simp [go_sem], fun j _ => by simp [go_sem]⟩
theorem F6.below {w w' : World} {b u : Nat} {i : Int} {f : Nat} {bb : Bool} {t : ByteArray} {ra : Option Addr} {rn rc : Nat} (h : F6 w b u i f bb t ra rn rc) {B : Nat} (bel : Below B w w') (hb : b < B) : F6 w' b u i f bb t ra rn rc :=
  ⟨(bel.cell (p := ⟨b, 0, none⟩) hb).trans h.c0, (bel.cell (p := ⟨b, 1, none⟩) hb).trans h.c1, (bel.cell (p := ⟨b, 2, none⟩) hb).trans h.c2, (bel.cell (p := ⟨b, 3, none⟩) hb).trans h.c3,
    (bel.cell (p := ⟨b, 4, none⟩) hb).trans h.c4, (bel.cell (p := ⟨b, 5, none⟩) hb).trans h.c5, fun j hj => (bel.frozen (p := ⟨b, j, none⟩) hb).trans (h.fz j hj)⟩

/-- What lies in memory that is new since a world. -/
def New (base : Nat) (w' : World) : Nat → Prop := fun k => base ≤ k ∧ k < w'.heap.size
/-- A value is a field. -/
def FV (w : World) (S : Nat → Prop) (v : Value) (x : Fld) : Prop :=
  ∃ (u : Nat) (i : Int) (f : Nat) (bb : Bool) (t : ByteArray) (l : List (List Fld)) (ra : Option Addr) (rn rc : Nat), v = fdV u i f bb t ra rn rc ∧ x = .mk u i f bb t.data.toList l ∧ RowsS w S l ra rn

/-- How reading a field ends. -/
def OneEnds (s : ByteArray) (it : It) (p : Nat) (w : World) (e : Ending) (w' : World) : Prop :=
  Below w.heap.size w w' ∧ match rdOne s.data.toList it p with
    | .ok x q => ∃ v, e = .returned (.tuple #[rdV s q 0 0, v]) ∧ FV w' (New w.heap.size w') v x
    | .bad er fr => ∃ (a u : Nat) (i : Int) (f : Nat) (bb : Bool) (t : ByteArray) (ra : Option Addr) (rn rc : Nat), e = .returned (.tuple #[rdV s a er fr, fdV u i f bb t ra rn rc])
/-- How reading fields ends. -/
def AllEnds (s : ByteArray) (its : List It) (p : Nat) (w : World) (e : Ending) (w' : World) : Prop :=
  Below w.heap.size w w' ∧ match rdAll s.data.toList its p with
    | .ok l q => ∃ (a : Option Addr) (c : Nat), e = .returned (.tuple #[rdV s q 0 0, .slice a l.length c]) ∧ FldsS w' (New w.heap.size w') l a l.length
    | .bad er fr => ∃ (at_ : Nat) (a : Option Addr) (n c : Nat), e = .returned (.tuple #[rdV s at_ er fr, .slice a n c])

def OneSays (s : ByteArray) (it : It) : Prop := ∀ (p : Nat) (ia : Option Addr) (n ic : Nat) (S : Nat → Prop) (w : World), p ≤ s.size → s.size ≤ 65536 → it.Ok → ItsZ w S it.inner ia n → (∀ k, S k → k < w.heap.size) →
  Calls Tryz.prog 110 #[rdV s (p : Int) 0 0, .agg #[.int .u8 it.code, .slice ia n ic]] w (OneEnds s it p w)
def AllSays (s : ByteArray) (its : List It) : Prop := ∀ (p : Nat) (ia : Option Addr) (n ic : Nat) (S : Nat → Prop) (w : World), p ≤ s.size → s.size ≤ 65536 → (∀ x ∈ its, x.Ok) → ItsZ w S its ia n → (∀ k, S k → k < w.heap.size) →
  Calls Tryz.prog 86 #[rdV s (p : Int) 0 0, .slice ia n ic] w (AllEnds s its p w)

abbrev R0 (s : ByteArray) (p : Nat) : Obj := .cells #[.string s, .int .i64 (p : Int), .int .i64 0, .int .i64 0] 118
abbrev I0 (c : Int) (ia : Option Addr) (n ic : Nat) : Obj := .cells #[.int .u8 c, .slice ia n ic] 105
abbrev R00 : Obj := .cells #[.string ⟨#[]⟩, .int .i64 0, .int .i64 0, .int .i64 0] 118
abbrev F00 : Obj := .cells #[.int .u64 0, .int .i64 0, .float .f64 0, .bool false, .string ⟨#[]⟩, .slice none 0 0] 57

/-- What one has laid ahead of its switch. -/
structure Laid1 (w wx : World) (s : ByteArray) (p : Nat) (c : Int) (ia : Option Addr) (n ic : Nat) : Prop where
  rd : R4 wx w.heap.size s (p : Int) 0 0
  it0 : wx.cell? ⟨w.heap.size + 1, 0, none⟩ = some (.int .u8 c)
  it1 : wx.cell? ⟨w.heap.size + 1, 1, none⟩ = some (.slice ia n ic)
  rr : R4 wx (w.heap.size + 1 + 1) ⟨#[]⟩ 0 0 0
  rf : F6 wx (w.heap.size + 1 + 1 + 1) 0 0 0 false ⟨#[]⟩ none 0 0
  fd : F6 wx (w.heap.size + 1 + 1 + 1 + 1) 0 0 0 false ⟨#[]⟩ none 0 0
  bel : Below w.heap.size w wx
  siz : w.heap.size + 5 ≤ wx.heap.size
theorem laid1 (w : World) (s : ByteArray) (p : Nat) (c : Int) (ia : Option Addr) (n ic : Nat) : Laid1 w (((((w.alloc (R0 s p)).alloc (I0 c ia n ic)).alloc R00).alloc F00).alloc F00) s p c ia n ic := by
  have a1 := fun (w : World) (o : Obj) => (Below.refl w.heap.size w).alloc (Nat.le_refl _) o
  have r1 := ((((R4.first w s (p : Int) 0 0 118).below (a1 _ (I0 c ia n ic)) (by simp)).below (a1 _ R00) (by simp <;> omega)).below (a1 _ F00) (by simp <;> omega)).below (a1 _ F00) (by simp <;> omega)
  have r2 := ((R4.first ((w.alloc (R0 s p)).alloc (I0 c ia n ic)) ⟨#[]⟩ 0 0 0 118).below (a1 _ F00) (by simp)).below (a1 _ F00) (by simp <;> omega)
  have f1 := (F6.first (((w.alloc (R0 s p)).alloc (I0 c ia n ic)).alloc R00) 57).below (a1 _ F00) (by simp)
  have f2 := F6.first ((((w.alloc (R0 s p)).alloc (I0 c ia n ic)).alloc R00).alloc F00) 57
  simp only [World.size_alloc] at r2 f1 f2
  refine ⟨r1, by simp [go_sem], by simp [go_sem], r2, f1, f2, ?_, by simp⟩
  exact (((((Below.refl w.heap.size w).alloc (Nat.le_refl _) _).alloc (by simp) _).alloc (by simp <;> omega) _).alloc (by simp <;> omega) _).alloc (by simp <;> omega) _
theorem Laid1.below {w wx w' : World} {s : ByteArray} {p : Nat} {c : Int} {ia : Option Addr} {n ic : Nat} (h : Laid1 w wx s p c ia n ic) (b : Below wx.heap.size wx w') : Laid1 w w' s p c ia n ic := by
  have hs := h.siz
  have hb := b.size
  exact ⟨h.rd.below b (by omega), (b.cell (p := ⟨w.heap.size + 1, 0, none⟩) (by simp <;> omega)).trans h.it0, (b.cell (p := ⟨w.heap.size + 1, 1, none⟩) (by simp <;> omega)).trans h.it1, h.rr.below b (by omega), h.rf.below b (by omega), h.fd.below b (by omega), belowNext h.bel b, by omega⟩

theorem F6.setU {w : World} {b u u' : Nat} {i : Int} {f : Nat} {bb : Bool} {t : ByteArray} {ra : Option Addr} {rn rc : Nat} (h : F6 w b u i f bb t ra rn rc) : F6 (w.setCell ⟨b, 0, none⟩ (.int .u64 (u' : Int))) b u' i f bb t ra rn rc := by
  obtain ⟨c0, c1, c2, c3, c4, c5, fz⟩ := h
  exact ⟨by simp [go_sem, c0], by simp [go_sem, c1], by simp [go_sem, c2], by simp [go_sem, c3], by simp [go_sem, c4], by simp [go_sem, c5], fun j hj => by simp [go_sem, fz j hj]⟩
theorem F6.other {w : World} {b c u : Nat} {i : Int} {f : Nat} {bb : Bool} {t : ByteArray} {ra : Option Addr} {rn rc : Nat} (h : F6 w b u i f bb t ra rn rc) (hne : b ≠ c) (o : Nat) (v : Value) : F6 (w.setCell ⟨c, o, none⟩ v) b u i f bb t ra rn rc := by
  obtain ⟨c0, c1, c2, c3, c4, c5, fz⟩ := h
  exact ⟨by simp [go_sem, c0, hne], by simp [go_sem, c1, hne], by simp [go_sem, c2, hne], by simp [go_sem, c3, hne], by simp [go_sem, c4, hne], by simp [go_sem, c5, hne], fun j hj => by simp [go_sem, fz j hj]⟩

theorem F6.other4 {w : World} {b c u : Nat} {i : Int} {f : Nat} {bb : Bool} {t : ByteArray} {ra : Option Addr} {rn rc : Nat} (h : F6 w b u i f bb t ra rn rc) (hne : b ≠ c) (x y z v : Value) :
    F6 ((((w.setCell ⟨c, 0, none⟩ x).setCell ⟨c, 1, none⟩ y).setCell ⟨c, 2, none⟩ z).setCell ⟨c, 3, none⟩ v) b u i f bb t ra rn rc := (((h.other hne 0 x).other hne 1 y).other hne 2 z).other hne 3 v
theorem R4.other4 {w : World} {b c : Nat} {s : ByteArray} {p e q : Int} (h : R4 w b s p e q) (hne : b ≠ c) (x y z v : Value) :
    R4 ((((w.setCell ⟨c, 0, none⟩ x).setCell ⟨c, 1, none⟩ y).setCell ⟨c, 2, none⟩ z).setCell ⟨c, 3, none⟩ v) b s p e q := (((h.other hne 0 x).other hne 1 y).other hne 2 z).other hne 3 v

/-- What one has ahead of its end: the reader in b2, the field in b7, room for both in b4, b5. -/
structure AtEnd (w wx : World) (b2 b4 b5 b7 : Nat) (s : ByteArray) (p e q : Int) (u : Nat) (i : Int) (f : Nat) (bb : Bool) (t : ByteArray) (ra : Option Addr) (rn rc : Nat) : Prop where
  rd : R4 wx b2 s p e q
  fd : F6 wx b7 u i f bb t ra rn rc
  rr : R4 wx b4 ⟨#[]⟩ 0 0 0
  rf : F6 wx b5 0 0 0 false ⟨#[]⟩ none 0 0
  bel : Below b2 w wx

theorem set6B {B : Nat} {w w1 : World} (h : Below B w w1) (b : Nat) (hb : B ≤ b) (x y z u v q : Value) : Below B w ((((((w1.setCell ⟨b, 0, none⟩ x).setCell ⟨b, 1, none⟩ y).setCell ⟨b, 2, none⟩ z).setCell ⟨b, 3, none⟩ u).setCell ⟨b, 4, none⟩ v).setCell ⟨b, 5, none⟩ q) :=
  (((((h.setCell hb _).setCell hb _).setCell hb _).setCell hb _).setCell hb _).setCell hb _
theorem one_ok {s : ByteArray} {it : It} {p q : Nat} {w w' : World} {u : Nat} {i : Int} {f : Nat} {bb : Bool} {t : ByteArray} (hx : rdOne s.data.toList it p = .ok (.mk u i f bb t.data.toList []) q) (hb : Below w.heap.size w w') :
    OneEnds s it p w (.returned (.tuple #[rdV s (q : Int) 0 0, fdV u i f bb t none 0 0])) w' := by
  refine ⟨hb, ?_⟩
  rw [hx]
  exact ⟨fdV u i f bb t none 0 0, rfl, u, i, f, bb, t, [], none, 0, 0, rfl, rfl, by simp [RowsS]⟩
theorem one_bad {s : ByteArray} {it : It} {p er fr : Nat} {w w' : World} (hx : rdOne s.data.toList it p = .bad er fr) (hb : Below w.heap.size w w') (pa u : Nat) (i : Int) (f : Nat) (bb : Bool) (t : ByteArray) (ra : Option Addr) (rn rc : Nat) :
    OneEnds s it p w (.returned (.tuple #[rdV s (pa : Int) (er : Int) (fr : Int), fdV u i f bb t ra rn rc])) w' := by
  refine ⟨hb, ?_⟩
  rw [hx]
  exact ⟨pa, u, i, f, bb, t, ra, rn, rc, rfl⟩

set_option maxHeartbeats 2000000 in
theorem one_u (s : ByteArray) : OneSays s .u := by
  intro p ia n ic S w hp hs _ _ _
  have HL := Lib.hid (laid1 w s p 117 ia n ic)
  have HV := Lib.hid (fun w => varint_any s p (by omega) hp w)
  have hst := d_store
  show Calls _ _ #[rdV s (p : Int) 0 0, .agg #[.int .u8 117, .slice ia n ic]] w _
  go_enter Tryz.func110, Tryz.ntmps110
  go_wp2_with fail
  refine (HV.out _).mono ?_
  rintro e w2 ⟨hb2, hcase⟩
  obtain ⟨hrd, -, -, hrr, hrf, hfd, hbel, hsiz⟩ := HL.out.below hb2
  generalize hB2 : w.heap.size = b2 at *
  generalize hB3 : b2 + 1 = b3 at *
  generalize hB4 : b3 + 1 = b4 at *
  generalize hB5 : b4 + 1 = b5 at *
  generalize hB7 : b5 + 1 = b7 at *
  have HN := Lib.hid (show b7 ≠ b2 ∧ b4 ≠ b2 ∧ b5 ≠ b2 ∧ b4 ≠ b7 ∧ b5 ≠ b7 ∧ b4 ≠ b5 ∧ b2 ≤ b4 ∧ b2 ≤ b5 ∧ b2 ≤ b7 by omega)
  cases hr : rdVar s.data.toList p with
  | ok n' q =>
    rw [hr] at hcase
    obtain rfl := hcase
    have hx : rdOne s.data.toList .u p = .ok (.mk n' 0 0 false (⟨#[]⟩ : ByteArray).data.toList []) q := by simp only [rdOne, hr]
    have HFin := Lib.hid (show ∀ w', Below b2 w w' → OneEnds s .u p w (.returned (.tuple #[rdV s (q : Int) 0 0, fdV n' 0 0 false ⟨#[]⟩ none 0 0])) w' from fun w' hb => one_ok hx (by rw [hB2]; exact hb))
    clear hx
    have hX : AtEnd w (((((w2.setCell ⟨b2, 0, none⟩ (.string s)).setCell ⟨b2, 1, none⟩ (.int .i64 (q : Int))).setCell ⟨b2, 2, none⟩ (.int .i64 0)).setCell ⟨b2, 3, none⟩ (.int .i64 0)).setCell ⟨b7, 0, none⟩ (.int .u64 (n' : Int))) b2 b4 b5 b7 s q 0 0 n' 0 0 false ⟨#[]⟩ none 0 0 :=
      ⟨hrd.set.other (fun h => HN.out.1 h.symm) _ _, (hfd.other4 HN.out.1 _ _ _ _).setU, (hrr.other4 HN.out.2.1 _ _ _ _).other HN.out.2.2.2.1 _ _, (hrf.other4 HN.out.2.2.1 _ _ _ _).other HN.out.2.2.2.2.1 _ _, (set4B hbel b2 (Nat.le_refl _) _ _ _ _).setCell HN.out.2.2.2.2.2.2.2.2 _⟩
    have HX := Lib.hid hX
    obtain ⟨c0, c1, c2, c3, f0, f1, f2, f3⟩ := id hrd
    obtain ⟨d0, d1, d2, d3, d4, d5, dz⟩ := id hfd
    have dz0 := dz 0 (by omega)
    have n27 : b2 ≠ b7 := fun h => HN.out.1 h.symm
    clear hX hrd hrr hrf hfd
    go_wp2_with fail
    generalize (((((w2.setCell ⟨b2, 0, none⟩ (.string s)).setCell ⟨b2, 1, none⟩ (.int .i64 (q : Int))).setCell ⟨b2, 2, none⟩ (.int .i64 0)).setCell ⟨b2, 3, none⟩ (.int .i64 0)).setCell ⟨b7, 0, none⟩ (.int .u64 (n' : Int))) = wX at *
    obtain ⟨⟨c0, c1, c2, c3, f0, f1, f2, f3⟩, ⟨d0, d1, d2, d3, d4, d5, dz⟩, ⟨r0, r1, r2, r3, q0, q1, q2, q3⟩, ⟨e0, e1, e2, e3, e4, e5, ez⟩, hbX⟩ := id HX.out
    have ez0 := ez 0 (by omega)
    have ez1 := ez 1 (by omega)
    have ez2 := ez 2 (by omega)
    have ez3 := ez 3 (by omega)
    have ez4 := ez 4 (by omega)
    have ez5 := ez 5 (by omega)
    clear ez dz
    obtain ⟨-, m42, m52, m47, m57, m45, k24, k25, -⟩ := HN.out
    have m54 : b5 ≠ b4 := fun h => m45 h.symm
    go_region_with (fail)
    all_goals go_wp2_with fail
    all_goals
      (try simp only [Exit.inBlock, Exit.then])
      refine bodyPost_ret (v := .tuple #[rdV s (q : Int) 0 0, fdV n' 0 0 false ⟨#[]⟩ none 0 0]) (by simp [results, Tryz.results110, go_sem, r0, r1, r2, r3, e0, e1, e2, e3, e4, e5, m45, m54]) rfl ?_
      with_reducible first | exact HFin.out _ (set6B (set4B hbX b4 k24 _ _ _ _) b5 k25 _ _ _ _ _ _).drew | exact HFin.out _ (set4B (set6B hbX b5 k25 _ _ _ _ _ _) b4 k24 _ _ _ _).drew
  | bad er fr =>
    rw [hr] at hcase
    obtain ⟨pa, rfl⟩ := hcase
    have hx : rdOne s.data.toList .u p = .bad er fr := by simp only [rdOne, hr]
    have HFin := Lib.hid (show ∀ w', Below b2 w w' → OneEnds s .u p w (.returned (.tuple #[rdV s (pa : Int) (er : Int) (fr : Int), fdV 0 0 0 false ⟨#[]⟩ none 0 0])) w' from fun w' hb => one_bad hx (by rw [hB2]; exact hb) pa 0 0 0 false ⟨#[]⟩ none 0 0)
    clear hx
    have hX : AtEnd w (((((w2.setCell ⟨b2, 0, none⟩ (.string s)).setCell ⟨b2, 1, none⟩ (.int .i64 (pa : Int))).setCell ⟨b2, 2, none⟩ (.int .i64 (er : Int))).setCell ⟨b2, 3, none⟩ (.int .i64 (fr : Int))).setCell ⟨b7, 0, none⟩ (.int .u64 ((0 : Nat) : Int))) b2 b4 b5 b7 s pa er fr 0 0 0 false ⟨#[]⟩ none 0 0 :=
      ⟨hrd.set.other (fun h => HN.out.1 h.symm) _ _, (hfd.other4 HN.out.1 _ _ _ _).setU, (hrr.other4 HN.out.2.1 _ _ _ _).other HN.out.2.2.2.1 _ _, (hrf.other4 HN.out.2.2.1 _ _ _ _).other HN.out.2.2.2.2.1 _ _, (set4B hbel b2 (Nat.le_refl _) _ _ _ _).setCell HN.out.2.2.2.2.2.2.2.2 _⟩
    have HX := Lib.hid hX
    obtain ⟨c0, c1, c2, c3, f0, f1, f2, f3⟩ := id hrd
    obtain ⟨d0, d1, d2, d3, d4, d5, dz⟩ := id hfd
    have dz0 := dz 0 (by omega)
    have n27 : b2 ≠ b7 := fun h => HN.out.1 h.symm
    clear hX hrd hrr hrf hfd
    go_wp2_with fail
    generalize (((((w2.setCell ⟨b2, 0, none⟩ (.string s)).setCell ⟨b2, 1, none⟩ (.int .i64 (pa : Int))).setCell ⟨b2, 2, none⟩ (.int .i64 (er : Int))).setCell ⟨b2, 3, none⟩ (.int .i64 (fr : Int))).setCell ⟨b7, 0, none⟩ (.int .u64 ((0 : Nat) : Int))) = wX at *
    obtain ⟨⟨c0, c1, c2, c3, f0, f1, f2, f3⟩, ⟨d0, d1, d2, d3, d4, d5, dz⟩, ⟨r0, r1, r2, r3, q0, q1, q2, q3⟩, ⟨e0, e1, e2, e3, e4, e5, ez⟩, hbX⟩ := id HX.out
    have ez0 := ez 0 (by omega)
    have ez1 := ez 1 (by omega)
    have ez2 := ez 2 (by omega)
    have ez3 := ez 3 (by omega)
    have ez4 := ez 4 (by omega)
    have ez5 := ez 5 (by omega)
    clear ez dz
    obtain ⟨-, m42, m52, m47, m57, m45, k24, k25, -⟩ := HN.out
    have m54 : b5 ≠ b4 := fun h => m45 h.symm
    go_region_with (fail)
    all_goals go_wp2_with fail
    all_goals
      (try simp only [Exit.inBlock, Exit.then])
      refine bodyPost_ret (v := .tuple #[rdV s (pa : Int) (er : Int) (fr : Int), fdV 0 0 0 false ⟨#[]⟩ none 0 0]) (by simp [results, Tryz.results110, go_sem, r0, r1, r2, r3, e0, e1, e2, e3, e4, e5, m45, m54]) rfl ?_
      with_reducible first | exact HFin.out _ (set6B (set4B hbX b4 k24 _ _ _ _) b5 k25 _ _ _ _ _ _).drew | exact HFin.out _ (set4B (set6B hbX b5 k25 _ _ _ _ _ _) b4 k24 _ _ _ _).drew
end Go.Proofs.YtidfgjgbigedeaaGreatDoor
end

section
namespace Go.Proofs.YtidfgjgbigedeaaGreatDoor
open Go.RowKit Go.Lib Go.Wq
set_option linter.unusedVariables false
set_option linter.unusedSimpArgs false
set_option maxRecDepth 100000

theorem F6.setF {w : World} {b u : Nat} {i : Int} {f f' : Nat} {bb : Bool} {t : ByteArray} {ra : Option Addr} {rn rc : Nat} (h : F6 w b u i f bb t ra rn rc) : F6 (w.setCell ⟨b, 2, none⟩ (.float .f64 f')) b u i f' bb t ra rn rc := by
  obtain ⟨c0, c1, c2, c3, c4, c5, fz⟩ := h
  exact ⟨by simp [go_sem, c0], by simp [go_sem, c1], by simp [go_sem, c2], by simp [go_sem, c3], by simp [go_sem, c4], by simp [go_sem, c5], fun j hj => by simp [go_sem, fz j hj]⟩
theorem F6.setI {w : World} {b u : Nat} {i i' : Int} {f : Nat} {bb : Bool} {t : ByteArray} {ra : Option Addr} {rn rc : Nat} (h : F6 w b u i f bb t ra rn rc) : F6 (w.setCell ⟨b, 1, none⟩ (.int .i64 i')) b u i' f bb t ra rn rc := by
  obtain ⟨c0, c1, c2, c3, c4, c5, fz⟩ := h
  exact ⟨by simp [go_sem, c0], by simp [go_sem, c1], by simp [go_sem, c2], by simp [go_sem, c3], by simp [go_sem, c4], by simp [go_sem, c5], fun j hj => by simp [go_sem, fz j hj]⟩
theorem F6.setT {w : World} {b u : Nat} {i : Int} {f : Nat} {bb : Bool} {t t' : ByteArray} {ra : Option Addr} {rn rc : Nat} (h : F6 w b u i f bb t ra rn rc) : F6 (w.setCell ⟨b, 4, none⟩ (.string t')) b u i f bb t' ra rn rc := by
  obtain ⟨c0, c1, c2, c3, c4, c5, fz⟩ := h
  exact ⟨by simp [go_sem, c0], by simp [go_sem, c1], by simp [go_sem, c2], by simp [go_sem, c3], by simp [go_sem, c4], by simp [go_sem, c5], fun j hj => by simp [go_sem, fz j hj]⟩

set_option maxHeartbeats 4000000 in
theorem one_f (s : ByteArray) : OneSays s .f := by
  intro p ia n ic S w hp hs _ _ _
  have HL := Lib.hid (laid1 w s p 102 ia n ic)
  have HV := Lib.hid (fun w => float_any s p (by omega) hp w)
  have hst := d_store
  show Calls _ _ #[rdV s (p : Int) 0 0, .agg #[.int .u8 102, .slice ia n ic]] w _
  go_enter Tryz.func110, Tryz.ntmps110
  go_wp2_with fail
  refine (HV.out _).mono ?_
  rintro e w2 ⟨hb2, hcase⟩
  obtain ⟨hrd, -, -, hrr, hrf, hfd, hbel, hsiz⟩ := HL.out.below hb2
  generalize hB2 : w.heap.size = b2 at *
  generalize hB3 : b2 + 1 = b3 at *
  generalize hB4 : b3 + 1 = b4 at *
  generalize hB5 : b4 + 1 = b5 at *
  generalize hB7 : b5 + 1 = b7 at *
  have HN := Lib.hid (show b7 ≠ b2 ∧ b4 ≠ b2 ∧ b5 ≠ b2 ∧ b4 ≠ b7 ∧ b5 ≠ b7 ∧ b4 ≠ b5 ∧ b2 ≤ b4 ∧ b2 ≤ b5 ∧ b2 ≤ b7 by omega)
  have hl : s.data.toList.length = s.size := Array.length_toList
  by_cases hlt : s.size < p + 8
  · rw [if_pos hlt] at hcase
    obtain ⟨pa, rfl⟩ := hcase
    have hx : rdOne s.data.toList .f p = .bad 42 p := by simp only [rdOne]; rw [if_pos (by omega)]
    have HFin := Lib.hid (show ∀ w', Below b2 w w' → OneEnds s .f p w (.returned (.tuple #[rdV s (pa : Int) 42 (p : Int), fdV 0 0 0 false ⟨#[]⟩ none 0 0])) w' from fun w' hb => one_bad hx (by rw [hB2]; exact hb) pa 0 0 0 false ⟨#[]⟩ none 0 0)
    clear hx
    have HX := Lib.hid (show AtEnd w (((((w2.setCell ⟨b2, 0, none⟩ (.string s)).setCell ⟨b2, 1, none⟩ (.int .i64 (pa : Int))).setCell ⟨b2, 2, none⟩ (.int .i64 42)).setCell ⟨b2, 3, none⟩ (.int .i64 (p : Int))).setCell ⟨b7, 2, none⟩ (.float .f64 0)) b2 b4 b5 b7 s pa 42 p 0 0 0 false ⟨#[]⟩ none 0 0 from
      ⟨(hrd.set).other (fun h => HN.out.1 h.symm) _ _, (hfd.other4 HN.out.1 _ _ _ _).setF, (hrr.other4 HN.out.2.1 _ _ _ _).other HN.out.2.2.2.1 _ _, (hrf.other4 HN.out.2.2.1 _ _ _ _).other HN.out.2.2.2.2.1 _ _, (set4B hbel b2 (Nat.le_refl _) _ _ _ _).setCell HN.out.2.2.2.2.2.2.2.2 _⟩)
    obtain ⟨c0, c1, c2, c3, f0, f1, f2, f3⟩ := id hrd
    obtain ⟨d0, d1, d2, d3, d4, d5, dz⟩ := id hfd
    have dz0 := dz 0 (by omega)
    have dz1 := dz 1 (by omega)
    have dz2 := dz 2 (by omega)
    have dz3 := dz 3 (by omega)
    have dz4 := dz 4 (by omega)
    have n27 : b2 ≠ b7 := fun h => HN.out.1 h.symm
    have n72 : b7 ≠ b2 := HN.out.1
    clear hrd hrr hrf hfd dz
    go_wp2_with fail
    generalize (((((w2.setCell ⟨b2, 0, none⟩ (.string s)).setCell ⟨b2, 1, none⟩ (.int .i64 (pa : Int))).setCell ⟨b2, 2, none⟩ (.int .i64 42)).setCell ⟨b2, 3, none⟩ (.int .i64 (p : Int))).setCell ⟨b7, 2, none⟩ (.float .f64 0)) = wX at *
    obtain ⟨⟨c0, c1, c2, c3, f0, f1, f2, f3⟩, ⟨d0, d1, d2, d3, d4, d5, dz⟩, ⟨r0, r1, r2, r3, q0, q1, q2, q3⟩, ⟨e0, e1, e2, e3, e4, e5, ez⟩, hbX⟩ := id HX.out
    have ez0 := ez 0 (by omega)
    have ez1 := ez 1 (by omega)
    have ez2 := ez 2 (by omega)
    have ez3 := ez 3 (by omega)
    have ez4 := ez 4 (by omega)
    have ez5 := ez 5 (by omega)
    clear ez dz
    obtain ⟨-, m42, m52, m47, m57, m45, k24, k25, -⟩ := HN.out
    have m54 : b5 ≠ b4 := fun h => m45 h.symm
    go_region_with (fail)
    all_goals go_wp2_with fail
    all_goals
      (try simp only [Exit.inBlock, Exit.then])
      refine bodyPost_ret (v := .tuple #[rdV s (pa : Int) 42 (p : Int), fdV 0 0 0 false ⟨#[]⟩ none 0 0]) (by simp [results, Tryz.results110, go_sem, r0, r1, r2, r3, e0, e1, e2, e3, e4, e5, m45, m54]) rfl ?_
      with_reducible first | exact HFin.out _ (set6B (set4B hbX b4 k24 _ _ _ _) b5 k25 _ _ _ _ _ _).drew | exact HFin.out _ (set4B (set6B hbX b5 k25 _ _ _ _ _ _) b4 k24 _ _ _ _).drew
  · rw [if_neg hlt] at hcase
    obtain rfl := hcase
    have hx : rdOne s.data.toList .f p = .ok (.mk 0 0 (numOf ((s.data.toList.drop p).take 8) 0) false (⟨#[]⟩ : ByteArray).data.toList []) (p + 8) := by simp only [rdOne]; rw [if_neg (by omega)]
    obtain ⟨q, hq⟩ : ∃ q, p + 8 = q := ⟨_, rfl⟩
    rw [hq] at hx ⊢
    generalize numOf ((s.data.toList.drop p).take 8) 0 = N at *
    have HFin := Lib.hid (show ∀ w', Below b2 w w' → OneEnds s .f p w (.returned (.tuple #[rdV s (q : Int) 0 0, fdV 0 0 N false ⟨#[]⟩ none 0 0])) w' from fun w' hb => one_ok hx (by rw [hB2]; exact hb))
    clear hx
    have HX := Lib.hid (show AtEnd w (((((w2.setCell ⟨b2, 0, none⟩ (.string s)).setCell ⟨b2, 1, none⟩ (.int .i64 (q : Int))).setCell ⟨b2, 2, none⟩ (.int .i64 0)).setCell ⟨b2, 3, none⟩ (.int .i64 0)).setCell ⟨b7, 2, none⟩ (.float .f64 N)) b2 b4 b5 b7 s q 0 0 0 0 N false ⟨#[]⟩ none 0 0 from
      ⟨(hrd.set).other (fun h => HN.out.1 h.symm) _ _, (hfd.other4 HN.out.1 _ _ _ _).setF, (hrr.other4 HN.out.2.1 _ _ _ _).other HN.out.2.2.2.1 _ _, (hrf.other4 HN.out.2.2.1 _ _ _ _).other HN.out.2.2.2.2.1 _ _, (set4B hbel b2 (Nat.le_refl _) _ _ _ _).setCell HN.out.2.2.2.2.2.2.2.2 _⟩)
    obtain ⟨c0, c1, c2, c3, f0, f1, f2, f3⟩ := id hrd
    obtain ⟨d0, d1, d2, d3, d4, d5, dz⟩ := id hfd
    have dz0 := dz 0 (by omega)
    have dz1 := dz 1 (by omega)
    have dz2 := dz 2 (by omega)
    have dz3 := dz 3 (by omega)
    have dz4 := dz 4 (by omega)
    have n27 : b2 ≠ b7 := fun h => HN.out.1 h.symm
    have n72 : b7 ≠ b2 := HN.out.1
    clear hrd hrr hrf hfd dz
    go_wp2_with fail
    generalize (((((w2.setCell ⟨b2, 0, none⟩ (.string s)).setCell ⟨b2, 1, none⟩ (.int .i64 (q : Int))).setCell ⟨b2, 2, none⟩ (.int .i64 0)).setCell ⟨b2, 3, none⟩ (.int .i64 0)).setCell ⟨b7, 2, none⟩ (.float .f64 N)) = wX at *
    obtain ⟨⟨c0, c1, c2, c3, f0, f1, f2, f3⟩, ⟨d0, d1, d2, d3, d4, d5, dz⟩, ⟨r0, r1, r2, r3, q0, q1, q2, q3⟩, ⟨e0, e1, e2, e3, e4, e5, ez⟩, hbX⟩ := id HX.out
    have ez0 := ez 0 (by omega)
    have ez1 := ez 1 (by omega)
    have ez2 := ez 2 (by omega)
    have ez3 := ez 3 (by omega)
    have ez4 := ez 4 (by omega)
    have ez5 := ez 5 (by omega)
    clear ez dz
    obtain ⟨-, m42, m52, m47, m57, m45, k24, k25, -⟩ := HN.out
    have m54 : b5 ≠ b4 := fun h => m45 h.symm
    go_region_with (fail)
    all_goals go_wp2_with fail
    all_goals
      (try simp only [Exit.inBlock, Exit.then])
      refine bodyPost_ret (v := .tuple #[rdV s (q : Int) 0 0, fdV 0 0 N false ⟨#[]⟩ none 0 0]) (by simp [results, Tryz.results110, go_sem, r0, r1, r2, r3, e0, e1, e2, e3, e4, e5, m45, m54]) rfl ?_
      with_reducible first | exact HFin.out _ (set6B (set4B hbX b4 k24 _ _ _ _) b5 k25 _ _ _ _ _ _).drew | exact HFin.out _ (set4B (set6B hbX b5 k25 _ _ _ _ _ _) b4 k24 _ _ _ _).drew

set_option maxHeartbeats 4000000 in
theorem one_i (s : ByteArray) : OneSays s .i := by
  intro p ia n ic S w hp hs _ _ _
  have HL := Lib.hid (laid1 w s p 105 ia n ic)
  have HV := Lib.hid (fun w => varint_any s p (by omega) hp w)
  have hst := d_store
  show Calls _ _ #[rdV s (p : Int) 0 0, .agg #[.int .u8 105, .slice ia n ic]] w _
  go_enter Tryz.func110, Tryz.ntmps110
  go_wp2_with fail
  refine (HV.out _).mono ?_
  rintro e w2 ⟨hb2, hcase⟩
  obtain ⟨hrd, -, -, hrr, hrf, hfd, hbel, hsiz⟩ := HL.out.below hb2
  generalize hB2 : w.heap.size = b2 at *
  generalize hB3 : b2 + 1 = b3 at *
  generalize hB4 : b3 + 1 = b4 at *
  generalize hB5 : b4 + 1 = b5 at *
  generalize hB7 : b5 + 1 = b7 at *
  have HN := Lib.hid (show b7 ≠ b2 ∧ b4 ≠ b2 ∧ b5 ≠ b2 ∧ b4 ≠ b7 ∧ b5 ≠ b7 ∧ b4 ≠ b5 ∧ b2 ≤ b4 ∧ b2 ≤ b5 ∧ b2 ≤ b7 by omega)
  cases hr : rdVar s.data.toList p with
  | ok n' q =>
    rw [hr] at hcase
    obtain rfl := hcase
    have hn64 := (rdVar_only hr).1
    have hx : rdOne s.data.toList .i p = .ok (.mk 0 (zag n') 0 false (⟨#[]⟩ : ByteArray).data.toList []) q := by simp only [rdOne, hr]
    have HFin := Lib.hid (show ∀ w', Below b2 w w' → OneEnds s .i p w (.returned (.tuple #[rdV s (q : Int) 0 0, fdV 0 (zag n') 0 false ⟨#[]⟩ none 0 0])) w' from fun w' hb => one_ok hx (by rw [hB2]; exact hb))
    clear hx
    obtain ⟨H, hH0⟩ : ∃ H : Nat, (n' : Int) / 2 = (H : Int) := ⟨n' / 2, by omega⟩
    have hH63 : H < 9223372036854775808 := by omega
    have hH : IntKind.i64.wrap (H : Int) = (H : Int) := by go_arith
    have hX1 := xor_m1 H hH63
    have hA : bits BinOp.and IntKind.u64 (n' : Int) 1 = ((n' % 2 : Nat) : Int) := by
      rw [show (1 : Int) = ((1 : Nat) : Int) from rfl, u64_and_nat _ _ (by omega) (by omega), Nat.and_one_is_mod]
    by_cases hodd : n' % 2 = 1
    · have hz : zag n' = -(H : Int) - 1 := by unfold zag; rw [if_pos hodd]; omega
      rw [hz] at HFin
      rw [hodd] at hA
      clear hz hodd hr
      have HX := Lib.hid (show AtEnd w ((((((w2.setCell ⟨b2, 0, none⟩ (.string s)).setCell ⟨b2, 1, none⟩ (.int .i64 (q : Int))).setCell ⟨b2, 2, none⟩ (.int .i64 0)).setCell ⟨b2, 3, none⟩ (.int .i64 0)).setCell ⟨b7, 1, none⟩ (.int .i64 (H : Int))).setCell ⟨b7, 1, none⟩ (.int .i64 (-(H : Int) - 1))) b2 b4 b5 b7 s q 0 0 0 (-(H : Int) - 1) 0 false ⟨#[]⟩ none 0 0 from
        ⟨((hrd.set).other (fun h => HN.out.1 h.symm) _ _).other (fun h => HN.out.1 h.symm) _ _, (hfd.other4 HN.out.1 _ _ _ _).setI.setI, ((hrr.other4 HN.out.2.1 _ _ _ _).other HN.out.2.2.2.1 _ _).other HN.out.2.2.2.1 _ _, ((hrf.other4 HN.out.2.2.1 _ _ _ _).other HN.out.2.2.2.2.1 _ _).other HN.out.2.2.2.2.1 _ _, ((set4B hbel b2 (Nat.le_refl _) _ _ _ _).setCell HN.out.2.2.2.2.2.2.2.2 _).setCell HN.out.2.2.2.2.2.2.2.2 _⟩)
      obtain ⟨c0, c1, c2, c3, f0, f1, f2, f3⟩ := id hrd
      obtain ⟨d0, d1, d2, d3, d4, d5, dz⟩ := id hfd
      have dz0 := dz 0 (by omega)
      have dz1 := dz 1 (by omega)
      have dz2 := dz 2 (by omega)
      have dz3 := dz 3 (by omega)
      have dz4 := dz 4 (by omega)
      have n27 : b2 ≠ b7 := fun h => HN.out.1 h.symm
      have n72 : b7 ≠ b2 := HN.out.1
      clear hrd hrr hrf hfd dz
      go_wp2_with fail
      generalize ((((((w2.setCell ⟨b2, 0, none⟩ (.string s)).setCell ⟨b2, 1, none⟩ (.int .i64 (q : Int))).setCell ⟨b2, 2, none⟩ (.int .i64 0)).setCell ⟨b2, 3, none⟩ (.int .i64 0)).setCell ⟨b7, 1, none⟩ (.int .i64 (H : Int))).setCell ⟨b7, 1, none⟩ (.int .i64 (-(H : Int) - 1))) = wX at *
      obtain ⟨⟨c0, c1, c2, c3, f0, f1, f2, f3⟩, ⟨d0, d1, d2, d3, d4, d5, dz⟩, ⟨r0, r1, r2, r3, q0, q1, q2, q3⟩, ⟨e0, e1, e2, e3, e4, e5, ez⟩, hbX⟩ := id HX.out
      have ez0 := ez 0 (by omega)
      have ez1 := ez 1 (by omega)
      have ez2 := ez 2 (by omega)
      have ez3 := ez 3 (by omega)
      have ez4 := ez 4 (by omega)
      have ez5 := ez 5 (by omega)
      clear ez dz
      obtain ⟨-, m42, m52, m47, m57, m45, k24, k25, -⟩ := HN.out
      have m54 : b5 ≠ b4 := fun h => m45 h.symm
      go_region_with (fail)
      all_goals go_wp2_with fail
      all_goals
        (try simp only [Exit.inBlock, Exit.then])
        refine bodyPost_ret (v := .tuple #[rdV s (q : Int) 0 0, fdV 0 (-(H : Int) - 1) 0 false ⟨#[]⟩ none 0 0]) (by simp [results, Tryz.results110, go_sem, r0, r1, r2, r3, e0, e1, e2, e3, e4, e5, m45, m54]) rfl ?_
        with_reducible first | exact HFin.out _ (set6B (set4B hbX b4 k24 _ _ _ _) b5 k25 _ _ _ _ _ _).drew | exact HFin.out _ (set4B (set6B hbX b5 k25 _ _ _ _ _ _) b4 k24 _ _ _ _).drew
    · have h0 : n' % 2 = 0 := by omega
      have hz : zag n' = (H : Int) := by unfold zag; rw [if_neg hodd]; omega
      rw [hz] at HFin
      rw [h0] at hA
      have HX := Lib.hid (show AtEnd w (((((w2.setCell ⟨b2, 0, none⟩ (.string s)).setCell ⟨b2, 1, none⟩ (.int .i64 (q : Int))).setCell ⟨b2, 2, none⟩ (.int .i64 0)).setCell ⟨b2, 3, none⟩ (.int .i64 0)).setCell ⟨b7, 1, none⟩ (.int .i64 (H : Int))) b2 b4 b5 b7 s q 0 0 0 (H : Int) 0 false ⟨#[]⟩ none 0 0 from
        ⟨(hrd.set).other (fun h => HN.out.1 h.symm) _ _, (hfd.other4 HN.out.1 _ _ _ _).setI, (hrr.other4 HN.out.2.1 _ _ _ _).other HN.out.2.2.2.1 _ _, (hrf.other4 HN.out.2.2.1 _ _ _ _).other HN.out.2.2.2.2.1 _ _, (set4B hbel b2 (Nat.le_refl _) _ _ _ _).setCell HN.out.2.2.2.2.2.2.2.2 _⟩)
      clear hz h0 hodd hr
      obtain ⟨c0, c1, c2, c3, f0, f1, f2, f3⟩ := id hrd
      obtain ⟨d0, d1, d2, d3, d4, d5, dz⟩ := id hfd
      have dz0 := dz 0 (by omega)
      have dz1 := dz 1 (by omega)
      have dz2 := dz 2 (by omega)
      have dz3 := dz 3 (by omega)
      have dz4 := dz 4 (by omega)
      have n27 : b2 ≠ b7 := fun h => HN.out.1 h.symm
      have n72 : b7 ≠ b2 := HN.out.1
      clear hrd hrr hrf hfd dz
      go_wp2_with fail
      generalize (((((w2.setCell ⟨b2, 0, none⟩ (.string s)).setCell ⟨b2, 1, none⟩ (.int .i64 (q : Int))).setCell ⟨b2, 2, none⟩ (.int .i64 0)).setCell ⟨b2, 3, none⟩ (.int .i64 0)).setCell ⟨b7, 1, none⟩ (.int .i64 (H : Int))) = wX at *
      obtain ⟨⟨c0, c1, c2, c3, f0, f1, f2, f3⟩, ⟨d0, d1, d2, d3, d4, d5, dz⟩, ⟨r0, r1, r2, r3, q0, q1, q2, q3⟩, ⟨e0, e1, e2, e3, e4, e5, ez⟩, hbX⟩ := id HX.out
      have ez0 := ez 0 (by omega)
      have ez1 := ez 1 (by omega)
      have ez2 := ez 2 (by omega)
      have ez3 := ez 3 (by omega)
      have ez4 := ez 4 (by omega)
      have ez5 := ez 5 (by omega)
      clear ez dz
      obtain ⟨-, m42, m52, m47, m57, m45, k24, k25, -⟩ := HN.out
      have m54 : b5 ≠ b4 := fun h => m45 h.symm
      go_region_with (fail)
      all_goals go_wp2_with fail
      all_goals
        (try simp only [Exit.inBlock, Exit.then])
        refine bodyPost_ret (v := .tuple #[rdV s (q : Int) 0 0, fdV 0 (H : Int) 0 false ⟨#[]⟩ none 0 0]) (by simp [results, Tryz.results110, go_sem, r0, r1, r2, r3, e0, e1, e2, e3, e4, e5, m45, m54]) rfl ?_
        with_reducible first | exact HFin.out _ (set6B (set4B hbX b4 k24 _ _ _ _) b5 k25 _ _ _ _ _ _).drew | exact HFin.out _ (set4B (set6B hbX b5 k25 _ _ _ _ _ _) b4 k24 _ _ _ _).drew
  | bad er fr =>
    rw [hr] at hcase
    obtain ⟨pa, rfl⟩ := hcase
    have hx : rdOne s.data.toList .i p = .bad er fr := by simp only [rdOne, hr]
    have HFin := Lib.hid (show ∀ w', Below b2 w w' → OneEnds s .i p w (.returned (.tuple #[rdV s (pa : Int) (er : Int) (fr : Int), fdV 0 0 0 false ⟨#[]⟩ none 0 0])) w' from fun w' hb => one_bad hx (by rw [hB2]; exact hb) pa 0 0 0 false ⟨#[]⟩ none 0 0)
    clear hx
    have hA : bits BinOp.and IntKind.u64 0 1 = 0 := by decide +kernel
    have HX := Lib.hid (show AtEnd w (((((w2.setCell ⟨b2, 0, none⟩ (.string s)).setCell ⟨b2, 1, none⟩ (.int .i64 (pa : Int))).setCell ⟨b2, 2, none⟩ (.int .i64 (er : Int))).setCell ⟨b2, 3, none⟩ (.int .i64 (fr : Int))).setCell ⟨b7, 1, none⟩ (.int .i64 0)) b2 b4 b5 b7 s pa er fr 0 0 0 false ⟨#[]⟩ none 0 0 from
      ⟨(hrd.set).other (fun h => HN.out.1 h.symm) _ _, (hfd.other4 HN.out.1 _ _ _ _).setI, (hrr.other4 HN.out.2.1 _ _ _ _).other HN.out.2.2.2.1 _ _, (hrf.other4 HN.out.2.2.1 _ _ _ _).other HN.out.2.2.2.2.1 _ _, (set4B hbel b2 (Nat.le_refl _) _ _ _ _).setCell HN.out.2.2.2.2.2.2.2.2 _⟩)
    obtain ⟨c0, c1, c2, c3, f0, f1, f2, f3⟩ := id hrd
    obtain ⟨d0, d1, d2, d3, d4, d5, dz⟩ := id hfd
    have dz0 := dz 0 (by omega)
    have dz1 := dz 1 (by omega)
    have dz2 := dz 2 (by omega)
    have dz3 := dz 3 (by omega)
    have dz4 := dz 4 (by omega)
    have n27 : b2 ≠ b7 := fun h => HN.out.1 h.symm
    have n72 : b7 ≠ b2 := HN.out.1
    clear hrd hrr hrf hfd dz
    go_wp2_with fail
    generalize (((((w2.setCell ⟨b2, 0, none⟩ (.string s)).setCell ⟨b2, 1, none⟩ (.int .i64 (pa : Int))).setCell ⟨b2, 2, none⟩ (.int .i64 (er : Int))).setCell ⟨b2, 3, none⟩ (.int .i64 (fr : Int))).setCell ⟨b7, 1, none⟩ (.int .i64 0)) = wX at *
    obtain ⟨⟨c0, c1, c2, c3, f0, f1, f2, f3⟩, ⟨d0, d1, d2, d3, d4, d5, dz⟩, ⟨r0, r1, r2, r3, q0, q1, q2, q3⟩, ⟨e0, e1, e2, e3, e4, e5, ez⟩, hbX⟩ := id HX.out
    have ez0 := ez 0 (by omega)
    have ez1 := ez 1 (by omega)
    have ez2 := ez 2 (by omega)
    have ez3 := ez 3 (by omega)
    have ez4 := ez 4 (by omega)
    have ez5 := ez 5 (by omega)
    clear ez dz
    obtain ⟨-, m42, m52, m47, m57, m45, k24, k25, -⟩ := HN.out
    have m54 : b5 ≠ b4 := fun h => m45 h.symm
    go_region_with (fail)
    all_goals go_wp2_with fail
    all_goals
      (try simp only [Exit.inBlock, Exit.then])
      refine bodyPost_ret (v := .tuple #[rdV s (pa : Int) (er : Int) (fr : Int), fdV 0 0 0 false ⟨#[]⟩ none 0 0]) (by simp [results, Tryz.results110, go_sem, r0, r1, r2, r3, e0, e1, e2, e3, e4, e5, m45, m54]) rfl ?_
      with_reducible first | exact HFin.out _ (set6B (set4B hbX b4 k24 _ _ _ _) b5 k25 _ _ _ _ _ _).drew | exact HFin.out _ (set4B (set6B hbX b5 k25 _ _ _ _ _ _) b4 k24 _ _ _ _).drew
end Go.Proofs.YtidfgjgbigedeaaGreatDoor
end

section
namespace Go.Proofs.YtidfgjgbigedeaaGreatDoor
open Go.RowKit Go.Lib Go.Wq
set_option linter.unusedVariables false
set_option linter.unusedSimpArgs false
set_option maxRecDepth 100000
theorem below_5 (w : World) (a b c d e : Obj) : Below w.heap.size w (((((w.alloc a).alloc b).alloc c).alloc d).alloc e) :=
  (((((Below.refl w.heap.size w).alloc (Nat.le_refl _) _).alloc (by simp) _).alloc (by simp <;> omega) _).alloc (by simp <;> omega) _).alloc (by simp <;> omega) _

set_option maxHeartbeats 4000000 in
theorem one_b (s : ByteArray) : OneSays s .b := by
  intro p ia n ic S w hp hs _ _ _
  have HL := Lib.hid (laid1 w s p 98 ia n ic)
  have hl : s.data.toList.length = s.size := Array.length_toList
  have hst := d_store
  show Calls _ _ #[rdV s (p : Int) 0 0, .agg #[.int .u8 98, .slice ia n ic]] w _
  go_enter Tryz.func110, Tryz.ntmps110
  by_cases hend : p < s.size
  · obtain ⟨C, hC⟩ : ∃ C : Nat, ((s[p]'hend).toNat : Int) = (C : Int) := ⟨_, rfl⟩
    have hC' : (s[p]'hend).toNat = C := by exact_mod_cast hC
    have hget : s.data.toList[p]? = some (s[p]'hend) := by
      rw [Array.getElem?_toList]
      exact Array.getElem?_eq_getElem hend
    have hge : decide ((s.size : Int) ≤ (p : Int)) = false := decide_eq_false (by omega)
    by_cases hc : 1 < C
    · have hx : rdOne s.data.toList .b p = .bad 43 p := by simp only [rdOne, hget, hC']; rw [if_pos hc]
      have hd1 : decide (1 < (C : Int)) = true := decide_eq_true (by omega)
      have HFin := Lib.hid (show ∀ w', Below w.heap.size w w' → OneEnds s .b p w (.returned (.tuple #[rdV s (p : Int) 43 (p : Int), fdV 0 0 0 false ⟨#[]⟩ none 0 0])) w' from fun w' hb => one_bad hx hb p 0 0 0 false ⟨#[]⟩ none 0 0)
      clear hget hx hC'
      go_wp2_with fail
      have hL := HL.out
      obtain ⟨wl, hwl⟩ : ∃ wl, wl = (((((w.alloc (R0 s p)).alloc (I0 98 ia n ic)).alloc R00).alloc F00).alloc F00) := ⟨_, rfl⟩
      rw [← hwl] at hL ⊢
      have hKeep : ∀ w', Below wl.heap.size wl w' → Laid1 w w' s p 98 ia n ic := fun w' h => hL.below h
      clear hwl
      obtain ⟨⟨c0, c1, c2, c3, f0, f1, f2, f3⟩, -, -, -, -, ⟨d0, d1, d2, d3, d4, d5, dz⟩, hbel, hsiz⟩ := id hL
      go_region_with (go_at_call 130; refine (no_any _ _ _ _ _ _ _).mono ?_; rintro e w2 ⟨rfl, h2⟩; obtain ⟨-, -, -, ⟨r0, r1, r2, r3, q0, q1, q2, q3⟩, ⟨e0, e1, e2, e3, e4, e5, ez⟩, ⟨d0, d1, d2, d3, d4, d5, dz⟩, hbX, -⟩ := hKeep _ (Below.trans (Below.drew (Below.refl _ _)) h2); have ez0 := ez 0 (by omega); have ez1 := ez 1 (by omega); have ez2 := ez 2 (by omega); have ez3 := ez 3 (by omega); have ez4 := ez 4 (by omega); have ez5 := ez 5 (by omega))
      all_goals go_wp2_with fail
      all_goals
        (try simp only [Exit.inBlock, Exit.then])
        refine bodyPost_ret (v := .tuple #[rdV s (p : Int) 43 (p : Int), fdV 0 0 0 false ⟨#[]⟩ none 0 0]) (by simp [results, Tryz.results110, go_sem, r0, r1, r2, r3, e0, e1, e2, e3, e4, e5]) rfl ?_
        with_reducible first | exact HFin.out _ (set6B (set4B hbX _ (by omega) _ _ _ _) _ (by omega) _ _ _ _ _ _) | exact HFin.out _ (set4B (set6B hbX _ (by omega) _ _ _ _ _ _) _ (by omega) _ _ _ _) | exact HFin.out _ (set6B (set4B hbX _ (by omega) _ _ _ _) _ (by omega) _ _ _ _ _ _).drew | exact HFin.out _ (set4B (set6B hbX _ (by omega) _ _ _ _ _ _) _ (by omega) _ _ _ _).drew
    · have hx : rdOne s.data.toList .b p = .ok (.mk 0 0 0 (C == 1) (⟨#[]⟩ : ByteArray).data.toList []) (p + 1) := by simp only [rdOne, hget, hC']; rw [if_neg hc]
      have hd1 : decide (1 < (C : Int)) = false := decide_eq_false (by omega)
      have hP1 : IntKind.i64.wrap ((p : Int) + 1) = (p : Int) + 1 := by go_arith
      have HFin := Lib.hid (show ∀ w', Below w.heap.size w w' → OneEnds s .b p w (.returned (.tuple #[rdV s ((p : Int) + 1) 0 0, fdV 0 0 0 (C == 1) ⟨#[]⟩ none 0 0])) w' from fun w' hb => one_ok hx hb)
      have hCC : ((C : Int) == 1) = (C == 1) := by rw [Bool.eq_iff_iff]; simp; omega
      clear hget hx hC'
      go_wp2_with fail
      go_region_with (fail)
      all_goals go_wp2_with fail
      all_goals
        (try simp only [Exit.inBlock, Exit.then])
        refine bodyPost_ret (v := .tuple #[rdV s ((p : Int) + 1) 0 0, fdV 0 0 0 (C == 1) ⟨#[]⟩ none 0 0]) (by simp [results, Tryz.results110, go_sem, hCC]) rfl ?_
        exact HFin.out _ (below_5 _ _ _ _ _ _).drew
  · have hget : s.data.toList[p]? = none := by rw [List.getElem?_eq_none]; omega
    have hx : rdOne s.data.toList .b p = .bad 42 p := by simp only [rdOne, hget]
    have hge : decide ((s.size : Int) ≤ (p : Int)) = true := decide_eq_true (by omega)
    have HFin := Lib.hid (show ∀ w', Below w.heap.size w w' → OneEnds s .b p w (.returned (.tuple #[rdV s (p : Int) 42 (p : Int), fdV 0 0 0 false ⟨#[]⟩ none 0 0])) w' from fun w' hb => one_bad hx hb p 0 0 0 false ⟨#[]⟩ none 0 0)
    clear hget hx
    go_wp2_with fail
    have hL := HL.out
    obtain ⟨wl, hwl⟩ : ∃ wl, wl = (((((w.alloc (R0 s p)).alloc (I0 98 ia n ic)).alloc R00).alloc F00).alloc F00) := ⟨_, rfl⟩
    rw [← hwl] at hL ⊢
    have hKeep : ∀ w', Below wl.heap.size wl w' → Laid1 w w' s p 98 ia n ic := fun w' h => hL.below h
    clear hwl
    obtain ⟨⟨c0, c1, c2, c3, f0, f1, f2, f3⟩, -, -, -, -, ⟨d0, d1, d2, d3, d4, d5, dz⟩, hbel, hsiz⟩ := id hL
    go_region_with (go_at_call 130; refine (no_any _ _ _ _ _ _ _).mono ?_; rintro e w2 ⟨rfl, h2⟩; obtain ⟨-, -, -, ⟨r0, r1, r2, r3, q0, q1, q2, q3⟩, ⟨e0, e1, e2, e3, e4, e5, ez⟩, ⟨d0, d1, d2, d3, d4, d5, dz⟩, hbX, -⟩ := hKeep _ (Below.trans (Below.drew (Below.refl _ _)) h2); have ez0 := ez 0 (by omega); have ez1 := ez 1 (by omega); have ez2 := ez 2 (by omega); have ez3 := ez 3 (by omega); have ez4 := ez 4 (by omega); have ez5 := ez 5 (by omega))
    all_goals go_wp2_with fail
    all_goals
      (try simp only [Exit.inBlock, Exit.then])
      refine bodyPost_ret (v := .tuple #[rdV s (p : Int) 42 (p : Int), fdV 0 0 0 false ⟨#[]⟩ none 0 0]) (by simp [results, Tryz.results110, go_sem, r0, r1, r2, r3, e0, e1, e2, e3, e4, e5]) rfl ?_
      with_reducible first | exact HFin.out _ (set6B (set4B hbX _ (by omega) _ _ _ _) _ (by omega) _ _ _ _ _ _) | exact HFin.out _ (set4B (set6B hbX _ (by omega) _ _ _ _ _ _) _ (by omega) _ _ _ _) | exact HFin.out _ (set6B (set4B hbX _ (by omega) _ _ _ _) _ (by omega) _ _ _ _ _ _).drew | exact HFin.out _ (set4B (set6B hbX _ (by omega) _ _ _ _ _ _) _ (by omega) _ _ _ _).drew
end Go.Proofs.YtidfgjgbigedeaaGreatDoor
end

section
namespace Go.Proofs.YtidfgjgbigedeaaGreatDoor
open Go.RowKit Go.Lib Go.Wq
set_option linter.unusedVariables false
set_option linter.unusedSimpArgs false
set_option maxRecDepth 100000

theorem AtEnd.below {w wx w' : World} {b2 b4 b5 b7 : Nat} {s : ByteArray} {p e q : Int} {u : Nat} {i : Int} {f : Nat} {bb : Bool} {t : ByteArray} {ra : Option Addr} {rn rc : Nat} (h : AtEnd w wx b2 b4 b5 b7 s p e q u i f bb t ra rn rc)
    (b : Below wx.heap.size wx w') (h2 : b2 < wx.heap.size) (h4 : b4 < wx.heap.size) (h5 : b5 < wx.heap.size) (h7 : b7 < wx.heap.size) : AtEnd w w' b2 b4 b5 b7 s p e q u i f bb t ra rn rc :=
  ⟨h.rd.below b h2, h.fd.below b h7, h.rr.below b h4, h.rf.below b h5, h.bel.trans (b.mono (by omega))⟩
theorem ext_list (s : ByteArray) (q n : Nat) : (s.extract q (q + n)).data.toList = (s.data.toList.drop q).take n := by
  rw [ByteArray.data_extract, Array.toList_extract, List.extract_eq_take_drop]
  congr 1; omega
theorem varGo_bad {s : List UInt8} {fr0 er fr : Nat} : ∀ (f i p n : Nat), varGo s fr0 f i p n = .bad er fr → er = 42 ∨ er = 43 := by
  intro f
  induction f with
  | zero => intro i p n h; simp only [varGo, R.bad.injEq] at h; exact Or.inr h.1.symm
  | succ f ih =>
    intro i p n h
    simp only [varGo] at h
    cases hc : s[p]? with
    | none => rw [hc] at h; simp only [R.bad.injEq] at h; exact Or.inl h.1.symm
    | some c =>
      rw [hc] at h
      simp only [] at h
      split at h
      · simp only [R.bad.injEq] at h; exact Or.inr h.1.symm
      · split at h
        · split at h
          · simp only [R.bad.injEq] at h; exact Or.inr h.1.symm
          · simp at h
        · exact ih _ _ _ h
theorem rdVar_bad {s : List UInt8} {p er fr : Nat} (h : rdVar s p = .bad er fr) : er = 42 ∨ er = 43 := varGo_bad _ _ _ _ h

set_option maxHeartbeats 4000000 in
theorem one_t (s : ByteArray) : OneSays s .t := by
  intro p ia n ic S w hp hs _ _ _
  have HL := Lib.hid (laid1 w s p 116 ia n ic)
  have hl : s.data.toList.length = s.size := Array.length_toList
  have HV := Lib.hid (fun w => varint_any s p (by omega) hp w)
  have hst := d_store
  show Calls _ _ #[rdV s (p : Int) 0 0, .agg #[.int .u8 116, .slice ia n ic]] w _
  go_enter Tryz.func110, Tryz.ntmps110
  go_wp2_with fail
  refine (HV.out _).mono ?_
  rintro e w2 ⟨hb2, hcase⟩
  obtain ⟨hrd, -, -, hrr, hrf, hfd, hbel, hsiz⟩ := HL.out.below hb2
  generalize hB2 : w.heap.size = b2 at *
  generalize hB3 : b2 + 1 = b3 at *
  generalize hB4 : b3 + 1 = b4 at *
  generalize hB5 : b4 + 1 = b5 at *
  generalize hB7 : b5 + 1 = b7 at *
  have HN := Lib.hid (show b7 ≠ b2 ∧ b4 ≠ b2 ∧ b5 ≠ b2 ∧ b4 ≠ b7 ∧ b5 ≠ b7 ∧ b4 ≠ b5 ∧ b2 ≤ b4 ∧ b2 ≤ b5 ∧ b2 ≤ b7 by omega)
  cases hr : rdVar s.data.toList p with
  | ok n' q =>
    rw [hr] at hcase
    obtain rfl := hcase
    obtain ⟨hn64, -, hqs, -⟩ := rdVar_only hr
    rw [hl] at hqs
    have hsub : IntKind.i64.wrap ((s.size : Int) - (q : Int)) = (s.size : Int) - (q : Int) := by go_arith
    have hsub2 : IntKind.u64.wrap ((s.size : Int) - (q : Int)) = (s.size : Int) - (q : Int) := by rw [IntKind.wrap_u64]; omega
    have HX0 := Lib.hid (show AtEnd w ((((w2.setCell ⟨b2, 0, none⟩ (.string s)).setCell ⟨b2, 1, none⟩ (.int .i64 (q : Int))).setCell ⟨b2, 2, none⟩ (.int .i64 0)).setCell ⟨b2, 3, none⟩ (.int .i64 0)) b2 b4 b5 b7 s q 0 0 0 0 0 false ⟨#[]⟩ none 0 0 from
      ⟨hrd.set, hfd.other4 HN.out.1 _ _ _ _, hrr.other4 HN.out.2.1 _ _ _ _, hrf.other4 HN.out.2.2.1 _ _ _ _, set4B hbel b2 (Nat.le_refl _) _ _ _ _⟩)
    have hszs : w2.heap.size = ((((w2.setCell ⟨b2, 0, none⟩ (.string s)).setCell ⟨b2, 1, none⟩ (.int .i64 (q : Int))).setCell ⟨b2, 2, none⟩ (.int .i64 0)).setCell ⟨b2, 3, none⟩ (.int .i64 0)).heap.size := by simp
    by_cases hlong : s.size < q + n'
    · have hx : rdOne s.data.toList .t p = .bad 42 p := by simp only [rdOne, hr]; rw [if_pos (by omega)]
      have hgt : decide ((s.size : Int) - (q : Int) < (n' : Int)) = true := decide_eq_true (by omega)
      have HFin := Lib.hid (show ∀ w', Below b2 w w' → OneEnds s .t p w (.returned (.tuple #[rdV s (q : Int) 42 (p : Int), fdV 0 0 0 false ⟨#[]⟩ none 0 0])) w' from fun w' hb => one_bad hx (by rw [hB2]; exact hb) q 0 0 0 false ⟨#[]⟩ none 0 0)
      clear hx hr
      obtain ⟨c0, c1, c2, c3, f0, f1, f2, f3⟩ := id hrd
      obtain ⟨d0, d1, d2, d3, d4, d5, dz⟩ := id hfd
      have dz0 := dz 0 (by omega)
      have dz1 := dz 1 (by omega)
      have dz2 := dz 2 (by omega)
      have dz3 := dz 3 (by omega)
      have dz4 := dz 4 (by omega)
      have n27 : b2 ≠ b7 := fun h => HN.out.1 h.symm
      have n72 : b7 ≠ b2 := HN.out.1
      clear hrd hrr hrf hfd dz
      go_wp2_with fail
      generalize ((((w2.setCell ⟨b2, 0, none⟩ (.string s)).setCell ⟨b2, 1, none⟩ (.int .i64 (q : Int))).setCell ⟨b2, 2, none⟩ (.int .i64 0)).setCell ⟨b2, 3, none⟩ (.int .i64 0)) = wl at *
      have hKeep : ∀ w', Below wl.heap.size wl w' → AtEnd w w' b2 b4 b5 b7 s q 0 0 0 0 0 false ⟨#[]⟩ none 0 0 := fun w' h => HX0.out.below h (by omega) (by omega) (by omega) (by omega)
      clear c0 c1 c2 c3 f0 f1 f2 f3 d0 d1 d2 d3 d4 d5
      obtain ⟨⟨c0, c1, c2, c3, f0, f1, f2, f3⟩, ⟨d0, d1, d2, d3, d4, d5, dz⟩, -, -, -⟩ := id HX0.out
      obtain ⟨-, m42, m52, m47, m57, m45, k24, k25, -⟩ := HN.out
      have m54 : b5 ≠ b4 := fun h => m45 h.symm
      go_region_with (go_at_call 130; refine (no_any _ _ _ _ _ _ _).mono ?_; rintro e w3 ⟨rfl, h2⟩; obtain ⟨-, ⟨d0, d1, d2, d3, d4, d5, dz⟩, ⟨r0, r1, r2, r3, q0, q1, q2, q3⟩, ⟨e0, e1, e2, e3, e4, e5, ez⟩, hbX⟩ := hKeep _ (Below.trans (Below.drew (Below.refl _ _)) h2); have ez0 := ez 0 (by omega); have ez1 := ez 1 (by omega); have ez2 := ez 2 (by omega); have ez3 := ez 3 (by omega); have ez4 := ez 4 (by omega); have ez5 := ez 5 (by omega))
      all_goals go_wp2_with fail
      all_goals
        (try simp only [Exit.inBlock, Exit.then])
        refine bodyPost_ret (v := .tuple #[rdV s (q : Int) 42 (p : Int), fdV 0 0 0 false ⟨#[]⟩ none 0 0]) (by simp [results, Tryz.results110, go_sem, r0, r1, r2, r3, e0, e1, e2, e3, e4, e5, m45, m54]) rfl ?_
        with_reducible first | exact HFin.out _ (set6B (set4B hbX _ k24 _ _ _ _) _ k25 _ _ _ _ _ _) | exact HFin.out _ (set4B (set6B hbX _ k25 _ _ _ _ _ _) _ k24 _ _ _ _) | exact HFin.out _ (set6B (set4B hbX _ k24 _ _ _ _) _ k25 _ _ _ _ _ _).drew | exact HFin.out _ (set4B (set6B hbX _ k25 _ _ _ _ _ _) _ k24 _ _ _ _).drew
    · have hx : rdOne s.data.toList .t p = .ok (.mk 0 0 0 false (s.extract q (q + n')).data.toList []) (q + n') := by simp only [rdOne, hr]; rw [if_neg (by omega), ext_list]
      have hgt : decide ((s.size : Int) - (q : Int) < (n' : Int)) = false := decide_eq_false (by omega)
      have hw1 : IntKind.i64.wrap (n' : Int) = (n' : Int) := by go_arith
      have hw2 : IntKind.i64.wrap ((q : Int) + (n' : Int)) = (q : Int) + (n' : Int) := by go_arith
      have hle1 : (q : Int) + (n' : Int) ≤ (s.size : Int) := by omega
      have hle2 : q + n' ≤ s.size := by omega
      obtain ⟨E, hE⟩ : ∃ E : Nat, (q : Int) + (n' : Int) = (E : Int) := ⟨q + n', by omega⟩
      have hE2 : q + n' = E := by omega
      rw [hE2] at hx
      have HFin := Lib.hid (show ∀ w', Below b2 w w' → OneEnds s .t p w (.returned (.tuple #[rdV s (E : Int) 0 0, fdV 0 0 0 false (s.extract q E) none 0 0])) w' from fun w' hb => one_ok hx (by rw [hB2]; exact hb))
      clear hx hr
      have hqE : (q : Int) ≤ (E : Int) := by omega
      have hEs : (E : Int) ≤ (s.size : Int) := by omega
      have hqE' : q ≤ E := by omega
      have hEs' : E ≤ s.size := by omega
      obtain ⟨c0, c1, c2, c3, f0, f1, f2, f3⟩ := id hrd
      obtain ⟨d0, d1, d2, d3, d4, d5, dz⟩ := id hfd
      have dz0 := dz 0 (by omega)
      have dz1 := dz 1 (by omega)
      have dz2 := dz 2 (by omega)
      have dz3 := dz 3 (by omega)
      have dz4 := dz 4 (by omega)
      have n27 : b2 ≠ b7 := fun h => HN.out.1 h.symm
      have n72 : b7 ≠ b2 := HN.out.1
      clear hrd hrr hrf hfd dz
      go_wp2_with fail
      have HX := Lib.hid (show AtEnd w ((((((w2.setCell ⟨b2, 0, none⟩ (.string s)).setCell ⟨b2, 1, none⟩ (.int .i64 (q : Int))).setCell ⟨b2, 2, none⟩ (.int .i64 0)).setCell ⟨b2, 3, none⟩ (.int .i64 0)).setCell ⟨b7, 4, none⟩ (.string (s.extract q E))).setCell ⟨b2, 1, none⟩ (.int .i64 (E : Int))) b2 b4 b5 b7 s E 0 0 0 0 0 false (s.extract q E) none 0 0 from
        ⟨(HX0.out.rd.other n27 _ _).move, HX0.out.fd.setT.other n72 _ _, (HX0.out.rr.other HN.out.2.2.2.1 _ _).other HN.out.2.1 _ _, (HX0.out.rf.other HN.out.2.2.2.2.1 _ _).other HN.out.2.2.1 _ _, (HX0.out.bel.setCell HN.out.2.2.2.2.2.2.2.2 _).setCell (Nat.le_refl _) _⟩)
      clear c0 c1 c2 c3 f0 f1 f2 f3 d0 d1 d2 d3 d4 d5 dz0 dz1 dz2 dz3 dz4
      generalize (((((w2.setCell ⟨b2, 0, none⟩ (.string s)).setCell ⟨b2, 1, none⟩ (.int .i64 (q : Int))).setCell ⟨b2, 2, none⟩ (.int .i64 0)).setCell ⟨b2, 3, none⟩ (.int .i64 0)).setCell ⟨b7, 4, none⟩ (.string (s.extract q E))).setCell ⟨b2, 1, none⟩ (.int .i64 (E : Int)) = wX at *
      obtain ⟨⟨c0, c1, c2, c3, f0, f1, f2, f3⟩, ⟨d0, d1, d2, d3, d4, d5, dz⟩, ⟨r0, r1, r2, r3, q0, q1, q2, q3⟩, ⟨e0, e1, e2, e3, e4, e5, ez⟩, hbX⟩ := id HX.out
      have ez0 := ez 0 (by omega)
      have ez1 := ez 1 (by omega)
      have ez2 := ez 2 (by omega)
      have ez3 := ez 3 (by omega)
      have ez4 := ez 4 (by omega)
      have ez5 := ez 5 (by omega)
      clear ez dz
      obtain ⟨-, m42, m52, m47, m57, m45, k24, k25, -⟩ := HN.out
      have m54 : b5 ≠ b4 := fun h => m45 h.symm
      go_region_with (fail)
      all_goals go_wp2_with fail
      all_goals
        (try simp only [Exit.inBlock, Exit.then])
        refine bodyPost_ret (v := .tuple #[rdV s (E : Int) 0 0, fdV 0 0 0 false (s.extract q E) none 0 0]) (by simp [results, Tryz.results110, go_sem, r0, r1, r2, r3, e0, e1, e2, e3, e4, e5, m45, m54]) rfl ?_
        with_reducible first | exact HFin.out _ (set6B (set4B hbX b4 k24 _ _ _ _) b5 k25 _ _ _ _ _ _).drew | exact HFin.out _ (set4B (set6B hbX b5 k25 _ _ _ _ _ _) b4 k24 _ _ _ _).drew
  | bad er fr =>
    rw [hr] at hcase
    obtain ⟨pa, rfl⟩ := hcase
    have her : ((er : Int) == 0) = false := by
      rcases rdVar_bad hr with rfl | rfl <;> rfl
    have her2 : er ≠ 0 := by
      rcases rdVar_bad hr with rfl | rfl <;> decide
    have hx : rdOne s.data.toList .t p = .bad er fr := by simp only [rdOne, hr]
    have HFin := Lib.hid (show ∀ w', Below b2 w w' → OneEnds s .t p w (.returned (.tuple #[rdV s (pa : Int) (er : Int) (fr : Int), fdV 0 0 0 false ⟨#[]⟩ none 0 0])) w' from fun w' hb => one_bad hx (by rw [hB2]; exact hb) pa 0 0 0 false ⟨#[]⟩ none 0 0)
    clear hx
    have HX := Lib.hid (show AtEnd w ((((w2.setCell ⟨b2, 0, none⟩ (.string s)).setCell ⟨b2, 1, none⟩ (.int .i64 (pa : Int))).setCell ⟨b2, 2, none⟩ (.int .i64 (er : Int))).setCell ⟨b2, 3, none⟩ (.int .i64 (fr : Int))) b2 b4 b5 b7 s pa er fr 0 0 0 false ⟨#[]⟩ none 0 0 from
      ⟨hrd.set, hfd.other4 HN.out.1 _ _ _ _, hrr.other4 HN.out.2.1 _ _ _ _, hrf.other4 HN.out.2.2.1 _ _ _ _, set4B hbel b2 (Nat.le_refl _) _ _ _ _⟩)
    obtain ⟨c0, c1, c2, c3, f0, f1, f2, f3⟩ := id hrd
    obtain ⟨d0, d1, d2, d3, d4, d5, dz⟩ := id hfd
    have dz0 := dz 0 (by omega)
    have dz1 := dz 1 (by omega)
    have dz2 := dz 2 (by omega)
    have dz3 := dz 3 (by omega)
    have dz4 := dz 4 (by omega)
    have n27 : b2 ≠ b7 := fun h => HN.out.1 h.symm
    have n72 : b7 ≠ b2 := HN.out.1
    clear hrd hrr hrf hfd dz
    go_wp2_with fail
    generalize ((((w2.setCell ⟨b2, 0, none⟩ (.string s)).setCell ⟨b2, 1, none⟩ (.int .i64 (pa : Int))).setCell ⟨b2, 2, none⟩ (.int .i64 (er : Int))).setCell ⟨b2, 3, none⟩ (.int .i64 (fr : Int))) = wX at *
    obtain ⟨⟨c0, c1, c2, c3, f0, f1, f2, f3⟩, ⟨d0, d1, d2, d3, d4, d5, dz⟩, ⟨r0, r1, r2, r3, q0, q1, q2, q3⟩, ⟨e0, e1, e2, e3, e4, e5, ez⟩, hbX⟩ := id HX.out
    have ez0 := ez 0 (by omega)
    have ez1 := ez 1 (by omega)
    have ez2 := ez 2 (by omega)
    have ez3 := ez 3 (by omega)
    have ez4 := ez 4 (by omega)
    have ez5 := ez 5 (by omega)
    clear ez dz
    obtain ⟨-, m42, m52, m47, m57, m45, k24, k25, -⟩ := HN.out
    have m54 : b5 ≠ b4 := fun h => m45 h.symm
    go_region_with (fail)
    all_goals go_wp2_with fail
    all_goals
      (try simp only [Exit.inBlock, Exit.then])
      refine bodyPost_ret (v := .tuple #[rdV s (pa : Int) (er : Int) (fr : Int), fdV 0 0 0 false ⟨#[]⟩ none 0 0]) (by simp [results, Tryz.results110, go_sem, r0, r1, r2, r3, e0, e1, e2, e3, e4, e5, m45, m54]) rfl ?_
      with_reducible first | exact HFin.out _ (set6B (set4B hbX b4 k24 _ _ _ _) b5 k25 _ _ _ _ _ _).drew | exact HFin.out _ (set4B (set6B hbX b5 k25 _ _ _ _ _ _) b4 k24 _ _ _ _).drew
end Go.Proofs.YtidfgjgbigedeaaGreatDoor
end
