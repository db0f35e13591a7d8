/- The document's own reader: all fields, one behind the other. -/
import Derived.Test.YtidfgjgbigedeaaGreatDoorWsG
import Derived.Test.YtidfgjgbigedeaaGreatDoorWsC
import Derived.Deep.DeepCutAuto
namespace Go.Proofs.YtidfgjgbigedeaaGreatDoor
open Go.RowKit Go.Lib Go.Wq
set_option linter.unusedVariables false
set_option linter.unusedSimpArgs false
set_option maxRecDepth 100000

theorem one_all (s : ByteArray) (it : It) (h : ∀ its, it = .l its → AllSays s its) : OneSays s it := by
  cases it with
  | u => exact one_u s
  | i => exact one_i s
  | f => exact one_f s
  | b => exact one_b s
  | t => exact one_t s
  | l its => exact one_l s its (h its rfl)
theorem infoF : ∃ (i : TypeInfo) (z : Value), Tryz.prog.info? 57 = some i ∧ i.zero = some z ∧ i.size = 6 ∧ i.bytes = 72 ∧ z.cells.size = 6 := by
  refine ⟨_, _, rfl, rfl, ?_, ?_, ?_⟩ <;> kernel_rfl
/-- One's end, in one word. -/
theorem one_case {s : ByteArray} {it : It} {Q : Nat} {w w' : World} {e : Ending} (h : OneEnds s it Q w e w') : Below w.heap.size w w' ∧ ∃ (Q' er' fr' u : Nat) (i : Int) (f : Nat) (bb : Bool) (t : ByteArray) (la : Option Addr) (ln lc : Nat), e = .returned (.tuple #[rdV s Q' er' fr', fdV u i f bb t la ln lc]) ∧
    ((er' = 0 ∧ fr' = 0 ∧ ∃ l, rdOne s.data.toList it Q = .ok (.mk u i f bb t.data.toList l) Q' ∧ RowsS w' (New w.heap.size w') l la ln) ∨ (er' ≠ 0 ∧ rdOne s.data.toList it Q = .bad er' fr')) := by
  obtain ⟨hb, hc⟩ := h
  refine ⟨hb, ?_⟩
  cases hg : rdOne s.data.toList it Q with
  | ok x Q' =>
    rw [hg] at hc
    obtain ⟨v, rfl, u, i, f, bb, t, l, ra, rn, rc, rfl, rfl, hr⟩ := hc
    exact ⟨Q', 0, 0, u, i, f, bb, t, ra, rn, rc, rfl, Or.inl ⟨rfl, rfl, l, rfl, hr⟩⟩
  | bad er fr =>
    rw [hg] at hc
    obtain ⟨at_, u, i, f, bb, t, ra, rn, rc, rfl⟩ := hc
    exact ⟨at_, er, fr, u, i, f, bb, t, ra, rn, rc, rfl, Or.inr ⟨by rcases rdOne_bad _ _ _ _ hg with rfl | rfl <;> decide, rfl⟩⟩
theorem F6.flat {w : World} {b u : Nat} {i : Int} {f : Nat} {bb : Bool} {t : ByteArray} {ra : Option Addr} {rn rc : Nat} (h : F6 w b u i f bb t ra rn rc) :
    w.cell? ⟨b, 0, none⟩ = some (.int .u64 (u : Int)) ∧ w.cell? ⟨b, 1, none⟩ = some (.int .i64 i) ∧ w.cell? ⟨b, 2, none⟩ = some (.float .f64 f) ∧ w.cell? ⟨b, 3, none⟩ = some (.bool bb) ∧ w.cell? ⟨b, 4, none⟩ = some (.string t) ∧ w.cell? ⟨b, 5, none⟩ = some (.slice ra rn rc) ∧
    w.frozen? ⟨b, 0, none⟩ = false ∧ w.frozen? ⟨b, 1, none⟩ = false ∧ w.frozen? ⟨b, 2, none⟩ = false ∧ w.frozen? ⟨b, 3, none⟩ = false ∧ w.frozen? ⟨b, 4, none⟩ = false ∧ w.frozen? ⟨b, 5, none⟩ = false :=
  ⟨h.c0, h.c1, h.c2, h.c3, h.c4, h.c5, h.fz 0 (by omega), h.fz 1 (by omega), h.fz 2 (by omega), h.fz 3 (by omega), h.fz 4 (by omega), h.fz 5 (by omega)⟩
theorem R4.flat {w : World} {b : Nat} {s : ByteArray} {p e q : Int} (h : R4 w b s p e q) : w.cell? ⟨b, 0, none⟩ = some (.string s) ∧ w.cell? ⟨b, 1, none⟩ = some (.int .i64 p) ∧ w.cell? ⟨b, 2, none⟩ = some (.int .i64 e) ∧ w.cell? ⟨b, 3, none⟩ = some (.int .i64 q) ∧
    w.frozen? ⟨b, 0, none⟩ = false ∧ w.frozen? ⟨b, 1, none⟩ = false ∧ w.frozen? ⟨b, 2, none⟩ = false ∧ w.frozen? ⟨b, 3, none⟩ = false := ⟨h.c0, h.c1, h.c2, h.c3, h.f0, h.f1, h.f2, h.f3⟩
/-- What the region's parts leave: a reader's room, a field's room, what the call told. -/
structure GA (wr W : World) (g : Nat) : Prop where
  r : R4 W g ⟨#[]⟩ 0 0 0
  lo : wr.heap.size ≤ g
  hi : g < W.heap.size
structure GB (wr W : World) (g : Nat) : Prop where
  r : F6 W g 0 0 0 false ⟨#[]⟩ none 0 0
  lo : wr.heap.size ≤ g
  hi : g < W.heap.size
structure GC (wr W : World) (lo hi : Nat) (s : ByteArray) (it : It) (Q Q' er' fr' u : Nat) (i : Int) (f : Nat) (bb : Bool) (t : ByteArray) (la : Option Addr) (ln : Nat) : Prop where
  l0 : wr.heap.size ≤ lo
  lh : lo ≤ hi
  hw : hi ≤ W.heap.size
  c : (er' = 0 ∧ fr' = 0 ∧ ∃ l, rdOne s.data.toList it Q = .ok (.mk u i f bb t.data.toList l) Q' ∧ RowsS W (fun k => lo ≤ k ∧ k < hi) l la ln) ∨ (er' ≠ 0 ∧ rdOne s.data.toList it Q = .bad er' fr')
theorem GA.next {wr W W' : World} {g : Nat} (h : GA wr W g) (b : Below W.heap.size W W') : GA wr W' g := ⟨h.r.below b h.hi, h.lo, Nat.lt_of_lt_of_le h.hi b.size⟩
theorem GB.next {wr W W' : World} {g : Nat} (h : GB wr W g) (b : Below W.heap.size W W') : GB wr W' g := ⟨h.r.below b h.hi, h.lo, Nat.lt_of_lt_of_le h.hi b.size⟩
theorem GC.move {wr W W' : World} {lo hi : Nat} {s : ByteArray} {it : It} {Q Q' er' fr' u : Nat} {i : Int} {f : Nat} {bb : Bool} {t : ByteArray} {la : Option Addr} {ln : Nat} (h : GC wr W lo hi s it Q Q' er' fr' u i f bb t la ln) (hs : W.heap.size ≤ W'.heap.size) (b : ∀ k, lo ≤ k → k < hi → W'.heap[k]? = W.heap[k]?) : GC wr W' lo hi s it Q Q' er' fr' u i f bb t la ln :=
  ⟨h.l0, h.lh, Nat.le_trans h.hw hs, h.c.imp (fun ⟨a, b1, l, c, d⟩ => ⟨a, b1, l, c, RowsS.kept (fun k hk => b k hk.1 hk.2) (fun k hk => hk) _ _ _ d⟩) id⟩
theorem GC.next {wr W W' : World} {lo hi : Nat} {s : ByteArray} {it : It} {Q Q' er' fr' u : Nat} {i : Int} {f : Nat} {bb : Bool} {t : ByteArray} {la : Option Addr} {ln : Nat} (h : GC wr W lo hi s it Q Q' er' fr' u i f bb t la ln) (b : Below W.heap.size W W') : GC wr W' lo hi s it Q Q' er' fr' u i f bb t la ln :=
  h.move b.size (fun k _ hk => b.block k (Nat.lt_of_lt_of_le hk h.hw))
theorem GA.new {wr W : World} (h : wr.heap.size ≤ W.heap.size) : GA wr (W.alloc R00) W.heap.size := ⟨R4.first W ⟨#[]⟩ 0 0 0 _, h, by simp⟩
theorem GB.new {wr W : World} (h : wr.heap.size ≤ W.heap.size) : GB wr (W.alloc F00) W.heap.size := ⟨F6.first W _, h, by simp⟩
theorem below_alloc (W : World) (o : Obj) : Below W.heap.size W (W.alloc o) := (Below.refl _ W).alloc (Nat.le_refl _) o
theorem heap4' (w : World) (b k : Nat) (hne : k ≠ b) (x y z u : Value) : ((((w.setCell ⟨b, 0, none⟩ x).setCell ⟨b, 1, none⟩ y).setCell ⟨b, 2, none⟩ z).setCell ⟨b, 3, none⟩ u).heap[k]? = w.heap[k]? := by
  rw [Below.heap_setCell _ _ _ _ hne, Below.heap_setCell _ _ _ _ hne, Below.heap_setCell _ _ _ _ hne, Below.heap_setCell _ _ _ _ hne]
theorem heap6' (w : World) (b k : Nat) (hne : k ≠ b) (x y z u v q : Value) : ((((((w.setCell ⟨b, 0, none⟩ x).setCell ⟨b, 1, none⟩ y).setCell ⟨b, 2, none⟩ z).setCell ⟨b, 3, none⟩ u).setCell ⟨b, 4, none⟩ v).setCell ⟨b, 5, none⟩ q).heap[k]? = w.heap[k]? := by
  rw [Below.heap_setCell _ _ _ _ hne, Below.heap_setCell _ _ _ _ hne, heap4' w b k hne]
theorem F6.put {w : World} {b u u' : Nat} {i i' : Int} {f f' : Nat} {bb bb' : Bool} {t t' : ByteArray} {ra ra' : Option Addr} {rn rc rn' rc' : Nat} (h : F6 w b u i f bb t ra rn rc) :
    F6 ((((((w.setCell ⟨b, 0, none⟩ (.int .u64 (u' : Int))).setCell ⟨b, 1, none⟩ (.int .i64 i')).setCell ⟨b, 2, none⟩ (.float .f64 f')).setCell ⟨b, 3, none⟩ (.bool bb')).setCell ⟨b, 4, none⟩ (.string t')).setCell ⟨b, 5, none⟩ (.slice ra' rn' rc')) b u' i' f' bb' t' ra' rn' rc' := by
  obtain ⟨c0, c1, c2, c3, c4, c5, fz⟩ := h
  exact ⟨by simp [go_sem, c0], by simp [go_sem, c1], by simp [go_sem, c2], by simp [go_sem, c3], by simp [go_sem, c4], by simp [go_sem, c5], fun j hj => by simp [go_sem, fz j hj]⟩
theorem R4.moved {w w' : World} {b : Nat} {s : ByteArray} {p e q : Int} (h : R4 w b s p e q) (x : w'.heap[b]? = w.heap[b]?) : R4 w' b s p e q :=
  ⟨(World.cell?_of_block x).trans h.c0, (World.cell?_of_block x).trans h.c1, (World.cell?_of_block x).trans h.c2, (World.cell?_of_block x).trans h.c3, (World.frozen?_of_block x).trans h.f0, (World.frozen?_of_block x).trans h.f1, (World.frozen?_of_block x).trans h.f2, (World.frozen?_of_block x).trans h.f3⟩
/-- What all's loop has. -/
structure LA (w wr : World) (b2 b4 : Nat) (s : ByteArray) (Q er fr : Nat) : Prop where
  rd : R4 wr b2 s (Q : Int) (er : Int) (fr : Int)
  rr : R4 wr b4 ⟨#[]⟩ 0 0 0
  bel : Below b2 w wr
  siz : b4 < wr.heap.size
theorem LA.below {w wr w' : World} {B b2 b4 : Nat} {s : ByteArray} {Q er fr : Nat} (h : LA w wr b2 b4 s Q er fr) (b : Below B wr w') (hs : b4 < B) (h2 : b2 < b4) : LA w w' b2 b4 s Q er fr :=
  ⟨h.rd.below b (by omega), h.rr.below b hs, h.bel.trans (b.mono (by omega)), by have := b.size; have := h.siz; omega⟩
/-- What lies there behind one's call. -/
def CutA (wr wx : World) (s : ByteArray) (it : It) (Q : Nat) (sq sf : Value) : Prop :=
  ∃ (gq gf Q' er' fr' u : Nat) (i : Int) (f : Nat) (bb : Bool) (t : ByteArray) (la : Option Addr) (ln lc : Nat), sq = .pointer (some ⟨gq, 0, none⟩) ∧ sf = .pointer (some ⟨gf, 0, none⟩) ∧ gq ≠ gf ∧ wr.heap.size ≤ gq ∧ wr.heap.size ≤ gf ∧ gq < wx.heap.size ∧ gf < wx.heap.size ∧
    R4 wx gq s Q' er' fr' ∧ F6 wx gf u i f bb t la ln lc ∧ Below wr.heap.size wr wx ∧
    ((er' = 0 ∧ fr' = 0 ∧ ∃ l, rdOne s.data.toList it Q = .ok (.mk u i f bb t.data.toList l) Q' ∧ RowsS wx (New wr.heap.size wx) l la ln) ∨ (er' ≠ 0 ∧ rdOne s.data.toList it Q = .bad er' fr'))
/-- The cut's facts, out of the parts. -/
theorem cutA_of {wr wx : World} {s : ByteArray} {it : It} {Q gq gf Q' er' fr' u lo hi : Nat} {i : Int} {f : Nat} {bb : Bool} {t : ByteArray} {la : Option Addr} {ln lc : Nat} (hb : Below wr.heap.size wr wx) (hne : gq ≠ gf) (h1 : wr.heap.size ≤ gq) (h2 : wr.heap.size ≤ gf) (h3 : gq < wx.heap.size) (h4 : gf < wx.heap.size)
    (hr : R4 wx gq s Q' er' fr') (hf : F6 wx gf u i f bb t la ln lc) (hc : GC wr wx lo hi s it Q Q' er' fr' u i f bb t la ln) : CutA wr wx s it Q (.pointer (some ⟨gq, 0, none⟩)) (.pointer (some ⟨gf, 0, none⟩)) :=
  ⟨gq, gf, Q', er', fr', u, i, f, bb, t, la, ln, lc, rfl, rfl, hne, h1, h2, h3, h4, hr, hf, hb, hc.c.imp (fun ⟨a, b, l, c, d⟩ => ⟨a, b, l, c, RowsS.kept (fun k hk => rfl) (fun k hk => ⟨Nat.le_trans hc.l0 hk.1, Nat.lt_of_lt_of_le hk.2 hc.hw⟩) _ _ _ d⟩) id⟩
/-- What all has read so far. -/
def ASo (wr : World) (b4 : Nat) (s : ByteArray) (its : List It) (p k : Nat) (Q er fr : Nat) (ra : Option Addr) (rn rc : Nat) : Prop :=
  (er = 0 ∧ fr = 0 ∧ ∃ (fs : List Fld) (xs : List Value), rn = fs.length ∧ fs.length = k ∧ k ≤ Q ∧ Q ≤ s.size ∧ wr.ownsRow (b4 + 1) 57 6 (.slice ra fs.length rc) fs.length xs ∧ FCellsS wr (Mine (b4 + 1) wr (.slice ra fs.length rc)) xs fs ∧
    rdAll s.data.toList its p = R.pre fs (rdAll s.data.toList (its.drop k) Q)) ∨
  (er ≠ 0 ∧ rdAll s.data.toList its p = .bad er fr)

set_option maxHeartbeats 8000000 in
theorem all_any (s : ByteArray) (its : List It) (HO : ∀ it ∈ its, OneSays s it) : AllSays s its := by
  intro p ia n ic S w hp hs hiok hits hS
  have hst := d_store
  have hl : s.data.toList.length = s.size := Array.length_toList
  obtain ⟨i0, z0, hi, hz0, hz1, hz2, hz3⟩ := infoF
  obtain rfl := hits.len
  have HITS := Lib.hid hits
  have HS := Lib.hid hS
  have HO2 := Lib.hid HO
  have hR1 := (R4.first w s (p : Int) 0 0 118).below ((Below.refl _ _).alloc (Nat.le_refl _) (.cells #[.string ⟨#[]⟩, .int .i64 0, .int .i64 0, .int .i64 0] 118)) (by simp)
  have hR2 := R4.first (w.alloc (.cells #[.string s, .int .i64 (p : Int), .int .i64 0, .int .i64 0] 118)) ⟨#[]⟩ 0 0 0 118
  simp only [World.size_alloc] at hR2
  have HB := Lib.hid (show LA w ((w.alloc (.cells #[.string s, .int .i64 (p : Int), .int .i64 0, .int .i64 0] 118)).alloc (.cells #[.string ⟨#[]⟩, .int .i64 0, .int .i64 0, .int .i64 0] 118)) w.heap.size (w.heap.size + 1) s p 0 0 from
    ⟨hR1, hR2, ((Below.refl _ _).alloc (Nat.le_refl _) _).alloc (by simp) _, by simp⟩)
  clear hits hS HO hR1 hR2
  show Calls _ _ #[rdV s (p : Int) 0 0, .slice ia its.length ic] w _
  go_enter Tryz.func86, Tryz.ntmps86
  go_wp2_with fail
  generalize hB2 : w.heap.size = b2 at *
  generalize hB4 : b2 + 1 = b4 at *
  go_loopw [6, 7] (fun o v wr => ∃ (k Q er fr : Nat) (ra : Option Addr) (rn rc : Nat), o = .slice ra rn rc ∧ v = .int .i64 (k : Int) ∧ k ≤ its.length ∧ LA w wr b2 b4 s Q er fr ∧ ASo wr b4 s its p k Q er fr ra rn rc) (fun _ v _ => its.length - (intOf v).toNat)
  case atStart => exact ⟨0, p, 0, 0, none, 0, 0, rfl, rfl, Nat.zero_le _, HB.out, Or.inl ⟨rfl, rfl, [], [], rfl, rfl, Nat.zero_le _, hp, World.ownsRow_nil _ _ _ _, .nil, by rw [R.pre_nil]; rfl⟩⟩
  case round =>
    obtain ⟨k, Q, er, fr, ra, rn, rc, rfl, rfl, hkn, hlb, hso⟩ := hrel
    have HLB := Lib.hid hlb
    have hsz := hlb.siz
    obtain ⟨⟨c0, c1, c2, c3, f0, f1, f2, f3⟩, ⟨r0, r1, r2, r3, q0, q1, q2, q3⟩, -, -⟩ := hlb
    have hle4 : b2 ≤ b4 := by omega
    have n24 : b2 ≠ b4 := by omega
    have n42 : b4 ≠ b2 := by omega
    by_cases hk : k < its.length
    · have hki : (k : Int) < (its.length : Int) := by omega
      rcases hso with ⟨rfl, rfl, fs, xs, rfl, rfl, hkQ, hQs, hown, hcells, hrd⟩ | ⟨her, hrd⟩
      · have HOwn := Lib.hid hown
        have HCells := Lib.hid hcells
        have HRd := Lib.hid hrd
        have hits2 : ItsZ wr S its ia its.length := ItsZ.kept (fun k hk => HLB.out.bel.block k (by have := HS.out k hk; omega)) (fun k hk => hk) _ _ _ HITS.out
        obtain ⟨bi, oi, rfl, hat⟩ := hits2.at fs.length hk
        obtain ⟨hSb, hi0, a1, n1, cc1, hi1, hin⟩ := hat.all
        have hbi : bi < b2 := HS.out _ hSb
        have hw1 : IntKind.i64.wrap ((fs.length : Int) + 1) = (fs.length : Int) + 1 := by go_arith
        have HCall := Lib.hid (fun (W : World) (hW : ∀ k, k < wr.heap.size → W.heap[k]? = wr.heap[k]?) (hWs : wr.heap.size ≤ W.heap.size) => HO2.out its[fs.length] (List.getElem_mem hk) Q a1 n1 cc1 S W hQs hs (hiok _ (List.getElem_mem hk)) (ItsZ.kept (fun k hk => hW k (by have := HS.out k hk; have := HLB.out.bel.size; omega)) (fun k hk => hk) _ _ _ hin) (fun k hk => by have := HS.out k hk; have := HLB.out.bel.size; omega))
        clear hown hcells hrd hits2 hat hin
        generalize hit : its[fs.length] = it at *
        have h2s : b2 < wr.heap.size := by omega
        have hbs : bi < wr.heap.size := by omega
        have nb1 : bi ≠ wr.heap.size := by omega
        have nb2 : wr.heap.size ≠ bi := by omega
        have nb3 : bi ≠ wr.heap.size + 1 := by omega
        have nb4 : wr.heap.size + 1 ≠ bi := by omega
        have hbs2 : bi < wr.heap.size + 1 := by omega
        have h2s2 : b2 < wr.heap.size + 1 := by omega
        have HCall2 := Lib.hid (fun (W : World) (h : Below wr.heap.size wr W) => HCall.out W (fun k hk => h.block k hk) h.size)
        have KA : ∀ w', Below wr.heap.size wr w' → (w'.cell? ⟨b2, 0, none⟩ = some (.string s) ∧ w'.cell? ⟨b2, 1, none⟩ = some (.int .i64 (Q : Int)) ∧ w'.cell? ⟨b2, 2, none⟩ = some (.int .i64 0) ∧ w'.cell? ⟨b2, 3, none⟩ = some (.int .i64 0)) ∧ (w'.cell? ⟨bi, oi + fs.length * 2, none⟩ = some (.int .u8 it.code) ∧ w'.cell? ⟨bi, oi + fs.length * 2 + 1, none⟩ = some (.slice a1 n1 cc1)) := fun w' h =>
          ⟨⟨(h.cell (p := ⟨b2, 0, none⟩) h2s).trans c0, (h.cell (p := ⟨b2, 1, none⟩) h2s).trans c1, (h.cell (p := ⟨b2, 2, none⟩) h2s).trans c2, (h.cell (p := ⟨b2, 3, none⟩) h2s).trans c3⟩, (h.cell (p := ⟨bi, _, none⟩) hbs).trans hi0, (h.cell (p := ⟨bi, _, none⟩) hbs).trans hi1⟩
        go_upto_region 5 with (fail)
        go_cut [8, 9] (fun sq sf wx => CutA wr wx s it Q sq sf)
        case first =>
          refine wp_region_held_drew (S := fun w' => Below wr.heap.size wr w') (by kernel_rfl) (Below.drew (Below.refl _ _)) (fun hHeld => ?_)
          have HB0 := Lib.hid hHeld
          obtain ⟨w0, hw0⟩ : ∃ V, V = wr.drew := ⟨_, rfl⟩
          rw [← hw0] at hHeld HB0 ⊢
          clear hw0
          refine wpAnyH_take (i := 0) (oi := _) (v := ?_) rfl (by kernel_rfl) (by kernel_rfl) (by kernel_rfl) (fun _ _ _ h => h) (Or.inl ⟨by rfl, ?_⟩) (by assumption) ?_
          rotate_left
          · intro W hSw
            obtain ⟨⟨k0, k1, k2, k3⟩, k4, k5⟩ := KA W hSw
            go_simp
            try with_reducible rfl
          (try simp only [Act.put, List.setIfInBounds_toArray, List.set_cons_zero, List.set_cons_succ])
          refine wpAnyH_take (i := 1) (oi := _) (v := ?_) rfl (by kernel_rfl) (by kernel_rfl) (by kernel_rfl) (fun _ _ _ h => h) (Or.inl ⟨by rfl, ?_⟩) (by assumption) ?_
          rotate_left
          · intro W hSw
            obtain ⟨⟨k0, k1, k2, k3⟩, k4, k5⟩ := KA W hSw
            go_simp
            try with_reducible rfl
          (try simp only [Act.put, List.setIfInBounds_toArray, List.set_cons_zero, List.set_cons_succ])
          refine wpAnyH_take (i := 2) (oi := _) (v := ?_) rfl (by kernel_rfl) (by kernel_rfl) (by kernel_rfl) (fun _ _ _ h => h) (Or.inl ⟨by rfl, ?_⟩) (by assumption) ?_
          rotate_left
          · intro W hSw
            obtain ⟨⟨k0, k1, k2, k3⟩, k4, k5⟩ := KA W hSw
            go_simp
            try with_reducible rfl
          (try simp only [Act.put, List.setIfInBounds_toArray, List.set_cons_zero, List.set_cons_succ])
          refine wpAnyH_take (i := 3) (oi := _) (v := ?_) rfl (by kernel_rfl) (by kernel_rfl) (by kernel_rfl) (fun _ _ _ h => h) (Or.inl ⟨by rfl, ?_⟩) (by assumption) ?_
          rotate_left
          · intro W hSw
            obtain ⟨⟨k0, k1, k2, k3⟩, k4, k5⟩ := KA W hSw
            go_simp
            try with_reducible rfl
          (try simp only [Act.put, List.setIfInBounds_toArray, List.set_cons_zero, List.set_cons_succ])
          refine wpAnyH_take (i := 4) (oi := _) (v := ?_) rfl (by kernel_rfl) (by kernel_rfl) (by kernel_rfl) (fun _ _ _ h => h) (Or.inl ⟨by rfl, ?_⟩) (by assumption) ?_
          rotate_left
          · intro W hSw
            obtain ⟨⟨k0, k1, k2, k3⟩, k4, k5⟩ := KA W hSw
            go_simp
            try with_reducible rfl
          (try simp only [Act.put, List.setIfInBounds_toArray, List.set_cons_zero, List.set_cons_succ])
          refine wpAnyH_ready (rs := [5, 9, 10]) (by kernel_rfl) (by simp) ?_
          refine AllReadyH.cons (o := _) rfl (fun K hK => ?_) (AllReadyH.cons (o := _) rfl (fun K hK => ?_) (AllReadyH.cons (o := _) rfl (fun K hK => ?_) AllReadyH.nil))
          · skip
            go_simp
            refine (HCall2.out _ HB0.out).mono ?_
            rintro e w3 hc3
            obtain ⟨hb3, Q', er', fr', u, i, f, bb, t, la, ln, lc, rfl, hcs⟩ := one_case hc3
            have HB3 := Lib.hid (belowNext HB0.out hb3)
            have HGC := Lib.hid (show GC wr w3 w0.heap.size w3.heap.size s it Q Q' er' fr' u i f bb t la ln from ⟨HB0.out.size, hb3.size, Nat.le_refl _, hcs⟩)
            clear hcs hc3
            go_wp2_with fail
            refine hK.out _ _ HB3.out (fun hHeld => ?_)
            clear hK K
            (try simp only [Act.put, List.setIfInBounds_toArray, List.set_cons_zero, List.set_cons_succ])
            refine wpAnyH_take (i := 6) (oi := _) (v := ?_) rfl (by kernel_rfl) (by kernel_rfl) (by kernel_rfl) (fun _ _ _ h => h) (Or.inl ⟨by rfl, ?_⟩) (by assumption) ?_
            rotate_left
            · intro W hSw
              obtain ⟨⟨k0, k1, k2, k3⟩, k4, k5⟩ := KA W hSw
              go_simp
              try with_reducible rfl
            (try simp only [Act.put, List.setIfInBounds_toArray, List.set_cons_zero, List.set_cons_succ])
            refine wpAnyH_take (i := 7) (oi := _) (v := ?_) rfl (by kernel_rfl) (by kernel_rfl) (by kernel_rfl) (fun _ _ _ h => h) (Or.inl ⟨by rfl, ?_⟩) (by assumption) ?_
            rotate_left
            · intro W hSw
              obtain ⟨⟨k0, k1, k2, k3⟩, k4, k5⟩ := KA W hSw
              go_simp
              try with_reducible rfl
            (try simp only [Act.put, List.setIfInBounds_toArray, List.set_cons_zero, List.set_cons_succ])
            refine wpAnyH_take (i := 8) (oi := _) (v := ?_) rfl (by kernel_rfl) (by kernel_rfl) (by kernel_rfl) (fun _ _ _ h => h) (Or.inl ⟨by rfl, ?_⟩) (by assumption) ?_
            rotate_left
            · intro W hSw
              obtain ⟨⟨k0, k1, k2, k3⟩, k4, k5⟩ := KA W hSw
              go_simp
              try with_reducible rfl
            (try simp only [Act.put, List.setIfInBounds_toArray, List.set_cons_zero, List.set_cons_succ])
            refine wpAnyH_ready (rs := [9, 10]) (by kernel_rfl) (by simp) ?_
            refine AllReadyH.cons (o := _) rfl (fun K hK => ?_) (AllReadyH.cons (o := _) rfl (fun K hK => ?_) AllReadyH.nil)
            · skip
              go_simp
              have hbA : Below w3.heap.size w3 (w3.alloc R00) := below_alloc _ _
              have HBA := Lib.hid (belowNext HB3.out hbA)
              refine hK.out _ _ HBA.out (fun hHeld => ?_)
              clear hK K
              (try simp only [Act.put, List.setIfInBounds_toArray, List.set_cons_zero, List.set_cons_succ])
              have HGA := Lib.hid (GA.new (wr := wr) (W := w3) HB3.out.size)
              obtain ⟨WA, hWA⟩ : ∃ V, V = w3.alloc R00 := ⟨_, rfl⟩
              rw [← hWA] at hHeld hbA HBA HGA ⊢
              have HGCA := Lib.hid (HGC.out.next hbA)
              have hsA : w3.heap.size < WA.heap.size := by rw [hWA]; simp
              clear hWA
              refine wpAnyH_ready (rs := [10]) (by kernel_rfl) (by simp) ?_
              refine AllReadyH.cons (o := _) rfl (fun K hK => ?_) AllReadyH.nil
              go_simp
              have hbB : Below WA.heap.size WA (WA.alloc F00) := below_alloc _ _
              have HBB := Lib.hid (belowNext HBA.out hbB)
              refine hK.out _ _ HBB.out (fun hHeld => ?_)
              clear hK K
              (try simp only [Act.put, List.setIfInBounds_toArray, List.set_cons_zero, List.set_cons_succ])
              have HGB := Lib.hid (GB.new (wr := wr) (W := WA) HBA.out.size)
              obtain ⟨WB, hWB⟩ : ∃ V, V = WA.alloc F00 := ⟨_, rfl⟩
              rw [← hWB] at hHeld hbB HBB HGB ⊢
              have HGAB := Lib.hid (HGA.out.next hbB)
              have HGCB := Lib.hid (HGCA.out.next hbB)
              have hsB : WA.heap.size < WB.heap.size := by rw [hWB]; simp
              clear hWB
              have hne : w3.heap.size ≠ WA.heap.size := by have := hb3.size; omega
              have hnq : ∀ k, w0.heap.size ≤ k → k < w3.heap.size → k ≠ w3.heap.size := fun k h1 h2 => by omega
              have hnf : ∀ k, w0.heap.size ≤ k → k < w3.heap.size → k ≠ WA.heap.size := fun k h1 h2 => by omega
              refine wpAnyH_ready (rs := [11]) (by kernel_rfl) (by simp) ?_
              refine AllReadyH.cons (o := _) rfl (fun K hK => ?_) AllReadyH.nil
              obtain ⟨z0, z1, z2, z3, y0, y1, y2, y3⟩ := HGAB.out.r.flat
              go_simp
              have HS4 := Lib.hid (set4B HBB.out (w3.heap.size) HGAB.out.lo (.string s) (.int .i64 (Q' : Int)) (.int .i64 (er' : Int)) (.int .i64 (fr' : Int)))
              refine hK.out _ _ HS4.out (fun hHeld => ?_)
              clear hK K z0 z1 z2 z3 y0 y1 y2 y3
              have HQ4 := Lib.hid (HGAB.out.r.set (s' := s) (p' := (Q' : Int)) (e' := (er' : Int)) (q' := (fr' : Int)))
              have HF4 := Lib.hid (HGB.out.r.other4 (fun h => hne h.symm) (.string s) (.int .i64 (Q' : Int)) (.int .i64 (er' : Int)) (.int .i64 (fr' : Int)))
              have HC4 := Lib.hid (HGCB.out.move (W' := ((((WB.setCell ⟨w3.heap.size, 0, none⟩ (.string s)).setCell ⟨w3.heap.size, 1, none⟩ (.int .i64 (Q' : Int))).setCell ⟨w3.heap.size, 2, none⟩ (.int .i64 (er' : Int))).setCell ⟨w3.heap.size, 3, none⟩ (.int .i64 (fr' : Int)))) (by simp [World.setCell]) (fun k h1 h2 => heap4' _ _ _ (hnq k h1 h2) _ _ _ _))
              have hz4 : ((((WB.setCell ⟨w3.heap.size, 0, none⟩ (.string s)).setCell ⟨w3.heap.size, 1, none⟩ (.int .i64 (Q' : Int))).setCell ⟨w3.heap.size, 2, none⟩ (.int .i64 (er' : Int))).setCell ⟨w3.heap.size, 3, none⟩ (.int .i64 (fr' : Int))).heap.size = WB.heap.size := by simp [World.setCell]
              have hq1 := HGAB.out.lo
              have hq2 := HGAB.out.hi
              have hf1 := HGB.out.lo
              have hf2 := HGB.out.hi
              generalize hWS : ((((WB.setCell ⟨w3.heap.size, 0, none⟩ (.string s)).setCell ⟨w3.heap.size, 1, none⟩ (.int .i64 (Q' : Int))).setCell ⟨w3.heap.size, 2, none⟩ (.int .i64 (er' : Int))).setCell ⟨w3.heap.size, 3, none⟩ (.int .i64 (fr' : Int))) = WS at *
              refine wpAnyH_ready (rs := [12]) (by kernel_rfl) (by simp) ?_
              refine AllReadyH.cons (o := _) rfl (fun K hK => ?_) AllReadyH.nil
              obtain ⟨x0, x1, x2, x3, x4, x5, v0, v1, v2, v3, v4, v5⟩ := HF4.out.flat
              go_simp
              have HS6 := Lib.hid (set6B HS4.out (WA.heap.size) hf1 (.int .u64 (u : Int)) (.int .i64 i) (.float .f64 f) (.bool bb) (.string t) (.slice la ln lc))
              refine hK.out _ _ HS6.out (fun hHeld => ?_)
              clear hK K x0 x1 x2 x3 x4 x5 v0 v1 v2 v3 v4 v5
              refine wpAnyH_done (by kernel_rfl) ?_ _
              have HCUT := Lib.hid (cutA_of HS6.out hne hq1 hf1 (by simp [World.setCell]; omega) (by simp [World.setCell]; omega) (HQ4.out.moved (heap6' _ _ _ hne _ _ _ _ _ _)) HF4.out.put (HC4.out.move (by simp [World.setCell]) (fun k h1 h2 => heap6' _ _ _ (hnf k h1 h2) _ _ _ _ _ _)))
              go_wp2_with fail
              go_meet
              exact HCUT.out
            · skip
              go_simp
              have hbB : Below w3.heap.size w3 (w3.alloc F00) := below_alloc _ _
              have HBB := Lib.hid (belowNext HB3.out hbB)
              refine hK.out _ _ HBB.out (fun hHeld => ?_)
              clear hK K
              (try simp only [Act.put, List.setIfInBounds_toArray, List.set_cons_zero, List.set_cons_succ])
              have HGB := Lib.hid (GB.new (wr := wr) (W := w3) HB3.out.size)
              obtain ⟨WB, hWB⟩ : ∃ V, V = w3.alloc F00 := ⟨_, rfl⟩
              rw [← hWB] at hHeld hbB HBB HGB ⊢
              have HGCB := Lib.hid (HGC.out.next hbB)
              have hsB : w3.heap.size < WB.heap.size := by rw [hWB]; simp
              clear hWB
              refine wpAnyH_ready (rs := [9]) (by kernel_rfl) (by simp) ?_
              refine AllReadyH.cons (o := _) rfl (fun K hK => ?_) AllReadyH.nil
              go_simp
              have hbA : Below WB.heap.size WB (WB.alloc R00) := below_alloc _ _
              have HBA := Lib.hid (belowNext HBB.out hbA)
              refine hK.out _ _ HBA.out (fun hHeld => ?_)
              clear hK K
              (try simp only [Act.put, List.setIfInBounds_toArray, List.set_cons_zero, List.set_cons_succ])
              have HGA := Lib.hid (GA.new (wr := wr) (W := WB) HBB.out.size)
              obtain ⟨WA, hWA⟩ : ∃ V, V = WB.alloc R00 := ⟨_, rfl⟩
              rw [← hWA] at hHeld hbA HBA HGA ⊢
              have HGBA := Lib.hid (HGB.out.next hbA)
              have HGCA := Lib.hid (HGCB.out.next hbA)
              have hsA : WB.heap.size < WA.heap.size := by rw [hWA]; simp
              clear hWA
              have hne : WB.heap.size ≠ w3.heap.size := by have := hb3.size; omega
              have hnq : ∀ k, w0.heap.size ≤ k → k < w3.heap.size → k ≠ WB.heap.size := fun k h1 h2 => by omega
              have hnf : ∀ k, w0.heap.size ≤ k → k < w3.heap.size → k ≠ w3.heap.size := fun k h1 h2 => by omega
              refine wpAnyH_ready (rs := [11]) (by kernel_rfl) (by simp) ?_
              refine AllReadyH.cons (o := _) rfl (fun K hK => ?_) AllReadyH.nil
              obtain ⟨z0, z1, z2, z3, y0, y1, y2, y3⟩ := HGA.out.r.flat
              go_simp
              have HS4 := Lib.hid (set4B HBA.out (WB.heap.size) HGA.out.lo (.string s) (.int .i64 (Q' : Int)) (.int .i64 (er' : Int)) (.int .i64 (fr' : Int)))
              refine hK.out _ _ HS4.out (fun hHeld => ?_)
              clear hK K z0 z1 z2 z3 y0 y1 y2 y3
              have HQ4 := Lib.hid (HGA.out.r.set (s' := s) (p' := (Q' : Int)) (e' := (er' : Int)) (q' := (fr' : Int)))
              have HF4 := Lib.hid (HGBA.out.r.other4 (fun h => hne h.symm) (.string s) (.int .i64 (Q' : Int)) (.int .i64 (er' : Int)) (.int .i64 (fr' : Int)))
              have HC4 := Lib.hid (HGCA.out.move (W' := ((((WA.setCell ⟨WB.heap.size, 0, none⟩ (.string s)).setCell ⟨WB.heap.size, 1, none⟩ (.int .i64 (Q' : Int))).setCell ⟨WB.heap.size, 2, none⟩ (.int .i64 (er' : Int))).setCell ⟨WB.heap.size, 3, none⟩ (.int .i64 (fr' : Int)))) (by simp [World.setCell]) (fun k h1 h2 => heap4' _ _ _ (hnq k h1 h2) _ _ _ _))
              have hz4 : ((((WA.setCell ⟨WB.heap.size, 0, none⟩ (.string s)).setCell ⟨WB.heap.size, 1, none⟩ (.int .i64 (Q' : Int))).setCell ⟨WB.heap.size, 2, none⟩ (.int .i64 (er' : Int))).setCell ⟨WB.heap.size, 3, none⟩ (.int .i64 (fr' : Int))).heap.size = WA.heap.size := by simp [World.setCell]
              have hq1 := HGA.out.lo
              have hq2 := HGA.out.hi
              have hf1 := HGBA.out.lo
              have hf2 := HGBA.out.hi
              generalize hWS : ((((WA.setCell ⟨WB.heap.size, 0, none⟩ (.string s)).setCell ⟨WB.heap.size, 1, none⟩ (.int .i64 (Q' : Int))).setCell ⟨WB.heap.size, 2, none⟩ (.int .i64 (er' : Int))).setCell ⟨WB.heap.size, 3, none⟩ (.int .i64 (fr' : Int))) = WS at *
              refine wpAnyH_ready (rs := [12]) (by kernel_rfl) (by simp) ?_
              refine AllReadyH.cons (o := _) rfl (fun K hK => ?_) AllReadyH.nil
              obtain ⟨x0, x1, x2, x3, x4, x5, v0, v1, v2, v3, v4, v5⟩ := HF4.out.flat
              go_simp
              have HS6 := Lib.hid (set6B HS4.out (w3.heap.size) hf1 (.int .u64 (u : Int)) (.int .i64 i) (.float .f64 f) (.bool bb) (.string t) (.slice la ln lc))
              refine hK.out _ _ HS6.out (fun hHeld => ?_)
              clear hK K x0 x1 x2 x3 x4 x5 v0 v1 v2 v3 v4 v5
              refine wpAnyH_done (by kernel_rfl) ?_ _
              have HCUT := Lib.hid (cutA_of HS6.out hne hq1 hf1 (by simp [World.setCell]; omega) (by simp [World.setCell]; omega) (HQ4.out.moved (heap6' _ _ _ hne _ _ _ _ _ _)) HF4.out.put (HC4.out.move (by simp [World.setCell]) (fun k h1 h2 => heap6' _ _ _ (hnf k h1 h2) _ _ _ _ _ _)))
              go_wp2_with fail
              go_meet
              exact HCUT.out
          · skip
            go_simp
            have hbA : Below w0.heap.size w0 (w0.alloc R00) := below_alloc _ _
            have HBA := Lib.hid (belowNext HB0.out hbA)
            refine hK.out _ _ HBA.out (fun hHeld => ?_)
            clear hK K
            (try simp only [Act.put, List.setIfInBounds_toArray, List.set_cons_zero, List.set_cons_succ])
            have HGA := Lib.hid (GA.new (wr := wr) (W := w0) HB0.out.size)
            obtain ⟨WA, hWA⟩ : ∃ V, V = w0.alloc R00 := ⟨_, rfl⟩
            rw [← hWA] at hHeld hbA HBA HGA ⊢
            have hsA : w0.heap.size < WA.heap.size := by rw [hWA]; simp
            clear hWA
            refine wpAnyH_ready (rs := [5, 10]) (by kernel_rfl) (by simp) ?_
            refine AllReadyH.cons (o := _) rfl (fun K hK => ?_) (AllReadyH.cons (o := _) rfl (fun K hK => ?_) AllReadyH.nil)
            · skip
              go_simp
              refine (HCall2.out _ HBA.out).mono ?_
              rintro e w3 hc3
              obtain ⟨hb3, Q', er', fr', u, i, f, bb, t, la, ln, lc, rfl, hcs⟩ := one_case hc3
              have HB3 := Lib.hid (belowNext HBA.out hb3)
              have HGC := Lib.hid (show GC wr w3 WA.heap.size w3.heap.size s it Q Q' er' fr' u i f bb t la ln from ⟨HBA.out.size, hb3.size, Nat.le_refl _, hcs⟩)
              have HGA3 := Lib.hid (HGA.out.next hb3)
              clear hcs hc3
              go_wp2_with fail
              refine hK.out _ _ HB3.out (fun hHeld => ?_)
              clear hK K
              (try simp only [Act.put, List.setIfInBounds_toArray, List.set_cons_zero, List.set_cons_succ])
              refine wpAnyH_take (i := 6) (oi := _) (v := ?_) rfl (by kernel_rfl) (by kernel_rfl) (by kernel_rfl) (fun _ _ _ h => h) (Or.inl ⟨by rfl, ?_⟩) (by assumption) ?_
              rotate_left
              · intro W hSw
                obtain ⟨⟨k0, k1, k2, k3⟩, k4, k5⟩ := KA W hSw
                go_simp
                try with_reducible rfl
              (try simp only [Act.put, List.setIfInBounds_toArray, List.set_cons_zero, List.set_cons_succ])
              refine wpAnyH_take (i := 7) (oi := _) (v := ?_) rfl (by kernel_rfl) (by kernel_rfl) (by kernel_rfl) (fun _ _ _ h => h) (Or.inl ⟨by rfl, ?_⟩) (by assumption) ?_
              rotate_left
              · intro W hSw
                obtain ⟨⟨k0, k1, k2, k3⟩, k4, k5⟩ := KA W hSw
                go_simp
                try with_reducible rfl
              (try simp only [Act.put, List.setIfInBounds_toArray, List.set_cons_zero, List.set_cons_succ])
              refine wpAnyH_take (i := 8) (oi := _) (v := ?_) rfl (by kernel_rfl) (by kernel_rfl) (by kernel_rfl) (fun _ _ _ h => h) (Or.inl ⟨by rfl, ?_⟩) (by assumption) ?_
              rotate_left
              · intro W hSw
                obtain ⟨⟨k0, k1, k2, k3⟩, k4, k5⟩ := KA W hSw
                go_simp
                try with_reducible rfl
              (try simp only [Act.put, List.setIfInBounds_toArray, List.set_cons_zero, List.set_cons_succ])
              refine wpAnyH_ready (rs := [10]) (by kernel_rfl) (by simp) ?_
              refine AllReadyH.cons (o := _) rfl (fun K hK => ?_) AllReadyH.nil
              go_simp
              have hbB : Below w3.heap.size w3 (w3.alloc F00) := below_alloc _ _
              have HBB := Lib.hid (belowNext HB3.out hbB)
              refine hK.out _ _ HBB.out (fun hHeld => ?_)
              clear hK K
              (try simp only [Act.put, List.setIfInBounds_toArray, List.set_cons_zero, List.set_cons_succ])
              have HGB := Lib.hid (GB.new (wr := wr) (W := w3) HB3.out.size)
              obtain ⟨WB, hWB⟩ : ∃ V, V = w3.alloc F00 := ⟨_, rfl⟩
              rw [← hWB] at hHeld hbB HBB HGB ⊢
              have HGAB := Lib.hid (HGA3.out.next hbB)
              have HGCB := Lib.hid (HGC.out.next hbB)
              have hsB : w3.heap.size < WB.heap.size := by rw [hWB]; simp
              clear hWB
              have hne : w0.heap.size ≠ w3.heap.size := by have := hb3.size; omega
              have hnq : ∀ k, WA.heap.size ≤ k → k < w3.heap.size → k ≠ w0.heap.size := fun k h1 h2 => by omega
              have hnf : ∀ k, WA.heap.size ≤ k → k < w3.heap.size → k ≠ w3.heap.size := fun k h1 h2 => by omega
              refine wpAnyH_ready (rs := [11]) (by kernel_rfl) (by simp) ?_
              refine AllReadyH.cons (o := _) rfl (fun K hK => ?_) AllReadyH.nil
              obtain ⟨z0, z1, z2, z3, y0, y1, y2, y3⟩ := HGAB.out.r.flat
              go_simp
              have HS4 := Lib.hid (set4B HBB.out (w0.heap.size) HGAB.out.lo (.string s) (.int .i64 (Q' : Int)) (.int .i64 (er' : Int)) (.int .i64 (fr' : Int)))
              refine hK.out _ _ HS4.out (fun hHeld => ?_)
              clear hK K z0 z1 z2 z3 y0 y1 y2 y3
              have HQ4 := Lib.hid (HGAB.out.r.set (s' := s) (p' := (Q' : Int)) (e' := (er' : Int)) (q' := (fr' : Int)))
              have HF4 := Lib.hid (HGB.out.r.other4 (fun h => hne h.symm) (.string s) (.int .i64 (Q' : Int)) (.int .i64 (er' : Int)) (.int .i64 (fr' : Int)))
              have HC4 := Lib.hid (HGCB.out.move (W' := ((((WB.setCell ⟨w0.heap.size, 0, none⟩ (.string s)).setCell ⟨w0.heap.size, 1, none⟩ (.int .i64 (Q' : Int))).setCell ⟨w0.heap.size, 2, none⟩ (.int .i64 (er' : Int))).setCell ⟨w0.heap.size, 3, none⟩ (.int .i64 (fr' : Int)))) (by simp [World.setCell]) (fun k h1 h2 => heap4' _ _ _ (hnq k h1 h2) _ _ _ _))
              have hz4 : ((((WB.setCell ⟨w0.heap.size, 0, none⟩ (.string s)).setCell ⟨w0.heap.size, 1, none⟩ (.int .i64 (Q' : Int))).setCell ⟨w0.heap.size, 2, none⟩ (.int .i64 (er' : Int))).setCell ⟨w0.heap.size, 3, none⟩ (.int .i64 (fr' : Int))).heap.size = WB.heap.size := by simp [World.setCell]
              have hq1 := HGAB.out.lo
              have hq2 := HGAB.out.hi
              have hf1 := HGB.out.lo
              have hf2 := HGB.out.hi
              generalize hWS : ((((WB.setCell ⟨w0.heap.size, 0, none⟩ (.string s)).setCell ⟨w0.heap.size, 1, none⟩ (.int .i64 (Q' : Int))).setCell ⟨w0.heap.size, 2, none⟩ (.int .i64 (er' : Int))).setCell ⟨w0.heap.size, 3, none⟩ (.int .i64 (fr' : Int))) = WS at *
              refine wpAnyH_ready (rs := [12]) (by kernel_rfl) (by simp) ?_
              refine AllReadyH.cons (o := _) rfl (fun K hK => ?_) AllReadyH.nil
              obtain ⟨x0, x1, x2, x3, x4, x5, v0, v1, v2, v3, v4, v5⟩ := HF4.out.flat
              go_simp
              have HS6 := Lib.hid (set6B HS4.out (w3.heap.size) hf1 (.int .u64 (u : Int)) (.int .i64 i) (.float .f64 f) (.bool bb) (.string t) (.slice la ln lc))
              refine hK.out _ _ HS6.out (fun hHeld => ?_)
              clear hK K x0 x1 x2 x3 x4 x5 v0 v1 v2 v3 v4 v5
              refine wpAnyH_done (by kernel_rfl) ?_ _
              have HCUT := Lib.hid (cutA_of HS6.out hne hq1 hf1 (by simp [World.setCell]; omega) (by simp [World.setCell]; omega) (HQ4.out.moved (heap6' _ _ _ hne _ _ _ _ _ _)) HF4.out.put (HC4.out.move (by simp [World.setCell]) (fun k h1 h2 => heap6' _ _ _ (hnf k h1 h2) _ _ _ _ _ _)))
              go_wp2_with fail
              go_meet
              exact HCUT.out
            · skip
              go_simp
              have hbB : Below WA.heap.size WA (WA.alloc F00) := below_alloc _ _
              have HBB := Lib.hid (belowNext HBA.out hbB)
              refine hK.out _ _ HBB.out (fun hHeld => ?_)
              clear hK K
              (try simp only [Act.put, List.setIfInBounds_toArray, List.set_cons_zero, List.set_cons_succ])
              have HGB := Lib.hid (GB.new (wr := wr) (W := WA) HBA.out.size)
              obtain ⟨WB, hWB⟩ : ∃ V, V = WA.alloc F00 := ⟨_, rfl⟩
              rw [← hWB] at hHeld hbB HBB HGB ⊢
              have HGAB := Lib.hid (HGA.out.next hbB)
              have hsB : WA.heap.size < WB.heap.size := by rw [hWB]; simp
              clear hWB
              refine wpAnyH_ready (rs := [5]) (by kernel_rfl) (by simp) ?_
              refine AllReadyH.cons (o := _) rfl (fun K hK => ?_) AllReadyH.nil
              go_simp
              refine (HCall2.out _ HBB.out).mono ?_
              rintro e w3 hc3
              obtain ⟨hb3, Q', er', fr', u, i, f, bb, t, la, ln, lc, rfl, hcs⟩ := one_case hc3
              have HB3 := Lib.hid (belowNext HBB.out hb3)
              have HGC := Lib.hid (show GC wr w3 WB.heap.size w3.heap.size s it Q Q' er' fr' u i f bb t la ln from ⟨HBB.out.size, hb3.size, Nat.le_refl _, hcs⟩)
              have HGA3 := Lib.hid (HGAB.out.next hb3)
              have HGF3 := Lib.hid (HGB.out.next hb3)
              clear hcs hc3
              go_wp2_with fail
              refine hK.out _ _ HB3.out (fun hHeld => ?_)
              clear hK K
              (try simp only [Act.put, List.setIfInBounds_toArray, List.set_cons_zero, List.set_cons_succ])
              refine wpAnyH_take (i := 6) (oi := _) (v := ?_) rfl (by kernel_rfl) (by kernel_rfl) (by kernel_rfl) (fun _ _ _ h => h) (Or.inl ⟨by rfl, ?_⟩) (by assumption) ?_
              rotate_left
              · intro W hSw
                obtain ⟨⟨k0, k1, k2, k3⟩, k4, k5⟩ := KA W hSw
                go_simp
                try with_reducible rfl
              (try simp only [Act.put, List.setIfInBounds_toArray, List.set_cons_zero, List.set_cons_succ])
              refine wpAnyH_take (i := 7) (oi := _) (v := ?_) rfl (by kernel_rfl) (by kernel_rfl) (by kernel_rfl) (fun _ _ _ h => h) (Or.inl ⟨by rfl, ?_⟩) (by assumption) ?_
              rotate_left
              · intro W hSw
                obtain ⟨⟨k0, k1, k2, k3⟩, k4, k5⟩ := KA W hSw
                go_simp
                try with_reducible rfl
              (try simp only [Act.put, List.setIfInBounds_toArray, List.set_cons_zero, List.set_cons_succ])
              refine wpAnyH_take (i := 8) (oi := _) (v := ?_) rfl (by kernel_rfl) (by kernel_rfl) (by kernel_rfl) (fun _ _ _ h => h) (Or.inl ⟨by rfl, ?_⟩) (by assumption) ?_
              rotate_left
              · intro W hSw
                obtain ⟨⟨k0, k1, k2, k3⟩, k4, k5⟩ := KA W hSw
                go_simp
                try with_reducible rfl
              (try simp only [Act.put, List.setIfInBounds_toArray, List.set_cons_zero, List.set_cons_succ])
              have hne : w0.heap.size ≠ WA.heap.size := by have := hb3.size; omega
              have hnq : ∀ k, WB.heap.size ≤ k → k < w3.heap.size → k ≠ w0.heap.size := fun k h1 h2 => by omega
              have hnf : ∀ k, WB.heap.size ≤ k → k < w3.heap.size → k ≠ WA.heap.size := fun k h1 h2 => by omega
              refine wpAnyH_ready (rs := [11]) (by kernel_rfl) (by simp) ?_
              refine AllReadyH.cons (o := _) rfl (fun K hK => ?_) AllReadyH.nil
              obtain ⟨z0, z1, z2, z3, y0, y1, y2, y3⟩ := HGA3.out.r.flat
              go_simp
              have HS4 := Lib.hid (set4B HB3.out (w0.heap.size) HGA3.out.lo (.string s) (.int .i64 (Q' : Int)) (.int .i64 (er' : Int)) (.int .i64 (fr' : Int)))
              refine hK.out _ _ HS4.out (fun hHeld => ?_)
              clear hK K z0 z1 z2 z3 y0 y1 y2 y3
              have HQ4 := Lib.hid (HGA3.out.r.set (s' := s) (p' := (Q' : Int)) (e' := (er' : Int)) (q' := (fr' : Int)))
              have HF4 := Lib.hid (HGF3.out.r.other4 (fun h => hne h.symm) (.string s) (.int .i64 (Q' : Int)) (.int .i64 (er' : Int)) (.int .i64 (fr' : Int)))
              have HC4 := Lib.hid (HGC.out.move (W' := ((((w3.setCell ⟨w0.heap.size, 0, none⟩ (.string s)).setCell ⟨w0.heap.size, 1, none⟩ (.int .i64 (Q' : Int))).setCell ⟨w0.heap.size, 2, none⟩ (.int .i64 (er' : Int))).setCell ⟨w0.heap.size, 3, none⟩ (.int .i64 (fr' : Int)))) (by simp [World.setCell]) (fun k h1 h2 => heap4' _ _ _ (hnq k h1 h2) _ _ _ _))
              have hz4 : ((((w3.setCell ⟨w0.heap.size, 0, none⟩ (.string s)).setCell ⟨w0.heap.size, 1, none⟩ (.int .i64 (Q' : Int))).setCell ⟨w0.heap.size, 2, none⟩ (.int .i64 (er' : Int))).setCell ⟨w0.heap.size, 3, none⟩ (.int .i64 (fr' : Int))).heap.size = w3.heap.size := by simp [World.setCell]
              have hq1 := HGA3.out.lo
              have hq2 := HGA3.out.hi
              have hf1 := HGF3.out.lo
              have hf2 := HGF3.out.hi
              generalize hWS : ((((w3.setCell ⟨w0.heap.size, 0, none⟩ (.string s)).setCell ⟨w0.heap.size, 1, none⟩ (.int .i64 (Q' : Int))).setCell ⟨w0.heap.size, 2, none⟩ (.int .i64 (er' : Int))).setCell ⟨w0.heap.size, 3, none⟩ (.int .i64 (fr' : Int))) = WS at *
              refine wpAnyH_ready (rs := [12]) (by kernel_rfl) (by simp) ?_
              refine AllReadyH.cons (o := _) rfl (fun K hK => ?_) AllReadyH.nil
              obtain ⟨x0, x1, x2, x3, x4, x5, v0, v1, v2, v3, v4, v5⟩ := HF4.out.flat
              go_simp
              have HS6 := Lib.hid (set6B HS4.out (WA.heap.size) hf1 (.int .u64 (u : Int)) (.int .i64 i) (.float .f64 f) (.bool bb) (.string t) (.slice la ln lc))
              refine hK.out _ _ HS6.out (fun hHeld => ?_)
              clear hK K x0 x1 x2 x3 x4 x5 v0 v1 v2 v3 v4 v5
              refine wpAnyH_done (by kernel_rfl) ?_ _
              have HCUT := Lib.hid (cutA_of HS6.out hne hq1 hf1 (by simp [World.setCell]; omega) (by simp [World.setCell]; omega) (HQ4.out.moved (heap6' _ _ _ hne _ _ _ _ _ _)) HF4.out.put (HC4.out.move (by simp [World.setCell]) (fun k h1 h2 => heap6' _ _ _ (hnf k h1 h2) _ _ _ _ _ _)))
              go_wp2_with fail
              go_meet
              exact HCUT.out
          · skip
            go_simp
            have hbB : Below w0.heap.size w0 (w0.alloc F00) := below_alloc _ _
            have HBB := Lib.hid (belowNext HB0.out hbB)
            refine hK.out _ _ HBB.out (fun hHeld => ?_)
            clear hK K
            (try simp only [Act.put, List.setIfInBounds_toArray, List.set_cons_zero, List.set_cons_succ])
            have HGB := Lib.hid (GB.new (wr := wr) (W := w0) HB0.out.size)
            obtain ⟨WB, hWB⟩ : ∃ V, V = w0.alloc F00 := ⟨_, rfl⟩
            rw [← hWB] at hHeld hbB HBB HGB ⊢
            have hsB : w0.heap.size < WB.heap.size := by rw [hWB]; simp
            clear hWB
            refine wpAnyH_ready (rs := [5, 9]) (by kernel_rfl) (by simp) ?_
            refine AllReadyH.cons (o := _) rfl (fun K hK => ?_) (AllReadyH.cons (o := _) rfl (fun K hK => ?_) AllReadyH.nil)
            · skip
              go_simp
              refine (HCall2.out _ HBB.out).mono ?_
              rintro e w3 hc3
              obtain ⟨hb3, Q', er', fr', u, i, f, bb, t, la, ln, lc, rfl, hcs⟩ := one_case hc3
              have HB3 := Lib.hid (belowNext HBB.out hb3)
              have HGC := Lib.hid (show GC wr w3 WB.heap.size w3.heap.size s it Q Q' er' fr' u i f bb t la ln from ⟨HBB.out.size, hb3.size, Nat.le_refl _, hcs⟩)
              have HGF3 := Lib.hid (HGB.out.next hb3)
              clear hcs hc3
              go_wp2_with fail
              refine hK.out _ _ HB3.out (fun hHeld => ?_)
              clear hK K
              (try simp only [Act.put, List.setIfInBounds_toArray, List.set_cons_zero, List.set_cons_succ])
              refine wpAnyH_take (i := 6) (oi := _) (v := ?_) rfl (by kernel_rfl) (by kernel_rfl) (by kernel_rfl) (fun _ _ _ h => h) (Or.inl ⟨by rfl, ?_⟩) (by assumption) ?_
              rotate_left
              · intro W hSw
                obtain ⟨⟨k0, k1, k2, k3⟩, k4, k5⟩ := KA W hSw
                go_simp
                try with_reducible rfl
              (try simp only [Act.put, List.setIfInBounds_toArray, List.set_cons_zero, List.set_cons_succ])
              refine wpAnyH_take (i := 7) (oi := _) (v := ?_) rfl (by kernel_rfl) (by kernel_rfl) (by kernel_rfl) (fun _ _ _ h => h) (Or.inl ⟨by rfl, ?_⟩) (by assumption) ?_
              rotate_left
              · intro W hSw
                obtain ⟨⟨k0, k1, k2, k3⟩, k4, k5⟩ := KA W hSw
                go_simp
                try with_reducible rfl
              (try simp only [Act.put, List.setIfInBounds_toArray, List.set_cons_zero, List.set_cons_succ])
              refine wpAnyH_take (i := 8) (oi := _) (v := ?_) rfl (by kernel_rfl) (by kernel_rfl) (by kernel_rfl) (fun _ _ _ h => h) (Or.inl ⟨by rfl, ?_⟩) (by assumption) ?_
              rotate_left
              · intro W hSw
                obtain ⟨⟨k0, k1, k2, k3⟩, k4, k5⟩ := KA W hSw
                go_simp
                try with_reducible rfl
              (try simp only [Act.put, List.setIfInBounds_toArray, List.set_cons_zero, List.set_cons_succ])
              refine wpAnyH_ready (rs := [9]) (by kernel_rfl) (by simp) ?_
              refine AllReadyH.cons (o := _) rfl (fun K hK => ?_) AllReadyH.nil
              go_simp
              have hbA : Below w3.heap.size w3 (w3.alloc R00) := below_alloc _ _
              have HBA := Lib.hid (belowNext HB3.out hbA)
              refine hK.out _ _ HBA.out (fun hHeld => ?_)
              clear hK K
              (try simp only [Act.put, List.setIfInBounds_toArray, List.set_cons_zero, List.set_cons_succ])
              have HGA := Lib.hid (GA.new (wr := wr) (W := w3) HB3.out.size)
              obtain ⟨WA, hWA⟩ : ∃ V, V = w3.alloc R00 := ⟨_, rfl⟩
              rw [← hWA] at hHeld hbA HBA HGA ⊢
              have HGBA := Lib.hid (HGF3.out.next hbA)
              have HGCA := Lib.hid (HGC.out.next hbA)
              have hsA : w3.heap.size < WA.heap.size := by rw [hWA]; simp
              clear hWA
              have hne : w3.heap.size ≠ w0.heap.size := by have := hb3.size; omega
              have hnq : ∀ k, WB.heap.size ≤ k → k < w3.heap.size → k ≠ w3.heap.size := fun k h1 h2 => by omega
              have hnf : ∀ k, WB.heap.size ≤ k → k < w3.heap.size → k ≠ w0.heap.size := fun k h1 h2 => by omega
              refine wpAnyH_ready (rs := [11]) (by kernel_rfl) (by simp) ?_
              refine AllReadyH.cons (o := _) rfl (fun K hK => ?_) AllReadyH.nil
              obtain ⟨z0, z1, z2, z3, y0, y1, y2, y3⟩ := HGA.out.r.flat
              go_simp
              have HS4 := Lib.hid (set4B HBA.out (w3.heap.size) HGA.out.lo (.string s) (.int .i64 (Q' : Int)) (.int .i64 (er' : Int)) (.int .i64 (fr' : Int)))
              refine hK.out _ _ HS4.out (fun hHeld => ?_)
              clear hK K z0 z1 z2 z3 y0 y1 y2 y3
              have HQ4 := Lib.hid (HGA.out.r.set (s' := s) (p' := (Q' : Int)) (e' := (er' : Int)) (q' := (fr' : Int)))
              have HF4 := Lib.hid (HGBA.out.r.other4 (fun h => hne h.symm) (.string s) (.int .i64 (Q' : Int)) (.int .i64 (er' : Int)) (.int .i64 (fr' : Int)))
              have HC4 := Lib.hid (HGCA.out.move (W' := ((((WA.setCell ⟨w3.heap.size, 0, none⟩ (.string s)).setCell ⟨w3.heap.size, 1, none⟩ (.int .i64 (Q' : Int))).setCell ⟨w3.heap.size, 2, none⟩ (.int .i64 (er' : Int))).setCell ⟨w3.heap.size, 3, none⟩ (.int .i64 (fr' : Int)))) (by simp [World.setCell]) (fun k h1 h2 => heap4' _ _ _ (hnq k h1 h2) _ _ _ _))
              have hz4 : ((((WA.setCell ⟨w3.heap.size, 0, none⟩ (.string s)).setCell ⟨w3.heap.size, 1, none⟩ (.int .i64 (Q' : Int))).setCell ⟨w3.heap.size, 2, none⟩ (.int .i64 (er' : Int))).setCell ⟨w3.heap.size, 3, none⟩ (.int .i64 (fr' : Int))).heap.size = WA.heap.size := by simp [World.setCell]
              have hq1 := HGA.out.lo
              have hq2 := HGA.out.hi
              have hf1 := HGBA.out.lo
              have hf2 := HGBA.out.hi
              generalize hWS : ((((WA.setCell ⟨w3.heap.size, 0, none⟩ (.string s)).setCell ⟨w3.heap.size, 1, none⟩ (.int .i64 (Q' : Int))).setCell ⟨w3.heap.size, 2, none⟩ (.int .i64 (er' : Int))).setCell ⟨w3.heap.size, 3, none⟩ (.int .i64 (fr' : Int))) = WS at *
              refine wpAnyH_ready (rs := [12]) (by kernel_rfl) (by simp) ?_
              refine AllReadyH.cons (o := _) rfl (fun K hK => ?_) AllReadyH.nil
              obtain ⟨x0, x1, x2, x3, x4, x5, v0, v1, v2, v3, v4, v5⟩ := HF4.out.flat
              go_simp
              have HS6 := Lib.hid (set6B HS4.out (w0.heap.size) hf1 (.int .u64 (u : Int)) (.int .i64 i) (.float .f64 f) (.bool bb) (.string t) (.slice la ln lc))
              refine hK.out _ _ HS6.out (fun hHeld => ?_)
              clear hK K x0 x1 x2 x3 x4 x5 v0 v1 v2 v3 v4 v5
              refine wpAnyH_done (by kernel_rfl) ?_ _
              have HCUT := Lib.hid (cutA_of HS6.out hne hq1 hf1 (by simp [World.setCell]; omega) (by simp [World.setCell]; omega) (HQ4.out.moved (heap6' _ _ _ hne _ _ _ _ _ _)) HF4.out.put (HC4.out.move (by simp [World.setCell]) (fun k h1 h2 => heap6' _ _ _ (hnf k h1 h2) _ _ _ _ _ _)))
              go_wp2_with fail
              go_meet
              exact HCUT.out
            · skip
              go_simp
              have hbA : Below WB.heap.size WB (WB.alloc R00) := below_alloc _ _
              have HBA := Lib.hid (belowNext HBB.out hbA)
              refine hK.out _ _ HBA.out (fun hHeld => ?_)
              clear hK K
              (try simp only [Act.put, List.setIfInBounds_toArray, List.set_cons_zero, List.set_cons_succ])
              have HGA := Lib.hid (GA.new (wr := wr) (W := WB) HBB.out.size)
              obtain ⟨WA, hWA⟩ : ∃ V, V = WB.alloc R00 := ⟨_, rfl⟩
              rw [← hWA] at hHeld hbA HBA HGA ⊢
              have HGBA := Lib.hid (HGB.out.next hbA)
              have hsA : WB.heap.size < WA.heap.size := by rw [hWA]; simp
              clear hWA
              refine wpAnyH_ready (rs := [5]) (by kernel_rfl) (by simp) ?_
              refine AllReadyH.cons (o := _) rfl (fun K hK => ?_) AllReadyH.nil
              go_simp
              refine (HCall2.out _ HBA.out).mono ?_
              rintro e w3 hc3
              obtain ⟨hb3, Q', er', fr', u, i, f, bb, t, la, ln, lc, rfl, hcs⟩ := one_case hc3
              have HB3 := Lib.hid (belowNext HBA.out hb3)
              have HGC := Lib.hid (show GC wr w3 WA.heap.size w3.heap.size s it Q Q' er' fr' u i f bb t la ln from ⟨HBA.out.size, hb3.size, Nat.le_refl _, hcs⟩)
              have HGA3 := Lib.hid (HGA.out.next hb3)
              have HGF3 := Lib.hid (HGBA.out.next hb3)
              clear hcs hc3
              go_wp2_with fail
              refine hK.out _ _ HB3.out (fun hHeld => ?_)
              clear hK K
              (try simp only [Act.put, List.setIfInBounds_toArray, List.set_cons_zero, List.set_cons_succ])
              refine wpAnyH_take (i := 6) (oi := _) (v := ?_) rfl (by kernel_rfl) (by kernel_rfl) (by kernel_rfl) (fun _ _ _ h => h) (Or.inl ⟨by rfl, ?_⟩) (by assumption) ?_
              rotate_left
              · intro W hSw
                obtain ⟨⟨k0, k1, k2, k3⟩, k4, k5⟩ := KA W hSw
                go_simp
                try with_reducible rfl
              (try simp only [Act.put, List.setIfInBounds_toArray, List.set_cons_zero, List.set_cons_succ])
              refine wpAnyH_take (i := 7) (oi := _) (v := ?_) rfl (by kernel_rfl) (by kernel_rfl) (by kernel_rfl) (fun _ _ _ h => h) (Or.inl ⟨by rfl, ?_⟩) (by assumption) ?_
              rotate_left
              · intro W hSw
                obtain ⟨⟨k0, k1, k2, k3⟩, k4, k5⟩ := KA W hSw
                go_simp
                try with_reducible rfl
              (try simp only [Act.put, List.setIfInBounds_toArray, List.set_cons_zero, List.set_cons_succ])
              refine wpAnyH_take (i := 8) (oi := _) (v := ?_) rfl (by kernel_rfl) (by kernel_rfl) (by kernel_rfl) (fun _ _ _ h => h) (Or.inl ⟨by rfl, ?_⟩) (by assumption) ?_
              rotate_left
              · intro W hSw
                obtain ⟨⟨k0, k1, k2, k3⟩, k4, k5⟩ := KA W hSw
                go_simp
                try with_reducible rfl
              (try simp only [Act.put, List.setIfInBounds_toArray, List.set_cons_zero, List.set_cons_succ])
              have hne : WB.heap.size ≠ w0.heap.size := by have := hb3.size; omega
              have hnq : ∀ k, WA.heap.size ≤ k → k < w3.heap.size → k ≠ WB.heap.size := fun k h1 h2 => by omega
              have hnf : ∀ k, WA.heap.size ≤ k → k < w3.heap.size → k ≠ w0.heap.size := fun k h1 h2 => by omega
              refine wpAnyH_ready (rs := [11]) (by kernel_rfl) (by simp) ?_
              refine AllReadyH.cons (o := _) rfl (fun K hK => ?_) AllReadyH.nil
              obtain ⟨z0, z1, z2, z3, y0, y1, y2, y3⟩ := HGA3.out.r.flat
              go_simp
              have HS4 := Lib.hid (set4B HB3.out (WB.heap.size) HGA3.out.lo (.string s) (.int .i64 (Q' : Int)) (.int .i64 (er' : Int)) (.int .i64 (fr' : Int)))
              refine hK.out _ _ HS4.out (fun hHeld => ?_)
              clear hK K z0 z1 z2 z3 y0 y1 y2 y3
              have HQ4 := Lib.hid (HGA3.out.r.set (s' := s) (p' := (Q' : Int)) (e' := (er' : Int)) (q' := (fr' : Int)))
              have HF4 := Lib.hid (HGF3.out.r.other4 (fun h => hne h.symm) (.string s) (.int .i64 (Q' : Int)) (.int .i64 (er' : Int)) (.int .i64 (fr' : Int)))
              have HC4 := Lib.hid (HGC.out.move (W' := ((((w3.setCell ⟨WB.heap.size, 0, none⟩ (.string s)).setCell ⟨WB.heap.size, 1, none⟩ (.int .i64 (Q' : Int))).setCell ⟨WB.heap.size, 2, none⟩ (.int .i64 (er' : Int))).setCell ⟨WB.heap.size, 3, none⟩ (.int .i64 (fr' : Int)))) (by simp [World.setCell]) (fun k h1 h2 => heap4' _ _ _ (hnq k h1 h2) _ _ _ _))
              have hz4 : ((((w3.setCell ⟨WB.heap.size, 0, none⟩ (.string s)).setCell ⟨WB.heap.size, 1, none⟩ (.int .i64 (Q' : Int))).setCell ⟨WB.heap.size, 2, none⟩ (.int .i64 (er' : Int))).setCell ⟨WB.heap.size, 3, none⟩ (.int .i64 (fr' : Int))).heap.size = w3.heap.size := by simp [World.setCell]
              have hq1 := HGA3.out.lo
              have hq2 := HGA3.out.hi
              have hf1 := HGF3.out.lo
              have hf2 := HGF3.out.hi
              generalize hWS : ((((w3.setCell ⟨WB.heap.size, 0, none⟩ (.string s)).setCell ⟨WB.heap.size, 1, none⟩ (.int .i64 (Q' : Int))).setCell ⟨WB.heap.size, 2, none⟩ (.int .i64 (er' : Int))).setCell ⟨WB.heap.size, 3, none⟩ (.int .i64 (fr' : Int))) = WS at *
              refine wpAnyH_ready (rs := [12]) (by kernel_rfl) (by simp) ?_
              refine AllReadyH.cons (o := _) rfl (fun K hK => ?_) AllReadyH.nil
              obtain ⟨x0, x1, x2, x3, x4, x5, v0, v1, v2, v3, v4, v5⟩ := HF4.out.flat
              go_simp
              have HS6 := Lib.hid (set6B HS4.out (w0.heap.size) hf1 (.int .u64 (u : Int)) (.int .i64 i) (.float .f64 f) (.bool bb) (.string t) (.slice la ln lc))
              refine hK.out _ _ HS6.out (fun hHeld => ?_)
              clear hK K x0 x1 x2 x3 x4 x5 v0 v1 v2 v3 v4 v5
              refine wpAnyH_done (by kernel_rfl) ?_ _
              have HCUT := Lib.hid (cutA_of HS6.out hne hq1 hf1 (by simp [World.setCell]; omega) (by simp [World.setCell]; omega) (HQ4.out.moved (heap6' _ _ _ hne _ _ _ _ _ _)) HF4.out.put (HC4.out.move (by simp [World.setCell]) (fun k h1 h2 => heap6' _ _ _ (hnf k h1 h2) _ _ _ _ _ _)))
              go_wp2_with fail
              go_meet
              exact HCUT.out
        case rest =>
          obtain ⟨gq, gf, Q', er', fr', u, i, f, bb, t, la, ln, lc, rfl, rfl, hne, hgq, hgf, hgq2, hgf2, hr4q, hf6, hbel, hcs⟩ := hcut
          have HBEL := Lib.hid hbel
          have HCs := Lib.hid hcs
          have hsc := hbel.size
          have HLBc := Lib.hid (HLB.out.below hbel hsz (by omega))
          obtain ⟨⟨c0, c1, c2, c3, f0, f1, f2, f3⟩, -, -, hszc⟩ := id HLBc.out
          obtain ⟨y0, y1, y2, y3, -, -, -, -⟩ := hr4q.flat
          obtain ⟨x0, x1, x2, x3, x4, x5, -, -, -, -, -, -⟩ := hf6.flat
          have nq2 : gq ≠ b2 := by omega
          have nf2 : gf ≠ b2 := by omega
          have n2q : b2 ≠ gq := by omega
          have n2f : b2 ≠ gf := by omega
          have h2c : b2 < wc.heap.size := by omega
          obtain ⟨W6, hW6⟩ : ∃ W6, W6 = ((((wc.setCell ⟨b2, 0, none⟩ (.string s)).setCell ⟨b2, 1, none⟩ (.int .i64 (Q' : Int))).setCell ⟨b2, 2, none⟩ (.int .i64 (er' : Int))).setCell ⟨b2, 3, none⟩ (.int .i64 (fr' : Int))) := ⟨_, rfl⟩
          have hs6 : W6.heap.size = wc.heap.size := by rw [hW6]; simp [World.setCell]
          have h6b : ∀ k, k ≠ b2 → W6.heap[k]? = wc.heap[k]? := fun k hk => by rw [hW6]; exact heap4 _ _ _ hk _ _ _ _
          have HLB6 := Lib.hid (show LA w W6 b2 b4 s Q' er' fr' from ⟨by rw [hW6]; exact HLBc.out.rd.set, by rw [hW6]; exact HLBc.out.rr.other4 n42 _ _ _ _, by rw [hW6]; exact set4B HLBc.out.bel b2 (Nat.le_refl _) _ _ _ _, by omega⟩)
          have HG6 : wr.grownBy W6 (some b2) := ⟨by rw [hW6]; exact hbel.os, by rw [hW6]; exact hbel.tape, by rw [hW6]; exact hbel.output, by omega, fun k hk hne => by rw [h6b k (fun e => hne (by rw [e])), hbel.block k hk]⟩
          have HLT : Hid (∀ k, Value.ownBlock (.slice ra fs.length rc) = some k → b4 + 1 ≤ k ∧ k < wr.heap.size) := Lib.hid HOwn.out.lt
          have HO6 := Lib.hid (show W6.ownsRow (b4 + 1) 57 6 (.slice ra fs.length rc) fs.length xs from HOwn.out.kept HG6 (by
            cases hob : Value.ownBlock (.slice ra fs.length rc) with
            | none => exact Or.inl rfl
            | some k => exact Or.inr (fun e => by injection e with e; have := (HLT.out k hob).1; omega)))
          have HC6 := Lib.hid (show FCellsS W6 (Mine (b4 + 1) W6 (.slice ra fs.length rc)) xs fs from HCells.out.kept (fun k hk => HG6.block k hk.2.1 (fun e => by injection e with e; have := hk.1; omega)) (fun k hk => ⟨hk.1, by have := hk.2.1; omega, hk.2.2⟩))
          have H63 : Hid (fs.length + 1 ≤ maxLen) := Lib.hid (by unfold maxLen; omega)
          have H47 : Hid ((fs.length + 1) * 72 ≤ 140737488355328) := Lib.hid (by omega)
          have HCS : Hid (∀ (j : Nat) (v : Value), ([.int .u64 (u : Int), .int .i64 i, .float .f64 f, .bool bb, .string t, .slice la ln lc] : List Value)[j]? = some v → (W6.alloc (.cells #[.int .u64 (u : Int), .int .i64 i, .float .f64 f, .bool bb, .string t, .slice la ln lc] 57)).cell? ((⟨wc.heap.size, 0, none⟩ : Addr).add j) = some v) := Lib.hid (by
            intro j v hj
            rw [← hs6]
            match j with
            | 0 => simp at hj; subst hj; simp [Addr.add]
            | 1 => simp at hj; subst hj; simp [Addr.add]
            | 2 => simp at hj; subst hj; simp [Addr.add]
            | 3 => simp at hj; subst hj; simp [Addr.add]
            | 4 => simp at hj; subst hj; simp [Addr.add]
            | 5 => simp at hj; subst hj; simp [Addr.add]
            | j + 6 => simp at hj)
          have HZ6 := Lib.hid (show ∀ w4 v', Grew (W6.alloc (.cells #[.int .u64 (u : Int), .int .i64 i, .float .f64 f, .bool bb, .string t, .slice la ln lc] 57)) w4 (.slice ra fs.length rc) v' → Below (b4 + 1) W6 w4 from fun w4 v' hg => ((Below.refl _ _).alloc (by omega) _).trans (hg.below (by simp; omega) (fun k hk => (HLT.out k hk).1)))
          have hbs6 : b4 + 1 ≤ W6.heap.size + 1 := by omega
          rw [← hs6] at hgq2 hgf2 h2c
          clear hbel hcs hr4q hf6 KA HCall HCall2
          go_wp2_with (at_builtin; rw [← hW6]; (refine wpList_append_vals _ rfl _ _ 45 rfl (b4 + 1) 57 i0 z0 6 72 Tryz.underlying45 hi hz0 hz1 hz2 hz3 (by decide) (.slice ra fs.length rc) fs.length xs (by rfl) (HO6.out.alloc _) ⟨wc.heap.size, 0, none⟩ 1 1 [.int .u64 (u : Int), .int .i64 i, .float .f64 f, .bool bb, .string t, .slice la ln lc] rfl rfl HCS.out (by intro v hv; simp only [List.mem_cons, List.not_mem_nil, or_false] at hv; rcases hv with rfl | rfl | rfl | rfl | rfl | rfl <;> rfl) H63.out H47.out (by simp; omega) ?_); intro v' w4 hown hg; obtain ⟨ra', rc', rfl⟩ := own_slice hown; have HO7 := Lib.hid hown; have HG7 := Lib.hid hg; clear hown hg)
          have HB7 := HZ6.out _ _ HG7.out
          have hcd : its.drop fs.length = it :: its.drop (fs.length + 1) := by rw [← hit]; exact List.drop_eq_getElem_cons hk
          refine ⟨⟨fs.length + 1, Q', er', fr', ra', fs.length + 1, rc', by simp, by go_num, by omega, HLB6.out.below HB7 (by omega) (by omega), ?_⟩, by simp [intOf]; omega⟩
          rcases HCs.out with ⟨rfl, rfl, l, hg, hrows⟩ | ⟨her, hg⟩
          · obtain ⟨hq1, hq2⟩ := one_on (by rw [hl]; omega) (by rw [← hit]; exact hiok _ (List.getElem_mem hk)) hg
            rw [hl] at hq2
            have HG4 : Grew W6 w4 (.slice ra fs.length rc) (.slice ra' (fs.length + 1) rc') := (Grew.alloc W6 _ _).trans HG7.out
            have HC7 := HC6.out.grew HG4
            have hl8 : (fs ++ [Fld.mk u i f bb t.data.toList l]).length = fs.length + 1 := by simp
            have HN7 : RowsS w4 (Mine (b4 + 1) w4 (.slice ra' (fs.length + 1) rc')) l la ln := RowsS.kept (w := wc) (fun k hk => by
                have h1 : wr.heap.size ≤ k := hk.1
                have h2 : k < wc.heap.size := hk.2
                have h3 : Value.ownBlock (.slice ra fs.length rc) ≠ some k := fun e => by have := (HLT.out k e).2; omega
                rw [HG4.g.block k (by omega) (fun e => h3 e.symm)]
                exact h6b k (by omega)) (fun k hk => by
                have h1 : wr.heap.size ≤ k := hk.1
                have h2 : k < wc.heap.size := hk.2
                have h3 : Value.ownBlock (.slice ra fs.length rc) ≠ some k := fun e => by have := (HLT.out k e).2; omega
                exact ⟨by omega, by have := HG4.g.size; omega, HG4.other (by omega) h3⟩) _ _ _ hrows
            exact Or.inl ⟨rfl, rfl, fs ++ [.mk u i f bb t.data.toList l], _, hl8.symm, hl8, by omega, hq2, by rw [hl8]; exact HO7.out, by rw [hl8]; exact HC7.append (.cons HN7 .nil), by rw [HRd.out, hcd, rdAll_next hg]⟩
          · exact Or.inr ⟨her, by rw [HRd.out, hcd, rdAll_fall hg]⟩
      · have her' : ((er : Int) == 0) = false := by simp; omega
        have HFin := Lib.hid (show ∀ w', Below b2 w w' → AllEnds s its p w (.returned (.tuple #[rdV s (Q : Int) (er : Int) (fr : Int), .slice ra rn rc])) w' from fun w' hb => ⟨by rw [hB2]; exact hb, by rw [hrd]; exact ⟨Q, ra, rn, rc, rfl⟩⟩)
        have HBel := Lib.hid HLB.out.bel
        clear hrd
        go_wp2_with fail
        (try simp only [Exit.inBlock, Exit.then])
        refine bodyPost_ret (v := .tuple #[rdV s (Q : Int) (er : Int) (fr : Int), .slice ra rn rc]) (by simp [results, Tryz.results86, go_sem, r0, r1, r2, r3]) rfl ?_
        with_reducible first | exact HFin.out _ (set4B HBel.out b4 hle4 _ _ _ _) | exact HFin.out _ (set4B HBel.out b4 hle4 _ _ _ _).drew
    · have hki : ¬ (k : Int) < (its.length : Int) := by omega
      rcases hso with ⟨rfl, rfl, fs, xs, rfl, rfl, hkQ, hQs, hown, hcells, hrd⟩ | ⟨her, hrd⟩
      · obtain ⟨a', c', hv, hfl⟩ := own_flds hown hcells
        injection hv with hv1 hv2 hv3
        subst hv1
        clear hv2 hv3
        have hx : rdAll s.data.toList its p = .ok fs Q := by rw [hrd, List.drop_eq_nil_of_le (by omega), rdAll_end]
        have HFin := Lib.hid (show ∀ w', Below b2 w w' → Up b4 wr w' → AllEnds s its p w (.returned (.tuple #[rdV s (Q : Int) 0 0, .slice ra fs.length rc])) w' from fun w' hb hup => ⟨by rw [hB2]; exact hb, by rw [hx]; exact ⟨ra, rc, rfl, FldsS.kept (w := wr) (fun k hk => hup.2 k hk.1 hk.2) (fun k hk => ⟨by rw [hB2]; have := hk.1; omega, by have := hk.2; have := hup.1; omega⟩) _ _ _ hfl⟩⟩)
        have HBel := Lib.hid HLB.out.bel
        have HUp := Lib.hid (Up.refl b4 wr)
        clear hrd hown hcells hfl hx
        go_wp2_with fail
        (try simp only [Exit.inBlock, Exit.then])
        refine bodyPost_ret (v := .tuple #[rdV s (Q : Int) 0 0, .slice ra fs.length rc]) (by simp [results, Tryz.results86, go_sem, r0, r1, r2, r3]) rfl ?_
        with_reducible first | exact HFin.out _ (set4B HBel.out b4 hle4 _ _ _ _) (HUp.out.set4 b4 (Nat.le_refl _) _ _ _ _) | exact HFin.out _ (set4B HBel.out b4 hle4 _ _ _ _).drew (HUp.out.set4 b4 (Nat.le_refl _) _ _ _ _).drew
      · have her' : ((er : Int) == 0) = false := by simp; omega
        have HFin := Lib.hid (show ∀ w', Below b2 w w' → AllEnds s its p w (.returned (.tuple #[rdV s (Q : Int) (er : Int) (fr : Int), .slice ra rn rc])) w' from fun w' hb => ⟨by rw [hB2]; exact hb, by rw [hrd]; exact ⟨Q, ra, rn, rc, rfl⟩⟩)
        have HBel := Lib.hid HLB.out.bel
        clear hrd
        go_wp2_with fail
        (try simp only [Exit.inBlock, Exit.then])
        refine bodyPost_ret (v := .tuple #[rdV s (Q : Int) (er : Int) (fr : Int), .slice ra rn rc]) (by simp [results, Tryz.results86, go_sem, r0, r1, r2, r3]) rfl ?_
        with_reducible first | exact HFin.out _ (set4B HBel.out b4 hle4 _ _ _ _) | exact HFin.out _ (set4B HBel.out b4 hle4 _ _ _ _).drew
end Go.Proofs.YtidfgjgbigedeaaGreatDoor
