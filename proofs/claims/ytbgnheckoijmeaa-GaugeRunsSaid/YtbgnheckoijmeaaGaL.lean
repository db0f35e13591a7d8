/- Gauges: the program's Run. -/
import Derived.Test.YtbgnheckoijmeaaGaK
import Derived.OwnWalk
import Derived.Handy
namespace Go.Proofs.Ytbgnheckoijmeaa
open Go.Fq Go.RowKit Go.Lib
open Go.Iq (below_next block_lt)
set_option linter.unusedVariables false
set_option linter.unusedSimpArgs false

theorem infoFloat : (Try.prog.info? 22).map (fun i => (i.zero, i.size, i.bytes)) = some (some (.float .f64 0), 1, 8) := by kernel_rfl

theorem own_below {w w' : World} {base : Nat} {e : TypeId} {v : Value} {n : Nat} {xs : List Value} (h : w.ownsRow base e 1 v n xs) (hb : Below w.heap.size w w') : w'.ownsRow base e 1 v n xs :=
  h.kept (row := none) ⟨hb.os, hb.tape, hb.output, hb.size, fun k hk _ => hb.block k hk⟩ (by cases hv : v.ownBlock <;> simp)
theorem own_set3 {w : World} {base : Nat} {e : TypeId} {v : Value} {n : Nat} {xs : List Value} {b : Nat} (h : w.ownsRow base e 1 v n xs) (hb : b < base) (x y z : Value) :
    (((w.setCell ⟨b, 0, none⟩ x).setCell ⟨b, 1, none⟩ y).setCell ⟨b, 2, none⟩ z).ownsRow base e 1 v n xs := by
  refine h.kept (row := some b) ⟨rfl, rfl, rfl, by simp, fun k hk hne => ?_⟩ ?_
  · have hk : k ≠ b := fun e => hne (by rw [e])
    rw [Below.heap_setCell _ _ _ k hk, Below.heap_setCell _ _ _ k hk, Below.heap_setCell _ _ _ k hk]
  · cases hv : v.ownBlock with
    | none => exact .inl rfl
    | some k =>
      right
      intro he
      have := (h.lt k hv).1
      cases he
      omega

theorem G3.grown {w w' : World} {row : Option Nat} {b : Nat} {n : Int} {m v : Nat} (h : G3 w b n m v) (hg : w.grownBy w' row) (hb : b < w.heap.size) (hne : row ≠ some b) : G3 w' b n m v := by
  have he : w'.heap[b]? = w.heap[b]? := hg.block b hb (fun h => hne h.symm)
  obtain ⟨c0, c1, c2, f0, f1, f2⟩ := h
  exact ⟨(World.cell?_of_block he).trans c0, (World.cell?_of_block he).trans c1, (World.cell?_of_block he).trans c2, (World.frozen?_of_block he).trans f0, (World.frozen?_of_block he).trans f1, (World.frozen?_of_block he).trans f2⟩

theorem one_float (w : World) (x : Nat) (hx : x < 2 ^ 64) (t : TypeId) : IsFloats (w.alloc (.cells #[.float .f64 x] t)) (some ⟨w.heap.size, 0, none⟩) 1 [x] :=
  ⟨rfl, by intro z hz; rw [List.mem_singleton.1 hz]; exact hx, fun _ => ⟨_, 0, rfl, fun i hi => by
    obtain rfl : i = 0 := by omega
    simp⟩⟩

/-- What holds at the head of a round. -/
structure RunAt (w wr : World) (b3 b6 base k : Nat) (zs : List Nat) (v : Value) : Prop where
  own : wr.ownsRow base 22 1 v (runTo zs k).1.length ((runTo zs k).1.map (Value.float .f64))
  res : G3 wr b3 0 0 0
  gau : G3 wr b6 (runTo zs k).2.1 (runTo zs k).2.2.1 (runTo zs k).2.2.2
  bel : Below w.heap.size w wr
  siz : base ≤ wr.heap.size

set_option maxHeartbeats 2000000 in
theorem run_prog (a : Option Addr) (len cap : Nat) (zs : List Nat) (w : World) (hI : IsFloats w a len zs) (hr : len * 8 ≤ 140737488351232) :
    Calls Try.prog 20 #[.slice a len cap] w fun e w' => ∃ (ao : Option Addr) (co : Nat), e = .returned (.tuple #[.slice ao (runTo zs len).1.length co, gaug (runTo zs len).2.1 (runTo zs len).2.2.1 (runTo zs len).2.2.2, .int .i64 ((len : Int) - ((runTo zs len).1.length : Int))]) ∧
      IsFloats w' ao (runTo zs len).1.length (runTo zs len).1 ∧ Below w.heap.size w w' := by
  have HI := Lib.hid hI
  clear hI
  have hst := g_store
  obtain ⟨i0, hi, hz0, hz1, hz2⟩ : ∃ i0, Try.prog.info? 22 = some i0 ∧ i0.zero = some (.float .f64 0) ∧ i0.size = 1 ∧ i0.bytes = 8 := by
    have h := infoFloat
    cases hi : Try.prog.info? 22 with
    | none => rw [hi] at h; cases h
    | some i =>
      rw [hi, Option.map_some, Option.some.injEq, Prod.mk.injEq, Prod.mk.injEq] at h
      exact ⟨i, rfl, h.1, h.2.1, h.2.2⟩
  have HS : Hid (RunAt w ((w.alloc (.cells #[.int .i64 0, .float .f64 0, .float .f64 0] 24)).alloc (.cells #[.int .i64 0, .float .f64 0, .float .f64 0] 24)) w.heap.size (w.heap.size + 1) (w.heap.size + 2) 0 zs (.slice none 0 0)) := Lib.hid
    ⟨World.ownsRow_nil _ _ _ _, G3.second w 0 0 0 _ _, by have h := G3.first (w.alloc (.cells #[.int .i64 0, .float .f64 0, .float .f64 0] 24)) 0 0 0 24; simp only [World.size_alloc] at h; exact h, below2 _ _ _, by simp⟩
  have HB2 := Lib.hid (show w.heap.size < w.heap.size + 2 ∧ w.heap.size + 1 < w.heap.size + 2 ∧ w.heap.size ≤ w.heap.size + 1 from ⟨by omega, by omega, by omega⟩)
  go_enter Try.func20, Try.ntmps20
  go_wp2_with fail
  generalize hb3 : w.heap.size = b3 at *
  generalize hb6 : b3 + 1 = b6 at *
  generalize hbase : b3 + 2 = base at *
  go_loopw [5, 13] (fun v i wr => ∃ k : Nat, k ≤ len ∧ i = .int .i64 k ∧ RunAt w wr b3 b6 base k zs v) (fun _ i _ => len - (intOf i).toNat)
  case atStart => exact ⟨0, Nat.zero_le _, rfl, HS.out⟩
  case round =>
    obtain ⟨k, hk, rfl, hR⟩ := hrel
    obtain ⟨hown, hres, hgau, hbel, hsiz⟩ := hR
    obtain ⟨okl, okf, okn, okm, okv⟩ := runTo_ok zs k
    have HBel := Lib.hid hbel
    by_cases hlt : k < len
    · obtain ⟨b, off, rfl, hc⟩ := HI.out.2.2 (by omega)
      have c := hc k hlt
      have cz : wr.cell? ⟨b, off + k, none⟩ = some (.float .f64 (zs.getD k 0)) := by
        rw [← c]; exact HBel.out.cell (p := ⟨b, off + k, none⟩) (block_lt c)
      have hz64 : zs.getD k 0 < 2 ^ 64 := by
        have hl : k < zs.length := by rw [HI.out.1]; exact hlt
        rw [List.getD_eq_getElem?_getD, List.getElem?_eq_getElem hl, Option.getD_some]; exact HI.out.2.1 _ (List.getElem_mem _)
      have hnext : runTo zs (k + 1) = runStep (runTo zs k) (zs.getD k 0) := rfl
      have HNext := Lib.hid hnext
      have HAt := Lib.hid (show ∀ (wr : World) (v : Value), (∀ st, runTo zs (k + 1) = st → wr.ownsRow base 22 1 v st.1.length (st.1.map (Value.float .f64)) ∧ G3 wr b6 st.2.1 st.2.2.1 st.2.2.2) → G3 wr b3 0 0 0 → Below w.heap.size w wr → base ≤ wr.heap.size → RunAt w wr b3 b6 base (k + 1) zs v from
        fun wr v h h3 hb hs => ⟨(h _ rfl).1, h3, (h _ rfl).2, hb, hs⟩)
      have hgo : ∀ wr v, RunAt w wr b3 b6 base (k + 1) zs v → ∃ k_1 : Nat, k_1 ≤ len ∧ Value.int .i64 ((k : Int) + 1) = .int .i64 k_1 ∧ RunAt w wr b3 b6 base k_1 zs v := fun wr v h => ⟨k + 1, by omega, by go_num, h⟩
      have HGo := Lib.hid hgo
      have hlen : (runTo zs k).1.length < 17592186043904 := by omega
      clear c hc hbel hnext hgo
      generalize runTo zs k = st at *
      obtain ⟨held, N, M, V⟩ := st
      generalize hz : zs.getD k 0 = z at *
      clear hz
      simp only at hown hgau okl okf okn okm okv hlen
      have HF := Lib.hid (fun w => feed_any N M V z okn okm okv hz64 w)
      have HK := Lib.hid (fun N' M' V' E (h : feedF N M V z = ((N', M', V'), E)) => feed_keeps okn h)
      have hstep : runStep (held, N, M, V) z = if (feedF N M V z).2 = 0 then (held ++ [heldF held (feedF N M V z).1], (feedF N M V z).1) else (held, N, M, V) := rfl
      rw [hstep] at HNext
      generalize feedF N M V z = r at *
      obtain ⟨⟨N', M', V'⟩, E⟩ := r
      have HE := HK.out _ _ _ _ rfl
      clear HK hstep
      simp only at HNext
      obtain ⟨ao, co, rfl, hnc, hfl, hnn⟩ := floats_of_own hown okf
      obtain ⟨c0, c1, c2, f0, f1, f2⟩ := id hgau
      have hb6l : b6 < wr.heap.size := by have := HB2.out; omega
      have hb3l : b3 < wr.heap.size := by have := HB2.out; omega
      go_wp2_with fail
      refine (HF.out _).mono ?_
      rintro e w1 ⟨rfl, b1⟩
      have hs1 := b1.size
      have hg1 := hgau.below b1 hb6l
      have hr1 := hres.below b1 hb3l
      have ho1 := own_below hown b1
      have hB1 := Lib.hid (below_next HBel.out b1)
      clear c0 c1 c2 f0 f1 f2
      obtain ⟨c0, c1, c2, f0, f1, f2⟩ := id hg1
      have hb6m : b6 < w1.heap.size := by omega
      have hb3m : b3 < w1.heap.size := by omega
      rcases HE with ⟨rfl, k1, k2, k3, k4⟩ | hne
      · rw [if_pos rfl] at HNext
        have hsX : w1.heap.size < ((((w1.setCell ⟨b6, 0, none⟩ (.int .i64 N')).setCell ⟨b6, 1, none⟩ (.float .f64 M')).setCell ⟨b6, 2, none⟩ (.float .f64 V')).alloc (.cells #[.int .i64 N', .float .f64 M', .float .f64 V'] 24)).heap.size := by simp
        have hoX := (own_set3 ho1 (b := b6) (by have := HB2.out; omega) (.int .i64 N') (.float .f64 M') (.float .f64 V')).alloc (.cells #[.int .i64 N', .float .f64 M', .float .f64 V'] 24)
        have hgX := (set3_G3 (N := N') (M := M') (V := V') hg1).below ((Below.refl _ _).alloc (Nat.le_refl _) (.cells #[.int .i64 N', .float .f64 M', .float .f64 V'] 24)) (by simpa using hb6m)
        have hrX := (hr1.other (c := b6) (by have := HB2.out; omega) (.int .i64 N') (.float .f64 M') (.float .f64 V')).below ((Below.refl _ _).alloc (Nat.le_refl _) (.cells #[.int .i64 N', .float .f64 M', .float .f64 V'] 24)) (by simpa using hb3m)
        have hBX := (set3B (x := .int .i64 N') (y := .float .f64 M') (z := .float .f64 V') hB1.out b6 (by have := HB2.out; omega)).alloc (by have := hB1.out.size; simpa using this) (.cells #[.int .i64 N', .float .f64 M', .float .f64 V'] 24)
        have HM64 := Lib.hid (show M' < 2 ^ 64 ∧ V' < 2 ^ 64 from ⟨by unfold infR at k3; omega, by unfold infR at k4; omega⟩)
        go_wp2_with fail
        clear c0 c1 c2 f0 f1 f2 hg1 hr1 ho1 hb6m hb3m
        generalize ((((w1.setCell ⟨b6, 0, none⟩ (.int .i64 N')).setCell ⟨b6, 1, none⟩ (.float .f64 M')).setCell ⟨b6, 2, none⟩ (.float .f64 V')).alloc (.cells #[.int .i64 N', .float .f64 M', .float .f64 V'] 24)) = wX at *
        obtain ⟨a', c', he, hncX, hfX, hnnX⟩ := floats_of_own hoX okf
        obtain ⟨rfl, _, rfl⟩ := Value.slice.inj he
        refine (holding_any _ _ _ held N' M' V' wX hfX (by omega) HM64.out.1 HM64.out.2).mono ?_
        rintro e w2 ⟨rfl, b2⟩
        have hs2 := b2.size
        have ho2 := own_below hoX b2
        have hx64 := heldF_lt held (N', M', V') okf
        generalize heldF held (N', M', V') = x at *
        have hg2 := hgX.below b2 (by omega)
        have hr2 := hrX.below b2 (by omega)
        have hB2 := Lib.hid (below_next hBX b2)
        have h1f := one_float w2 x hx64 22
        go_wp2_with (at_builtin; refine wpList_append_floats _ rfl _ _ 37 rfl base 22 i0 Try.underlying37 hi hz0 hz1 hz2 _ held.length held rfl (ho2.alloc _) (some ⟨w2.heap.size, 0, none⟩) 1 1 [x] rfl h1f (fun h => by cases h) (by unfold maxLen; omega) (by omega) (by simp; omega) ?_; intro v3 w3 hown3 (hgrow3 : World.grownBy _ _ (Value.slice ao held.length co).ownBlock); have HO3 := Lib.hid hown3; have HG3 := Lib.hid hgrow3; clear hown3 hgrow3)
        have hrow : ∀ j, (Value.slice ao held.length co).ownBlock = some j → base ≤ j := fun j hj => (ho2.lt j hj).1
        have hlenA : (held ++ [x]).length = held.length + 1 := by simp
        refine ⟨HGo.out _ _ (HAt.out _ _ (fun st hst => by rw [← hst, HNext.out]; exact ⟨by show w3.ownsRow base _ 1 v3 (held ++ [x]).length ((held ++ [x]).map (Value.float .f64)); rw [hlenA]; exact HO3.out,
            (hg2.below ((Below.refl _ _).alloc (Nat.le_refl _) _) (by omega)).grown HG3.out (by simp; omega) (fun h => by have := hrow _ h; have := HB2.out; omega)⟩)
          ((hr2.below ((Below.refl _ _).alloc (Nat.le_refl _) _) (by omega)).grown HG3.out (by simp; omega) (fun h => by have := hrow _ h; have := HB2.out; omega))
          (Below.grown (hB2.out.alloc hB2.out.size _) HG3.out (by have := hB2.out.size; simp; omega) (fun j hj => by have := hrow _ hj; have := HB2.out; omega)) (by have := HG3.out.size; simp at this; omega)), ?_⟩
        simp [intOf]; omega
      · rw [if_neg hne] at HNext
        have hne' : (E != 0) = true := by simpa using hne
        go_wp2_with fail
        go_roundw
        case rel => exact HGo.out _ _ (HAt.out _ _ (fun st hst => by rw [← hst, HNext.out]; exact ⟨ho1.alloc _, hg1.below ((Below.refl _ _).alloc (Nat.le_refl _) _) hb6m⟩) (hr1.below ((Below.refl _ _).alloc (Nat.le_refl _) _) hb3m) (hB1.out.alloc hB1.out.size _) (by simp; omega))
        case measure => simp [intOf]; omega
    · obtain rfl : k = len := by omega
      clear HS
      obtain ⟨st, hst0⟩ : ∃ st, runTo zs k = st := ⟨_, rfl⟩
      have HST := Lib.hid hst0
      rw [hst0] at hown hgau okl okf okn okm okv
      clear hst0
      obtain ⟨held, N, M, V⟩ := st
      simp only at hown hgau okl okf okn okm okv
      obtain ⟨ao, co, rfl, hnc, hfl, hnn⟩ := floats_of_own hown okf
      have ho2 := own_set3 hown (b := b3) (by have := HB2.out; omega) (.int .i64 N) (.float .f64 M) (.float .f64 V)
      obtain ⟨a', c', he, _, hfX, _⟩ := floats_of_own ho2 okf
      obtain ⟨rfl, _, rfl⟩ := Value.slice.inj he
      have HX := Lib.hid hfX
      have HB9 := Lib.hid (set3B (x := .int .i64 N) (y := .float .f64 M) (z := .float .f64 V) HBel.out b3 (by omega))
      have hwr : IntKind.i64.wrap ((k : Int) - (held.length : Int)) = (k : Int) - (held.length : Int) := by go_arith
      clear he hfX ho2 okf okn okm okv hfl
      obtain ⟨c0, c1, c2, f0, f1, f2⟩ := id hgau
      obtain ⟨d0, d1, d2, q0, q1, q2⟩ := id hres
      have hne36 : b6 ≠ b3 := by have := HB2.out; omega
      go_wp2_with fail
      go_region_with (fail)
      all_goals go_wp2_with fail
      all_goals
        (try simp only [Exit.inBlock, Exit.then])
        refine bodyPost_ret (v := .tuple #[.slice ao held.length co, gaug N M V, .int .i64 ((k : Int) - (held.length : Int))]) (by simp [results, Try.results20, go_sem, d0, d1, d2, hwr]) rfl ?_
        exact ⟨ao, co, by rw [HST.out], by rw [HST.out]; exact HX.out, HB9.out.drew⟩
end Go.Proofs.Ytbgnheckoijmeaa
