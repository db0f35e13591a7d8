/- Caches, the document: of how many destinations a list has something else. -/
import Derived.Test.YtjhmfmpaaljegaaGreatKwJ
import Derived.Test.YtjhmfmpaaljegaaGreatMiA
namespace Go.Proofs.YtjhmfmpaaljegaaGreat
open Go.RowKit Go.Lib Go.Ow Go.Cw Go.Fq Go.Mq Go.Kq Go.Kw
set_option linter.unusedVariables false
set_option linter.unusedSimpArgs false
set_option maxRecDepth 100000

/-- Is a News counted? -/
def isCh (b : List Nw) (sm : Bool) (y : Nw) : Bool := match fndN b y.kind y.dest with
  | none => true
  | some x => sm && !(nwE x y)
def cntCh (a b : List Nw) (sm : Bool) : Nat := a.countP (isCh b sm)
theorem kwp_store {op : Oper} {a : Act} {w : World} {K : Act → World → Prop} {Q : Exit → Act → World → Prop} (ty : TypeId) (x y : Operand) (ho : op.op = .store ty x y)
    (b o : Nat) (cs : List Value) (hx : a.eval x = .pointer (some ⟨b, o, none⟩)) (hy : a.eval y = .agg cs.toArray)
    (ht : w.there b o cs.length) (hi : (Tryz.prog.info? ty).map (·.size) = some cs.length) (h1 : ∀ v ∈ cs, v.oneCell' = true)
    (h : ∀ w', w'.rangeAt b o cs → (∀ B, B ≤ b → Below B w w') → (b < w.heap.size → b < w'.heap.size) → K (a.put op.dst undef) w') : op.wp Tryz.prog a w K Q :=
  wp_store_mid ty x y ho b o cs.toArray hx hy (by simpa using ht) (by simpa using hi) (all_oneCell_toArray h1) (h _ (World.rangeAt_setCells_same w b o cs ht) (fun B hB => below_set b hB _ o _ (Below.refl _ _)) (fun hb => by rw [setCells_size]; exact hb))
theorem one_in {V : World} {p : Nat} {x : Nw} (h : V.rangeAt p 0 (nC x)) (hp : p < V.heap.size) : NewsIn V V.heap.size [x] (some ⟨p, 0, none⟩) :=
  Or.inr ⟨p, 0, rfl, hp, fun k hk => by
    have : k = 0 := by simp at hk; omega
    subst this
    have h2 : V.rangeAt p 0 (nRow [x]) := by simpa [nRow] using h
    exact nw_of_range h2 0 (by simp)⟩
theorem two_fst (V : World) (cs ds : List Value) (t : TypeId) : ((V.alloc (.cells cs.toArray t)).alloc (.cells ds.toArray t)).rangeAt V.heap.size 0 cs := below_keep (gAl _ _) (by simp) (range_box0 V cs t)
theorem two_snd (V : World) (cs ds : List Value) (t : TypeId) : ((V.alloc (.cells cs.toArray t)).alloc (.cells ds.toArray t)).rangeAt (V.heap.size + 1) 0 ds := by
  have := range_box0 (V.alloc (.cells cs.toArray t)) ds t
  simpa using this
theorem rng_ofL {w : World} {l : List Nw} {b o i : Nat} (hat : ∀ k (h : k < l.length), NwAt w b (o + k * 5) l[k]) (hi : i < l.length) (hb : b < w.heap.size) : ∀ V, Below w.heap.size w V → V.rangeAt b (o + i * 5) (nC l[i]) := fun V hV => by
  have h1 := NwS.range (l := [l[i]]) (b := b) (o := o + i * 5) (w := w) (fun j hj => by
    have : j = 0 := by simp at hj; omega
    subst this
    simpa using hat i hi)
  exact below_keep hV hb (by simpa [nRow] using h1)
set_option maxHeartbeats 16000000 in
theorem rChangedF (a b : List Nw) (aa ab : Option Addr) (ca cb : Nat) (w : World) (ha : NewsIn w w.heap.size a aa) (hb : NewsIn w w.heap.size b ab) (hal : a.length ≤ 8589934588) (hbl : b.length ≤ 8589934588) :
    Calls Tryz.prog 50 #[.slice aa a.length ca, .slice ab b.length cb, .bool false] w fun e w' => e = .returned (.int .i64 (cntCh a b false : Int)) ∧ Below w.heap.size w w' := by
  have HA := Lib.hid ha
  have HB := Lib.hid hb
  have HLE := Lib.hid (And.intro hal hbl)
  clear ha hb hal hbl
  go_enter Tryz.func50, Tryz.ntmps50
  go_wp2_with fail
  go_loopw [7, 8] (fun nv iv wr => ∃ (k n : Nat), nv = .int .i64 (n : Int) ∧ iv = .int .i64 (k : Int) ∧ k ≤ a.length ∧ n = cntCh (a.take k) b false ∧ Below w.heap.size w wr) (fun _ iv _ => a.length - (RowKit.intOf iv).toNat)
  case atStart => exact ⟨0, 0, rfl, rfl, Nat.zero_le _, rfl, Below.refl _ _⟩
  case round =>
    obtain ⟨k, n, rfl, rfl, hk, hn, hbel⟩ := hrel
    have HBEL := Lib.hid hbel
    have HNN := Lib.hid hn
    by_cases hlt : k < a.length
    · have hlti : (k : Int) < (a.length : Int) := by omega
      have hk0 : (0 : Int) ≤ (k : Int) := by omega
      have hkw : IntKind.i64.wrap ((k : Int) + 1) = (k : Int) + 1 := by rw [IntKind.wrap_i64]; have := HLE.out; omega
      have hnk : n ≤ k := by rw [hn]; refine Nat.le_trans List.countP_le_length ?_; rw [List.length_take]; omega
      have hnw : IntKind.i64.wrap ((n : Int) + 1) = (n : Int) + 1 := by rw [IntKind.wrap_i64]; have := HLE.out; omega
      obtain ⟨ba, oa, rfl, hba, hat⟩ := HA.out.at k hlt
      have HKX := Lib.hid (rng_ofL hat hlt hba)
      have hst : cntCh (a.take (k + 1)) b false = cntCh (a.take k) b false + (if isCh b false a[k] then 1 else 0) := by
        rw [List.take_succ_eq_append_getElem hlt]
        unfold cntCh
        rw [List.countP_append]
        simp [List.countP_cons]
      have HST := Lib.hid hst
      clear hat hst
      generalize a[k] = y at *
      have HKA : Hid (∀ V, Below w.heap.size w V → V.cell? ⟨ba, oa + k * 5, none⟩ = some (.int .i64 y.dest) ∧ V.cell? ⟨ba, oa + k * 5 + 1, none⟩ = some (.int .i64 y.kind)) := Lib.hid (fun V hV => ⟨HKX.out V hV 0 _ rfl, HKX.out V hV 1 _ rfl⟩)
      have HFD := Lib.hid (fun V (hV : Below w.heap.size w V) => rFind_any b ab cb y.kind y.dest V (HB.out.kept (fun i hi => hV.block i hi) hV.size) (by have := HLE.out; omega))
      have HNX0 : Hid (isCh b false y = false → ∀ V, Below w.heap.size w V → (∃ (k' n' : Nat), Value.int .i64 (n : Int) = .int .i64 (n' : Int) ∧ Value.int .i64 ((k : Int) + 1) = .int .i64 (k' : Int) ∧ k' ≤ a.length ∧ n' = cntCh (a.take k') b false ∧ Below w.heap.size w V) ∧ a.length - ((k : Int) + 1).toNat < a.length - (k : Int).toNat) := Lib.hid (fun h V hV => ⟨⟨k + 1, n, rfl, congrArg (Value.int .i64) (by omega), hlt, by rw [HST.out, h, hn]; rfl, hV⟩, by omega⟩)
      have HNX1 : Hid (isCh b false y = true → ∀ V, Below w.heap.size w V → (∃ (k' n' : Nat), Value.int .i64 ((n : Int) + 1) = .int .i64 (n' : Int) ∧ Value.int .i64 ((k : Int) + 1) = .int .i64 (k' : Int) ∧ k' ≤ a.length ∧ n' = cntCh (a.take k') b false ∧ Below w.heap.size w V) ∧ a.length - ((k : Int) + 1).toNat < a.length - (k : Int).toNat) := Lib.hid (fun h V hV => ⟨⟨k + 1, n + 1, congrArg (Value.int .i64) (by omega), congrArg (Value.int .i64) (by omega), hlt, by rw [HST.out, h, hn]; rfl, hV⟩, by omega⟩)
      have HTH : Hid (isCh b false y = if (fndN b y.kind y.dest).isSome then false && !(nwE ((fndN b y.kind y.dest).getD zeroN) y) else true) := Lib.hid (by unfold isCh; cases fndN b y.kind y.dest <;> rfl)
      have HWS : Hid (w.heap.size ≤ wr.heap.size) := Lib.hid hbel.size
      generalize (fndN b y.kind y.dest).isSome = th at *
      generalize (fndN b y.kind y.dest).getD zeroN = x at *
      clear hn hnk hk hlt hba
      go_upto_region 5 with (fail)
      refine wp_region_held_drew (S := fun V => Below w.heap.size w V) (by kernel_rfl) hbel.drew (fun hs0 => ?_)
      clear hbel
      refine tk 0 (by assumption) rfl (by kernel_rfl) (fun _ _ _ h => h) (fun V hV => by go_simp; try with_reducible rfl) ?_
      try simp only [Act.put, sqA, sqB, sqC, sqD, sqE, sqF]
      refine tk 1 (by assumption) rfl (by kernel_rfl) (fun _ _ _ h => h) (fun V hV => by go_simp; try with_reducible rfl) ?_
      try simp only [Act.put, sqA, sqB, sqC, sqD, sqE, sqF]
      refine tk 2 (by assumption) rfl (by kernel_rfl) (fun _ _ _ h => h) (fun V hV => by go_simp; try with_reducible rfl) ?_
      try simp only [Act.put, sqA, sqB, sqC, sqD, sqE, sqF]
      refine tk 3 (by assumption) rfl (by kernel_rfl) (fun _ _ _ h => h) (fun V hV => by go_simp; try with_reducible rfl) ?_
      try simp only [Act.put, sqA, sqB, sqC, sqD, sqE, sqF]
      refine tk 4 (by assumption) rfl (by kernel_rfl) (fun _ _ _ h => h) (fun V hV => by go_simp; try with_reducible rfl) ?_
      try simp only [Act.put, sqA, sqB, sqC, sqD, sqE, sqF]
      refine tk 5 (by assumption) rfl (by kernel_rfl) (fun _ _ _ h => h) (fun V hV => by obtain ⟨hx0, hx1⟩ := HKA.out V hV; go_simp; try with_reducible rfl) ?_
      try simp only [Act.put, sqA, sqB, sqC, sqD, sqE, sqF]
      refine tk 6 (by assumption) rfl (by kernel_rfl) (fun _ _ _ h => h) (fun V hV => by go_simp; try with_reducible rfl) ?_
      try simp only [Act.put, sqA, sqB, sqC, sqD, sqE, sqF]
      refine tk 7 (by assumption) rfl (by kernel_rfl) (fun _ _ _ h => h) (fun V hV => by go_simp; try with_reducible rfl) ?_
      try simp only [Act.put, sqA, sqB, sqC, sqD, sqE, sqF]
      refine tk 8 (by assumption) rfl (by kernel_rfl) (fun _ _ _ h => h) (fun V hV => by go_simp; try with_reducible rfl) ?_
      try simp only [Act.put, sqA, sqB, sqC, sqD, sqE, sqF]
      refine tk 9 (by assumption) rfl (by kernel_rfl) (fun _ _ _ h => h) (fun V hV => by go_simp; try with_reducible rfl) ?_
      try simp only [Act.put, sqA, sqB, sqC, sqD, sqE, sqF]
      refine tk 10 (by assumption) rfl (by kernel_rfl) (fun _ _ _ h => h) (fun V hV => by obtain ⟨hx0, hx1⟩ := HKA.out V hV; go_simp; try with_reducible rfl) ?_
      try simp only [Act.put, sqA, sqB, sqC, sqD, sqE, sqF]
      refine wpAnyH_ready (rs := [11, 15]) (by kernel_rfl) (by simp) ?_
      refine AllReadyH.cons (o := _) rfl (fun K hK => ?_) (AllReadyH.cons (o := _) rfl (fun K hK => ?_) (AllReadyH.nil))
      · go_simp
        refine (HFD.out _ hs0).mono ?_
        rintro e2 V2 ⟨rfl, hb2⟩
        go_wp2_with fail
        refine hK.out _ _ (hs0.trans (hb2.mono hs0.size)) (fun hs0 => ?_)
        clear hK K
        try simp only [Act.put, sqA, sqB, sqC, sqD, sqE, sqF]
        refine tk 12 (by assumption) rfl (by kernel_rfl) (fun _ _ _ h => h) (fun V hV => by go_simp; try with_reducible rfl) ?_
        try simp only [Act.put, sqA, sqB, sqC, sqD, sqE, sqF]
        refine tk 13 (by assumption) rfl (by kernel_rfl) (fun _ _ _ h => h) (fun V hV => by go_simp; try with_reducible rfl) ?_
        try simp only [Act.put, sqA, sqB, sqC, sqD, sqE, sqF]
        refine tk 14 (by assumption) rfl (by kernel_rfl) (fun _ _ _ h => h) (fun V hV => by go_simp; try with_reducible rfl) ?_
        try simp only [Act.put, sqA, sqB, sqC, sqD, sqE, sqF]
        refine wpAnyH_ready (rs := [15]) (by kernel_rfl) (by simp) ?_
        refine AllReadyH.cons (o := _) rfl (fun K hK => ?_) AllReadyH.nil
        have HQW := Lib.hid hs0.size
        go_simp
        refine hK.out _ _ (hs0.trans ((gAl _ _).mono hs0.size)) (fun hs0 => ?_)
        clear hK K
        try simp only [Act.put, sqA, sqB, sqC, sqD, sqE, sqF]
        refine wpAnyH_ready (rs := [16]) (by kernel_rfl) (by simp) ?_
        refine AllReadyH.cons (o := _) rfl (fun K hK => ?_) AllReadyH.nil
        rw [if_pos (by rfl)]
        refine kwp_store 61 (.tmp 9) (.tmp 30) rfl _ 0 (nC x) rfl rfl (by first | exact there_box _ (nC zeroN) _ | exact there_keep hb2 (by simp) (there_box _ (nC zeroN) _)) rfl (nC_one x) (fun V9 hq0 hq1 hq2 => ?_)
        have hs9 := hs0.trans (hq1 _ HQW.out)
        have hq3 := hq2 (by first | (simp; done) | (have := hb2.size; simp at this; omega))
        clear hq2
        refine hK.out _ _ hs9 (fun hs0 => ?_)
        clear hK K
        try simp only [Act.put, sqA, sqB, sqC, sqD, sqE, sqF]
        refine tk 17 (by assumption) rfl (by kernel_rfl) (fun _ _ _ h => h) (fun V hV => by go_simp; try with_reducible rfl) ?_
        try simp only [Act.put, sqA, sqB, sqC, sqD, sqE, sqF]
        refine wpAnyH_done (by kernel_rfl) ?_ _
        have HKQ := Lib.hid (fun V (hV : Below V9.heap.size V9 V) => below_keep hV hq3 hq0)
        have HS9 := Lib.hid hs9
        have HKY : Hid (∀ V, Below V9.heap.size V9 V → V.rangeAt ba (oa + k * 5) (nC y)) := Lib.hid (fun V hV => HKX.out V (HS9.out.trans (hV.mono HS9.out.size)))
        clear hq0 hq1 hq3 hs9 hs0 HQW
        cases th with
        | false =>
          have HN1 := Lib.hid (HNX1.out (by rw [HTH.out]; rfl))
          go_upto_region 6 with (fail)
          refine wp_region_held_drew (S := fun V => Below V9.heap.size V9 V) (by kernel_rfl) (Below.refl _ V9).drew (fun hs0 => ?_)
          clear HKA
          refine tk 0 (by assumption) rfl (by kernel_rfl) (fun _ _ _ h => h) (fun V hV => by go_simp; try with_reducible rfl) ?_
          try simp only [Act.put, sqA, sqB, sqC, sqD, sqE, sqF]
          refine tk 1 (by assumption) rfl (by kernel_rfl) (fun _ _ _ h => h) (fun V hV => by go_simp; try with_reducible rfl) ?_
          try simp only [Act.put, sqA, sqB, sqC, sqD, sqE, sqF]
          refine tk 2 (by assumption) rfl (by kernel_rfl) (fun _ _ _ h => h) (fun V hV => by go_simp; try with_reducible rfl) ?_
          try simp only [Act.put, sqA, sqB, sqC, sqD, sqE, sqF]
          refine wpAnyH_take (i := 3) (oi := _) (v := undef) rfl (by kernel_rfl) (by kernel_rfl) (by kernel_rfl) (fun _ _ _ h => h) (Or.inr ⟨by kernel_rfl, rfl⟩) (by assumption) ?_
          try simp only [Act.put, sqA, sqB, sqC, sqD, sqE, sqF]
          refine wpAnyH_take (i := 4) (oi := _) (v := undef) rfl (by kernel_rfl) (by kernel_rfl) (by kernel_rfl) (fun _ _ _ h => h) (Or.inr ⟨by kernel_rfl, rfl⟩) (by assumption) ?_
          try simp only [Act.put, sqA, sqB, sqC, sqD, sqE, sqF]
          refine wpAnyH_take (i := 5) (oi := _) (v := undef) rfl (by kernel_rfl) (by kernel_rfl) (by kernel_rfl) (fun _ _ _ h => h) (Or.inr ⟨by kernel_rfl, rfl⟩) (by assumption) ?_
          try simp only [Act.put, sqA, sqB, sqC, sqD, sqE, sqF]
          refine wpAnyH_take (i := 6) (oi := _) (v := undef) rfl (by kernel_rfl) (by kernel_rfl) (by kernel_rfl) (fun _ _ _ h => h) (Or.inr ⟨by kernel_rfl, rfl⟩) (by assumption) ?_
          try simp only [Act.put, sqA, sqB, sqC, sqD, sqE, sqF]
          refine wpAnyH_take (i := 7) (oi := _) (v := undef) rfl (by kernel_rfl) (by kernel_rfl) (by kernel_rfl) (fun _ _ _ h => h) (Or.inr ⟨by kernel_rfl, rfl⟩) (by assumption) ?_
          try simp only [Act.put, sqA, sqB, sqC, sqD, sqE, sqF]
          refine wpAnyH_take (i := 8) (oi := _) (v := undef) rfl (by kernel_rfl) (by kernel_rfl) (by kernel_rfl) (fun _ _ _ h => h) (Or.inr ⟨by kernel_rfl, rfl⟩) (by assumption) ?_
          try simp only [Act.put, sqA, sqB, sqC, sqD, sqE, sqF]
          refine wpAnyH_take (i := 9) (oi := _) (v := undef) rfl (by kernel_rfl) (by kernel_rfl) (by kernel_rfl) (fun _ _ _ h => h) (Or.inr ⟨by kernel_rfl, rfl⟩) (by assumption) ?_
          try simp only [Act.put, sqA, sqB, sqC, sqD, sqE, sqF]
          refine wpAnyH_take (i := 10) (oi := _) (v := undef) rfl (by kernel_rfl) (by kernel_rfl) (by kernel_rfl) (fun _ _ _ h => h) (Or.inr ⟨by kernel_rfl, rfl⟩) (by assumption) ?_
          try simp only [Act.put, sqA, sqB, sqC, sqD, sqE, sqF]
          refine wpAnyH_take (i := 11) (oi := _) (v := undef) rfl (by kernel_rfl) (by kernel_rfl) (by kernel_rfl) (fun _ _ _ h => h) (Or.inr ⟨by kernel_rfl, rfl⟩) (by assumption) ?_
          try simp only [Act.put, sqA, sqB, sqC, sqD, sqE, sqF]
          refine wpAnyH_take (i := 12) (oi := _) (v := undef) rfl (by kernel_rfl) (by kernel_rfl) (by kernel_rfl) (fun _ _ _ h => h) (Or.inr ⟨by kernel_rfl, rfl⟩) (by assumption) ?_
          try simp only [Act.put, sqA, sqB, sqC, sqD, sqE, sqF]
          refine wpAnyH_take (i := 13) (oi := _) (v := undef) rfl (by kernel_rfl) (by kernel_rfl) (by kernel_rfl) (fun _ _ _ h => h) (Or.inr ⟨by kernel_rfl, rfl⟩) (by assumption) ?_
          try simp only [Act.put, sqA, sqB, sqC, sqD, sqE, sqF]
          refine wpAnyH_take (i := 14) (oi := _) (v := undef) rfl (by kernel_rfl) (by kernel_rfl) (by kernel_rfl) (fun _ _ _ h => h) (Or.inr ⟨by kernel_rfl, rfl⟩) (by assumption) ?_
          try simp only [Act.put, sqA, sqB, sqC, sqD, sqE, sqF]
          refine tk 15 (by assumption) rfl (by kernel_rfl) (fun _ _ _ h => h) (fun V hV => by go_simp; try with_reducible rfl) ?_
          try simp only [Act.put, sqA, sqB, sqC, sqD, sqE, sqF]
          refine wpAnyH_done (by kernel_rfl) ?_ _
          have HS8 := Lib.hid (HS9.out.trans (hs0.mono HS9.out.size))
          clear hs0
          go_wp2_with fail
          exact HN1.out _ HS8.out
        | true =>
          have HN0 := Lib.hid (HNX0.out (by rw [HTH.out]; rfl))
          go_upto_region 6 with (fail)
          refine wp_region_held_drew (S := fun V => Below V9.heap.size V9 V) (by kernel_rfl) (Below.refl _ V9).drew (fun hs0 => ?_)
          clear HKA
          refine tk 0 (by assumption) rfl (by kernel_rfl) (fun _ _ _ h => h) (fun V hV => by go_simp; try with_reducible rfl) ?_
          try simp only [Act.put, sqA, sqB, sqC, sqD, sqE, sqF]
          refine tk 1 (by assumption) rfl (by kernel_rfl) (fun _ _ _ h => h) (fun V hV => by go_simp; try with_reducible rfl) ?_
          try simp only [Act.put, sqA, sqB, sqC, sqD, sqE, sqF]
          refine tk 2 (by assumption) rfl (by kernel_rfl) (fun _ _ _ h => h) (fun V hV => by go_simp; try with_reducible rfl) ?_
          try simp only [Act.put, sqA, sqB, sqC, sqD, sqE, sqF]
          refine tk 3 (by assumption) rfl (by kernel_rfl) (fun _ _ _ h => h) (fun V hV => by go_simp; try with_reducible rfl) ?_
          try simp only [Act.put, sqA, sqB, sqC, sqD, sqE, sqF]
          refine tk 4 (by assumption) rfl (by kernel_rfl) (fun _ _ _ h => h) (fun V hV => by go_simp; try with_reducible rfl) ?_
          try simp only [Act.put, sqA, sqB, sqC, sqD, sqE, sqF]
          refine wpAnyH_take (i := 5) (oi := _) (v := undef) rfl (by kernel_rfl) (by kernel_rfl) (by kernel_rfl) (fun _ _ _ h => h) (Or.inr ⟨by kernel_rfl, rfl⟩) (by assumption) ?_
          try simp only [Act.put, sqA, sqB, sqC, sqD, sqE, sqF]
          refine wpAnyH_take (i := 6) (oi := _) (v := undef) rfl (by kernel_rfl) (by kernel_rfl) (by kernel_rfl) (fun _ _ _ h => h) (Or.inr ⟨by kernel_rfl, rfl⟩) (by assumption) ?_
          try simp only [Act.put, sqA, sqB, sqC, sqD, sqE, sqF]
          refine wpAnyH_take (i := 7) (oi := _) (v := undef) rfl (by kernel_rfl) (by kernel_rfl) (by kernel_rfl) (fun _ _ _ h => h) (Or.inr ⟨by kernel_rfl, rfl⟩) (by assumption) ?_
          try simp only [Act.put, sqA, sqB, sqC, sqD, sqE, sqF]
          refine wpAnyH_take (i := 8) (oi := _) (v := undef) rfl (by kernel_rfl) (by kernel_rfl) (by kernel_rfl) (fun _ _ _ h => h) (Or.inr ⟨by kernel_rfl, rfl⟩) (by assumption) ?_
          try simp only [Act.put, sqA, sqB, sqC, sqD, sqE, sqF]
          refine wpAnyH_take (i := 9) (oi := _) (v := undef) rfl (by kernel_rfl) (by kernel_rfl) (by kernel_rfl) (fun _ _ _ h => h) (Or.inr ⟨by kernel_rfl, rfl⟩) (by assumption) ?_
          try simp only [Act.put, sqA, sqB, sqC, sqD, sqE, sqF]
          refine wpAnyH_take (i := 10) (oi := _) (v := undef) rfl (by kernel_rfl) (by kernel_rfl) (by kernel_rfl) (fun _ _ _ h => h) (Or.inr ⟨by kernel_rfl, rfl⟩) (by assumption) ?_
          try simp only [Act.put, sqA, sqB, sqC, sqD, sqE, sqF]
          refine wpAnyH_take (i := 11) (oi := _) (v := undef) rfl (by kernel_rfl) (by kernel_rfl) (by kernel_rfl) (fun _ _ _ h => h) (Or.inr ⟨by kernel_rfl, rfl⟩) (by assumption) ?_
          try simp only [Act.put, sqA, sqB, sqC, sqD, sqE, sqF]
          refine wpAnyH_take (i := 12) (oi := _) (v := undef) rfl (by kernel_rfl) (by kernel_rfl) (by kernel_rfl) (fun _ _ _ h => h) (Or.inr ⟨by kernel_rfl, rfl⟩) (by assumption) ?_
          try simp only [Act.put, sqA, sqB, sqC, sqD, sqE, sqF]
          refine wpAnyH_take (i := 13) (oi := _) (v := undef) rfl (by kernel_rfl) (by kernel_rfl) (by kernel_rfl) (fun _ _ _ h => h) (Or.inr ⟨by kernel_rfl, rfl⟩) (by assumption) ?_
          try simp only [Act.put, sqA, sqB, sqC, sqD, sqE, sqF]
          refine tk 14 (by assumption) rfl (by kernel_rfl) (fun _ _ _ h => h) (fun V hV => by go_simp; try with_reducible rfl) ?_
          try simp only [Act.put, sqA, sqB, sqC, sqD, sqE, sqF]
          refine tk 15 (by assumption) rfl (by kernel_rfl) (fun _ _ _ h => h) (fun V hV => by go_simp; try with_reducible rfl) ?_
          try simp only [Act.put, sqA, sqB, sqC, sqD, sqE, sqF]
          refine wpAnyH_done (by kernel_rfl) ?_ _
          have HS8 := Lib.hid (HS9.out.trans (hs0.mono HS9.out.size))
          clear hs0
          go_wp2_with fail
          exact HN0.out _ HS8.out
      · have HQW := Lib.hid hs0.size
        go_simp
        refine hK.out _ _ (hs0.trans ((gAl _ _).mono hs0.size)) (fun hs0 => ?_)
        clear hK K
        try simp only [Act.put, sqA, sqB, sqC, sqD, sqE, sqF]
        refine wpAnyH_ready (rs := [11]) (by kernel_rfl) (by simp) ?_
        refine AllReadyH.cons (o := _) rfl (fun K hK => ?_) AllReadyH.nil
        go_simp
        refine (HFD.out _ hs0).mono ?_
        rintro e2 V2 ⟨rfl, hb2⟩
        go_wp2_with fail
        refine hK.out _ _ (hs0.trans (hb2.mono hs0.size)) (fun hs0 => ?_)
        clear hK K
        try simp only [Act.put, sqA, sqB, sqC, sqD, sqE, sqF]
        refine tk 12 (by assumption) rfl (by kernel_rfl) (fun _ _ _ h => h) (fun V hV => by go_simp; try with_reducible rfl) ?_
        try simp only [Act.put, sqA, sqB, sqC, sqD, sqE, sqF]
        refine tk 13 (by assumption) rfl (by kernel_rfl) (fun _ _ _ h => h) (fun V hV => by go_simp; try with_reducible rfl) ?_
        try simp only [Act.put, sqA, sqB, sqC, sqD, sqE, sqF]
        refine tk 14 (by assumption) rfl (by kernel_rfl) (fun _ _ _ h => h) (fun V hV => by go_simp; try with_reducible rfl) ?_
        try simp only [Act.put, sqA, sqB, sqC, sqD, sqE, sqF]
        refine wpAnyH_ready (rs := [16]) (by kernel_rfl) (by simp) ?_
        refine AllReadyH.cons (o := _) rfl (fun K hK => ?_) AllReadyH.nil
        rw [if_pos (by rfl)]
        refine kwp_store 61 (.tmp 9) (.tmp 30) rfl _ 0 (nC x) rfl rfl (by first | exact there_box _ (nC zeroN) _ | exact there_keep hb2 (by simp) (there_box _ (nC zeroN) _)) rfl (nC_one x) (fun V9 hq0 hq1 hq2 => ?_)
        have hs9 := hs0.trans (hq1 _ HQW.out)
        have hq3 := hq2 (by first | (simp; done) | (have := hb2.size; simp at this; omega))
        clear hq2
        refine hK.out _ _ hs9 (fun hs0 => ?_)
        clear hK K
        try simp only [Act.put, sqA, sqB, sqC, sqD, sqE, sqF]
        refine tk 17 (by assumption) rfl (by kernel_rfl) (fun _ _ _ h => h) (fun V hV => by go_simp; try with_reducible rfl) ?_
        try simp only [Act.put, sqA, sqB, sqC, sqD, sqE, sqF]
        refine wpAnyH_done (by kernel_rfl) ?_ _
        have HKQ := Lib.hid (fun V (hV : Below V9.heap.size V9 V) => below_keep hV hq3 hq0)
        have HS9 := Lib.hid hs9
        have HKY : Hid (∀ V, Below V9.heap.size V9 V → V.rangeAt ba (oa + k * 5) (nC y)) := Lib.hid (fun V hV => HKX.out V (HS9.out.trans (hV.mono HS9.out.size)))
        clear hq0 hq1 hq3 hs9 hs0 HQW
        cases th with
        | false =>
          have HN1 := Lib.hid (HNX1.out (by rw [HTH.out]; rfl))
          go_upto_region 6 with (fail)
          refine wp_region_held_drew (S := fun V => Below V9.heap.size V9 V) (by kernel_rfl) (Below.refl _ V9).drew (fun hs0 => ?_)
          clear HKA
          refine tk 0 (by assumption) rfl (by kernel_rfl) (fun _ _ _ h => h) (fun V hV => by go_simp; try with_reducible rfl) ?_
          try simp only [Act.put, sqA, sqB, sqC, sqD, sqE, sqF]
          refine tk 1 (by assumption) rfl (by kernel_rfl) (fun _ _ _ h => h) (fun V hV => by go_simp; try with_reducible rfl) ?_
          try simp only [Act.put, sqA, sqB, sqC, sqD, sqE, sqF]
          refine tk 2 (by assumption) rfl (by kernel_rfl) (fun _ _ _ h => h) (fun V hV => by go_simp; try with_reducible rfl) ?_
          try simp only [Act.put, sqA, sqB, sqC, sqD, sqE, sqF]
          refine wpAnyH_take (i := 3) (oi := _) (v := undef) rfl (by kernel_rfl) (by kernel_rfl) (by kernel_rfl) (fun _ _ _ h => h) (Or.inr ⟨by kernel_rfl, rfl⟩) (by assumption) ?_
          try simp only [Act.put, sqA, sqB, sqC, sqD, sqE, sqF]
          refine wpAnyH_take (i := 4) (oi := _) (v := undef) rfl (by kernel_rfl) (by kernel_rfl) (by kernel_rfl) (fun _ _ _ h => h) (Or.inr ⟨by kernel_rfl, rfl⟩) (by assumption) ?_
          try simp only [Act.put, sqA, sqB, sqC, sqD, sqE, sqF]
          refine wpAnyH_take (i := 5) (oi := _) (v := undef) rfl (by kernel_rfl) (by kernel_rfl) (by kernel_rfl) (fun _ _ _ h => h) (Or.inr ⟨by kernel_rfl, rfl⟩) (by assumption) ?_
          try simp only [Act.put, sqA, sqB, sqC, sqD, sqE, sqF]
          refine wpAnyH_take (i := 6) (oi := _) (v := undef) rfl (by kernel_rfl) (by kernel_rfl) (by kernel_rfl) (fun _ _ _ h => h) (Or.inr ⟨by kernel_rfl, rfl⟩) (by assumption) ?_
          try simp only [Act.put, sqA, sqB, sqC, sqD, sqE, sqF]
          refine wpAnyH_take (i := 7) (oi := _) (v := undef) rfl (by kernel_rfl) (by kernel_rfl) (by kernel_rfl) (fun _ _ _ h => h) (Or.inr ⟨by kernel_rfl, rfl⟩) (by assumption) ?_
          try simp only [Act.put, sqA, sqB, sqC, sqD, sqE, sqF]
          refine wpAnyH_take (i := 8) (oi := _) (v := undef) rfl (by kernel_rfl) (by kernel_rfl) (by kernel_rfl) (fun _ _ _ h => h) (Or.inr ⟨by kernel_rfl, rfl⟩) (by assumption) ?_
          try simp only [Act.put, sqA, sqB, sqC, sqD, sqE, sqF]
          refine wpAnyH_take (i := 9) (oi := _) (v := undef) rfl (by kernel_rfl) (by kernel_rfl) (by kernel_rfl) (fun _ _ _ h => h) (Or.inr ⟨by kernel_rfl, rfl⟩) (by assumption) ?_
          try simp only [Act.put, sqA, sqB, sqC, sqD, sqE, sqF]
          refine wpAnyH_take (i := 10) (oi := _) (v := undef) rfl (by kernel_rfl) (by kernel_rfl) (by kernel_rfl) (fun _ _ _ h => h) (Or.inr ⟨by kernel_rfl, rfl⟩) (by assumption) ?_
          try simp only [Act.put, sqA, sqB, sqC, sqD, sqE, sqF]
          refine wpAnyH_take (i := 11) (oi := _) (v := undef) rfl (by kernel_rfl) (by kernel_rfl) (by kernel_rfl) (fun _ _ _ h => h) (Or.inr ⟨by kernel_rfl, rfl⟩) (by assumption) ?_
          try simp only [Act.put, sqA, sqB, sqC, sqD, sqE, sqF]
          refine wpAnyH_take (i := 12) (oi := _) (v := undef) rfl (by kernel_rfl) (by kernel_rfl) (by kernel_rfl) (fun _ _ _ h => h) (Or.inr ⟨by kernel_rfl, rfl⟩) (by assumption) ?_
          try simp only [Act.put, sqA, sqB, sqC, sqD, sqE, sqF]
          refine wpAnyH_take (i := 13) (oi := _) (v := undef) rfl (by kernel_rfl) (by kernel_rfl) (by kernel_rfl) (fun _ _ _ h => h) (Or.inr ⟨by kernel_rfl, rfl⟩) (by assumption) ?_
          try simp only [Act.put, sqA, sqB, sqC, sqD, sqE, sqF]
          refine wpAnyH_take (i := 14) (oi := _) (v := undef) rfl (by kernel_rfl) (by kernel_rfl) (by kernel_rfl) (fun _ _ _ h => h) (Or.inr ⟨by kernel_rfl, rfl⟩) (by assumption) ?_
          try simp only [Act.put, sqA, sqB, sqC, sqD, sqE, sqF]
          refine tk 15 (by assumption) rfl (by kernel_rfl) (fun _ _ _ h => h) (fun V hV => by go_simp; try with_reducible rfl) ?_
          try simp only [Act.put, sqA, sqB, sqC, sqD, sqE, sqF]
          refine wpAnyH_done (by kernel_rfl) ?_ _
          have HS8 := Lib.hid (HS9.out.trans (hs0.mono HS9.out.size))
          clear hs0
          go_wp2_with fail
          exact HN1.out _ HS8.out
        | true =>
          have HN0 := Lib.hid (HNX0.out (by rw [HTH.out]; rfl))
          go_upto_region 6 with (fail)
          refine wp_region_held_drew (S := fun V => Below V9.heap.size V9 V) (by kernel_rfl) (Below.refl _ V9).drew (fun hs0 => ?_)
          clear HKA
          refine tk 0 (by assumption) rfl (by kernel_rfl) (fun _ _ _ h => h) (fun V hV => by go_simp; try with_reducible rfl) ?_
          try simp only [Act.put, sqA, sqB, sqC, sqD, sqE, sqF]
          refine tk 1 (by assumption) rfl (by kernel_rfl) (fun _ _ _ h => h) (fun V hV => by go_simp; try with_reducible rfl) ?_
          try simp only [Act.put, sqA, sqB, sqC, sqD, sqE, sqF]
          refine tk 2 (by assumption) rfl (by kernel_rfl) (fun _ _ _ h => h) (fun V hV => by go_simp; try with_reducible rfl) ?_
          try simp only [Act.put, sqA, sqB, sqC, sqD, sqE, sqF]
          refine tk 3 (by assumption) rfl (by kernel_rfl) (fun _ _ _ h => h) (fun V hV => by go_simp; try with_reducible rfl) ?_
          try simp only [Act.put, sqA, sqB, sqC, sqD, sqE, sqF]
          refine tk 4 (by assumption) rfl (by kernel_rfl) (fun _ _ _ h => h) (fun V hV => by go_simp; try with_reducible rfl) ?_
          try simp only [Act.put, sqA, sqB, sqC, sqD, sqE, sqF]
          refine wpAnyH_take (i := 5) (oi := _) (v := undef) rfl (by kernel_rfl) (by kernel_rfl) (by kernel_rfl) (fun _ _ _ h => h) (Or.inr ⟨by kernel_rfl, rfl⟩) (by assumption) ?_
          try simp only [Act.put, sqA, sqB, sqC, sqD, sqE, sqF]
          refine wpAnyH_take (i := 6) (oi := _) (v := undef) rfl (by kernel_rfl) (by kernel_rfl) (by kernel_rfl) (fun _ _ _ h => h) (Or.inr ⟨by kernel_rfl, rfl⟩) (by assumption) ?_
          try simp only [Act.put, sqA, sqB, sqC, sqD, sqE, sqF]
          refine wpAnyH_take (i := 7) (oi := _) (v := undef) rfl (by kernel_rfl) (by kernel_rfl) (by kernel_rfl) (fun _ _ _ h => h) (Or.inr ⟨by kernel_rfl, rfl⟩) (by assumption) ?_
          try simp only [Act.put, sqA, sqB, sqC, sqD, sqE, sqF]
          refine wpAnyH_take (i := 8) (oi := _) (v := undef) rfl (by kernel_rfl) (by kernel_rfl) (by kernel_rfl) (fun _ _ _ h => h) (Or.inr ⟨by kernel_rfl, rfl⟩) (by assumption) ?_
          try simp only [Act.put, sqA, sqB, sqC, sqD, sqE, sqF]
          refine wpAnyH_take (i := 9) (oi := _) (v := undef) rfl (by kernel_rfl) (by kernel_rfl) (by kernel_rfl) (fun _ _ _ h => h) (Or.inr ⟨by kernel_rfl, rfl⟩) (by assumption) ?_
          try simp only [Act.put, sqA, sqB, sqC, sqD, sqE, sqF]
          refine wpAnyH_take (i := 10) (oi := _) (v := undef) rfl (by kernel_rfl) (by kernel_rfl) (by kernel_rfl) (fun _ _ _ h => h) (Or.inr ⟨by kernel_rfl, rfl⟩) (by assumption) ?_
          try simp only [Act.put, sqA, sqB, sqC, sqD, sqE, sqF]
          refine wpAnyH_take (i := 11) (oi := _) (v := undef) rfl (by kernel_rfl) (by kernel_rfl) (by kernel_rfl) (fun _ _ _ h => h) (Or.inr ⟨by kernel_rfl, rfl⟩) (by assumption) ?_
          try simp only [Act.put, sqA, sqB, sqC, sqD, sqE, sqF]
          refine wpAnyH_take (i := 12) (oi := _) (v := undef) rfl (by kernel_rfl) (by kernel_rfl) (by kernel_rfl) (fun _ _ _ h => h) (Or.inr ⟨by kernel_rfl, rfl⟩) (by assumption) ?_
          try simp only [Act.put, sqA, sqB, sqC, sqD, sqE, sqF]
          refine wpAnyH_take (i := 13) (oi := _) (v := undef) rfl (by kernel_rfl) (by kernel_rfl) (by kernel_rfl) (fun _ _ _ h => h) (Or.inr ⟨by kernel_rfl, rfl⟩) (by assumption) ?_
          try simp only [Act.put, sqA, sqB, sqC, sqD, sqE, sqF]
          refine tk 14 (by assumption) rfl (by kernel_rfl) (fun _ _ _ h => h) (fun V hV => by go_simp; try with_reducible rfl) ?_
          try simp only [Act.put, sqA, sqB, sqC, sqD, sqE, sqF]
          refine tk 15 (by assumption) rfl (by kernel_rfl) (fun _ _ _ h => h) (fun V hV => by go_simp; try with_reducible rfl) ?_
          try simp only [Act.put, sqA, sqB, sqC, sqD, sqE, sqF]
          refine wpAnyH_done (by kernel_rfl) ?_ _
          have HS8 := Lib.hid (HS9.out.trans (hs0.mono HS9.out.size))
          clear hs0
          go_wp2_with fail
          exact HN0.out _ HS8.out
    · have hnki : ¬ (k : Int) < (a.length : Int) := by omega
      have HE : Hid (n = cntCh a b false) := Lib.hid (by rw [hn, List.take_of_length_le (by omega)])
      clear hn
      go_wp2_with fail
      refine bodyPost_ret (v := .int .i64 (n : Int)) (by simp [results, Tryz.results50, go_sem]) rfl ?_
      exact ⟨by rw [HE.out], hbel⟩
set_option maxHeartbeats 16000000 in
theorem rChangedT (a b : List Nw) (aa ab : Option Addr) (ca cb : Nat) (w : World) (ha : NewsIn w w.heap.size a aa) (hb : NewsIn w w.heap.size b ab) (hal : a.length ≤ 8589934588) (hbl : b.length ≤ 8589934588) :
    Calls Tryz.prog 50 #[.slice aa a.length ca, .slice ab b.length cb, .bool true] w fun e w' => e = .returned (.int .i64 (cntCh a b true : Int)) ∧ Below w.heap.size w w' := by
  have HA := Lib.hid ha
  have HB := Lib.hid hb
  have HLE := Lib.hid (And.intro hal hbl)
  clear ha hb hal hbl
  go_enter Tryz.func50, Tryz.ntmps50
  go_wp2_with fail
  go_loopw [7, 8] (fun nv iv wr => ∃ (k n : Nat), nv = .int .i64 (n : Int) ∧ iv = .int .i64 (k : Int) ∧ k ≤ a.length ∧ n = cntCh (a.take k) b true ∧ Below w.heap.size w wr) (fun _ iv _ => a.length - (RowKit.intOf iv).toNat)
  case atStart => exact ⟨0, 0, rfl, rfl, Nat.zero_le _, rfl, Below.refl _ _⟩
  case round =>
    obtain ⟨k, n, rfl, rfl, hk, hn, hbel⟩ := hrel
    have HBEL := Lib.hid hbel
    have HNN := Lib.hid hn
    by_cases hlt : k < a.length
    · have hlti : (k : Int) < (a.length : Int) := by omega
      have hk0 : (0 : Int) ≤ (k : Int) := by omega
      have hkw : IntKind.i64.wrap ((k : Int) + 1) = (k : Int) + 1 := by rw [IntKind.wrap_i64]; have := HLE.out; omega
      have hnk : n ≤ k := by rw [hn]; refine Nat.le_trans List.countP_le_length ?_; rw [List.length_take]; omega
      have hnw : IntKind.i64.wrap ((n : Int) + 1) = (n : Int) + 1 := by rw [IntKind.wrap_i64]; have := HLE.out; omega
      obtain ⟨ba, oa, rfl, hba, hat⟩ := HA.out.at k hlt
      have HKX := Lib.hid (rng_ofL hat hlt hba)
      have hst : cntCh (a.take (k + 1)) b true = cntCh (a.take k) b true + (if isCh b true a[k] then 1 else 0) := by
        rw [List.take_succ_eq_append_getElem hlt]
        unfold cntCh
        rw [List.countP_append]
        simp [List.countP_cons]
      have HST := Lib.hid hst
      clear hat hst
      generalize a[k] = y at *
      have HKA : Hid (∀ V, Below w.heap.size w V → V.cell? ⟨ba, oa + k * 5, none⟩ = some (.int .i64 y.dest) ∧ V.cell? ⟨ba, oa + k * 5 + 1, none⟩ = some (.int .i64 y.kind)) := Lib.hid (fun V hV => ⟨HKX.out V hV 0 _ rfl, HKX.out V hV 1 _ rfl⟩)
      have HFD := Lib.hid (fun V (hV : Below w.heap.size w V) => rFind_any b ab cb y.kind y.dest V (HB.out.kept (fun i hi => hV.block i hi) hV.size) (by have := HLE.out; omega))
      have HNX0 : Hid (isCh b true y = false → ∀ V, Below w.heap.size w V → (∃ (k' n' : Nat), Value.int .i64 (n : Int) = .int .i64 (n' : Int) ∧ Value.int .i64 ((k : Int) + 1) = .int .i64 (k' : Int) ∧ k' ≤ a.length ∧ n' = cntCh (a.take k') b true ∧ Below w.heap.size w V) ∧ a.length - ((k : Int) + 1).toNat < a.length - (k : Int).toNat) := Lib.hid (fun h V hV => ⟨⟨k + 1, n, rfl, congrArg (Value.int .i64) (by omega), hlt, by rw [HST.out, h, hn]; rfl, hV⟩, by omega⟩)
      have HNX1 : Hid (isCh b true y = true → ∀ V, Below w.heap.size w V → (∃ (k' n' : Nat), Value.int .i64 ((n : Int) + 1) = .int .i64 (n' : Int) ∧ Value.int .i64 ((k : Int) + 1) = .int .i64 (k' : Int) ∧ k' ≤ a.length ∧ n' = cntCh (a.take k') b true ∧ Below w.heap.size w V) ∧ a.length - ((k : Int) + 1).toNat < a.length - (k : Int).toNat) := Lib.hid (fun h V hV => ⟨⟨k + 1, n + 1, congrArg (Value.int .i64) (by omega), congrArg (Value.int .i64) (by omega), hlt, by rw [HST.out, h, hn]; rfl, hV⟩, by omega⟩)
      have HTH : Hid (isCh b true y = if (fndN b y.kind y.dest).isSome then true && !(nwE ((fndN b y.kind y.dest).getD zeroN) y) else true) := Lib.hid (by unfold isCh; cases fndN b y.kind y.dest <;> rfl)
      have HWS : Hid (w.heap.size ≤ wr.heap.size) := Lib.hid hbel.size
      generalize (fndN b y.kind y.dest).isSome = th at *
      generalize (fndN b y.kind y.dest).getD zeroN = x at *
      clear hn hnk hk hlt hba
      go_upto_region 5 with (fail)
      refine wp_region_held_drew (S := fun V => Below w.heap.size w V) (by kernel_rfl) hbel.drew (fun hs0 => ?_)
      clear hbel
      refine tk 0 (by assumption) rfl (by kernel_rfl) (fun _ _ _ h => h) (fun V hV => by go_simp; try with_reducible rfl) ?_
      try simp only [Act.put, sqA, sqB, sqC, sqD, sqE, sqF]
      refine tk 1 (by assumption) rfl (by kernel_rfl) (fun _ _ _ h => h) (fun V hV => by go_simp; try with_reducible rfl) ?_
      try simp only [Act.put, sqA, sqB, sqC, sqD, sqE, sqF]
      refine tk 2 (by assumption) rfl (by kernel_rfl) (fun _ _ _ h => h) (fun V hV => by go_simp; try with_reducible rfl) ?_
      try simp only [Act.put, sqA, sqB, sqC, sqD, sqE, sqF]
      refine tk 3 (by assumption) rfl (by kernel_rfl) (fun _ _ _ h => h) (fun V hV => by go_simp; try with_reducible rfl) ?_
      try simp only [Act.put, sqA, sqB, sqC, sqD, sqE, sqF]
      refine tk 4 (by assumption) rfl (by kernel_rfl) (fun _ _ _ h => h) (fun V hV => by go_simp; try with_reducible rfl) ?_
      try simp only [Act.put, sqA, sqB, sqC, sqD, sqE, sqF]
      refine tk 5 (by assumption) rfl (by kernel_rfl) (fun _ _ _ h => h) (fun V hV => by obtain ⟨hx0, hx1⟩ := HKA.out V hV; go_simp; try with_reducible rfl) ?_
      try simp only [Act.put, sqA, sqB, sqC, sqD, sqE, sqF]
      refine tk 6 (by assumption) rfl (by kernel_rfl) (fun _ _ _ h => h) (fun V hV => by go_simp; try with_reducible rfl) ?_
      try simp only [Act.put, sqA, sqB, sqC, sqD, sqE, sqF]
      refine tk 7 (by assumption) rfl (by kernel_rfl) (fun _ _ _ h => h) (fun V hV => by go_simp; try with_reducible rfl) ?_
      try simp only [Act.put, sqA, sqB, sqC, sqD, sqE, sqF]
      refine tk 8 (by assumption) rfl (by kernel_rfl) (fun _ _ _ h => h) (fun V hV => by go_simp; try with_reducible rfl) ?_
      try simp only [Act.put, sqA, sqB, sqC, sqD, sqE, sqF]
      refine tk 9 (by assumption) rfl (by kernel_rfl) (fun _ _ _ h => h) (fun V hV => by go_simp; try with_reducible rfl) ?_
      try simp only [Act.put, sqA, sqB, sqC, sqD, sqE, sqF]
      refine tk 10 (by assumption) rfl (by kernel_rfl) (fun _ _ _ h => h) (fun V hV => by obtain ⟨hx0, hx1⟩ := HKA.out V hV; go_simp; try with_reducible rfl) ?_
      try simp only [Act.put, sqA, sqB, sqC, sqD, sqE, sqF]
      refine wpAnyH_ready (rs := [11, 15]) (by kernel_rfl) (by simp) ?_
      refine AllReadyH.cons (o := _) rfl (fun K hK => ?_) (AllReadyH.cons (o := _) rfl (fun K hK => ?_) (AllReadyH.nil))
      · go_simp
        refine (HFD.out _ hs0).mono ?_
        rintro e2 V2 ⟨rfl, hb2⟩
        go_wp2_with fail
        refine hK.out _ _ (hs0.trans (hb2.mono hs0.size)) (fun hs0 => ?_)
        clear hK K
        try simp only [Act.put, sqA, sqB, sqC, sqD, sqE, sqF]
        refine tk 12 (by assumption) rfl (by kernel_rfl) (fun _ _ _ h => h) (fun V hV => by go_simp; try with_reducible rfl) ?_
        try simp only [Act.put, sqA, sqB, sqC, sqD, sqE, sqF]
        refine tk 13 (by assumption) rfl (by kernel_rfl) (fun _ _ _ h => h) (fun V hV => by go_simp; try with_reducible rfl) ?_
        try simp only [Act.put, sqA, sqB, sqC, sqD, sqE, sqF]
        refine tk 14 (by assumption) rfl (by kernel_rfl) (fun _ _ _ h => h) (fun V hV => by go_simp; try with_reducible rfl) ?_
        try simp only [Act.put, sqA, sqB, sqC, sqD, sqE, sqF]
        refine wpAnyH_ready (rs := [15]) (by kernel_rfl) (by simp) ?_
        refine AllReadyH.cons (o := _) rfl (fun K hK => ?_) AllReadyH.nil
        have HQW := Lib.hid hs0.size
        go_simp
        refine hK.out _ _ (hs0.trans ((gAl _ _).mono hs0.size)) (fun hs0 => ?_)
        clear hK K
        try simp only [Act.put, sqA, sqB, sqC, sqD, sqE, sqF]
        refine wpAnyH_ready (rs := [16]) (by kernel_rfl) (by simp) ?_
        refine AllReadyH.cons (o := _) rfl (fun K hK => ?_) AllReadyH.nil
        rw [if_pos (by rfl)]
        refine kwp_store 61 (.tmp 9) (.tmp 30) rfl _ 0 (nC x) rfl rfl (by first | exact there_box _ (nC zeroN) _ | exact there_keep hb2 (by simp) (there_box _ (nC zeroN) _)) rfl (nC_one x) (fun V9 hq0 hq1 hq2 => ?_)
        have hs9 := hs0.trans (hq1 _ HQW.out)
        have hq3 := hq2 (by first | (simp; done) | (have := hb2.size; simp at this; omega))
        clear hq2
        refine hK.out _ _ hs9 (fun hs0 => ?_)
        clear hK K
        try simp only [Act.put, sqA, sqB, sqC, sqD, sqE, sqF]
        refine tk 17 (by assumption) rfl (by kernel_rfl) (fun _ _ _ h => h) (fun V hV => by go_simp; try with_reducible rfl) ?_
        try simp only [Act.put, sqA, sqB, sqC, sqD, sqE, sqF]
        refine wpAnyH_done (by kernel_rfl) ?_ _
        have HKQ := Lib.hid (fun V (hV : Below V9.heap.size V9 V) => below_keep hV hq3 hq0)
        have HS9 := Lib.hid hs9
        have HKY : Hid (∀ V, Below V9.heap.size V9 V → V.rangeAt ba (oa + k * 5) (nC y)) := Lib.hid (fun V hV => HKX.out V (HS9.out.trans (hV.mono HS9.out.size)))
        clear hq0 hq1 hq3 hs9 hs0 HQW
        cases th with
        | false =>
          have HN1 := Lib.hid (HNX1.out (by rw [HTH.out]; rfl))
          go_upto_region 6 with (fail)
          refine wp_region_held_drew (S := fun V => Below V9.heap.size V9 V) (by kernel_rfl) (Below.refl _ V9).drew (fun hs0 => ?_)
          clear HKA
          refine tk 0 (by assumption) rfl (by kernel_rfl) (fun _ _ _ h => h) (fun V hV => by go_simp; try with_reducible rfl) ?_
          try simp only [Act.put, sqA, sqB, sqC, sqD, sqE, sqF]
          refine tk 1 (by assumption) rfl (by kernel_rfl) (fun _ _ _ h => h) (fun V hV => by go_simp; try with_reducible rfl) ?_
          try simp only [Act.put, sqA, sqB, sqC, sqD, sqE, sqF]
          refine tk 2 (by assumption) rfl (by kernel_rfl) (fun _ _ _ h => h) (fun V hV => by go_simp; try with_reducible rfl) ?_
          try simp only [Act.put, sqA, sqB, sqC, sqD, sqE, sqF]
          refine wpAnyH_take (i := 3) (oi := _) (v := undef) rfl (by kernel_rfl) (by kernel_rfl) (by kernel_rfl) (fun _ _ _ h => h) (Or.inr ⟨by kernel_rfl, rfl⟩) (by assumption) ?_
          try simp only [Act.put, sqA, sqB, sqC, sqD, sqE, sqF]
          refine wpAnyH_take (i := 4) (oi := _) (v := undef) rfl (by kernel_rfl) (by kernel_rfl) (by kernel_rfl) (fun _ _ _ h => h) (Or.inr ⟨by kernel_rfl, rfl⟩) (by assumption) ?_
          try simp only [Act.put, sqA, sqB, sqC, sqD, sqE, sqF]
          refine wpAnyH_take (i := 5) (oi := _) (v := undef) rfl (by kernel_rfl) (by kernel_rfl) (by kernel_rfl) (fun _ _ _ h => h) (Or.inr ⟨by kernel_rfl, rfl⟩) (by assumption) ?_
          try simp only [Act.put, sqA, sqB, sqC, sqD, sqE, sqF]
          refine wpAnyH_take (i := 6) (oi := _) (v := undef) rfl (by kernel_rfl) (by kernel_rfl) (by kernel_rfl) (fun _ _ _ h => h) (Or.inr ⟨by kernel_rfl, rfl⟩) (by assumption) ?_
          try simp only [Act.put, sqA, sqB, sqC, sqD, sqE, sqF]
          refine wpAnyH_take (i := 7) (oi := _) (v := undef) rfl (by kernel_rfl) (by kernel_rfl) (by kernel_rfl) (fun _ _ _ h => h) (Or.inr ⟨by kernel_rfl, rfl⟩) (by assumption) ?_
          try simp only [Act.put, sqA, sqB, sqC, sqD, sqE, sqF]
          refine wpAnyH_take (i := 8) (oi := _) (v := undef) rfl (by kernel_rfl) (by kernel_rfl) (by kernel_rfl) (fun _ _ _ h => h) (Or.inr ⟨by kernel_rfl, rfl⟩) (by assumption) ?_
          try simp only [Act.put, sqA, sqB, sqC, sqD, sqE, sqF]
          refine wpAnyH_take (i := 9) (oi := _) (v := undef) rfl (by kernel_rfl) (by kernel_rfl) (by kernel_rfl) (fun _ _ _ h => h) (Or.inr ⟨by kernel_rfl, rfl⟩) (by assumption) ?_
          try simp only [Act.put, sqA, sqB, sqC, sqD, sqE, sqF]
          refine wpAnyH_take (i := 10) (oi := _) (v := undef) rfl (by kernel_rfl) (by kernel_rfl) (by kernel_rfl) (fun _ _ _ h => h) (Or.inr ⟨by kernel_rfl, rfl⟩) (by assumption) ?_
          try simp only [Act.put, sqA, sqB, sqC, sqD, sqE, sqF]
          refine wpAnyH_take (i := 11) (oi := _) (v := undef) rfl (by kernel_rfl) (by kernel_rfl) (by kernel_rfl) (fun _ _ _ h => h) (Or.inr ⟨by kernel_rfl, rfl⟩) (by assumption) ?_
          try simp only [Act.put, sqA, sqB, sqC, sqD, sqE, sqF]
          refine wpAnyH_take (i := 12) (oi := _) (v := undef) rfl (by kernel_rfl) (by kernel_rfl) (by kernel_rfl) (fun _ _ _ h => h) (Or.inr ⟨by kernel_rfl, rfl⟩) (by assumption) ?_
          try simp only [Act.put, sqA, sqB, sqC, sqD, sqE, sqF]
          refine wpAnyH_take (i := 13) (oi := _) (v := undef) rfl (by kernel_rfl) (by kernel_rfl) (by kernel_rfl) (fun _ _ _ h => h) (Or.inr ⟨by kernel_rfl, rfl⟩) (by assumption) ?_
          try simp only [Act.put, sqA, sqB, sqC, sqD, sqE, sqF]
          refine wpAnyH_take (i := 14) (oi := _) (v := undef) rfl (by kernel_rfl) (by kernel_rfl) (by kernel_rfl) (fun _ _ _ h => h) (Or.inr ⟨by kernel_rfl, rfl⟩) (by assumption) ?_
          try simp only [Act.put, sqA, sqB, sqC, sqD, sqE, sqF]
          refine tk 15 (by assumption) rfl (by kernel_rfl) (fun _ _ _ h => h) (fun V hV => by go_simp; try with_reducible rfl) ?_
          try simp only [Act.put, sqA, sqB, sqC, sqD, sqE, sqF]
          refine wpAnyH_done (by kernel_rfl) ?_ _
          have HS8 := Lib.hid (HS9.out.trans (hs0.mono HS9.out.size))
          clear hs0
          go_wp2_with fail
          exact HN1.out _ HS8.out
        | true =>
          cases heq : nwE x y with
          | true =>
            have HEQ := Lib.hid heq
            have HN0 := Lib.hid (HNX0.out (by rw [HTH.out, heq]; rfl))
            clear heq
            go_upto_region 6 with (fail)
            refine wp_region_held_drew (S := fun V => Below V9.heap.size V9 V) (by kernel_rfl) (Below.refl _ V9).drew (fun hs0 => ?_)
            clear HKA
            refine tk 0 (by assumption) rfl (by kernel_rfl) (fun _ _ _ h => h) (fun V hV => by go_simp; try with_reducible rfl) ?_
            try simp only [Act.put, sqA, sqB, sqC, sqD, sqE, sqF]
            refine tk 1 (by assumption) rfl (by kernel_rfl) (fun _ _ _ h => h) (fun V hV => by go_simp; try with_reducible rfl) ?_
            try simp only [Act.put, sqA, sqB, sqC, sqD, sqE, sqF]
            refine tk 2 (by assumption) rfl (by kernel_rfl) (fun _ _ _ h => h) (fun V hV => by go_simp; try with_reducible rfl) ?_
            try simp only [Act.put, sqA, sqB, sqC, sqD, sqE, sqF]
            refine tk 3 (by assumption) rfl (by kernel_rfl) (fun _ _ _ h => h) (fun V hV => by go_simp; try with_reducible rfl) ?_
            try simp only [Act.put, sqA, sqB, sqC, sqD, sqE, sqF]
            refine tk 4 (by assumption) rfl (by kernel_rfl) (fun _ _ _ h => h) (fun V hV => by go_simp; try with_reducible rfl) ?_
            try simp only [Act.put, sqA, sqB, sqC, sqD, sqE, sqF]
            refine tk 5 (by assumption) rfl (by kernel_rfl) (fun _ _ _ h => h) (tk_load 61 (.tmp 9) rfl _ 0 rfl (nC x) _ (fun V hV => HKQ.out V hV) Tryz.underlying61 (by rfl) (by kernel_rfl)) ?_
            try simp only [Act.put, sqA, sqB, sqC, sqD, sqE, sqF]
            refine tk 7 (by assumption) rfl (by kernel_rfl) (fun _ _ _ h => h) (fun V hV => by go_simp; try with_reducible rfl) ?_
            try simp only [Act.put, sqA, sqB, sqC, sqD, sqE, sqF]
            refine tk 8 (by assumption) rfl (by kernel_rfl) (fun _ _ _ h => h) (fun V hV => by go_simp; try with_reducible rfl) ?_
            try simp only [Act.put, sqA, sqB, sqC, sqD, sqE, sqF]
            refine tk 9 (by assumption) rfl (by kernel_rfl) (fun _ _ _ h => h) (fun V hV => by go_simp; try with_reducible rfl) ?_
            try simp only [Act.put, sqA, sqB, sqC, sqD, sqE, sqF]
            refine tk 10 (by assumption) rfl (by kernel_rfl) (fun _ _ _ h => h) (tk_load 61 (.tmp 41) rfl ba (oa + k * 5) rfl (nC y) _ (fun V hV => HKY.out V hV) Tryz.underlying61 (by rfl) (by kernel_rfl)) ?_
            try simp only [Act.put, sqA, sqB, sqC, sqD, sqE, sqF]
            refine wpAnyH_ready (rs := [6, 11]) (by kernel_rfl) (by simp) ?_
            refine AllReadyH.cons (o := _) rfl (fun K hK => ?_) (AllReadyH.cons (o := _) rfl (fun K hK => ?_) (AllReadyH.nil))
            · go_simp
              refine hK.out _ _ (hs0.trans ((gAl _ _).mono hs0.size)) (fun hs0 => ?_)
              clear hK K
              try simp only [Act.put, sqA, sqB, sqC, sqD, sqE, sqF]
              refine wpAnyH_ready (rs := [11]) (by kernel_rfl) (by simp) ?_
              refine AllReadyH.cons (o := _) rfl (fun K hK => ?_) AllReadyH.nil
              go_simp
              refine hK.out _ _ (hs0.trans ((gAl _ _).mono hs0.size)) (fun hs0 => ?_)
              clear hK K
              try simp only [Act.put, sqA, sqB, sqC, sqD, sqE, sqF]
              refine wpAnyH_ready (rs := [12]) (by kernel_rfl) (by simp) ?_
              refine AllReadyH.cons (o := _) rfl (fun K hK => ?_) AllReadyH.nil
              go_simp
              refine (rSameNews_any [x] [y] _ 1 _ 1 _ _ (one_in (by first | exact two_fst _ _ _ _ | exact two_snd _ _ _ _) (by simp; try omega)) (one_in (by first | exact two_fst _ _ _ _ | exact two_snd _ _ _ _) (by simp; try omega)) (Nat.le_refl _) (by simp)).mono ?_
              rintro e2 V2 ⟨⟨rb, rfl, hrb⟩, hb2⟩
              obtain rfl : rb = (nwE x y) := bool_ext (by rw [hrb, nwE_iff]; simp)
              rw [HEQ.out]
              go_wp2_with fail
              refine hK.out _ _ (hs0.trans (hb2.mono hs0.size)) (fun hs0 => ?_)
              clear hK K
              try simp only [Act.put, sqA, sqB, sqC, sqD, sqE, sqF]
              refine tk 13 (by assumption) rfl (by kernel_rfl) (fun _ _ _ h => h) (fun V hV => by go_simp; try with_reducible rfl) ?_
              try simp only [Act.put, sqA, sqB, sqC, sqD, sqE, sqF]
              refine tk 14 (by assumption) rfl (by kernel_rfl) (fun _ _ _ h => h) (fun V hV => by go_simp; try with_reducible rfl) ?_
              try simp only [Act.put, sqA, sqB, sqC, sqD, sqE, sqF]
              refine tk 15 (by assumption) rfl (by kernel_rfl) (fun _ _ _ h => h) (fun V hV => by go_simp; try with_reducible rfl) ?_
              try simp only [Act.put, sqA, sqB, sqC, sqD, sqE, sqF]
              refine wpAnyH_done (by kernel_rfl) ?_ _
              have HS8 := Lib.hid (HS9.out.trans (hs0.mono HS9.out.size))
              clear hs0
              go_wp2_with fail
              exact HN0.out _ HS8.out
            · go_simp
              refine hK.out _ _ (hs0.trans ((gAl _ _).mono hs0.size)) (fun hs0 => ?_)
              clear hK K
              try simp only [Act.put, sqA, sqB, sqC, sqD, sqE, sqF]
              refine wpAnyH_ready (rs := [6]) (by kernel_rfl) (by simp) ?_
              refine AllReadyH.cons (o := _) rfl (fun K hK => ?_) AllReadyH.nil
              go_simp
              refine hK.out _ _ (hs0.trans ((gAl _ _).mono hs0.size)) (fun hs0 => ?_)
              clear hK K
              try simp only [Act.put, sqA, sqB, sqC, sqD, sqE, sqF]
              refine wpAnyH_ready (rs := [12]) (by kernel_rfl) (by simp) ?_
              refine AllReadyH.cons (o := _) rfl (fun K hK => ?_) AllReadyH.nil
              go_simp
              refine (rSameNews_any [x] [y] _ 1 _ 1 _ _ (one_in (by first | exact two_fst _ _ _ _ | exact two_snd _ _ _ _) (by simp; try omega)) (one_in (by first | exact two_fst _ _ _ _ | exact two_snd _ _ _ _) (by simp; try omega)) (Nat.le_refl _) (by simp)).mono ?_
              rintro e2 V2 ⟨⟨rb, rfl, hrb⟩, hb2⟩
              obtain rfl : rb = (nwE x y) := bool_ext (by rw [hrb, nwE_iff]; simp)
              rw [HEQ.out]
              go_wp2_with fail
              refine hK.out _ _ (hs0.trans (hb2.mono hs0.size)) (fun hs0 => ?_)
              clear hK K
              try simp only [Act.put, sqA, sqB, sqC, sqD, sqE, sqF]
              refine tk 13 (by assumption) rfl (by kernel_rfl) (fun _ _ _ h => h) (fun V hV => by go_simp; try with_reducible rfl) ?_
              try simp only [Act.put, sqA, sqB, sqC, sqD, sqE, sqF]
              refine tk 14 (by assumption) rfl (by kernel_rfl) (fun _ _ _ h => h) (fun V hV => by go_simp; try with_reducible rfl) ?_
              try simp only [Act.put, sqA, sqB, sqC, sqD, sqE, sqF]
              refine tk 15 (by assumption) rfl (by kernel_rfl) (fun _ _ _ h => h) (fun V hV => by go_simp; try with_reducible rfl) ?_
              try simp only [Act.put, sqA, sqB, sqC, sqD, sqE, sqF]
              refine wpAnyH_done (by kernel_rfl) ?_ _
              have HS8 := Lib.hid (HS9.out.trans (hs0.mono HS9.out.size))
              clear hs0
              go_wp2_with fail
              exact HN0.out _ HS8.out
          | false =>
            have HEQ := Lib.hid heq
            have HN1 := Lib.hid (HNX1.out (by rw [HTH.out, heq]; rfl))
            clear heq
            go_upto_region 6 with (fail)
            refine wp_region_held_drew (S := fun V => Below V9.heap.size V9 V) (by kernel_rfl) (Below.refl _ V9).drew (fun hs0 => ?_)
            clear HKA
            refine tk 0 (by assumption) rfl (by kernel_rfl) (fun _ _ _ h => h) (fun V hV => by go_simp; try with_reducible rfl) ?_
            try simp only [Act.put, sqA, sqB, sqC, sqD, sqE, sqF]
            refine tk 1 (by assumption) rfl (by kernel_rfl) (fun _ _ _ h => h) (fun V hV => by go_simp; try with_reducible rfl) ?_
            try simp only [Act.put, sqA, sqB, sqC, sqD, sqE, sqF]
            refine tk 2 (by assumption) rfl (by kernel_rfl) (fun _ _ _ h => h) (fun V hV => by go_simp; try with_reducible rfl) ?_
            try simp only [Act.put, sqA, sqB, sqC, sqD, sqE, sqF]
            refine tk 3 (by assumption) rfl (by kernel_rfl) (fun _ _ _ h => h) (fun V hV => by go_simp; try with_reducible rfl) ?_
            try simp only [Act.put, sqA, sqB, sqC, sqD, sqE, sqF]
            refine tk 4 (by assumption) rfl (by kernel_rfl) (fun _ _ _ h => h) (fun V hV => by go_simp; try with_reducible rfl) ?_
            try simp only [Act.put, sqA, sqB, sqC, sqD, sqE, sqF]
            refine tk 5 (by assumption) rfl (by kernel_rfl) (fun _ _ _ h => h) (tk_load 61 (.tmp 9) rfl _ 0 rfl (nC x) _ (fun V hV => HKQ.out V hV) Tryz.underlying61 (by rfl) (by kernel_rfl)) ?_
            try simp only [Act.put, sqA, sqB, sqC, sqD, sqE, sqF]
            refine tk 7 (by assumption) rfl (by kernel_rfl) (fun _ _ _ h => h) (fun V hV => by go_simp; try with_reducible rfl) ?_
            try simp only [Act.put, sqA, sqB, sqC, sqD, sqE, sqF]
            refine tk 8 (by assumption) rfl (by kernel_rfl) (fun _ _ _ h => h) (fun V hV => by go_simp; try with_reducible rfl) ?_
            try simp only [Act.put, sqA, sqB, sqC, sqD, sqE, sqF]
            refine tk 9 (by assumption) rfl (by kernel_rfl) (fun _ _ _ h => h) (fun V hV => by go_simp; try with_reducible rfl) ?_
            try simp only [Act.put, sqA, sqB, sqC, sqD, sqE, sqF]
            refine tk 10 (by assumption) rfl (by kernel_rfl) (fun _ _ _ h => h) (tk_load 61 (.tmp 41) rfl ba (oa + k * 5) rfl (nC y) _ (fun V hV => HKY.out V hV) Tryz.underlying61 (by rfl) (by kernel_rfl)) ?_
            try simp only [Act.put, sqA, sqB, sqC, sqD, sqE, sqF]
            refine wpAnyH_ready (rs := [6, 11]) (by kernel_rfl) (by simp) ?_
            refine AllReadyH.cons (o := _) rfl (fun K hK => ?_) (AllReadyH.cons (o := _) rfl (fun K hK => ?_) (AllReadyH.nil))
            · go_simp
              refine hK.out _ _ (hs0.trans ((gAl _ _).mono hs0.size)) (fun hs0 => ?_)
              clear hK K
              try simp only [Act.put, sqA, sqB, sqC, sqD, sqE, sqF]
              refine wpAnyH_ready (rs := [11]) (by kernel_rfl) (by simp) ?_
              refine AllReadyH.cons (o := _) rfl (fun K hK => ?_) AllReadyH.nil
              go_simp
              refine hK.out _ _ (hs0.trans ((gAl _ _).mono hs0.size)) (fun hs0 => ?_)
              clear hK K
              try simp only [Act.put, sqA, sqB, sqC, sqD, sqE, sqF]
              refine wpAnyH_ready (rs := [12]) (by kernel_rfl) (by simp) ?_
              refine AllReadyH.cons (o := _) rfl (fun K hK => ?_) AllReadyH.nil
              go_simp
              refine (rSameNews_any [x] [y] _ 1 _ 1 _ _ (one_in (by first | exact two_fst _ _ _ _ | exact two_snd _ _ _ _) (by simp; try omega)) (one_in (by first | exact two_fst _ _ _ _ | exact two_snd _ _ _ _) (by simp; try omega)) (Nat.le_refl _) (by simp)).mono ?_
              rintro e2 V2 ⟨⟨rb, rfl, hrb⟩, hb2⟩
              obtain rfl : rb = (nwE x y) := bool_ext (by rw [hrb, nwE_iff]; simp)
              rw [HEQ.out]
              go_wp2_with fail
              refine hK.out _ _ (hs0.trans (hb2.mono hs0.size)) (fun hs0 => ?_)
              clear hK K
              try simp only [Act.put, sqA, sqB, sqC, sqD, sqE, sqF]
              refine tk 13 (by assumption) rfl (by kernel_rfl) (fun _ _ _ h => h) (fun V hV => by go_simp; try with_reducible rfl) ?_
              try simp only [Act.put, sqA, sqB, sqC, sqD, sqE, sqF]
              refine tk 14 (by assumption) rfl (by kernel_rfl) (fun _ _ _ h => h) (fun V hV => by go_simp; try with_reducible rfl) ?_
              try simp only [Act.put, sqA, sqB, sqC, sqD, sqE, sqF]
              refine tk 15 (by assumption) rfl (by kernel_rfl) (fun _ _ _ h => h) (fun V hV => by go_simp; try with_reducible rfl) ?_
              try simp only [Act.put, sqA, sqB, sqC, sqD, sqE, sqF]
              refine wpAnyH_done (by kernel_rfl) ?_ _
              have HS8 := Lib.hid (HS9.out.trans (hs0.mono HS9.out.size))
              clear hs0
              go_wp2_with fail
              exact HN1.out _ HS8.out
            · go_simp
              refine hK.out _ _ (hs0.trans ((gAl _ _).mono hs0.size)) (fun hs0 => ?_)
              clear hK K
              try simp only [Act.put, sqA, sqB, sqC, sqD, sqE, sqF]
              refine wpAnyH_ready (rs := [6]) (by kernel_rfl) (by simp) ?_
              refine AllReadyH.cons (o := _) rfl (fun K hK => ?_) AllReadyH.nil
              go_simp
              refine hK.out _ _ (hs0.trans ((gAl _ _).mono hs0.size)) (fun hs0 => ?_)
              clear hK K
              try simp only [Act.put, sqA, sqB, sqC, sqD, sqE, sqF]
              refine wpAnyH_ready (rs := [12]) (by kernel_rfl) (by simp) ?_
              refine AllReadyH.cons (o := _) rfl (fun K hK => ?_) AllReadyH.nil
              go_simp
              refine (rSameNews_any [x] [y] _ 1 _ 1 _ _ (one_in (by first | exact two_fst _ _ _ _ | exact two_snd _ _ _ _) (by simp; try omega)) (one_in (by first | exact two_fst _ _ _ _ | exact two_snd _ _ _ _) (by simp; try omega)) (Nat.le_refl _) (by simp)).mono ?_
              rintro e2 V2 ⟨⟨rb, rfl, hrb⟩, hb2⟩
              obtain rfl : rb = (nwE x y) := bool_ext (by rw [hrb, nwE_iff]; simp)
              rw [HEQ.out]
              go_wp2_with fail
              refine hK.out _ _ (hs0.trans (hb2.mono hs0.size)) (fun hs0 => ?_)
              clear hK K
              try simp only [Act.put, sqA, sqB, sqC, sqD, sqE, sqF]
              refine tk 13 (by assumption) rfl (by kernel_rfl) (fun _ _ _ h => h) (fun V hV => by go_simp; try with_reducible rfl) ?_
              try simp only [Act.put, sqA, sqB, sqC, sqD, sqE, sqF]
              refine tk 14 (by assumption) rfl (by kernel_rfl) (fun _ _ _ h => h) (fun V hV => by go_simp; try with_reducible rfl) ?_
              try simp only [Act.put, sqA, sqB, sqC, sqD, sqE, sqF]
              refine tk 15 (by assumption) rfl (by kernel_rfl) (fun _ _ _ h => h) (fun V hV => by go_simp; try with_reducible rfl) ?_
              try simp only [Act.put, sqA, sqB, sqC, sqD, sqE, sqF]
              refine wpAnyH_done (by kernel_rfl) ?_ _
              have HS8 := Lib.hid (HS9.out.trans (hs0.mono HS9.out.size))
              clear hs0
              go_wp2_with fail
              exact HN1.out _ HS8.out
      · have HQW := Lib.hid hs0.size
        go_simp
        refine hK.out _ _ (hs0.trans ((gAl _ _).mono hs0.size)) (fun hs0 => ?_)
        clear hK K
        try simp only [Act.put, sqA, sqB, sqC, sqD, sqE, sqF]
        refine wpAnyH_ready (rs := [11]) (by kernel_rfl) (by simp) ?_
        refine AllReadyH.cons (o := _) rfl (fun K hK => ?_) AllReadyH.nil
        go_simp
        refine (HFD.out _ hs0).mono ?_
        rintro e2 V2 ⟨rfl, hb2⟩
        go_wp2_with fail
        refine hK.out _ _ (hs0.trans (hb2.mono hs0.size)) (fun hs0 => ?_)
        clear hK K
        try simp only [Act.put, sqA, sqB, sqC, sqD, sqE, sqF]
        refine tk 12 (by assumption) rfl (by kernel_rfl) (fun _ _ _ h => h) (fun V hV => by go_simp; try with_reducible rfl) ?_
        try simp only [Act.put, sqA, sqB, sqC, sqD, sqE, sqF]
        refine tk 13 (by assumption) rfl (by kernel_rfl) (fun _ _ _ h => h) (fun V hV => by go_simp; try with_reducible rfl) ?_
        try simp only [Act.put, sqA, sqB, sqC, sqD, sqE, sqF]
        refine tk 14 (by assumption) rfl (by kernel_rfl) (fun _ _ _ h => h) (fun V hV => by go_simp; try with_reducible rfl) ?_
        try simp only [Act.put, sqA, sqB, sqC, sqD, sqE, sqF]
        refine wpAnyH_ready (rs := [16]) (by kernel_rfl) (by simp) ?_
        refine AllReadyH.cons (o := _) rfl (fun K hK => ?_) AllReadyH.nil
        rw [if_pos (by rfl)]
        refine kwp_store 61 (.tmp 9) (.tmp 30) rfl _ 0 (nC x) rfl rfl (by first | exact there_box _ (nC zeroN) _ | exact there_keep hb2 (by simp) (there_box _ (nC zeroN) _)) rfl (nC_one x) (fun V9 hq0 hq1 hq2 => ?_)
        have hs9 := hs0.trans (hq1 _ HQW.out)
        have hq3 := hq2 (by first | (simp; done) | (have := hb2.size; simp at this; omega))
        clear hq2
        refine hK.out _ _ hs9 (fun hs0 => ?_)
        clear hK K
        try simp only [Act.put, sqA, sqB, sqC, sqD, sqE, sqF]
        refine tk 17 (by assumption) rfl (by kernel_rfl) (fun _ _ _ h => h) (fun V hV => by go_simp; try with_reducible rfl) ?_
        try simp only [Act.put, sqA, sqB, sqC, sqD, sqE, sqF]
        refine wpAnyH_done (by kernel_rfl) ?_ _
        have HKQ := Lib.hid (fun V (hV : Below V9.heap.size V9 V) => below_keep hV hq3 hq0)
        have HS9 := Lib.hid hs9
        have HKY : Hid (∀ V, Below V9.heap.size V9 V → V.rangeAt ba (oa + k * 5) (nC y)) := Lib.hid (fun V hV => HKX.out V (HS9.out.trans (hV.mono HS9.out.size)))
        clear hq0 hq1 hq3 hs9 hs0 HQW
        cases th with
        | false =>
          have HN1 := Lib.hid (HNX1.out (by rw [HTH.out]; rfl))
          go_upto_region 6 with (fail)
          refine wp_region_held_drew (S := fun V => Below V9.heap.size V9 V) (by kernel_rfl) (Below.refl _ V9).drew (fun hs0 => ?_)
          clear HKA
          refine tk 0 (by assumption) rfl (by kernel_rfl) (fun _ _ _ h => h) (fun V hV => by go_simp; try with_reducible rfl) ?_
          try simp only [Act.put, sqA, sqB, sqC, sqD, sqE, sqF]
          refine tk 1 (by assumption) rfl (by kernel_rfl) (fun _ _ _ h => h) (fun V hV => by go_simp; try with_reducible rfl) ?_
          try simp only [Act.put, sqA, sqB, sqC, sqD, sqE, sqF]
          refine tk 2 (by assumption) rfl (by kernel_rfl) (fun _ _ _ h => h) (fun V hV => by go_simp; try with_reducible rfl) ?_
          try simp only [Act.put, sqA, sqB, sqC, sqD, sqE, sqF]
          refine wpAnyH_take (i := 3) (oi := _) (v := undef) rfl (by kernel_rfl) (by kernel_rfl) (by kernel_rfl) (fun _ _ _ h => h) (Or.inr ⟨by kernel_rfl, rfl⟩) (by assumption) ?_
          try simp only [Act.put, sqA, sqB, sqC, sqD, sqE, sqF]
          refine wpAnyH_take (i := 4) (oi := _) (v := undef) rfl (by kernel_rfl) (by kernel_rfl) (by kernel_rfl) (fun _ _ _ h => h) (Or.inr ⟨by kernel_rfl, rfl⟩) (by assumption) ?_
          try simp only [Act.put, sqA, sqB, sqC, sqD, sqE, sqF]
          refine wpAnyH_take (i := 5) (oi := _) (v := undef) rfl (by kernel_rfl) (by kernel_rfl) (by kernel_rfl) (fun _ _ _ h => h) (Or.inr ⟨by kernel_rfl, rfl⟩) (by assumption) ?_
          try simp only [Act.put, sqA, sqB, sqC, sqD, sqE, sqF]
          refine wpAnyH_take (i := 6) (oi := _) (v := undef) rfl (by kernel_rfl) (by kernel_rfl) (by kernel_rfl) (fun _ _ _ h => h) (Or.inr ⟨by kernel_rfl, rfl⟩) (by assumption) ?_
          try simp only [Act.put, sqA, sqB, sqC, sqD, sqE, sqF]
          refine wpAnyH_take (i := 7) (oi := _) (v := undef) rfl (by kernel_rfl) (by kernel_rfl) (by kernel_rfl) (fun _ _ _ h => h) (Or.inr ⟨by kernel_rfl, rfl⟩) (by assumption) ?_
          try simp only [Act.put, sqA, sqB, sqC, sqD, sqE, sqF]
          refine wpAnyH_take (i := 8) (oi := _) (v := undef) rfl (by kernel_rfl) (by kernel_rfl) (by kernel_rfl) (fun _ _ _ h => h) (Or.inr ⟨by kernel_rfl, rfl⟩) (by assumption) ?_
          try simp only [Act.put, sqA, sqB, sqC, sqD, sqE, sqF]
          refine wpAnyH_take (i := 9) (oi := _) (v := undef) rfl (by kernel_rfl) (by kernel_rfl) (by kernel_rfl) (fun _ _ _ h => h) (Or.inr ⟨by kernel_rfl, rfl⟩) (by assumption) ?_
          try simp only [Act.put, sqA, sqB, sqC, sqD, sqE, sqF]
          refine wpAnyH_take (i := 10) (oi := _) (v := undef) rfl (by kernel_rfl) (by kernel_rfl) (by kernel_rfl) (fun _ _ _ h => h) (Or.inr ⟨by kernel_rfl, rfl⟩) (by assumption) ?_
          try simp only [Act.put, sqA, sqB, sqC, sqD, sqE, sqF]
          refine wpAnyH_take (i := 11) (oi := _) (v := undef) rfl (by kernel_rfl) (by kernel_rfl) (by kernel_rfl) (fun _ _ _ h => h) (Or.inr ⟨by kernel_rfl, rfl⟩) (by assumption) ?_
          try simp only [Act.put, sqA, sqB, sqC, sqD, sqE, sqF]
          refine wpAnyH_take (i := 12) (oi := _) (v := undef) rfl (by kernel_rfl) (by kernel_rfl) (by kernel_rfl) (fun _ _ _ h => h) (Or.inr ⟨by kernel_rfl, rfl⟩) (by assumption) ?_
          try simp only [Act.put, sqA, sqB, sqC, sqD, sqE, sqF]
          refine wpAnyH_take (i := 13) (oi := _) (v := undef) rfl (by kernel_rfl) (by kernel_rfl) (by kernel_rfl) (fun _ _ _ h => h) (Or.inr ⟨by kernel_rfl, rfl⟩) (by assumption) ?_
          try simp only [Act.put, sqA, sqB, sqC, sqD, sqE, sqF]
          refine wpAnyH_take (i := 14) (oi := _) (v := undef) rfl (by kernel_rfl) (by kernel_rfl) (by kernel_rfl) (fun _ _ _ h => h) (Or.inr ⟨by kernel_rfl, rfl⟩) (by assumption) ?_
          try simp only [Act.put, sqA, sqB, sqC, sqD, sqE, sqF]
          refine tk 15 (by assumption) rfl (by kernel_rfl) (fun _ _ _ h => h) (fun V hV => by go_simp; try with_reducible rfl) ?_
          try simp only [Act.put, sqA, sqB, sqC, sqD, sqE, sqF]
          refine wpAnyH_done (by kernel_rfl) ?_ _
          have HS8 := Lib.hid (HS9.out.trans (hs0.mono HS9.out.size))
          clear hs0
          go_wp2_with fail
          exact HN1.out _ HS8.out
        | true =>
          cases heq : nwE x y with
          | true =>
            have HEQ := Lib.hid heq
            have HN0 := Lib.hid (HNX0.out (by rw [HTH.out, heq]; rfl))
            clear heq
            go_upto_region 6 with (fail)
            refine wp_region_held_drew (S := fun V => Below V9.heap.size V9 V) (by kernel_rfl) (Below.refl _ V9).drew (fun hs0 => ?_)
            clear HKA
            refine tk 0 (by assumption) rfl (by kernel_rfl) (fun _ _ _ h => h) (fun V hV => by go_simp; try with_reducible rfl) ?_
            try simp only [Act.put, sqA, sqB, sqC, sqD, sqE, sqF]
            refine tk 1 (by assumption) rfl (by kernel_rfl) (fun _ _ _ h => h) (fun V hV => by go_simp; try with_reducible rfl) ?_
            try simp only [Act.put, sqA, sqB, sqC, sqD, sqE, sqF]
            refine tk 2 (by assumption) rfl (by kernel_rfl) (fun _ _ _ h => h) (fun V hV => by go_simp; try with_reducible rfl) ?_
            try simp only [Act.put, sqA, sqB, sqC, sqD, sqE, sqF]
            refine tk 3 (by assumption) rfl (by kernel_rfl) (fun _ _ _ h => h) (fun V hV => by go_simp; try with_reducible rfl) ?_
            try simp only [Act.put, sqA, sqB, sqC, sqD, sqE, sqF]
            refine tk 4 (by assumption) rfl (by kernel_rfl) (fun _ _ _ h => h) (fun V hV => by go_simp; try with_reducible rfl) ?_
            try simp only [Act.put, sqA, sqB, sqC, sqD, sqE, sqF]
            refine tk 5 (by assumption) rfl (by kernel_rfl) (fun _ _ _ h => h) (tk_load 61 (.tmp 9) rfl _ 0 rfl (nC x) _ (fun V hV => HKQ.out V hV) Tryz.underlying61 (by rfl) (by kernel_rfl)) ?_
            try simp only [Act.put, sqA, sqB, sqC, sqD, sqE, sqF]
            refine tk 7 (by assumption) rfl (by kernel_rfl) (fun _ _ _ h => h) (fun V hV => by go_simp; try with_reducible rfl) ?_
            try simp only [Act.put, sqA, sqB, sqC, sqD, sqE, sqF]
            refine tk 8 (by assumption) rfl (by kernel_rfl) (fun _ _ _ h => h) (fun V hV => by go_simp; try with_reducible rfl) ?_
            try simp only [Act.put, sqA, sqB, sqC, sqD, sqE, sqF]
            refine tk 9 (by assumption) rfl (by kernel_rfl) (fun _ _ _ h => h) (fun V hV => by go_simp; try with_reducible rfl) ?_
            try simp only [Act.put, sqA, sqB, sqC, sqD, sqE, sqF]
            refine tk 10 (by assumption) rfl (by kernel_rfl) (fun _ _ _ h => h) (tk_load 61 (.tmp 41) rfl ba (oa + k * 5) rfl (nC y) _ (fun V hV => HKY.out V hV) Tryz.underlying61 (by rfl) (by kernel_rfl)) ?_
            try simp only [Act.put, sqA, sqB, sqC, sqD, sqE, sqF]
            refine wpAnyH_ready (rs := [6, 11]) (by kernel_rfl) (by simp) ?_
            refine AllReadyH.cons (o := _) rfl (fun K hK => ?_) (AllReadyH.cons (o := _) rfl (fun K hK => ?_) (AllReadyH.nil))
            · go_simp
              refine hK.out _ _ (hs0.trans ((gAl _ _).mono hs0.size)) (fun hs0 => ?_)
              clear hK K
              try simp only [Act.put, sqA, sqB, sqC, sqD, sqE, sqF]
              refine wpAnyH_ready (rs := [11]) (by kernel_rfl) (by simp) ?_
              refine AllReadyH.cons (o := _) rfl (fun K hK => ?_) AllReadyH.nil
              go_simp
              refine hK.out _ _ (hs0.trans ((gAl _ _).mono hs0.size)) (fun hs0 => ?_)
              clear hK K
              try simp only [Act.put, sqA, sqB, sqC, sqD, sqE, sqF]
              refine wpAnyH_ready (rs := [12]) (by kernel_rfl) (by simp) ?_
              refine AllReadyH.cons (o := _) rfl (fun K hK => ?_) AllReadyH.nil
              go_simp
              refine (rSameNews_any [x] [y] _ 1 _ 1 _ _ (one_in (by first | exact two_fst _ _ _ _ | exact two_snd _ _ _ _) (by simp; try omega)) (one_in (by first | exact two_fst _ _ _ _ | exact two_snd _ _ _ _) (by simp; try omega)) (Nat.le_refl _) (by simp)).mono ?_
              rintro e2 V2 ⟨⟨rb, rfl, hrb⟩, hb2⟩
              obtain rfl : rb = (nwE x y) := bool_ext (by rw [hrb, nwE_iff]; simp)
              rw [HEQ.out]
              go_wp2_with fail
              refine hK.out _ _ (hs0.trans (hb2.mono hs0.size)) (fun hs0 => ?_)
              clear hK K
              try simp only [Act.put, sqA, sqB, sqC, sqD, sqE, sqF]
              refine tk 13 (by assumption) rfl (by kernel_rfl) (fun _ _ _ h => h) (fun V hV => by go_simp; try with_reducible rfl) ?_
              try simp only [Act.put, sqA, sqB, sqC, sqD, sqE, sqF]
              refine tk 14 (by assumption) rfl (by kernel_rfl) (fun _ _ _ h => h) (fun V hV => by go_simp; try with_reducible rfl) ?_
              try simp only [Act.put, sqA, sqB, sqC, sqD, sqE, sqF]
              refine tk 15 (by assumption) rfl (by kernel_rfl) (fun _ _ _ h => h) (fun V hV => by go_simp; try with_reducible rfl) ?_
              try simp only [Act.put, sqA, sqB, sqC, sqD, sqE, sqF]
              refine wpAnyH_done (by kernel_rfl) ?_ _
              have HS8 := Lib.hid (HS9.out.trans (hs0.mono HS9.out.size))
              clear hs0
              go_wp2_with fail
              exact HN0.out _ HS8.out
            · go_simp
              refine hK.out _ _ (hs0.trans ((gAl _ _).mono hs0.size)) (fun hs0 => ?_)
              clear hK K
              try simp only [Act.put, sqA, sqB, sqC, sqD, sqE, sqF]
              refine wpAnyH_ready (rs := [6]) (by kernel_rfl) (by simp) ?_
              refine AllReadyH.cons (o := _) rfl (fun K hK => ?_) AllReadyH.nil
              go_simp
              refine hK.out _ _ (hs0.trans ((gAl _ _).mono hs0.size)) (fun hs0 => ?_)
              clear hK K
              try simp only [Act.put, sqA, sqB, sqC, sqD, sqE, sqF]
              refine wpAnyH_ready (rs := [12]) (by kernel_rfl) (by simp) ?_
              refine AllReadyH.cons (o := _) rfl (fun K hK => ?_) AllReadyH.nil
              go_simp
              refine (rSameNews_any [x] [y] _ 1 _ 1 _ _ (one_in (by first | exact two_fst _ _ _ _ | exact two_snd _ _ _ _) (by simp; try omega)) (one_in (by first | exact two_fst _ _ _ _ | exact two_snd _ _ _ _) (by simp; try omega)) (Nat.le_refl _) (by simp)).mono ?_
              rintro e2 V2 ⟨⟨rb, rfl, hrb⟩, hb2⟩
              obtain rfl : rb = (nwE x y) := bool_ext (by rw [hrb, nwE_iff]; simp)
              rw [HEQ.out]
              go_wp2_with fail
              refine hK.out _ _ (hs0.trans (hb2.mono hs0.size)) (fun hs0 => ?_)
              clear hK K
              try simp only [Act.put, sqA, sqB, sqC, sqD, sqE, sqF]
              refine tk 13 (by assumption) rfl (by kernel_rfl) (fun _ _ _ h => h) (fun V hV => by go_simp; try with_reducible rfl) ?_
              try simp only [Act.put, sqA, sqB, sqC, sqD, sqE, sqF]
              refine tk 14 (by assumption) rfl (by kernel_rfl) (fun _ _ _ h => h) (fun V hV => by go_simp; try with_reducible rfl) ?_
              try simp only [Act.put, sqA, sqB, sqC, sqD, sqE, sqF]
              refine tk 15 (by assumption) rfl (by kernel_rfl) (fun _ _ _ h => h) (fun V hV => by go_simp; try with_reducible rfl) ?_
              try simp only [Act.put, sqA, sqB, sqC, sqD, sqE, sqF]
              refine wpAnyH_done (by kernel_rfl) ?_ _
              have HS8 := Lib.hid (HS9.out.trans (hs0.mono HS9.out.size))
              clear hs0
              go_wp2_with fail
              exact HN0.out _ HS8.out
          | false =>
            have HEQ := Lib.hid heq
            have HN1 := Lib.hid (HNX1.out (by rw [HTH.out, heq]; rfl))
            clear heq
            go_upto_region 6 with (fail)
            refine wp_region_held_drew (S := fun V => Below V9.heap.size V9 V) (by kernel_rfl) (Below.refl _ V9).drew (fun hs0 => ?_)
            clear HKA
            refine tk 0 (by assumption) rfl (by kernel_rfl) (fun _ _ _ h => h) (fun V hV => by go_simp; try with_reducible rfl) ?_
            try simp only [Act.put, sqA, sqB, sqC, sqD, sqE, sqF]
            refine tk 1 (by assumption) rfl (by kernel_rfl) (fun _ _ _ h => h) (fun V hV => by go_simp; try with_reducible rfl) ?_
            try simp only [Act.put, sqA, sqB, sqC, sqD, sqE, sqF]
            refine tk 2 (by assumption) rfl (by kernel_rfl) (fun _ _ _ h => h) (fun V hV => by go_simp; try with_reducible rfl) ?_
            try simp only [Act.put, sqA, sqB, sqC, sqD, sqE, sqF]
            refine tk 3 (by assumption) rfl (by kernel_rfl) (fun _ _ _ h => h) (fun V hV => by go_simp; try with_reducible rfl) ?_
            try simp only [Act.put, sqA, sqB, sqC, sqD, sqE, sqF]
            refine tk 4 (by assumption) rfl (by kernel_rfl) (fun _ _ _ h => h) (fun V hV => by go_simp; try with_reducible rfl) ?_
            try simp only [Act.put, sqA, sqB, sqC, sqD, sqE, sqF]
            refine tk 5 (by assumption) rfl (by kernel_rfl) (fun _ _ _ h => h) (tk_load 61 (.tmp 9) rfl _ 0 rfl (nC x) _ (fun V hV => HKQ.out V hV) Tryz.underlying61 (by rfl) (by kernel_rfl)) ?_
            try simp only [Act.put, sqA, sqB, sqC, sqD, sqE, sqF]
            refine tk 7 (by assumption) rfl (by kernel_rfl) (fun _ _ _ h => h) (fun V hV => by go_simp; try with_reducible rfl) ?_
            try simp only [Act.put, sqA, sqB, sqC, sqD, sqE, sqF]
            refine tk 8 (by assumption) rfl (by kernel_rfl) (fun _ _ _ h => h) (fun V hV => by go_simp; try with_reducible rfl) ?_
            try simp only [Act.put, sqA, sqB, sqC, sqD, sqE, sqF]
            refine tk 9 (by assumption) rfl (by kernel_rfl) (fun _ _ _ h => h) (fun V hV => by go_simp; try with_reducible rfl) ?_
            try simp only [Act.put, sqA, sqB, sqC, sqD, sqE, sqF]
            refine tk 10 (by assumption) rfl (by kernel_rfl) (fun _ _ _ h => h) (tk_load 61 (.tmp 41) rfl ba (oa + k * 5) rfl (nC y) _ (fun V hV => HKY.out V hV) Tryz.underlying61 (by rfl) (by kernel_rfl)) ?_
            try simp only [Act.put, sqA, sqB, sqC, sqD, sqE, sqF]
            refine wpAnyH_ready (rs := [6, 11]) (by kernel_rfl) (by simp) ?_
            refine AllReadyH.cons (o := _) rfl (fun K hK => ?_) (AllReadyH.cons (o := _) rfl (fun K hK => ?_) (AllReadyH.nil))
            · go_simp
              refine hK.out _ _ (hs0.trans ((gAl _ _).mono hs0.size)) (fun hs0 => ?_)
              clear hK K
              try simp only [Act.put, sqA, sqB, sqC, sqD, sqE, sqF]
              refine wpAnyH_ready (rs := [11]) (by kernel_rfl) (by simp) ?_
              refine AllReadyH.cons (o := _) rfl (fun K hK => ?_) AllReadyH.nil
              go_simp
              refine hK.out _ _ (hs0.trans ((gAl _ _).mono hs0.size)) (fun hs0 => ?_)
              clear hK K
              try simp only [Act.put, sqA, sqB, sqC, sqD, sqE, sqF]
              refine wpAnyH_ready (rs := [12]) (by kernel_rfl) (by simp) ?_
              refine AllReadyH.cons (o := _) rfl (fun K hK => ?_) AllReadyH.nil
              go_simp
              refine (rSameNews_any [x] [y] _ 1 _ 1 _ _ (one_in (by first | exact two_fst _ _ _ _ | exact two_snd _ _ _ _) (by simp; try omega)) (one_in (by first | exact two_fst _ _ _ _ | exact two_snd _ _ _ _) (by simp; try omega)) (Nat.le_refl _) (by simp)).mono ?_
              rintro e2 V2 ⟨⟨rb, rfl, hrb⟩, hb2⟩
              obtain rfl : rb = (nwE x y) := bool_ext (by rw [hrb, nwE_iff]; simp)
              rw [HEQ.out]
              go_wp2_with fail
              refine hK.out _ _ (hs0.trans (hb2.mono hs0.size)) (fun hs0 => ?_)
              clear hK K
              try simp only [Act.put, sqA, sqB, sqC, sqD, sqE, sqF]
              refine tk 13 (by assumption) rfl (by kernel_rfl) (fun _ _ _ h => h) (fun V hV => by go_simp; try with_reducible rfl) ?_
              try simp only [Act.put, sqA, sqB, sqC, sqD, sqE, sqF]
              refine tk 14 (by assumption) rfl (by kernel_rfl) (fun _ _ _ h => h) (fun V hV => by go_simp; try with_reducible rfl) ?_
              try simp only [Act.put, sqA, sqB, sqC, sqD, sqE, sqF]
              refine tk 15 (by assumption) rfl (by kernel_rfl) (fun _ _ _ h => h) (fun V hV => by go_simp; try with_reducible rfl) ?_
              try simp only [Act.put, sqA, sqB, sqC, sqD, sqE, sqF]
              refine wpAnyH_done (by kernel_rfl) ?_ _
              have HS8 := Lib.hid (HS9.out.trans (hs0.mono HS9.out.size))
              clear hs0
              go_wp2_with fail
              exact HN1.out _ HS8.out
            · go_simp
              refine hK.out _ _ (hs0.trans ((gAl _ _).mono hs0.size)) (fun hs0 => ?_)
              clear hK K
              try simp only [Act.put, sqA, sqB, sqC, sqD, sqE, sqF]
              refine wpAnyH_ready (rs := [6]) (by kernel_rfl) (by simp) ?_
              refine AllReadyH.cons (o := _) rfl (fun K hK => ?_) AllReadyH.nil
              go_simp
              refine hK.out _ _ (hs0.trans ((gAl _ _).mono hs0.size)) (fun hs0 => ?_)
              clear hK K
              try simp only [Act.put, sqA, sqB, sqC, sqD, sqE, sqF]
              refine wpAnyH_ready (rs := [12]) (by kernel_rfl) (by simp) ?_
              refine AllReadyH.cons (o := _) rfl (fun K hK => ?_) AllReadyH.nil
              go_simp
              refine (rSameNews_any [x] [y] _ 1 _ 1 _ _ (one_in (by first | exact two_fst _ _ _ _ | exact two_snd _ _ _ _) (by simp; try omega)) (one_in (by first | exact two_fst _ _ _ _ | exact two_snd _ _ _ _) (by simp; try omega)) (Nat.le_refl _) (by simp)).mono ?_
              rintro e2 V2 ⟨⟨rb, rfl, hrb⟩, hb2⟩
              obtain rfl : rb = (nwE x y) := bool_ext (by rw [hrb, nwE_iff]; simp)
              rw [HEQ.out]
              go_wp2_with fail
              refine hK.out _ _ (hs0.trans (hb2.mono hs0.size)) (fun hs0 => ?_)
              clear hK K
              try simp only [Act.put, sqA, sqB, sqC, sqD, sqE, sqF]
              refine tk 13 (by assumption) rfl (by kernel_rfl) (fun _ _ _ h => h) (fun V hV => by go_simp; try with_reducible rfl) ?_
              try simp only [Act.put, sqA, sqB, sqC, sqD, sqE, sqF]
              refine tk 14 (by assumption) rfl (by kernel_rfl) (fun _ _ _ h => h) (fun V hV => by go_simp; try with_reducible rfl) ?_
              try simp only [Act.put, sqA, sqB, sqC, sqD, sqE, sqF]
              refine tk 15 (by assumption) rfl (by kernel_rfl) (fun _ _ _ h => h) (fun V hV => by go_simp; try with_reducible rfl) ?_
              try simp only [Act.put, sqA, sqB, sqC, sqD, sqE, sqF]
              refine wpAnyH_done (by kernel_rfl) ?_ _
              have HS8 := Lib.hid (HS9.out.trans (hs0.mono HS9.out.size))
              clear hs0
              go_wp2_with fail
              exact HN1.out _ HS8.out
    · have hnki : ¬ (k : Int) < (a.length : Int) := by omega
      have HE : Hid (n = cntCh a b true) := Lib.hid (by rw [hn, List.take_of_length_le (by omega)])
      clear hn
      go_wp2_with fail
      refine bodyPost_ret (v := .int .i64 (n : Int)) (by simp [results, Tryz.results50, go_sem]) rfl ?_
      exact ⟨by rw [HE.out], hbel⟩
end Go.Proofs.YtjhmfmpaaljegaaGreat
