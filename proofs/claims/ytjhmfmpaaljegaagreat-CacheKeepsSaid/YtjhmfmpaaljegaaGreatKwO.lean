/- Caches, the program: the destinations that are offered. -/
import Derived.Test.YtjhmfmpaaljegaaGreatKwI
namespace Go.Proofs.YtjhmfmpaaljegaaGreat
open Go.RowKit Go.Lib Go.Ow Go.Cw Go.Fq Go.Mq Go.Kq Go.Kw Go.Maps Go.Sort Go.Shelf
set_option linter.unusedVariables false
set_option linter.unusedSimpArgs false
set_option maxRecDepth 100000

/-- Whose keys a map of numbers has. -/
def KeysD (D : DataW Unit) (Q : Int → Prop) : Prop := ∀ x, (-9223372036854775808 ≤ x ∧ x < 9223372036854775808) → (Maps.has D (.int .i64 x) = true ↔ Q x)
theorem keyLit_int (x : Int) : WideAt.IsKeyLit (.int .i64 x) := trivial
theorem KeysD.put {D : DataW Unit} {Q : Int → Prop} (h : KeysD D Q) (hD : Maps.IsMap D) (k : Int) (d : DataW Unit) : KeysD (D.put (.int .i64 k) d) (fun x => Q x ∨ x = k) := fun x hx => by
  by_cases e : x = k
  · subst e
    rw [Maps.has_put_same hD (keyLit_int x)]
    simp
  · rw [Maps.has_put_other (fun e2 => e (by simpa using e2)), h x hx]
    simp [e]
theorem KeysD.congr {D : DataW Unit} {Q Q' : Int → Prop} (h : KeysD D Q) (he : ∀ x, Q x ↔ Q' x) : KeysD D Q' := fun x hx => (h x hx).trans (he x)
theorem keysD_nil : KeysD (.map []) (fun _ => False) := fun x _ => by simp [Maps.has_eq]
/-- The keys of a map of numbers, each once. -/
theorem int_keys {P : Program} {k : TypeId} {R : Value → Option (DataW Unit × List MemPlace)} {w : World} {b n : Nat} {D : DataW Unit} (hk : P.underlying k = some (.int .i64)) (h : w.ownsMap P k R b n D) : (intKeys D).Nodup ∧ ∀ x, x ∈ intKeys D ↔ ((-9223372036854775808 ≤ x ∧ x < 9223372036854775808) ∧ Maps.has D (.int .i64 x) = true) := by
  obtain ⟨es, e1, h1, -⟩ := h.entries (Maps.int_keyed hk)
  have hint : ∀ p ∈ es, ∃ x : Int, p.1 = .int .i64 x ∧ (Lit.int .i64 x).wf = true := by
    obtain ⟨es0, clock, hb, F, hs, hD⟩ := h
    have hf := Maps.fit_keys F
    intro p hp
    rw [e1] at hD
    simp only [DataW.map.injEq] at hD
    rw [hD] at hp
    obtain ⟨v, hv⟩ := hf p (mem_sorted.1 hp)
    obtain ⟨x, -, h2, h3⟩ := Maps.keyOf_int_inv hk hv
    exact ⟨x, h2, h3⟩
  subst e1
  constructor
  · show (es.map fun p : Lit × DataW Unit => Go.intOf p.1).Nodup
    unfold List.Nodup
    rw [List.pairwise_map]
    refine List.Pairwise.imp_of_mem (fun {p q} hp hq hne => ?_) h1
    obtain ⟨x, ex, -⟩ := hint p hp
    obtain ⟨y, ey, -⟩ := hint q hq
    rw [ex, ey] at hne ⊢
    intro e
    exact hne (by simpa [Go.intOf] using e)
  · intro x
    show x ∈ es.map (fun p : Lit × DataW Unit => Go.intOf p.1) ↔ _
    rw [Maps.has_eq, List.any_eq_true, List.mem_map]
    constructor
    · rintro ⟨p, hp, rfl⟩
      obtain ⟨y, ey, hw⟩ := hint p hp
      rw [ey]
      simp only [Go.intOf]
      refine ⟨by simp [Lit.wf, IntKind.min, IntKind.max, IntKind.signed, IntKind.bits] at hw; omega, p, hp, by rw [ey]; simp [Lit.sameKey]⟩
    · rintro ⟨hx, p, hp, hs⟩
      obtain ⟨y, ey, -⟩ := hint p hp
      rw [ey] at hs
      exact ⟨p, hp, by rw [ey]; simpa [Lit.sameKey, Go.intOf] using hs⟩
/-- Numbers told in their order, each once: those of which Q speaks. -/
def DsRet (w : World) (Q : Int → Prop) (e : Ending) (w' : World) : Prop := Below w.heap.size w w' ∧ ∃ (zs : List Int) (a : Option Addr) (c : Nat), e = .returned (.slice a zs.length c) ∧ zs.Pairwise (· < ·) ∧ (∀ x, x ∈ zs ↔ (-9223372036854775808 ≤ x ∧ x < 9223372036854775808) ∧ Q x) ∧ ∀ k (hk : k < zs.length), ∃ g, a = some ⟨g, 0, none⟩ ∧ g < w'.heap.size ∧ w'.cell? ⟨g, k, none⟩ = some (.int .i64 zs[k])
theorem sort_strict {ss : List Int} (hn : ss.Nodup) : (ss.mergeSort leI).Pairwise (· < ·) := by
  have tr : ∀ a b c : Int, leI a b = true → leI b c = true → leI a c = true := fun a b c h1 h2 => by simp only [leI, decide_eq_true_eq] at *; exact Int.le_trans h1 h2
  have tt : ∀ a b : Int, (leI a b || leI b a) = true := fun a b => by simp only [leI, Bool.or_eq_true, decide_eq_true_eq]; exact Int.le_total a b
  have h1 := List.pairwise_mergeSort tr tt ss
  have h2 : (ss.mergeSort leI).Nodup := (List.mergeSort_perm ss leI).nodup_iff.2 hn
  refine List.Pairwise.imp₂ (R := fun a b => leI a b = true) (S := (· ≠ ·)) (fun a b hab hne => ?_) h1 h2
  simp only [leI, decide_eq_true_eq] at hab
  omega
set_option maxHeartbeats 2000000 in
theorem kSorted_any (b nn : Nat) (D0 : DataW Unit) (R : Value → Option (DataW Unit × List MemPlace)) (w : World) (hown : w.ownsMap Tryz.prog 3 R b nn D0) (hmax : Maps.size D0 ≤ maxLen) (hbytes : Maps.size D0 * 8 ≤ 140737488355328) :
    Calls Tryz.prog 42 #[.func (.func 60) #[] #[.pointer (some ⟨w.heap.size, 0, none⟩)]] (w.alloc (.cells #[.map (some b)] 88)) fun e w' => ∃ (v : Value) (ss : List Int), e = .returned v ∧ ss.Perm (intKeys D0) ∧
      w'.ownsRow (w.heap.size + 1) 3 1 v ss.length ((ss.mergeSort (fun x y => decide (x ≤ y))).map encZ) ∧ (v = .slice none 0 0 ↔ ss = []) ∧ Below (w.heap.size + 1) (w.alloc (.cells #[.map (some b)] 88)) w' := by
  refine (callsIn_wide (n := 5)).1 ?_
  have hbl := hown.lt
  have hseq : SeqGives Fence.wide 2 Tryz.prog 60 #[.pointer (some ⟨w.heap.size, 0, none⟩)] encZ (fun ss => ss.Perm (intKeys D0)) (Maps.size D0) (w.alloc (.cells #[.map (some b)] 88)) :=
    AnyZI.keys_gives (ρ := Tryz.keysB_ren) { Tryz.keysB with } Fence.wide _ trivial rfl (by omega) w.heap.size b nn D0 _ (by simp) (by simp) (by
      obtain ⟨es, clock, hb, Ft, hs, hD⟩ := hown
      exact ⟨es, clock, (Below.heap_alloc _ _ b hbl).trans hb, Ft, hs, hD⟩)
  have cS := AnyZI.sorted_in Tryz.sortedA Fence.wide 5 trivial trivial trivial trivial rfl (by omega) (Tryz.kSorts _) (enters_of Tryz.func59 (by kernel_rfl) rfl) 60 #[.pointer (some ⟨w.heap.size, 0, none⟩)] trivial (enters_of Tryz.func60 (by kernel_rfl) rfl) _ _ hmax hbytes _ hseq
  change CallsIn _ _ Tryz.prog 42 _ _ _ at cS
  refine cS.mono ?_
  rintro e w' ⟨v, ss, rfl, hS, hrow, hnil, hb⟩
  rw [World.size_alloc] at hrow hb
  exact ⟨v, ss, rfl, hS, hrow, hnil, hb⟩
theorem kKeysB_any (mb : Option Nat) (W : World) : Calls Tryz.prog 43 #[.map mb] W fun e w' => e = .returned (.func (.func 60) #[] #[.pointer (some ⟨W.heap.size, 0, none⟩)]) ∧ w' = W.alloc (.cells #[.map mb] 88) := (callsIn_wide (n := 5)).1 (AnyZI.keys_in Tryz.keysB Fence.wide 5 trivial rfl mb W)
/-- What Dests has on its way: the neighbours that are not left have been gone through. -/
def Seen (N : List (Hd × Nat)) (left : Lit → Bool) (kd : Int) (x : Int) : Prop := ∃ p ∈ N, left (.int .i64 p.1.id) = false ∧ ∃ y ∈ p.1.ns, y.kind = kd ∧ y.dest = x
def Offd (M : List Hd) (kd : Int) (x : Int) : Prop := ∃ h ∈ M, ∃ y ∈ h.ns, y.kind = kd ∧ y.dest = x
abbrev unitR : Value → Option (DataW Unit × List MemPlace) := unitElem
structure Dw (w : World) (mb rb ob : Nat) (N : List (Hd × Nat)) (left : Lit → Bool) (cnt n : Nat) (D : DataW Unit) (Q : Int → Prop) (wr : World) : Prop where
  rg : wr.ranges Tryz.prog 3 ptrR mb rb N.length (dat (keyL N)) left cnt
  own : wr.ownsMap Tryz.prog 3 unitR ob n D
  keys : KeysD D Q
  bel : Below w.heap.size w wr
  lo : w.heap.size ≤ ob ∧ w.heap.size ≤ rb ∧ ob ≠ rb ∧ mb < w.heap.size
theorem gb_below {w a b : World} {j : Nat} (h : a.grownBy b (some j)) (hb : Below w.heap.size w a) (hj : w.heap.size ≤ j) : Below w.heap.size w b :=
  ⟨h.os.trans hb.os, h.tape.trans hb.tape, h.output.trans hb.output, Nat.le_trans hb.size h.size, fun k hk => (h.block k (Nat.lt_of_lt_of_le hk hb.size) (fun e => by have := Option.some.inj e; omega)).trans (hb.block k hk)⟩
theorem Dw.alloc {w : World} {mb rb ob : Nat} {N : List (Hd × Nat)} {left : Lit → Bool} {cnt n : Nat} {D : DataW Unit} {Q : Int → Prop} {wr : World} (h : Dw w mb rb ob N left cnt n D Q wr) (o : Obj) : Dw w mb rb ob N left cnt n D Q (wr.alloc o) :=
  ⟨h.rg.alloc o, h.own.alloc o, h.keys, h.bel.trans ((gAl wr o).mono h.bel.size), h.lo⟩
theorem gb_below0 {w a b : World} (h : a.grownBy b none) (hb : Below w.heap.size w a) : Below w.heap.size w b :=
  ⟨h.os.trans hb.os, h.tape.trans hb.tape, h.output.trans hb.output, Nat.le_trans hb.size h.size, fun k hk => (h.block k (Nat.lt_of_lt_of_le hk hb.size) (fun e => by cases e)).trans (hb.block k hk)⟩
theorem dat_entry {L : List (Int × Nat)} (hp : L.Pairwise (fun p q => p.1 ≠ q.1)) {k : Int} {d : DataW Unit} (h : ∀ z, (dat L).atKey (.int .i64 k) z = d) : ∃ b, (k, b) ∈ L ∧ d = .lit (.int .i64 (b : Int)) := by
  by_cases hx : ∃ p ∈ L, p.1 = k
  · obtain ⟨p, hpL, e⟩ := hx
    subst e
    exact ⟨p.2, hpL, by rw [← h .nil, dat_at hp hpL]⟩
  · have hn : ∀ p ∈ L, p.1 ≠ k := fun p hpL e => hx ⟨p, hpL, e⟩
    have h1 := h .nil
    have h2 := h (.lit (.int .i64 0))
    rw [dat_none hn] at h1 h2
    rw [← h1] at h2
    cases h2
theorem Dw.set {w : World} {mb rb ob : Nat} {N : List (Hd × Nat)} {left : Lit → Bool} {cnt n : Nat} {D : DataW Unit} {Q : Int → Prop} {wr w1 : World} {k : Int} (h : Dw w mb rb ob N left cnt n D Q wr) (hk : -9223372036854775808 ≤ k ∧ k < 9223372036854775808)
    (hown : w1.ownsMap Tryz.prog 3 unitR ob (n + 1) (D.put (.int .i64 k) (.agg []))) (hg : wr.grownBy w1 (some ob)) : Dw w mb rb ob N left cnt (n + 1) (D.put (.int .i64 k) (.agg [])) (fun x => Q x ∨ x = k) w1 := by
  obtain ⟨l1, l2, l3, l4⟩ := h.lo
  exact ⟨h.rg.kept hg (by simp; omega) (by simp; omega), hown, h.keys.put h.own.isMap k _, gb_below hg h.bel l1, h.lo⟩
theorem rng_ofO {w : World} {l : List Nw} {b o i : Nat} (hat : ∀ k (h : k < l.length), NwAt w b (o + k * 5) l[k]) (hi : i < l.length) (hb : b < w.heap.size) : ∀ V, Below w.heap.size w V → V.rangeAt b (o + i * 5) (nC l[i]) := fun V hV => by
  have h1 := NwS.range (l := [l[i]]) (b := b) (o := o + i * 5) (w := w) (fun j hj => by
    have : j = 0 := by simp at hj; omega
    subst this
    simpa using hat i hi)
  exact below_keep hV hb (by simpa [nRow] using h1)
theorem seen_start {N : List (Hd × Nat)} {kd : Int} (x : Int) : ¬ Seen N (Maps.has (dat (keyL N))) kd x := by
  rintro ⟨p, hp, hl, -⟩
  have : Maps.has (dat (keyL N)) (.int .i64 p.1.id) = true := by
    unfold dat
    rw [Maps.has_eq, List.any_eq_true]
    exact ⟨(.int .i64 p.1.id, .lit (.int .i64 (p.2 : Int))), List.mem_map.2 ⟨(p.1.id, p.2), List.mem_map.2 ⟨p, hp, rfl⟩, rfl⟩, by simp [Lit.sameKey]⟩
  rw [this] at hl
  cases hl
theorem seen_end {N : List (Hd × Nat)} {left : Lit → Bool} {kd : Int} (h : ∀ kl, left kl = false) (x : Int) : Seen N left kd x ↔ Offd (N.map (·.1)) kd x := by
  constructor
  · rintro ⟨p, hp, -, y, hy, h1, h2⟩
    exact ⟨p.1, List.mem_map.2 ⟨p, hp, rfl⟩, y, hy, h1, h2⟩
  · rintro ⟨g, hg, y, hy, h1, h2⟩
    obtain ⟨p, hp, rfl⟩ := List.mem_map.1 hg
    exact ⟨p, hp, h _, y, hy, h1, h2⟩
theorem pw_injO {α : Type} {f : α → Int} : ∀ {L : List α} {p q : α}, L.Pairwise (fun a b => f a ≠ f b) → p ∈ L → q ∈ L → f p = f q → p = q
  | [], _, _, _, h, _, _ => by simp at h
  | a :: L, p, q, h, hp, hq, e => by
    obtain ⟨h1, h2⟩ := List.pairwise_cons.1 h
    rcases List.mem_cons.1 hp with ep | hp2
    · rcases List.mem_cons.1 hq with eq | hq2
      · rw [ep, eq]
      · rw [ep] at e; exact absurd e (h1 q hq2)
    · rcases List.mem_cons.1 hq with eq | hq2
      · rw [eq] at e; exact absurd e.symm (h1 p hp2)
      · exact pw_injO h2 hp2 hq2 e
theorem seen_step {N : List (Hd × Nat)} (hN : (keyL N).Pairwise (fun p q => p.1 ≠ q.1)) {p : Hd × Nat} (hp : p ∈ N) (left : Lit → Bool) (kd : Int) (x : Int) :
    (Seen N left kd x ∨ ∃ y ∈ p.1.ns, y.kind = kd ∧ y.dest = x) ↔ Seen N (fun z => left z && !z.sameKey (.int .i64 p.1.id)) kd x := by
  constructor
  · rintro (⟨q, hq, hl, hy⟩ | hy)
    · exact ⟨q, hq, by simp [hl], hy⟩
    · exact ⟨p, hp, by simp [Lit.sameKey], hy⟩
  · rintro ⟨q, hq, hl, hy⟩
    by_cases e : q.1.id = p.1.id
    · have : q = p := by
        unfold keyL at hN
        rw [List.pairwise_map] at hN
        exact pw_injO (f := fun p : Hd × Nat => p.1.id) hN hq hp e
      subst this
      exact Or.inr hy
    · refine Or.inl ⟨q, hq, ?_, hy⟩
      simpa [Lit.sameKey, e] using hl
theorem Dw.belowO {w : World} {mb rb ob : Nat} {N : List (Hd × Nat)} {left : Lit → Bool} {cnt n : Nat} {D : DataW Unit} {Q : Int → Prop} {wr w2 : World} (h : Dw w mb rb ob N left cnt n D Q wr) (hb : Below wr.heap.size wr w2) : Dw w mb rb ob N left cnt n D Q w2 := by
  have hg : wr.grownBy w2 none := ⟨hb.os, hb.tape, hb.output, hb.size, fun k hk _ => hb.block k hk⟩
  exact ⟨h.rg.kept hg (by simp) (by simp), h.own.kept hg (by simp), h.keys, gb_below0 hg h.bel, h.lo⟩
theorem boxedO (V : World) (z : Nw) (W2 : World) (h : W2 = (V.alloc (.cells #[.int .i64 0, .int .i64 0, .float .f64 0, .float .f64 0, .int .i64 0] 61)).setCells V.heap.size 0 (nC z).toArray.toList) : W2.cell? ⟨V.heap.size, 0, none⟩ = some (.int .i64 z.dest) ∧ W2.cell? ⟨V.heap.size, 1, none⟩ = some (.int .i64 z.kind) ∧ Below V.heap.size V W2 := by
  have hr := World.rangeAt_setCells_same (V.alloc (.cells #[.int .i64 0, .int .i64 0, .float .f64 0, .float .f64 0, .int .i64 0] 61)) V.heap.size 0 (nC z) (there_box V (nC zeroN) 61)
  subst h
  exact ⟨hr 0 _ rfl, hr 1 _ rfl, below_set V.heap.size (Nat.le_refl _) _ 0 _ (gAl V _)⟩
theorem take_stepO {ns : List Nw} {k : Nat} (hk : k < ns.length) (kd : Int) (Q : Int → Prop) (x : Int) : (Q x ∨ ∃ y ∈ ns.take (k + 1), y.kind = kd ∧ y.dest = x) ↔ ((Q x ∨ ∃ y ∈ ns.take k, y.kind = kd ∧ y.dest = x) ∨ (ns[k].kind = kd ∧ ns[k].dest = x)) := by
  rw [List.take_succ_eq_append_getElem hk]
  constructor
  · rintro (h | ⟨y, hy, h⟩)
    · exact Or.inl (Or.inl h)
    · rcases List.mem_append.1 hy with hy | hy
      · exact Or.inl (Or.inr ⟨y, hy, h⟩)
      · obtain rfl : y = ns[k] := by simpa using hy
        exact Or.inr h
  · rintro ((h | ⟨y, hy, h⟩) | h)
    · exact Or.inl h
    · exact Or.inr ⟨y, List.mem_append_left _ hy, h⟩
    · exact Or.inr ⟨ns[k], List.mem_append_right _ (by simp), h⟩
theorem Dw.congr {w : World} {mb rb ob : Nat} {N : List (Hd × Nat)} {left : Lit → Bool} {cnt n : Nat} {D : DataW Unit} {Q Q' : Int → Prop} {wr : World} (h : Dw w mb rb ob N left cnt n D Q wr) (he : ∀ x, Q x ↔ Q' x) : Dw w mb rb ob N left cnt n D Q' wr := ⟨h.rg, h.own, h.keys.congr he, h.bel, h.lo⟩
theorem dests_ret {w wr w' : World} {mb rb n : Nat} {N : List (Hd × Nat)} {left : Lit → Bool} {cnt : Nat} {D : DataW Unit} {kd : Int} {v : Value} {ss : List Int} {o : Obj} (hd : Dw w mb rb w.heap.size N left cnt n D (Seen N left kd) wr) (hl : ∀ kl, left kl = false) (h1 : ss.Perm (intKeys D))
    (h2 : w'.ownsRow (wr.heap.size + 1) 3 1 v ss.length ((ss.mergeSort (fun x y => decide (x ≤ y))).map encZ)) (h3 : v = .slice none 0 0 ↔ ss = []) (h4 : Below (wr.heap.size + 1) (wr.alloc o) w') : DsRet w (Offd (N.map (·.1)) kd) (.returned v) w' := by
  have hbel : Below w.heap.size w w' := (hd.bel.trans ((gAl wr o).mono hd.bel.size)).trans (h4.mono (by have := hd.bel.size; omega))
  obtain ⟨hn, hk⟩ := int_keys Tryz.underlying3 hd.own
  have hlen : (ss.mergeSort leI).length = ss.length := List.length_mergeSort ss
  have hs := sort_strict (h1.nodup_iff.2 hn)
  have hmem : ∀ x, x ∈ ss.mergeSort leI ↔ (-9223372036854775808 ≤ x ∧ x < 9223372036854775808) ∧ Offd (N.map (·.1)) kd x := fun x => by
    rw [List.mem_mergeSort, h1.mem_iff, hk x]
    constructor
    · rintro ⟨ha, hb⟩; exact ⟨ha, (seen_end hl x).1 ((hd.keys x ha).1 hb)⟩
    · rintro ⟨ha, hb⟩; exact ⟨ha, (hd.keys x ha).2 ((seen_end hl x).2 hb)⟩
  change w'.ownsRow (wr.heap.size + 1) 3 1 v ss.length ((ss.mergeSort leI).map encZ) at h2
  generalize hz : ss.mergeSort leI = zs at *
  rcases Own.of_row h2 with ⟨h0, -, -⟩ | ⟨g, cap, cur, e1, hg, hc, hcap, -, hss, hx⟩
  · have : ss = [] := List.length_eq_zero_iff.1 h0
    have hz0 : zs = [] := List.length_eq_zero_iff.1 (by omega)
    exact ⟨hbel, zs, none, 0, by rw [h3.2 this, hz0]; rfl, hs, hmem, fun k hk => by rw [hz0] at hk; simp at hk⟩
  · refine ⟨hbel, zs, some ⟨g, 0, none⟩, cap, by rw [e1, hlen], hs, hmem, fun k hk2 => ⟨g, rfl, (Array.getElem?_eq_some_iff.1 hc).1, ?_⟩⟩
    rw [cell_of_row w' g _ _ _ (0, 0) hc, ← Array.getElem?_toList]
    have h3 : (cur.toList.take (ss.length * 1))[k]? = cur.toList[k]? := by rw [List.getElem?_take, if_pos (by omega)]
    rw [← h3, hx]
    simp [encZ, hk2]
set_option maxHeartbeats 16000000 in
theorem kDests_any {S T : Nat → Prop} {w : World} {c mb : Nat} {N : List (Hd × Nat)} (h : Cb S T w c mb N) (kd : Int) :
    Calls Tryz.prog 18 #[.pointer (some ⟨c, 0, none⟩), .int .i64 kd] w fun e w' => DsRet w (Offd (N.map (·.1)) kd) e w' := by
  have HC := Lib.hid h
  obtain ⟨c0, c1⟩ := h.cells
  have hN : N.length ≤ 256 := by have := h.ok.len; rw [List.length_map] at this; exact this
  have HN := Lib.hid hN
  have hmm := @run_makeMap Tryz.prog
  have hmbl := h.own.lt
  have HML := Lib.hid hmbl
  have hown1 := h.own.alloc (.map #[] 0)
  have c0' : (w.alloc (.map #[] 0)).cell? ⟨c, 0, none⟩ = some (.pointer (some ⟨c, 0, none⟩)) := ((gAl w _).cell (p := ⟨c, _, none⟩) (Array.getElem?_eq_some_iff.1 h.blk).1).trans c0
  have c1' : (w.alloc (.map #[] 0)).cell? ⟨c, 1, none⟩ = some (.map (some mb)) := ((gAl w _).cell (p := ⟨c, _, none⟩) (Array.getElem?_eq_some_iff.1 h.blk).1).trans c1
  clear h hN hmbl
  go_enter Tryz.func18, Tryz.ntmps18
  go_wp2_with (first
    | (go_at_call 41; refine (kGiven_any _ c c0).mono ?_; rintro e w' ⟨rfl, rfl⟩)
    | (at_range; refine wpList_range_own _ rfl _ 63 rfl 3 74 kKeyed Tryz.underlying63 ptrR mb N.length (dat (keyL N)) rfl hown1 ?_; intro w0 hrg0 hg0 hs0; generalize hrbE : (w.alloc (Obj.map #[] 0)).heap.size = rb at hrg0 hs0 ⊢))
  go_frame
  go_loopw [] (fun wr => ∃ (left : Lit → Bool) (cnt n : Nat) (D : DataW Unit), Dw w mb rb w.heap.size N left cnt n D (Seen N left kd) wr ∧ n + cnt * 4294967294 ≤ 256 * 4294967294) (fun wr => wr.rangeLeft mb rb)
  case atStart =>
    refine ⟨_, _, 0, .map [], ⟨hrg0, (World.ownsMap_made w _ _ _).kept hg0 (by simp), keysD_nil.congr (fun x => ⟨False.elim, seen_start x⟩), gb_below0 hg0 (gAl w _), ?_⟩, ?_⟩
    · rw [World.size_alloc] at hrbE; have := HML.out; omega
    · rw [dat_size]; unfold keyL; rw [List.length_map]; have := HN.out; omega
  case round =>
    obtain ⟨left, cnt, n, D, hd, hn⟩ := hrel
    have hrg := hd.rg
    have HD := Lib.hid hd
    have HNN := Lib.hid hn
    have hm0 := Lib.hid hrg.left_eq
    clear hd hn
    go_wp2_with (at_next; refine wpList_next_ranges _ rfl _ rfl 3 kKeyed ptrR id id (fun key _ _ => ⟨key, rfl⟩) (fun v _ _ => ⟨v, rfl⟩) mb rb N.length _ _ _ rfl hrg ?_ ?_)
    · intro hc0 hl0
      have HL0 := Lib.hid hl0
      have HC0 := Lib.hid hc0
      have hsz : Maps.size D ≤ n := HD.out.own.size_le
      have HS := Lib.hid (kSorted_any w.heap.size n D unitR wr HD.out.own (by have := HNN.out; unfold maxLen; omega) (by have := HNN.out; omega))
      clear hrg hl0 hc0 hsz
      go_wp2_with (first | (go_at_call 43; refine (kKeysB_any _ _).mono ?_; rintro e w' ⟨rfl, rfl⟩) | (go_at_call 42; refine HS.out.mono ?_; rintro e w' ⟨v, ss, rfl, h1, h2, h3, h4⟩; have HQ := Lib.hid (And.intro h1 (And.intro h2 (And.intro h3 h4))); clear h1 h2 h3 h4))
      go_ret
      exact dests_ret HD.out HL0.out HQ.out.1 HQ.out.2.1 HQ.out.2.2.1 HQ.out.2.2.2
    · intro x cc kl yd yps w1 cnt1 hx hlx hyv hat hrg1 hlt hg1 hs1 hen
      obtain ⟨i, hxi, hkl, hwf⟩ := Maps.keyOf_int_inv Tryz.underlying3 hx
      subst hkl
      have hxi : x = .int .i64 i := hxi
      subst hxi
      obtain ⟨b, hb, hyd⟩ := dat_entry HC.out.key_ne hat
      obtain ⟨p, hp, hpe⟩ := List.mem_map.1 hb
      simp only [Prod.mk.injEq] at hpe
      obtain ⟨rfl, rfl⟩ := hpe
      have hcc : cc = .pointer (some ⟨p.2, 0, none⟩) := ptrR_lit (ps := yps) (by rw [← hyd]; exact hyv)
      subst hcc
      obtain ⟨l1, l2, l3, l4⟩ := HD.out.lo
      have hb1 := gb_below hg1 HD.out.bel l2
      have HD1 : Hid (Dw w mb rb w.heap.size N (fun z => left z && !z.sameKey (.int .i64 p.1.id)) cnt1 n D (Seen N left kd) w1) := Lib.hid ⟨hrg1, HD.out.own.kept hg1 (by simp; omega), HD.out.keys, hb1, HD.out.lo⟩
      obtain ⟨an, capn, b0, b1, f0, f1, hns, hcap, hcap2, hnil⟩ := (HC.out.nbs p hp).cells
      have hpl : p.2 < w.heap.size := by obtain ⟨_, _, h1, -⟩ := HC.out.nbs p hp; exact (Array.getElem?_eq_some_iff.1 h1).1
      have b1' : w1.cell? ⟨p.2, 1, none⟩ = some (.slice an p.1.ns.length capn) := (hb1.cell (p := ⟨p.2, 1, none⟩) hpl).trans b1
      have HNI := Lib.hid hns.news
      have HOK := Lib.hid (HC.out.ok.ns p.1 (List.mem_map.2 ⟨p, hp, rfl⟩))
      have HLE := Lib.hid (okN_len HOK.out)
      have HST := Lib.hid (fun x => seen_step HC.out.key_ne hp left kd x)
      have HLT := Lib.hid hlt
      have HBND : Hid (∀ n', n' ≤ n + p.1.ns.length → n' + cnt1 * 4294967294 ≤ 256 * 4294967294) := Lib.hid (fun n' h => by have := HNN.out; have := HLE.out; omega)
      clear hrg1 hg1 hs1 hlx hyv hat hb hyd hp hb1 b0 b1 f0 f1 hns hcap hcap2 hnil hpl hrg hwf hx HD HNN hlt l1 l2 l3 l4
      generalize p.1.ns = ns at *
      generalize p.1.id = pid at *
      generalize p.2 = pb at *
      clear p
      go_wp2_with fail
      go_loopw [28] (fun iv wr2 => ∃ (k n' : Nat) (D' : DataW Unit), iv = .int .i64 (k : Int) ∧ k ≤ ns.length ∧ Dw w mb rb w.heap.size N (fun z => left z && !z.sameKey (.int .i64 pid)) cnt1 n' D' (fun x => Seen N left kd x ∨ ∃ y ∈ ns.take k, y.kind = kd ∧ y.dest = x) wr2 ∧ n' ≤ n + k) (fun iv _ => ns.length - (RowKit.intOf iv).toNat)
      case atStart => exact ⟨0, n, D, rfl, Nat.zero_le _, HD1.out.congr (fun x => by simp), Nat.le_refl _⟩
      case round =>
        obtain ⟨k, n', D', rfl, hk, hd2, hn2⟩ := hrel
        have HD2 := Lib.hid hd2
        have HN2 := Lib.hid hn2
        clear hd2 hn2
        by_cases hlt2 : k < ns.length
        · have hlti : (k : Int) < (ns.length : Int) := by omega
          have hk0 : (0 : Int) ≤ (k : Int) := by omega
          have hkw : IntKind.i64.wrap ((k : Int) + 1) = (k : Int) + 1 := by rw [IntKind.wrap_i64]; have := HLE.out; omega
          obtain ⟨ba, oa, rfl, hba, hat⟩ := HNI.out.at k hlt2
          obtain ⟨c10, c11, c12, c13, c14⟩ := (hat k hlt2).kept (HD2.out.bel.block ba hba)
          have HDB : Hid (-9223372036854775808 ≤ ns[k].dest ∧ ns[k].dest < 9223372036854775808) := Lib.hid ((HOK.out.fit ns[k] (List.getElem_mem _)).d)
          have HTK := Lib.hid (fun x => @take_stepO ns k hlt2 kd (Seen N left kd) x)
          clear hat
          generalize ns[k] = z at *
          by_cases e1 : z.kind = kd
          · have e1b : (z.kind == kd) = true := by simp [e1]
            have HTK1 := Lib.hid (fun x => ((HTK.out x).trans (by simp [e1, eq_comm]) : (Seen N left kd x ∨ ∃ y ∈ ns.take (k + 1), y.kind = kd ∧ y.dest = x) ↔ ((Seen N left kd x ∨ ∃ y ∈ ns.take k, y.kind = kd ∧ y.dest = x) ∨ x = z.dest)))
            clear e1
            go_wp2_with (first | (refine wpList_store_mid (by rfl) 61 (.tmp 9) (.tmp 31) rfl wr.heap.size 0 (nC z).toArray rfl rfl (there_box wr (nC zeroN) 61) (by kernel_rfl) (all_oneCell_toArray (nC_one z)) ?_; generalize hW2 : World.setCells _ _ _ _ = W2; obtain ⟨bk0, bk1, bk2⟩ := boxedO wr z W2 hW2.symm; have HB2 := Lib.hid bk2; clear bk2 hW2) | (at_mapUpdate; refine wpList_mapUpdate_own _ rfl _ _ _ 88 rfl 3 89 kKeyed Tryz.underlying88 unitR w.heap.size n' D' rfl (HD2.out.belowO HB2.out).own (by have := HN2.out; have := HBND.out n' (by omega); unfold maxLen; omega) (.int .i64 z.dest) _ (.int .i64 z.dest) rfl rfl (key_int HDB.out) (.agg []) [] unitElem_mk ?_; intro w3 hown3 hgrow3; have HO := Lib.hid (And.intro hown3 hgrow3); clear hown3 hgrow3))
            exact ⟨⟨k + 1, n' + 1, _, congrArg (Value.int .i64) (by omega), hlt2, (((HD2.out.belowO HB2.out).set HDB.out HO.out.1 HO.out.2).congr (fun x => (HTK1.out x).symm)), by have := HN2.out; omega⟩, by show ns.length - ((k : Int) + 1).toNat < ns.length - (k : Int).toNat; omega⟩
          · have e1b : (z.kind == kd) = false := by simp [e1]
            have HTK0 := Lib.hid (fun x => ((HTK.out x).trans (by simp [e1]) : (Seen N left kd x ∨ ∃ y ∈ ns.take (k + 1), y.kind = kd ∧ y.dest = x) ↔ (Seen N left kd x ∨ ∃ y ∈ ns.take k, y.kind = kd ∧ y.dest = x)))
            clear e1
            go_wp2_with (refine wpList_store_mid (by rfl) 61 (.tmp 9) (.tmp 31) rfl wr.heap.size 0 (nC z).toArray rfl rfl (there_box wr (nC zeroN) 61) (by kernel_rfl) (all_oneCell_toArray (nC_one z)) ?_; generalize hW2 : World.setCells _ _ _ _ = W2; obtain ⟨bk0, bk1, bk2⟩ := boxedO wr z W2 hW2.symm; have HB2 := Lib.hid bk2; clear bk2 hW2)
            exact ⟨⟨k + 1, n', _, congrArg (Value.int .i64) (by omega), hlt2, ((HD2.out.belowO HB2.out).congr (fun x => (HTK0.out x).symm)), by have := HN2.out; omega⟩, by show ns.length - ((k : Int) + 1).toNat < ns.length - (k : Int).toNat; omega⟩
        · have hnki : ¬ (k : Int) < (ns.length : Int) := by omega
          have HKE : Hid (k = ns.length) := Lib.hid (by omega)
          go_wp2_with fail
          refine ⟨⟨_, cnt1, n', D', HD2.out.congr (fun x => ?_), HBND.out n' (by have := HN2.out; have := HKE.out; omega)⟩, ?_⟩
          · rw [HKE.out, List.take_length]
            exact HST.out x
          · rw [hm0.out, HD2.out.rg.left_eq]; exact HLT.out
end Go.Proofs.YtjhmfmpaaljegaaGreat
