/- The document's own reader: one field, a list. -/
import Derived.Test.YtidfgjgbigedeaaGreatDoorWsC
import Derived.Test.YtidfgjgbigedeaaGreatDoorWqAll
namespace Go.Proofs.YtidfgjgbigedeaaGreatDoor
open Go.RowKit Go.Lib Go.Wq
set_option linter.unusedVariables false
set_option linter.unusedSimpArgs false
set_option maxRecDepth 100000

theorem infoFs : ∃ (i : TypeInfo) (z : Value), Tryz.prog.info? 45 = some i ∧ i.zero = some z ∧ i.size = 1 ∧ i.bytes = 24 ∧ z.cells.size = 1 := by
  refine ⟨_, _, rfl, rfl, ?_, ?_, ?_⟩ <;> kernel_rfl

/-- What the list's loop has: the reader, the item, the field and the room for both. -/
structure LB (w wr : World) (b2 b3 b4 b5 b7 : Nat) (s : ByteArray) (Q er fr : Nat) (ra : Option Addr) (rn rc : Nat) (ia : Option Addr) (n ic : Nat) : Prop where
  rd : R4 wr b2 s (Q : Int) (er : Int) (fr : Int)
  it1 : wr.cell? ⟨b3, 1, none⟩ = some (.slice ia n ic)
  rr : R4 wr b4 ⟨#[]⟩ 0 0 0
  rf : F6 wr b5 0 0 0 false ⟨#[]⟩ none 0 0
  fd : F6 wr b7 0 0 0 false ⟨#[]⟩ ra rn rc
  bel : Below b2 w wr
  siz : b7 < wr.heap.size
theorem heap1 {w : World} (a : Addr) (k : Nat) (v : Value) (h : k ≠ a.block) : (w.setCell a v).heap[k]? = w.heap[k]? := Below.heap_setCell w a v k h
theorem LB.below {w wr w' : World} {B : Nat} {b2 b3 b4 b5 b7 : Nat} {s : ByteArray} {Q er fr : Nat} {ra : Option Addr} {rn rc : Nat} {ia : Option Addr} {n ic : Nat} (h : LB w wr b2 b3 b4 b5 b7 s Q er fr ra rn rc ia n ic) (b : Below B wr w') (hs : b7 < B)
    (h2 : b2 < b7) (h3 : b3 < b7) (h4 : b4 < b7) (h5 : b5 < b7) : LB w w' b2 b3 b4 b5 b7 s Q er fr ra rn rc ia n ic := by
  have hs0 := h.siz
  exact ⟨h.rd.below b (by omega), (b.cell (p := ⟨b3, 1, none⟩) (by show b3 < _; omega)).trans h.it1, h.rr.below b (by omega), h.rf.below b (by omega), h.fd.below b hs, h.bel.trans (b.mono (by omega)), by have := b.size; omega⟩
theorem F6.setL {w : World} {b u : Nat} {i : Int} {f : Nat} {bb : Bool} {t : ByteArray} {ra ra' : Option Addr} {rn rc rn' rc' : Nat} (h : F6 w b u i f bb t ra rn rc) : F6 (w.setCell ⟨b, 5, none⟩ (.slice ra' rn' rc')) b u i f bb t ra' rn' rc' := by
  obtain ⟨c0, c1, c2, c3, c4, c5, fz⟩ := h
  exact ⟨by simp [go_sem, c0], by simp [go_sem, c1], by simp [go_sem, c2], by simp [go_sem, c3], by simp [go_sem, c4], by simp [go_sem, c5], fun j hj => by simp [go_sem, fz j hj]⟩
/-- The reader is set anew. -/
theorem LB.read {w wr : World} {b2 b3 b4 b5 b7 : Nat} {s : ByteArray} {Q er fr : Nat} {ra : Option Addr} {rn rc : Nat} {ia : Option Addr} {n ic : Nat} (h : LB w wr b2 b3 b4 b5 b7 s Q er fr ra rn rc ia n ic) (h3 : b3 ≠ b2) (h4 : b4 ≠ b2) (h5 : b5 ≠ b2) (h7 : b7 ≠ b2) (Q' er' fr' : Nat) :
    LB w ((((wr.setCell ⟨b2, 0, none⟩ (.string s)).setCell ⟨b2, 1, none⟩ (.int .i64 (Q' : Int))).setCell ⟨b2, 2, none⟩ (.int .i64 (er' : Int))).setCell ⟨b2, 3, none⟩ (.int .i64 (fr' : Int))) b2 b3 b4 b5 b7 s Q' er' fr' ra rn rc ia n ic :=
  ⟨h.rd.set, by simp [go_sem, h.it1, h3], h.rr.other4 h4 _ _ _ _, h.rf.other4 h5 _ _ _ _, h.fd.other4 h7 _ _ _ _, set4B h.bel b2 (Nat.le_refl _) _ _ _ _, by simpa using h.siz⟩
/-- The field's list is set anew. -/
theorem LB.list {w wr : World} {b2 b3 b4 b5 b7 : Nat} {s : ByteArray} {Q er fr : Nat} {ra : Option Addr} {rn rc : Nat} {ia : Option Addr} {n ic : Nat} (h : LB w wr b2 b3 b4 b5 b7 s Q er fr ra rn rc ia n ic) (h2 : b2 ≠ b7) (h3 : b3 ≠ b7) (h4 : b4 ≠ b7) (h5 : b5 ≠ b7) (hle : b2 ≤ b7) (ra' : Option Addr) (rn' rc' : Nat) :
    LB w (wr.setCell ⟨b7, 5, none⟩ (.slice ra' rn' rc')) b2 b3 b4 b5 b7 s Q er fr ra' rn' rc' ia n ic :=
  ⟨h.rd.other h2 _ _, by simp [go_sem, h.it1, h3], h.rr.other h4 _ _, h.rf.other h5 _ _, h.fd.setL, h.bel.setCell hle _, by simpa using h.siz⟩
theorem heap4 (w : World) (b k : Nat) (h : k ≠ b) (x y z u : Value) : ((((w.setCell ⟨b, 0, none⟩ x).setCell ⟨b, 1, none⟩ y).setCell ⟨b, 2, none⟩ z).setCell ⟨b, 3, none⟩ u).heap[k]? = w.heap[k]? := by
  rw [heap1 _ _ _ h, heap1 _ _ _ h, heap1 _ _ _ h, heap1 _ _ _ h]
theorem own_slice {w : World} {base e size : Nat} {v : Value} {n : Nat} {xs : List Value} (h : w.ownsRow base e size v n xs) : ∃ (a : Option Addr) (c : Nat), v = .slice a n c := by
  rcases h.2 with ⟨rfl, hn⟩ | ⟨g, cap, cur, rfl, _⟩
  · exact ⟨none, 0, by rw [hn]⟩
  · exact ⟨some ⟨g, 0, none⟩, cap, rfl⟩
def Up (B : Nat) (w w1 : World) : Prop := w.heap.size ≤ w1.heap.size ∧ ∀ k, B < k → k < w.heap.size → w1.heap[k]? = w.heap[k]?
theorem Up.refl (B : Nat) (w : World) : Up B w w := ⟨Nat.le_refl _, fun _ _ _ => rfl⟩
theorem Up.drew {B : Nat} {w w1 : World} (h : Up B w w1) : Up B w w1.drew := h
theorem Up.set1 {B : Nat} {w w1 : World} (h : Up B w w1) (a : Addr) (hb : a.block ≤ B) (v : Value) : Up B w (w1.setCell a v) := ⟨by simpa using h.1, fun k h1 h2 => by rw [heap1 _ _ _ (by omega)]; exact h.2 k h1 h2⟩
theorem Up.set4 {B : Nat} {w w1 : World} (h : Up B w w1) (b : Nat) (hb : b ≤ B) (x y z u : Value) : Up B w ((((w1.setCell ⟨b, 0, none⟩ x).setCell ⟨b, 1, none⟩ y).setCell ⟨b, 2, none⟩ z).setCell ⟨b, 3, none⟩ u) := (((h.set1 _ hb _).set1 _ hb _).set1 _ hb _).set1 _ hb _
theorem Up.set6 {B : Nat} {w w1 : World} (h : Up B w w1) (b : Nat) (hb : b ≤ B) (x y z u v q : Value) : Up B w ((((((w1.setCell ⟨b, 0, none⟩ x).setCell ⟨b, 1, none⟩ y).setCell ⟨b, 2, none⟩ z).setCell ⟨b, 3, none⟩ u).setCell ⟨b, 4, none⟩ v).setCell ⟨b, 5, none⟩ q) := (((((h.set1 _ hb _).set1 _ hb _).set1 _ hb _).set1 _ hb _).set1 _ hb _).set1 _ hb _
theorem one_okl {s : ByteArray} {it : It} {p q : Nat} {w w' : World} {l : List (List Fld)} {ra : Option Addr} {rn rc : Nat} (hx : rdOne s.data.toList it p = .ok (.mk 0 0 0 false [] l) q) (hb : Below w.heap.size w w') (hr : RowsS w' (New w.heap.size w') l ra rn) :
    OneEnds s it p w (.returned (.tuple #[rdV s (q : Int) 0 0, fdV 0 0 0 false ⟨#[]⟩ ra rn rc])) w' := by
  refine ⟨hb, ?_⟩
  rw [hx]
  exact ⟨_, rfl, 0, 0, 0, false, ⟨#[]⟩, l, ra, rn, rc, rfl, rfl, hr⟩
/-- All's end, in one word. -/
theorem all_case {s : ByteArray} {its : List It} {Q : Nat} {w w' : World} {e : Ending} (h : AllEnds s its Q w e w') : Below w.heap.size w w' ∧ ∃ (Q' er' fr' : Nat) (la : Option Addr) (ln lc : Nat), e = .returned (.tuple #[rdV s Q' er' fr', .slice la ln lc]) ∧
    ((er' = 0 ∧ fr' = 0 ∧ ∃ l, ln = l.length ∧ rdAll s.data.toList its Q = .ok l Q' ∧ FldsS w' (New w.heap.size w') l la l.length) ∨ (er' ≠ 0 ∧ rdAll s.data.toList its Q = .bad er' fr')) := by
  obtain ⟨hb, hc⟩ := h
  refine ⟨hb, ?_⟩
  cases hg : rdAll s.data.toList its Q with
  | ok l Q' =>
    rw [hg] at hc
    obtain ⟨a, c, rfl, hf⟩ := hc
    exact ⟨Q', 0, 0, a, l.length, c, rfl, Or.inl ⟨rfl, rfl, l, rfl, rfl, hf⟩⟩
  | bad er fr =>
    rw [hg] at hc
    obtain ⟨at_, a, n, c, rfl⟩ := hc
    exact ⟨at_, er, fr, a, n, c, rfl, Or.inr ⟨by rcases rdAll_bad _ _ _ _ hg with rfl | rfl <;> decide, rfl⟩⟩

/-- What the list's loop has read so far. -/
def LSo (w wr : World) (b7 : Nat) (s : ByteArray) (its : List It) (q n' k : Nat) (Q er fr : Nat) (ra : Option Addr) (rn rc : Nat) : Prop :=
  (er = 0 ∧ fr = 0 ∧ ∃ (rows : List (List Fld)) (xs : List Value), rn = rows.length ∧ rows.length = k ∧ k ≤ Q ∧ Q ≤ s.size ∧ wr.ownsRow (b7 + 1) 45 1 (.slice ra rows.length rc) rows.length xs ∧ RCellsS wr (Mine (b7 + 1) wr (.slice ra rows.length rc)) xs rows ∧
    rdRows (fun p => rdAll s.data.toList its p) n' q = R.pre rows (rdRows (fun p => rdAll s.data.toList its p) (n' - k) Q)) ∨
  (er ≠ 0 ∧ rdRows (fun p => rdAll s.data.toList its p) n' q = .bad er fr)

set_option maxHeartbeats 1000000 in
theorem one_l (s : ByteArray) (its : List It) (HA : AllSays s its) : OneSays s (.l its) := by
  intro p ia n ic S w hp hs hok hits hS
  have HL := Lib.hid (laid1 w s p 40 ia n ic)
  have hl : s.data.toList.length = s.size := Array.length_toList
  have HV := Lib.hid (fun w => varint_any s p (by omega) hp w)
  have hst := d_store
  have hine : its ≠ [] := by cases hok with | l h _ => exact h
  have hiok : ∀ x ∈ its, x.Ok := by cases hok with | l _ h => exact h
  have hits' : ItsZ w S its ia n := hits
  obtain ⟨i0, z0, hi, hz0, hz1, hz2, hz3⟩ := infoFs
  show Calls _ _ #[rdV s (p : Int) 0 0, .agg #[.int .u8 40, .slice ia n ic]] w _
  go_enter Tryz.func110, Tryz.ntmps110
  go_wp2_with fail
  refine (HV.out _).mono ?_
  rintro e w2 ⟨hb2, hcase⟩
  obtain ⟨hrd, hit0, hit1, hrr, hrf, hfd, hbel, hsiz⟩ := HL.out.below hb2
  generalize hB2 : w.heap.size = b2 at *
  generalize hB3 : b2 + 1 = b3 at *
  generalize hB4 : b3 + 1 = b4 at *
  generalize hB5 : b4 + 1 = b5 at *
  generalize hB7 : b5 + 1 = b7 at *
  have HN := Lib.hid (show b7 ≠ b2 ∧ b4 ≠ b2 ∧ b5 ≠ b2 ∧ b4 ≠ b7 ∧ b5 ≠ b7 ∧ b4 ≠ b5 ∧ b2 ≤ b4 ∧ b2 ≤ b5 ∧ b2 ≤ b7 by omega)
  have HN3 := Lib.hid (show b3 ≠ b2 ∧ b3 ≠ b7 by omega)
  clear hits
  cases hr : rdVar s.data.toList p with
  | ok n' q =>
    rw [hr] at hcase
    obtain rfl := hcase
    obtain ⟨hn64, -, hqs, -⟩ := rdVar_only hr
    rw [hl] at hqs
    have hx : rdOne s.data.toList (.l its) p = (match rdRows (fun p => rdAll s.data.toList its p) n' q with | .ok rs q' => .ok (.mk 0 0 0 false [] rs) q' | .bad e q' => .bad e q') := by
      simp only [rdOne, hr]
      cases rdRows (fun p => rdAll s.data.toList its p) n' q <;> rfl
    have HXo := Lib.hid hx
    have HB := Lib.hid (show LB w ((((w2.setCell ⟨b2, 0, none⟩ (.string s)).setCell ⟨b2, 1, none⟩ (.int .i64 (q : Int))).setCell ⟨b2, 2, none⟩ (.int .i64 0)).setCell ⟨b2, 3, none⟩ (.int .i64 0)) b2 b3 b4 b5 b7 s q 0 0 none 0 0 ia n ic from
      ⟨hrd.set, by simp [go_sem, hit1, HN3.out.1], hrr.other4 HN.out.2.1 _ _ _ _, hrf.other4 HN.out.2.2.1 _ _ _ _, hfd.other4 HN.out.1 _ _ _ _, set4B hbel b2 (Nat.le_refl _) _ _ _ _, by simp; omega⟩)
    have HITS := Lib.hid hits'
    have HS := Lib.hid hS
    have HA2 := Lib.hid HA
    obtain ⟨c0, c1, c2, c3, f0, f1, f2, f3⟩ := id hrd
    obtain ⟨d0, d1, d2, d3, d4, d5, dz⟩ := id hfd
    have n27 : b2 ≠ b7 := fun h => HN.out.1 h.symm
    have n72 : b7 ≠ b2 := HN.out.1
    clear hrd hrr hrf hfd hr hx hits' hS HA
    go_wp2_with fail
    clear c0 c1 c2 c3 f0 f1 f2 f3 d0 d1 d2 d3 d4 d5 dz
    go_loopw [9] (fun v wr => ∃ (k Q er fr : Nat) (ra : Option Addr) (rn rc : Nat), v = .int .u64 (k : Int) ∧ k ≤ n' ∧ LB w wr b2 b3 b4 b5 b7 s Q er fr ra rn rc ia n ic ∧ LSo w wr b7 s its q n' k Q er fr ra rn rc) (fun v _ => n' - (intOf v).toNat)
    case atStart => exact ⟨0, q, 0, 0, none, 0, 0, rfl, Nat.zero_le _, HB.out, Or.inl ⟨rfl, rfl, [], [], rfl, rfl, Nat.zero_le _, hqs, World.ownsRow_nil _ _ _ _, .nil, by rw [R.pre_nil]; rfl⟩⟩
    case round =>
      obtain ⟨k, Q, er, fr, ra, rn, rc, rfl, hkn, hlb, hso⟩ := hrel
      have HLB := Lib.hid hlb
      have hsz := hlb.siz
      obtain ⟨⟨c0, c1, c2, c3, f0, f1, f2, f3⟩, hit, -, -, ⟨d0, d1, d2, d3, d4, d5, dz⟩, -, -⟩ := hlb
      have dz5 := dz 5 (by omega)
      clear dz
      by_cases hk : k < n'
      · have hki : (k : Int) < (n' : Int) := by omega
        rcases hso with ⟨rfl, rfl, rows, xs, rfl, rfl, hkQ, hQs, hown, hcells, hrd⟩ | ⟨her, hrd⟩
        · have HOwn := Lib.hid hown
          have HCells := Lib.hid hcells
          have HRd := Lib.hid hrd
          clear hown hcells hrd
          have HCall := Lib.hid (HA2.out Q ia n ic S wr hQs hs hiok (ItsZ.kept (fun k hk => HLB.out.bel.block k (by have := HS.out k hk; omega)) (fun k hk => hk) _ _ _ HITS.out) (fun k hk => by have := HS.out k hk; have := HLB.out.bel.size; omega))
          have h2s : b2 < wr.heap.size := by omega
          have hw1 : IntKind.u64.wrap ((rows.length : Int) + 1) = (rows.length : Int) + 1 := by go_arith
          go_wp2_with fail
          refine HCall.out.mono ?_
          rintro e w3 hc3
          obtain ⟨hb3, Q', er', fr', la, ln, lc, rfl, hcs⟩ := all_case hc3
          have HB3 := Lib.hid hb3
          have HCs := Lib.hid hcs
          have hs3 := hb3.size
          have HLB3 := Lib.hid (HLB.out.below hb3 hsz (by omega) (by omega) (by omega) (by omega))
          obtain ⟨⟨c0, c1, c2, c3, f0, f1, f2, f3⟩, hit, -, -, ⟨d0, d1, d2, d3, d4, d5, dz⟩, -, hsz3⟩ := id HLB3.out
          have dz5 := dz 5 (by omega)
          have h2s3 : b2 < w3.heap.size := by omega
          clear dz hb3 hcs hc3
          generalize hB10 : w3.heap.size = b10 at *
          have n2a : b2 ≠ b10 := by omega
          have n2b : b10 ≠ b2 := by omega
          have n7a : b7 ≠ b10 := by omega
          have n7b : b10 ≠ b7 := by omega
          obtain ⟨W6, hW6⟩ : ∃ W6, W6 = (((((w3.setCell ⟨b2, 0, none⟩ (.string s)).setCell ⟨b2, 1, none⟩ (.int .i64 (Q' : Int))).setCell ⟨b2, 2, none⟩ (.int .i64 (er' : Int))).setCell ⟨b2, 3, none⟩ (.int .i64 (fr' : Int))).alloc (.cells #[.string s, .int .i64 (Q' : Int), .int .i64 (er' : Int), .int .i64 (fr' : Int)] 118)) := ⟨_, rfl⟩
          have hs6 : W6.heap.size = b10 + 1 := by rw [hW6]; simp; omega
          have h6b : ∀ k, k < b10 → k ≠ b2 → W6.heap[k]? = w3.heap[k]? := fun k hk hne => by
            rw [hW6, Below.heap_alloc _ _ _ (by simp; omega), heap4 _ _ _ hne]
          have HG6 : wr.grownBy W6 (some b2) := ⟨by rw [hW6]; exact HB3.out.os, by rw [hW6]; exact HB3.out.tape, by rw [hW6]; exact HB3.out.output, by omega, fun k hk hne => by rw [h6b k (by omega) (fun e => hne (by rw [e])), HB3.out.block k hk]⟩
          have HLT : Hid (∀ k, Value.ownBlock (.slice ra rows.length rc) = some k → b7 + 1 ≤ k ∧ k < wr.heap.size) := Lib.hid HOwn.out.lt
          have HLB6 := Lib.hid (show LB w W6 b2 b3 b4 b5 b7 s Q' er' fr' ra rows.length rc ia n ic from by
            rw [hW6]
            exact (HLB3.out.read HN3.out.1 HN.out.2.1 HN.out.2.2.1 HN.out.1 Q' er' fr').below ((Below.refl _ _).alloc (Nat.le_refl _) _) (by simp; omega) (by omega) (by omega) (by omega) (by omega))
          have HO6 := Lib.hid (show W6.ownsRow (b7 + 1) 45 1 (.slice ra rows.length rc) rows.length xs from HOwn.out.kept HG6 (by
            cases hob : Value.ownBlock (.slice ra rows.length rc) with
            | none => exact Or.inl rfl
            | some k => exact Or.inr (fun e => by injection e with e; have := (HLT.out k hob).1; omega)))
          have HC6 := Lib.hid (show RCellsS W6 (Mine (b7 + 1) W6 (.slice ra rows.length rc)) xs rows from HCells.out.kept (fun k hk => HG6.block k hk.2.1 (fun e => by injection e with e; have := hk.1; omega)) (fun k hk => ⟨hk.1, by have := hk.2.1; omega, hk.2.2⟩))
          have H63 : Hid (rows.length + 1 ≤ maxLen) := Lib.hid (by unfold maxLen; omega)
          have H47 : Hid ((rows.length + 1) * 24 ≤ 140737488355328) := Lib.hid (by omega)
          have HCS : Hid (∀ (j : Nat) (u : Value), ([.slice la ln lc] : List Value)[j]? = some u → (W6.alloc (.cells #[.slice la ln lc] 45)).cell? ((⟨b10 + 1, 0, none⟩ : Addr).add j) = some u) := Lib.hid (by
            intro j u hj
            match j with
            | 0 => simp at hj; subst hj; rw [← hs6]; simp [Addr.add]
            | j + 1 => simp at hj)
          have HZ6 := Lib.hid (show ∀ w4 v', Grew (W6.alloc (.cells #[.slice la ln lc] 45)) w4 (.slice ra rows.length rc) v' → Below (b7 + 1) W6 w4 from fun w4 v' hg => ((Below.refl _ _).alloc (by omega) _).trans (hg.below (by simp; omega) (fun k hk => (HLT.out k hk).1)))
          go_wp2_with (at_builtin; rw [← hW6]; (refine wpList_append_vals _ rfl _ _ 55 rfl (b7 + 1) 45 i0 z0 1 24 Tryz.underlying55 hi hz0 hz1 hz2 hz3 (by decide) (.slice ra rows.length rc) rows.length xs (by rfl) (HO6.out.alloc _) ⟨b10 + 1, 0, none⟩ 1 1 [.slice la ln lc] rfl rfl HCS.out (by intro u hu; simp at hu; subst hu; rfl) H63.out H47.out (by simp; omega) ?_); intro v' w4 hown hg; obtain ⟨ra', rc', rfl⟩ := own_slice hown; have HO7 := Lib.hid hown; have HG7 := Lib.hid hg; obtain ⟨-, -, -, -, ⟨-, -, -, -, -, g5, gz⟩, -, -⟩ := HLB6.out.below (HZ6.out w4 _ hg) (by omega) (by omega) (by omega) (by omega) (by omega); have gz5 := gz 5 (by omega); clear hown hg gz)
          have HB7 := HZ6.out _ _ HG7.out
          refine ⟨⟨rows.length + 1, Q', er', fr', ra', rows.length + 1, rc', by simp, by omega, (HLB6.out.below HB7 (by omega) (by omega) (by omega) (by omega) (by omega)).list n27 HN3.out.2 HN.out.2.2.2.1 HN.out.2.2.2.2.1 HN.out.2.2.2.2.2.2.2.2 _ _ _, ?_⟩, by simp [intOf]; omega⟩
          rcases HCs.out with ⟨rfl, rfl, l, rfl, hg, hfl⟩ | ⟨her, hg⟩
          · refine Or.inl ⟨rfl, rfl, rows ++ [l], xs ++ [.slice la l.length lc], ?_⟩
            obtain ⟨hq1, hq2⟩ := all_on (by rw [hl]; omega) hine hiok hg
            rw [hl] at hq2
            have HG4 : Grew W6 w4 (.slice ra rows.length rc) (.slice ra' (rows.length + 1) rc') := (Grew.alloc W6 _ _).trans HG7.out
            have HC7 := HC6.out.grew HG4
            have HN7 : FldsS w4 (Mine (b7 + 1) w4 (.slice ra' (rows.length + 1) rc')) l la l.length := FldsS.kept (w := w3) (fun k hk => by
                have h1 : wr.heap.size ≤ k := hk.1
                have h2 : k < b10 := by have := hk.2; omega
                have h3 : Value.ownBlock (.slice ra rows.length rc) ≠ some k := fun e => by have := (HLT.out k e).2; omega
                rw [HG4.g.block k (by omega) (fun e => h3 e.symm)]
                exact h6b k h2 (by omega)) (fun k hk => by
                have h1 : wr.heap.size ≤ k := hk.1
                have h2 : k < b10 := by have := hk.2; omega
                have h3 : Value.ownBlock (.slice ra rows.length rc) ≠ some k := fun e => by have := (HLT.out k e).2; omega
                exact ⟨by omega, by have := HG4.g.size; omega, HG4.other (by omega) h3⟩) _ _ _ hfl
            have HC8 := HC7.snoc lc HN7
            have hs8 : (w4.setCell ⟨b7, 5, none⟩ (.slice ra' (rows.length + 1) rc')).heap.size = w4.heap.size := by simp
            have hl8 : (rows ++ [l]).length = rows.length + 1 := by simp
            rw [hl8]
            refine ⟨rfl, rfl, by omega, by omega, HO7.out.kept (row := some b7) ⟨rfl, rfl, rfl, by omega, fun k hk hne => heap1 _ _ _ (fun e => hne (by rw [e]))⟩ ?_, ?_, ?_⟩
            · cases hob : Value.ownBlock (.slice ra' (rows.length + 1) rc') with
              | none => exact Or.inl rfl
              | some k => exact Or.inr (fun e => by injection e with e; have := (HO7.out.lt k hob).1; omega)
            · exact HC8.kept (fun k hk => heap1 _ _ _ (by have := hk.1; show k ≠ b7; omega)) (fun k hk => ⟨hk.1, by have := hk.2.1; omega, hk.2.2⟩)
            · rw [HRd.out, show n' - rows.length = n' - (rows.length + 1) + 1 by omega, rdRows_next hg]
          · exact Or.inr ⟨her, by rw [HRd.out, show n' - rows.length = n' - (rows.length + 1) + 1 by omega, rdRows_fall hg]⟩
        · have her' : ((er : Int) == 0) = false := by simp; omega
          have hx : rdOne s.data.toList (.l its) p = .bad er fr := by rw [HXo.out, hrd]
          have HFin := Lib.hid (show ∀ w', Below b2 w w' → OneEnds s (.l its) p w (.returned (.tuple #[rdV s (Q : Int) (er : Int) (fr : Int), fdV 0 0 0 false ⟨#[]⟩ ra rn rc])) w' from fun w' hb => one_bad hx (by rw [hB2]; exact hb) Q 0 0 0 false ⟨#[]⟩ ra rn rc)
          have HX := Lib.hid (show AtEnd w wr b2 b4 b5 b7 s Q er fr 0 0 0 false ⟨#[]⟩ ra rn rc from ⟨HLB.out.rd, HLB.out.fd, HLB.out.rr, HLB.out.rf, HLB.out.bel⟩)
          clear hx hrd
          go_wp2_with fail
          obtain ⟨⟨c0, c1, c2, c3, f0, f1, f2, f3⟩, ⟨d0, d1, d2, d3, d4, d5, dz⟩, ⟨r0, r1, r2, r3, q0, q1, q2, q3⟩, ⟨e0, e1, e2, e3, e4, e5, ez⟩, hbX⟩ := id HX.out
          have ez0 := ez 0 (by omega)
          have ez1 := ez 1 (by omega)
          have ez2 := ez 2 (by omega)
          have ez3 := ez 3 (by omega)
          have ez4 := ez 4 (by omega)
          have ez5 := ez 5 (by omega)
          clear ez dz
          obtain ⟨-, m42, m52, m47, m57, m45, k24, k25, -⟩ := HN.out
          have m54 : b5 ≠ b4 := fun h => m45 h.symm
          go_region_with (fail)
          all_goals go_wp2_with fail
          all_goals
            (try simp only [Exit.inBlock, Exit.then])
            refine bodyPost_ret (v := .tuple #[rdV s (Q : Int) (er : Int) (fr : Int), fdV 0 0 0 false ⟨#[]⟩ ra rn rc]) (by simp [results, Tryz.results110, go_sem, r0, r1, r2, r3, e0, e1, e2, e3, e4, e5, m45, m54]) rfl ?_
            with_reducible first | exact HFin.out _ (set6B (set4B hbX b4 k24 _ _ _ _) b5 k25 _ _ _ _ _ _).drew | exact HFin.out _ (set4B (set6B hbX b5 k25 _ _ _ _ _ _) b4 k24 _ _ _ _).drew
      · have hki : ¬ (k : Int) < (n' : Int) := by omega
        rcases hso with ⟨rfl, rfl, rows, xs, rfl, rfl, hkQ, hQs, hown, hcells, hrd⟩ | ⟨her, hrd⟩
        · have hx : rdOne s.data.toList (.l its) p = .ok (.mk 0 0 0 false [] rows) Q := by rw [HXo.out, hrd, show n' - rows.length = 0 by omega, rdRows_end]
          obtain ⟨a', c', hv, hrows⟩ := own_rows hown hcells
          injection hv with hv1 hv2 hv3
          subst hv1
          clear hv2 hv3
          have HFin := Lib.hid (show ∀ w', Below b2 w w' → Up b7 wr w' → OneEnds s (.l its) p w (.returned (.tuple #[rdV s (Q : Int) 0 0, fdV 0 0 0 false ⟨#[]⟩ ra rows.length rc])) w' from fun w' hb hup => one_okl hx (by rw [hB2]; exact hb) (RowsS.kept (w := wr) (fun k hk => hup.2 k hk.1 hk.2) (fun k hk => ⟨by rw [hB2]; have := hk.1; omega, by have := hk.2; have := hup.1; omega⟩) _ _ _ hrows))
          have HX := Lib.hid (show AtEnd w wr b2 b4 b5 b7 s Q 0 0 0 0 0 false ⟨#[]⟩ ra rows.length rc from ⟨HLB.out.rd, HLB.out.fd, HLB.out.rr, HLB.out.rf, HLB.out.bel⟩)
          have HUp := Lib.hid (Up.refl b7 wr)
          have hle4 : b4 ≤ b7 := by omega
          have hle5 : b5 ≤ b7 := by omega
          clear hx hrd hown hcells hrows
          go_wp2_with fail
          obtain ⟨⟨c0, c1, c2, c3, f0, f1, f2, f3⟩, ⟨d0, d1, d2, d3, d4, d5, dz⟩, ⟨r0, r1, r2, r3, q0, q1, q2, q3⟩, ⟨e0, e1, e2, e3, e4, e5, ez⟩, hbX⟩ := id HX.out
          have ez0 := ez 0 (by omega)
          have ez1 := ez 1 (by omega)
          have ez2 := ez 2 (by omega)
          have ez3 := ez 3 (by omega)
          have ez4 := ez 4 (by omega)
          have ez5 := ez 5 (by omega)
          clear ez dz
          obtain ⟨-, m42, m52, m47, m57, m45, k24, k25, -⟩ := HN.out
          have m54 : b5 ≠ b4 := fun h => m45 h.symm
          go_region_with (fail)
          all_goals go_wp2_with fail
          all_goals
            (try simp only [Exit.inBlock, Exit.then])
            refine bodyPost_ret (v := .tuple #[rdV s (Q : Int) 0 0, fdV 0 0 0 false ⟨#[]⟩ ra rows.length rc]) (by simp [results, Tryz.results110, go_sem, r0, r1, r2, r3, e0, e1, e2, e3, e4, e5, m45, m54]) rfl ?_
            with_reducible first | exact HFin.out _ (set6B (set4B hbX b4 k24 _ _ _ _) b5 k25 _ _ _ _ _ _).drew (((HUp.out.set4 b4 hle4 _ _ _ _).set6 b5 hle5 _ _ _ _ _ _).drew) | exact HFin.out _ (set4B (set6B hbX b5 k25 _ _ _ _ _ _) b4 k24 _ _ _ _).drew (((HUp.out.set6 b5 hle5 _ _ _ _ _ _).set4 b4 hle4 _ _ _ _).drew)
        · have her' : ((er : Int) == 0) = false := by simp; omega
          have hx : rdOne s.data.toList (.l its) p = .bad er fr := by rw [HXo.out, hrd]
          have HFin := Lib.hid (show ∀ w', Below b2 w w' → OneEnds s (.l its) p w (.returned (.tuple #[rdV s (Q : Int) (er : Int) (fr : Int), fdV 0 0 0 false ⟨#[]⟩ ra rn rc])) w' from fun w' hb => one_bad hx (by rw [hB2]; exact hb) Q 0 0 0 false ⟨#[]⟩ ra rn rc)
          have HX := Lib.hid (show AtEnd w wr b2 b4 b5 b7 s Q er fr 0 0 0 false ⟨#[]⟩ ra rn rc from ⟨HLB.out.rd, HLB.out.fd, HLB.out.rr, HLB.out.rf, HLB.out.bel⟩)
          clear hx hrd
          go_wp2_with fail
          obtain ⟨⟨c0, c1, c2, c3, f0, f1, f2, f3⟩, ⟨d0, d1, d2, d3, d4, d5, dz⟩, ⟨r0, r1, r2, r3, q0, q1, q2, q3⟩, ⟨e0, e1, e2, e3, e4, e5, ez⟩, hbX⟩ := id HX.out
          have ez0 := ez 0 (by omega)
          have ez1 := ez 1 (by omega)
          have ez2 := ez 2 (by omega)
          have ez3 := ez 3 (by omega)
          have ez4 := ez 4 (by omega)
          have ez5 := ez 5 (by omega)
          clear ez dz
          obtain ⟨-, m42, m52, m47, m57, m45, k24, k25, -⟩ := HN.out
          have m54 : b5 ≠ b4 := fun h => m45 h.symm
          go_region_with (fail)
          all_goals go_wp2_with fail
          all_goals
            (try simp only [Exit.inBlock, Exit.then])
            refine bodyPost_ret (v := .tuple #[rdV s (Q : Int) (er : Int) (fr : Int), fdV 0 0 0 false ⟨#[]⟩ ra rn rc]) (by simp [results, Tryz.results110, go_sem, r0, r1, r2, r3, e0, e1, e2, e3, e4, e5, m45, m54]) rfl ?_
            with_reducible first | exact HFin.out _ (set6B (set4B hbX b4 k24 _ _ _ _) b5 k25 _ _ _ _ _ _).drew | exact HFin.out _ (set4B (set6B hbX b5 k25 _ _ _ _ _ _) b4 k24 _ _ _ _).drew
  | bad er fr =>
    rw [hr] at hcase
    obtain ⟨pa, rfl⟩ := hcase
    have hx : rdOne s.data.toList (.l its) p = .bad er fr := by simp only [rdOne, hr]
    have HFin := Lib.hid (show ∀ w', Below b2 w w' → OneEnds s (.l its) p w (.returned (.tuple #[rdV s (pa : Int) (er : Int) (fr : Int), fdV 0 0 0 false ⟨#[]⟩ none 0 0])) w' from fun w' hb => one_bad hx (by rw [hB2]; exact hb) pa 0 0 0 false ⟨#[]⟩ none 0 0)
    clear hx
    have HX0 := Lib.hid (show AtEnd w ((((w2.setCell ⟨b2, 0, none⟩ (.string s)).setCell ⟨b2, 1, none⟩ (.int .i64 (pa : Int))).setCell ⟨b2, 2, none⟩ (.int .i64 (er : Int))).setCell ⟨b2, 3, none⟩ (.int .i64 (fr : Int))) b2 b4 b5 b7 s pa er fr 0 0 0 false ⟨#[]⟩ none 0 0 from
      ⟨hrd.set, hfd.other4 HN.out.1 _ _ _ _, hrr.other4 HN.out.2.1 _ _ _ _, hrf.other4 HN.out.2.2.1 _ _ _ _, set4B hbel b2 (Nat.le_refl _) _ _ _ _⟩)
    obtain ⟨c0, c1, c2, c3, f0, f1, f2, f3⟩ := id hrd
    have n27 : b2 ≠ b7 := fun h => HN.out.1 h.symm
    have n72 : b7 ≠ b2 := HN.out.1
    clear hrd hrr hrf hfd hr
    go_wp2_with fail
    clear c0 c1 c2 c3 f0 f1 f2 f3
    go_loopw [9] (fun v wr => v = .int .u64 0 ∧ AtEnd w wr b2 b4 b5 b7 s pa er fr 0 0 0 false ⟨#[]⟩ none 0 0) (fun _ _ => 0)
    case atStart => exact ⟨rfl, HX0.out⟩
    case round =>
      obtain ⟨rfl, hat⟩ := hrel
      have HX := Lib.hid hat
      obtain ⟨⟨c0, c1, c2, c3, f0, f1, f2, f3⟩, -, -, -, -⟩ := hat
      go_wp2_with fail
      obtain ⟨⟨c0, c1, c2, c3, f0, f1, f2, f3⟩, ⟨d0, d1, d2, d3, d4, d5, dz⟩, ⟨r0, r1, r2, r3, q0, q1, q2, q3⟩, ⟨e0, e1, e2, e3, e4, e5, ez⟩, hbX⟩ := id HX.out
      have ez0 := ez 0 (by omega)
      have ez1 := ez 1 (by omega)
      have ez2 := ez 2 (by omega)
      have ez3 := ez 3 (by omega)
      have ez4 := ez 4 (by omega)
      have ez5 := ez 5 (by omega)
      clear ez dz
      obtain ⟨-, m42, m52, m47, m57, m45, k24, k25, -⟩ := HN.out
      have m54 : b5 ≠ b4 := fun h => m45 h.symm
      go_region_with (fail)
      all_goals go_wp2_with fail
      all_goals
        (try simp only [Exit.inBlock, Exit.then])
        refine bodyPost_ret (v := .tuple #[rdV s (pa : Int) (er : Int) (fr : Int), fdV 0 0 0 false ⟨#[]⟩ none 0 0]) (by simp [results, Tryz.results110, go_sem, r0, r1, r2, r3, e0, e1, e2, e3, e4, e5, m45, m54]) rfl ?_
        with_reducible first | exact HFin.out _ (set6B (set4B hbX b4 k24 _ _ _ _) b5 k25 _ _ _ _ _ _).drew | exact HFin.out _ (set4B (set6B hbX b5 k25 _ _ _ _ _ _) b4 k24 _ _ _ _).drew
end Go.Proofs.YtidfgjgbigedeaaGreatDoor
