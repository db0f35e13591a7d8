/- Caches, the program: the map of neighbours. -/
import Derived.Test.YtjhmfmpaaljegaaGreatKwC
import Derived.Test.YtjhmfmpaaljegaaGreatKqB
import Derived.Maps.Own
import Derived.Maps.Views
import Derived.Maps.OwnSet
import Derived.Maps.RangeWalk
import Derived.Lib.SlKeysI
namespace Go.Proofs.YtjhmfmpaaljegaaGreat
open Go.RowKit Go.Lib Go.Ow Go.Cw Go.Mq Go.Kq Go.Kw
set_option linter.unusedVariables false
set_option linter.unusedSimpArgs false
set_option maxRecDepth 100000

/-- How a pointer to a whole block reads. -/
def ptrR : Value → Option (DataW Unit × List MemPlace)
  | .pointer none => some (.nil, [])
  | .pointer (some ⟨b, 0, none⟩) => some (.lit (.int .i64 (b : Int)), [])
  | _ => none
theorem ptrR_nil {v : Value} {ps : List MemPlace} (h : ptrR v = some (.nil, ps)) : v = .pointer none := by
  unfold ptrR at h
  split at h
  · rfl
  · simp at h
  · cases h
theorem ptrR_lit {v : Value} {b : Nat} {ps : List MemPlace} (h : ptrR v = some (.lit (.int .i64 (b : Int)), ps)) : v = .pointer (some ⟨b, 0, none⟩) := by
  unfold ptrR at h
  split at h
  · simp at h
  · simp at h
    obtain ⟨h1, -⟩ := h
    have h2 := Int.ofNat_inj.1 h1
    subst h2
    rfl
  · cases h
theorem ptrR_inv {v : Value} {y : DataW Unit × List MemPlace} (h : ptrR v = some y) : (v = .pointer none ∧ y.1 = .nil) ∨ ∃ b : Nat, v = .pointer (some ⟨b, 0, none⟩) ∧ y.1 = .lit (.int .i64 (b : Int)) := by
  unfold ptrR at h
  split at h
  · cases h; exact Or.inl ⟨rfl, rfl⟩
  · cases h; exact Or.inr ⟨_, rfl, rfl⟩
  · cases h
/-- A map of numbers and blocks, as a datum. -/
def dat (L : List (Int × Nat)) : DataW Unit := .map (L.map fun p => (Lit.int .i64 p.1, DataW.lit (.int .i64 (p.2 : Int))))
theorem same_int (a b : Int) : (Lit.int .i64 a).sameKey (.int .i64 b) = decide (a = b) := by simp [Lit.sameKey]
theorem dat_none {L : List (Int × Nat)} {k : Int} (h : ∀ p ∈ L, p.1 ≠ k) (z : DataW Unit) : (dat L).atKey (.int .i64 k) z = z := by
  unfold dat DataW.atKey
  simp only
  rw [show (L.map fun p => (Lit.int .i64 p.1, DataW.lit (H := Unit) (.int .i64 (p.2 : Int)))).find? (fun p => p.1.sameKey (.int .i64 k)) = none from by
    rw [List.find?_eq_none]
    intro x hx
    obtain ⟨p, hp, rfl⟩ := List.mem_map.1 hx
    simp [same_int, h p hp]]
theorem dat_at : ∀ {L : List (Int × Nat)} {k : Int} {b : Nat}, L.Pairwise (fun p q => p.1 ≠ q.1) → (k, b) ∈ L → ∀ z : DataW Unit, (dat L).atKey (.int .i64 k) z = .lit (.int .i64 (b : Int))
  | [], _, _, _, h, _ => by simp at h
  | p :: L, k, b, hp, h, z => by
    obtain ⟨h1, h2⟩ := List.pairwise_cons.1 hp
    unfold dat DataW.atKey
    simp only [List.map_cons, List.find?_cons, same_int]
    by_cases c : p.1 = k
    · rcases List.mem_cons.1 h with e | h
      · subst e; simp
      · exact absurd c (h1 _ h)
    · rcases List.mem_cons.1 h with e | h
      · subst e; simp at c
      · have ih := dat_at h2 h z
        unfold dat DataW.atKey at ih
        simp only at ih
        simp only [c, decide_false]
        exact ih
theorem dat_size (L : List (Int × Nat)) : Maps.size (dat L) = L.length := by simp [dat, Maps.size_eq]
theorem dat_keys (L : List (Int × Nat)) : intKeys (dat L) = L.map (·.1) := by
  show List.map (fun p : Lit × DataW Unit => intOf p.1) (L.map _) = _
  rw [List.map_map]
  rfl
theorem filter_dat (L : List (Int × Nat)) (k : Int) : (L.map fun p => (Lit.int .i64 p.1, DataW.lit (H := Unit) (.int .i64 (p.2 : Int)))).filter (fun p => !p.1.sameKey (.int .i64 k)) = (L.filter (fun p => p.1 != k)).map fun p => (Lit.int .i64 p.1, DataW.lit (.int .i64 (p.2 : Int))) := by
  rw [List.filter_map]
  congr 1
  apply List.filter_congr
  intro p _
  simp [Function.comp, same_int, bne, Bool.beq_eq_decide_eq]
theorem dat_del (L : List (Int × Nat)) (k : Int) : (dat L).del (.int .i64 k) = dat (L.filter (fun p => p.1 != k)) := by
  unfold dat DataW.del
  simp only
  rw [filter_dat]
def insL (L : List (Int × Nat)) (k : Int) (b : Nat) : List (Int × Nat) := L.filter (fun p => decide (p.1 < k)) ++ (k, b) :: L.filter (fun p => decide (k < p.1))
theorem insert_step (k j : Int) (d e : DataW Unit) (r : List (Lit × DataW Unit)) : DataW.insert (Lit.int .i64 k, d) ((Lit.int .i64 j, e) :: r) = if k < j then (Lit.int .i64 k, d) :: (Lit.int .i64 j, e) :: r else (Lit.int .i64 j, e) :: DataW.insert (Lit.int .i64 k, d) r := by
  simp [DataW.insert, Lit.before]
theorem insert_dat (k : Int) (b : Nat) : ∀ (L : List (Int × Nat)), L.Pairwise (fun p q => p.1 < q.1) → (∀ p ∈ L, p.1 ≠ k) →
    DataW.insert (Lit.int .i64 k, DataW.lit (H := Unit) (.int .i64 (b : Int))) (L.map fun p => (Lit.int .i64 p.1, DataW.lit (.int .i64 (p.2 : Int)))) = (insL L k b).map fun p => (Lit.int .i64 p.1, DataW.lit (.int .i64 (p.2 : Int)))
  | [], _, _ => rfl
  | p :: L, hp, h => by
    obtain ⟨h1, h2⟩ := List.pairwise_cons.1 hp
    have hne := h p (List.mem_cons_self ..)
    have ih := insert_dat k b L h2 (fun q hq => h q (List.mem_cons_of_mem _ hq))
    rw [List.map_cons, insert_step]
    by_cases c : k < p.1
    · rw [if_pos c]
      have e1 : (p :: L).filter (fun p => decide (p.1 < k)) = [] := by
        rw [List.filter_eq_nil_iff]
        intro q hq
        rcases List.mem_cons.1 hq with rfl | hq
        · simp; omega
        · have := h1 q hq; simp; omega
      have e2 : (p :: L).filter (fun p => decide (k < p.1)) = p :: L := by
        rw [List.filter_eq_self]
        intro q hq
        rcases List.mem_cons.1 hq with rfl | hq
        · simpa using c
        · have := h1 q hq; simp; omega
      unfold insL
      rw [e1, e2]; rfl
    · rw [if_neg c, ih]
      unfold insL
      rw [List.filter_cons, if_pos (by simp; omega), List.filter_cons, if_neg (by simpa using c)]
      rfl
theorem dat_put {L : List (Int × Nat)} (hp : L.Pairwise (fun p q => p.1 < q.1)) {k : Int} (h : ∀ p ∈ L, p.1 ≠ k) (b : Nat) : (dat L).put (.int .i64 k) (.lit (.int .i64 (b : Int))) = dat (insL L k b) := by
  unfold dat DataW.put
  simp only
  rw [filter_dat, List.filter_eq_self.2 (fun p hp => by simpa using h p hp), insert_dat k b L hp h]
theorem kKeyed : Maps.Keyed Tryz.prog 3 := Maps.int_keyed Tryz.underlying3
theorem wf_int {k : Int} (h : -9223372036854775808 ≤ k ∧ k < 9223372036854775808) : (Lit.int .i64 k).wf = true := by
  simp [Lit.wf, IntKind.min, IntKind.max, IntKind.signed, IntKind.bits]; omega
theorem key_int {k : Int} (h : -9223372036854775808 ≤ k ∧ k < 9223372036854775808) : keyOf Tryz.prog 3 (.int .i64 k) = some (.int .i64 k) := Maps.keyOf_int_mk Tryz.underlying3 (wf_int h)
theorem own_tight {P : Program} {k : TypeId} {R : Value → Option (DataW Unit × List MemPlace)} {w : World} {b n : Nat} {D : DataW Unit} (h : w.ownsMap P k R b n D) : w.ownsMap P k R b (Maps.size D) D := by
  obtain ⟨es, clock, hb, F, hs, hD⟩ := h
  refine ⟨es, clock, hb, F, ?_, hD⟩
  rw [hD]; simp [Maps.size, length_sorted]
abbrev mapT : TypeId := 63
theorem own_look {w : World} {mb n : Nat} {L : List (Int × Nat)} (h : w.ownsMap Tryz.prog 3 ptrR mb n (dat L)) {k : Int} (hk : -9223372036854775808 ≤ k ∧ k < 9223372036854775808) :
    ((∀ p ∈ L, p.1 ≠ k) → (Instr.lookup 63 (.map (some mb)) (.int .i64 k) false).run Tryz.prog w = .ok (.pointer none) w) ∧
    (L.Pairwise (fun p q => p.1 ≠ q.1) → ∀ b, (k, b) ∈ L → (Instr.lookup 63 (.map (some mb)) (.int .i64 k) false).run Tryz.prog w = .ok (.pointer (some ⟨b, 0, none⟩)) w) := by
  obtain ⟨v, ps, hrun, hv⟩ := h.lookup kKeyed Tryz.underlying63 (z := .pointer none) (by rfl) (zd := .nil) (zp := []) rfl (key_int hk)
  refine ⟨fun hn => ?_, fun hp b hb => ?_⟩
  · rw [dat_none hn] at hv
    rw [hrun, ptrR_nil hv]
  · rw [dat_at hp hb] at hv
    rw [hrun, ptrR_lit hv]
/-- What may change but for what S tells. -/
structure Xs (S : Nat → Prop) (w w' : World) : Prop where
  os : w'.os = w.os
  tape : w'.tape = w.tape
  output : w'.output = w.output
  size : w.heap.size ≤ w'.heap.size
  block : ∀ j, j < w.heap.size → ¬ S j → w'.heap[j]? = w.heap[j]?
theorem Xs.refl (S : Nat → Prop) (w : World) : Xs S w w := ⟨rfl, rfl, rfl, Nat.le_refl _, fun _ _ _ => rfl⟩
theorem Xs.of_below {S : Nat → Prop} {w w' : World} (h : Below w.heap.size w w') : Xs S w w' := ⟨h.os, h.tape, h.output, h.size, fun j hj _ => h.block j hj⟩
theorem Xs.trans {S S' : Nat → Prop} {a b c : World} (h : Xs S a b) (k : Xs S' b c) (hS : ∀ j, S' j → S j ∨ a.heap.size ≤ j) : Xs S a c :=
  ⟨k.os.trans h.os, k.tape.trans h.tape, k.output.trans h.output, Nat.le_trans h.size k.size, fun j hj hn => (k.block j (Nat.lt_of_lt_of_le hj h.size) (fun e => by rcases hS j e with e | e; exact hn e; omega)).trans (h.block j hj hn)⟩
theorem Xs.below {S : Nat → Prop} {B : Nat} {a b : World} (h : Xs S a b) (hS : ∀ j, S j → B ≤ j) (hB : B ≤ a.heap.size) : Below B a b := ⟨h.os, h.tape, h.output, h.size, fun j hj => h.block j (by omega) (fun e => by have := hS j e; omega)⟩
/-- A neighbour in memory. -/
def Nb (T : Nat → Prop) (w : World) (p : Hd × Nat) : Prop := ∃ a cap, w.heap[p.2]? = some (.cells #[.float .f64 p.1.wt, .slice a p.1.ns.length cap] 78 (0, 0)) ∧ NwS T w p.1.ns a ∧ p.1.ns.length ≤ cap ∧ cap ≤ 9223372036854775807 ∧ (a = none → p.1.ns = [])
def keyL (N : List (Hd × Nat)) : List (Int × Nat) := N.map (fun p => (p.1.id, p.2))
/-- A cache in memory: its block c, its map mb, its neighbours with their blocks. S: the blocks that its calls may turn; T: where its lists lie. -/
structure Cb (S T : Nat → Prop) (w : World) (c mb : Nat) (N : List (Hd × Nat)) : Prop where
  sc : S c
  sm : S mb
  sn : ∀ p ∈ N, S p.2
  cm : c ≠ mb
  cn : ∀ p ∈ N, p.2 ≠ c ∧ p.2 ≠ mb
  nd : N.Pairwise (fun p q => p.2 ≠ q.2)
  st : ∀ b, S b → ¬ T b
  blk : w.heap[c]? = some (.cells #[.pointer (some ⟨c, 0, none⟩), .map (some mb)] 65 (0, 0))
  own : w.ownsMap Tryz.prog 3 ptrR mb N.length (dat (keyL N))
  nbs : ∀ p ∈ N, Nb T w p
  ok : OkH (N.map (·.1))
theorem Nb.kept {T : Nat → Prop} {w w' : World} {p : Hd × Nat} (h : Nb T w p) (hp : w'.heap[p.2]? = w.heap[p.2]?) (hT : ∀ b, T b → b < w.heap.size → w'.heap[b]? = w.heap[b]?) (hs : w.heap.size ≤ w'.heap.size) : Nb T w' p := by
  obtain ⟨a, cap, h1, h2, h3⟩ := h
  exact ⟨a, cap, hp.trans h1, h2.kept hT hs, h3⟩
theorem own_kept {w w' : World} {mb n : Nat} {D : DataW Unit} (h : w.ownsMap Tryz.prog 3 ptrR mb n D) (hk : w'.heap[mb]? = w.heap[mb]?) : w'.ownsMap Tryz.prog 3 ptrR mb n D := by
  obtain ⟨es, clock, hb, hf⟩ := h
  exact ⟨es, clock, hk.trans hb, hf⟩
theorem Nb.lt {T : Nat → Prop} {w : World} {p : Hd × Nat} (h : Nb T w p) : p.2 < w.heap.size := by
  obtain ⟨a, cap, h1, -⟩ := h
  exact (Array.getElem?_eq_some_iff.1 h1).1
theorem Cb.kept {S T : Nat → Prop} {w w' : World} {c mb : Nat} {N : List (Hd × Nat)} (h : Cb S T w c mb N) (hk : ∀ b, S b ∨ T b → b < w.heap.size → w'.heap[b]? = w.heap[b]?) (hs : w.heap.size ≤ w'.heap.size) : Cb S T w' c mb N :=
  ⟨h.sc, h.sm, h.sn, h.cm, h.cn, h.nd, h.st, (hk c (Or.inl h.sc) (Array.getElem?_eq_some_iff.1 h.blk).1).trans h.blk, own_kept h.own (hk mb (Or.inl h.sm) h.own.lt), fun p hp => (h.nbs p hp).kept (hk p.2 (Or.inl (h.sn p hp)) (h.nbs p hp).lt) (fun b hb hl => hk b (Or.inr hb) hl) hs, h.ok⟩
theorem Cb.below {S T : Nat → Prop} {w w' : World} {c mb : Nat} {N : List (Hd × Nat)} (h : Cb S T w c mb N) (hb : Below w.heap.size w w') : Cb S T w' c mb N := h.kept (fun b _ hl => hb.block b hl) hb.size
theorem Cb.cells {S T : Nat → Prop} {w : World} {c mb : Nat} {N : List (Hd × Nat)} (h : Cb S T w c mb N) : w.cell? ⟨c, 0, none⟩ = some (.pointer (some ⟨c, 0, none⟩)) ∧ w.cell? ⟨c, 1, none⟩ = some (.map (some mb)) := by
  constructor <;> (rw [cell_of_row w c _ _ _ (0, 0) h.blk]; rfl)
theorem Nb.cells {T : Nat → Prop} {w : World} {p : Hd × Nat} (h : Nb T w p) : ∃ a cap, w.cell? ⟨p.2, 0, none⟩ = some (.float .f64 p.1.wt) ∧ w.cell? ⟨p.2, 1, none⟩ = some (.slice a p.1.ns.length cap) ∧ w.frozen? ⟨p.2, 0, none⟩ = false ∧ w.frozen? ⟨p.2, 1, none⟩ = false ∧ NwS T w p.1.ns a ∧ p.1.ns.length ≤ cap ∧ cap ≤ 9223372036854775807 ∧ (a = none → p.1.ns = []) := by
  obtain ⟨a, cap, h1, h2⟩ := h
  refine ⟨a, cap, ?_, ?_, frozen_of_row w _ _ _ _ h1, frozen_of_row w _ _ _ _ h1, h2⟩
  all_goals (rw [cell_of_row w p.2 _ _ _ (0, 0) h1]; rfl)
theorem Cb.key_rise {S T : Nat → Prop} {w : World} {c mb : Nat} {N : List (Hd × Nat)} (h : Cb S T w c mb N) : (keyL N).Pairwise (fun p q => p.1 < q.1) := by
  have := h.ok.rise
  unfold RiseH at this
  rw [List.pairwise_map] at this
  unfold keyL
  rw [List.pairwise_map]
  exact this
theorem Cb.key_ne {S T : Nat → Prop} {w : World} {c mb : Nat} {N : List (Hd × Nat)} (h : Cb S T w c mb N) : (keyL N).Pairwise (fun p q => p.1 ≠ q.1) := h.key_rise.imp (fun {a b} hab => by omega)
/-- Is a number a neighbour's, and which one's. -/
theorem Cb.look {S T : Nat → Prop} {w : World} {c mb : Nat} {N : List (Hd × Nat)} (h : Cb S T w c mb N) {k : Int} (hk : -9223372036854775808 ≤ k ∧ k < 9223372036854775808) :
    ((∀ p ∈ N, p.1.id ≠ k) ∧ (Instr.lookup 63 (.map (some mb)) (.int .i64 k) false).run Tryz.prog w = .ok (.pointer none) w) ∨
    ∃ p ∈ N, p.1.id = k ∧ (Instr.lookup 63 (.map (some mb)) (.int .i64 k) false).run Tryz.prog w = .ok (.pointer (some ⟨p.2, 0, none⟩)) w := by
  obtain ⟨h1, h2⟩ := own_look h.own hk
  by_cases hx : ∃ p ∈ N, p.1.id = k
  · obtain ⟨p, hp, e⟩ := hx
    exact Or.inr ⟨p, hp, e, h2 h.key_ne p.2 (List.mem_map.2 ⟨p, hp, by rw [e]⟩)⟩
  · have hn : ∀ p ∈ N, p.1.id ≠ k := fun p hp e => hx ⟨p, hp, e⟩
    refine Or.inl ⟨hn, h1 (fun q hq => ?_)⟩
    obtain ⟨p, hp, rfl⟩ := List.mem_map.1 hq
    exact hn p hp
theorem num_64 {k : Int} (h : numB k = true) : -9223372036854775808 ≤ k ∧ k < 9223372036854775808 := by have := num_bd h; omega
theorem cacheInfo : (Tryz.prog.info? 65).map (fun i => (i.zero, i.size, i.bytes)) = some (some (.agg #[.pointer none, .map none]), 2, 16) := by kernel_rfl
theorem eql_self (b : Nat) (w : World) : (binOp .eql 23 (.pointer (some ⟨b, 0, none⟩)) (.pointer (some ⟨b, 0, none⟩))).run Tryz.prog w = .ok (.bool true) w := by
  obtain ⟨i0, hi, -⟩ := info_parts cacheInfo
  exact run_eql_ptr_same w _ Tryz.underlying23 hi
theorem eql_not (b : Nat) (w : World) : (binOp .eql 23 (.pointer none) (.pointer (some ⟨b, 0, none⟩))).run Tryz.prog w = .ok (.bool false) w := by
  have h : ∀ d : Nat, (Op.equalIn (d + 1) 23 (.pointer none) (.pointer (some ⟨b, 0, none⟩))).run Tryz.prog w = .ok false w := fun d => by
    simp [Op.equalIn, run_underlying Tryz.underlying23]
  simp only [binOp]
  simp [Op.equal, Op.maxDepth, h 9999]
theorem kGiven_any (w : World) (c : Nat) (h0 : w.cell? ⟨c, 0, none⟩ = some (.pointer (some ⟨c, 0, none⟩))) : Calls Tryz.prog 41 #[.pointer (some ⟨c, 0, none⟩)] w fun e w' => e = .returned (.bool true) ∧ w = w' := by
  have hpe := eql_self c
  go_enter Tryz.func41, Tryz.ntmps41
  go_wp2
  go_ret
  exact ⟨rfl, rfl⟩
theorem kGiven_nil (w : World) : Calls Tryz.prog 41 #[.pointer none] w fun e w' => e = .returned (.bool false) ∧ w = w' := by
  go_enter Tryz.func41, Tryz.ntmps41
  go_wp2
  go_ret
  exact ⟨rfl, rfl⟩
theorem kGiven_zero (w : World) (c : Nat) (h0 : w.cell? ⟨c, 0, none⟩ = some (.pointer none)) : Calls Tryz.prog 41 #[.pointer (some ⟨c, 0, none⟩)] w fun e w' => e = .returned (.bool false) ∧ w = w' := by
  have hpe := eql_not c
  go_enter Tryz.func41, Tryz.ntmps41
  go_wp2
  go_ret
  exact ⟨rfl, rfl⟩
/-- A neighbour, or none. -/
theorem kNeigh_none {S T : Nat → Prop} {w : World} {c mb : Nat} {N : List (Hd × Nat)} {k : Int} (h : Cb S T w c mb N) (hrun : (Instr.lookup 63 (.map (some mb)) (.int .i64 k) false).run Tryz.prog w = .ok (.pointer none) w) :
    Calls Tryz.prog 33 #[.pointer (some ⟨c, 0, none⟩), .int .i64 k] w fun e w' => e = .returned (.tuple #[.pointer none, .int .i64 4]) ∧ w = w' := by
  obtain ⟨c0, c1⟩ := h.cells
  clear h
  go_enter Tryz.func33, Tryz.ntmps33
  go_wp2_with (go_at_call 41; refine (kGiven_any _ c c0).mono ?_; rintro e w' ⟨rfl, rfl⟩)
  refine bodyPost_ret (v := .tuple #[.pointer none, .int .i64 4]) (by simp [results, Tryz.results33, go_sem]) rfl ?_
  exact ⟨rfl, rfl⟩
theorem kNeigh_some {S T : Nat → Prop} {w : World} {c mb : Nat} {N : List (Hd × Nat)} {k : Int} {b : Nat} (h : Cb S T w c mb N) (hrun : (Instr.lookup 63 (.map (some mb)) (.int .i64 k) false).run Tryz.prog w = .ok (.pointer (some ⟨b, 0, none⟩)) w) :
    Calls Tryz.prog 33 #[.pointer (some ⟨c, 0, none⟩), .int .i64 k] w fun e w' => e = .returned (.tuple #[.pointer (some ⟨b, 0, none⟩), .int .i64 0]) ∧ w = w' := by
  obtain ⟨c0, c1⟩ := h.cells
  clear h
  go_enter Tryz.func33, Tryz.ntmps33
  go_wp2_with (go_at_call 41; refine (kGiven_any _ c c0).mono ?_; rintro e w' ⟨rfl, rfl⟩)
  refine bodyPost_ret (v := .tuple #[.pointer (some ⟨b, 0, none⟩), .int .i64 0]) (by simp [results, Tryz.results33, go_sem]) rfl ?_
  exact ⟨rfl, rfl⟩
end Go.Proofs.YtjhmfmpaaljegaaGreat
