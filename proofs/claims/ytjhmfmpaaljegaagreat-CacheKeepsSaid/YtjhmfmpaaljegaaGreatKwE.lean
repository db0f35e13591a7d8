/- Caches, the program: New, Add, Weigh, Remove, Learn, Forget, List. -/
import Derived.Test.YtjhmfmpaaljegaaGreatKwD
namespace Go.Proofs.YtjhmfmpaaljegaaGreat
open Go.RowKit Go.Lib Go.Ow Go.Cw Go.Fq Go.Mq Go.Kq Go.Kw
set_option linter.unusedVariables false
set_option linter.unusedSimpArgs false
set_option maxRecDepth 100000

abbrev plain (N : List (Hd × Nat)) : List Hd := N.map (·.1)
/-- What a call of a cache leaves. -/
def Pst (S T : Nat → Prop) (w w' : World) (c : Nat) (M : List Hd) : Prop := Xs S w w' ∧ ∃ S' T' mb N, plain N = M ∧ Cb S' T' w' c mb N ∧ (∀ b, S' b → S b ∨ w.heap.size ≤ b) ∧ ∀ b, T' b → T b ∨ w.heap.size ≤ b
theorem Pst.same {S T : Nat → Prop} {w w' : World} {c mb : Nat} {N : List (Hd × Nat)} (h : Cb S T w c mb N) (hb : Below w.heap.size w w') : Pst S T w w' c (plain N) := ⟨Xs.of_below hb, S, T, mb, N, rfl, h.below hb, fun _ h => Or.inl h, fun _ h => Or.inl h⟩
theorem Cb.lt {S T : Nat → Prop} {w : World} {c mb : Nat} {N : List (Hd × Nat)} (h : Cb S T w c mb N) : Cb (fun b => S b ∧ b < w.heap.size) (fun b => T b ∧ b < w.heap.size) w c mb N := by
  refine ⟨⟨h.sc, (Array.getElem?_eq_some_iff.1 h.blk).1⟩, ⟨h.sm, h.own.lt⟩, fun p hp => ⟨h.sn p hp, (h.nbs p hp).lt⟩, h.cm, h.cn, h.nd, fun b hb ht => h.st b hb.1 ht.1, h.blk, h.own, fun p hp => ?_, h.ok⟩
  obtain ⟨a, cap, h1, h2, h3⟩ := h.nbs p hp
  exact ⟨a, cap, h1, h2.lt, h3⟩
theorem key_upd (N : List (Hd × Nat)) (id : Int) (h' : Hd) (he : h'.id = id) : keyL (N.map (fun q => if q.1.id = id then (h', q.2) else q)) = keyL N := by
  unfold keyL
  rw [List.map_map]
  apply List.map_congr_left
  intro q hq
  simp only [Function.comp]
  by_cases c : q.1.id = id
  · rw [if_pos c]; simp only; rw [he, c]
  · rw [if_neg c]
theorem plain_upd (N : List (Hd × Nat)) (id : Int) (h' : Hd) : plain (N.map (fun q => if q.1.id = id then (h', q.2) else q)) = updH (plain N) id h' := by
  unfold plain updH
  rw [List.map_map, List.map_map]
  apply List.map_congr_left
  intro q hq
  simp only [Function.comp]
  by_cases c : q.1.id = id
  · rw [if_pos c, if_pos c]
  · rw [if_neg c, if_neg c]
/-- One neighbour's block written. -/
theorem Cb.upd {S T T' : Nat → Prop} {w w' : World} {c mb : Nat} {N : List (Hd × Nat)} (h : Cb S T w c mb N) {p : Hd × Nat} (hp : p ∈ N) (h' : Hd) (he : h'.id = p.1.id) (hw : h'.wt < 2 ^ 64) (hn : OkN h'.ns)
    (hx : ∀ b, b < w.heap.size → b ≠ p.2 → w'.heap[b]? = w.heap[b]?) (hs : w.heap.size ≤ w'.heap.size) (hT : ∀ b, T b → T' b) (hST : ∀ b, S b → ¬ T' b) (hnb : Nb T' w' (h', p.2)) :
    Cb S T' w' c mb (N.map (fun q => if q.1.id = p.1.id then (h', q.2) else q)) := by
  have hmem : ∀ q ∈ N, (if q.1.id = p.1.id then (h', q.2) else q).2 = q.2 := fun q _ => by split <;> rfl
  have huniq : ∀ q ∈ N, q.1.id = p.1.id → q = p := fun q hq e => by
    have hne := h.key_ne
    unfold keyL at hne
    rw [List.pairwise_map] at hne
    obtain ⟨i, hi, rfl⟩ := List.getElem_of_mem hq
    obtain ⟨j, hj, rfl⟩ := List.getElem_of_mem hp
    have hpw := List.pairwise_iff_getElem.1 hne
    rcases Nat.lt_trichotomy i j with c | c | c
    · exact absurd e (hpw i j hi hj c)
    · subst c; rfl
    · exact absurd e.symm (hpw j i hj hi c)
  refine ⟨h.sc, h.sm, fun q hq => ?_, h.cm, fun q hq => ?_, ?_, hST, ?_, ?_, fun q hq => ?_, ?_⟩
  · obtain ⟨q0, hq0, rfl⟩ := List.mem_map.1 hq
    rw [hmem q0 hq0]; exact h.sn q0 hq0
  · obtain ⟨q0, hq0, rfl⟩ := List.mem_map.1 hq
    rw [hmem q0 hq0]; exact h.cn q0 hq0
  · rw [List.pairwise_map]
    refine List.Pairwise.imp_of_mem (fun {a b} ha hb hab => ?_) h.nd
    rw [hmem a ha, hmem b hb]; exact hab
  · rw [hx c (Array.getElem?_eq_some_iff.1 h.blk).1 (h.cn p hp).1.symm]; exact h.blk
  · rw [key_upd N p.1.id h' he, List.length_map]
    exact own_kept h.own (hx mb h.own.lt (h.cn p hp).2.symm)
  · obtain ⟨q0, hq0, rfl⟩ := List.mem_map.1 hq
    by_cases e : q0.1.id = p.1.id
    · rw [if_pos e, huniq q0 hq0 e]; exact hnb
    · rw [if_neg e]
      have hne : q0.2 ≠ p.2 := by
        intro e2
        obtain ⟨i, hi, rfl⟩ := List.getElem_of_mem hq0
        obtain ⟨j, hj, rfl⟩ := List.getElem_of_mem hp
        have hpw := List.pairwise_iff_getElem.1 h.nd
        rcases Nat.lt_trichotomy i j with c | c | c
        · exact hpw i j hi hj c e2
        · subst c; exact e rfl
        · exact hpw j i hj hi c e2.symm
      obtain ⟨a, cap, h1, h2, h3⟩ := h.nbs q0 hq0
      exact ⟨a, cap, (hx _ (h.nbs q0 hq0).lt hne).trans h1, (h2.kept (fun b hb hl => hx b hl (fun e3 => h.st b (by rw [e3]; exact h.sn p hp) hb)) hs).mono hT, h3⟩
  · have := plain_upd N p.1.id h'
    unfold plain at this
    rw [this]
    exact ok_upd h.ok he ⟨p.1, List.mem_map.2 ⟨p, hp, rfl⟩, rfl⟩ hw hn
theorem set_two {w : World} {b : Nat} {x y : Value} {t : TypeId} (h : w.heap[b]? = some (.cells #[x, y] t (0, 0))) : (∀ v, (w.setCell ⟨b, 0, none⟩ v).heap[b]? = some (.cells #[v, y] t (0, 0))) ∧ ∀ v, (w.setCell ⟨b, 1, none⟩ v).heap[b]? = some (.cells #[x, v] t (0, 0)) := by
  constructor
  all_goals
    intro v
    simp [World.setCell, Array.getElem?_modify, h]
theorem xs_set {S : Nat → Prop} {w : World} {b o : Nat} (hb : S b) (v : Value) : Xs S w (w.setCell ⟨b, o, none⟩ v) :=
  ⟨rfl, rfl, rfl, by simp [World.setCell], fun j hj hn => Below.heap_setCell _ _ _ _ (fun e => hn (by rw [e]; exact hb))⟩
/-- Of the number k: a neighbour, or none. -/
theorem Cb.fnd {S T : Nat → Prop} {w : World} {c mb : Nat} {N : List (Hd × Nat)} (h : Cb S T w c mb N) {k : Int} (hk : -9223372036854775808 ≤ k ∧ k < 9223372036854775808) :
    (Kq.fnd (plain N) k = none ∧ (∀ x ∈ plain N, x.id ≠ k) ∧ (Instr.lookup 63 (.map (some mb)) (.int .i64 k) false).run Tryz.prog w = .ok (.pointer none) w) ∨
    ∃ p ∈ N, p.1.id = k ∧ Kq.fnd (plain N) k = some p.1 ∧ (Instr.lookup 63 (.map (some mb)) (.int .i64 k) false).run Tryz.prog w = .ok (.pointer (some ⟨p.2, 0, none⟩)) w := by
  rcases h.look hk with ⟨h1, h2⟩ | ⟨p, hp, rfl, h2⟩
  · have hn : ∀ x ∈ plain N, x.id ≠ k := fun x hx => by
      obtain ⟨q, hq, rfl⟩ := List.mem_map.1 hx
      exact h1 q hq
    exact Or.inl ⟨fnd_none hn, hn, h2⟩
  · exact Or.inr ⟨p, hp, rfl, fnd_some h.ok.rise (List.mem_map.2 ⟨p, hp, rfl⟩), h2⟩
set_option maxHeartbeats 2000000 in
theorem kNew_any (w : World) : Calls Tryz.prog 7 #[] w fun e w' => ∃ c, w.heap.size ≤ c ∧ e = .returned (.pointer (some ⟨c, 0, none⟩)) ∧ Below w.heap.size w w' ∧ ∃ S mb, Cb S (fun _ => False) w' c mb [] ∧ ∀ b, S b → w.heap.size ≤ b := by
  have hmm := @run_makeMap Tryz.prog
  go_enter Tryz.func7, Tryz.ntmps7
  go_wp2_with fail
  refine bodyPost_ret (v := .pointer (some ⟨w.heap.size + 1, 0, none⟩)) (by simp [results, Tryz.results7, go_sem]) rfl ?_
  refine ⟨w.heap.size + 1, Nat.le_succ _, rfl, gNx (gAl _ _) (gAl _ _), fun b => b = w.heap.size ∨ b = w.heap.size + 1, w.heap.size, ⟨Or.inr rfl, Or.inl rfl, by simp, by omega, by simp, List.Pairwise.nil, fun _ _ h => h, ?_, ?_, by simp, ⟨List.Pairwise.nil, by simp, by simp, by simp, by simp⟩⟩, fun b hb => by omega⟩
  · have := heap_alloc_new (w.alloc (Obj.map #[] 0)) (Obj.cells #[Value.pointer (some { block := w.heap.size + 1, off := 0 }), Value.map (some w.heap.size)] 65)
    rw [World.size_alloc] at this
    exact this
  · exact (World.ownsMap_made w Tryz.prog 3 ptrR).alloc _
theorem key_rm (N : List (Hd × Nat)) (k : Int) : keyL (N.filter (fun p => p.1.id != k)) = (keyL N).filter (fun p => p.1 != k) := by
  unfold keyL
  rw [List.filter_map]
  rfl
theorem plain_rm (N : List (Hd × Nat)) (k : Int) : plain (N.filter (fun p => p.1.id != k)) = rmH (plain N) k := by
  unfold plain rmH
  rw [List.filter_map]
  rfl
theorem Cb.rm {S T : Nat → Prop} {w w1 : World} {c mb n : Nat} {N : List (Hd × Nat)} (h : Cb S T w c mb N) (k : Int) (ho : w1.ownsMap Tryz.prog 3 ptrR mb n ((dat (keyL N)).del (.int .i64 k))) (hg : w.grownBy w1 (some mb)) : Cb S T w1 c mb (N.filter (fun p => p.1.id != k)) ∧ Xs S w w1 := by
  have hb : ∀ b, b < w.heap.size → b ≠ mb → w1.heap[b]? = w.heap[b]? := fun b hb hne => hg.block b hb (fun e => hne (Option.some.inj e))
  rw [dat_del, ← key_rm] at ho
  have ho2 := own_tight ho
  rw [dat_size] at ho2
  have el : (keyL (N.filter (fun p => p.1.id != k))).length = (N.filter (fun p => p.1.id != k)).length := by unfold keyL; rw [List.length_map]
  rw [el] at ho2
  refine ⟨⟨h.sc, h.sm, fun p hp => h.sn p (List.mem_filter.1 hp).1, h.cm, fun p hp => h.cn p (List.mem_filter.1 hp).1, List.Pairwise.filter _ h.nd, h.st, (hb c (Array.getElem?_eq_some_iff.1 h.blk).1 h.cm).trans h.blk, ho2, fun p hp => ?_, ?_⟩, ⟨hg.os, hg.tape, hg.output, hg.size, fun j hj hn => hb j hj (fun e => hn (by rw [e]; exact h.sm))⟩⟩
  · have hp2 := (List.mem_filter.1 hp).1
    exact (h.nbs p hp2).kept (hb _ (h.nbs p hp2).lt (h.cn p hp2).2) (fun b hT hl => hb b hl (fun e => h.st b (by rw [e]; exact h.sm) hT)) hg.size
  · have := plain_rm N k
    unfold plain at this
    rw [this]
    exact ok_rm h.ok k
theorem key_add (N : List (Hd × Nat)) (k : Int) (h0 : Hd) (b : Nat) (e : h0.id = k) : keyL (N.filter (fun p => decide (p.1.id < k)) ++ (h0, b) :: N.filter (fun p => decide (k < p.1.id))) = insL (keyL N) k b := by
  unfold keyL insL
  rw [List.map_append, List.map_cons, List.filter_map, List.filter_map, e]
  rfl
theorem plain_add (N : List (Hd × Nat)) (k : Int) (f : Nat) (b : Nat) : plain (N.filter (fun p => decide (p.1.id < k)) ++ ((⟨k, f, []⟩ : Hd), b) :: N.filter (fun p => decide (k < p.1.id))) = addH (plain N) k f := by
  unfold plain addH
  rw [List.map_append, List.map_cons, List.filter_map, List.filter_map]
  rfl
theorem Cb.add {S T : Nat → Prop} {w w0 w1 : World} {c mb n : Nat} {N : List (Hd × Nat)} (h : Cb S T w c mb N) {k : Int} {f : Nat} (hid : numB k = true) (hw : f < 2 ^ 64) (hn : ∀ x ∈ plain N, x.id ≠ k) (hl : (plain N).length < 256)
    (h0 : w0 = w.alloc (.cells #[.float .f64 f, .slice none 0 0] 78)) (ho : w1.ownsMap Tryz.prog 3 ptrR mb n ((dat (keyL N)).put (.int .i64 k) (.lit (.int .i64 (w.heap.size : Int))))) (hg : w0.grownBy w1 (some mb)) : Pst S T w w1 c (addH (plain N) k f) := by
  have hml := h.own.lt
  have hs0 : w0.heap.size = w.heap.size + 1 := by rw [h0]; simp
  have hb0 : ∀ b, b < w.heap.size → w0.heap[b]? = w.heap[b]? := fun b hb => by rw [h0]; exact (gAl w _).block b hb
  have hnew : w0.heap[w.heap.size]? = some (.cells #[.float .f64 f, .slice none 0 0] 78 (0, 0)) := by rw [h0]; exact heap_alloc_new w _
  have hb : ∀ b, b < w.heap.size → b ≠ mb → w1.heap[b]? = w.heap[b]? := fun b hb hne => (hg.block b (by omega) (fun e => hne (Option.some.inj e))).trans (hb0 b hb)
  have hkn : ∀ p ∈ keyL N, p.1 ≠ k := fun q hq => by
    obtain ⟨p, hp, rfl⟩ := List.mem_map.1 hq
    exact hn p.1 (List.mem_map.2 ⟨p, hp, rfl⟩)
  rw [dat_put h.key_rise hkn, ← key_add N k (⟨k, f, []⟩ : Hd) w.heap.size rfl] at ho
  have ho2 := own_tight ho
  rw [dat_size] at ho2
  obtain ⟨N', hN'⟩ : ∃ N', N' = N.filter (fun p => decide (p.1.id < k)) ++ ((⟨k, f, []⟩ : Hd), w.heap.size) :: N.filter (fun p => decide (k < p.1.id)) := ⟨_, rfl⟩
  rw [← hN'] at ho2
  have el : (keyL N').length = N'.length := by unfold keyL; rw [List.length_map]
  rw [el] at ho2
  have hmem : ∀ p ∈ N', p ∈ N ∨ p = ((⟨k, f, []⟩ : Hd), w.heap.size) := fun p hp => by
    rw [hN'] at hp
    rcases List.mem_append.1 hp with hp | hp
    · exact Or.inl (List.mem_filter.1 hp).1
    · rcases List.mem_cons.1 hp with hp | hp
      · exact Or.inr hp
      · exact Or.inl (List.mem_filter.1 hp).1
  have hpl : plain N' = addH (plain N) k f := by rw [hN']; exact plain_add N k f _
  have hsz : w.heap.size ≤ w1.heap.size := by have := hg.size; omega
  have hL := h.lt
  refine ⟨⟨?_, ?_, ?_, hsz, fun j hj hS => hb j hj (fun e => hS (by rw [e]; exact h.sm))⟩, fun b => (S b ∧ b < w.heap.size) ∨ b = w.heap.size, fun b => T b ∧ b < w.heap.size, mb, N', hpl, ⟨Or.inl hL.sc, Or.inl hL.sm, fun p hp => ?_, h.cm, fun p hp => ?_, ?_, fun b hb2 ht => ?_, (hb c hL.sc.2 h.cm).trans h.blk, ho2, fun p hp => ?_, ?_⟩, fun b hb2 => by rcases hb2 with hb2 | hb2; exact Or.inl hb2.1; exact Or.inr (by omega), fun b hb2 => Or.inl hb2.1⟩
  · rw [hg.os, h0]; rfl
  · rw [hg.tape, h0]; rfl
  · rw [hg.output, h0]; rfl
  · rcases hmem p hp with hp | rfl
    · exact Or.inl (hL.sn p hp)
    · exact Or.inr rfl
  · rcases hmem p hp with hp | rfl
    · exact h.cn p hp
    · have := hL.sc.2
      constructor
      · show w.heap.size ≠ c; omega
      · show w.heap.size ≠ mb; omega
  · rw [hN']
    have hlt : ∀ p ∈ N, p.2 < w.heap.size := fun p hp => (h.nbs p hp).lt
    refine List.pairwise_append.2 ⟨List.Pairwise.filter _ h.nd, List.pairwise_cons.2 ⟨fun a ha => ?_, List.Pairwise.filter _ h.nd⟩, fun a ha b hb2 => ?_⟩
    · have := hlt a (List.mem_filter.1 ha).1
      show w.heap.size ≠ a.2; omega
    · have h1 := (List.mem_filter.1 ha)
      rcases List.mem_cons.1 hb2 with rfl | hb2
      · have := hlt a h1.1
        show a.2 ≠ w.heap.size; omega
      · have h2 := (List.mem_filter.1 hb2)
        have e1 : a.1.id < k := by simpa using h1.2
        have e2 : k < b.1.id := by simpa using h2.2
        obtain ⟨i, hi, rfl⟩ := List.getElem_of_mem h1.1
        obtain ⟨j, hj, rfl⟩ := List.getElem_of_mem h2.1
        have hpw := List.pairwise_iff_getElem.1 h.nd
        rcases Nat.lt_trichotomy i j with c2 | c2 | c2
        · exact hpw i j hi hj c2
        · subst c2; omega
        · exact (hpw j i hj hi c2).symm
  · rcases hb2 with hb2 | hb2
    · exact h.st b hb2.1 ht.1
    · omega
  · rcases hmem p hp with hp | rfl
    · exact ((hL.nbs p hp)).kept (hb _ (h.nbs p hp).lt (h.cn p hp).2) (fun b hT hl => hb b hl (fun e => h.st b (by rw [e]; exact h.sm) hT.1)) hsz
    · exact ⟨none, 0, (hg.block _ (by omega) (fun e => by have := Option.some.inj e; omega)).trans hnew, Or.inl rfl, Nat.le_refl _, by omega, fun _ => rfl⟩
  · have := hpl
    unfold plain at this
    rw [this]
    exact ok_add h.ok hid hw hn hl
set_option maxHeartbeats 2000000 in
theorem kRemove_any {S T : Nat → Prop} {w : World} {c mb : Nat} {N : List (Hd × Nat)} (h : Cb S T w c mb N) {k : Int} (hk : -9223372036854775808 ≤ k ∧ k < 9223372036854775808) :
    Calls Tryz.prog 27 #[.pointer (some ⟨c, 0, none⟩), .int .i64 k] w fun e w' => e = .returned (.int .i64 (rmR (plain N) k).1) ∧ Pst S T w w' c (rmR (plain N) k).2 := by
  unfold rmR
  obtain ⟨c0, c1⟩ := h.cells
  rcases h.fnd hk with ⟨hf, hn, hrun⟩ | ⟨p, hp, hid, hf, hrun⟩
  · rw [hf]
    have HN := Lib.hid (kNeigh_none h hrun)
    have HP := Lib.hid (Pst.same h (Below.refl _ w))
    clear h hrun hf hn
    go_enter Tryz.func27, Tryz.ntmps27
    go_wp2_with (go_at_call 33; refine HN.out.mono ?_; rintro e w' ⟨rfl, rfl⟩)
    refine bodyPost_ret (v := .int .i64 4) (by simp [results, Tryz.results27, go_sem]) rfl ?_
    exact ⟨rfl, HP.out⟩
  · rw [hf]
    have HN := Lib.hid (kNeigh_some h hrun)
    have HC := Lib.hid h
    clear h hrun hf
    go_enter Tryz.func27, Tryz.ntmps27
    go_wp2_with (first | (go_at_call 33; refine HN.out.mono ?_; rintro e w' ⟨rfl, rfl⟩) | (at_delete; refine wpList_delete_own _ rfl _ _ 63 3 rfl 74 kKeyed Tryz.underlying63 ptrR mb N.length (dat (keyL N)) rfl HC.out.own (.int .i64 k) (.int .i64 k) rfl (key_int hk) ?_; intro w1 hown1 hturn1; have HO := Lib.hid (And.intro hown1 hturn1); clear hown1 hturn1))
    refine bodyPost_ret (v := .int .i64 0) (by simp [results, Tryz.results27, go_sem]) rfl ?_
    obtain ⟨x1, x2⟩ := HC.out.rm k HO.out.1 HO.out.2.grown
    exact ⟨rfl, x2, S, T, mb, _, plain_rm N k, x1, fun _ h => Or.inl h, fun _ h => Or.inl h⟩
set_option maxHeartbeats 2000000 in
theorem kWeigh_any {S T : Nat → Prop} {w : World} {c mb : Nat} {N : List (Hd × Nat)} (h : Cb S T w c mb N) {k : Int} (hk : -9223372036854775808 ≤ k ∧ k < 9223372036854775808) {f : Nat} (hf64 : f < 2 ^ 64) :
    Calls Tryz.prog 26 #[.pointer (some ⟨c, 0, none⟩), .int .i64 k, .float .f64 f] w fun e w' => e = .returned (.int .i64 (weighR (plain N) k f).1) ∧ Pst S T w w' c (weighR (plain N) k f).2 := by
  unfold weighR
  obtain ⟨c0, c1⟩ := h.cells
  have HW := Lib.hid (weight_any f w hf64)
  have HP := Lib.hid (Pst.same h (Below.refl _ w))
  generalize hwf : weightF f = e at *
  by_cases he : e = 0
  · subst he
    rw [if_neg (by simp)]
    rcases h.fnd hk with ⟨hf, hn, hrun⟩ | ⟨p, hp, hid, hf, hrun⟩
    · rw [hf]
      have HN := Lib.hid (kNeigh_none h hrun)
      clear h hrun hf hn hwf
      go_enter Tryz.func26, Tryz.ntmps26
      go_wp2_with (first | (go_at_call 41; refine (kGiven_any _ c c0).mono ?_; rintro e w' ⟨rfl, rfl⟩) | (go_at_call 52; refine HW.out.mono ?_; rintro e w' ⟨rfl, rfl⟩) | (go_at_call 33; refine HN.out.mono ?_; rintro e w' ⟨rfl, rfl⟩))
      refine bodyPost_ret (v := .int .i64 4) (by simp [results, Tryz.results26, go_sem]) rfl ?_
      exact ⟨rfl, HP.out⟩
    · rw [hf]
      have HN := Lib.hid (kNeigh_some h hrun)
      have HC := Lib.hid h
      obtain ⟨a, cap, b0, b1, f0, f1, hns, hcap, hcap2, hnil⟩ := (h.nbs p hp).cells
      have hsn := n_store
      obtain ⟨a', cap', hblk, hrest⟩ := h.nbs p hp
      have HB := Lib.hid hblk
      have HR := Lib.hid hrest
      clear h hrun hf hns hcap hcap2 hnil hwf hblk hrest
      go_enter Tryz.func26, Tryz.ntmps26
      go_wp2_with (first | (go_at_call 41; refine (kGiven_any _ c c0).mono ?_; rintro e w' ⟨rfl, rfl⟩) | (go_at_call 52; refine HW.out.mono ?_; rintro e w' ⟨rfl, rfl⟩) | (go_at_call 33; refine HN.out.mono ?_; rintro e w' ⟨rfl, rfl⟩))
      refine bodyPost_ret (v := .int .i64 0) (by simp [results, Tryz.results26, go_sem]) rfl ?_
      have hx := Cb.upd HC.out hp (w' := w.setCell ⟨p.2, 0, none⟩ (.float .f64 f)) (T' := T) ⟨p.1.id, f, p.1.ns⟩ rfl hf64 (HC.out.ok.ns p.1 (List.mem_map.2 ⟨p, hp, rfl⟩)) (fun b _ hne => Below.heap_setCell _ _ _ _ hne) (by simp [World.setCell]) (fun _ h => h) HC.out.st ⟨a', cap', (set_two HB.out).1 _, HR.out.1.kept (fun b hT _ => Below.heap_setCell _ _ _ _ (fun e => HC.out.st b (by rw [e]; exact HC.out.sn p hp) hT)) (by simp [World.setCell]), HR.out.2⟩
      refine ⟨rfl, xs_set (HC.out.sn p hp) _, S, T, mb, _, ?_, hx, fun _ h => Or.inl h, fun _ h => Or.inl h⟩
      rw [plain_upd, hid]
  · rw [if_pos he]
    have heb : (e != 0) = true := by simp [he]
    clear h hwf
    go_enter Tryz.func26, Tryz.ntmps26
    go_wp2_with (first | (go_at_call 41; refine (kGiven_any _ c c0).mono ?_; rintro e w' ⟨rfl, rfl⟩) | (go_at_call 52; refine HW.out.mono ?_; rintro e w' ⟨rfl, rfl⟩))
    refine bodyPost_ret (v := .int .i64 e) (by simp [results, Tryz.results26, go_sem]) rfl ?_
    exact ⟨rfl, HP.out⟩
set_option maxHeartbeats 2000000 in
theorem kForget_any {S T : Nat → Prop} {w : World} {c mb : Nat} {N : List (Hd × Nat)} (h : Cb S T w c mb N) {k : Int} (hk : -9223372036854775808 ≤ k ∧ k < 9223372036854775808) :
    Calls Tryz.prog 22 #[.pointer (some ⟨c, 0, none⟩), .int .i64 k] w fun e w' => e = .returned (.tuple #[.int .i64 ((forgetR (plain N) k).2.1 : Int), .int .i64 (forgetR (plain N) k).1]) ∧ Pst S T w w' c (forgetR (plain N) k).2.2 := by
  unfold forgetR
  obtain ⟨c0, c1⟩ := h.cells
  have HP := Lib.hid (Pst.same h (Below.refl _ w))
  rcases h.fnd hk with ⟨hf, hn, hrun⟩ | ⟨p, hp, hid, hf, hrun⟩
  · rw [hf]
    have HN := Lib.hid (kNeigh_none h hrun)
    clear h hrun hf hn
    go_enter Tryz.func22, Tryz.ntmps22
    go_wp2_with (go_at_call 33; refine HN.out.mono ?_; rintro e w' ⟨rfl, rfl⟩)
    refine bodyPost_ret (v := .tuple #[.int .i64 0, .int .i64 4]) (by simp [results, Tryz.results22, go_sem]) rfl ?_
    exact ⟨rfl, HP.out⟩
  · rw [hf]
    have HN := Lib.hid (kNeigh_some h hrun)
    have HC := Lib.hid h
    obtain ⟨a, cap, b0, b1, f0, f1, hns, hcap, hcap2, hnil⟩ := (h.nbs p hp).cells
    obtain ⟨a', cap', hblk, hrest⟩ := h.nbs p hp
    have HB := Lib.hid hblk
    clear h hrun hf hns hcap hcap2 hnil hblk hrest
    go_enter Tryz.func22, Tryz.ntmps22
    go_wp2_with (go_at_call 33; refine HN.out.mono ?_; rintro e w' ⟨rfl, rfl⟩)
    refine bodyPost_ret (v := .tuple #[.int .i64 (p.1.ns.length : Int), .int .i64 0]) (by simp [results, Tryz.results22, go_sem]) rfl ?_
    have hx := Cb.upd HC.out hp (w' := w.setCell ⟨p.2, 1, none⟩ (.slice none 0 0)) (T' := T) ⟨p.1.id, p.1.wt, []⟩ rfl (HC.out.ok.wt p.1 (List.mem_map.2 ⟨p, hp, rfl⟩)) okN_nil (fun b _ hne => Below.heap_setCell _ _ _ _ hne) (by simp [World.setCell]) (fun _ h => h) HC.out.st ⟨none, 0, (set_two HB.out).2 _, Or.inl rfl, Nat.le_refl _, by omega, fun _ => rfl⟩
    refine ⟨rfl, xs_set (HC.out.sn p hp) _, S, T, mb, _, ?_, hx, fun _ h => Or.inl h, fun _ h => Or.inl h⟩
    rw [plain_upd, hid]
set_option maxHeartbeats 2000000 in
theorem kAdd_any {S T : Nat → Prop} {w : World} {c mb : Nat} {N : List (Hd × Nat)} (h : Cb S T w c mb N) {k : Int} (hk : -9223372036854775808 ≤ k ∧ k < 9223372036854775808) {f : Nat} (hf64 : f < 2 ^ 64) :
    Calls Tryz.prog 25 #[.pointer (some ⟨c, 0, none⟩), .int .i64 k, .float .f64 f] w fun e w' => e = .returned (.int .i64 (addR (plain N) k f).1) ∧ Pst S T w w' c (addR (plain N) k f).2 := by
  unfold addR
  obtain ⟨c0, c1⟩ := h.cells
  have HW := Lib.hid (weight_any f w hf64)
  have HP := Lib.hid (Pst.same h (Below.refl _ w))
  have HU := Lib.hid (kNumber_any k w)
  generalize hwf : weightF f = e at *
  cases hnum : numB k with
  | false =>
    rw [hnum] at HU
    rw [if_pos rfl]
    clear h hwf
    go_enter Tryz.func25, Tryz.ntmps25
    go_wp2_with (first | (go_at_call 41; refine (kGiven_any _ c c0).mono ?_; rintro e w' ⟨rfl, rfl⟩) | (go_at_call 51; refine HU.out.mono ?_; rintro e w' ⟨rfl, rfl⟩))
    refine bodyPost_ret (v := .int .i64 20) (by simp [results, Tryz.results25, go_sem]) rfl ?_
    exact ⟨rfl, HP.out⟩
  | true =>
    rw [hnum] at HU
    rw [if_neg (by decide)]
    by_cases he : e = 0
    · subst he
      rw [if_neg (by simp)]
      rcases h.fnd hk with ⟨hf, hn, hrun⟩ | ⟨p, hp, hid, hf, hrun⟩
      · rw [hf]
        have hlen : Maps.size (dat (keyL N)) = (plain N).length := by rw [dat_size]; unfold keyL plain; rw [List.length_map, List.length_map]
        have hln := h.own.len Tryz.underlying63
        rw [hlen] at hln
        have hnl : N.length = (plain N).length := by unfold plain; rw [List.length_map]
        by_cases hl : (plain N).length = 256
        · have hli : ((plain N).length : Int) = 256 := by omega
          rw [hli] at hln
          simp only
          rw [if_pos hl]
          clear h hwf hlen hnl hl hli
          go_enter Tryz.func25, Tryz.ntmps25
          go_wp2_with (first | (go_at_call 41; refine (kGiven_any _ c c0).mono ?_; rintro e w' ⟨rfl, rfl⟩) | (go_at_call 52; refine HW.out.mono ?_; rintro e w' ⟨rfl, rfl⟩) | (go_at_call 51; refine HU.out.mono ?_; rintro e w' ⟨rfl, rfl⟩))
          refine bodyPost_ret (v := .int .i64 2) (by simp [results, Tryz.results25, go_sem]) rfl ?_
          exact ⟨rfl, HP.out⟩
        · have hlb : ((N.length : Int) == 256) = false := by rw [← hnl] at hl; simp; omega
          rw [← hnl] at hln
          simp only
          rw [if_neg hl]
          have HC := Lib.hid h
          have HL := Lib.hid (show (plain N).length < 256 by have := h.ok.len; unfold plain at hl ⊢; omega)
          have HNN := Lib.hid hn
          have HNL := Lib.hid hnl
          clear h hwf hlen hnl hl hn
          go_enter Tryz.func25, Tryz.ntmps25
          go_wp2_with (first | (go_at_call 41; refine (kGiven_any _ c c0).mono ?_; rintro e w' ⟨rfl, rfl⟩) | (go_at_call 52; refine HW.out.mono ?_; rintro e w' ⟨rfl, rfl⟩) | (go_at_call 51; refine HU.out.mono ?_; rintro e w' ⟨rfl, rfl⟩) | (at_mapUpdate; refine wpList_mapUpdate_own _ rfl _ _ _ 63 rfl 3 74 kKeyed Tryz.underlying63 ptrR mb N.length (dat (keyL N)) rfl (HC.out.own.alloc _) (by have := HL.out; have := HNL.out; unfold maxLen; omega) (.int .i64 k) _ (.int .i64 k) rfl rfl (key_int hk) (.lit (.int .i64 (w.heap.size : Int))) [] rfl ?_; intro w1 hown1 hgrow1; have HO := Lib.hid (And.intro hown1 hgrow1); clear hown1 hgrow1))
          refine bodyPost_ret (v := .int .i64 0) (by simp [results, Tryz.results25, go_sem]) rfl ?_
          exact ⟨rfl, HC.out.add hnum hf64 HNN.out HL.out rfl HO.out.1 HO.out.2⟩
      · rw [hf]
        clear h hwf
        go_enter Tryz.func25, Tryz.ntmps25
        go_wp2_with (first | (go_at_call 41; refine (kGiven_any _ c c0).mono ?_; rintro e w' ⟨rfl, rfl⟩) | (go_at_call 52; refine HW.out.mono ?_; rintro e w' ⟨rfl, rfl⟩) | (go_at_call 51; refine HU.out.mono ?_; rintro e w' ⟨rfl, rfl⟩))
        refine bodyPost_ret (v := .int .i64 72) (by simp [results, Tryz.results25, go_sem]) rfl ?_
        exact ⟨rfl, HP.out⟩
    · rw [if_pos he]
      have heb : (e != 0) = true := by simp [he]
      clear h hwf
      go_enter Tryz.func25, Tryz.ntmps25
      go_wp2_with (first | (go_at_call 41; refine (kGiven_any _ c c0).mono ?_; rintro e w' ⟨rfl, rfl⟩) | (go_at_call 52; refine HW.out.mono ?_; rintro e w' ⟨rfl, rfl⟩) | (go_at_call 51; refine HU.out.mono ?_; rintro e w' ⟨rfl, rfl⟩))
      refine bodyPost_ret (v := .int .i64 e) (by simp [results, Tryz.results25, go_sem]) rfl ?_
      exact ⟨rfl, HP.out⟩
end Go.Proofs.YtjhmfmpaaljegaaGreat
