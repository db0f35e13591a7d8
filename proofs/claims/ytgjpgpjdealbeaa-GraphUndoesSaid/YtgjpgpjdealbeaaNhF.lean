/- Rows that a call owns: a copy of a row. Graphs: slices.Clone at routers and at links. -/
import Derived.Test.YtgjpgpjdealbeaaOwA
import Derived.Test.YtgjpgpjdealbeaaNgY
section
namespace Go.Ow
open Go.RowKit Go.Lib
set_option linter.unusedVariables false
set_option linter.unusedSimpArgs false

theorem own_new {w : World} {e : TypeId} {k n G : Nat} {xs : List Value} {zc : Array Value} (hx : xs.length = n * k) (hz : zc.size = k) (hG : n ≤ G) (hm : G ≤ maxLen) :
    Own (w.drew.alloc (.cells (xs.toArray ++ Builtin.zeroCells zc (G - n)) e)) w.heap.size e k (.slice (some ⟨w.heap.size, 0, none⟩) n G) n xs := by
  refine Or.inr ⟨w.heap.size, G, _, rfl, Nat.le_refl _, heap_alloc_new w.drew _, hG, hm, ?_, ?_⟩
  · rw [Array.size_append, zero_size, hz, List.size_toArray, hx, ← Nat.add_mul]
    congr 1; omega
  · rw [Array.toList_append, List.take_append_of_le_length (by simp [hx]), List.take_of_length_le (by simp [hx])]
/-- 'append' of a row to an empty slice that has no room. -/
theorem own_clone {P : Program} {w : World} {k bytes n : Nat} {T TS : TypeId} {z : Value} {xs : List Value} (hu : P.underlying TS = some (.slice T)) (hinfo : (P.info? T).map (fun i => (i.zero, i.size, i.bytes)) = some (some z, k, bytes)) (hz : z.cells.size = k)
    (e : Nat) (a : Option Addr) (c : Nat) (hx : xs.length = n * k) (hr : n = 0 ∨ ∃ b o, a = some ⟨b, o, none⟩ ∧ ∀ j u, xs[j]? = some u → w.cell? ⟨b, o + j, none⟩ = some u) (h1 : ∀ v ∈ xs, v.oneCell' = true) (hfit : n * bytes ≤ 140737488355328) (hn : n < 4611686018427387904) :
    ∃ v' w', (∀ ty, (Builtin.append_ #[TS, TS] ty #[.slice (some ⟨e, 0, none⟩) 0 0, .slice a n c]).run P w = .ok v' w') ∧ Own w' w.heap.size T k v' n xs ∧ Below w.heap.size w w' := by
  obtain ⟨i0, hi0, hz0, hzs, hzb⟩ := info_parts hinfo
  by_cases h0 : n = 0
  · subst h0
    have hxs : xs = [] := List.length_eq_zero_iff.1 (by omega)
    subst hxs
    have hsrc : Src P k TS (.slice a 0 c) 0 [] w := by
      cases a with
      | none => exact Src.ofNil w hu c
      | some a => exact Src.ofSlice w hu a 0 c [] (by simp) (fun j u hj => by simp at hj) (fun u hu => by cases hu)
    have h := fun ty => run_append_room_src (P := P) w TS TS ty T i0 hu hi0 e 0 0 0 (.slice a 0 c) 0 [] (by rw [hzs]; exact hsrc) (Nat.le_refl _) (fun j hj => by simp at hj) (fun j hj => by simp at hj)
    exact ⟨_, _, h, Or.inl ⟨rfl, rfl, _, rfl⟩, Below.refl _ _⟩
  · obtain ⟨b, o, rfl, hc⟩ := hr.resolve_left h0
    have hsrc : Src P k TS (.slice (some ⟨b, o, none⟩) n c) n xs w := Src.ofSlice w hu ⟨b, o, none⟩ n c xs hx (fun j u hj => by rw [Addr.add_lit]; exact hc j u hj) h1
    have hml : 0 + n ≤ maxLen := by unfold maxLen; omega
    have h := fun ty => run_append_grow_src (P := P) w TS TS ty T i0 _ hu hi0 hz0 (some ⟨e, 0, none⟩) 0 0 [] (run_firstCells_some w.drew _ 0 ⟨e, 0, none⟩ 0 0 [] (by simp) (fun j v hj => by simp at hj)) _ n xs (by rw [hzs]; exact hsrc) (by omega) (by unfold maxLen at hml; omega) (by rw [hzb]; exact growslice_fits (by omega) (by simpa using hfit))
    refine ⟨_, _, h, ?_, (Wr.alloc (base := w.heap.size) (e := T) _).below (Nat.le_refl _)⟩
    rw [List.nil_append, Nat.zero_add]
    exact own_new hx hz (grownCap_ge w n 0 T) (grownCap_le_maxLen w n 0 T (by simpa using hml))
end Go.Ow
end

section
namespace Go.Proofs.Ytgjpgpjdealbeaa
open Go.RowKit Go.Lib Go.Fq Go.Iq Go.Nq Go.Ow
set_option linter.unusedVariables false
set_option linter.unusedSimpArgs false
set_option maxRecDepth 100000

/-- What Clone tells: a row of the call's own. -/
def CloneEnds (T : TypeId) (k n : Nat) (xs : List Value) (w : World) (e : Ending) (w' : World) : Prop := ∃ v, e = .returned v ∧ Own w' w.heap.size T k v n xs ∧ Below w.heap.size w w'
/-- What stands in memory, cell by cell. -/
theorem ndRow_reads (l : List Nd) (a : Option Addr) (w : World) (B : Nat) (h : NodesIn w B l a) : l.length = 0 ∨ ∃ b o, a = some ⟨b, o, none⟩ ∧ ∀ j u, (ndRow l)[j]? = some u → w.cell? ⟨b, o + j, none⟩ = some u := by
  rcases h with h | ⟨b, o, ha, hb, hc⟩
  · exact Or.inl (by rw [h]; rfl)
  · refine Or.inr ⟨b, o, ha, fun j u hj => ?_⟩
    have hlen := ndRow_len l
    have hj2 : j < (ndRow l).length := (List.getElem?_eq_some_iff.1 hj).1
    have hk : j / 3 < l.length := by omega
    obtain ⟨g0, g1, g2⟩ := ndRow_get l (j / 3) hk
    obtain ⟨c0, c1, c2⟩ := hc (j / 3) hk
    have hm : j = j / 3 * 3 + 0 ∨ j = j / 3 * 3 + 1 ∨ j = j / 3 * 3 + 2 := by omega
    rcases hm with e | e | e
    · rw [e] at hj ⊢; (try simp only [Nat.add_zero] at hj ⊢); rw [g0] at hj; cases hj; simpa [Nat.add_assoc] using c0
    · rw [e] at hj ⊢; (try simp only [Nat.add_zero] at hj ⊢); rw [g1] at hj; cases hj; simpa [Nat.add_assoc] using c1
    · rw [e] at hj ⊢; (try simp only [Nat.add_zero] at hj ⊢); rw [g2] at hj; cases hj; simpa [Nat.add_assoc] using c2
set_option maxHeartbeats 2000000 in
theorem gCloneNd_any (l : List Nd) (a : Option Addr) (c : Nat) (w : World) (h : NodesIn w w.heap.size l a) (hs : l.length * 16 ≤ 140737488351232) :
    Calls Try.prog 33 #[.slice a l.length c] w fun e w' => CloneEnds 52 3 l.length (ndRow l) w e w' := by
  cases a with
  | none =>
    have hl : l = [] := by
      rcases h with h | ⟨b, o, ha, -⟩
      · exact h
      · cases ha
    subst hl
    clear h hs
    have he : ∀ w : World, (binOp .eql 22 (.slice none 0 c) (.slice none 0 0)).run Try.prog w = .ok (.bool true) w := fun _ => rfl
    go_enter Try.func33, Try.ntmps33
    go_wp2_with fail
    go_ret
    exact ⟨_, rfl, Or.inl ⟨rfl, rfl, none, rfl⟩, Below.refl _ _⟩
  | some a =>
    have hr := ndRow_reads l (some a) (w.alloc (.cells #[] 52)) w.heap.size (h.kept (fun i hi => (gAl _ _).block i hi) (Nat.le_refl _))
    obtain ⟨v, V, hrun, ho, hb⟩ := own_clone (P := Try.prog) (w := w.alloc (.cells #[] 52)) Try.underlying22 ndInfo rfl w.heap.size (some a) c (ndRow_len l) hr (ndRow_one l) (by omega) (by omega)
    have HR := Lib.hid hrun
    have HO := Lib.hid (ho.mono (gAl w (.cells #[] 52)).size)
    have HB := Lib.hid (gNx (gAl w (.cells #[] 52)) hb)
    clear h hs hr hrun ho hb
    have he : ∀ w : World, (binOp .eql 22 (.slice (some a) l.length c) (.slice none 0 0)).run Try.prog w = .ok (.bool false) w := fun _ => rfl
    go_enter Try.func33, Try.ntmps33
    go_wp2_with (at_builtin; refine Lib.wpList_append_run _ rfl _ _ _ _ rfl _ _ rfl rfl _ _ (HR.out _) ?_)
    go_ret
    exact ⟨_, rfl, HO.out, HB.out⟩
/-- What stands in memory, cell by cell. -/
theorem lkRow_reads (l : List Lk) (a : Option Addr) (w : World) (B : Nat) (h : LinksIn w B l a) : l.length = 0 ∨ ∃ b o, a = some ⟨b, o, none⟩ ∧ ∀ j u, (lkRow l)[j]? = some u → w.cell? ⟨b, o + j, none⟩ = some u := by
  rcases h with h | ⟨b, o, ha, hb, hc⟩
  · exact Or.inl (by rw [h]; rfl)
  · refine Or.inr ⟨b, o, ha, fun j u hj => ?_⟩
    have hlen := lkRow_len l
    have hj2 : j < (lkRow l).length := (List.getElem?_eq_some_iff.1 hj).1
    have hk : j / 4 < l.length := by omega
    obtain ⟨g0, g1, g2, g3⟩ := lkRow_get l (j / 4) hk
    obtain ⟨c0, c1, c2, c3⟩ := hc (j / 4) hk
    have hm : j = j / 4 * 4 + 0 ∨ j = j / 4 * 4 + 1 ∨ j = j / 4 * 4 + 2 ∨ j = j / 4 * 4 + 3 := by omega
    rcases hm with e | e | e | e
    · rw [e] at hj ⊢; (try simp only [Nat.add_zero] at hj ⊢); rw [g0] at hj; cases hj; simpa [Nat.add_assoc] using c0
    · rw [e] at hj ⊢; (try simp only [Nat.add_zero] at hj ⊢); rw [g1] at hj; cases hj; simpa [Nat.add_assoc] using c1
    · rw [e] at hj ⊢; (try simp only [Nat.add_zero] at hj ⊢); rw [g2] at hj; cases hj; simpa [Nat.add_assoc] using c2
    · rw [e] at hj ⊢; (try simp only [Nat.add_zero] at hj ⊢); rw [g3] at hj; cases hj; simpa [Nat.add_assoc] using c3
set_option maxHeartbeats 2000000 in
theorem gCloneLk_any (l : List Lk) (a : Option Addr) (c : Nat) (w : World) (h : LinksIn w w.heap.size l a) (hs : l.length * 32 ≤ 140737488351232) :
    Calls Try.prog 34 #[.slice a l.length c] w fun e w' => CloneEnds 54 4 l.length (lkRow l) w e w' := by
  cases a with
  | none =>
    have hl : l = [] := by
      rcases h with h | ⟨b, o, ha, -⟩
      · exact h
      · cases ha
    subst hl
    clear h hs
    have he : ∀ w : World, (binOp .eql 23 (.slice none 0 c) (.slice none 0 0)).run Try.prog w = .ok (.bool true) w := fun _ => rfl
    go_enter Try.func34, Try.ntmps34
    go_wp2_with fail
    go_ret
    exact ⟨_, rfl, Or.inl ⟨rfl, rfl, none, rfl⟩, Below.refl _ _⟩
  | some a =>
    have hr := lkRow_reads l (some a) (w.alloc (.cells #[] 54)) w.heap.size (h.kept (fun i hi => (gAl _ _).block i hi) (Nat.le_refl _))
    obtain ⟨v, V, hrun, ho, hb⟩ := own_clone (P := Try.prog) (w := w.alloc (.cells #[] 54)) Try.underlying23 lkInfo rfl w.heap.size (some a) c (lkRow_len l) hr (lkRow_one l) (by omega) (by omega)
    have HR := Lib.hid hrun
    have HO := Lib.hid (ho.mono (gAl w (.cells #[] 54)).size)
    have HB := Lib.hid (gNx (gAl w (.cells #[] 54)) hb)
    clear h hs hr hrun ho hb
    have he : ∀ w : World, (binOp .eql 23 (.slice (some a) l.length c) (.slice none 0 0)).run Try.prog w = .ok (.bool false) w := fun _ => rfl
    go_enter Try.func34, Try.ntmps34
    go_wp2_with (at_builtin; refine Lib.wpList_append_run _ rfl _ _ _ _ rfl _ _ rfl rfl _ _ (HR.out _) ?_)
    go_ret
    exact ⟨_, rfl, HO.out, HB.out⟩
end Go.Proofs.Ytgjpgpjdealbeaa
end
