/- Caches: rows of what is heard; the document's News, Copy, place; the program's All. -/
import Derived.Test.YtjhmfmpaaljegaaGreatKwG
namespace Go.Proofs.YtjhmfmpaaljegaaGreat
open Go.RowKit Go.Lib Go.Ow Go.Cw Go.Mq Go.Kq Go.Kw
set_option linter.unusedVariables false
set_option linter.unusedSimpArgs false
set_option maxRecDepth 100000

theorem kwp_append {op : Oper} {a : Act} {w w' : World} {K : Act → World → Prop} {Q : Exit → Act → World → Prop} (t : TypeId) (s x : Operand) (ho : op.op = Op.call { callee := Callee.builtin Builtin.append, args := #[s, x], argTypes := #[t, t] }) (vs vx v : Value) (hs : a.eval s = vs) (hx : a.eval x = vx) (h : ∀ ty, (Builtin.append_ #[t, t] ty #[vs, vx]).run Tryz.prog w = .ok v w') (hk : K (a.put op.dst v) w') : op.wp Tryz.prog a w K Q := by
  unfold Oper.wp
  simp [execOp, ho, resolve, invoke, builtin, hs, hx, h, Result.andThen]
  exact hk
abbrev Hv := Hd × Value
/-- What is heard of one, in a row: its cells. -/
def hC (p : Hv) : List Value := [.int .i64 p.1.id, .float .f64 p.1.wt, p.2]
def hRow (l : List Hv) : List Value := l.flatMap hC
theorem hC_len (p : Hv) : (hC p).length = 3 := rfl
theorem hRow_len (l : List Hv) : (hRow l).length = l.length * 3 := flat_len hC 3 hC_len l
theorem hRow_app (l m : List Hv) : hRow (l ++ m) = hRow l ++ hRow m := List.flatMap_append
theorem hInfo : (Tryz.prog.info? 56).map (fun i => (i.zero, i.size, i.bytes)) = some (some (.agg #[.int .i64 0, .float .f64 0, .slice none 0 0]), 3, 40) := by kernel_rfl
/-- The lists of a row. -/
def Ls (S : Nat → Prop) (w : World) (l : List Hv) : Prop := ∀ p ∈ l, ∃ na nc, p.2 = .slice na p.1.ns.length nc ∧ NwS S w p.1.ns na
abbrev Hr (w : World) (r : Nat) (v : Value) (l : List Hv) : Prop := Rw w r 56 3 v l.length (hRow l)
/-- What is heard, in memory. -/
structure HdIn (S : Nat → Prop) (w : World) (l : List Hv) (a : Option Addr) : Prop where
  ls : Ls S w l
  row : l = [] ∨ ∃ b o, a = some ⟨b, o, none⟩ ∧ S b ∧ b < w.heap.size ∧ w.rangeAt b o (hRow l)
theorem Ls.one {S : Nat → Prop} {w : World} {l : List Hv} (h : Ls S w l) {p : Hv} (hp : p ∈ l) : p.2.oneCell' = true := by
  obtain ⟨na, nc, e, -⟩ := h p hp
  rw [e]; rfl
theorem Ls.kept {S : Nat → Prop} {w w' : World} {l : List Hv} (h : Ls S w l) (hk : ∀ b, S b → b < w.heap.size → w'.heap[b]? = w.heap[b]?) (hs : w.heap.size ≤ w'.heap.size) : Ls S w' l := fun p hp => by
  obtain ⟨na, nc, e, hn⟩ := h p hp
  exact ⟨na, nc, e, hn.kept hk hs⟩
theorem Ls.mono {S T : Nat → Prop} {w : World} {l : List Hv} (h : Ls S w l) (hT : ∀ b, S b → T b) : Ls T w l := fun p hp => by
  obtain ⟨na, nc, e, hn⟩ := h p hp
  exact ⟨na, nc, e, hn.mono hT⟩
theorem HdIn.kept {S : Nat → Prop} {w w' : World} {l : List Hv} {a : Option Addr} (h : HdIn S w l a) (hk : ∀ b, S b → b < w.heap.size → w'.heap[b]? = w.heap[b]?) (hs : w.heap.size ≤ w'.heap.size) : HdIn S w' l a :=
  ⟨h.ls.kept hk hs, by
    rcases h.row with h | ⟨b, o, h1, h2, h3, h4⟩
    · exact Or.inl h
    · exact Or.inr ⟨b, o, h1, h2, by omega, fun j v hj => (World.cell?_of_block (a := ⟨b, o + j, none⟩) (hk b h2 h3)).trans (h4 j v hj)⟩⟩
theorem HdIn.below {S : Nat → Prop} {w w' : World} {l : List Hv} {a : Option Addr} (h : HdIn S w l a) (hb : Below w.heap.size w w') : HdIn S w' l a := h.kept (fun b _ hl => hb.block b hl) hb.size
theorem HdIn.mono {S T : Nat → Prop} {w : World} {l : List Hv} {a : Option Addr} (h : HdIn S w l a) (hT : ∀ b, S b → T b) : HdIn T w l a :=
  ⟨h.ls.mono hT, by
    rcases h.row with h | ⟨b, o, h1, h2, h3⟩
    · exact Or.inl h
    · exact Or.inr ⟨b, o, h1, hT b h2, h3⟩⟩
theorem hr_in {S : Nat → Prop} {w : World} {r : Nat} {l : List Hv} {a : Option Addr} {c : Nat} (h : Hr w r (.slice a l.length c) l) (hl : Ls S w l) (hr : S r) : HdIn S w l a := by
  refine ⟨hl, ?_⟩
  by_cases hn : 0 < l.length
  · obtain ⟨o, cap, e, -, h1, -, h2, -, -⟩ := h.at hn
    cases e
    exact Or.inr ⟨r, o, rfl, hr, h1, h2⟩
  · exact Or.inl (List.length_eq_zero_iff.1 (by omega))
/-- One heard, read. -/
theorem HdIn.at {S : Nat → Prop} {w : World} {l : List Hv} {a : Option Addr} (h : HdIn S w l a) {k : Nat} (hk : k < l.length) : ∃ b o, a = some ⟨b, o, none⟩ ∧ S b ∧ b < w.heap.size ∧
    ∀ (k : Nat) (hk : k < l.length), ∃ na nc, l[k].2 = .slice na l[k].1.ns.length nc ∧ NwS S w l[k].1.ns na ∧ w.cell? ⟨b, o + k * 3, none⟩ = some (.int .i64 l[k].1.id) ∧ w.cell? ⟨b, o + k * 3 + 1, none⟩ = some (.float .f64 l[k].1.wt) ∧ w.cell? ⟨b, o + k * 3 + 2, none⟩ = some (.slice na l[k].1.ns.length nc) := by
  rcases h.row with rfl | ⟨b, o, h1, h2, h3, h4⟩
  · simp at hk
  · refine ⟨b, o, h1, h2, h3, fun k hk => ?_⟩
    obtain ⟨na, nc, e, hn⟩ := h.ls l[k] (List.getElem_mem _)
    have hg := fun j hj => flat_get hC 3 hC_len l k j hk hj
    refine ⟨na, nc, e, hn, ?_, ?_, ?_⟩
    · have := h4 (k * 3 + 0) _ (hg 0 (by omega)); simpa using this
    · have := h4 (k * 3 + 1) _ (hg 1 (by omega)); rw [← Nat.add_assoc] at this; exact this
    · have := h4 (k * 3 + 2) _ (hg 2 (by omega)); rw [← Nat.add_assoc] at this; rw [this]; show some l[k].2 = _; rw [e]
/-- One more. -/
theorem h_app {w : World} {r : Nat} {a : Option Addr} {c : Nat} {l : List Hv} (p : Hv) (h : Hr w r (.slice a l.length c) l) (h1 : p.2.oneCell' = true) (hf : l.length < 1000000) {B : Nat} (hB : B ≤ r) {w0 : World} (hb : Below B w0 w) (hB2 : B ≤ w.heap.size) (W8 : World) (hW8 : W8 = w.alloc (.cells #[.int .i64 p.1.id, .float .f64 p.1.wt, p.2] 56)) :
    ∃ a' c' W9 r', (∀ ty, (Builtin.append_ #[25, 25] ty #[.slice a l.length c, .slice (some ⟨w.heap.size, 0, none⟩) 1 1]).run Tryz.prog W8 = .ok (.slice a' (l ++ [p]).length c') W9) ∧ Hr W9 r' (.slice a' (l ++ [p]).length c') (l ++ [p]) ∧ B ≤ r' ∧ Below B w0 W9 ∧ w.heap.size ≤ W9.heap.size ∧ (∀ j, j < w.heap.size → j ≠ r → W9.heap[j]? = w.heap[j]?) ∧ (r' = r ∨ w.heap.size ≤ r') := by
  have b8 : Below w.heap.size w W8 := by rw [hW8]; exact gAl _ _
  have r8 : W8.heap[w.heap.size]? = some (.cells (hC p).toArray 56 (0, 0)) := by rw [hW8]; exact heap_alloc_new w _
  have ho : ∀ v ∈ hC p, v.oneCell' = true := by
    intro v hv
    unfold hC at hv
    simp only [List.mem_cons, List.not_mem_nil, or_false] at hv
    rcases hv with rfl | rfl | rfl
    · rfl
    · rfl
    · exact h1
  obtain ⟨v2, Wn, r2, hrun, hrow, hr2, hxr, -⟩ := rw_app (P := Tryz.prog) (vb := w.heap.size) (vs := hC p) Tryz.underlying25 hInfo rfl (h.below b8) r8 rfl ho (by omega) (by omega) r
  obtain ⟨a2, c2, rfl⟩ := hrow.slice
  have e1 : (l ++ [p]).length = l.length + 1 := by simp
  have e2 : hRow (l ++ [p]) = hRow l ++ hC p := by rw [hRow_app]; simp [hRow]
  refine ⟨a2, c2, Wn, r2, by rw [e1]; exact hrun, by show Rw _ _ _ _ _ _ _; rw [e1, e2]; exact hrow, by have := b8.size; omega, hb.trans ((b8.mono hB2).trans (hxr.below hB hB (by have := b8.size; omega))), by have := b8.size; have := hxr.size; omega, fun j hj hne => (hxr.block j (by have := b8.size; omega) hne hne).trans (b8.block j hj), by have := b8.size; omega⟩
theorem take_nw (l : List Nw) {k : Nat} (h : k < l.length) : l.take (k + 1) = l.take k ++ [l[k]] := List.take_succ_eq_append_getElem h
set_option maxHeartbeats 8000000 in
theorem rNews_any (l : List Nw) (a : Option Addr) (c : Nat) (w : World) (h : NewsIn w w.heap.size l a) (hl : (l.length + 1) * 40 ≤ 140737488355328) :
    Calls Tryz.prog 23 #[.slice a l.length c] w fun e w' => NwRet w l id e w' := by
  have HR := Lib.hid (fun V (hV : Below w.heap.size w V) => h.kept (fun i hi => hV.block i hi) (Nat.le_refl _))
  have HL := Lib.hid hl
  clear h hl
  go_enter Tryz.func23, Tryz.ntmps23
  go_wp2_with fail
  go_loopw [4, 3] (fun ii v wr => ∃ (k : Nat) (a : Option Addr) (c : Nat) (r' : Nat), ii = .int .i64 (k : Int) ∧ v = .slice a (l.take k).length c ∧ k ≤ l.length ∧ w.heap.size ≤ r' ∧ Nr wr r' (.slice a (l.take k).length c) (l.take k) ∧ Below w.heap.size w wr) (fun ii _ _ => l.length - (RowKit.intOf ii).toNat)
  case atStart => exact ⟨0, _, 0, w.heap.size, rfl, rfl, Nat.zero_le _, Nat.le_refl _, Or.inl ⟨rfl, rfl, _, rfl⟩, gAl _ _⟩
  case round =>
    obtain ⟨k, a3, c3, r', rfl, rfl, hk, hr', hrow, hbel⟩ := hrel
    obtain ⟨wo, hwo⟩ : ∃ wo, wo = wr := ⟨_, rfl⟩
    subst hwo
    have HB := Lib.hid hbel
    have HROW := Lib.hid hrow
    have HR2 := Lib.hid hr'
    by_cases hlt : k < l.length
    · have hlti : (k : Int) < (l.length : Int) := by omega
      have hk0 : (0 : Int) ≤ (k : Int) := by omega
      have hkw : IntKind.i64.wrap ((k : Int) + 1) = (k : Int) + 1 := by rw [IntKind.wrap_i64]; have := HL.out; omega
      have HK1 : Hid (k + 1 ≤ l.length ∧ l.length - (k + 1) < l.length - k ∧ ((k : Int) + 1).toNat = k + 1 ∧ (k : Int) + 1 = ((k + 1 : Nat) : Int)) := Lib.hid ⟨by omega, by omega, by omega, by omega⟩
      obtain ⟨b, o, rfl, hlow, hra⟩ := (HR.out wo hbel).at k hlt
      obtain ⟨k0, k1, k2, k3, k4⟩ := hra k hlt
      have HTK := Lib.hid (take_nw l hlt)
      clear hra
      generalize l[k] = n at *
      have hbl : w.heap.size ≤ wo.heap.size := hbel.size
      have htl : (l.take k).length = k := by rw [List.length_take]; omega
      obtain ⟨W8, hW8⟩ : ∃ W8, W8 = wo.alloc (.cells #[.int .i64 n.dest, .int .i64 n.kind, .float .f64 n.dist, .float .f64 n.radius, .int .i64 n.home] 61) := ⟨_, rfl⟩
      obtain ⟨a', c', W9, r9, hrun, hrow9, hr9, hb9⟩ := nw_app n hrow (by rw [htl]; have := HL.out; omega) hr' hbel hbl W8 hW8
      rw [hW8] at hrun
      rw [← HTK.out] at hrun hrow9
      have HRUN := Lib.hid hrun
      have HROW9 := Lib.hid hrow9
      have HR9 := Lib.hid hr9
      have HB9 := Lib.hid hb9
      clear hrun hrow9 hr9 hb9 hW8 hlt hk hrow hr' hbel hlow hbl htl
      generalize hm : l.take k = m at *
      generalize hm2 : l.take (k + 1) = m2 at *
      have HM2 := Lib.hid hm2
      clear hm hm2
      go_wp2_with (at_builtin; refine Lib.wpList_append_run _ rfl _ _ _ _ rfl _ _ rfl rfl _ _ (HRUN.out _) ?_)
      refine ⟨⟨k + 1, a', c', r9, congrArg (Value.int .i64) HK1.out.2.2.2, by rw [HM2.out], HK1.out.1, HR9.out, by rw [HM2.out]; exact HROW9.out, HB9.out⟩, ?_⟩
      show l.length - ((k : Int) + 1).toNat < l.length - (k : Int).toNat
      rw [HK1.out.2.2.1]
      exact HK1.out.2.1
    · have hnk : ¬ (k : Int) < (l.length : Int) := by omega
      have e : l.take k = l := List.take_of_length_le (by omega)
      rw [e] at hrow ⊢
      have HE := Lib.hid hrow
      clear hlt hk hrow hr' hbel HROW
      go_wp2_with fail
      refine bodyPost_ret (v := .slice a3 l.length c3) (by simp [results, Tryz.results23, go_sem]) rfl ?_
      exact ⟨HB.out, a3, c3, r', rfl, HR2.out, HE.out⟩
def NoId (l : List Hv) (id : Int) : Prop := ∀ p ∈ l, p.1.id ≠ id
set_option maxHeartbeats 4000000 in
theorem rPlace_any {S : Nat → Prop} (l : List Hv) (a : Option Addr) (c : Nat) (id : Int) (w : World) (h : HdIn S w l a) (hl : l.length ≤ 256) :
    Calls Tryz.prog 35 #[.slice a l.length c, .int .i64 id] w fun e w' => w = w' ∧ ((NoId l id ∧ e = .returned (.int .i64 (-1))) ∨ ∃ (k : Nat) (hk : k < l.length), l[k].1.id = id ∧ e = .returned (.int .i64 (k : Int))) := by
  have HR := Lib.hid h
  have HL := Lib.hid hl
  clear h hl
  go_enter Tryz.func35, Tryz.ntmps35
  go_wp2_with fail
  go_loopw [5] (fun ii wr => ∃ k : Nat, ii = .int .i64 (k : Int) ∧ k ≤ l.length ∧ wr = w ∧ ∀ j (hj : j < l.length), j < k → l[j].1.id ≠ id) (fun ii _ => l.length - (RowKit.intOf ii).toNat)
  case atStart => exact ⟨0, rfl, Nat.zero_le _, rfl, fun j _ h => by omega⟩
  case round =>
    obtain ⟨k, rfl, hk, rfl, hno⟩ := hrel
    have HNO := Lib.hid hno
    clear hno
    by_cases hlt : k < l.length
    · have hlti : (k : Int) < (l.length : Int) := by omega
      have hk0 : (0 : Int) ≤ (k : Int) := by omega
      have hkw : IntKind.i64.wrap ((k : Int) + 1) = (k : Int) + 1 := by rw [IntKind.wrap_i64]; have := HL.out; omega
      obtain ⟨b, o, rfl, -, -, hat⟩ := HR.out.at hlt
      obtain ⟨na, nc, -, -, k0, -, -⟩ := hat k hlt
      clear hat
      by_cases he : l[k].1.id = id
      · have heb : (l[k].1.id == id) = true := by simp [he]
        have HE := Lib.hid he
        generalize l[k].1.id = x at k0 heb
        clear he
        go_wp2_with fail
        refine bodyPost_ret (v := .int .i64 (k : Int)) (by simp [results, Tryz.results35, go_sem]) rfl ?_
        exact ⟨rfl, Or.inr ⟨k, hlt, HE.out, rfl⟩⟩
      · have heb : (l[k].1.id == id) = false := by simp [he]
        have HE := Lib.hid he
        generalize l[k].1.id = x at k0 heb
        clear he
        go_wp2_with fail
        refine ⟨⟨k + 1, congrArg (Value.int .i64) (by omega), by omega, by simp, fun j hj hjk => ?_⟩, by show l.length - ((k : Int) + 1).toNat < l.length - (k : Int).toNat; omega⟩
        by_cases e : j = k
        · subst e; exact HE.out
        · exact HNO.out j hj (by omega)
    · have hnk : ¬ (k : Int) < (l.length : Int) := by omega
      go_wp2_with fail
      refine bodyPost_ret (v := .int .i64 (-1)) (by simp [results, Tryz.results35, go_sem]) rfl ?_
      exact ⟨rfl, Or.inl ⟨by intro x hp; obtain ⟨j, hj, e⟩ := List.getElem_of_mem hp; have := HNO.out j hj (by omega); rw [e] at this; exact this, rfl⟩⟩
end Go.Proofs.YtjhmfmpaaljegaaGreat
