/- Caches, the laws: plays. -/
import Derived.Test.YtjhmfmpaaljegaaGreatKwQ
import Derived.Test.YtjhmfmpaaljegaaGreatMhM
namespace Go.Proofs.YtjhmfmpaaljegaaGreat
open Go.RowKit Go.Lib Go.Wq Go.Ow Go.Cw Go.Fq Go.Mq Go.Kq Go.Kw
set_option linter.unusedVariables false
set_option linter.unusedSimpArgs false
set_option maxRecDepth 100000

/-- A call, and where its news lie. -/
structure AcX where
  x : Ac
  na : Option Addr
  nc : Nat
def acAt (w : World) (b o : Nat) (y : AcX) : Prop := w.cell? ⟨b, o, none⟩ = some (.int .i64 y.x.op) ∧ w.cell? ⟨b, o + 1, none⟩ = some (.int .i64 y.x.id) ∧ w.cell? ⟨b, o + 2, none⟩ = some (.float .f64 y.x.wt) ∧ w.cell? ⟨b, o + 3, none⟩ = some (.slice y.na y.x.news.length y.nc)
structure ActsIn (w : World) (l : List AcX) (a : Option Addr) : Prop where
  rows : l = [] ∨ ∃ b o, a = some ⟨b, o, none⟩ ∧ b < w.heap.size ∧ ∀ i (hi : i < l.length), acAt w b (o + i * 4) l[i]
  ok : ∀ y ∈ l, AcOk w y.x y.na
  n1 : l.length < 4611686018427387904
theorem ActsIn.at {w : World} {l : List AcX} {a : Option Addr} (h : ActsIn w l a) {k : Nat} (hk : k < l.length) : ∃ b o, a = some ⟨b, o, none⟩ ∧ b < w.heap.size ∧ acAt w b (o + k * 4) l[k] ∧ AcOk w l[k].x l[k].na := by
  rcases h.rows with e | ⟨b, o, h1, h2, h3⟩
  · subst e; simp at hk
  · exact ⟨b, o, h1, h2, h3 k hk, h.ok _ (List.getElem_mem _)⟩
theorem acAt.below {w w2 : World} {b o : Nat} {y : AcX} (h : acAt w b o y) (hb : b < w.heap.size) (k : Below w.heap.size w w2) : acAt w2 b o y :=
  ⟨(k.cell (p := ⟨b, o, none⟩) hb).trans h.1, (k.cell (p := ⟨b, o + 1, none⟩) hb).trans h.2.1, (k.cell (p := ⟨b, o + 2, none⟩) hb).trans h.2.2.1, (k.cell (p := ⟨b, o + 3, none⟩) hb).trans h.2.2.2⟩
theorem AcOk.below {w w2 : World} {x : Ac} {na : Option Addr} (h : AcOk w x na) (k : Below w.heap.size w w2) : AcOk w2 x na :=
  ⟨h.op, h.id, h.wt, h.news.kept (fun i hi => k.block i hi) k.size, h.fit, h.len⟩
theorem stAct : St Tryz.prog 31 [(3, 0), (3, 1), (28, 2), (29, 3)] := ⟨_, Tryz.underlying31, by kernel_rfl⟩
theorem cAct : Tryz.prog.cellsOf 31 = 4 := by kernel_rfl
theorem bAct : Tryz.prog.bytesOf 31 = 48 := by kernel_rfl
section
variable {H : Type} {enc : TypeId × Value → H} {w : World} {spare : Nat → Bool} {held : Bool}
theorem in_act {n : Nat} {cs : List Value} {d : DataW H} {q : List MemPlace} (h : DataW.trod enc Tryz.prog w 0 spare held n 31 cs = some (d, q)) (hw : ∀ z ∈ d.weights Tryz.prog 31, z ≤ reachBytes) :
    ∃ y : AcX, cs = [.int .i64 y.x.op, .int .i64 y.x.id, .float .f64 y.x.wt, .slice y.na y.x.news.length y.nc] ∧ AcOk w y.x y.na := by
  obtain ⟨xs, m, -, -, hcl, hxl, hat, hwt⟩ := stAct.opens h
  have hR : reachBytes = 140737488351232 := rfl
  rw [cAct] at hcl
  match cs, hcl, xs, hxl with
  | [v0, v1, v2, v3], _, [x0, x1, x2, x3], _ =>
    have e0 := hat 0 (by simp)
    have e1 := hat 1 (by simp)
    have e2 := hat 2 (by simp)
    have e3 := hat 3 (by simp)
    simp [cInt, cF64, cNwS] at e0 e1 e2 e3
    have w3 := hwt _ hw 3 (by simp) x3 rfl
    obtain ⟨a0, rfl, p0, q0⟩ := in_int e0
    obtain ⟨a1, rfl, p1, q1⟩ := in_int e1
    obtain ⟨a2, rfl, p2⟩ := in_f64 e2
    obtain ⟨na, kk, nc, rfl⟩ := in_slice e3
    obtain ⟨l, rfl, hin, hfit, hl40⟩ := in_newses e3 w3
    have ho : a0 ≤ 9223372036854775807 := by omega
    have hl : (l.length + 1) * 40 ≤ 140737488355328 := by omega
    exact ⟨⟨⟨a0, a1, a2, l⟩, na, nc⟩, rfl, ⟨p0, ho⟩, ⟨p1, q1⟩, p2, hin, hfit, hl⟩
theorem gin_acts {n : Nat} {a : Option Addr} {k c : Nat} {x : DataW H × List MemPlace} (h : DataW.trod enc Tryz.prog w 0 spare held n 22 [.slice a k c] = some x) (hw : ∀ z ∈ x.1.weights Tryz.prog 22, z ≤ reachBytes) :
    ∃ l : List AcX, k = l.length ∧ ActsIn w l a := by
  have hR : reachBytes = 140737488351232 := rfl
  rcases open_slice (k := 4) Tryz.underlying22 cAct (by omega) h with h0 | ⟨m, b, o, el, sp, rfl, rfl, hb, he, hel, hel2⟩
  · exact ⟨[], by simpa using h0, Or.inl rfl, by simp, by simp⟩
  · rw [he] at hw
    obtain ⟨hq, hq2⟩ := weights_elem Tryz.underlying22 hw
    rw [bAct] at hq
    obtain ⟨l, hl, hl2⟩ := list_of (Q := fun i (y : AcX) => acAt w b (o + i * 4) y ∧ AcOk w y.x y.na) el.length (fun i hi => by
      obtain ⟨cs, ps', hcl, hcc, htr⟩ := hel2 i hi
      obtain ⟨y, rfl, hf⟩ := in_act htr (hq2 i hi)
      have g := fun j hj => hcc j hj
      exact ⟨y, ⟨g 0 (by simp), g 1 (by simp), g 2 (by simp), g 3 (by simp)⟩, hf⟩)
    refine ⟨l, by omega, Or.inr ⟨b, o, rfl, hb, fun i hi => (hl2 i hi).1⟩, fun y hy => ?_, by have := Nat.mul_le_mul_right 48 (Nat.le_add_right el.length sp.length); omega⟩
    obtain ⟨i, hi, rfl⟩ := List.getElem_of_mem hy
    exact (hl2 i hi).2
end
/-- What a call makes of what is known. -/
def dsM (M : List Hd) (x : Ac) : List Hd := if x.op = 0 then (addR M x.id x.wt).2 else if x.op = 1 then (weighR M x.id x.wt).2 else if x.op = 2 then (rmR M x.id).2 else if x.op = 3 then (learnR M x.id x.news).2.2 else (forgetR M x.id).2.2
theorem does_any {S T U : Nat → Prop} {B : Nat} {w : World} {c mb : Nat} {N : List (Hd × Nat)} {l : List Hv} {a : Option Addr} (k : Nat) (h : Bo B S T U w c mb N l a) (hB : B ≤ w.heap.size) (x : Ac) (na : Option Addr) (nc : Nat) (ok : AcOk w x na) :
    Calls Tryz.prog 8 #[.pointer (some ⟨c, 0, none⟩), .slice a l.length k, .agg #[.int .i64 x.op, .int .i64 x.id, .float .f64 x.wt, .slice na x.news.length nc]] w fun e w' => DoesRet B w c (dsM (hds l) x) e w' := by
  unfold dsM
  by_cases h0 : x.op = 0
  · rw [if_pos h0, h0]; exact doesAdd_any k h hB x.id x.wt na _ nc ok.id ok.wt
  rw [if_neg h0]
  by_cases h1 : x.op = 1
  · rw [if_pos h1, h1]; exact doesWeigh_any k h hB x.id x.wt na _ nc ok.id ok.wt
  rw [if_neg h1]
  by_cases h2 : x.op = 2
  · rw [if_pos h2, h2]; exact doesRemove_any k h hB x.id x.wt na _ nc ok.id ok.wt
  rw [if_neg h2]
  by_cases h3 : x.op = 3
  · rw [if_pos h3, h3]; exact doesLearn_any k h hB x.id x.wt x.news na nc ok.id ok.news ok.fit ok.len
  rw [if_neg h3]
  exact doesForget_any k h hB x.id x.op ⟨h0, h1, h2, h3⟩ x.wt na _ nc ok.id ok.wt
theorem heard0 {U : Nat → Prop} (w : World) (a : Option Addr) : HdIn U w [] a := ⟨fun p hp => by simp at hp, Or.inl rfl⟩
set_option maxHeartbeats 16000000 in
theorem law_cplays (acts : List AcX) (aa : Option Addr) (ca : Nat) (w : World) (h : ActsIn w acts aa) : Calls Tryz.prog 3 #[.slice aa acts.length ca] w fun e w' => e = .returned (.bool true) ∧ Below w.heap.size w w' := by
  have heq := eql_not2
  have HA := Lib.hid h
  have HLE := Lib.hid h.n1
  clear h
  go_enter Tryz.func3, Tryz.ntmps3
  go_wp2_with (go_at_call 7; refine (kNew_any _).mono ?_; rintro e w1 ⟨c, hc, rfl, hb1, S, mb, hcb, hS⟩; have H1 := Lib.hid (And.intro hcb (And.intro hS hb1)); clear hc hb1 hcb hS)
  go_loopw [4, 5, 6] (fun mv okv iv wr => ∃ (k : Nat) (l : List Hv) (a : Option Addr) (kc : Nat), mv = .slice a l.length kc ∧ okv = .bool true ∧ iv = .int .i64 (k : Int) ∧ k ≤ acts.length ∧ Bx w.heap.size wr c l a ∧ Below w.heap.size w wr) (fun _ _ iv _ => acts.length - (RowKit.intOf iv).toNat)
  case atStart =>
    have hb := H1.out.2.2.trans ((gAl w1 (.cells #[] 56)).mono H1.out.2.2.size)
    exact ⟨0, [], _, 0, rfl, rfl, rfl, Nat.zero_le _, ⟨S, _, (fun _ => False), mb, [], (H1.out.1.below (gAl w1 _)), rfl, heard0 _ _, fun b hb => hb.elim, H1.out.2.1⟩, hb⟩
  case round =>
    obtain ⟨k, l, a, kc, rfl, rfl, rfl, hk, hbx, hbel⟩ := hrel
    have HBX := Lib.hid hbx
    have HBEL := Lib.hid hbel
    clear hbx hbel
    by_cases hlt : k < acts.length
    · have hlti : (k : Int) < (acts.length : Int) := by omega
      have hk0 : (0 : Int) ≤ (k : Int) := by omega
      have hkw : IntKind.i64.wrap ((k : Int) + 1) = (k : Int) + 1 := by rw [IntKind.wrap_i64]; have := HLE.out; omega
      obtain ⟨b, o, rfl, hb, hat, hok⟩ := HA.out.at hlt
      obtain ⟨c0, c1, c2, c3⟩ := hat.below hb HBEL.out
      obtain ⟨S2, T2, U2, mb2, N2, hbo⟩ := HBX.out
      have HD := Lib.hid (does_any kc hbo HBEL.out.size acts[k].x acts[k].na acts[k].nc (hok.below HBEL.out))
      clear hat hok hbo hb
      generalize acts[k] = y at *
      go_wp2_with (first
        | (go_at_call 8; refine HD.out.mono ?_; rintro e w2 ⟨l2, a2, k2, hM, rfl, ⟨S3, T3, U3, mb3, N3, hbo3⟩, hb3⟩; have H3 := Lib.hid (And.intro hbo3 (HBEL.out.trans hb3)); clear hbo3 hb3 hM)
        | (go_at_call 9; refine (dIs_any _ H3.out.1).mono ?_; rintro e w4 ⟨rfl, hb4⟩; have H4 := Lib.hid (And.intro (H3.out.1.below hb4) (H3.out.2.trans (hb4.mono H3.out.2.size))); clear hb4))
      exact ⟨⟨k + 1, l2, a2, k2, rfl, rfl, congrArg (Value.int .i64) (by omega), hlt, ⟨_, _, _, _, _, H4.out.1⟩, H4.out.2⟩, by show acts.length - ((k : Int) + 1).toNat < acts.length - (k : Int).toNat; omega⟩
    · have hnk : ¬ (k : Int) < (acts.length : Int) := by omega
      go_wp2_with (go_at_call 10; refine (dAwake_any _).mono ?_; rintro e w5 ⟨rfl, hb5⟩; have HB5 := Lib.hid hb5; clear hb5)
      refine bodyPost_ret (v := .bool true) (by simp [results, Tryz.results3, go_sem]) rfl ?_
      exact ⟨rfl, HBEL.out.trans (HB5.out.mono HBEL.out.size)⟩
end Go.Proofs.YtjhmfmpaaljegaaGreat
