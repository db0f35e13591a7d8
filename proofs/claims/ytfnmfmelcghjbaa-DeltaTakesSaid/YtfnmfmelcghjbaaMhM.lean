/- Messages that come in: what a message argument holds. -/
import Derived.Test.YtfnmfmelcghjbaaMqA
import Derived.Test.YtfnmfmelcghjbaaMgG
import Derived.SizedLaws
namespace Go.Proofs.Ytfnmfmelcghjbaa
open Go.RowKit Go.Lib Go.Wq Go.Mq
set_option linter.unusedVariables false
set_option linter.unusedSimpArgs false
set_option maxRecDepth 100000

theorem stNews : St Try.prog 63 [(3, 0), (3, 1), (61, 2), (61, 3), (3, 4)] := ⟨_, Try.underlying63, by kernel_rfl⟩
theorem stPacket : St Try.prog 87 [(3, 0), (3, 1), (3, 2), (3, 3), (3, 4), (3, 5), (29, 6), (3, 7), (9, 8), (3, 9), (3, 10), (9, 11)] := ⟨_, Try.underlying87, by kernel_rfl⟩
theorem stMessage : St Try.prog 89 [(3, 0), (29, 1), (29, 2), (29, 3), (22, 4), (87, 5)] := ⟨_, Try.underlying89, by kernel_rfl⟩
theorem cInt : Try.prog.cellsOf 3 = 1 := by kernel_rfl
theorem cU64 : Try.prog.cellsOf 29 = 1 := by kernel_rfl
theorem cF64 : Try.prog.cellsOf 61 = 1 := by kernel_rfl
theorem cStr : Try.prog.cellsOf 9 = 1 := by kernel_rfl
theorem cNwS : Try.prog.cellsOf 22 = 1 := by kernel_rfl
theorem cNw : Try.prog.cellsOf 63 = 5 := by kernel_rfl
theorem cPkt : Try.prog.cellsOf 87 = 12 := by kernel_rfl
theorem cMsg : Try.prog.cellsOf 89 = 17 := by kernel_rfl
theorem bNw : Try.prog.bytesOf 63 = 40 := by kernel_rfl
section
variable {H : Type} {enc : TypeId × Value → H} {w : World} {spare : Nat → Bool} {held : Bool}
theorem in_int {n : Nat} {v : Value} {x : DataW H × List MemPlace} (h : DataW.trod enc Try.prog w 0 spare held n 3 [v] = some x) : ∃ z : Int, v = .int .i64 z ∧ -9223372036854775808 ≤ z ∧ z < 9223372036854775808 := by
  obtain ⟨u, hu, -, wu⟩ := DataW.trod_int Try.underlying3 h
  simp only [List.cons.injEq, and_true] at hu
  have := bounds_i64 wu
  exact ⟨u, hu, by omega, by omega⟩
theorem in_u64 {n : Nat} {v : Value} {x : DataW H × List MemPlace} (h : DataW.trod enc Try.prog w 0 spare held n 29 [v] = some x) : ∃ z : Nat, v = .int .u64 (z : Int) ∧ z < 2 ^ 64 := by
  obtain ⟨u, hu, -, wu⟩ := DataW.trod_int Try.underlying29 h
  simp only [List.cons.injEq, and_true] at hu
  have := bounds_u64 wu
  obtain ⟨un, rfl⟩ : ∃ un : Nat, u = (un : Int) := ⟨u.toNat, by omega⟩
  exact ⟨un, hu, by omega⟩
theorem in_f64 {n : Nat} {v : Value} {x : DataW H × List MemPlace} (h : DataW.trod enc Try.prog w 0 spare held n 61 [v] = some x) : ∃ z : Nat, v = .float .f64 z ∧ z < 2 ^ 64 := by
  obtain ⟨u, hu, -, wu⟩ := Go.Wq.trod_float Try.underlying61 h
  simp only [List.cons.injEq, and_true] at hu
  exact ⟨u, hu, of_decide_eq_true wu⟩
theorem in_str {n : Nat} {v : Value} {x : DataW H × List MemPlace} (h : DataW.trod enc Try.prog w 0 spare held n 9 [v] = some x) (hw : ∀ z ∈ x.1.weights Try.prog 9, z ≤ reachBytes) : ∃ s : ByteArray, v = .string s ∧ s.size ≤ reachBytes := by
  obtain ⟨s, hs, hsx, ws⟩ := DataW.trod_string Try.underlying9 h
  simp only [List.cons.injEq, and_true] at hs
  refine ⟨s, hs, ?_⟩
  have := hw s.data.toList.length (by rw [hsx]; simp [DataW.weights])
  rwa [Array.length_toList] at this
theorem in_slice {n : Nat} {v : Value} {x : DataW H × List MemPlace} (h : DataW.trod enc Try.prog w 0 spare held n 22 [v] = some x) : ∃ (a : Option Addr) (k c : Nat), v = .slice a k c := by
  rcases DataW.trod_slice Try.underlying22 h with ⟨h1, -⟩ | ⟨x0', len, cap, elems, rest, m', -, h1, -⟩
  · simp at h1; exact ⟨_, _, _, h1⟩
  · simp at h1; exact ⟨_, _, _, h1⟩
/-- One News that comes in. -/
theorem in_news {n : Nat} {cs : List Value} {d : DataW H} {q : List MemPlace} (h : DataW.trod enc Try.prog w 0 spare held n 63 cs = some (d, q)) : ∃ nw : Nw, cs = [.int .i64 nw.dest, .int .i64 nw.kind, .float .f64 nw.dist, .float .f64 nw.radius, .int .i64 nw.home] ∧ nw.Fit := by
  obtain ⟨xs, m, -, -, hcl, hxl, hat, -⟩ := stNews.opens h
  rw [cNw] at hcl
  match cs, hcl, xs, hxl with
  | [v0, v1, v2, v3, v4], _, [x0, x1, x2, x3, x4], _ =>
    have e0 := hat 0 (by simp)
    have e1 := hat 1 (by simp)
    have e2 := hat 2 (by simp)
    have e3 := hat 3 (by simp)
    have e4 := hat 4 (by simp)
    simp [cInt, cF64] at e0 e1 e2 e3 e4
    obtain ⟨a0, rfl, p0, q0⟩ := in_int e0
    obtain ⟨a1, rfl, p1, q1⟩ := in_int e1
    obtain ⟨a2, rfl, p2⟩ := in_f64 e2
    obtain ⟨a3, rfl, p3⟩ := in_f64 e3
    obtain ⟨a4, rfl, p4, q4⟩ := in_int e4
    exact ⟨⟨a0, a1, a2, a3, a4⟩, rfl, ⟨p0, q0⟩, ⟨p1, q1⟩, ⟨p4, q4⟩, p2, p3⟩
/-- News that come in. -/
theorem in_newses {n : Nat} {a : Option Addr} {k c : Nat} {x : DataW H × List MemPlace} (h : DataW.trod enc Try.prog w 0 spare held n 22 [.slice a k c] = some x) (hw : ∀ z ∈ x.1.weights Try.prog 22, z ≤ reachBytes) :
    ∃ l : List Nw, k = l.length ∧ NewsIn w w.heap.size l a ∧ (∀ y ∈ l, y.Fit) ∧ l.length * 40 ≤ reachBytes := by
  rcases open_slice (k := 5) Try.underlying22 cNw (by omega) h with h0 | ⟨m, b, o, el, sp, rfl, rfl, hb, he, hel, hel2⟩
  · exact ⟨[], by simpa using h0, Or.inl rfl, by simp, by simp⟩
  · rw [he] at hw
    obtain ⟨hq, hq2⟩ := weights_elem Try.underlying22 hw
    rw [bNw] at hq
    obtain ⟨l, hl, hl2⟩ := list_of (Q := fun i (y : Nw) => NwAt w b (o + i * 5) y ∧ y.Fit) el.length (fun i hi => by
      obtain ⟨cs, ps', hcl, hcc, htr⟩ := hel2 i hi
      obtain ⟨nw, rfl, hf⟩ := in_news htr
      have g := fun j hj => hcc j hj
      exact ⟨nw, ⟨g 0 (by simp), g 1 (by simp), g 2 (by simp), g 3 (by simp), g 4 (by simp)⟩, hf⟩)
    refine ⟨l, by omega, Or.inr ⟨b, o, rfl, hb, fun i hi => (hl2 i hi).1⟩, fun y hy => ?_, by have := Nat.mul_le_mul_right 40 (Nat.le_add_right el.length sp.length); omega⟩
    obtain ⟨i, hi, rfl⟩ := List.getElem_of_mem hy
    exact (hl2 i hi).2
/-- A message that comes in: its seventeen cells. -/
theorem in_msg {n : Nat} {cs : List Value} {d : DataW H} {q : List MemPlace} (h : DataW.trod enc Try.prog w 0 spare held n 89 cs = some (d, q)) (hw : ∀ z ∈ d.weights Try.prog 89, z ≤ reachBytes) :
    ∃ (k : Int) (nn ec sq : Nat) (l : List Nw) (na : Option Addr) (nc : Nat) (kd fr bk tw hm hp : Int) (sr : Nat) (cd : Int) (nm : ByteArray) (id at_ : Int) (bd : ByteArray),
      cs = [.int .i64 k, .int .u64 (nn : Int), .int .u64 (ec : Int), .int .u64 (sq : Int), .slice na l.length nc, .int .i64 kd, .int .i64 fr, .int .i64 bk, .int .i64 tw, .int .i64 hm, .int .i64 hp, .int .u64 (sr : Int), .int .i64 cd, .string nm, .int .i64 id, .int .i64 at_, .string bd] ∧
      NewsIn w w.heap.size l na ∧ Ms.Fit ⟨k, nn, ec, sq, l, ⟨kd, fr, bk, tw, hm, hp, sr, cd, nm, id, at_, bd⟩⟩ := by
  obtain ⟨xs, m, -, -, hcl, hxl, hat, hwt⟩ := stMessage.opens h
  have hR : reachBytes = 140737488351232 := rfl
  rw [cMsg] at hcl
  match cs, hcl, xs, hxl with
  | [v0, v1, v2, v3, v4, v5, v6, v7, v8, v9, v10, v11, v12, v13, v14, v15, v16], _, [x0, x1, x2, x3, x4, x5], _ =>
    have e0 := hat 0 (by simp)
    have e1 := hat 1 (by simp)
    have e2 := hat 2 (by simp)
    have e3 := hat 3 (by simp)
    have e4 := hat 4 (by simp)
    have e5 := hat 5 (by simp)
    simp [cInt, cU64, cNwS, cPkt] at e0 e1 e2 e3 e4 e5
    have w4 := hwt _ hw 4 (by simp) x4 rfl
    have w5 := hwt _ hw 5 (by simp) x5 rfl
    obtain ⟨a0, rfl, p0, q0⟩ := in_int e0
    obtain ⟨a1, rfl, p1⟩ := in_u64 e1
    obtain ⟨a2, rfl, p2⟩ := in_u64 e2
    obtain ⟨a3, rfl, p3⟩ := in_u64 e3
    obtain ⟨na, kk, nc, rfl⟩ := in_slice e4
    obtain ⟨l, rfl, hin, hfit, hl40⟩ := in_newses e4 w4
    obtain ⟨d5, q5⟩ := x5
    obtain ⟨ys, m', -, -, hcl', hyl, hat', hwt'⟩ := stPacket.opens e5
    match ys, hyl with
    | [y0, y1, y2, y3, y4, y5, y6, y7, y8, y9, y10, y11], _ =>
      have f0 := hat' 0 (by simp)
      have f1 := hat' 1 (by simp)
      have f2 := hat' 2 (by simp)
      have f3 := hat' 3 (by simp)
      have f4 := hat' 4 (by simp)
      have f5 := hat' 5 (by simp)
      have f6 := hat' 6 (by simp)
      have f7 := hat' 7 (by simp)
      have f8 := hat' 8 (by simp)
      have f9 := hat' 9 (by simp)
      have f10 := hat' 10 (by simp)
      have f11 := hat' 11 (by simp)
      simp [cInt, cU64, cStr] at f0 f1 f2 f3 f4 f5 f6 f7 f8 f9 f10 f11
      have w8 := hwt' _ w5 8 (by simp) y8 rfl
      have w11 := hwt' _ w5 11 (by simp) y11 rfl
      obtain ⟨b0, rfl, r0, t0⟩ := in_int f0
      obtain ⟨b1, rfl, r1, t1⟩ := in_int f1
      obtain ⟨b2, rfl, r2, t2⟩ := in_int f2
      obtain ⟨b3, rfl, r3, t3⟩ := in_int f3
      obtain ⟨b4, rfl, r4, t4⟩ := in_int f4
      obtain ⟨b5, rfl, r5, t5⟩ := in_int f5
      obtain ⟨b6, rfl, r6⟩ := in_u64 f6
      obtain ⟨b7, rfl, r7, t7⟩ := in_int f7
      obtain ⟨b8, rfl, r8⟩ := in_str f8 w8
      obtain ⟨b9, rfl, r9, t9⟩ := in_int f9
      obtain ⟨b10, rfl, r10, t10⟩ := in_int f10
      obtain ⟨b11, rfl, r11⟩ := in_str f11 w11
      exact ⟨a0, a1, a2, a3, l, na, nc, b0, b1, b2, b3, b4, b5, b6, b7, b8, b9, b10, b11, rfl, hin,
        { k := ⟨p0, q0⟩, n := p1, e := p2, s := p3, news := hfit, len := by simp; omega, pk := ⟨r0, t0⟩, pf := ⟨r1, t1⟩, pb := ⟨r2, t2⟩, pt := ⟨r3, t3⟩, ph := ⟨r4, t4⟩, po := ⟨r5, t5⟩, ps := r6, pc := ⟨r7, t7⟩, pi := ⟨r9, t9⟩, pa := ⟨r10, t10⟩, nm := by simp; omega, bd := by simp; omega }⟩
end
end Go.Proofs.Ytfnmfmelcghjbaa
