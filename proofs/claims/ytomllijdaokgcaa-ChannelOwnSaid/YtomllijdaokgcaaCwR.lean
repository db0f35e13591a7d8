/- Channel: the law of own memory. -/
import Derived.Test.YtomllijdaokgcaaCwQ
import Derived.Test.YtomllijdaokgcaaCwM
namespace Go.Proofs.Ytomllijdaokgcaa
open Go.RowKit Go.Lib Go.Ow Go.Cw Go.Cq
set_option linter.unusedVariables false
set_option linter.unusedSimpArgs false
set_option maxRecDepth 100000

/-- A flight, and a row of another's that is spoilt. -/
structure Sp (w : World) (fb r : Nat) (l : List Gm) (rb : Nat) (v : Value) (V : World) : Prop where
  fl : Fl V fb r l
  bel : Below w.heap.size w V
  row : ∃ xs, Rw V rb 35 4 v l.length xs
  low : w.heap.size ≤ rb
  ne : 0 < l.length → rb ≠ fb ∧ rb ≠ r
theorem Sp.below {w V V' : World} {fb r rb : Nat} {l : List Gm} {v : Value} (h : Sp w fb r l rb v V) (k : Below V.heap.size V V') : Sp w fb r l rb v V' := by
  obtain ⟨xs, hr⟩ := h.row
  exact ⟨h.fl.below k, gNx h.bel k, ⟨xs, hr.below k⟩, h.low, h.ne⟩
theorem Sp.mk' {w V V' : World} {fb r rb : Nat} {l : List Gm} {v : Value} (hf : Fl V fb r l) (hb : Below w.heap.size w V) (k : Below V.heap.size V V') (hr : V.heap.size ≤ rb) (hrow : Rw V' rb 35 4 v l.length (gmRow l)) : Sp w fb r l rb v V' :=
  ⟨hf.below k, gNx hb k, ⟨_, hrow⟩, Nat.le_trans hb.size hr, fun _ => ⟨by have := hf.low; omega, by have := hf.rl; omega⟩⟩
theorem Sp.addr {w V : World} {fb r rb : Nat} {l : List Gm} {a : Option Addr} {n c k : Nat} (h : Sp w fb r l rb (.slice a n c) V) (hl : k < l.length) : ∃ o, a = some ⟨rb, o, none⟩ := by
  obtain ⟨xs, hr⟩ := h.row
  obtain ⟨o, cap, e, -⟩ := hr.at (by omega)
  cases e
  exact ⟨o, rfl⟩
theorem Sp.cells {w V : World} {fb r rb : Nat} {l : List Gm} {o n c k : Nat} (h : Sp w fb r l rb (.slice (some ⟨rb, o, none⟩) n c) V) (hk : k < l.length) : (∃ u, V.cell? ⟨rb, o + k * 4, none⟩ = some u) ∧ (∃ u, V.cell? ⟨rb, o + k * 4 + 1, none⟩ = some u) ∧ (∃ u, V.cell? ⟨rb, o + k * 4 + 2, none⟩ = some u) ∧ (∃ u, V.cell? ⟨rb, o + k * 4 + 3, none⟩ = some u) ∧ V.frozen? ⟨rb, o + k * 4, none⟩ = false ∧ V.frozen? ⟨rb, o + k * 4 + 1, none⟩ = false ∧ V.frozen? ⟨rb, o + k * 4 + 2, none⟩ = false ∧ V.frozen? ⟨rb, o + k * 4 + 3, none⟩ = false := by
  obtain ⟨xs, hr⟩ := h.row
  obtain ⟨o2, cap, e, -, -, -, -, hth, -⟩ := hr.at (by omega)
  simp only [Value.slice.injEq, Option.some.injEq, Addr.mk.injEq, and_true, true_and] at e
  obtain ⟨rfl, rfl, rfl⟩ := e
  have g := fun j (hj : j < 4) => hth (k * 4 + j) (by omega)
  refine ⟨Option.isSome_iff_exists.1 (g 0 (by omega)).1, ?_, ?_, ?_, (g 0 (by omega)).2, ?_, ?_, ?_⟩
  · rw [Nat.add_assoc]; exact Option.isSome_iff_exists.1 (g 1 (by omega)).1
  · rw [Nat.add_assoc]; exact Option.isSome_iff_exists.1 (g 2 (by omega)).1
  · rw [Nat.add_assoc]; exact Option.isSome_iff_exists.1 (g 3 (by omega)).1
  · rw [Nat.add_assoc]; exact (g 1 (by omega)).2
  · rw [Nat.add_assoc]; exact (g 2 (by omega)).2
  · rw [Nat.add_assoc]; exact (g 3 (by omega)).2
theorem Sp.store {w V : World} {fb r rb : Nat} {l : List Gm} {o n c k : Nat} (h : Sp w fb r l rb (.slice (some ⟨rb, o, none⟩) n c) V) (x y : Int) (s : ByteArray) (t : Int) (hk : k < l.length) :
    Sp w fb r l rb (.slice (some ⟨rb, o, none⟩) n c) ((((V.setCell ⟨rb, o + k * 4, none⟩ (.int .i64 x)).setCell ⟨rb, o + k * 4 + 1, none⟩ (.int .i64 y)).setCell ⟨rb, o + k * 4 + 2, none⟩ (.string s)).setCell ⟨rb, o + k * 4 + 3, none⟩ (.int .i64 t)) := by
  rw [← gm_sets]
  obtain ⟨xs, hr⟩ := h.row
  obtain ⟨hn1, hn2⟩ := h.ne (by omega)
  obtain ⟨f1, f2, f3⟩ := setCells_frame rb (gmC ⟨x, y, s, t⟩) (o + k * 4) V
  have hoth := setCells_other rb (gmC ⟨x, y, s, t⟩) (o + k * 4) V
  have hsz := setCells_size rb (gmC ⟨x, y, s, t⟩) (o + k * 4) V
  have hlow := h.low
  have hn : n = l.length := by
    obtain ⟨_, _, e, -⟩ := hr.at (by omega)
    cases e; rfl
  subst hn
  have hov := hr.over (by omega) (k * 4) (gmC ⟨x, y, s, t⟩) (by rw [gmC_len]; omega)
  exact ⟨h.fl.keep (by rw [hsz]; exact Nat.le_refl _) (hoth fb (Ne.symm hn1)) (fun _ => hoth r (Ne.symm hn2)), ⟨f1.trans h.bel.os, f2.trans h.bel.tape, f3.trans h.bel.output, by rw [hsz]; exact h.bel.size, fun j hj => (hoth j (by omega)).trans (h.bel.block j hj)⟩, ⟨_, hov⟩, h.low, h.ne⟩
/-- A flight, and a row of integers of another's that is spoilt. -/
structure Si (w : World) (fb r : Nat) (l : List Gm) (rb : Nat) (v : Value) (n : Nat) (V : World) : Prop where
  fl : Fl V fb r l
  bel : Below w.heap.size w V
  row : ∃ xs, Rw V rb 3 1 v n xs
  low : w.heap.size ≤ rb
  ne : rb ≠ fb ∧ rb ≠ r
theorem Si.mk' {w V V' : World} {fb r rb n : Nat} {l : List Gm} {v : Value} {xs : List Value} (hf : Fl V fb r l) (hb : Below w.heap.size w V) (k : Below V.heap.size V V') (hr : V.heap.size ≤ rb) (hrow : Rw V' rb 3 1 v n xs) : Si w fb r l rb v n V' :=
  ⟨hf.below k, gNx hb k, ⟨_, hrow⟩, Nat.le_trans hb.size hr, ⟨by have := hf.low; omega, by have := hf.rl; omega⟩⟩
theorem Si.addr {w V : World} {fb r rb : Nat} {l : List Gm} {a : Option Addr} {n m c k : Nat} (h : Si w fb r l rb (.slice a m c) n V) (hl : k < n) : ∃ o, a = some ⟨rb, o, none⟩ := by
  obtain ⟨xs, hr⟩ := h.row
  obtain ⟨o, cap, e, -⟩ := hr.at (by omega)
  cases e
  exact ⟨o, rfl⟩
theorem Si.cells {w V : World} {fb r rb : Nat} {l : List Gm} {o n m c k : Nat} (h : Si w fb r l rb (.slice (some ⟨rb, o, none⟩) m c) n V) (hk : k < n) : (∃ u, V.cell? ⟨rb, o + k, none⟩ = some u) ∧ V.frozen? ⟨rb, o + k, none⟩ = false := by
  obtain ⟨xs, hr⟩ := h.row
  obtain ⟨o2, cap, e, -, -, -, -, hth, -⟩ := hr.at (by omega)
  simp only [Value.slice.injEq, Option.some.injEq, Addr.mk.injEq, and_true, true_and] at e
  obtain ⟨rfl, rfl, rfl⟩ := e
  have g := hth k (by omega)
  exact ⟨Option.isSome_iff_exists.1 g.1, g.2⟩
theorem Si.store {w V : World} {fb r rb : Nat} {l : List Gm} {o n m c k : Nat} (h : Si w fb r l rb (.slice (some ⟨rb, o, none⟩) m c) n V) (x : Int) (hk : k < n) :
    Si w fb r l rb (.slice (some ⟨rb, o, none⟩) m c) n (V.setCell ⟨rb, o + k, none⟩ (.int .i64 x)) := by
  obtain ⟨xs, hr⟩ := h.row
  obtain ⟨hn1, hn2⟩ := h.ne
  have hlow := h.low
  have hm : m = n := by
    obtain ⟨_, _, e, -⟩ := hr.at (by omega)
    cases e; rfl
  subst hm
  exact ⟨h.fl.keep (by simp [World.setCell]) (Below.heap_setCell _ _ _ _ (Ne.symm hn1)) (fun _ => Below.heap_setCell _ _ _ _ (Ne.symm hn2)), ⟨h.bel.os, h.bel.tape, h.bel.output, by simpa [World.setCell] using h.bel.size, fun j hj => (Below.heap_setCell _ _ _ _ (by show j ≠ rb; omega)).trans (h.bel.block j hj)⟩, ⟨_, hr.set (by omega) k _ (by omega)⟩, h.low, h.ne⟩
set_option maxHeartbeats 16000000 in
theorem law_cown (l : List Gm) (a : Option Addr) (c : Nat) (w : World) (hin : GmsOk w l a) :
    Calls Try.prog 7 #[.slice a l.length c] w fun e w' => e = .returned (.bool true) ∧ Below w.heap.size w w' := by
  obtain ⟨b, hg⟩ := hin.rows
  have HGS := Lib.hid (fun V (hV : Below w.heap.size w V) => hg.below hV)
  have HL : Hid (l.length * 40 ≤ 140737488355328) := Lib.hid (by have := hin.n1; omega)
  have H1 := Lib.hid (rCopy_any l b a c w hg HL.out)
  clear hin hg
  go_enter Try.func7, Try.ntmps7
  go_wp2_with fail
  refine H1.out.mono ?_
  rintro e w1 ⟨hb1, v1, r1, rfl, hr1, hrow1⟩
  obtain ⟨a1, c1, rfl⟩ := hrow1.slice
  have HB1 := Lib.hid hb1
  have HR1 := Lib.hid hr1
  have HW1 := Lib.hid hrow1
  have H2 := Lib.hid (load_any l r1 a1 c1 w1 (rw_gs hrow1) HL.out)
  clear hb1 hr1 hrow1 H1
  go_wp2_with fail
  refine H2.out.mono ?_
  rintro e w2 (⟨hz, fb, rfl, hm⟩ | ⟨hnz, rfl, hb2⟩)
  · obtain ⟨hfb, hb2, r, hr, hfl⟩ := hm
    have HS1 : Hid (Sp w fb r l r1 (.slice a1 l.length c1) w2) := Lib.hid ⟨hfl, gNx HB1.out hb2, ⟨_, HW1.out.below hb2⟩, HR1.out, fun h0 => by
      obtain ⟨_, _, _, _, h9, -⟩ := HW1.out.at h0
      exact ⟨by omega, by omega⟩⟩
    clear hz hfb hb2 hr hfl H2
    go_wp2_with fail
    go_loopw [6] (fun ii wr => ∃ k : Nat, ii = .int .i64 (k : Int) ∧ k ≤ l.length ∧ Sp w fb r l r1 (.slice a1 l.length c1) wr) (fun ii _ => l.length - (RowKit.intOf ii).toNat)
    case atStart => exact ⟨0, rfl, Nat.zero_le _, HS1.out⟩
    case round =>
      obtain ⟨k, rfl, hk, hsp⟩ := hrel
      obtain ⟨wo, hwo⟩ : ∃ wo, wo = wr := ⟨_, rfl⟩
      subst hwo
      have HSP := Lib.hid hsp
      by_cases hlt : k < l.length
      · have hlti : (k : Int) < (l.length : Int) := by omega
        have hk0 : (0 : Int) ≤ (k : Int) := by omega
        have hkw : IntKind.i64.wrap ((k : Int) + 1) = (k : Int) + 1 := by rw [IntKind.wrap_i64]; have := HL.out; omega
        have HNX : Hid (∀ (V : World), Sp w fb r l r1 (.slice a1 l.length c1) V → (∃ k' : Nat, Value.int .i64 ((k : Int) + 1) = .int .i64 (k' : Int) ∧ k' ≤ l.length ∧ Sp w fb r l r1 (.slice a1 l.length c1) V) ∧ l.length - (RowKit.intOf (Value.int .i64 ((k : Int) + 1))).toNat < l.length - (RowKit.intOf (Value.int .i64 (k : Int))).toNat) := Lib.hid (fun V h1 => by
          refine ⟨⟨k + 1, congrArg (Value.int .i64) (by omega), by omega, h1⟩, ?_⟩
          show l.length - ((k : Int) + 1).toNat < l.length - (k : Int).toNat
          omega)
        have HKL := Lib.hid hlt
        obtain ⟨o, rfl⟩ := hsp.addr hlt
        clear hlt hk hsp
        go_wp2_with fail
        refine (gram_any _ wo).mono ?_
        rintro e w3 ⟨rfl, hb3⟩
        have hs3 := HSP.out.below hb3
        obtain ⟨⟨u0, q0⟩, ⟨u1, q1⟩, ⟨u2, q2⟩, ⟨u3, q3⟩, f0, f1, f2, f3⟩ := hs3.cells HKL.out
        have HW := Lib.hid (hs3.store 1 2 ⟨#[115, 112, 111, 105, 108, 116]⟩ 0 HKL.out)
        clear hb3 hs3
        go_wp2_with fail
        exact HNX.out _ HW.out
      · have hnk : ¬ (k : Int) < (l.length : Int) := by omega
        have HF := Lib.hid hsp.fl
        have HBW := Lib.hid hsp.bel
        clear hlt hk hsp HSP
        go_wp2_with fail
        go_loopw [7] (fun ii wr => ∃ q : Nat, ii = .int .i64 (q : Int) ∧ q ≤ 2 ∧ Fl wr fb r l ∧ Below w.heap.size w wr) (fun ii _ => 2 - (RowKit.intOf ii).toNat)
        case atStart => exact ⟨0, rfl, Nat.zero_le _, HF.out, HBW.out⟩
        case round =>
          clear HF HBW
          obtain ⟨q, rfl, hq, hfl, hbel⟩ := hrel
          obtain ⟨wq, hwq⟩ : ∃ wq, wq = wr := ⟨_, rfl⟩
          subst hwq
          have HF := Lib.hid hfl
          have HBW := Lib.hid hbel
          clear hfl hbel
          by_cases hlt : q < 2
          · have hlti : (q : Int) < 2 := by omega
            have hqw : IntKind.i64.wrap ((q : Int) + 1) = (q : Int) + 1 := by rw [IntKind.wrap_i64]; omega
            have HNQ : Hid (∀ (V : World), Fl V fb r l → Below w.heap.size w V → (∃ q' : Nat, Value.int .i64 ((q : Int) + 1) = .int .i64 (q' : Int) ∧ q' ≤ 2 ∧ Fl V fb r l ∧ Below w.heap.size w V) ∧ 2 - (RowKit.intOf (Value.int .i64 ((q : Int) + 1))).toNat < 2 - (RowKit.intOf (Value.int .i64 (q : Int))).toNat) := Lib.hid (fun V h1 h2 => by
              refine ⟨⟨q + 1, congrArg (Value.int .i64) (by omega), by omega, h1, h2⟩, ?_⟩
              show 2 - ((q : Int) + 1).toNat < 2 - (q : Int).toNat
              omega)
            have HI := Lib.hid (is_any wq fb r l HF.out b a c (HGS.out wq HBW.out))
            clear hlt hq
            go_wp2_with fail
            refine HI.out.mono ?_
            rintro e w4 ⟨rfl, hb4⟩
            have HF4 := Lib.hid (HF.out.below hb4)
            have HB4 := Lib.hid (gNx HBW.out hb4)
            clear hb4 HI HF HBW
            go_wp2_with fail
            refine (all_any w4 fb r l HF4.out).mono ?_
            rintro e w5 ⟨hb5, v5, r5, rfl, hr5, hrow5⟩
            obtain ⟨a5, c5, rfl⟩ := hrow5.slice
            have HS5 : Hid (Sp w fb r l r5 (.slice a5 l.length c5) w5) := Lib.hid (Sp.mk' HF4.out HB4.out hb5 hr5 hrow5)
            clear hb5 hr5 hrow5
            go_wp2_with fail
            go_loopw [9] (fun ii wr => ∃ k : Nat, ii = .int .i64 (k : Int) ∧ k ≤ l.length ∧ Sp w fb r l r5 (.slice a5 l.length c5) wr) (fun ii _ => l.length - (RowKit.intOf ii).toNat)
            case atStart => exact ⟨0, rfl, Nat.zero_le _, HS5.out⟩
            case round =>
              obtain ⟨k, rfl, hk, hsp⟩ := hrel
              obtain ⟨wo, hwo⟩ : ∃ wo, wo = wr := ⟨_, rfl⟩
              subst hwo
              have HSP := Lib.hid hsp
              by_cases hlt : k < l.length
              · have hlti : (k : Int) < (l.length : Int) := by omega
                have hk0 : (0 : Int) ≤ (k : Int) := by omega
                have hkw : IntKind.i64.wrap ((k : Int) + 1) = (k : Int) + 1 := by rw [IntKind.wrap_i64]; have := HL.out; omega
                have HNX : Hid (∀ (V : World), Sp w fb r l r5 (.slice a5 l.length c5) V → (∃ k' : Nat, Value.int .i64 ((k : Int) + 1) = .int .i64 (k' : Int) ∧ k' ≤ l.length ∧ Sp w fb r l r5 (.slice a5 l.length c5) V) ∧ l.length - (RowKit.intOf (Value.int .i64 ((k : Int) + 1))).toNat < l.length - (RowKit.intOf (Value.int .i64 (k : Int))).toNat) := Lib.hid (fun V h1 => by
                  refine ⟨⟨k + 1, congrArg (Value.int .i64) (by omega), by omega, h1⟩, ?_⟩
                  show l.length - ((k : Int) + 1).toNat < l.length - (k : Int).toNat
                  omega)
                have HKL := Lib.hid hlt
                obtain ⟨o, rfl⟩ := hsp.addr hlt
                clear hlt hk hsp
                go_wp2_with fail
                refine (gram_any _ wo).mono ?_
                rintro e w3 ⟨rfl, hb3⟩
                have hs3 := HSP.out.below hb3
                obtain ⟨⟨u0, q0⟩, ⟨u1, q1⟩, ⟨u2, q2⟩, ⟨u3, q3⟩, f0, f1, f2, f3⟩ := hs3.cells HKL.out
                have HW := Lib.hid (hs3.store 1 2 ⟨#[115, 112, 111, 105, 108, 116]⟩ 0 HKL.out)
                clear hb3 hs3
                go_wp2_with fail
                exact HNX.out _ HW.out
              · have hnk : ¬ (k : Int) < (l.length : Int) := by omega
                have HF := Lib.hid hsp.fl
                have HBW := Lib.hid hsp.bel
                clear hlt hk hsp HSP
                go_wp2_with fail
                have H6 := Lib.hid (ready_any _ fb r l HF.out)
                go_wp2_with fail
                refine H6.out.mono ?_
                rintro e w6 ⟨hb6, v6, r6, rfl, hr6, hrow6⟩
                obtain ⟨a6, c6, rfl⟩ := hrow6.slice
                have HXL : Hid ((readyL l).length ≤ l.length) := Lib.hid (readyK_len l _)
                have HS6 : Hid (Si w fb r l r6 (.slice a6 (readyL l).length c6) (readyL l).length w6) := Lib.hid (Si.mk' HF.out HBW.out hb6 hr6 hrow6)
                clear hb6 hr6 hrow6 H6
                generalize readyL l = xs at *
                go_wp2_with fail
                go_loopw [11] (fun ii wr => ∃ k : Nat, ii = .int .i64 (k : Int) ∧ k ≤ xs.length ∧ Si w fb r l r6 (.slice a6 xs.length c6) xs.length wr) (fun ii _ => xs.length - (RowKit.intOf ii).toNat)
                case atStart => exact ⟨0, rfl, Nat.zero_le _, HS6.out⟩
                case round =>
                  obtain ⟨k, rfl, hk, hsp⟩ := hrel
                  obtain ⟨wo, hwo⟩ : ∃ wo, wo = wr := ⟨_, rfl⟩
                  subst hwo
                  by_cases hlt : k < xs.length
                  · have hlti : (k : Int) < (xs.length : Int) := by omega
                    have hk0 : (0 : Int) ≤ (k : Int) := by omega
                    have hkw : IntKind.i64.wrap ((k : Int) + 1) = (k : Int) + 1 := by rw [IntKind.wrap_i64]; have := HL.out; have := HXL.out; omega
                    have HNK : Hid (∀ (V : World), Si w fb r l r6 (.slice a6 xs.length c6) xs.length V → (∃ k' : Nat, Value.int .i64 ((k : Int) + 1) = .int .i64 (k' : Int) ∧ k' ≤ xs.length ∧ Si w fb r l r6 (.slice a6 xs.length c6) xs.length V) ∧ xs.length - (RowKit.intOf (Value.int .i64 ((k : Int) + 1))).toNat < xs.length - (RowKit.intOf (Value.int .i64 (k : Int))).toNat) := Lib.hid (fun V h1 => by
                      refine ⟨⟨k + 1, congrArg (Value.int .i64) (by omega), by omega, h1⟩, ?_⟩
                      show xs.length - ((k : Int) + 1).toNat < xs.length - (k : Int).toNat
                      omega)
                    obtain ⟨o, rfl⟩ := hsp.addr hlt
                    obtain ⟨⟨u0, q0⟩, f0⟩ := hsp.cells hlt
                    have HW := Lib.hid (hsp.store (-7) hlt)
                    clear hlt hk hsp
                    go_wp2_with fail
                    exact HNK.out _ HW.out
                  · have hnk : ¬ (k : Int) < (xs.length : Int) := by omega
                    have HF := Lib.hid hsp.fl
                    have HBW := Lib.hid hsp.bel
                    clear hlt hk hsp
                    go_wp2_with fail
                    exact HNQ.out _ HF.out HBW.out

          · have hnq : ¬ (q : Int) < 2 := by omega
            clear hlt hq
            go_wp2_with fail
            go_loopw [12] (fun ii wr => ∃ q : Nat, ii = .int .i64 (q : Int) ∧ q ≤ 2 ∧ Below w.heap.size w wr) (fun ii _ => 2 - (RowKit.intOf ii).toNat)
            case atStart => exact ⟨0, rfl, Nat.zero_le _, HBW.out⟩
            case round =>
              obtain ⟨q, rfl, hq, hbel⟩ := hrel
              obtain ⟨wq, hwq⟩ : ∃ wq, wq = wr := ⟨_, rfl⟩
              subst hwq
              have HB := Lib.hid hbel
              clear hbel
              by_cases hlt : q < 2
              · have hlti : (q : Int) < 2 := by omega
                have hqw : IntKind.i64.wrap ((q : Int) + 1) = (q : Int) + 1 := by rw [IntKind.wrap_i64]; omega
                have HNX : Hid (∀ (V : World), Below w.heap.size w V → (∃ q' : Nat, Value.int .i64 ((q : Int) + 1) = .int .i64 (q' : Int) ∧ q' ≤ 2 ∧ Below w.heap.size w V) ∧ 2 - (RowKit.intOf (Value.int .i64 ((q : Int) + 1))).toNat < 2 - (RowKit.intOf (Value.int .i64 (q : Int))).toNat) := Lib.hid (fun V h1 => by
                  refine ⟨⟨q + 1, congrArg (Value.int .i64) (by omega), by omega, h1⟩, ?_⟩
                  show 2 - ((q : Int) + 1).toNat < 2 - (q : Int).toNat
                  omega)
                by_cases h0 : q = 0
                · have hq1 : ((q : Int) == 1) = false := by subst h0; rfl
                  have HG : Hid (∀ V, Below wq.heap.size wq V → Calls Try.prog 30 #[.pointer none] V fun e w' => e = .returned (.bool false) ∧ w' = V) := Lib.hid (fun V _ => isGiven_nil V)
                  have HBZ : Hid (∀ V, Below wq.heap.size wq V → Below w.heap.size w V) := Lib.hid (fun V hV => gNx HB.out hV)
                  clear hlt h0 hq
                  go_upto_region 29 with (fail)
                  go_wp2_with fail
                  refine (bad_take _ wq HG.out 0).mono ?_
                  rintro e w3 ⟨rfl, hb3⟩
                  have C3 := Lib.hid hb3
                  clear hb3
                  go_wp2_with fail
                  refine (bad_do _ _ (fun V hV => HG.out V (gNx C3.out (gNx (gAl _ _) hV))) 6 0 0).mono ?_
                  rintro e w4 ⟨rfl, hb4⟩
                  have C4 := Lib.hid (gNx C3.out (gNx (gAl _ _) hb4))
                  clear hb4
                  go_wp2_with fail
                  refine (gram_any _ _).mono ?_
                  rintro e w5 ⟨rfl, hb5⟩
                  have C5 := Lib.hid (gNx C4.out (gNx (gAl _ _) hb5))
                  clear hb5
                  go_wp2_with fail
                  refine (bad_put _ w5 (fun V hV => HG.out V (gNx C5.out hV)) 1 2 _ 0).mono ?_
                  rintro e w6 ⟨rfl, hb6⟩
                  have C6 := Lib.hid (gNx C5.out hb6)
                  clear hb6
                  go_wp2_with fail
                  refine (bad_len _ w6 (fun V hV => HG.out V (gNx C6.out hV))).mono ?_
                  rintro e w7 ⟨rfl, hb7⟩
                  have C7 := Lib.hid (gNx C6.out hb7)
                  clear hb7
                  go_wp2_with fail
                  refine (bad_all _ w7 (fun V hV => HG.out V (gNx C7.out hV))).mono ?_
                  rintro e w8 ⟨rfl, hb8⟩
                  have C8 := Lib.hid (gNx C7.out hb8)
                  clear hb8
                  go_wp2_with fail
                  refine (bad_ready _ w8 (fun V hV => HG.out V (gNx C8.out hV))).mono ?_
                  rintro e w9 ⟨rfl, hb9⟩
                  have C9 := Lib.hid (gNx C8.out hb9)
                  clear hb9
                  go_wp2_with fail
                  exact HNX.out _ (HBZ.out _ C9.out)

                · have hq1 : ((q : Int) == 1) = true := by
                    obtain rfl : q = 1 := by omega
                    rfl
                  obtain ⟨wz, hwz⟩ : ∃ wz, wz = wq.alloc (.cells #[.pointer none, .slice none 0 0] 55) := ⟨_, rfl⟩
                  have hbz : Below wq.heap.size wq wz := by rw [hwz]; exact gAl _ _
                  have hrz : wz.heap[wq.heap.size]? = some (.cells #[.pointer none, .slice none 0 0] 55 (0, 0)) := by rw [hwz]; exact heap_alloc_new wq _
                  have hsz : wq.heap.size < wz.heap.size := by rw [hwz]; simp
                  have HG : Hid (∀ V, Below wz.heap.size wz V → Calls Try.prog 30 #[.pointer (some ⟨wq.heap.size, 0, none⟩)] V fun e w' => e = .returned (.bool false) ∧ w' = V) := Lib.hid (fun V hV => isGiven_not V wq.heap.size _ ((hV.block _ hsz).trans hrz))
                  have HBZ : Hid (∀ V, Below wz.heap.size wz V → Below w.heap.size w V) := Lib.hid (fun V hV => gNx HB.out (gNx hbz hV))
                  have HWZ := Lib.hid hwz
                  clear hlt h0 hq hwz hbz hrz hsz
                  go_upto_region 29 with (fail)
                  rw [← HWZ.out]
                  go_wp2_with fail
                  refine (bad_take _ wz HG.out 0).mono ?_
                  rintro e w3 ⟨rfl, hb3⟩
                  have C3 := Lib.hid hb3
                  clear hb3
                  go_wp2_with fail
                  refine (bad_do _ _ (fun V hV => HG.out V (gNx C3.out (gNx (gAl _ _) hV))) 6 0 0).mono ?_
                  rintro e w4 ⟨rfl, hb4⟩
                  have C4 := Lib.hid (gNx C3.out (gNx (gAl _ _) hb4))
                  clear hb4
                  go_wp2_with fail
                  refine (gram_any _ _).mono ?_
                  rintro e w5 ⟨rfl, hb5⟩
                  have C5 := Lib.hid (gNx C4.out (gNx (gAl _ _) hb5))
                  clear hb5
                  go_wp2_with fail
                  refine (bad_put _ w5 (fun V hV => HG.out V (gNx C5.out hV)) 1 2 _ 0).mono ?_
                  rintro e w6 ⟨rfl, hb6⟩
                  have C6 := Lib.hid (gNx C5.out hb6)
                  clear hb6
                  go_wp2_with fail
                  refine (bad_len _ w6 (fun V hV => HG.out V (gNx C6.out hV))).mono ?_
                  rintro e w7 ⟨rfl, hb7⟩
                  have C7 := Lib.hid (gNx C6.out hb7)
                  clear hb7
                  go_wp2_with fail
                  refine (bad_all _ w7 (fun V hV => HG.out V (gNx C7.out hV))).mono ?_
                  rintro e w8 ⟨rfl, hb8⟩
                  have C8 := Lib.hid (gNx C7.out hb8)
                  clear hb8
                  go_wp2_with fail
                  refine (bad_ready _ w8 (fun V hV => HG.out V (gNx C8.out hV))).mono ?_
                  rintro e w9 ⟨rfl, hb9⟩
                  have C9 := Lib.hid (gNx C8.out hb9)
                  clear hb9
                  go_wp2_with fail
                  exact HNX.out _ (HBZ.out _ C9.out)

              · have hnq : ¬ (q : Int) < 2 := by omega
                clear hlt hq
                go_wp2_with fail
                refine (awake_any wq).mono ?_
                rintro e w5 ⟨rfl, hb5⟩
                have HB5 := Lib.hid (gNx HB.out hb5)
                clear hb5
                go_wp2_with fail
                go_ret
                exact ⟨rfl, HB5.out⟩

  · have HB2 := Lib.hid (gNx HB1.out hb2)
    obtain ⟨E, hE⟩ : ∃ E, E = loadE l := ⟨_, rfl⟩
    rw [← hE] at hnz ⊢
    have hz : (E == 0) = false := by simpa using hnz
    clear hnz hE hb2 H2
    go_wp2_with fail
    go_loopw [12] (fun ii wr => ∃ q : Nat, ii = .int .i64 (q : Int) ∧ q ≤ 2 ∧ Below w.heap.size w wr) (fun ii _ => 2 - (RowKit.intOf ii).toNat)
    case atStart => exact ⟨0, rfl, Nat.zero_le _, HB2.out⟩
    case round =>
      obtain ⟨q, rfl, hq, hbel⟩ := hrel
      obtain ⟨wq, hwq⟩ : ∃ wq, wq = wr := ⟨_, rfl⟩
      subst hwq
      have HB := Lib.hid hbel
      clear hbel
      by_cases hlt : q < 2
      · have hlti : (q : Int) < 2 := by omega
        have hqw : IntKind.i64.wrap ((q : Int) + 1) = (q : Int) + 1 := by rw [IntKind.wrap_i64]; omega
        have HNX : Hid (∀ (V : World), Below w.heap.size w V → (∃ q' : Nat, Value.int .i64 ((q : Int) + 1) = .int .i64 (q' : Int) ∧ q' ≤ 2 ∧ Below w.heap.size w V) ∧ 2 - (RowKit.intOf (Value.int .i64 ((q : Int) + 1))).toNat < 2 - (RowKit.intOf (Value.int .i64 (q : Int))).toNat) := Lib.hid (fun V h1 => by
          refine ⟨⟨q + 1, congrArg (Value.int .i64) (by omega), by omega, h1⟩, ?_⟩
          show 2 - ((q : Int) + 1).toNat < 2 - (q : Int).toNat
          omega)
        by_cases h0 : q = 0
        · have hq1 : ((q : Int) == 1) = false := by subst h0; rfl
          have HG : Hid (∀ V, Below wq.heap.size wq V → Calls Try.prog 30 #[.pointer none] V fun e w' => e = .returned (.bool false) ∧ w' = V) := Lib.hid (fun V _ => isGiven_nil V)
          have HBZ : Hid (∀ V, Below wq.heap.size wq V → Below w.heap.size w V) := Lib.hid (fun V hV => gNx HB.out hV)
          clear hlt h0 hq
          go_upto_region 29 with (fail)
          go_wp2_with fail
          refine (bad_take _ wq HG.out 0).mono ?_
          rintro e w3 ⟨rfl, hb3⟩
          have C3 := Lib.hid hb3
          clear hb3
          go_wp2_with fail
          refine (bad_do _ _ (fun V hV => HG.out V (gNx C3.out (gNx (gAl _ _) hV))) 6 0 0).mono ?_
          rintro e w4 ⟨rfl, hb4⟩
          have C4 := Lib.hid (gNx C3.out (gNx (gAl _ _) hb4))
          clear hb4
          go_wp2_with fail
          refine (gram_any _ _).mono ?_
          rintro e w5 ⟨rfl, hb5⟩
          have C5 := Lib.hid (gNx C4.out (gNx (gAl _ _) hb5))
          clear hb5
          go_wp2_with fail
          refine (bad_put _ w5 (fun V hV => HG.out V (gNx C5.out hV)) 1 2 _ 0).mono ?_
          rintro e w6 ⟨rfl, hb6⟩
          have C6 := Lib.hid (gNx C5.out hb6)
          clear hb6
          go_wp2_with fail
          refine (bad_len _ w6 (fun V hV => HG.out V (gNx C6.out hV))).mono ?_
          rintro e w7 ⟨rfl, hb7⟩
          have C7 := Lib.hid (gNx C6.out hb7)
          clear hb7
          go_wp2_with fail
          refine (bad_all _ w7 (fun V hV => HG.out V (gNx C7.out hV))).mono ?_
          rintro e w8 ⟨rfl, hb8⟩
          have C8 := Lib.hid (gNx C7.out hb8)
          clear hb8
          go_wp2_with fail
          refine (bad_ready _ w8 (fun V hV => HG.out V (gNx C8.out hV))).mono ?_
          rintro e w9 ⟨rfl, hb9⟩
          have C9 := Lib.hid (gNx C8.out hb9)
          clear hb9
          go_wp2_with fail
          exact HNX.out _ (HBZ.out _ C9.out)

        · have hq1 : ((q : Int) == 1) = true := by
            obtain rfl : q = 1 := by omega
            rfl
          obtain ⟨wz, hwz⟩ : ∃ wz, wz = wq.alloc (.cells #[.pointer none, .slice none 0 0] 55) := ⟨_, rfl⟩
          have hbz : Below wq.heap.size wq wz := by rw [hwz]; exact gAl _ _
          have hrz : wz.heap[wq.heap.size]? = some (.cells #[.pointer none, .slice none 0 0] 55 (0, 0)) := by rw [hwz]; exact heap_alloc_new wq _
          have hsz : wq.heap.size < wz.heap.size := by rw [hwz]; simp
          have HG : Hid (∀ V, Below wz.heap.size wz V → Calls Try.prog 30 #[.pointer (some ⟨wq.heap.size, 0, none⟩)] V fun e w' => e = .returned (.bool false) ∧ w' = V) := Lib.hid (fun V hV => isGiven_not V wq.heap.size _ ((hV.block _ hsz).trans hrz))
          have HBZ : Hid (∀ V, Below wz.heap.size wz V → Below w.heap.size w V) := Lib.hid (fun V hV => gNx HB.out (gNx hbz hV))
          have HWZ := Lib.hid hwz
          clear hlt h0 hq hwz hbz hrz hsz
          go_upto_region 29 with (fail)
          rw [← HWZ.out]
          go_wp2_with fail
          refine (bad_take _ wz HG.out 0).mono ?_
          rintro e w3 ⟨rfl, hb3⟩
          have C3 := Lib.hid hb3
          clear hb3
          go_wp2_with fail
          refine (bad_do _ _ (fun V hV => HG.out V (gNx C3.out (gNx (gAl _ _) hV))) 6 0 0).mono ?_
          rintro e w4 ⟨rfl, hb4⟩
          have C4 := Lib.hid (gNx C3.out (gNx (gAl _ _) hb4))
          clear hb4
          go_wp2_with fail
          refine (gram_any _ _).mono ?_
          rintro e w5 ⟨rfl, hb5⟩
          have C5 := Lib.hid (gNx C4.out (gNx (gAl _ _) hb5))
          clear hb5
          go_wp2_with fail
          refine (bad_put _ w5 (fun V hV => HG.out V (gNx C5.out hV)) 1 2 _ 0).mono ?_
          rintro e w6 ⟨rfl, hb6⟩
          have C6 := Lib.hid (gNx C5.out hb6)
          clear hb6
          go_wp2_with fail
          refine (bad_len _ w6 (fun V hV => HG.out V (gNx C6.out hV))).mono ?_
          rintro e w7 ⟨rfl, hb7⟩
          have C7 := Lib.hid (gNx C6.out hb7)
          clear hb7
          go_wp2_with fail
          refine (bad_all _ w7 (fun V hV => HG.out V (gNx C7.out hV))).mono ?_
          rintro e w8 ⟨rfl, hb8⟩
          have C8 := Lib.hid (gNx C7.out hb8)
          clear hb8
          go_wp2_with fail
          refine (bad_ready _ w8 (fun V hV => HG.out V (gNx C8.out hV))).mono ?_
          rintro e w9 ⟨rfl, hb9⟩
          have C9 := Lib.hid (gNx C8.out hb9)
          clear hb9
          go_wp2_with fail
          exact HNX.out _ (HBZ.out _ C9.out)

      · have hnq : ¬ (q : Int) < 2 := by omega
        clear hlt hq
        go_wp2_with fail
        refine (awake_any wq).mono ?_
        rintro e w5 ⟨rfl, hb5⟩
        have HB5 := Lib.hid (gNx HB.out hb5)
        clear hb5
        go_wp2_with fail
        go_ret
        exact ⟨rfl, HB5.out⟩

end Go.Proofs.Ytomllijdaokgcaa
