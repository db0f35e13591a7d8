/- Paths: going out from a router by the nearest. -/
import Derived.Test.YtjlfpjjfldbknaaGreatPtG
import Derived.Deep.CutBlock
import Derived.Deep.DeepCutAuto
import Derived.Deep.LoopGhost
namespace Go.Proofs.YtjlfpjjfldbknaaGreat
open Go.RowKit Go.Lib Go.Fq Go.Pq Go.Iq Go.Nq Go.Ow
set_option linter.unusedVariables false
set_option linter.unusedSimpArgs false
set_option maxRecDepth 100000

theorem mPut (q : Nat) (w : World) : (Go.method 272 129 (.pointer (some ⟨q, 0, none⟩)) "beacon/paths.put").run Tryz.prog w = .ok (119, .pointer (some ⟨q, 0, none⟩)) w := by kernel_rfl
theorem mTake (q : Nat) (w : World) : (Go.method 272 129 (.pointer (some ⟨q, 0, none⟩)) "beacon/paths.take").run Tryz.prog w = .ok (120, .pointer (some ⟨q, 0, none⟩)) w := by kernel_rfl
/-- What a take tells, whatever waits. -/
def TakeEnds (base q : Nat) (v : Value) (L : List Sp) (w : World) (e : Ending) (w' : World) : Prop :=
  ∃ (c : Sp) (ok : Bool) (v' : Value) (L' : List Sp), e = .returned (.tuple #[.agg #[.int .i64 (c.1 : Int), .float .f64 (qw c.2.1), .int .i64 (c.2.2 : Int)], .bool ok]) ∧ QAt w' base q v' L' ∧ HeapP L' L'.length ∧ Kq q v v' w w' ∧ (ok = false → L = [] ∧ L' = []) ∧ (ok = true → L'.length + 1 = L.length ∧ (∀ x, x ∈ L ↔ x = c ∨ x ∈ L') ∧ ∀ x, x ∈ L' → leS c x)
theorem qTake_any (v : Value) (L : List Sp) (base q : Nat) (w : World) (h : QAt w base q v L) (hh : HeapP L L.length) (hb : base ≤ w.heap.size) (hn : L.length < 1048576) :
    Calls Tryz.prog 120 #[.pointer (some ⟨q, 0, none⟩)] w fun e w' => TakeEnds base q v L w e w' := by
  by_cases h0 : 0 < L.length
  · refine (qTake_some v L base q w h hh h0 hb hn).mono ?_
    rintro e w' ⟨rfl, v', L', q1, q2, q3, q4, q5, q6⟩
    exact ⟨at_ L 0, true, v', L', rfl, q1, q2, q6, (fun h => by cases h), fun _ => ⟨q3, q4, q5⟩⟩
  · have hL : L = [] := List.length_eq_zero_iff.1 (by omega)
    subst hL
    refine (qTake_none v base q w h).mono ?_
    rintro e w' ⟨rfl, hb2⟩
    refine ⟨(0, 0, 0), false, v, [], by rw [← zero_qw]; rfl, h.below hb2, hh, Kq.of_below hb2, fun _ => ⟨rfl, rfl⟩, fun h => by cases h⟩
theorem initE_at (n k : Nat) (h : k < (initE n k).length) : (initE n k)[k] = (0, some (0, 0)) := by
  have e : (initE n k)[k]? = some (0, some (0, 0)) := by
    have hl : (initE n k).length = k + (n - k) := by simp [initE]
    have h' := h
    rw [hl] at h'
    unfold initE
    rw [List.getElem?_append_right (by simp), List.length_map, List.length_range, Nat.sub_self, List.getElem?_replicate, if_pos (by omega)]
  rw [List.getElem?_eq_getElem h] at e
  exact Option.some.inj e
theorem make_stops (n : Nat) (hn : n ≤ 1048576) (V : World) : (Instr.makeSlice 118 (.int .i64 (n : Int)) (.int .i64 (n : Int))).run Tryz.prog V = .ok (.slice (some ⟨V.heap.size, 0, none⟩) n n) (V.alloc (.cells ((initE n 0).flatMap arC).toArray 134)) := by
  obtain ⟨i0, hi, hz0, hz1, hz2⟩ := info_parts spInfo
  have h := run_make (P := Tryz.prog) V 118 134 i0 _ Tryz.underlying118 hi hz0 .i64 .i64 (n : Int) (n : Int) (by omega) (by omega) (by rw [hz2]; omega) (by omega)
  rw [h, hz1]
  simp only [Int.toNat_natCast]
  have e : madeCells (Value.cells (.agg #[.int .i64 0, .float .f64 0, .int .i64 0])) (n * 3) = ((initE n 0).flatMap arC).toArray := by
    apply Array.ext'
    apply List.ext_getElem?
    intro j
    have hl : ((initE n 0).flatMap arC).length = n * 3 := by rw [flat_len arC 3 arC_len, initE_len n 0 (by omega)]
    by_cases hj : j < n * 3
    · have hi : j / 3 < (initE n 0).length := by rw [initE_len n 0 (by omega)]; omega
      have hg := flat_get arC 3 arC_len (initE n 0) (j / 3) (j % 3) hi (by omega)
      rw [show j / 3 * 3 + j % 3 = j by omega] at hg
      rw [hg]
      have hv : (initE n 0)[j / 3] = (0, some (0, 0)) := by simp [initE]
      rw [hv]
      have hm : j % 3 = 0 ∨ j % 3 = 1 ∨ j % 3 = 2 := by omega
      rcases hm with hm | hm | hm <;> rw [hm] <;> simp [madeCells, hj, hm, Value.cells, arC, dw, fo, ← zero_qw]
    · rw [List.getElem?_eq_none (by rw [Array.length_toList, size_madeCells]; omega), List.getElem?_eq_none (by rw [List.toList_toArray, hl]; omega)]
  rw [e]
/-- What holds where the loop begins anew. -/
def LoopI (G : Gr) (s lim : Nat) (ok : Bool) (cur : Sp) (L : List Sp) (D : List (Option (Nat × Nat))) : Prop :=
  (ok = true → upAt G.nodes s = true ∧ Out G s lim D (cur :: L) ∧ ∀ x, x ∈ L → leS cur x) ∧ (ok = false → L = [] ∧ if upAt G.nodes s = true then Out G s lim D [] else ∀ v, dd D v = none)
theorem LoopI.ends {G : Gr} {s lim : Nat} {cur : Sp} {L : List Sp} {D : List (Option (Nat × Nat))} (hz : checkG G = 0) (hw : ∀ y ∈ G.links, y.w < 2 ^ 64) (h : LoopI G s lim false cur L D) (hl : D.length = G.nodes.length) : StopsP G s lim D := by
  refine ⟨hl, ?_⟩
  have := (h.2 rfl).2
  split at this
  · rename_i hu
    rw [if_pos hu]; exact InvF.least (road_good hz hw) this
  · rename_i hu
    rw [if_neg hu]; exact this
/-- A take, and the loop goes on. -/
theorem loop_take {G : Gr} {s lim : Nat} {c : Sp} {ok : Bool} {L L' : List Sp} {D : List (Option (Nat × Nat))} (h : upAt G.nodes s = true → Out G s lim D L) (h0 : upAt G.nodes s = false → L = [] ∧ ∀ v, dd D v = none) (k0 : ok = false → L = [] ∧ L' = []) (k1 : ok = true → L'.length + 1 = L.length ∧ (∀ x, x ∈ L ↔ x = c ∨ x ∈ L') ∧ ∀ x, x ∈ L' → leS c x) : LoopI G s lim ok c L' D := by
  refine ⟨fun hok => ?_, fun hok => ?_⟩
  · obtain ⟨a1, a2, a3⟩ := k1 hok
    cases hu : upAt G.nodes s with
    | false => have := (h0 hu).1; subst this; simp at a1
    | true => exact ⟨rfl, out_pop (h hu) a2, a3⟩
  · obtain ⟨a1, a2⟩ := k0 hok
    refine ⟨a2, ?_⟩
    split
    · rename_i hu; have := h hu; rw [a1] at this; exact this
    · rename_i hu; exact (h0 (by simpa using hu)).2
/-- What going out tells. -/
def WalkEnds (w : World) (G : Gr) (s lim qb : Nat) (e : Ending) (w' : World) : Prop := ∃ D sb, e = .returned (.slice (some ⟨sb, 0, none⟩) G.nodes.length G.nodes.length) ∧ Own w' w.heap.size 134 3 (.slice (some ⟨sb, 0, none⟩) G.nodes.length G.nodes.length) G.nodes.length (arRow D) ∧ BelowX w.heap.size qb w w' ∧ StopsP G s lim D
set_option maxHeartbeats 16000000 in
theorem walk_any (G : Gr) (na : Option Addr) (nc : Nat) (rv : Value) (s lim qb : Nat) (w : World) (hz : checkG G = 0) (hwt : ∀ y ∈ G.links, y.w < 2 ^ 64) (h1 : rv.oneCell' = true) (hin : NodesIn w qb G.nodes na) (hrd : RdsIn w 0 qb (netL G.nodes (liveG G).links) rv) (hs : s < G.nodes.length) (hl0 : 0 < lim) (hl : lim ≤ 4294967296)
    (hq : w.heap[qb]? = some (.cells #[.slice none 0 0] 132 (0, 0))) :
    Calls Tryz.prog 97 #[.agg #[.slice na G.nodes.length nc, rv], .int .i64 (s : Int), .float .f64 (qw lim), .iface 129 (.pointer (some ⟨qb, 0, none⟩))] w fun e w' => WalkEnds w G s lim qb e w' := by
  have hst := g_storeL
  obtain ⟨n1, n2, n3, n4⟩ := check_zero.1 hz
  obtain ⟨W1, hW1⟩ : ∃ W1, W1 = w.alloc (.cells #[.slice na G.nodes.length nc, rv] 125) := ⟨_, rfl⟩
  have b1 : Below w.heap.size w W1 := by rw [hW1]; exact gAl _ _
  have s1 : W1.heap.size = w.heap.size + 1 := by rw [hW1]; simp
  have r1 : W1.heap[w.heap.size]? = some (.cells #[.slice na G.nodes.length nc, rv] 125 (0, 0)) := by rw [hW1]; exact heap_alloc_new w _
  have hqs := (Array.getElem?_eq_some_iff.1 hq).1
  obtain ⟨nb, hnb⟩ : ∃ nb, nb = w.heap.size := ⟨_, rfl⟩
  have HQB : Hid (qb < nb ∧ nb < W1.heap.size ∧ nb = w.heap.size) := Lib.hid (by omega)
  have HNB : Hid (∀ V, BelowX W1.heap.size qb W1 V → V.cell? ⟨nb, 0, none⟩ = some (.slice na G.nodes.length nc) ∧ V.cell? ⟨nb, 1, none⟩ = some rv) := Lib.hid (fun V hV => by
    have := (hV.block nb (by omega) (by omega)).trans (hnb ▸ r1)
    exact ⟨by rw [cell_of_row V _ 0 _ _ (0, 0) this]; rfl, by rw [cell_of_row V _ 1 _ _ (0, 0) this]; rfl⟩)
  have HIN : Hid (∀ V, BelowX W1.heap.size qb W1 V → NodesIn V V.heap.size G.nodes na) := Lib.hid (fun V hV => hin.kept (fun i hi => (hV.block i (by omega) (by omega)).trans (b1.block i (by omega))) (by have := hV.size; omega))
  have HRD0 : Hid (RdsIn W1 0 qb (netL G.nodes (liveG G).links) rv) := Lib.hid (hrd.kept (fun i _ hi => b1.block i (by omega)) (Nat.le_refl _) (Nat.le_refl _))
  have HQ0 : Hid (QAt W1 W1.heap.size qb (.slice none 0 0) []) := Lib.hid ⟨(b1.block qb hqs).trans hq, Or.inl ⟨rfl, rfl, none, rfl⟩, fun s hs => by cases hs⟩
  have HNL : Hid (G.nodes.length ≤ 256 ∧ G.links.length ≤ 4096) := Lib.hid ⟨n1, n2⟩
  have HNP := Lib.hid n3
  have HZ := Lib.hid hz
  have HWT := Lib.hid hwt
  have HLIM : Hid (0 < lim ∧ lim ≤ 4294967296) := Lib.hid ⟨hl0, hl⟩
  have HB1 := Lib.hid b1
  have HS := Lib.hid hs
  have hmk := make_stops G.nodes.length (by omega)
  clear hz hwt hin hrd hl0 hl hq b1 r1 hqs n1 n2 n3 n4
  go_enter Tryz.func97, Tryz.ntmps97
  go_upto_region 1 with (fail)
  rw [← hW1, ← hnb]
  clear hW1 hnb s1
  obtain ⟨k0, k1⟩ := HNB.out W1 (BelowX.refl _ _ _)
  go_upto_region 2 with (fail)
  obtain ⟨W2, hW2⟩ : ∃ W2, W2 = W1.alloc (.cells ((initE G.nodes.length 0).flatMap arC).toArray 134) := ⟨_, rfl⟩
  rw [← hW2]
  have HB2 : Hid (Below W1.heap.size W1 W2) := Lib.hid (by rw [hW2]; exact gAl _ _)
  have HO2 : Hid (Own W2 W1.heap.size 134 3 (.slice (some ⟨W1.heap.size, 0, none⟩) G.nodes.length G.nodes.length) G.nodes.length ((initE G.nodes.length 0).flatMap arC)) := Lib.hid (Or.inr ⟨W1.heap.size, G.nodes.length, _, rfl, Nat.le_refl _, by rw [hW2]; exact heap_alloc_new W1 _, Nat.le_refl _, by unfold maxLen; have := HNL.out; omega, by rw [List.size_toArray, flat_len arC 3 arC_len, initE_len _ 0 (by omega)], by rw [List.take_of_length_le (by rw [flat_len arC 3 arC_len, initE_len _ 0 (by omega)]; exact Nat.le_refl _)]⟩)
  obtain ⟨sb, hsb⟩ : ∃ sb, sb = W1.heap.size := ⟨_, rfl⟩
  have HSB : Hid (sb = W1.heap.size ∧ sb < W2.heap.size) := Lib.hid ⟨hsb, by rw [hW2, hsb]; simp⟩
  rw [← hsb] at HO2 ⊢
  clear hW2 hsb k0 k1 hmk
  go_wp2_with fail
  go_loopw [22] (fun v wr => ∃ k : Nat, v = .int .i64 (k : Int) ∧ k ≤ G.nodes.length ∧ Own wr sb 134 3 (.slice (some ⟨sb, 0, none⟩) G.nodes.length G.nodes.length) G.nodes.length ((initE G.nodes.length k).flatMap arC) ∧ BelowX W2.heap.size sb W2 wr) (fun v _ => G.nodes.length - (RowKit.intOf v).toNat)
  case atStart => exact ⟨0, rfl, by omega, HO2.out, BelowX.refl _ _ _⟩
  case round =>
    obtain ⟨k, rfl, hk, ho, hbx⟩ := hrel
    by_cases hlt : k < G.nodes.length
    · have hlti : (k : Int) < (G.nodes.length : Int) := by omega
      have hk0 : (0 : Int) ≤ (k : Int) := by omega
      have hkw : IntKind.i64.wrap ((k : Int) + 1) = (k : Int) + 1 := by rw [IntKind.wrap_i64]; have := HNL.out; omega
      obtain ⟨g, cap, e1, e2, e3, e4, e5⟩ := ho.range (by omega)
      simp only [Value.slice.injEq, Option.some.injEq, Addr.mk.injEq, and_true, true_and] at e1
      obtain ⟨rfl, rfl⟩ := e1
      have hl2 := initE_len G.nodes.length k hk
      have hki : k < (initE G.nodes.length k).length := by omega
      have h0 := fun j (hj : j < 3) => flat_get arC 3 arC_len (initE G.nodes.length k) k j hki hj
      have hv : (initE G.nodes.length k)[k]'hki = (0, some (0, 0)) := initE_at G.nodes.length k hki
      rw [hv] at h0
      have hh := fun j x (hj : j < 3) (hv : (arC (0, some (0, 0)))[j]? = some x) => e4 (k * 3 + j) x ((h0 j hj).trans hv)
      have fz := fun j (hj : j < G.nodes.length * 3) => (e5 j hj).2
      have c0 : wr.cell? ⟨sb, k * 3, none⟩ = some (.int .i64 0) := by simpa using hh 0 _ (by omega) rfl
      have c1 : wr.cell? ⟨sb, k * 3 + 1, none⟩ = some (.float .f64 (qw 0)) := by simpa using hh 1 (.float .f64 (qw 0)) (by omega) rfl
      have c2 : wr.cell? ⟨sb, k * 3 + 2, none⟩ = some (.int .i64 0) := by simpa using hh 2 (.int .i64 0) (by omega) rfl
      have f0 : wr.frozen? ⟨sb, k * 3, none⟩ = false := by simpa using fz (k * 3) (by omega)
      have f1 : wr.frozen? ⟨sb, k * 3 + 1, none⟩ = false := by simpa using fz (k * 3 + 1) (by omega)
      have f2 : wr.frozen? ⟨sb, k * 3 + 2, none⟩ = false := by simpa using fz (k * 3 + 2) (by omega)
      have HOW := Lib.hid ho
      have HBX := Lib.hid hbx
      have HSE := Lib.hid (initE_set G.nodes.length k hlt)
      have HL2 := Lib.hid hl2
      clear ho hbx hh fz h0 hv e2 e3 e4 e5 hl2
      go_wp2_with (go_at_call 54; refine (inf1_any _).mono ?_; rintro e w' ⟨rfl, rfl⟩)
      have hp := own_put (vs := arC (k, none)) HOW.out rfl hlt
      rw [← flat_set arC 3 arC_len _ _ _ (by rw [HL2.out]; exact hlt), HSE.out] at hp
      clear hki
      refine ⟨⟨k + 1, by simp, by omega, hp, ?_⟩, ?_⟩
      · refine HBX.out.trans ⟨rfl, rfl, rfl, by simp [World.setCell], fun j hj hx => ?_⟩
        exact set3_other _ _ _ _ _ _ _ _ j hx
      · simp [RowKit.intOf]; omega
    · have hnk : ¬ (k : Int) < (G.nodes.length : Int) := by omega
      have hke : k = G.nodes.length := by omega
      rw [hke, initE_all] at ho
      have HWS : Hid (WS W1 G.nodes.length sb qb (.slice none 0 0) [] (List.replicate G.nodes.length none) wr) := Lib.hid ⟨by simp, by rw [← HSB.out.1]; exact ho, ⟨(hbx.block qb (by have := HQB.out; have := HSB.out; omega) (by have := HQB.out; have := HSB.out; omega)).trans ((HB2.out.block qb (by have := HQB.out; omega)).trans HQ0.out.qb), Or.inl ⟨rfl, rfl, none, rfl⟩, (fun s hs => by cases hs)⟩, heap_nil, (fun n c e => by cases e), ⟨Nat.lt_of_lt_of_le HSB.out.2 hbx.size, Nat.le_of_eq HSB.out.1.symm⟩, (BelowX.of_below HB2.out).trans ⟨hbx.os, hbx.tape, hbx.output, hbx.size, fun j hj _ => hbx.block j (by have := HSB.out; omega) (by have := HSB.out; omega)⟩⟩
      clear ho hbx hke hlt hk HO2
      obtain ⟨k0, k1⟩ := HNB.out wr HWS.out.frame
      obtain ⟨b, o, hna, hbb, hcn⟩ := (HIN.out wr HWS.out.frame).at s hs
      obtain ⟨-, nu, -⟩ := hcn s hs
      subst hna
      have hsl : (s : Int) < (G.nodes.length : Int) := by omega
      have hs0 : (0 : Int) ≤ (s : Int) := by omega
      rw [← upAt_is hs] at nu
      clear hcn hbb
      go_upto_if 37 with fail
      go_cut [] (fun wx => ∃ v L, WS W1 G.nodes.length sb qb v L (List.replicate G.nodes.length none) wx ∧ L.length ≤ 1 ∧ (upAt G.nodes s = true → ∀ x, x ∈ L ↔ x = (s, 0, 0)) ∧ (upAt G.nodes s = false → L = []))
      case first =>
        cases hup : upAt G.nodes s with
        | false =>
          go_wp2_with fail
          go_meet
          exact ⟨_, _, HWS.out, by simp, (fun h => by rw [hup] at h; cases h), fun _ => rfl⟩
        | true =>
          have hmp := mPut qb wr
          have HP := Lib.hid (qPut_any (.slice none 0 0) [] (s, 0, 0) W1.heap.size qb wr HWS.out.q HWS.out.hp (Nat.zero_le _) HWS.out.frame.size (by simp))
          simp only [← zero_qw] at HP
          go_wp2_with fail
          refine HP.out.mono ?_
          rintro e w2 ⟨rfl, v2, L2, q1, q2, q3, q4, q5⟩
          have HW2 := Lib.hid (HWS.out.kq (by have := HQB.out; omega) q5 q1 q2)
          have HM := Lib.hid q4
          have HL := Lib.hid q3
          clear q1 q2 q3 q4 q5 hmp
          go_wp2_with fail
          go_meet
          exact ⟨_, _, HW2.out, by rw [HL.out]; simp, (fun _ x => by rw [HM.out x]; simp), (fun h => by rw [hup] at h; cases h)⟩
      case rest =>
        obtain ⟨v0, L0, hws, hl1, hup, hdn⟩ := hcut
        have HWS0 := Lib.hid hws
        have HUP := Lib.hid hup
        have HDN := Lib.hid hdn
        have HL1 := Lib.hid hl1
        have hmt := mTake qb wc
        have HT := Lib.hid (qTake_any v0 L0 W1.heap.size qb wc hws.q hws.hp hws.frame.size (by omega))
        clear hws hup hdn hl1 nu k0 k1
        go_wp2_with fail
        refine HT.out.mono ?_
        rintro e w2 ⟨c, ok, v2, L2, rfl, q1, q2, q3, q4, q5⟩
        have HWS2 := Lib.hid (HWS0.out.kq (by have := HQB.out; omega) q3 q1 q2)
        have HLI : Hid (LoopI G s lim ok c L2 (List.replicate G.nodes.length none)) := Lib.hid (loop_take (L := L0) (fun hu => out_start G s lim _ HLIM.out.1 (HUP.out hu)) (fun hu => ⟨HDN.out hu, fun v => dd_none _ v⟩) q4 q5)
        have HLL : Hid (L2.length + ok.toNat ≤ 1) := Lib.hid (by
          have := HL1.out
          cases ok with
          | false => have := (q4 rfl).2; subst this; simp
          | true => have := (q5 rfl).1; show L2.length + 1 ≤ 1; omega)
        clear q1 q2 q3 q4 q5 hmt HT
        obtain ⟨W3, hW3⟩ : ∃ W3, W3 = w2.alloc (.cells #[.int .i64 (c.1 : Int), .float .f64 (qw c.2.1), .int .i64 (c.2.2 : Int)] 134) := ⟨_, rfl⟩
        have HBOX : Hid (BoxAt W3 w2.heap.size c) := Lib.hid (by rw [hW3]; exact heap_alloc_new w2 _)
        have HWS3 : Hid (WS W1 G.nodes.length sb qb v2 L2 (List.replicate G.nodes.length none) W3) := Lib.hid (HWS2.out.below (by rw [hW3]; exact gAl _ _))
        have HTB : Hid (W1.heap.size ≤ w2.heap.size ∧ sb ≠ w2.heap.size ∧ NotRow v2 w2.heap.size) := Lib.hid ⟨HWS2.out.frame.size, by have := HWS2.out.sbs; omega, row_not HWS2.out.q.row _ (Nat.le_refl _)⟩
        go_wp2_with fail
        rw [← hW3]
        have HPS : Hid (pot (netL G.nodes (liveG G).links) (dd (List.replicate G.nodes.length none)) ≤ 8192) := Lib.hid (by
          have e : dd (List.replicate G.nodes.length none) = fun _ => none := by funext v; exact dd_none _ v
          rw [e]
          have := pot_start (α := Nat × Nat) G.nodes (liveG G).links
          have : (liveG G).links.length ≤ 4096 := Nat.le_trans (List.length_filter_le _ _) HNL.out.2
          omega)
        clear hW3
        go_loopg [11, 12] 8300 (fun gk x11 x12 wr => ∃ (tb : Nat) (ok : Bool) (c : Sp) (v : Value) (L : List Sp) (D : List (Option (Nat × Nat))), x11 = .pointer (some ⟨tb, 0, none⟩) ∧ x12 = .bool ok ∧ WS W1 G.nodes.length sb qb v L D wr ∧ BoxAt wr tb c ∧ W1.heap.size ≤ tb ∧ sb ≠ tb ∧ NotRow v tb ∧ LoopI G s lim ok c L D ∧ L.length + ok.toNat + pot (netL G.nodes (liveG G).links) (dd D) ≤ gk ∧ gk ≤ 8300)
        case atStart => exact ⟨_, _, c, v2, L2, _, rfl, rfl, HWS3.out, HBOX.out, HTB.out.1, HTB.out.2.1, HTB.out.2.2, HLI.out, by have := HPS.out; have := HLL.out; omega, Nat.le_refl _⟩
        case round =>
          clear HWS0 HUP HDN HL1 HWS2 HLI HLL HBOX HWS3 HTB HPS HWS
          obtain ⟨tb, ok, c, v, L, D, rfl, rfl, hws, hbox, ht1, ht2, ht3, hli, hgk, hgk2⟩ := hrel
          have HWS := Lib.hid hws
          have HBOX := Lib.hid hbox
          have HTB : Hid (W1.heap.size ≤ tb ∧ sb ≠ tb ∧ NotRow v tb) := Lib.hid ⟨ht1, ht2, ht3⟩
          have HLI := Lib.hid hli
          have HGK : Hid (L.length + ok.toNat + pot (netL G.nodes (liveG G).links) (dd D) ≤ gk ∧ gk ≤ 8300) := Lib.hid ⟨hgk, hgk2⟩
          clear hws hbox ht1 ht2 ht3 hli hgk hgk2
          cases ok with
          | false =>
            go_wp2_with fail
            go_ret
            refine ⟨D, sb, rfl, HWS.out.stops.mono (by have := HQB.out; omega), ?_, HLI.out.ends HZ.out HWT.out HWS.out.len⟩
            have hf := HWS.out.frame
            exact ⟨hf.os.trans HB1.out.os, hf.tape.trans HB1.out.tape, hf.output.trans HB1.out.output, Nat.le_trans HB1.out.size hf.size, fun j hj hx => (hf.block j (Nat.lt_of_lt_of_le hj HB1.out.size) hx).trans (HB1.out.block j hj)⟩
          | true =>
            obtain ⟨hup, hout, hmin⟩ := HLI.out.1 rfl
            have HUP := Lib.hid hup
            have HOUT := Lib.hid hout
            have HMIN := Lib.hid hmin
            have hbd := out_bd HZ.out HWT.out hout hs (List.mem_cons_self)
            have HBD := Lib.hid hbd
            clear hup hout hmin hbd HLI
            go_upto_block 3 with fail
            go_cut [] (fun wx => ∃ (v' : Value) (L' : List Sp) (D' : List (Option (Nat × Nat))), WS W1 G.nodes.length sb qb v' L' D' wx ∧ BoxAt wx tb c ∧ NotRow v' tb ∧ Out G s lim D' L' ∧ L'.length + pot (netL G.nodes (liveG G).links) (dd D') < gk)
            case first =>
              have hcn : c.1 < G.nodes.length := HBD.out.1
              obtain ⟨x0, x1, x2, -, -, -⟩ := BoxAt.cells HBOX.out
              obtain ⟨y0, y1, y2, z0, z1, z2⟩ := HWS.out.cells hcn
              have hcl : (c.1 : Int) < (G.nodes.length : Int) := by omega
              have hc0 : (0 : Int) ≤ (c.1 : Int) := by omega
              have HSM : Hid (∀ u, Sm ((dd D u).map Prod.fst)) := Lib.hid (fun u => by
                cases hd : dd D u with
                | none => trivial
                | some p => have := (HOUT.out.settled u p.1 p.2 hd).2; have := HLIM.out; show p.1 ≤ _; omega)
              cases hd : dd D c.1 with
              | some o =>
                rw [hd] at y1 y2
                have HTF := Lib.hid (fun W => tooFar_any ((dd D c.1).map Prod.fst) (HSM.out c.1) W)
                rw [hd] at HTF
                have HD := Lib.hid hd
                clear hd
                go_wp2_with (go_at_call 100; refine (HTF.out _).mono ?_; rintro e w' ⟨rfl, rfl⟩)
                go_meet
                exact ⟨v, L, D, HWS.out, HBOX.out, HTB.out.2.2, out_skip HOUT.out HD.out, by have := HGK.out; simp only [Bool.toNat_true] at this; omega⟩
              | none =>
                rw [hd] at y1 y2
                have HTF := Lib.hid (fun W => tooFar_any ((dd D c.1).map Prod.fst) (HSM.out c.1) W)
                rw [hd] at HTF
                have HD := Lib.hid hd
                clear hd
                obtain ⟨rb, cc, rfl, hrb, hrow⟩ := HRD0.out
                obtain ⟨ra, c2, hcell, hrin⟩ := hrow c.1 (by rw [netL_len]; exact hcn)
                have hre : (netL G.nodes (liveG G).links)[c.1]'(by rw [netL_len]; exact hcn) = rds G.nodes (liveG G).links c.1 := by simp [netL]
                rw [hre] at hcell hrin
                have HROW : Hid (∀ V, BelowX W1.heap.size qb W1 V → V.cell? ⟨rb, c.1, none⟩ = some (.slice ra (rds G.nodes (liveG G).links c.1).length c2) ∧ RdIn V 0 V.heap.size (rds G.nodes (liveG G).links c.1) ra) := Lib.hid (fun V hV => by
                  have hk : ∀ i, i < qb → V.heap[i]? = W1.heap[i]? := fun i hi => hV.block i (by have := HQB.out; omega) (by omega)
                  exact ⟨(World.cell?_of_block (w := W1) (hk rb hrb.2)).trans hcell, hrin.kept (fun i _ hi => hk i hi) (Nat.le_refl _) (by have := HQB.out; have := hV.size; omega)⟩)
                have hcl2 : (c.1 : Int) < ((netL G.nodes (liveG G).links).length : Int) := by rw [netL_len]; omega
                clear hrb hrow hcell hrin hre
                have HRB : Hid (∀ a q, (a, q) ∈ rds G.nodes (liveG G).links c.1 → a < G.nodes.length ∧ 4 ≤ q ∧ q ≤ 4194304) := Lib.hid (fun a q hm => by
                  have := road_bd HZ.out HWT.out (show Pq.Road G c.1 a q from hm)
                  exact ⟨this.2.1, this.2.2.1, this.2.2.2.1⟩)
                go_upto_region 14 with (go_at_call 100; refine (HTF.out _).mono ?_; rintro e w' ⟨rfl, rfl⟩)
                obtain ⟨W5, hW5⟩ : ∃ W5, W5 = ((wr.setCell ⟨sb, c.1 * 3, none⟩ (.int .i64 (c.1 : Int))).setCell ⟨sb, c.1 * 3 + 1, none⟩ (.float .f64 (qw c.2.1))).setCell ⟨sb, c.1 * 3 + 2, none⟩ (.int .i64 (c.2.2 : Int)) := ⟨_, rfl⟩
                rw [← hW5]
                have HWS5 := Lib.hid (HWS.out.put (by have := HQB.out; omega) hcn c.2.1 c.2.2 W5 hW5)
                have HBX5 : Hid (BoxAt W5 tb c) := Lib.hid (by rw [hW5]; exact (set3_other _ _ _ _ _ _ _ _ tb (fun e => HTB.out.2.1 e.symm)).trans HBOX.out)
                have hDl : c.1 < D.length := by rw [HWS.out.len]; exact hcn
                have HPT : Hid (pot (netL G.nodes (liveG G).links) (dd D) = pot (netL G.nodes (liveG G).links) (dd (D.set c.1 (some (c.2.1, c.2.2)))) + (rds G.nodes (liveG G).links c.1).length) := Lib.hid (by
                  have := pot_settle (rows := netL G.nodes (liveG G).links) (d := dd D) (d' := dd (D.set c.1 (some (c.2.1, c.2.2)))) (v := c.1) (by rw [netL_len]; exact hcn) (x := (c.2.1, c.2.2)) HD.out (fun u => dd_set _ hDl u)
                  rw [netL_at _ hcn] at this
                  exact this)
                have HSM2 : Hid (∀ u, Sm ((dd (D.set c.1 (some (c.2.1, c.2.2))) u).map Prod.fst)) := Lib.hid (fun u => by
                  rw [dd_set _ hDl]
                  split
                  · have := HBD.out.2; have := HLIM.out; show c.2.1 ≤ _; omega
                  · exact HSM.out u)
                have HSET : Hid (∀ L2 k, Pushed (idf G.nodes) (rds G.nodes (liveG G).links c.1) (dd (D.set c.1 (some (c.2.1, c.2.2)))) c.2.1 c.2.2 lim k L L2 → (rds G.nodes (liveG G).links c.1).length ≤ k → Out G s lim (D.set c.1 (some (c.2.1, c.2.2))) L2) := Lib.hid (fun L2 k hp hk => out_settle HZ.out HWT.out HOUT.out HD.out hDl HMIN.out hp hk)
                have HL0 : Hid (L.length ≤ 8300) := Lib.hid (by have := HGK.out; simp only [Bool.toNat_true] at this; omega)
                clear x0 x1 x2 y0 y1 y2 z0 z1 z2 hW5 hDl HD HTF HSM HOUT HMIN
                obtain ⟨k0, k1⟩ := HNB.out W5 HWS5.out.frame
                obtain ⟨x0, x1, x2, -, -, -⟩ := BoxAt.cells HBX5.out
                have hrc := (HROW.out W5 HWS5.out.frame).1
                obtain ⟨wo, rfl⟩ : ∃ wo : World, wo = wr := ⟨_, rfl⟩
                have HD8 : Hid ((rds G.nodes (liveG G).links c.1).length ≤ 8192) := Lib.hid (by
                  have := deg_one G.nodes (liveG G).links c.1
                  rw [netL_at _ hcn] at this
                  have : (liveG G).links.length ≤ 4096 := Nat.le_trans (List.length_filter_le _ _) HNL.out.2
                  omega)
                generalize D.set c.1 (some (c.2.1, c.2.2)) = E at *
                generalize rds G.nodes (liveG G).links c.1 = rd at *
                go_wp2_with fail
                clear k0 k1 x0 x1 x2 hrc
                go_loopw [73] (fun v73 wi => ∃ (k : Nat) (v' : Value) (L' : List Sp), v73 = .int .i64 (k : Int) ∧ k ≤ rd.length ∧ WS W1 G.nodes.length sb qb v' L' E wi ∧ BoxAt wi tb c ∧ NotRow v' tb ∧ Pushed (idf G.nodes) rd (dd E) c.2.1 c.2.2 lim k L L' ∧ L'.length ≤ L.length + k) (fun v73 _ => rd.length - (RowKit.intOf v73).toNat)
                case atStart => exact ⟨0, v, L, rfl, Nat.zero_le _, HWS5.out, HBX5.out, HTB.out.2.2, pushed_start _ _ _ _ _ _ _, Nat.le_refl _⟩
                case round =>
                  obtain ⟨k, v', L', rfl, hk, hws, hbox, hnr, hp, hlen⟩ := hrel
                  have HWI := Lib.hid hws
                  have HBI := Lib.hid hbox
                  have HNI := Lib.hid hnr
                  have HPI := Lib.hid hp
                  have HLI := Lib.hid hlen
                  clear hws hbox hnr hp hlen
                  by_cases hlt : k < rd.length
                  · have hlti : (k : Int) < (rd.length : Int) := by omega
                    have hk0 : (0 : Int) ≤ (k : Int) := by omega
                    have hkw : IntKind.i64.wrap ((k : Int) + 1) = (k : Int) + 1 := by rw [IntKind.wrap_i64]; have := HD8.out; omega
                    rcases (HROW.out wr HWI.out.frame).2 with hr0 | ⟨b2, rfl, hb2, hc2⟩
                    · rw [hr0] at hlt; simp at hlt
                    obtain ⟨d0, d1⟩ := hc2 k hlt
                    have hrm := List.getElem_mem hlt
                    have HNO := Lib.hid (fun hc => HPI.out.no hlt hc)
                    have HYES := Lib.hid (fun (h1 : dd E rd[k].1 = none) (h2 : rd[k].2 + c.2.1 < lim) (L'' : List Sp) hm => HPI.out.yes (L' := L'') hlt h1 h2 hm)
                    generalize rd[k] = r at *
                    obtain ⟨tt, q⟩ := r
                    simp only at d0 d1 HNO HYES
                    obtain ⟨ht, hq1, hq2⟩ := HRB.out tt q hrm
                    have htl : (tt : Int) < (G.nodes.length : Int) := by omega
                    have ht0 : (0 : Int) ≤ (tt : Int) := by omega
                    clear hc2 hrm
                    obtain ⟨W6, hW6⟩ : ∃ W6, W6 = wr.alloc (.cells #[.int .i64 (tt : Int), .float .f64 (qw q)] 143) := ⟨_, rfl⟩
                    have b6 : Below wr.heap.size wr W6 := by rw [hW6]; exact gAl _ _
                    have r6 : W6.heap[wr.heap.size]? = some (.cells #[.int .i64 (tt : Int), .float .f64 (qw q)] 143 (0, 0)) := by rw [hW6]; exact heap_alloc_new wr _
                    have s6 : wr.heap.size < W6.heap.size := by rw [hW6]; simp
                    have HW6 := Lib.hid (HWI.out.below b6)
                    have HB6 : Hid (BoxAt W6 tb c ∧ tb < wr.heap.size) := Lib.hid ⟨(b6.block tb (Array.getElem?_eq_some_iff.1 HBI.out).1).trans HBI.out, (Array.getElem?_eq_some_iff.1 HBI.out).1⟩
                    have HR6 : Hid (∀ V, Below W6.heap.size W6 V → V.cell? ⟨wr.heap.size, 0, none⟩ = some (.int .i64 (tt : Int)) ∧ V.cell? ⟨wr.heap.size, 1, none⟩ = some (.float .f64 (qw q))) := Lib.hid (fun V hV => by
                      have := (hV.block _ s6).trans r6
                      exact ⟨by rw [cell_of_row V _ 0 _ _ (0, 0) this]; rfl, by rw [cell_of_row V _ 1 _ _ (0, 0) this]; rfl⟩)
                    go_upto_region 17 with (fail)
                    rw [← hW6]
                    clear hW6 b6 r6 s6 d0 d1
                    obtain ⟨k0, k1⟩ := HNB.out W6 HW6.out.frame
                    obtain ⟨x0, x1, x2, -, -, -⟩ := BoxAt.cells HB6.out.1
                    obtain ⟨l0, l1⟩ := HR6.out W6 (Below.refl _ _)
                    go_wp2_with fail
                    refine (onward_any G.nodes (some ⟨b, o, none⟩) nc (.slice (some ⟨rb, 0, none⟩) (netL G.nodes (liveG G).links).length cc) c.1 c.2.1 c.2.2 tt q lim W6 rfl (HIN.out W6 HW6.out.frame) HNP.out ht (by have := HBD.out; have := HLIM.out; omega) (by omega) (by omega) HLIM.out.2).mono ?_
                    rintro e W7 ⟨rfl, hb7⟩
                    have HX2 : Hid (Sm (addO q (some c.2.1) lim)) := Lib.hid (addO_sm _ _ _ HLIM.out.2)
                    have HDC : Hid ((q + c.2.1 < lim → addO q (some c.2.1) lim = some (q + c.2.1)) ∧ (¬ q + c.2.1 < lim → addO q (some c.2.1) lim = none)) := Lib.hid ⟨fun h => by unfold addO; simp only; rw [if_pos h], fun h => by unfold addO; simp only; rw [if_neg h]⟩
                    generalize addO q (some c.2.1) lim = X2 at *
                    obtain ⟨W8, hW8⟩ : ∃ W8, W8 = W7.alloc (.cells #[.int .i64 (tt : Int), .float .f64 (dw X2), .int .i64 (hop (idf G.nodes) tt c.2.2 : Int)] 134) := ⟨_, rfl⟩
                    have b8 : Below W6.heap.size W6 W8 := by rw [hW8]; exact gNx hb7 (gAl _ _)
                    have r8 : W8.heap[W7.heap.size]? = some (.cells #[.int .i64 (tt : Int), .float .f64 (dw X2), .int .i64 (hop (idf G.nodes) tt c.2.2 : Int)] 134 (0, 0)) := by rw [hW8]; exact heap_alloc_new W7 _
                    have HW8 := Lib.hid (HW6.out.below b8)
                    have HB8 : Hid (BoxAt W8 tb c) := Lib.hid ((b8.block tb (Array.getElem?_eq_some_iff.1 HB6.out.1).1).trans HB6.out.1)
                    obtain ⟨y0, y1, y2, -, -, -⟩ := HW8.out.cells ht
                    have HTF1 := Lib.hid (fun W => tooFar_any ((dd E tt).map Prod.fst) (HSM2.out tt) W)
                    have HTF2 := Lib.hid (fun W => tooFar_any X2 HX2.out W)
                    clear hb7 k0 k1 x0 x1 x2 l0 l1
                    go_upto_region 18 with (fail)
                    rw [← hW8]
                    obtain ⟨l0, l1⟩ := HR6.out W8 b8
                    have o0 : W8.cell? ⟨W7.heap.size, 0, none⟩ = some (.int .i64 (tt : Int)) := by rw [cell_of_row W8 _ 0 _ _ (0, 0) r8]; rfl
                    have o1 : W8.cell? ⟨W7.heap.size, 1, none⟩ = some (.float .f64 (dw X2)) := by rw [cell_of_row W8 _ 1 _ _ (0, 0) r8]; rfl
                    have o2 : W8.cell? ⟨W7.heap.size, 2, none⟩ = some (.int .i64 (hop (idf G.nodes) tt c.2.2 : Int)) := by rw [cell_of_row W8 _ 2 _ _ (0, 0) r8]; rfl
                    clear hW8 b8 r8
                    generalize hop (idf G.nodes) tt c.2.2 = hp at *
                    cases hde : dd E tt with
                    | some o' =>
                      rw [hde] at y1 HTF1
                      have HF : Hid (Pushed (idf G.nodes) rd (dd E) c.2.1 c.2.2 lim (k + 1) L L') := Lib.hid (HNO.out (fun hc => by rw [hde] at hc; cases hc.1))
                      clear hde y0 y2
                      go_wp2_with fail
                      refine (HTF1.out _).mono ?_
                      rintro e w' ⟨rfl, rfl⟩
                      go_wp2_with fail
                      refine ⟨⟨k + 1, v', L', by simp, by omega, HW8.out, HB8.out, HNI.out, HF.out, by have := HLI.out; omega⟩, ?_⟩
                      simp [RowKit.intOf]; omega
                    | none =>
                      rw [hde] at y1 HTF1
                      by_cases hqc : q + c.2.1 < lim
                      · have hx := HDC.out.1 hqc
                        subst hx
                        have HYY := Lib.hid (HYES.out hde hqc)
                        have HPUT := Lib.hid (qPut_any v' L' (tt, q + c.2.1, hp) W1.heap.size qb W8 HW8.out.q HW8.out.hp (by have := HLIM.out; show q + c.2.1 ≤ _; omega) HW8.out.frame.size (by have := HLI.out; have := HL0.out; have := HD8.out; omega))
                        have hmp := mPut qb W8
                        clear hde y0 y2 hqc
                        go_wp2_with fail
                        refine (HTF1.out _).mono ?_
                        rintro e w' ⟨rfl, rfl⟩
                        go_wp2_with fail
                        refine (HTF2.out _).mono ?_
                        rintro e w' ⟨rfl, rfl⟩
                        go_wp2_with fail
                        refine HPUT.out.mono ?_
                        rintro e W9 ⟨rfl, v9, L9, q1, q2, q3, q4, q5⟩
                        have HW9 := Lib.hid (HW8.out.kq (by have := HQB.out; omega) q5 q1 q2)
                        have hts : tb < W8.heap.size := (Array.getElem?_eq_some_iff.1 HB8.out).1
                        have HB9 : Hid (BoxAt W9 tb c) := Lib.hid ((q5.block tb hts (by have := HQB.out; have := HTB.out; omega) HNI.out).trans HB8.out)
                        have HN9 := Lib.hid (q5.row tb hts HNI.out)
                        have HP9 := Lib.hid (HYY.out L9 q4)
                        have HL9 := Lib.hid q3
                        clear q1 q2 q3 q4 q5 hts hmp
                        go_wp2_with fail
                        refine ⟨⟨k + 1, v9, L9, by simp, by omega, HW9.out, HB9.out, HN9.out, HP9.out, by have := HLI.out; have := HL9.out; omega⟩, ?_⟩
                        simp [RowKit.intOf]; omega
                      · have hx := HDC.out.2 hqc
                        subst hx
                        have HF : Hid (Pushed (idf G.nodes) rd (dd E) c.2.1 c.2.2 lim (k + 1) L L') := Lib.hid (HNO.out (fun hc => hqc hc.2))
                        clear hde y0 y2 hqc
                        go_wp2_with fail
                        refine (HTF1.out _).mono ?_
                        rintro e w' ⟨rfl, rfl⟩
                        go_wp2_with fail
                        refine (HTF2.out _).mono ?_
                        rintro e w' ⟨rfl, rfl⟩
                        go_wp2_with fail
                        refine ⟨⟨k + 1, v', L', by simp, by omega, HW8.out, HB8.out, HNI.out, HF.out, by have := HLI.out; omega⟩, ?_⟩
                        simp [RowKit.intOf]; omega
                  · have hnk : ¬ (k : Int) < (rd.length : Int) := by omega
                    have HK := Lib.hid (show rd.length ≤ k by omega)
                    have HKL := Lib.hid hk
                    clear hlt hk
                    go_wp2_with fail
                    go_meet
                    exact ⟨v', L', E, HWI.out, HBI.out, HNI.out, HSET.out L' k HPI.out HK.out, by have := HGK.out; have := HPT.out; have := HLI.out; have := HKL.out; simp only [Bool.toNat_true] at *; omega⟩
            case rest =>
              obtain ⟨v', L', D', hws, hbox, hnr, hout, hgk⟩ := hcut
              have HWS2 := Lib.hid hws
              have HNR := Lib.hid hnr
              have HOUT2 := Lib.hid hout
              have HGK2 := Lib.hid hgk
              have HBX2 := Lib.hid hbox
              obtain ⟨x0, x1, x2, -, -, -⟩ := BoxAt.cells hbox
              have hmt := mTake qb (wc.alloc (.cells #[.int .i64 (c.1 : Int), .float .f64 (qw c.2.1), .int .i64 (c.2.2 : Int)] 134))
              clear hws hbox hnr hout hgk HOUT HMIN HWS HBOX
              go_upto_region 11 with (fail)
              obtain ⟨W4, hW4⟩ : ∃ W4, W4 = wc.alloc (.cells #[.int .i64 (c.1 : Int), .float .f64 (qw c.2.1), .int .i64 (c.2.2 : Int)] 134) := ⟨_, rfl⟩
              rw [← hW4]
              rw [← hW4] at hmt
              have HB4 : Hid (Below wc.heap.size wc W4) := Lib.hid (by rw [hW4]; exact gAl _ _)
              have HBX4 : Hid (BoxAt W4 wc.heap.size c ∧ wc.heap.size < W4.heap.size) := Lib.hid ⟨by rw [hW4]; exact heap_alloc_new wc _, by rw [hW4]; simp⟩
              have HWS4 := Lib.hid (HWS2.out.below HB4.out)
              have HT2 : Hid (W1.heap.size ≤ wc.heap.size ∧ sb ≠ wc.heap.size ∧ NotRow v' wc.heap.size) := Lib.hid ⟨HWS2.out.frame.size, by have := HWS2.out.sbs; omega, row_not HWS2.out.q.row _ (Nat.le_refl _)⟩
              obtain ⟨tb2, htb2⟩ : ∃ tb2, tb2 = wc.heap.size := ⟨_, rfl⟩
              rw [← htb2] at HBX4 HT2 ⊢
              have HTK := Lib.hid (qTake_any v' L' W1.heap.size qb W4 HWS4.out.q HWS4.out.hp HWS4.out.frame.size (by have := HGK2.out; have := HGK.out; omega))
              clear hW4 htb2 x0 x1 x2
              go_wp2_with fail
              refine HTK.out.mono ?_
              rintro e w5 ⟨c2, ok2, v5, L5, rfl, q1, q2, q3, q4, q5⟩
              have hb5 : BoxAt w5 tb2 c := (q3.block tb2 HBX4.out.2 (by have := HQB.out; have := HT2.out; omega) HT2.out.2.2).trans HBX4.out.1
              have HBX5 := Lib.hid hb5
              have HWS5 := Lib.hid (HWS4.out.kq (by have := HQB.out; omega) q3 q1 q2)
              have HNR5 := Lib.hid (q3.row tb2 HBX4.out.2 HT2.out.2.2)
              have HLI5 : Hid (LoopI G s lim ok2 c2 L5 D') := Lib.hid (loop_take (L := L') (fun _ => HOUT2.out) (fun hu => by have := HUP.out; rw [hu] at this; cases this) q4 q5)
              have HLL5 : Hid (L5.length + ok2.toNat ≤ L'.length) := Lib.hid (by
                cases ok2 with
                | false => have := (q4 rfl).2; subst this; exact Nat.zero_le _
                | true => have := (q5 rfl).1; show L5.length + 1 ≤ _; omega)
              obtain ⟨x0, x1, x2, f0, f1, f2⟩ := BoxAt.cells hb5
              clear q1 q2 q3 q4 q5 hb5 hmt HTK
              go_wp2_with fail
              go_roundg (L5.length + ok2.toNat + pot (netL G.nodes (liveG G).links) (dd D'))
              case measure => have := HLL5.out; have := HGK2.out; omega
              case rel =>
                exact ⟨tb2, ok2, c2, v5, L5, D', rfl, rfl, HWS5.out.box (by have := HQB.out; omega) HT2.out.1 HT2.out.2.1 HNR5.out _ _ _, box_set rfl HBX5.out c2, HT2.out.1, HT2.out.2.1, HNR5.out, HLI5.out, Nat.le_refl _, by have := HLL5.out; have := HGK2.out; have := HGK.out; omega⟩
end Go.Proofs.YtjlfpjjfldbknaaGreat
