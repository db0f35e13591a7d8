/- Paths: Near; arguments of two floats, of two numbers. -/
import Derived.Test.YtcmknkdfoebniaaPrD
namespace Go.Proofs.Ytcmknkdfoebniaa
open Go.RowKit Go.Lib Go.Fq Go.Pq Go.Iq Go.Nq Go.Ow
set_option linter.unusedVariables false
set_option linter.unusedSimpArgs false
set_option maxRecDepth 100000

section
variable {H : Type} {enc : TypeId × Value → H} {w W : World} {spare : Nat → Bool} {held : Bool} {r : Reach} {b0 : Nat}
theorem gin_f642 {v : Value} {d : DataW H} {ps : List MemPlace} (hv : Value.okWide Try.prog W r b0 44 v) (h : DataW.Trod enc Try.prog w 0 spare held 44 v d ps) : ∃ x y : Nat, v = .agg #[.float .f64 x, .float .f64 y] ∧ x < 2 ^ 64 ∧ y < 2 ^ 64 := by
  unfold Value.okWide at hv
  rw [Try.underlying44] at hv
  obtain ⟨cs, rfl, hcs, -⟩ := hv
  obtain ⟨fuel, hf⟩ := h
  obtain ⟨xs, m, rfl, hx, hcl, hxl, hat⟩ := DataW.trod_array Try.underlying44 hf
  have hct : Try.prog.cellsOf 44 = 2 := by kernel_rfl
  have hcl2 : cs.size = 2 := by omega
  have hsz : (Value.agg cs).cells = cs := rfl
  rw [hsz] at hat
  obtain ⟨v0, v1, rfl⟩ : ∃ v0 v1, cs = #[v0, v1] := by
    obtain ⟨l⟩ := cs
    match l, hcl2 with
    | [v0, v1], _ => exact ⟨v0, v1, rfl⟩
  match xs, hxl with
  | [x0, x1], _ =>
    have h0 := hat 0 (by omega)
    have h1 := hat 1 (by omega)
    simp [gcF64] at h0 h1
    obtain ⟨a0, rfl, p0⟩ := gin_f64 h0
    obtain ⟨a1, rfl, p1⟩ := gin_f64 h1
    exact ⟨a0, a1, rfl, p0, p1⟩
end
/-- The routers nearer than a radius, the first k of them looked at. -/
def nearB (l : List (Option Nat)) (r : Nat) (i : Nat) : Bool := FloatKind.f64.format.order (dw (g_ l i)) r == some .lt
def idI (ns : List Nd) (i : Nat) : Int := (ns.getD i ⟨0, false, false⟩).id
def nearZ (ns : List Nd) (l : List (Option Nat)) (r k : Nat) : List Int := ((List.range k).filter (nearB l r)).map (idI ns)
theorem nearZ_yes {ns : List Nd} {l : List (Option Nat)} {r k : Nat} (h : nearB l r k = true) : nearZ ns l r (k + 1) = nearZ ns l r k ++ [idI ns k] := by
  unfold nearZ; rw [List.range_succ, List.filter_append, List.map_append]; simp [h]
theorem nearZ_no {ns : List Nd} {l : List (Option Nat)} {r k : Nat} (h : nearB l r k = false) : nearZ ns l r (k + 1) = nearZ ns l r k := by
  unfold nearZ; rw [List.range_succ, List.filter_append, List.map_append]; simp [h]
theorem nearZ_len (ns : List Nd) (l : List (Option Nat)) (r k : Nat) : (nearZ ns l r k).length ≤ k := by
  unfold nearZ; rw [List.length_map]; exact Nat.le_trans (List.length_filter_le _ _) (by simp)
def zRow (zs : List Int) : List Value := zs.map (Value.int .i64)
theorem zRow_snoc (zs : List Int) (x : Int) : zRow (zs ++ [x]) = zRow zs ++ [.int .i64 x] := by simp [zRow]
theorem idI_at {ns : List Nd} {i : Nat} (h : i < ns.length) : ns[i].id = idI ns i := by unfold idI; simp [List.getD_eq_getElem?_getD, h]
/-- Why Near tells nothing. -/
def nearE (E : Int) (r : Nat) : Int := if E ≠ 0 then E else if nanB r = true then 10 else if ng r = true then 12 else 0
theorem nearE_ne {E : Int} {r : Nat} (h : E ≠ 0) : nearE E r = E := if_pos h
theorem nearE_nan {r : Nat} (h : nanB r = true) : nearE 0 r = 10 := by unfold nearE; rw [if_neg (by simp), if_pos h]
theorem nearE_ng {r : Nat} (h : nanB r = false) (h2 : ng r = true) : nearE 0 r = 12 := by unfold nearE; rw [if_neg (by simp), if_neg (by simp [h]), if_pos h2]
theorem nearE_ok {r : Nat} (h : nanB r = false) (h2 : ng r = false) : nearE 0 r = 0 := by unfold nearE; rw [if_neg (by simp), if_neg (by simp [h]), if_neg (by simp [h2])]
theorem ask_nz {G : Gr} {max : Nat} {fr E : Int} (hEE : E = askE G max [fr]) (hz : E = 0) : 0 < G.nodes.length ∧ G.nodes.length ≤ 256 := by
  obtain ⟨-, a2, a3⟩ := askE_zero (hEE.symm.trans hz)
  have hhas : has G.nodes fr = true := by simpa using a3
  obtain ⟨n1, n2, n3, n4⟩ := check_zero.1 a2
  have := ((has_at n3 fr).1 hhas).1
  omega
/-- What Near tells. -/
def NearEnds (w : World) (G : Gr) (E : Int) (s lim r : Nat) (e : Ending) (w' : World) : Prop :=
  (nearE E r ≠ 0 ∧ e = .returned (.tuple #[.slice none 0 0, .int .i64 (nearE E r)]) ∧ Below w.heap.size w w') ∨
  (nearE E r = 0 ∧ E = 0 ∧ ∃ l v, e = .returned (.tuple #[v, .int .i64 0]) ∧ Own w' w.heap.size 3 1 v (nearZ G.nodes l r G.nodes.length).length (zRow (nearZ G.nodes l r G.nodes.length)) ∧ DistsP G s lim l ∧ Below w.heap.size w w')
theorem zs_same (b1 b2 : Nat) (va vb : Value) (zs : List Int) (w : World) (ha : Own w b1 3 1 va zs.length (zRow zs)) (hb : Own w b2 3 1 vb zs.length (zRow zs)) (hn : zs.length < 1048576) :
    Calls Try.prog 17 #[va, vb] w fun e w' => e = .returned (.bool true) ∧ Below w.heap.size w w' := by
  have e : zRow zs = (List.range zs.length).map (fun i => .int .i64 (zs.getD i 0)) := by
    apply List.ext_getElem
    · simp [zRow]
    intro i h1 h2
    have hi : i < zs.length := by simpa [zRow] using h1
    simp [zRow, List.getD_eq_getElem?_getD, hi]
  rw [e] at ha hb
  exact ints_same b1 b2 va vb (fun i => zs.getD i 0) zs.length w ha hb hn
/-- One number more in a row of one's own. -/
theorem z_app {V : World} {base : Nat} {v : Value} {zs : List Int} (ho : Own V base 3 1 v zs.length (zRow zs)) (hb : base ≤ V.heap.size) (hl : zs.length < 1048576) (x : Int) :
    ∃ va vc a0 c0 W, v = .slice a0 zs.length c0 ∧ (∀ ty, (Builtin.append_ #[34, 34] ty #[v, .slice (some ⟨V.heap.size, 0, none⟩) 1 1]).run Try.prog (V.alloc (.cells #[.int .i64 x] 3)) = .ok (.slice va (zs.length + 1) vc) W) ∧ Own W base 3 1 (.slice va (zs.length + 1) vc) (zs ++ [x]).length (zRow (zs ++ [x])) ∧ Below base V W ∧ (∀ q, Kq q v (.slice va (zs.length + 1) vc) (V.alloc (.cells #[.int .i64 x] 3)) W) := by
  have hb2 : Below V.heap.size V (V.alloc (.cells #[.int .i64 x] 3)) := gAl _ _
  have hv2 : (V.alloc (.cells #[.int .i64 x] 3)).heap[V.heap.size]? = some (.cells #[.int .i64 x] 3 (0, 0)) := heap_alloc_new V _
  obtain ⟨v', W, hrun, hrow, hkq⟩ := own_app (P := Try.prog) (vb := V.heap.size) (vs := [.int .i64 x]) Try.underlying34 inInfo rfl (ho.below hb2) (Nat.le_trans hb hb2.size) hv2 rfl (by intro v hv; rw [List.mem_singleton] at hv; rw [hv]; rfl) (by omega) (by omega)
  obtain ⟨va, vc, rfl⟩ := hrow.slice
  obtain ⟨a0, c0, rfl⟩ := ho.slice
  exact ⟨va, vc, a0, c0, W, rfl, hrun, by rw [List.length_append, zRow_snoc]; exact hrow, (hb2.mono hb).trans (Kq.below2 hkq (ho.below hb2) (Nat.le_trans hb hb2.size)), hkq⟩
set_option maxHeartbeats 16000000 in
theorem rNear_any (G : Gr) (na : Option Addr) (nc : Nat) (la : Option Addr) (lc : Nat) (max : Nat) (fr : Int) (rad : Nat) (w : World) (hin : GrIn w G na la) (hm : max < 2 ^ 64) (hrd : rad < 2 ^ 64) :
    Calls Try.prog 22 #[.agg #[.slice na G.nodes.length nc, .slice la G.links.length lc], .float .f64 max, .int .i64 fr, .float .f64 rad] w fun e w' => NearEnds w G (askE G max [fr]) (Nq.ahead G.nodes fr) (qn max) rad e w' := by
  obtain ⟨W1, hW1⟩ : ∃ W1, W1 = w.alloc (.cells #[.slice na G.nodes.length nc, .slice la G.links.length lc] 25) := ⟨_, rfl⟩
  have b1 : Below w.heap.size w W1 := by rw [hW1]; exact gAl _ _
  have s1 : w.heap.size < W1.heap.size := by rw [hW1]; simp
  have r1 : W1.heap[w.heap.size]? = some (.cells #[.slice na G.nodes.length nc, .slice la G.links.length lc] 25 (0, 0)) := by rw [hW1]; exact heap_alloc_new w _
  have HKG : Hid (∀ V, Below W1.heap.size W1 V → V.cell? ⟨w.heap.size, 0, none⟩ = some (.slice na G.nodes.length nc) ∧ V.cell? ⟨w.heap.size, 1, none⟩ = some (.slice la G.links.length lc)) := Lib.hid (fun V hV => by
    have := two_cells ((hV.block _ s1).trans r1)
    exact ⟨this.1, this.2.1⟩)
  have HB1 := Lib.hid b1
  have HS1 := Lib.hid s1
  have HIN : Hid (∀ V, Below W1.heap.size W1 V → GrIn V G na la) := Lib.hid (fun V hV => ⟨hin.nodes.kept (fun i hi => (b1.trans (hV.mono (Nat.le_of_lt s1))).block i hi) (b1.trans (hV.mono (Nat.le_of_lt s1))).size, hin.links.kept (fun i hi => (b1.trans (hV.mono (Nat.le_of_lt s1))).block i hi) (b1.trans (hV.mono (Nat.le_of_lt s1))).size, hin.wts, hin.n1, hin.l1⟩)
  have HAK := Lib.hid (asked_any G na nc la lc max fr W1 (hin.below b1) hm)
  have HRD := Lib.hid hrd
  obtain ⟨E, hEE⟩ : ∃ E, E = askE G max [fr] := ⟨_, rfl⟩
  have HD : Hid (E = 0 → ∀ V, Below W1.heap.size W1 V → Calls Try.prog 34 #[.agg #[.slice na G.nodes.length nc, .slice la G.links.length lc], .float .f64 max, .int .i64 fr] V fun e w' => RDistsEnds V G (Nq.ahead G.nodes fr) (qn max) e w') := Lib.hid (fun hz V hV => by
    obtain ⟨a1, a2, a3⟩ := askE_zero (hEE.symm.trans hz)
    have hhas : has G.nodes fr = true := by simpa using a3
    obtain ⟨lim, l1, l2, l3⟩ := limit_q max hm a1
    subst l3
    rw [qn_qw (by omega)]
    exact rdists_any G na nc la lc lim fr V (HIN.out V hV) a2 hhas (by omega) l2)
  have HNZ : Hid (E = 0 → 0 < G.nodes.length ∧ G.nodes.length ≤ 256) := Lib.hid (ask_nz hEE)
  rw [← hEE] at HAK ⊢
  generalize Nq.ahead G.nodes fr = s at *
  generalize qn max = lim at *
  obtain ⟨g0, g1⟩ := HKG.out W1 (Below.refl _ _)
  clear hin hm hrd b1 s1 r1 hEE
  go_enter Try.func22, Try.ntmps22
  go_upto_region 1 with (fail)
  rw [← hW1]
  clear hW1
  go_wp2_with fail
  refine HAK.out.mono ?_
  rintro e w2 ⟨rfl, hb2⟩
  have HB2 := Lib.hid hb2
  clear hb2 g0 g1
  by_cases hE : E = 0
  · subst hE
    have HNL := Lib.hid (HNZ.out rfl)
    cases hnan : nanB rad with
    | true =>
      go_wp2_with (go_at_call 43; refine (isnan _ _).mono ?_; rintro e w' ⟨rfl, rfl⟩; rw [hnan])
      refine bodyPost_ret (v := .tuple #[.slice none 0 0, .int .i64 10]) (by simp [results, Try.results22, go_sem]) rfl ?_
      exact Or.inl ⟨by rw [nearE_nan hnan]; decide, by rw [nearE_nan hnan], gNx HB1.out HB2.out⟩
    | false =>
    cases hng : ng rad with
    | true =>
      go_wp2_with (first | (go_at_call 43; refine (isnan _ _).mono ?_; rintro e w' ⟨rfl, rfl⟩; rw [hnan]) | (go_at_call 44; refine (signbit _ _ HRD.out).mono ?_; rintro e w' ⟨rfl, rfl⟩; rw [hng]))
      refine bodyPost_ret (v := .tuple #[.slice none 0 0, .int .i64 12]) (by simp [results, Try.results22, go_sem]) rfl ?_
      exact Or.inl ⟨by rw [nearE_ng hnan hng]; decide, by rw [nearE_ng hnan hng], gNx HB1.out HB2.out⟩
    | false =>
    have HNE : Hid (nearE 0 rad = 0) := Lib.hid (nearE_ok hnan hng)
    have HD2 := Lib.hid (HD.out rfl w2 HB2.out)
    obtain ⟨g0, g1⟩ := HKG.out w2 HB2.out
    go_upto_region 8 with (first | (go_at_call 43; refine (isnan _ _).mono ?_; rintro e w' ⟨rfl, rfl⟩; rw [hnan]) | (go_at_call 44; refine (signbit _ _ HRD.out).mono ?_; rintro e w' ⟨rfl, rfl⟩; rw [hng]))
    clear hnan hng HD HNZ HAK
    go_wp2_with fail
    refine HD2.out.mono ?_
    rintro e w3 ⟨l, v, rfl, ho, hdp, hb3⟩
    have HDC : Hid (∃ dg dc, v = .slice (some ⟨dg, 0, none⟩) G.nodes.length dc ∧ ∀ V, Below w3.heap.size w3 V → ∀ i, i < G.nodes.length → V.cell? ⟨dg, i, none⟩ = some (.float .f64 (dw (g_ l i)))) := Lib.hid (by
      obtain ⟨dg, dc, rfl, -⟩ := own1_cell ho HNL.out.1
      refine ⟨dg, dc, rfl, fun V hV i hi => ?_⟩
      obtain ⟨g', c', e1, e2⟩ := own1_cell (ho.below hV) HNL.out.1
      simp only [Value.slice.injEq, Option.some.injEq, Addr.mk.injEq, and_true, true_and] at e1
      obtain ⟨rfl, rfl⟩ := e1
      exact e2 i hi _ (dRow_at (by rw [hdp.1]; exact hi)))
    obtain ⟨dg, dc, hve, hdc⟩ := HDC.out
    have HDV := Lib.hid hdc
    subst hve
    have HDP := Lib.hid hdp
    have HW3 : Hid (Below W1.heap.size W1 w3) := Lib.hid (gNx HB2.out hb3)
    clear ho hdp hb3 hdc g0 g1 HDC HD2
    go_wp2_with fail
    go_loopw [13, 12] (fun i v wr => ∃ k : Nat, i = .int .i64 (k : Int) ∧ k ≤ G.nodes.length ∧ Own wr w3.heap.size 3 1 v (nearZ G.nodes l rad k).length (zRow (nearZ G.nodes l rad k)) ∧ Below w3.heap.size w3 wr) (fun i _ _ => G.nodes.length - (RowKit.intOf i).toNat)
    case atStart => exact ⟨0, rfl, Nat.zero_le _, Or.inl ⟨rfl, rfl, none, rfl⟩, Below.refl _ _⟩
    case round =>
      obtain ⟨k, rfl, hk, ho, hbel⟩ := hrel
      have HBE := Lib.hid hbel
      by_cases hlt : k < G.nodes.length
      · have hlti : (k : Int) < (G.nodes.length : Int) := by omega
        have hk0 : (0 : Int) ≤ (k : Int) := by omega
        have hkw : IntKind.i64.wrap ((k : Int) + 1) = (k : Int) + 1 := by rw [IntKind.wrap_i64]; have := HNL.out.2; omega
        have d0 := HDV.out wr hbel k hlt
        obtain ⟨k0, k1⟩ := HKG.out wr (gNx HW3.out hbel)
        obtain ⟨b, o, hna, hbb, hcn⟩ := (HIN.out wr (gNx HW3.out hbel)).nodes.at k hlt
        obtain ⟨ni, -⟩ := hcn k hlt
        rw [idI_at hlt] at ni
        clear hcn hbb
        obtain ⟨dk, hdk⟩ : ∃ dk, dk = dw (g_ l k) := ⟨_, rfl⟩
        rw [← hdk] at d0
        cases hnb : nearB l rad k with
        | true =>
          have hnb2 : (FloatKind.f64.format.order dk rad == some .lt) = true := by rw [hdk]; exact hnb
          obtain ⟨va, vc, a0, c0, W3, rfl, hrun, hrow, hbl, -⟩ := z_app ho hbel.size (by have := nearZ_len G.nodes l rad k; have := HNL.out.2; omega) (idI G.nodes k)
          have HR := Lib.hid hrun
          have HRW : Hid (Own W3 w3.heap.size 3 1 (.slice va ((nearZ G.nodes l rad k).length + 1) vc) (nearZ G.nodes l rad (k + 1)).length (zRow (nearZ G.nodes l rad (k + 1)))) := Lib.hid (by rw [nearZ_yes hnb]; exact hrow)
          have HBB : Hid (Below w3.heap.size w3 W3) := Lib.hid (hbel.trans hbl)
          subst hna
          clear ho hbel hrun hrow hbl hnb hdk
          generalize (nearZ G.nodes l rad k).length = zl at *
          generalize idI G.nodes k = idk at *
          go_wp2_with (at_builtin; refine Lib.wpList_append_run _ rfl _ _ _ _ rfl _ _ rfl rfl _ _ (HR.out _) ?_)
          refine ⟨⟨k + 1, by simp, by omega, HRW.out, HBB.out⟩, ?_⟩
          simp [RowKit.intOf]; omega
        | false =>
          have hnb2 : (FloatKind.f64.format.order dk rad == some .lt) = false := by rw [hdk]; exact hnb
          have HRW : Hid (Own wr w3.heap.size 3 1 u12 (nearZ G.nodes l rad (k + 1)).length (zRow (nearZ G.nodes l rad (k + 1)))) := Lib.hid (by rw [nearZ_no hnb]; exact ho)
          clear ho hbel hnb hdk
          go_wp2_with fail
          refine ⟨⟨k + 1, by simp, by omega, HRW.out, HBE.out⟩, ?_⟩
          simp [RowKit.intOf]; omega
      · have hnk : ¬ (k : Int) < (G.nodes.length : Int) := by omega
        have hke : k = G.nodes.length := by omega
        rw [hke] at ho
        have HOW := Lib.hid (ho.mono (gNx HB1.out HW3.out).size)
        have HBW := Lib.hid (gNx HB1.out (gNx HW3.out HBE.out))
        clear ho hbel hke hlt hk
        go_wp2_with fail
        refine bodyPost_ret (v := .tuple #[u12, .int .i64 0]) (by simp [results, Try.results22, go_sem]) rfl ?_
        exact Or.inr ⟨HNE.out, rfl, l, u12, rfl, HOW.out, HDP.out, HBW.out⟩
  · have HNE := Lib.hid hE
    have hz2 : (E != 0) = true := by simpa using hE
    clear hE
    go_wp2_with fail
    refine bodyPost_ret (v := .tuple #[.slice none 0 0, .int .i64 E]) (by simp [results, Try.results22, go_sem]) rfl ?_
    exact Or.inl ⟨by rw [nearE_ne HNE.out]; exact HNE.out, by rw [nearE_ne HNE.out], gNx HB1.out HB2.out⟩
end Go.Proofs.Ytcmknkdfoebniaa
