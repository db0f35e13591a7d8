/- Caches: rows of what is heard that grow; the document's Copy, the program's All. -/
import Derived.Test.YtjhmfmpaaljegaaGreatKwH
namespace Go.Proofs.YtjhmfmpaaljegaaGreat
open Go.RowKit Go.Lib Go.Ow Go.Cw Go.Mq Go.Kq Go.Kw
set_option linter.unusedVariables false
set_option linter.unusedSimpArgs false
set_option maxRecDepth 100000

/-- A list in memory of one's own. -/
def OwN (S : Nat → Prop) (w : World) (ns : List Nw) (na : Option Addr) (nc : Nat) : Prop := (ns = [] ∧ nc = 0) ∨ ∃ rk, S rk ∧ rk < w.heap.size ∧ Nr w rk (.slice na ns.length nc) ns
theorem OwN.of_row {S : Nat → Prop} {w : World} {ns : List Nw} {na : Option Addr} {nc r : Nat} (h : Nr w r (.slice na ns.length nc) ns) (hS : S r) : OwN S w ns na nc := by
  rcases h with ⟨h0, h1, a', e⟩ | ⟨o, cap, cur, h1, h2, h3⟩
  · simp only [Value.slice.injEq] at e
    exact Or.inl ⟨List.length_eq_zero_iff.1 h0, e.2.2⟩
  · exact Or.inr ⟨r, hS, (Array.getElem?_eq_some_iff.1 h2).1, Or.inr ⟨o, cap, cur, h1, h2, h3⟩⟩
theorem OwN.nws {S : Nat → Prop} {w : World} {ns : List Nw} {na : Option Addr} {nc : Nat} (h : OwN S w ns na nc) : NwS S w ns na := by
  rcases h with ⟨h, -⟩ | ⟨rk, h1, -, h2⟩
  · exact Or.inl h
  · exact (nr_nws h2).mono (fun b e => by rw [e]; exact h1)
theorem OwN.kept {S T : Nat → Prop} {w w' : World} {ns : List Nw} {na : Option Addr} {nc : Nat} (h : OwN S w ns na nc) (hk : ∀ b, S b → b < w.heap.size → w'.heap[b]? = w.heap[b]? ∧ T b) (hs : w.heap.size ≤ w'.heap.size) : OwN T w' ns na nc := by
  rcases h with h | ⟨rk, h1, h2, h3⟩
  · exact Or.inl h
  · exact Or.inr ⟨rk, (hk rk h1 h2).2, by omega, h3.keep (fun _ _ => (hk rk h1 h2).1)⟩
/-- The lists of a row, each one's own. -/
def LsO (S : Nat → Prop) (w : World) (l : List Hv) : Prop := ∀ p ∈ l, ∃ na nc, p.2 = .slice na p.1.ns.length nc ∧ OwN S w p.1.ns na nc
theorem LsO.kept {S T : Nat → Prop} {w w' : World} {l : List Hv} (h : LsO S w l) (hk : ∀ b, S b → b < w.heap.size → w'.heap[b]? = w.heap[b]? ∧ T b) (hs : w.heap.size ≤ w'.heap.size) : LsO T w' l := fun p hp => by
  obtain ⟨na, nc, e, ho⟩ := h p hp
  exact ⟨na, nc, e, ho.kept hk hs⟩
theorem LsO.ls {S : Nat → Prop} {w : World} {l : List Hv} (h : LsO S w l) : Ls S w l := fun p hp => by
  obtain ⟨na, nc, e, ho⟩ := h p hp
  exact ⟨na, nc, e, ho.nws⟩
/-- A row that grows, its lists apart from it; B is where the call began. -/
def Bd (B : Nat) (w : World) (m : List Hv) (a : Option Addr) (c : Nat) (wr : World) : Prop := (∃ r, Hr wr r (.slice a m.length c) m ∧ B ≤ r ∧ LsO (fun b => B ≤ b ∧ b ≠ r) wr m) ∧ Below B w wr
theorem hr_fresh {w : World} {r : Nat} {v : Value} {l : List Hv} (h : Hr w r v l) (N : Nat) : ∃ r0, Hr w r0 v l ∧ (r0 = N ∨ (r0 = r ∧ r < w.heap.size)) := by
  rcases h with h | ⟨o, cap, cur, h1, h2, h3⟩
  · exact ⟨N, Or.inl h, Or.inl rfl⟩
  · exact ⟨r, Or.inr ⟨o, cap, cur, h1, h2, h3⟩, Or.inr ⟨rfl, (Array.getElem?_eq_some_iff.1 h2).1⟩⟩
theorem bd_grow {B : Nat} {w wo V2 : World} {m : List Hv} {a3 : Option Addr} {c3 : Nat} (h : Bd B w m a3 c3 wo) (hB : B ≤ wo.heap.size) (h2 : Below wo.heap.size wo V2) (hd : Hd) (na : Option Addr) (nc : Nat) (hp : OwN (fun b => wo.heap.size ≤ b) V2 hd.ns na nc) (hlen : m.length < 1000000) :
    ∃ a9 c9 W9, (∀ ty, (Builtin.append_ #[25, 25] ty #[.slice a3 m.length c3, .slice (some ⟨V2.heap.size, 0, none⟩) 1 1]).run Tryz.prog (V2.alloc (.cells #[.int .i64 hd.id, .float .f64 hd.wt, .slice na hd.ns.length nc] 56)) = .ok (.slice a9 (m ++ [(hd, Value.slice na hd.ns.length nc)]).length c9) W9) ∧ Bd B w (m ++ [(hd, Value.slice na hd.ns.length nc)]) a9 c9 W9 := by
  obtain ⟨⟨r, hrow, hr, hls⟩, hb⟩ := h
  obtain ⟨r0, hrow0', hr0⟩ := hr_fresh hrow (V2.heap.size + 1)
  have hrow0 := hrow0'.below h2
  have hs2 := h2.size
  obtain ⟨a9, c9, W9, r9, hrun, hrow9, hr9, hb9, hs9, hk9, hrr⟩ := h_app ((hd, Value.slice na hd.ns.length nc) : Hv) hrow0 rfl hlen (B := B) (w0 := w) (by omega) (hb.trans (h2.mono hB)) (by omega) _ rfl
  refine ⟨a9, c9, W9, hrun, ⟨r9, hrow9, hr9, fun q hq => ?_⟩, hb9⟩
  rcases List.mem_append.1 hq with hq | hq
  · obtain ⟨na', nc', e, ho⟩ := hls q hq
    refine ⟨na', nc', e, ho.kept (fun b hb2 hbl => ?_) (by omega)⟩
    have hb2 : B ≤ b ∧ b ≠ r := hb2
    exact ⟨(hk9 b (by omega) (by omega)).trans (h2.block b hbl), by omega, by omega⟩
  · obtain rfl : q = (hd, Value.slice na hd.ns.length nc) := by simpa using hq
    refine ⟨na, nc, rfl, hp.kept (fun b hb2 hbl => ?_) (by omega)⟩
    have hb2 : wo.heap.size ≤ b := hb2
    exact ⟨hk9 b hbl (by omega), by omega, by omega⟩
/-- A row that is told. -/
def HdRet (w : World) (M : List Hd) (f : Value → Value) (e : Ending) (w' : World) : Prop := ∃ (l : List Hv) (a : Option Addr) (c : Nat), l.map (·.1) = M ∧ e = .returned (f (.slice a l.length c)) ∧ Bd w.heap.size w l a c w'
theorem Bd.hin {w w' : World} {l : List Hv} {a : Option Addr} {c : Nat} (h : Bd w.heap.size w l a c w') : HdIn (fun b => w.heap.size ≤ b) w' l a := by
  obtain ⟨⟨r, h1, h2, h3⟩, -⟩ := h
  exact hr_in h1 (h3.ls.mono (fun b hb => hb.1)) h2
theorem bd_nil (w : World) (a : Option Addr) (c : Nat) (wr : World) (hc : c = 0) (hb : Below w.heap.size w wr) : Bd w.heap.size w [] a c wr := by
  subst hc
  exact ⟨⟨w.heap.size, Or.inl ⟨rfl, rfl, a, rfl⟩, Nat.le_refl _, by intro p hp; simp at hp⟩, hb⟩
theorem plain_snoc (m : List Hv) (h : Hd) (v : Value) : (m ++ [(h, v)]).map (·.1) = m.map (·.1) ++ [h] := by simp
abbrev hds (l : List Hv) : List Hd := l.map (·.1)
set_option maxHeartbeats 8000000 in
theorem rCopy_any {S : Nat → Prop} (l : List Hv) (a : Option Addr) (c : Nat) (w : World) (h : HdIn S w l a) (hl : l.length ≤ 256) (hns : ∀ x ∈ hds l, x.ns.length ≤ 4294967294) :
    Calls Tryz.prog 49 #[.slice a l.length c] w fun e w' => HdRet w (hds l) id e w' := by
  have HR := Lib.hid h
  have HL := Lib.hid (And.intro hl hns)
  clear h hl hns
  go_enter Tryz.func49, Tryz.ntmps49
  go_wp2_with fail
  go_loopw [4, 3] (fun ii v wr => ∃ (k : Nat) (m : List Hv) (a : Option Addr) (c : Nat), ii = .int .i64 (k : Int) ∧ v = .slice a m.length c ∧ k ≤ l.length ∧ hds m = (hds l).take k ∧ Bd w.heap.size w m a c wr) (fun ii _ _ => l.length - (RowKit.intOf ii).toNat)
  case atStart => exact ⟨0, [], _, 0, rfl, rfl, Nat.zero_le _, by simp, bd_nil w _ 0 _ rfl (gAl _ _)⟩
  case round =>
    obtain ⟨k, m, a3, c3, rfl, rfl, hk, hpl, hbd⟩ := hrel
    obtain ⟨wo, hwo⟩ : ∃ wo, wo = wr := ⟨_, rfl⟩
    subst hwo
    have HBD := Lib.hid hbd
    have HPL := Lib.hid hpl
    by_cases hlt : k < l.length
    · have hlti : (k : Int) < (l.length : Int) := by omega
      have hk0 : (0 : Int) ≤ (k : Int) := by omega
      have hkw : IntKind.i64.wrap ((k : Int) + 1) = (k : Int) + 1 := by rw [IntKind.wrap_i64]; have := HL.out.1; omega
      obtain ⟨b, o, rfl, -, hbl, hat⟩ := HR.out.at hlt
      obtain ⟨na, nc, -, hn, k0, k1, k2⟩ := hat k hlt
      clear hat
      have hpk : (hds l).take (k + 1) = (hds l).take k ++ [l[k].1] := by
        rw [List.take_succ_eq_append_getElem (by unfold hds; rw [List.length_map]; exact hlt)]
        unfold hds
        rw [List.getElem_map]
      have HPK := Lib.hid hpk
      have hlen := HL.out.2 l[k].1 (List.mem_map.2 ⟨l[k], List.getElem_mem _, rfl⟩)
      generalize l[k].1 = p at *
      have hml : m.length = k := by have := congrArg List.length hpl; unfold hds at this; rw [List.length_map, List.length_take, List.length_map] at this; omega
      have hl256 := HL.out.1
      obtain ⟨W1, hW1⟩ : ∃ W1, W1 = wo.drew := ⟨_, rfl⟩
      have hb1 : Below wo.heap.size wo W1 := by rw [hW1]; exact (Below.refl _ _).drew
      have HBW : Hid (Below w.heap.size w W1) := Lib.hid (by rw [hW1]; exact hbd.2.drew)
      have HSZ : Hid (w.heap.size ≤ W1.heap.size) := Lib.hid HBW.out.size
      have hs1 : W1.heap.size = wo.heap.size := by rw [hW1]; rfl
      have HKA : Hid (∀ V, Below w.heap.size w V → V.cell? ⟨b, o + k * 3, none⟩ = some (.int .i64 p.id) ∧ V.cell? ⟨b, o + k * 3 + 1, none⟩ = some (.float .f64 p.wt) ∧ V.cell? ⟨b, o + k * 3 + 2, none⟩ = some (.slice na p.ns.length nc)) := Lib.hid (fun V hV => ⟨(hV.cell (p := ⟨b, _, none⟩) hbl).trans k0, (hV.cell (p := ⟨b, _, none⟩) hbl).trans k1, (hV.cell (p := ⟨b, _, none⟩) hbl).trans k2⟩)
      have HCL := Lib.hid (rNews_any p.ns na nc W1 ((hn.below (HBW.out)).news) (by omega))
      have HAPP : Hid (∀ V2 a2 c2 r2, Below W1.heap.size W1 V2 → W1.heap.size ≤ r2 → Nr V2 r2 (.slice a2 p.ns.length c2) p.ns → ∃ a9 c9 W9, (∀ ty, (Builtin.append_ #[25, 25] ty #[.slice a3 m.length c3, .slice (some ⟨V2.heap.size, 0, none⟩) 1 1]).run Tryz.prog (V2.alloc (.cells #[.int .i64 p.id, .float .f64 p.wt, .slice a2 p.ns.length c2] 56)) = .ok (.slice a9 (m ++ [(p, Value.slice a2 p.ns.length c2)]).length c9) W9) ∧ Bd w.heap.size w (m ++ [(p, Value.slice a2 p.ns.length c2)]) a9 c9 W9 ∧ Below w.heap.size w W9) := Lib.hid (fun V2 a2 c2 r2 h2 hr2 hn2 => by
        have hz := hbd.2.size
        obtain ⟨a9, c9, W9, g1, g2⟩ := bd_grow hbd hz (V2 := V2) (by rw [hs1] at h2; exact hb1.trans h2) p a2 c2 (OwN.of_row hn2 (by omega)) (by omega)
        exact ⟨a9, c9, W9, g1, g2, g2.2⟩)
      have HNX : Hid (∀ a9 c9 W9 (ac : Option Addr × Nat), Bd w.heap.size w (m ++ [(p, Value.slice ac.1 p.ns.length ac.2)]) a9 c9 W9 → Below w.heap.size w W9 → (∃ (k' : Nat) (m' : List Hv) (a' : Option Addr) (c' : Nat), Value.int .i64 ((k : Int) + 1) = .int .i64 (k' : Int) ∧ Value.slice a9 (m.length + 1) c9 = .slice a' m'.length c' ∧ k' ≤ l.length ∧ hds m' = (hds l).take k' ∧ Bd w.heap.size w m' a' c' W9) ∧ l.length - ((k : Int) + 1).toNat < l.length - (k : Int).toNat) := Lib.hid (fun a9 c9 W9 ac g1 _ => ⟨⟨k + 1, _, a9, c9, congrArg (Value.int .i64) (by omega), by simp, hlt, by rw [HPK.out, ← HPL.out]; exact plain_snoc m p _, g1⟩, by omega⟩)
      clear hbd hpl hk k0 k1 k2 hn hpk hlen hml hl256 hb1 hs1 hlt
      go_upto_region 5 with (fail)
      refine wp_region_held_drew (S := fun V => Below w.heap.size w V) (by kernel_rfl) (by rw [← hW1]; exact HBW.out) (fun hs0 => ?_)
      rw [← hW1]
      clear hW1
      refine tk 0 (by assumption) rfl (by kernel_rfl) (fun _ _ _ h => h) (fun V hV => by go_simp; try with_reducible rfl) ?_
      try simp only [Act.put, sqA, sqB, sqC, sqD, sqE, sqF]
      refine tk 1 (by assumption) rfl (by kernel_rfl) (fun _ _ _ h => h) (fun V hV => by go_simp; try with_reducible rfl) ?_
      try simp only [Act.put, sqA, sqB, sqC, sqD, sqE, sqF]
      refine tk 2 (by assumption) rfl (by kernel_rfl) (fun _ _ _ h => h) (fun V hV => by go_simp; try with_reducible rfl) ?_
      try simp only [Act.put, sqA, sqB, sqC, sqD, sqE, sqF]
      refine tk 3 (by assumption) rfl (by kernel_rfl) (fun _ _ _ h => h) (fun V hV => by go_simp; try with_reducible rfl) ?_
      try simp only [Act.put, sqA, sqB, sqC, sqD, sqE, sqF]
      refine tk 4 (by assumption) rfl (by kernel_rfl) (fun _ _ _ h => h) (fun V hV => by go_simp; try with_reducible rfl) ?_
      try simp only [Act.put, sqA, sqB, sqC, sqD, sqE, sqF]
      refine tk 5 (by assumption) rfl (by kernel_rfl) (fun _ _ _ h => h) (fun V hV => by obtain ⟨hx0, hx1, hx2⟩ := HKA.out V hV; go_simp; try with_reducible rfl) ?_
      try simp only [Act.put, sqA, sqB, sqC, sqD, sqE, sqF]
      refine tk 6 (by assumption) rfl (by kernel_rfl) (fun _ _ _ h => h) (fun V hV => by go_simp; try with_reducible rfl) ?_
      try simp only [Act.put, sqA, sqB, sqC, sqD, sqE, sqF]
      refine tk 7 (by assumption) rfl (by kernel_rfl) (fun _ _ _ h => h) (fun V hV => by go_simp; try with_reducible rfl) ?_
      try simp only [Act.put, sqA, sqB, sqC, sqD, sqE, sqF]
      refine tk 8 (by assumption) rfl (by kernel_rfl) (fun _ _ _ h => h) (fun V hV => by go_simp; try with_reducible rfl) ?_
      try simp only [Act.put, sqA, sqB, sqC, sqD, sqE, sqF]
      refine tk 9 (by assumption) rfl (by kernel_rfl) (fun _ _ _ h => h) (fun V hV => by go_simp; try with_reducible rfl) ?_
      try simp only [Act.put, sqA, sqB, sqC, sqD, sqE, sqF]
      refine tk 10 (by assumption) rfl (by kernel_rfl) (fun _ _ _ h => h) (fun V hV => by obtain ⟨hx0, hx1, hx2⟩ := HKA.out V hV; go_simp; try with_reducible rfl) ?_
      try simp only [Act.put, sqA, sqB, sqC, sqD, sqE, sqF]
      refine tk 11 (by assumption) rfl (by kernel_rfl) (fun _ _ _ h => h) (fun V hV => by go_simp; try with_reducible rfl) ?_
      try simp only [Act.put, sqA, sqB, sqC, sqD, sqE, sqF]
      refine tk 12 (by assumption) rfl (by kernel_rfl) (fun _ _ _ h => h) (fun V hV => by go_simp; try with_reducible rfl) ?_
      try simp only [Act.put, sqA, sqB, sqC, sqD, sqE, sqF]
      refine tk 13 (by assumption) rfl (by kernel_rfl) (fun _ _ _ h => h) (fun V hV => by go_simp; try with_reducible rfl) ?_
      try simp only [Act.put, sqA, sqB, sqC, sqD, sqE, sqF]
      refine tk 14 (by assumption) rfl (by kernel_rfl) (fun _ _ _ h => h) (fun V hV => by go_simp; try with_reducible rfl) ?_
      try simp only [Act.put, sqA, sqB, sqC, sqD, sqE, sqF]
      refine tk 15 (by assumption) rfl (by kernel_rfl) (fun _ _ _ h => h) (fun V hV => by obtain ⟨hx0, hx1, hx2⟩ := HKA.out V hV; go_simp; try with_reducible rfl) ?_
      try simp only [Act.put, sqA, sqB, sqC, sqD, sqE, sqF]
      refine wpAnyH_ready (rs := [16]) (by kernel_rfl) (by simp) ?_
      refine AllReadyH.cons (o := _) rfl (fun K hK => ?_) AllReadyH.nil
      go_simp
      refine HCL.out.mono ?_
      rintro e2 V2 ⟨hb2, a2, c2, r2, rfl, hr2, ho2⟩
      have HB2 := Lib.hid hb2
      have HE2 := Lib.hid (And.intro hr2 ho2)
      clear hr2 ho2 hb2
      go_wp2_with fail
      refine hK.out _ _ (HBW.out.trans (HB2.out.mono HSZ.out)) (fun hH2 => ?_)
      clear hK K
      try simp only [Act.put, sqA, sqB, sqC, sqD, sqE, sqF]
      refine tk 17 (by assumption) rfl (by kernel_rfl) (fun _ _ _ h => h) (fun V hV => by go_simp; try with_reducible rfl) ?_
      try simp only [Act.put, sqA, sqB, sqC, sqD, sqE, sqF]
      refine wpAnyH_ready (rs := [18]) (by kernel_rfl) (by simp) ?_
      refine AllReadyH.cons (o := _) rfl (fun K hK => ?_) AllReadyH.nil
      go_simp
      refine hK.out _ _ ((HBW.out.trans (HB2.out.mono HSZ.out)).trans ((gAl V2 _).mono (Nat.le_trans HSZ.out HB2.out.size))) (fun hH3 => ?_)
      clear hK K
      try simp only [Act.put, sqA, sqB, sqC, sqD, sqE, sqF]
      refine wpAnyH_ready (rs := [19]) (by kernel_rfl) (by simp) ?_
      refine AllReadyH.cons (o := _) rfl (fun K hK => ?_) AllReadyH.nil
      obtain ⟨a9, c9, W9, hrun, hrow9, hb9⟩ := HAPP.out V2 a2 c2 r2 HB2.out HE2.out.1 HE2.out.2
      rw [if_pos (by rfl)]
      refine kwp_append 25 (.tmp 12) (.tmp 30) rfl _ _ _ rfl rfl hrun ?_
      refine hK.out _ _ hb9 (fun hH4 => ?_)
      clear hK K
      try simp only [Act.put, sqA, sqB, sqC, sqD, sqE, sqF]
      refine tk 20 (by assumption) rfl (by kernel_rfl) (fun _ _ _ h => h) (fun V hV => by go_simp; try with_reducible rfl) ?_
      try simp only [Act.put, sqA, sqB, sqC, sqD, sqE, sqF]
      refine wpAnyH_done (by kernel_rfl) ?_ _
      have HROW9 := Lib.hid (And.intro hrow9 hb9)
      clear hrow9 hb9 hrun hs0
      go_wp2_with fail
      exact HNX.out a9 c9 W9 (a2, c2) HROW9.out.1 HROW9.out.2
    · have hnk : ¬ (k : Int) < (l.length : Int) := by omega
      have e : hds m = hds l := by rw [hpl]; exact List.take_of_length_le (by unfold hds; rw [List.length_map]; omega)
      have HE := Lib.hid (And.intro e hbd)
      clear hlt hk hpl hbd e
      go_wp2_with fail
      refine bodyPost_ret (v := .slice a3 m.length c3) (by simp [results, Tryz.results49, go_sem]) rfl ?_
      exact ⟨m, a3, c3, HE.out.1, rfl, HE.out.2⟩
theorem Bd.mono {B : Nat} {w wr : World} {l : List Hv} {a : Option Addr} {c : Nat} {w0 : World} (h : Bd B w l a c wr) (hb : Below w0.heap.size w0 w) (hB : w0.heap.size ≤ B) : Bd w0.heap.size w0 l a c wr := by
  obtain ⟨⟨r, h1, h2, h3⟩, h4⟩ := h
  exact ⟨⟨r, h1, by omega, h3.kept (fun b hb2 _ => ⟨rfl, by have hb3 : B ≤ b ∧ b ≠ r := hb2; exact ⟨by omega, hb3.2⟩⟩) (Nat.le_refl _)⟩, hb.trans (h4.mono hB)⟩
/-- The neighbours' numbers, told in their order. -/
theorem kIds_any {S T : Nat → Prop} {w : World} {c mb : Nat} {N : List (Hd × Nat)} (h : Cb S T w c mb N) : Calls Tryz.prog 38 #[.pointer (some ⟨c, 0, none⟩)] w fun e w' => Below w.heap.size w w' ∧ ∃ v, e = .returned v ∧ ((N = [] ∧ v = .slice none 0 0) ∨ ∃ g cap, v = .slice (some ⟨g, 0, none⟩) N.length cap ∧ w.heap.size ≤ g ∧ g < w'.heap.size ∧ ∀ k (hk : k < N.length), w'.cell? ⟨g, k, none⟩ = some (.int .i64 N[k].1.id)) := by
  obtain ⟨c0, c1⟩ := h.cells
  have hn : N.length ≤ 256 := by have := h.ok.len; rw [List.length_map] at this; exact this
  have hsz : Maps.size (dat (keyL N)) = N.length := by rw [dat_size]; unfold keyL; rw [List.length_map]
  refine (kIdsMap mb N.length (dat (keyL N)) ptrR c w h.own (by rw [hsz]; unfold maxLen; omega) (by rw [hsz]; omega) c0 c1).mono ?_
  rintro e w' ⟨v, ss, rfl, hp, hrow, hnil, hb⟩
  refine ⟨hb, v, rfl, ?_⟩
  rw [dat_keys] at hp
  have hk : (keyL N).map (·.1) = N.map (fun p => p.1.id) := by unfold keyL; rw [List.map_map]; rfl
  rw [hk] at hp
  have hlen : ss.length = N.length := by rw [hp.length_eq, List.length_map]
  have hsort : ss.mergeSort (fun x y => decide (x ≤ y)) = N.map (fun p => p.1.id) := by
    have h1 := mergeSort_of_perm_i hp
    have h2 : (N.map (fun p => p.1.id)).mergeSort leI = N.map (fun p => p.1.id) := by
      apply List.mergeSort_of_pairwise
      rw [List.pairwise_map]
      have hr := h.ok.rise
      unfold RiseH at hr
      rw [List.pairwise_map] at hr
      exact hr.imp (fun {a b} hab => by simp only [leI, decide_eq_true_eq]; omega)
    exact h1.trans h2
  rw [hsort, hlen] at hrow
  rcases Own.of_row hrow with ⟨h0, -, -⟩ | ⟨g, cap, cur, e1, hg, hc, hcap, -, hs, hx⟩
  · have hN : N = [] := List.length_eq_zero_iff.1 h0
    refine Or.inl ⟨hN, hnil.2 (List.length_eq_zero_iff.1 (by rw [hlen]; exact h0))⟩
  · refine Or.inr ⟨g, cap, e1, hg, (Array.getElem?_eq_some_iff.1 hc).1, fun k hk2 => ?_⟩
    rw [cell_of_row w' g _ _ _ (0, 0) hc, ← Array.getElem?_toList]
    have h3 : (cur.toList.take (N.length * 1))[k]? = cur.toList[k]? := by rw [List.getElem?_take, if_pos (by omega)]
    rw [← h3, hx]
    simp [encZ, hk2]
theorem getElem_cons_mem {N : List (Hd × Nat)} {k : Nat} (hk : k < N.length) : N[k] ∈ N := List.getElem_mem _
set_option maxHeartbeats 8000000 in
theorem kAll_any {S T : Nat → Prop} {w : World} {c mb : Nat} {N : List (Hd × Nat)} (h : Cb S T w c mb N) :
    Calls Tryz.prog 24 #[.pointer (some ⟨c, 0, none⟩)] w fun e w' => HdRet w (N.map (·.1)) id e w' := by
  have HC := Lib.hid h
  have HI := Lib.hid (kIds_any h)
  have HN : Hid (N.length ≤ 256) := Lib.hid (by have := h.ok.len; rw [List.length_map] at this; exact this)
  clear h
  go_enter Tryz.func24, Tryz.ntmps24
  go_wp2_with fail
  refine HI.out.mono ?_
  rintro e W1 ⟨hb1, v, rfl, hv⟩
  have HB1 := Lib.hid hb1
  obtain ⟨a0, cap0, hv0, hv2⟩ : ∃ a0 cap0, v = .slice a0 N.length cap0 ∧ (∀ k (hk : k < N.length), ∃ g, a0 = some ⟨g, 0, none⟩ ∧ g < W1.heap.size ∧ W1.cell? ⟨g, k, none⟩ = some (.int .i64 N[k].1.id)) := by
    rcases hv with ⟨hN, hv⟩ | ⟨g, cap, hv, -, hg2, hcl⟩
    · refine ⟨none, 0, by rw [hv, hN]; rfl, fun k hk => by rw [hN] at hk; simp at hk⟩
    · exact ⟨some ⟨g, 0, none⟩, cap, hv, fun k hk => ⟨g, rfl, hg2, hcl k hk⟩⟩
  subst hv0
  have HV := Lib.hid hv2
  clear hv hv2 hb1
  go_wp2_with fail
  go_loopw [10, 3] (fun ii v wr => ∃ (k : Nat) (m : List Hv) (a : Option Addr) (c : Nat), ii = .int .i64 (k : Int) ∧ v = .slice a m.length c ∧ k ≤ N.length ∧ hds m = (N.map (·.1)).take k ∧ Bd W1.heap.size W1 m a c wr) (fun ii _ _ => N.length - (RowKit.intOf ii).toNat)
  case atStart => exact ⟨0, [], none, 0, rfl, rfl, Nat.zero_le _, by simp, bd_nil W1 none 0 _ rfl (Below.refl _ _)⟩
  case round =>
    obtain ⟨k, m, a3, c3, rfl, rfl, hk, hpl, hbd⟩ := hrel
    obtain ⟨wo, hwo⟩ : ∃ wo, wo = wr := ⟨_, rfl⟩
    subst hwo
    have HBD := Lib.hid hbd
    have HPL := Lib.hid hpl
    by_cases hlt : k < N.length
    · have hlti : (k : Int) < (N.length : Int) := by omega
      have hk0 : (0 : Int) ≤ (k : Int) := by omega
      have hkw : IntKind.i64.wrap ((k : Int) + 1) = (k : Int) + 1 := by rw [IntKind.wrap_i64]; have := HN.out; omega
      obtain ⟨g, rfl, hg, hcg⟩ := HV.out k hlt
      have hcg2 : wo.cell? ⟨g, k, none⟩ = some (.int .i64 N[k].1.id) := (hbd.2.cell (p := ⟨g, _, none⟩) hg).trans hcg
      have hpk : (N.map (·.1)).take (k + 1) = (N.map (·.1)).take k ++ [N[k].1] := by
        rw [List.take_succ_eq_append_getElem (by rw [List.length_map]; exact hlt), List.getElem_map]
      have HPK := Lib.hid hpk
      have hmem : N[k] ∈ N := getElem_cons_mem hlt
      have hbw : Below w.heap.size w wo := HB1.out.trans (hbd.2.mono HB1.out.size)
      have hcbo := HC.out.below hbw
      obtain ⟨h0, h1⟩ := hcbo.cells
      have hrun := (own_look hcbo.own (num_64 (hcbo.ok.num N[k].1 (List.mem_map.2 ⟨N[k], hmem, rfl⟩)))).2 hcbo.key_ne N[k].2 (List.mem_map.2 ⟨N[k], hmem, rfl⟩)
      obtain ⟨na, nc, b0, b1, -, -, hns, -, -, hnil⟩ := (HC.out.nbs N[k] hmem).cells
      have hplt := (HC.out.nbs N[k] hmem).lt
      have hlen := okN_len (HC.out.ok.ns N[k].1 (List.mem_map.2 ⟨N[k], hmem, rfl⟩))
      generalize N[k] = p2 at *
      obtain ⟨p, pb⟩ := p2
      simp only at hcg2 hpk hrun b0 b1 hns hnil hplt hlen
      have hml : m.length = k := by have := congrArg List.length hpl; unfold hds at this; rw [List.length_map, List.length_take, List.length_map] at this; omega
      have hl256 := HN.out
      go_upto_region 6 with (fail)
      obtain ⟨W5, hW5⟩ : ∃ W5, W5 = wo.drew := ⟨_, rfl⟩
      have hb5 : Below wo.heap.size wo W5 := by rw [hW5]; exact (Below.refl _ _).drew
      have HBW : Hid (Below W1.heap.size W1 W5) := Lib.hid (by rw [hW5]; exact hbd.2.drew)
      have HSZ : Hid (W1.heap.size ≤ W5.heap.size) := Lib.hid HBW.out.size
      have hs1 : W5.heap.size = wo.heap.size := by rw [hW5]; rfl
      have HKA : Hid (∀ V, Below W1.heap.size W1 V → V.cell? ⟨pb, 0, none⟩ = some (.float .f64 p.wt) ∧ V.cell? ⟨pb, 1, none⟩ = some (.slice na p.ns.length nc) ∧ True) := Lib.hid (fun V hV => by
        have hbv : Below w.heap.size w V := HB1.out.trans (hV.mono HB1.out.size)
        exact ⟨(hbv.cell (p := ⟨pb, _, none⟩) hplt).trans b0, (hbv.cell (p := ⟨pb, _, none⟩) hplt).trans b1, trivial⟩)
      have HCL := Lib.hid (kClone_any p.ns na nc W5 (hns.below (hbw.trans (hb5.mono hbw.size))) hnil (by omega))
      have HAPP : Hid (∀ V2 a2 c2 r2, Below W5.heap.size W5 V2 → W5.heap.size ≤ r2 → Nr V2 r2 (.slice a2 p.ns.length c2) p.ns → ∃ a9 c9 W9, (∀ ty, (Builtin.append_ #[25, 25] ty #[.slice a3 m.length c3, .slice (some ⟨V2.heap.size, 0, none⟩) 1 1]).run Tryz.prog (V2.alloc (.cells #[.int .i64 p.id, .float .f64 p.wt, .slice a2 p.ns.length c2] 56)) = .ok (.slice a9 (m ++ [(p, Value.slice a2 p.ns.length c2)]).length c9) W9) ∧ Bd W1.heap.size W1 (m ++ [(p, Value.slice a2 p.ns.length c2)]) a9 c9 W9 ∧ Below W1.heap.size W1 W9) := Lib.hid (fun V2 a2 c2 r2 h2 hr2 hn2 => by
        have hz := hbd.2.size
        obtain ⟨a9, c9, W9, g1, g2⟩ := bd_grow hbd hz (V2 := V2) (by rw [hs1] at h2; exact hb5.trans h2) p a2 c2 (OwN.of_row hn2 (by omega)) (by omega)
        exact ⟨a9, c9, W9, g1, g2, g2.2⟩)
      have HNX : Hid (∀ a9 c9 W9 (ac : Option Addr × Nat), Bd W1.heap.size W1 (m ++ [(p, Value.slice ac.1 p.ns.length ac.2)]) a9 c9 W9 → Below W1.heap.size W1 W9 → (∃ (k' : Nat) (m' : List Hv) (a' : Option Addr) (c' : Nat), Value.int .i64 ((k : Int) + 1) = .int .i64 (k' : Int) ∧ Value.slice a9 (m.length + 1) c9 = .slice a' m'.length c' ∧ k' ≤ N.length ∧ hds m' = (N.map (·.1)).take k' ∧ Bd W1.heap.size W1 m' a' c' W9) ∧ N.length - ((k : Int) + 1).toNat < N.length - (k : Int).toNat) := Lib.hid (fun a9 c9 W9 ac g1 _ => ⟨⟨k + 1, _, a9, c9, congrArg (Value.int .i64) (by omega), by simp, hlt, by rw [HPK.out, ← HPL.out]; exact plain_snoc m p _, g1⟩, by omega⟩)
      clear hbd hpl hk b0 b1 hns hnil hpk hlen hml hl256 hb5 hs1 hlt hcg hcg2 hrun hcbo h0 h1 hbw
      refine wp_region_held_drew (S := fun V => Below W1.heap.size W1 V) (by kernel_rfl) (by rw [← hW5]; exact HBW.out) (fun hs0 => ?_)
      rw [← hW5]
      clear hW5
      refine tk 0 (by assumption) rfl (by kernel_rfl) (fun _ _ _ h => h) (fun V hV => by go_simp; try with_reducible rfl) ?_
      try simp only [Act.put, sqA, sqB, sqC, sqD, sqE, sqF]
      refine tk 1 (by assumption) rfl (by kernel_rfl) (fun _ _ _ h => h) (fun V hV => by go_simp; try with_reducible rfl) ?_
      try simp only [Act.put, sqA, sqB, sqC, sqD, sqE, sqF]
      refine tk 2 (by assumption) rfl (by kernel_rfl) (fun _ _ _ h => h) (fun V hV => by go_simp; try with_reducible rfl) ?_
      try simp only [Act.put, sqA, sqB, sqC, sqD, sqE, sqF]
      refine tk 3 (by assumption) rfl (by kernel_rfl) (fun _ _ _ h => h) (fun V hV => by go_simp; try with_reducible rfl) ?_
      try simp only [Act.put, sqA, sqB, sqC, sqD, sqE, sqF]
      refine tk 4 (by assumption) rfl (by kernel_rfl) (fun _ _ _ h => h) (fun V hV => by go_simp; try with_reducible rfl) ?_
      try simp only [Act.put, sqA, sqB, sqC, sqD, sqE, sqF]
      refine tk 5 (by assumption) rfl (by kernel_rfl) (fun _ _ _ h => h) (fun V hV => by obtain ⟨hx0, hx1, hx2⟩ := HKA.out V hV; go_simp; try with_reducible rfl) ?_
      try simp only [Act.put, sqA, sqB, sqC, sqD, sqE, sqF]
      refine tk 6 (by assumption) rfl (by kernel_rfl) (fun _ _ _ h => h) (fun V hV => by go_simp; try with_reducible rfl) ?_
      try simp only [Act.put, sqA, sqB, sqC, sqD, sqE, sqF]
      refine tk 7 (by assumption) rfl (by kernel_rfl) (fun _ _ _ h => h) (fun V hV => by go_simp; try with_reducible rfl) ?_
      try simp only [Act.put, sqA, sqB, sqC, sqD, sqE, sqF]
      refine tk 8 (by assumption) rfl (by kernel_rfl) (fun _ _ _ h => h) (fun V hV => by go_simp; try with_reducible rfl) ?_
      try simp only [Act.put, sqA, sqB, sqC, sqD, sqE, sqF]
      refine tk 9 (by assumption) rfl (by kernel_rfl) (fun _ _ _ h => h) (fun V hV => by obtain ⟨hx0, hx1, hx2⟩ := HKA.out V hV; go_simp; try with_reducible rfl) ?_
      try simp only [Act.put, sqA, sqB, sqC, sqD, sqE, sqF]
      refine wpAnyH_ready (rs := [10]) (by kernel_rfl) (by simp) ?_
      refine AllReadyH.cons (o := _) rfl (fun K hK => ?_) AllReadyH.nil
      go_simp
      refine HCL.out.mono ?_
      rintro e2 V2 ⟨hb2, a2, c2, r2, rfl, hr2, ho2⟩
      have HB2 := Lib.hid hb2
      have HE2 := Lib.hid (And.intro hr2 ho2)
      clear hr2 ho2 hb2
      go_wp2_with fail
      refine hK.out _ _ (HBW.out.trans (HB2.out.mono HSZ.out)) (fun hH2 => ?_)
      clear hK K
      try simp only [Act.put, sqA, sqB, sqC, sqD, sqE, sqF]
      refine tk 11 (by assumption) rfl (by kernel_rfl) (fun _ _ _ h => h) (fun V hV => by go_simp; try with_reducible rfl) ?_
      try simp only [Act.put, sqA, sqB, sqC, sqD, sqE, sqF]
      refine wpAnyH_ready (rs := [12]) (by kernel_rfl) (by simp) ?_
      refine AllReadyH.cons (o := _) rfl (fun K hK => ?_) AllReadyH.nil
      go_simp
      refine hK.out _ _ ((HBW.out.trans (HB2.out.mono HSZ.out)).trans ((gAl V2 _).mono (Nat.le_trans HSZ.out HB2.out.size))) (fun hH3 => ?_)
      clear hK K
      try simp only [Act.put, sqA, sqB, sqC, sqD, sqE, sqF]
      refine wpAnyH_ready (rs := [13]) (by kernel_rfl) (by simp) ?_
      refine AllReadyH.cons (o := _) rfl (fun K hK => ?_) AllReadyH.nil
      obtain ⟨a9, c9, W9, hrun, hrow9, hb9⟩ := HAPP.out V2 a2 c2 r2 HB2.out HE2.out.1 HE2.out.2
      rw [if_pos (by rfl)]
      refine kwp_append 25 (.tmp 20) (.tmp 32) rfl _ _ _ rfl rfl hrun ?_
      refine hK.out _ _ hb9 (fun hH4 => ?_)
      clear hK K
      try simp only [Act.put, sqA, sqB, sqC, sqD, sqE, sqF]
      refine tk 14 (by assumption) rfl (by kernel_rfl) (fun _ _ _ h => h) (fun V hV => by go_simp; try with_reducible rfl) ?_
      try simp only [Act.put, sqA, sqB, sqC, sqD, sqE, sqF]
      refine wpAnyH_done (by kernel_rfl) ?_ _
      have HROW9 := Lib.hid (And.intro hrow9 hb9)
      clear hrow9 hb9 hrun hs0
      go_wp2_with fail
      exact HNX.out a9 c9 W9 (a2, c2) HROW9.out.1 HROW9.out.2
    · have hnk : ¬ (k : Int) < (N.length : Int) := by omega
      have e : hds m = N.map (·.1) := by rw [hpl]; exact List.take_of_length_le (by rw [List.length_map]; omega)
      have HE := Lib.hid (And.intro e hbd)
      clear hlt hk hpl hbd e
      go_wp2_with fail
      refine bodyPost_ret (v := .slice a3 m.length c3) (by simp [results, Tryz.results24, go_sem]) rfl ?_
      exact ⟨m, a3, c3, HE.out.1, rfl, HE.out.2.mono HB1.out HB1.out.size⟩
end Go.Proofs.YtjhmfmpaaljegaaGreat
