/- Caches, the document: Weigh, Forget, Remove, Add. -/
import Derived.Test.YtjhmfmpaaljegaaGreatKwI
namespace Go.Proofs.YtjhmfmpaaljegaaGreat
open Go.RowKit Go.Lib Go.Ow Go.Cw Go.Fq Go.Mq Go.Kq Go.Kw
set_option linter.unusedVariables false
set_option linter.unusedSimpArgs false
set_option maxRecDepth 100000

theorem hRow_split (m : List Hv) {k : Nat} (hk : k < m.length) : hRow m = hRow (m.take k) ++ (hC m[k] ++ hRow (m.drop (k + 1))) := by
  have e : m = m.take k ++ m[k] :: m.drop (k + 1) := by rw [← List.drop_eq_getElem_cons hk, List.take_append_drop]
  exact (congrArg hRow e).trans ((hRow_app _ _).trans rfl)
theorem hRow_set (m : List Hv) {k : Nat} (hk : k < m.length) (p : Hv) : hRow (m.set k p) = hRow (m.take k) ++ (hC p ++ hRow (m.drop (k + 1))) := by
  unfold hRow
  rw [flat_set hC 3 hC_len m k p hk, ← flat_take hC 3 hC_len, ← flat_drop hC 3 hC_len, List.append_assoc]
theorem hRow_cell (m : List Hv) {k j : Nat} (hk : k < m.length) (u : Value) (p : Hv) (h : (hC m[k]).set j u = hC p) (hj : j < 3) : (hRow m).set (k * 3 + j) u = hRow (m.set k p) := by
  rw [hRow_split m hk, hRow_set m hk, List.set_append, hRow_len, List.length_take, Nat.min_eq_left (by omega), if_neg (by omega), Nat.add_sub_cancel_left, List.set_append, hC_len, if_pos hj, h]
/-- One of a row of one's own, written. -/
theorem bd_cell {B : Nat} {w wr : World} {m : List Hv} {a : Option Addr} {c : Nat} (h : Bd B w m a c wr) {k : Nat} (hk : k < m.length) : ∃ r o, a = some ⟨r, o, none⟩ ∧ B ≤ r ∧ r < wr.heap.size ∧ (∀ j, j < 3 → (wr.cell? ⟨r, o + k * 3 + j, none⟩).isSome = true ∧ wr.frozen? ⟨r, o + k * 3 + j, none⟩ = false) ∧
    (∀ f, Bd B w (m.set k (⟨m[k].1.id, f, m[k].1.ns⟩, m[k].2)) a c (wr.setCell ⟨r, o + k * 3 + 1, none⟩ (.float .f64 f))) ∧
    (∀ V ns na nc, Below wr.heap.size wr V → OwN (fun b => wr.heap.size ≤ b) V ns na nc → B ≤ wr.heap.size → Bd B w (m.set k (⟨m[k].1.id, m[k].1.wt, ns⟩, .slice na ns.length nc)) a c (V.setCell ⟨r, o + k * 3 + 2, none⟩ (.slice na ns.length nc))) := by
  obtain ⟨⟨r, hrow, hr, hls⟩, hb⟩ := h
  have hn : 0 < m.length := by omega
  obtain ⟨o, cap, e, hc, hlt, -, hra, hth, -⟩ := hrow.at hn
  cases e
  have hk3 : k * 3 + 3 ≤ m.length * 3 := by omega
  refine ⟨r, o, rfl, hr, hlt, fun j hj => ?_, fun f => ?_, fun V ns na nc hV ho hB => ?_⟩
  · have := hth (k * 3 + j) (by omega)
    rw [← Nat.add_assoc] at this
    exact this
  · have h1 := hrow.set hn (k * 3 + 1) (.float .f64 f) (by omega)
    rw [hRow_cell m hk _ (⟨m[k].1.id, f, m[k].1.ns⟩, m[k].2) rfl (by omega), ← Nat.add_assoc] at h1
    refine ⟨⟨r, by show Rw _ _ _ _ _ _ _; rw [List.length_set]; exact h1, hr, ?_⟩, hb.setCell hr _⟩
    have h2 : LsO (fun b => B ≤ b ∧ b ≠ r) (wr.setCell ⟨r, o + k * 3 + 1, none⟩ (.float .f64 f)) m := hls.kept (fun b hb2 _ => ⟨Below.heap_setCell _ _ _ _ (by have hb3 : B ≤ b ∧ b ≠ r := hb2; exact hb3.2), hb2⟩) (by simp [World.setCell])
    intro p hp
    rcases List.mem_or_eq_of_mem_set hp with hp | rfl
    · exact h2 p hp
    · exact h2 m[k] (List.getElem_mem _)
  · have hrV : Hr V r (.slice (some ⟨r, o, none⟩) m.length c) m := hrow.below hV
    have h1 := hrV.set hn (k * 3 + 2) (.slice na ns.length nc) (by omega)
    rw [hRow_cell m hk _ (⟨m[k].1.id, m[k].1.wt, ns⟩, .slice na ns.length nc) rfl (by omega), ← Nat.add_assoc] at h1
    refine ⟨⟨r, by show Rw _ _ _ _ _ _ _; rw [List.length_set]; exact h1, hr, ?_⟩, (hb.trans (hV.mono hB)).setCell hr _⟩
    have hVs := hV.size
    have h2 : LsO (fun b => B ≤ b ∧ b ≠ r) (V.setCell ⟨r, o + k * 3 + 2, none⟩ (.slice na ns.length nc)) m := hls.kept (fun b hb2 hbl => ⟨(Below.heap_setCell _ _ _ _ (by have hb3 : B ≤ b ∧ b ≠ r := hb2; exact hb3.2)).trans (hV.block b hbl), hb2⟩) (by simp [World.setCell]; omega)
    intro p hp
    rcases List.mem_or_eq_of_mem_set hp with hp | rfl
    · exact h2 p hp
    · exact ⟨na, nc, rfl, ho.kept (fun b hb2 _ => by
        have hb3 : wr.heap.size ≤ b := hb2
        exact ⟨Below.heap_setCell _ _ _ _ (by show b ≠ r; omega), by omega, by omega⟩) (by simp [World.setCell])⟩
/-- What the document's call leaves. -/
def DRet (S : Nat → Prop) (w : World) (M : List Hd) (f : Value → Value) (e : Ending) (w' : World) : Prop := ∃ (l : List Hv) (a : Option Addr) (c : Nat), hds l = M ∧ e = .returned (f (.slice a l.length c)) ∧ HdIn (fun b => S b ∨ w.heap.size ≤ b) w' l a ∧ Below w.heap.size w w'
theorem DRet.same {S : Nat → Prop} {w w' : World} {l : List Hv} {a : Option Addr} {c : Nat} {f : Value → Value} (h : HdIn S w l a) (hb : Below w.heap.size w w') : DRet S w (hds l) f (.returned (f (.slice a l.length c))) w' := ⟨l, a, c, rfl, rfl, (h.below hb).mono (fun _ hS => Or.inl hS), hb⟩
theorem DRet.of_bd {S : Nat → Prop} {w w' : World} {l : List Hv} {a : Option Addr} {c : Nat} {f : Value → Value} {M : List Hd} (hM : hds l = M) (h : Bd w.heap.size w l a c w') : DRet S w M f (.returned (f (.slice a l.length c))) w' := ⟨l, a, c, hM, rfl, h.hin.mono (fun _ hS => Or.inr hS), h.2⟩
theorem fnd_noid {l : List Hv} {id : Int} (h : NoId l id) : fnd (hds l) id = none := fnd_none (fun x hx => by obtain ⟨p, hp, rfl⟩ := List.mem_map.1 hx; exact h p hp)
theorem fnd_idx {l : List Hv} {id : Int} (hr : RiseH (hds l)) {k : Nat} (hk : k < l.length) (h : l[k].1.id = id) : fnd (hds l) id = some l[k].1 := by rw [← h]; exact fnd_some hr (List.mem_map.2 ⟨l[k], List.getElem_mem _, rfl⟩)
theorem hds_set (m : List Hv) (k : Nat) (p : Hv) : hds (m.set k p) = (hds m).set k p.1 := by unfold hds; rw [List.map_set]
theorem hds_len (m : List Hv) : (hds m).length = m.length := List.length_map _
theorem upd_idx {l m : List Hv} (hr : RiseH (hds l)) (hm : hds m = hds l) {k : Nat} (hk : k < l.length) (hkm : k < m.length) (h' : Hd) (v : Value) {id : Int} (hid : l[k].1.id = id) : hds (m.set k (h', v)) = updH (hds l) id h' := by
  rw [hds_set, hm, set_upd hr (by rw [hds_len]; exact hk)]
  congr 1
  rw [← hid]; simp [hds]
theorem idx_eq {l m : List Hv} (hm : hds m = hds l) {k : Nat} (hk : k < l.length) (hkm : k < m.length) : m[k].1 = l[k].1 := by
  have h1 : (hds m)[k]? = (hds l)[k]? := by rw [hm]
  unfold hds at h1
  rw [List.getElem?_map, List.getElem?_map, List.getElem?_eq_getElem hk, List.getElem?_eq_getElem hkm] at h1
  simpa using h1
theorem ok_small {M : List Hd} (h : OkH M) : ∀ x ∈ M, x.ns.length ≤ 4294967294 := fun x hx => okN_len (h.ns x hx)
set_option maxHeartbeats 4000000 in
theorem rWeigh_any {S : Nat → Prop} (l : List Hv) (a : Option Addr) (c : Nat) (id : Int) (f : Nat) (w : World) (h : HdIn S w l a) (ok : OkH (hds l)) (hf64 : f < 2 ^ 64) :
    Calls Tryz.prog 29 #[.slice a l.length c, .int .i64 id, .float .f64 f] w fun e w' => DRet S w (weighR (hds l) id f).2 (fun v => .tuple #[v, .int .i64 (weighR (hds l) id f).1]) e w' := by
  have hl : l.length ≤ 256 := by have := ok.len; rw [hds_len] at this; exact this
  have HW := Lib.hid (refweight_any f w hf64)
  have HS := Lib.hid (fun g => DRet.same (c := c) (f := g) h (Below.refl _ w))
  have HP0 := rPlace_any l a c id w h hl
  have HCP := Lib.hid (rCopy_any l a c w h hl (ok_small ok))
  obtain ⟨WR, hWR⟩ : ∃ WR, WR = weighR (hds l) id f := ⟨_, rfl⟩
  rw [← hWR]
  unfold weighR at hWR
  generalize hwf : weightF f = e0 at *
  by_cases he : e0 = 0
  · subst he
    rw [if_neg (by simp)] at hWR
    have HWR := Lib.hid hWR
    clear hWR
    go_enter Tryz.func29, Tryz.ntmps29
    go_wp2_with (go_at_call 54; refine HW.out.mono ?_; rintro e w2 ⟨rfl, rfl⟩)
    refine HP0.mono ?_
    rintro e w2 ⟨rfl, ⟨hno, rfl⟩ | ⟨k, hk, hid, rfl⟩⟩
    · have HF : Hid (WR = (4, hds l)) := Lib.hid (by rw [HWR.out, fnd_noid hno])
      clear hno HP0 h ok hwf
      go_wp2_with fail
      refine bodyPost_ret (v := .tuple #[.slice a l.length c, .int .i64 4]) (by simp [results, Tryz.results29, go_sem]) rfl ?_
      rw [HF.out]
      exact HS.out (fun v => .tuple #[v, .int .i64 4])
    · have HF : Hid (WR = (0, updH (hds l) id ⟨l[k].1.id, f, l[k].1.ns⟩)) := Lib.hid (by rw [HWR.out, fnd_idx ok.rise hk hid])
      have HU := Lib.hid (fun m (hm : hds m = hds l) hkm h' v => upd_idx ok.rise hm hk hkm h' v hid)
      have HX := Lib.hid (fun m (hm : hds m = hds l) hkm => idx_eq hm hk hkm)
      have hk0 : ¬ (k : Int) < 0 := by omega
      have hk00 : (0 : Int) ≤ (k : Int) := by omega
      clear HP0 h hwf
      go_upto_region 8 with (go_at_call 49; refine HCP.out.mono ?_; rintro e w3 ⟨m, a3, c3, hm, rfl, hbd⟩; have HM := Lib.hid (And.intro hm hbd); clear hm hbd)
      have hkm : k < m.length := by have := congrArg List.length HM.out.1; rw [hds_len, hds_len] at this; omega
      have hkmi : (k : Int) < (m.length : Int) := by omega
      obtain ⟨r, o, rfl, hr, hrl, hcell, hset, -⟩ := bd_cell HM.out.2 hkm
      have HSET := Lib.hid (hset f)
      obtain ⟨v1, hv1⟩ := Option.isSome_iff_exists.1 (hcell 1 (by omega)).1
      have hfz := (hcell 1 (by omega)).2
      have hsn := n_store
      clear hset hcell
      go_wp2_with fail
      refine bodyPost_ret (v := .tuple #[.slice (some ⟨r, o, none⟩) m.length c3, .int .i64 0]) (by simp [results, Tryz.results29, go_sem]) rfl ?_
      rw [HF.out]
      have hx := HX.out m HM.out.1 hkm
      have hfin := HSET.out
      rw [hx] at hfin
      have hd := DRet.of_bd (S := S) (f := fun v => .tuple #[v, .int .i64 0]) (HU.out m HM.out.1 hkm ⟨l[k].1.id, f, l[k].1.ns⟩ m[k].2) hfin
      rw [List.length_set] at hd
      exact hd
  · rw [if_pos he] at hWR
    have HWR := Lib.hid hWR
    clear hWR
    have heb : (e0 != 0) = true := by simp [he]
    clear HP0 h ok hwf
    go_enter Tryz.func29, Tryz.ntmps29
    go_wp2_with (go_at_call 54; refine HW.out.mono ?_; rintro e w2 ⟨rfl, rfl⟩)
    refine bodyPost_ret (v := .tuple #[.slice a l.length c, .int .i64 e0]) (by simp [results, Tryz.results29, go_sem]) rfl ?_
    rw [HWR.out]
    exact HS.out (fun v => .tuple #[v, .int .i64 e0])
set_option maxHeartbeats 4000000 in
theorem rForget_any {S : Nat → Prop} (l : List Hv) (a : Option Addr) (c : Nat) (id : Int) (w : World) (h : HdIn S w l a) (ok : OkH (hds l)) :
    Calls Tryz.prog 31 #[.slice a l.length c, .int .i64 id] w fun e w' => DRet S w (forgetR (hds l) id).2.2 (fun v => .tuple #[v, .int .i64 ((forgetR (hds l) id).2.1 : Int), .int .i64 (forgetR (hds l) id).1]) e w' := by
  have hl : l.length ≤ 256 := by have := ok.len; rw [hds_len] at this; exact this
  have HS := Lib.hid (fun g => DRet.same (c := c) (f := g) h (Below.refl _ w))
  have HH := Lib.hid h
  have HP0 := rPlace_any l a c id w h hl
  have HCP := Lib.hid (rCopy_any l a c w h hl (ok_small ok))
  obtain ⟨WR, hWR⟩ : ∃ WR, WR = forgetR (hds l) id := ⟨_, rfl⟩
  rw [← hWR]
  unfold forgetR at hWR
  have HWR := Lib.hid hWR
  clear hWR
  go_enter Tryz.func31, Tryz.ntmps31
  go_wp2_with fail
  refine HP0.mono ?_
  rintro e w2 ⟨rfl, ⟨hno, rfl⟩ | ⟨k, hk, hid, rfl⟩⟩
  · have HF : Hid (WR = (4, 0, hds l)) := Lib.hid (by rw [HWR.out, fnd_noid hno])
    clear hno HP0 h ok
    go_wp2_with fail
    refine bodyPost_ret (v := .tuple #[.slice a l.length c, .int .i64 0, .int .i64 4]) (by simp [results, Tryz.results31, go_sem]) rfl ?_
    rw [HF.out]
    exact HS.out (fun v => .tuple #[v, .int .i64 0, .int .i64 4])
  · have HF : Hid (WR = (0, l[k].1.ns.length, updH (hds l) id ⟨l[k].1.id, l[k].1.wt, []⟩)) := Lib.hid (by rw [HWR.out, fnd_idx ok.rise hk hid])
    have HU := Lib.hid (fun m (hm : hds m = hds l) hkm h' v => upd_idx ok.rise hm hk hkm h' v hid)
    have HX := Lib.hid (fun m (hm : hds m = hds l) hkm => idx_eq hm hk hkm)
    have hk0 : ¬ (k : Int) < 0 := by omega
    have hk00 : (0 : Int) ≤ (k : Int) := by omega
    have hkl : (k : Int) < (l.length : Int) := by omega
    clear HP0 h
    go_upto_region 5 with (go_at_call 49; refine HCP.out.mono ?_; rintro e w3 ⟨m, a3, c3, hm, rfl, hbd⟩; have HM := Lib.hid (And.intro hm hbd); clear hm hbd)
    have hkm : k < m.length := by have := congrArg List.length HM.out.1; rw [hds_len, hds_len] at this; omega
    have hkmi : (k : Int) < (m.length : Int) := by omega
    obtain ⟨r, o, rfl, hr, hrl, hcell, -, hset⟩ := bd_cell HM.out.2 hkm
    have HSET := Lib.hid (hset w3 [] none 0 (Below.refl _ _) (Or.inl ⟨rfl, rfl⟩) HM.out.2.2.size)
    obtain ⟨v1, hv1⟩ := Option.isSome_iff_exists.1 (hcell 2 (by omega)).1
    have hfz := (hcell 2 (by omega)).2
    clear hset hcell
    go_upto_region 6 with (fail)
    obtain ⟨b, ol, rfl, -, hbl, hat⟩ := HH.out.at hk
    obtain ⟨na, nc, -, -, -, -, k2⟩ := hat k hk
    clear hat
    obtain ⟨W4, hW4⟩ : ∃ W4, W4 = w3.setCell ⟨r, o + k * 3 + 2, none⟩ (.slice none 0 0) := ⟨_, rfl⟩
    rw [← hW4]
    have hb4 : Below w.heap.size w W4 := by rw [hW4]; exact HM.out.2.2.setCell hr _
    have HKA : Hid (∀ V, Below w.heap.size w V → V.cell? ⟨b, ol + k * 3 + 2, none⟩ = some (.slice na l[k].1.ns.length nc)) := Lib.hid (fun V hV => (hV.cell (p := ⟨b, _, none⟩) hbl).trans k2)
    have hx := HX.out m HM.out.1 hkm
    have hfin := HSET.out
    rw [hx, show (([] : List Nw).length) = 0 from rfl, ← hW4] at hfin
    have HFIN := Lib.hid hfin
    have HD1 := Lib.hid (HU.out m HM.out.1 hkm ⟨l[k].1.id, l[k].1.wt, []⟩ (.slice none 0 0))
    clear k2 hfin hx hW4 HSET
    generalize l[k].1 = p at *
    refine wp_region_held_drew (S := fun V => Below w.heap.size w V) (by kernel_rfl) hb4.drew (fun hs0 => ?_)
    refine tk 0 (by assumption) rfl (by kernel_rfl) (fun _ _ _ h => h) (fun V hV => by go_simp; try with_reducible rfl) ?_
    try simp only [Act.put, sqA, sqB, sqC, sqD, sqE, sqF]
    refine tk 1 (by assumption) rfl (by kernel_rfl) (fun _ _ _ h => h) (fun V hV => by go_simp; try with_reducible rfl) ?_
    try simp only [Act.put, sqA, sqB, sqC, sqD, sqE, sqF]
    refine tk 2 (by assumption) rfl (by kernel_rfl) (fun _ _ _ h => h) (fun V hV => by go_simp; try with_reducible rfl) ?_
    try simp only [Act.put, sqA, sqB, sqC, sqD, sqE, sqF]
    refine tk 3 (by assumption) rfl (by kernel_rfl) (fun _ _ _ h => h) (fun V hV => by go_simp; try with_reducible rfl) ?_
    try simp only [Act.put, sqA, sqB, sqC, sqD, sqE, sqF]
    refine tk 4 (by assumption) rfl (by kernel_rfl) (fun _ _ _ h => h) (fun V hV => by go_simp; try with_reducible rfl) ?_
    try simp only [Act.put, sqA, sqB, sqC, sqD, sqE, sqF]
    refine tk 5 (by assumption) rfl (by kernel_rfl) (fun _ _ _ h => h) (fun V hV => by have hx0 := HKA.out V hV; go_simp; try with_reducible rfl) ?_
    try simp only [Act.put, sqA, sqB, sqC, sqD, sqE, sqF]
    refine tk 6 (by assumption) rfl (by kernel_rfl) (fun _ _ _ h => h) (fun V hV => by go_simp; try with_reducible rfl) ?_
    try simp only [Act.put, sqA, sqB, sqC, sqD, sqE, sqF]
    refine tk 7 (by assumption) rfl (by kernel_rfl) (fun _ _ _ h => h) (fun V hV => by go_simp; try with_reducible rfl) ?_
    try simp only [Act.put, sqA, sqB, sqC, sqD, sqE, sqF]
    refine tk 8 (by assumption) rfl (by kernel_rfl) (fun _ _ _ h => h) (fun V hV => by go_simp; try with_reducible rfl) ?_
    try simp only [Act.put, sqA, sqB, sqC, sqD, sqE, sqF]
    refine tk 9 (by assumption) rfl (by kernel_rfl) (fun _ _ _ h => h) (fun V hV => by go_simp; try with_reducible rfl) ?_
    try simp only [Act.put, sqA, sqB, sqC, sqD, sqE, sqF]
    refine wpAnyH_done (by kernel_rfl) ?_ _
    go_wp2_with fail
    refine bodyPost_ret (v := .tuple #[.slice (some ⟨r, o, none⟩) m.length c3, .int .i64 (p.ns.length : Int), .int .i64 0]) (by simp [results, Tryz.results31, go_sem]) rfl ?_
    rw [HF.out]
    have hd := DRet.of_bd (S := S) (w := w) (f := fun v => .tuple #[v, .int .i64 (p.ns.length : Int), .int .i64 0]) HD1.out (w' := W4.drew) ⟨HFIN.out.1, HFIN.out.2.drew⟩
    rw [List.length_set] at hd
    exact hd
/-- A row that is made of another one's entries, and of one more. -/
def Ou (w3 : World) (m out : List Hv) (np : Hv) (a : Option Addr) (c : Nat) (wr : World) : Prop := (∃ r, Hr wr r (.slice a out.length c) out ∧ w3.heap.size ≤ r) ∧ (∀ p ∈ out, p ∈ m ∨ p = np) ∧ Below w3.heap.size w3 wr
theorem ou_grow {w3 wr : World} {m out : List Hv} {np : Hv} {a : Option Addr} {c : Nat} (h : Ou w3 m out np a c wr) (p : Hv) (hp : p ∈ m ∨ p = np) (h1 : p.2.oneCell' = true) (hl : out.length < 1000000) :
    ∃ a9 c9 W9, (∀ ty, (Builtin.append_ #[25, 25] ty #[.slice a out.length c, .slice (some ⟨wr.heap.size, 0, none⟩) 1 1]).run Tryz.prog (wr.alloc (.cells #[.int .i64 p.1.id, .float .f64 p.1.wt, p.2] 56)) = .ok (.slice a9 (out ++ [p]).length c9) W9) ∧ Ou w3 m (out ++ [p]) np a9 c9 W9 := by
  obtain ⟨⟨r, hrow, hr⟩, hmem, hb⟩ := h
  obtain ⟨a9, c9, W9, r9, hrun, hrow9, hr9, hb9, -⟩ := h_app p hrow h1 hl (B := w3.heap.size) (w0 := w3) hr hb hb.size _ rfl
  refine ⟨a9, c9, W9, hrun, ⟨r9, hrow9, hr9⟩, fun q hq => ?_, hb9⟩
  rcases List.mem_append.1 hq with hq | hq
  · exact hmem q hq
  · obtain rfl : q = p := by simpa using hq
    exact hp
theorem ou_in {w w3 wr : World} {m out : List Hv} {np : Hv} {a am : Option Addr} {c cm : Nat} (h : Ou w3 m out np a c wr) (hm : Bd w.heap.size w m am cm w3) (hn : ∃ na, np.2 = .slice na np.1.ns.length 0 ∧ np.1.ns = []) : HdIn (fun b => w.heap.size ≤ b) wr out a ∧ Below w.heap.size w wr := by
  obtain ⟨⟨r, hrow, hr⟩, hmem, hb⟩ := h
  have hs := hm.2.size
  refine ⟨hr_in hrow (fun p hp => ?_) (by omega), hm.2.trans (hb.mono hs)⟩
  rcases hmem p hp with hp | rfl
  · obtain ⟨⟨r0, -, -, hls⟩, -⟩ := hm
    obtain ⟨na, nc, e, ho⟩ := hls p hp
    exact ⟨na, nc, e, (ho.nws.mono (fun b hb2 => hb2.1)).below hb⟩
  · obtain ⟨na, e1, e2⟩ := hn
    exact ⟨na, 0, e1, Or.inl e2⟩
theorem bd_one {w w3 : World} {m : List Hv} {a : Option Addr} {c : Nat} (h : Bd w.heap.size w m a c w3) {p : Hv} (hp : p ∈ m) : p.2.oneCell' = true := by
  obtain ⟨⟨r, -, -, hls⟩, -⟩ := h
  obtain ⟨na, nc, e, -⟩ := hls p hp
  rw [e]; rfl
theorem rm_take (m : List Hv) (id : Int) {k : Nat} (hk : k < m.length) : (m.take (k + 1)).filter (fun p => p.1.id != id) = (m.take k).filter (fun p => p.1.id != id) ++ if m[k].1.id != id then [m[k]] else [] := by
  rw [List.take_succ_eq_append_getElem hk, List.filter_append]
  congr 1
  cases h : (m[k].1.id != id) <;> simp [List.filter, h]
theorem hds_rm (m : List Hv) (id : Int) : hds (m.filter (fun p => p.1.id != id)) = rmH (hds m) id := by
  unfold hds rmH
  rw [List.filter_map]
  rfl
theorem add_split {M : List Hd} (id : Int) (f : Nat) : ∀ {i0 : Nat}, i0 ≤ M.length → (∀ j (hj : j < M.length), j < i0 → M[j].id < id) → (∀ j (hj : j < M.length), i0 ≤ j → id < M[j].id) → addH M id f = M.take i0 ++ ⟨id, f, []⟩ :: M.drop i0 := by
  intro i0 hi h1 h2
  have e : M = M.take i0 ++ M.drop i0 := (List.take_append_drop i0 M).symm
  have a1 : ∀ x ∈ M.take i0, x.id < id := fun x hx => by
    obtain ⟨j, hj, rfl⟩ := List.getElem_of_mem hx
    rw [List.length_take] at hj
    rw [List.getElem_take]
    exact h1 j (by omega) (by omega)
  have a2 : ∀ x ∈ M.drop i0, id < x.id := fun x hx => by
    obtain ⟨j, hj, rfl⟩ := List.getElem_of_mem hx
    rw [List.length_drop] at hj
    rw [List.getElem_drop]
    exact h2 _ (by omega) (by omega)
  have b1 : M.filter (fun h => decide (h.id < id)) = M.take i0 := by
    have hf := congrArg (List.filter (fun h : Hd => decide (h.id < id))) e
    rw [List.filter_append] at hf
    rw [hf, List.filter_eq_self.2 (fun x hx => by simpa using a1 x hx), List.filter_eq_nil_iff.2 (fun x hx => by have := a2 x hx; simp; omega), List.append_nil]
  have b2 : M.filter (fun h => decide (id < h.id)) = M.drop i0 := by
    have hf := congrArg (List.filter (fun h : Hd => decide (id < h.id))) e
    rw [List.filter_append] at hf
    rw [hf, List.filter_eq_nil_iff.2 (fun x hx => by have := a1 x hx; simp; omega), List.nil_append, List.filter_eq_self.2 (fun x hx => by simpa using a2 x hx)]
  unfold addH
  rw [b1, b2]
set_option maxHeartbeats 4000000 in
theorem rRemove_any {S : Nat → Prop} (l : List Hv) (a : Option Addr) (c : Nat) (id : Int) (w : World) (h : HdIn S w l a) (ok : OkH (hds l)) :
    Calls Tryz.prog 30 #[.slice a l.length c, .int .i64 id] w fun e w' => DRet S w (rmR (hds l) id).2 (fun v => .tuple #[v, .int .i64 (rmR (hds l) id).1]) e w' := by
  have hl : l.length ≤ 256 := by have := ok.len; rw [hds_len] at this; exact this
  have HS := Lib.hid (fun g => DRet.same (c := c) (f := g) h (Below.refl _ w))
  have HP0 := rPlace_any l a c id w h hl
  have HCP := Lib.hid (fun W (hW : Below w.heap.size w W) => rCopy_any l a c W (h.below hW) hl (ok_small ok))
  obtain ⟨WR, hWR⟩ : ∃ WR, WR = rmR (hds l) id := ⟨_, rfl⟩
  rw [← hWR]
  unfold rmR at hWR
  have HWR := Lib.hid hWR
  clear hWR
  have HL := Lib.hid hl
  go_enter Tryz.func30, Tryz.ntmps30
  go_wp2_with fail
  refine HP0.mono ?_
  rintro e w2 ⟨rfl, ⟨hno, rfl⟩ | ⟨k, hk, hid, rfl⟩⟩
  · have HF : Hid (WR = (4, hds l)) := Lib.hid (by rw [HWR.out, fnd_noid hno])
    clear hno HP0 h ok
    go_wp2_with fail
    refine bodyPost_ret (v := .tuple #[.slice a l.length c, .int .i64 4]) (by simp [results, Tryz.results30, go_sem]) rfl ?_
    rw [HF.out]
    exact HS.out (fun v => .tuple #[v, .int .i64 4])
  · have HF : Hid (WR = (0, rmH (hds l) id)) := Lib.hid (by rw [HWR.out, fnd_idx ok.rise hk hid])
    have hk0 : ¬ (k : Int) < 0 := by omega
    clear HP0 h HS
    go_wp2_with fail
    refine (HCP.out _ (gAl _ _)).mono ?_
    rintro e w3 ⟨m, a3, c3, hm, rfl, hbd⟩
    have hbd := hbd.mono (w0 := w) (gAl _ _) (by simp)
    have HM := Lib.hid (And.intro hm hbd)
    have hml : m.length ≤ 256 := by have := congrArg List.length hm; rw [hds_len, hds_len] at this; have := HL.out; omega
    have HML := Lib.hid hml
    clear hm hbd hml HCP
    go_wp2_with fail
    go_loopw [8, 6] (fun iv ov wr => ∃ (k : Nat) (a : Option Addr) (c : Nat), iv = .int .i64 (k : Int) ∧ ov = .slice a ((m.take k).filter (fun p => p.1.id != id)).length c ∧ k ≤ m.length ∧ Ou w3 m ((m.take k).filter (fun p => p.1.id != id)) (⟨0, 0, []⟩, .slice none 0 0) a c wr) (fun iv _ _ => m.length - (RowKit.intOf iv).toNat)
    case atStart => exact ⟨0, _, 0, rfl, rfl, Nat.zero_le _, ⟨w3.heap.size, Or.inl ⟨rfl, rfl, _, rfl⟩, Nat.le_refl _⟩, by intro p hp; simp at hp, Below.refl _ _⟩
    case round =>
      obtain ⟨i, a4, c4, rfl, rfl, hi, hou⟩ := hrel
      have HOU := Lib.hid hou
      clear hou
      by_cases hlt : i < m.length
      · have hlti : (i : Int) < (m.length : Int) := by omega
        have hi0 : (0 : Int) ≤ (i : Int) := by omega
        have hiw : IntKind.i64.wrap ((i : Int) + 1) = (i : Int) + 1 := by rw [IntKind.wrap_i64]; have := HML.out; omega
        obtain ⟨b, o, rfl, -, hbl, hat⟩ := (HM.out.2.hin).at hlt
        obtain ⟨na, nc, e2, -, k0, k1, k2⟩ := hat i hlt
        have hbw := HOU.out.2.2
        have k0' := (hbw.cell (p := ⟨b, _, none⟩) hbl).trans k0
        have k1' := (hbw.cell (p := ⟨b, _, none⟩) hbl).trans k1
        have k2' := (hbw.cell (p := ⟨b, _, none⟩) hbl).trans k2
        have HTK := Lib.hid (rm_take m id hlt)
        have HMEM : Hid (m[i] ∈ m) := Lib.hid (List.getElem_mem _)
        have HE2 := Lib.hid e2
        have hfl : ((m.take i).filter (fun p => p.1.id != id)).length ≤ 256 := by have h1 := List.length_filter_le (fun p : Hv => p.1.id != id) (m.take i); rw [List.length_take] at h1; have := HML.out; omega
        clear hat k0 k1 k2 hbw e2
        generalize m[i] = p at *
        by_cases he : p.1.id = id
        · have heb : (p.1.id != id) = false := by simp [he]
          have HT2 : Hid ((m.take (i + 1)).filter (fun p => p.1.id != id) = (m.take i).filter (fun p => p.1.id != id)) := Lib.hid (by rw [HTK.out, heb]; simp)
          clear he hfl
          generalize hg1 : (m.take i).filter (fun p => p.1.id != id) = O1 at *
          have HG1 := Lib.hid hg1
          clear hg1
          go_wp2_with fail
          exact ⟨⟨i + 1, a4, c4, congrArg (Value.int .i64) (by omega), by rw [HT2.out], hlt, by rw [HT2.out]; exact HOU.out⟩, by show m.length - ((i : Int) + 1).toNat < m.length - (i : Int).toNat; omega⟩
        · have heb : (p.1.id != id) = true := by simp [he]
          obtain ⟨a9, c9, W9, hrun, hou9⟩ := ou_grow HOU.out p (Or.inl HMEM.out) (by rw [HE2.out]; rfl) (by omega)
          rw [HE2.out] at hrun
          have HT2 : Hid ((m.take (i + 1)).filter (fun p => p.1.id != id) = (m.take i).filter (fun p => p.1.id != id) ++ [p]) := Lib.hid (by rw [HTK.out, heb]; simp)
          have HRUN := Lib.hid hrun
          have HOU9 := Lib.hid hou9
          clear he hrun hou9 hfl HOU
          generalize hg1 : (m.take i).filter (fun p => p.1.id != id) = O1 at *
          have HG1 := Lib.hid hg1
          clear hg1
          generalize hg2 : O1 ++ [p] = O2 at *
          have HG2 := Lib.hid hg2
          clear hg2
          go_wp2_with (at_builtin; refine Lib.wpList_append_run _ rfl _ _ _ _ rfl _ _ rfl rfl _ _ (HRUN.out _) ?_)
          exact ⟨⟨i + 1, a9, c9, congrArg (Value.int .i64) (by omega), by rw [HT2.out], hlt, by rw [HT2.out]; exact HOU9.out⟩, by show m.length - ((i : Int) + 1).toNat < m.length - (i : Int).toNat; omega⟩
      · have hnk2 : ¬ (i : Int) < (m.length : Int) := by omega
        have e : m.take i = m := List.take_of_length_le (by omega)
        rw [e] at HOU ⊢
        have HIN := Lib.hid (ou_in HOU.out HM.out.2 ⟨none, rfl, rfl⟩)
        clear e hlt
        generalize hg1 : m.filter (fun p => p.1.id != id) = O1 at *
        have HG1 := Lib.hid hg1
        clear hg1
        go_wp2_with fail
        refine bodyPost_ret (v := .tuple #[.slice a4 O1.length c4, .int .i64 0]) (by simp [results, Tryz.results30, go_sem]) rfl ?_
        rw [HF.out]
        exact ⟨O1, a4, c4, by rw [← HG1.out, hds_rm, show hds m = hds l from HM.out.1], rfl, HIN.out.1.mono (fun _ hS => Or.inr hS), HIN.out.2⟩
/-- What Add has on its way: at all[i]. -/
def Ad (m : List Hv) (id : Int) (np : Hv) (i : Nat) (pt : Bool) (out : List Hv) : Prop := (pt = false ∧ out = m.take i ∧ ∀ j (hj : j < m.length), j < i → m[j].1.id < id) ∨ (pt = true ∧ ∃ i0, i0 < i ∧ out = m.take i0 ++ np :: (m.drop i0).take (i - i0) ∧ (∀ j (hj : j < m.length), j < i0 → m[j].1.id < id) ∧ ∀ j (hj : j < m.length), i0 ≤ j → id < m[j].1.id)
theorem ad_len {m : List Hv} {id : Int} {np : Hv} {i : Nat} {pt : Bool} {out : List Hv} (h : Ad m id np i pt out) (hi : i ≤ m.length) : out.length ≤ m.length + 1 := by
  rcases h with ⟨-, rfl, -⟩ | ⟨-, i0, h0, rfl, -⟩
  · rw [List.length_take]; omega
  · simp only [List.length_append, List.length_cons, List.length_take, List.length_drop]; omega
theorem ad_rise {m : List Hv} (hr : RiseH (hds m)) {i j : Nat} (hij : i ≤ j) (hj : j < m.length) : (m[i]'(by omega)).1.id ≤ m[j].1.id := by
  have hp := hr
  unfold RiseH hds at hp
  rw [List.pairwise_map] at hp
  by_cases e : i = j
  · subst e; omega
  · have := List.pairwise_iff_getElem.1 hp i j (by omega) hj (by omega); omega
theorem ad_low {m : List Hv} {id : Int} {np : Hv} {i : Nat} {out : List Hv} (h : Ad m id np i false out) (hi : i < m.length) (hlt : m[i].1.id < id) : Ad m id np (i + 1) false (out ++ [m[i]]) := by
  rcases h with ⟨-, rfl, h1⟩ | ⟨h, -⟩
  · refine Or.inl ⟨rfl, (List.take_succ_eq_append_getElem hi).symm, fun j hj hji => ?_⟩
    by_cases e : j = i
    · subst e; exact hlt
    · exact h1 j hj (by omega)
  · cases h
theorem ad_put {m : List Hv} (hr : RiseH (hds m)) {id : Int} {np : Hv} {i : Nat} {out : List Hv} (h : Ad m id np i false out) (hi : i < m.length) (hgt : id < m[i].1.id) : Ad m id np (i + 1) true ((out ++ [np]) ++ [m[i]]) := by
  rcases h with ⟨-, rfl, h1⟩ | ⟨h, -⟩
  · refine Or.inr ⟨rfl, i, Nat.lt_succ_self _, ?_, h1, fun j hj hij => ?_⟩
    · rw [show i + 1 - i = 1 by omega, List.drop_eq_getElem_cons hi, List.take_succ_cons, List.take_zero, List.append_assoc]; rfl
    · have := ad_rise hr hij hj; omega
  · cases h
theorem ad_on {m : List Hv} {id : Int} {np : Hv} {i : Nat} {out : List Hv} (h : Ad m id np i true out) (hi : i < m.length) : Ad m id np (i + 1) true (out ++ [m[i]]) := by
  rcases h with ⟨h, -⟩ | ⟨-, i0, h0, rfl, h1, h2⟩
  · cases h
  · refine Or.inr ⟨rfl, i0, by omega, ?_, h1, h2⟩
    have e : i + 1 - i0 = (i - i0) + 1 := by omega
    rw [e, List.take_succ_eq_append_getElem (by rw [List.length_drop]; omega)]
    have e2 : i0 + (i - i0) = i := by omega
    simp only [List.getElem_drop, e2]
    simp
theorem ad_end {m : List Hv} {id : Int} {f : Nat} {v : Value} {pt : Bool} {out : List Hv} (h : Ad m id (⟨id, f, []⟩, v) m.length pt out) : hds (if pt then out else out ++ [(⟨id, f, []⟩, v)]) = addH (hds m) id f := by
  have hg : ∀ j (hj : j < (hds m).length), (hds m)[j] = (m[j]'(by rw [hds_len] at hj; exact hj)).1 := fun j hj => by simp [hds]
  rcases h with ⟨rfl, rfl, h1⟩ | ⟨rfl, i0, h0, rfl, h1, h2⟩
  · rw [add_split id f (M := hds m) (i0 := m.length) (by rw [hds_len]; exact Nat.le_refl _) (fun j hj hji => by rw [hg]; exact h1 j _ hji) (fun j hj hji => by rw [hds_len] at hj; omega)]
    rw [if_neg (by decide), List.take_length, List.take_of_length_le (by rw [hds_len]; exact Nat.le_refl _), List.drop_of_length_le (by rw [hds_len]; exact Nat.le_refl _)]
    simp [hds]
  · rw [add_split id f (M := hds m) (i0 := i0) (by rw [hds_len]; omega) (fun j hj hji => by rw [hg]; exact h1 j _ hji) (fun j hj hji => by rw [hg]; exact h2 j _ hji)]
    rw [if_pos rfl, List.take_of_length_le (l := m.drop i0) (by rw [List.length_drop]; omega)]
    simp [hds]
set_option maxHeartbeats 8000000 in
theorem rAdd_any {S : Nat → Prop} (l : List Hv) (a : Option Addr) (c : Nat) (id : Int) (f : Nat) (w : World) (h : HdIn S w l a) (ok : OkH (hds l)) (hf64 : f < 2 ^ 64) :
    Calls Tryz.prog 28 #[.slice a l.length c, .int .i64 id, .float .f64 f] w fun e w' => DRet S w (addR (hds l) id f).2 (fun v => .tuple #[v, .int .i64 (addR (hds l) id f).1]) e w' := by
  have hl : l.length ≤ 256 := by have := ok.len; rw [hds_len] at this; exact this
  have HI := Lib.hid (refcheckId_any id w)
  have HW := Lib.hid (refweight_any f w hf64)
  have HS := Lib.hid (fun g => DRet.same (c := c) (f := g) h (Below.refl _ w))
  have HP0 := rPlace_any l a c id w h hl
  have HCP := Lib.hid (fun W (hW : Below w.heap.size w W) => rCopy_any l a c W (h.below hW) hl (ok_small ok))
  have HRS := Lib.hid ok.rise
  obtain ⟨WR, hWR⟩ : ∃ WR, WR = addR (hds l) id f := ⟨_, rfl⟩
  rw [← hWR]
  unfold addR at hWR
  generalize hwf : weightF f = e0 at *
  have hnid : numB id = (Iq.idE id == 0) := rfl
  generalize hie : Iq.idE id = ie at *
  by_cases hi0 : ie = 0
  · subst hi0
    rw [hnid, if_neg (by decide)] at hWR
    by_cases he : e0 = 0
    · subst he
      rw [if_neg (by simp)] at hWR
      have HWR := Lib.hid hWR
      clear hWR
      go_enter Tryz.func28, Tryz.ntmps28
      go_wp2_with (first | (go_at_call 53; refine HI.out.mono ?_; rintro e w2 ⟨rfl, rfl⟩) | (go_at_call 54; refine HW.out.mono ?_; rintro e w2 ⟨rfl, rfl⟩))
      refine HP0.mono ?_
      rintro e w2 ⟨rfl, ⟨hno, rfl⟩ | ⟨k, hk, hid, rfl⟩⟩
      · have hfn := fnd_noid hno
        by_cases hlen : l.length = 256
        · have HF : Hid (WR = (2, hds l)) := Lib.hid (by rw [HWR.out, hfn]; simp only; rw [hds_len, if_pos hlen])
          have hlb : ¬ (l.length : Int) < 256 := by omega
          have hlb2 : (256 : Int) ≤ (l.length : Int) := by omega
          clear hno HP0 h ok hwf hfn hlen
          go_wp2_with fail
          refine bodyPost_ret (v := .tuple #[.slice a l.length c, .int .i64 2]) (by simp [results, Tryz.results28, go_sem]) rfl ?_
          rw [HF.out]
          exact HS.out (fun v => .tuple #[v, .int .i64 2])
        · have HF : Hid (WR = (0, addH (hds l) id f)) := Lib.hid (by rw [HWR.out, hfn]; simp only; rw [hds_len, if_neg hlen])
          have hlb : ¬ (256 : Int) ≤ (l.length : Int) := by omega
          have HNO := Lib.hid hno
          have HLL := Lib.hid hl
          clear hno HP0 h ok hwf hfn hlen HS
          go_upto_region 11 with (fail)
          go_wp2_with fail
          refine (HCP.out _ (gAl _ _)).mono ?_
          rintro e w3 ⟨m, a3, c3, hm, rfl, hbd⟩
          have hbd := hbd.mono (w0 := w) (gAl _ _) (by simp)
          have HM := Lib.hid (And.intro hm hbd)
          have hml : m.length ≤ 256 := by have := congrArg List.length hm; rw [hds_len, hds_len] at this; have := HLL.out; omega
          have HML := Lib.hid hml
          have HMR : Hid (RiseH (hds m) ∧ ∀ x ∈ hds m, x.id ≠ id) := Lib.hid (by rw [show hds m = hds l from hm]; exact ⟨HRS.out, fun x hx => by obtain ⟨p, hp, rfl⟩ := List.mem_map.1 hx; exact HNO.out p hp⟩)
          clear hm hbd hml HCP
          go_wp2_with fail
          go_loopw [9, 10, 12] (fun ov pv iv wr => ∃ (i : Nat) (out : List Hv) (pt : Bool) (a : Option Addr) (c : Nat), ov = .slice a out.length c ∧ pv = .bool pt ∧ iv = .int .i64 (i : Int) ∧ i ≤ m.length ∧ Ou w3 m out (⟨id, f, []⟩, .slice none 0 0) a c wr ∧ Ad m id (⟨id, f, []⟩, .slice none 0 0) i pt out) (fun _ _ iv _ => m.length - (RowKit.intOf iv).toNat)
          case atStart => exact ⟨0, [], false, _, 0, rfl, rfl, rfl, Nat.zero_le _, ⟨⟨w3.heap.size, Or.inl ⟨rfl, rfl, _, rfl⟩, Nat.le_refl _⟩, by intro p hp; simp at hp, Below.refl _ _⟩, Or.inl ⟨rfl, rfl, fun j _ h => by omega⟩⟩
          case round =>
            obtain ⟨i, out, pt, a4, c4, rfl, rfl, rfl, hi, hou, had⟩ := hrel
            have HOU := Lib.hid hou
            have HAD := Lib.hid had
            have hol := ad_len had hi
            have HOL : Hid (out.length ≤ 257) := Lib.hid (by have := HML.out; omega)
            clear hou had hol
            by_cases hlt : i < m.length
            · have hlti : (i : Int) < (m.length : Int) := by omega
              have hi0 : (0 : Int) ≤ (i : Int) := by omega
              have hiw : IntKind.i64.wrap ((i : Int) + 1) = (i : Int) + 1 := by rw [IntKind.wrap_i64]; have := HML.out; omega
              obtain ⟨b, o, rfl, -, hbl, hat⟩ := (HM.out.2.hin).at hlt
              obtain ⟨na, nc, e2, -, k0, k1, k2⟩ := hat i hlt
              have HKC : Hid (∀ V, Below w3.heap.size w3 V → V.cell? ⟨b, o + i * 3, none⟩ = some (.int .i64 m[i].1.id) ∧ V.cell? ⟨b, o + i * 3 + 1, none⟩ = some (.float .f64 m[i].1.wt) ∧ V.cell? ⟨b, o + i * 3 + 2, none⟩ = some (.slice na m[i].1.ns.length nc)) := Lib.hid (fun V hV => ⟨(hV.cell (p := ⟨b, _, none⟩) hbl).trans k0, (hV.cell (p := ⟨b, _, none⟩) hbl).trans k1, (hV.cell (p := ⟨b, _, none⟩) hbl).trans k2⟩)
              have HMEM : Hid (m[i] ∈ m) := Lib.hid (List.getElem_mem _)
              have HE2 := Lib.hid e2
              have HNE : Hid (m[i].1.id ≠ id) := Lib.hid (HMR.out.2 _ (List.mem_map.2 ⟨m[i], HMEM.out, rfl⟩))
              have HLOW := Lib.hid (fun (h : Ad m id (⟨id, f, []⟩, .slice none 0 0) i false out) => ad_low h hlt)
              have HPUT := Lib.hid (fun (h : Ad m id (⟨id, f, []⟩, .slice none 0 0) i false out) => ad_put HMR.out.1 h hlt)
              have HON := Lib.hid (fun (h : Ad m id (⟨id, f, []⟩, .slice none 0 0) i true out) => ad_on h hlt)
              obtain ⟨q0, q1, q2⟩ := HKC.out wr HOU.out.2.2
              clear hat k0 k1 k2 e2
              generalize m[i] = p at *
              cases pt with
              | true =>
                obtain ⟨a9, c9, W9, hrun, hou9⟩ := ou_grow HOU.out p (Or.inl HMEM.out) (by rw [HE2.out]; rfl) (by have := HOL.out; omega)
                rw [HE2.out] at hrun
                have HRUN := Lib.hid hrun
                have HOU9 := Lib.hid (And.intro hou9 (HON.out HAD.out))
                clear hrun hou9 HOU HAD
                generalize hg2 : out ++ [p] = O2 at *
                clear hg2
                go_wp2_with (at_builtin; refine Lib.wpList_append_run _ rfl _ _ _ _ rfl _ _ rfl rfl _ _ (HRUN.out _) ?_)
                exact ⟨⟨i + 1, O2, true, a9, c9, rfl, rfl, congrArg (Value.int .i64) (by omega), hlt, HOU9.out.1, HOU9.out.2⟩, by show m.length - ((i : Int) + 1).toNat < m.length - (i : Int).toNat; omega⟩
              | false =>
                by_cases hgt : id < p.1.id
                · obtain ⟨a8, c8, W8, hrun8, hou8⟩ := ou_grow HOU.out ((⟨id, f, []⟩, .slice none 0 0) : Hv) (Or.inr rfl) rfl (by have := HOL.out; omega)
                  obtain ⟨a9, c9, W9, hrun, hou9⟩ := ou_grow hou8 p (Or.inl HMEM.out) (by rw [HE2.out]; rfl) (by have := HOL.out; simp; omega)
                  rw [HE2.out] at hrun
                  have HRUN8 := Lib.hid hrun8
                  have HRUN := Lib.hid hrun
                  have HOU9 := Lib.hid (And.intro hou9 (HPUT.out HAD.out hgt))
                  obtain ⟨s0, s1, s2⟩ := HKC.out W8 hou8.2.2
                  clear hrun8 hrun hou9 hou8 HOU HAD
                  generalize hg1 : out ++ [((⟨id, f, []⟩, .slice none 0 0) : Hv)] = O1 at *
                  clear hg1
                  generalize hg2 : O1 ++ [p] = O2 at *
                  clear hg2
                  go_upto_region 18 with (at_builtin; refine Lib.wpList_append_run _ rfl _ _ _ _ rfl _ _ rfl rfl _ _ (HRUN8.out _) ?_)
                  go_wp2_with (at_builtin; refine Lib.wpList_append_run _ rfl _ _ _ _ rfl _ _ rfl rfl _ _ (HRUN.out _) ?_)
                  exact ⟨⟨i + 1, O2, true, a9, c9, rfl, rfl, congrArg (Value.int .i64) (by omega), hlt, HOU9.out.1, HOU9.out.2⟩, by show m.length - ((i : Int) + 1).toNat < m.length - (i : Int).toNat; omega⟩
                · have hlt2 : p.1.id < id := by have := HNE.out; omega
                  obtain ⟨a9, c9, W9, hrun, hou9⟩ := ou_grow HOU.out p (Or.inl HMEM.out) (by rw [HE2.out]; rfl) (by have := HOL.out; omega)
                  rw [HE2.out] at hrun
                  have HRUN := Lib.hid hrun
                  have HOU9 := Lib.hid (And.intro hou9 (HLOW.out HAD.out hlt2))
                  clear hrun hou9 HOU HAD hlt2
                  generalize hg2 : out ++ [p] = O2 at *
                  clear hg2
                  go_wp2_with (at_builtin; refine Lib.wpList_append_run _ rfl _ _ _ _ rfl _ _ rfl rfl _ _ (HRUN.out _) ?_)
                  exact ⟨⟨i + 1, O2, false, a9, c9, rfl, rfl, congrArg (Value.int .i64) (by omega), hlt, HOU9.out.1, HOU9.out.2⟩, by show m.length - ((i : Int) + 1).toNat < m.length - (i : Int).toNat; omega⟩
            · have hnk2 : ¬ (i : Int) < (m.length : Int) := by omega
              obtain rfl : i = m.length := by omega
              have hend := ad_end HAD.out
              cases pt with
              | true =>
                rw [if_pos rfl, show hds m = hds l from HM.out.1] at hend
                have HEND := Lib.hid hend
                have HIN := Lib.hid (ou_in HOU.out HM.out.2 ⟨none, rfl, rfl⟩)
                clear hend hlt
                go_wp2_with fail
                refine bodyPost_ret (v := .tuple #[.slice a4 out.length c4, .int .i64 0]) (by simp [results, Tryz.results28, go_sem]) rfl ?_
                rw [HF.out]
                exact ⟨out, a4, c4, HEND.out, rfl, HIN.out.1.mono (fun _ hS => Or.inr hS), HIN.out.2⟩
              | false =>
                rw [if_neg (by decide), show hds m = hds l from HM.out.1] at hend
                obtain ⟨a8, c8, W8, hrun8, hou8⟩ := ou_grow HOU.out ((⟨id, f, []⟩, .slice none 0 0) : Hv) (Or.inr rfl) rfl (by have := HOL.out; omega)
                have HEND := Lib.hid hend
                have HRUN8 := Lib.hid hrun8
                have HIN := Lib.hid (ou_in hou8 HM.out.2 ⟨none, rfl, rfl⟩)
                clear hend hlt hrun8 hou8 HOU HAD
                generalize hg1 : out ++ [((⟨id, f, []⟩, .slice none 0 0) : Hv)] = O1 at *
                clear hg1
                go_wp2_with (at_builtin; refine Lib.wpList_append_run _ rfl _ _ _ _ rfl _ _ rfl rfl _ _ (HRUN8.out _) ?_)
                refine bodyPost_ret (v := .tuple #[.slice a8 O1.length c8, .int .i64 0]) (by simp [results, Tryz.results28, go_sem]) rfl ?_
                rw [HF.out]
                exact ⟨O1, a8, c8, HEND.out, rfl, HIN.out.1.mono (fun _ hS => Or.inr hS), HIN.out.2⟩
      · have HF : Hid (WR = (72, hds l)) := Lib.hid (by rw [HWR.out, fnd_idx ok.rise hk hid])
        have hk0 : (0 : Int) ≤ (k : Int) := by omega
        clear HP0 h ok hwf
        go_wp2_with fail
        refine bodyPost_ret (v := .tuple #[.slice a l.length c, .int .i64 72]) (by simp [results, Tryz.results28, go_sem]) rfl ?_
        rw [HF.out]
        exact HS.out (fun v => .tuple #[v, .int .i64 72])
    · rw [if_pos he] at hWR
      have HWR := Lib.hid hWR
      have heb : (e0 != 0) = true := by simp [he]
      clear hWR HP0 h ok hwf
      go_enter Tryz.func28, Tryz.ntmps28
      go_wp2_with (first | (go_at_call 53; refine HI.out.mono ?_; rintro e w2 ⟨rfl, rfl⟩) | (go_at_call 54; refine HW.out.mono ?_; rintro e w2 ⟨rfl, rfl⟩))
      refine bodyPost_ret (v := .tuple #[.slice a l.length c, .int .i64 e0]) (by simp [results, Tryz.results28, go_sem]) rfl ?_
      rw [HWR.out]
      exact HS.out (fun v => .tuple #[v, .int .i64 e0])
  · rw [hnid, if_pos (by simp [hi0])] at hWR
    have HWR := Lib.hid hWR
    have hib : (ie != 0) = true := by simp [hi0]
    clear hWR HP0 h ok hwf
    go_enter Tryz.func28, Tryz.ntmps28
    go_wp2_with (go_at_call 53; refine HI.out.mono ?_; rintro e w2 ⟨rfl, rfl⟩)
    refine bodyPost_ret (v := .tuple #[.slice a l.length c, .int .i64 20]) (by simp [results, Tryz.results28, go_sem]) rfl ?_
    rw [HWR.out]
    exact HS.out (fun v => .tuple #[v, .int .i64 20])
end Go.Proofs.YtjhmfmpaaljegaaGreat
