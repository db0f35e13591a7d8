/- Messages: numbers as fields, the program. Messages: a packet's fields, the program. Messages: news as a field, the program. Messages: a message's fields, the program (kinds 1 to 3). Messages: a message's fields, the program (kind 4, a packet). Messages: the document's fields (kinds 1 and 3), its shape. Messages: the document's fields (kind 2, news). Messages: the document's fields (kind 4, a packet). -/
import Derived.Test.YtidfgjgbigedeaaGreatDoorMqA
import Derived.Test.YtidfgjgbigedeaaGreatDoorWpH
import Derived.Deep.RegionHeld3
import Derived.Handy
import Derived.Test.YtidfgjgbigedeaaGreatDoorMgI
import Derived.Test.YtidfgjgbigedeaaGreatDoorMgG
import Derived.Test.YtidfgjgbigedeaaGreatDoorMgJ
import Derived.Deep.AppendLies
section
namespace Go.Proofs.YtidfgjgbigedeaaGreatDoor
open Go.RowKit Go.Lib Go.Wq Go.Mq
set_option linter.unusedVariables false
set_option linter.unusedSimpArgs false
set_option maxRecDepth 100000

theorem infoFld : ∃ (i : TypeInfo) (z : Value), Tryz.prog.info? 57 = some i ∧ i.zero = some z ∧ i.size = 6 ∧ i.bytes = 72 ∧ z.cells = #[.int .u64 0, .int .i64 0, .float .f64 0, .bool false, .string ⟨#[]⟩, .slice none 0 0] := by
  refine ⟨_, _, rfl, rfl, ?_, ?_, ?_⟩ <;> kernel_rfl
theorem ucells_at : ∀ (n i : Nat), i < n * 6 → (ucells (List.replicate n 0))[i]? = (ucell 0)[i % 6]?
  | 0, i, h => by omega
  | n + 1, i, h => by
    rw [List.replicate_succ]; simp only [ucells]
    by_cases h6 : i < 6
    · rw [List.getElem?_append_left (by simpa [ucell] using h6), Nat.mod_eq_of_lt h6]
    · rw [List.getElem?_append_right (by simp [ucell]; omega)]
      have : (ucell 0).length = 6 := rfl
      rw [this, ucells_at n (i - 6) (by omega), show (i - 6) % 6 = i % 6 by omega]
theorem made_ucells (n : Nat) : (madeCells #[.int .u64 0, .int .i64 0, .float .f64 0, .bool false, .string ⟨#[]⟩, .slice none 0 0] (n * 6)).toList = ucells (List.replicate n 0) := by
  apply List.ext_getElem?
  intro i
  by_cases h : i < n * 6
  · rw [ucells_at n i h]
    have h6 : i % 6 < 6 := Nat.mod_lt _ (by omega)
    rw [Array.getElem?_toList, Array.getElem?_eq_getElem (by rw [size_madeCells]; exact h)]
    simp only [madeCells, Array.getElem_map, Array.getElem_range]
    generalize i % 6 = j at *
    match j, h6 with
    | 0, _ => rfl
    | 1, _ => rfl
    | 2, _ => rfl
    | 3, _ => rfl
    | 4, _ => rfl
    | 5, _ => rfl
  · rw [List.getElem?_eq_none (by rw [Array.length_toList, size_madeCells]; omega), List.getElem?_eq_none (by rw [ucells_len, List.length_replicate]; omega)]

theorem fill_step (zs : List Nat) (k : Nat) (hk : k < zs.length) : (zs.take k ++ List.replicate (zs.length - k) 0).set k zs[k] = zs.take (k + 1) ++ List.replicate (zs.length - (k + 1)) 0 := by
  have hl : (zs.take k).length = k := by rw [List.length_take]; omega
  have e1 : zs.take (k + 1) = zs.take k ++ [zs[k]] := by rw [List.take_add_one, List.getElem?_eq_getElem hk]; rfl
  have e2 : List.replicate (zs.length - k) 0 = 0 :: List.replicate (zs.length - (k + 1)) 0 := by
    rw [show zs.length - k = (zs.length - (k + 1)) + 1 by omega, List.replicate_succ]
  rw [List.set_append_right _ _ (by omega), e1, e2, hl, Nat.sub_self]
  simp only [List.set_cons_zero, List.append_assoc, List.cons_append, List.nil_append]

set_option maxHeartbeats 2000000 in
theorem mNumbers_any (zs : List Nat) (b c : Nat) (w : World) (hb : b < w.heap.size) (hz : ∀ k (h : k < zs.length), w.cell? ⟨b, k, none⟩ = some (.int .u64 (zs[k] : Int))) (hn : zs.length ≤ 64) :
    Calls Tryz.prog 38 #[.slice (some ⟨b, 0, none⟩) zs.length c] w fun e w' => e = .returned (.slice (some ⟨w.heap.size, 0, none⟩) zs.length zs.length) ∧ w'.ownsRow w.heap.size 57 6 (.slice (some ⟨w.heap.size, 0, none⟩) zs.length zs.length) zs.length (ucells zs) ∧ Below w.heap.size w w' ∧ w.heap.size < w'.heap.size := by
  obtain ⟨i0, z0, hi, hz0, hz1, hz2, hz3⟩ := infoFld
  have H63 : Hid (zs.length ≤ maxLen) := Lib.hid (by unfold maxLen; omega)
  have H48 : Hid (i0.bytes * zs.length ≤ 281474976710656) := Lib.hid (by rw [hz2]; omega)
  have HZ := Lib.hid hz
  have HN := Lib.hid hn
  have hC := hz3
  clear hz hn
  go_enter Tryz.func38, Tryz.ntmps38
  go_wp2_with (at_make; refine wpList_make_full _ rfl _ _ 45 rfl w.heap.size 57 i0 _ 6 Tryz.underlying45 hi hz0 hz1 .i64 .i64 zs.length zs.length zs.length rfl rfl rfl rfl H48.out H63.out (Nat.le_refl _) ?_; intro w1 hown hg; rw [hC, made_ucells] at hown; have HOwn := Lib.hid hown; have HG := Lib.hid hg; clear hown hg)
  have HB1 : Hid (Below w.heap.size w w1) := Lib.hid ⟨HG.out.os, HG.out.tape, HG.out.output, HG.out.size, fun k hk => HG.out.block k hk (by simp)⟩
  have hlt1 : w.heap.size < w1.heap.size := (HOwn.out.lt w.heap.size rfl).2
  clear HG
  generalize hB0 : w.heap.size = b0 at *
  go_loopw [11] (fun v wr => ∃ k : Nat, v = .int .i64 (k : Int) ∧ k ≤ zs.length ∧ Below b0 w wr ∧ b0 < wr.heap.size ∧ wr.ownsRow b0 57 6 (.slice (some ⟨b0, 0, none⟩) zs.length zs.length) zs.length (ucells (zs.take k ++ List.replicate (zs.length - k) 0))) (fun v _ => zs.length - (intOf v).toNat)
  case atStart => exact ⟨0, rfl, Nat.zero_le _, HB1.out, hlt1, by simpa using HOwn.out⟩
  case round =>
    obtain ⟨k, rfl, hkn, hbel, hsz, hown⟩ := hrel
    have HB := Lib.hid hbel
    have HO := Lib.hid hown
    by_cases hk : k < zs.length
    · have hki : (k : Int) < (zs.length : Int) := by omega
      have hk0 : (0 : Int) ≤ (k : Int) := by omega
      have hw1 : IntKind.i64.wrap ((k : Int) + 1) = (k : Int) + 1 := by have := HN.out; go_arith
      have c0 : wr.cell? ⟨b, k, none⟩ = some (.int .u64 (zs[k] : Int)) := (hbel.cell (p := ⟨b, k, none⟩) hb).trans (HZ.out k hk)
      have hl6 : (ucells (zs.take k ++ List.replicate (zs.length - k) 0)).length = zs.length * 6 := by rw [ucells_len]; simp; omega
      have c1 := (hown.cellAt (k * 6) (by omega)).trans (List.getElem?_eq_getElem (by omega))
      have f1 := hown.frozenAt (k * 6)
      have HNX : Hid ((wr.setCell ⟨b0, k * 6, none⟩ (.int .u64 (zs[k] : Int))).ownsRow b0 57 6 (.slice (some ⟨b0, 0, none⟩) zs.length zs.length) zs.length (ucells (zs.take (k + 1) ++ List.replicate (zs.length - (k + 1)) 0))) := Lib.hid (by
        have := (hown.stored (k * 6) (.int .u64 (zs[k] : Int))).1
        rw [ucells_set] at this
        rw [fill_step zs k hk] at this
        exact this)
      generalize zs[k] = z at *
      generalize (ucells (zs.take k ++ List.replicate (zs.length - k) 0))[k * 6] = u at *
      clear hbel hown hl6
      go_wp2_with fail
      refine ⟨⟨k + 1, by simp, by omega, HB.out.setCell (Nat.le_refl _) _, by simpa [World.setCell] using hsz, HNX.out⟩, by simp [intOf]; omega⟩
    · have hfn : k = zs.length := by omega
      subst hfn
      have hki : ¬ ((zs.length : Nat) : Int) < (zs.length : Int) := by omega
      have HF : Hid (wr.ownsRow b0 57 6 (.slice (some ⟨b0, 0, none⟩) zs.length zs.length) zs.length (ucells zs)) := Lib.hid (by simpa using hown)
      clear hbel hown
      go_wp2_with fail
      go_ret
      exact ⟨rfl, HF.out, HB.out, hsz⟩
end Go.Proofs.YtidfgjgbigedeaaGreatDoor
end

section
namespace Go.Proofs.YtidfgjgbigedeaaGreatDoor
open Go.RowKit Go.Lib Go.Wq Go.Mq
set_option linter.unusedVariables false
set_option linter.unusedSimpArgs false
set_option maxRecDepth 100000

/-- The cells of a field that is a text alone. -/
def tcell (s : ByteArray) : List Value := [.int .u64 0, .int .i64 0, .float .f64 0, .bool false, .string s, .slice none 0 0]
theorem tcells_held (w : World) (S : Nat → Prop) (s t : ByteArray) : FCellsS w S (tcell s ++ tcell t) [fT s.data.toList, fT t.data.toList] :=
  FCellsS.cons (u := 0) (i := 0) (f := 0) (bb := false) (s := s) (l := []) (ra := none) (rn := 0) (rc := 0) (by simp [RowsS]) (FCellsS.cons (u := 0) (i := 0) (f := 0) (bb := false) (s := t) (l := []) (ra := none) (rn := 0) (rc := 0) (by simp [RowsS]) .nil)
theorem pk_held (w : World) (S : Nat → Prop) (p : Pk) : FCellsS w S (ucells (pkNums p) ++ (tcell p.name ++ tcell p.body)) (pkFlds p) := (ucells_held w S (pkNums p)).append (tcells_held w S _ _)
theorem ucells_one : ∀ l : List Nat, ∀ u ∈ ucells l, u.oneCell' = true
  | [], u, h => by simp [ucells] at h
  | n :: l, u, h => by
    simp only [ucells, ucell, List.cons_append, List.nil_append, List.mem_cons] at h
    rcases h with rfl | rfl | rfl | rfl | rfl | rfl | h
    · rfl
    · rfl
    · rfl
    · rfl
    · rfl
    · rfl
    · exact ucells_one l u h
theorem pk_one (p : Pk) : ∀ u ∈ ucells (pkNums p) ++ (tcell p.name ++ tcell p.body), u.oneCell' = true := fun u hu => by
  rcases List.mem_append.1 hu with h | h
  · exact ucells_one _ u h
  · simp only [tcell, List.cons_append, List.nil_append, List.mem_cons, List.not_mem_nil, or_false] at h; rcases h with rfl | rfl | rfl | rfl | rfl | rfl | rfl | rfl | rfl | rfl | rfl | rfl <;> rfl
theorem lit_cells (w : World) (cs : Array Value) (t : TypeId) : ∀ j u, cs.toList[j]? = some u → (w.alloc (.cells cs t)).cell? ((⟨w.heap.size, 0, none⟩ : Addr).add j) = some u := fun j u hj => by
  rw [spot_add, Nat.zero_add]
  rw [Array.getElem?_toList] at hj
  simpa [go_sem] using hj

set_option maxHeartbeats 4000000 in
theorem mPkFlds_any (kd fr bk tw hm hp : Int) (sr : Nat) (cd : Int) (nm : ByteArray) (id at_ : Int) (bd : ByteArray) (w : World) :
    Calls Tryz.prog 39 #[.agg #[.int .i64 kd, .int .i64 fr, .int .i64 bk, .int .i64 tw, .int .i64 hm, .int .i64 hp, .int .u64 (sr : Int), .int .i64 cd, .string nm, .int .i64 id, .int .i64 at_, .string bd]] w fun e w' => ∃ v, e = .returned v ∧ w'.ownsRow w.heap.size 57 6 v 12 (ucells (pkNums ⟨kd, fr, bk, tw, hm, hp, sr, cd, nm, id, at_, bd⟩) ++ (tcell nm ++ tcell bd)) ∧ Below w.heap.size w w' := by
  obtain ⟨i0, z0, hi, hz0, hz1, hz2, hz3⟩ := infoFld
  have hz4 : z0.cells.size = 6 := by rw [hz3]; rfl
  show Calls _ _ _ w fun e w' => ∃ v, e = .returned v ∧ w'.ownsRow w.heap.size 57 6 v 12 (ucells [uOf kd, uOf fr, uOf bk, uOf tw, uOf hm, uOf hp, sr, uOf cd, uOf id, uOf at_] ++ (tcell nm ++ tcell bd)) ∧ Below w.heap.size w w'
  have e0 := uOf_wrap kd
  have e1 := uOf_wrap fr
  have e2 := uOf_wrap bk
  have e3 := uOf_wrap tw
  have e4 := uOf_wrap hm
  have e5 := uOf_wrap hp
  have e7 := uOf_wrap cd
  have e8 := uOf_wrap id
  have e9 := uOf_wrap at_
  generalize uOf kd = n0 at *
  generalize uOf fr = n1 at *
  generalize uOf bk = n2 at *
  generalize uOf tw = n3 at *
  generalize uOf hm = n4 at *
  generalize uOf hp = n5 at *
  generalize uOf cd = n7 at *
  generalize uOf id = n8 at *
  generalize uOf at_ = n9 at *
  obtain ⟨w2, hw2⟩ : ∃ w2, w2 = (w.alloc (.cells #[.int .i64 kd, .int .i64 fr, .int .i64 bk, .int .i64 tw, .int .i64 hm, .int .i64 hp, .int .u64 (sr : Int), .int .i64 cd, .string nm, .int .i64 id, .int .i64 at_, .string bd] 25)).alloc (.cells #[.int .u64 (n0 : Int), .int .u64 (n1 : Int), .int .u64 (n2 : Int), .int .u64 (n3 : Int), .int .u64 (n4 : Int), .int .u64 (n5 : Int), .int .u64 (sr : Int), .int .u64 (n7 : Int), .int .u64 (n8 : Int), .int .u64 (n9 : Int)] 22) := ⟨_, rfl⟩
  have hs2 : w2.heap.size = w.heap.size + 2 := by rw [hw2]; simp
  have hb2 : Below w.heap.size w w2 := by rw [hw2]; exact ((Below.refl _ w).alloc (Nat.le_refl _) _).alloc (by simp) _
  have k8 : w2.cell? ⟨w.heap.size, 8, none⟩ = some (.string nm) := by rw [hw2]; simp [go_sem]
  have k11 : w2.cell? ⟨w.heap.size, 11, none⟩ = some (.string bd) := by rw [hw2]; simp [go_sem]
  have HN := Lib.hid (mNumbers_any [n0, n1, n2, n3, n4, n5, sr, n7, n8, n9] (w.heap.size + 1) 10 w2 (by omega) (fun k hk => by
    have : ∀ j v, (#[.int .u64 (n0 : Int), .int .u64 (n1 : Int), .int .u64 (n2 : Int), .int .u64 (n3 : Int), .int .u64 (n4 : Int), .int .u64 (n5 : Int), .int .u64 (sr : Int), .int .u64 (n7 : Int), .int .u64 (n8 : Int), .int .u64 (n9 : Int)] : Array Value)[j]? = some v → w2.cell? ⟨w.heap.size + 1, j, none⟩ = some v := fun j v hj => by rw [hw2]; simpa [go_sem] using hj
    match k, hk with
    | 0, _ => exact this 0 _ rfl
    | 1, _ => exact this 1 _ rfl
    | 2, _ => exact this 2 _ rfl
    | 3, _ => exact this 3 _ rfl
    | 4, _ => exact this 4 _ rfl
    | 5, _ => exact this 5 _ rfl
    | 6, _ => exact this 6 _ rfl
    | 7, _ => exact this 7 _ rfl
    | 8, _ => exact this 8 _ rfl
    | 9, _ => exact this 9 _ rfl) (by simp))
  have HB2 := Lib.hid hb2
  have HS2 := Lib.hid hs2
  have H63 : Hid (10 + 2 ≤ maxLen) := Lib.hid (by decide)
  clear hb2
  go_enter Tryz.func39, Tryz.ntmps39
  go_upto_region 1 with (fail)
  go_wp2_with fail
  rw [← hw2]
  clear hw2
  refine HN.out.mono ?_
  rintro e w3 ⟨rfl, ho3, hb3, hs3⟩
  have HO3 : Hid (w3.ownsRow w2.heap.size 57 6 (.slice (some ⟨w2.heap.size, 0, none⟩) 10 10) 10 (ucells [n0, n1, n2, n3, n4, n5, sr, n7, n8, n9])) := Lib.hid ho3
  have HB3 := Lib.hid hb3
  have c8 := (hb3.cell (p := ⟨w.heap.size, 8, none⟩) (by simp; omega)).trans k8
  have c11 := (hb3.cell (p := ⟨w.heap.size, 11, none⟩) (by simp; omega)).trans k11
  have HLE : Hid (w2.heap.size ≤ w3.heap.size + 1) := Lib.hid (by omega)
  have HONE : Hid (∀ u ∈ tcell nm ++ tcell bd, u.oneCell' = true) := Lib.hid (by intro u hu; simp only [tcell, List.cons_append, List.nil_append, List.mem_cons, List.not_mem_nil, or_false] at hu; rcases hu with rfl | rfl | rfl | rfl | rfl | rfl | rfl | rfl | rfl | rfl | rfl | rfl <;> rfl)
  clear ho3 hb3 k8 k11 HN hs2
  go_wp2_with (at_builtin; refine wpList_append_own _ rfl _ _ 45 rfl w2.heap.size 57 i0 z0 6 72 Tryz.underlying45 hi hz0 hz1 hz2 hz4 (by decide) _ 10 _ rfl (HO3.out.alloc _) ⟨w3.heap.size, 0, none⟩ 2 2 (tcell nm ++ tcell bd) rfl rfl (fun j u hj => lit_cells w3 _ _ j u hj) HONE.out H63.out (by omega) (by simp; exact HLE.out) ?_; intro v' w4 ho4 hg4 hnil; have HO4 := Lib.hid ho4; have HG4 := Lib.hid hg4; clear ho4 hg4 hnil)
  go_ret
  have hs2 := HS2.out
  have hb4 : Below w2.heap.size w2 w4 := (HB3.out.alloc (by omega) _).grown HG4.out (by simp; omega) (fun k hk => by cases hk; exact Nat.le_refl _)
  exact ⟨_, rfl, own_le HO4.out (by omega), HB2.out.trans (hb4.mono (by omega))⟩
end Go.Proofs.YtidfgjgbigedeaaGreatDoor
end

section
namespace Go.Proofs.YtidfgjgbigedeaaGreatDoor
open Go.RowKit Go.Lib Go.Wq Go.Mq
set_option linter.unusedVariables false
set_option linter.unusedSimpArgs false
set_option maxRecDepth 100000

theorem infoRow : ∃ (i : TypeInfo) (z : Value), Tryz.prog.info? 45 = some i ∧ i.zero = some z ∧ i.size = 1 ∧ i.bytes = 24 := by
  refine ⟨_, _, rfl, rfl, ?_, ?_⟩ <;> kernel_rfl

theorem belowTwo (w : World) (o q : Obj) : Below w.heap.size w ((w.alloc o).alloc q) := ((Below.refl _ _).alloc (Nat.le_refl _) _).alloc (by simp) _
theorem lit2_cells (w : World) (o : Obj) (cs : Array Value) (t : TypeId) : ∀ j u, cs.toList[j]? = some u → ((w.alloc o).alloc (.cells cs t)).cell? ⟨w.heap.size + 1, 0 + j, none⟩ = some u := fun j u hj => by
  rw [Nat.zero_add]
  rw [Array.getElem?_toList] at hj
  have h1 : w.heap.size + 1 = (w.alloc o).heap.size := by simp
  rw [h1]
  generalize w.alloc o = w'
  simpa [go_sem] using hj

set_option maxHeartbeats 4000000 in
theorem mNewsField_any (l : List Nw) (a : Option Addr) (c : Nat) (w : World) (hin : NewsIn w w.heap.size l a) (hn : l.length ≤ 1048576) :
    Calls Tryz.prog 40 #[.slice a l.length c] w fun e w' => ∃ g, e = .returned (.agg #[.int .u64 0, .int .i64 0, .float .f64 0, .bool false, .string ⟨#[]⟩, .slice (some ⟨g, 0, none⟩) l.length l.length]) ∧ RowsS w' (fun k => w.heap.size ≤ k ∧ k < w'.heap.size) (nwRows l) (some ⟨g, 0, none⟩) l.length ∧ Below w.heap.size w w' := by
  obtain ⟨i0, z0, hi, hz0, hz1, hz2⟩ := infoRow
  have H63 : Hid (l.length ≤ maxLen) := Lib.hid (by unfold maxLen; omega)
  have H48 : Hid (i0.bytes * l.length ≤ 281474976710656) := Lib.hid (by rw [hz2]; omega)
  have HIN := Lib.hid hin
  have HN := Lib.hid hn
  have hst := n_store
  clear hin hn
  go_enter Tryz.func40, Tryz.ntmps40
  go_wp2_with (at_make; refine wpList_make_full _ rfl _ _ 55 rfl (w.heap.size + 1) 45 i0 _ 1 Tryz.underlying55 hi hz0 hz1 .i64 .i64 l.length l.length l.length rfl rfl rfl rfl H48.out H63.out (by simp) ?_; intro w1 hown hg; have HOwn := Lib.hid hown; have HG := Lib.hid hg; clear hown hg)
  have hb0 := HG.out
  obtain ⟨w0, hw0⟩ : ∃ w0, w0 = w.alloc (.cells #[.int .u64 0, .int .i64 0, .float .f64 0, .bool false, .string ⟨#[]⟩, .slice none 0 0] 57) := ⟨_, rfl⟩
  have hs0 : w0.heap.size = w.heap.size + 1 := by rw [hw0]; simp
  rw [← hw0] at hb0 HOwn HG
  have HB1 : Hid (Below (w.heap.size + 1) w0 w1) := Lib.hid ⟨HG.out.os, HG.out.tape, HG.out.output, HG.out.size, fun k hk => HG.out.block k (by omega) (by simp)⟩
  have HF1 : Hid (FillR w1 (w.heap.size + 1) 45 w0.heap.size l.length []) := Lib.hid ⟨[], _, HOwn.out, .nil⟩
  have HB0 : Hid (Below w.heap.size w w0) := Lib.hid (by rw [hw0]; exact (Below.refl _ _).alloc (Nat.le_refl _) _)
  have hc0 : ∀ j v, (#[.int .u64 0, .int .i64 0, .float .f64 0, .bool false, .string ⟨#[]⟩, .slice none 0 0] : Array Value)[j]? = some v → w0.cell? ⟨w.heap.size, j, none⟩ = some v := fun j v hj => by rw [hw0]; simpa [go_sem] using hj
  have hf0 : ∀ j, w0.frozen? ⟨w.heap.size, j, none⟩ = false := fun j => by rw [hw0]; simp [go_sem]
  have HC0 := Lib.hid hc0
  have HFZ := Lib.hid hf0
  clear HOwn hb0 HG hc0 hf0 hw0
  rw [hs0] at HF1
  go_loopw [11] (fun v wr => ∃ k : Nat, v = .int .i64 (k : Int) ∧ k ≤ l.length ∧ Below (w.heap.size + 1) w0 wr ∧ FillR wr (w.heap.size + 1) 45 (w.heap.size + 1) l.length (nwRows (l.take k))) (fun v _ => l.length - (intOf v).toNat)
  case atStart => exact ⟨0, rfl, Nat.zero_le _, HB1.out, HF1.out⟩
  case round =>
    obtain ⟨k, rfl, hkn, hbel, hfill⟩ := hrel
    have HB := Lib.hid hbel
    have HFl := Lib.hid hfill
    have hhome := hfill.home.2
    by_cases hk : k < l.length
    · have hki : (k : Int) < (l.length : Int) := by omega
      have hk0 : (0 : Int) ≤ (k : Int) := by omega
      have hw1 : IntKind.i64.wrap ((k : Int) + 1) = (k : Int) + 1 := by have := HN.out; go_arith
      obtain ⟨b, o, rfl, hb, hc⟩ := (HIN.out.kept (fun i hi => (hbel.block i (by omega)).trans (HB0.out.block i hi)) (Nat.le_refl _)).at k hk
      obtain ⟨q0, q1, q2, q3, q4⟩ := hc k hk
      obtain ⟨f0, v0, g0c⟩ := hfill.spot k hk
      have g2 : ∀ o q, ((wr.alloc o).alloc q).cell? ⟨w.heap.size + 1, k, none⟩ = some v0 := fun o q => ((belowTwo wr o q).cell (p := ⟨w.heap.size + 1, k, none⟩) hhome).trans g0c
      have f2 : ∀ o q, ((wr.alloc o).alloc q).frozen? ⟨w.heap.size + 1, k, none⟩ = false := fun o q => ((belowTwo wr o q).frozen (p := ⟨w.heap.size + 1, k, none⟩) hhome).trans f0
      have hlt : (nwRows (l.take k)).length = k := by simp [nwRows]; omega
      have htk : nwRows (l.take (k + 1)) = nwRows (l.take k) ++ [nwRow l[k]] := by
        unfold nwRows; rw [List.take_add_one, List.getElem?_eq_getElem hk, List.map_append]; rfl
      have HTK := Lib.hid htk
      have HLT := Lib.hid hlt
      clear hbel hfill htk hlt hc
      generalize hnk : l[k] = n at *
      obtain ⟨nd, nk, nx, nr, nh⟩ := n
      have HNR : Hid (∀ W S, FCellsS W S (ncells (uOf nd) (uOf nk) nx nr (uOf nh)) (nwRow ⟨nd, nk, nx, nr, nh⟩)) := Lib.hid (fun W S => ncells_held W S ⟨nd, nk, nx, nr, nh⟩)
      have e0 := uOf_wrap nd
      have e1 := uOf_wrap nk
      have e2 := uOf_wrap nh
      have hr5 : (nwRow ⟨nd, nk, nx, nr, nh⟩).length = 5 := rfl
      have HR5 := Lib.hid hr5
      clear hr5
      generalize nwRow ⟨nd, nk, nx, nr, nh⟩ = row at *
      generalize uOf nd = u0 at *
      generalize uOf nk = u1 at *
      generalize uOf nh = u2 at *
      go_wp2_with fail
      have HX := HFl.out.next (by rw [HLT.out]; exact hk) (belowTwo wr (.cells #[.int .i64 nd, .int .i64 nk, .float .f64 nx, .float .f64 nr, .int .i64 nh] 42) (.cells (ncells u0 u1 nx nr u2).toArray 57)) (r := row) (sa := some ⟨wr.heap.size + 1, 0, none⟩) (sn := 5) 5 (by
        have := (HNR.out ((wr.alloc (.cells #[.int .i64 nd, .int .i64 nk, .float .f64 nx, .float .f64 nr, .int .i64 nh] 42)).alloc (.cells (ncells u0 u1 nx nr u2).toArray 57)) (Mine (w.heap.size + 1) ((wr.alloc (.cells #[.int .i64 nd, .int .i64 nk, .float .f64 nx, .float .f64 nr, .int .i64 nh] 42)).alloc (.cells (ncells u0 u1 nx nr u2).toArray 57)) (.slice (some ⟨w.heap.size + 1, 0, none⟩) l.length l.length))).flds (fun k hk => hk) (wr.heap.size + 1) 0 ⟨by omega, by simp, by simp [Value.ownBlock]; omega⟩ (fun j u hj => lit2_cells wr _ (ncells u0 u1 nx nr u2).toArray _ j u (by simpa using hj))
        rw [HR5.out] at this
        exact this)
      rw [HLT.out] at HX
      refine ⟨⟨k + 1, by simp, by omega, ?_, by rw [HTK.out]; exact HX⟩, by simp [intOf]; omega⟩
      exact (((HB.out.alloc (by omega) _).alloc (by simp; omega) _)).setCell (by simp) _
    · have hfn : k = l.length := by omega
      subst hfn
      have hki : ¬ ((l.length : Nat) : Int) < (l.length : Int) := by omega
      have hall := hfill.all (by simp [nwRows])
      rw [List.take_length] at hall
      have hl2 : (nwRows l).length = l.length := by simp [nwRows]
      rw [hl2] at hall
      have HALL := Lib.hid hall
      have c0 := (hbel.cell (p := ⟨w.heap.size, 0, none⟩) (by simp)).trans (HC0.out 0 _ rfl)
      have c1 := (hbel.cell (p := ⟨w.heap.size, 1, none⟩) (by simp)).trans (HC0.out 1 _ rfl)
      have c2 := (hbel.cell (p := ⟨w.heap.size, 2, none⟩) (by simp)).trans (HC0.out 2 _ rfl)
      have c3 := (hbel.cell (p := ⟨w.heap.size, 3, none⟩) (by simp)).trans (HC0.out 3 _ rfl)
      have c4 := (hbel.cell (p := ⟨w.heap.size, 4, none⟩) (by simp)).trans (HC0.out 4 _ rfl)
      have c5 := (hbel.cell (p := ⟨w.heap.size, 5, none⟩) (by simp)).trans (HC0.out 5 _ rfl)
      have z0 := (hbel.frozen (p := ⟨w.heap.size, 0, none⟩) (by simp)).trans (HFZ.out 0)
      have z1 := (hbel.frozen (p := ⟨w.heap.size, 1, none⟩) (by simp)).trans (HFZ.out 1)
      have z2 := (hbel.frozen (p := ⟨w.heap.size, 2, none⟩) (by simp)).trans (HFZ.out 2)
      have z3 := (hbel.frozen (p := ⟨w.heap.size, 3, none⟩) (by simp)).trans (HFZ.out 3)
      have z4 := (hbel.frozen (p := ⟨w.heap.size, 4, none⟩) (by simp)).trans (HFZ.out 4)
      have z5 := (hbel.frozen (p := ⟨w.heap.size, 5, none⟩) (by simp)).trans (HFZ.out 5)
      have hsw : w.heap.size < wr.heap.size := by have := hbel.size; omega
      clear hbel hfill hall hl2
      go_wp2_with fail
      refine bodyPost_ret (v := .agg #[.int .u64 0, .int .i64 0, .float .f64 0, .bool false, .string ⟨#[]⟩, .slice (some ⟨w.heap.size + 1, 0, none⟩) l.length l.length]) (by simp [results, Tryz.results40, go_sem, c0, c1, c2, c3, c4, c5]) rfl ?_
      refine ⟨w.heap.size + 1, rfl, ?_, ?_⟩
      · refine RowsS.kept (fun k hk => ?_) (fun k hk => ⟨by omega, by simpa [World.setCell] using hk.2⟩) _ _ _ HALL.out
        have hne : k ≠ w.heap.size := by omega
        rw [Below.heap_setCell _ _ _ _ hne, Below.heap_setCell _ _ _ _ hne, Below.heap_setCell _ _ _ _ hne, Below.heap_setCell _ _ _ _ hne, Below.heap_setCell _ _ _ _ hne, Below.heap_setCell _ _ _ _ hne]
      · have hq : ∀ (w' : World) (o : Nat) (v : Value), Below w.heap.size w w' → Below w.heap.size w (w'.setCell ⟨w.heap.size, o, none⟩ v) := fun w' o v h => h.setCell (Nat.le_refl _) v
        exact hq _ _ _ (hq _ _ _ (hq _ _ _ (hq _ _ _ (hq _ _ _ (hq _ _ _ (HB0.out.trans (HB.out.mono (by omega))))))))
end Go.Proofs.YtidfgjgbigedeaaGreatDoor
end

section
namespace Go.Proofs.YtidfgjgbigedeaaGreatDoor
open Go.RowKit Go.Lib Go.Wq Go.Mq
set_option linter.unusedVariables false
set_option linter.unusedSimpArgs false
set_option maxRecDepth 100000

/-- A slice of fields, made anew. -/
def FldsEnds (fs : List Fld) (w : World) (e : Ending) (w' : World) : Prop := ∃ (a : Option Addr) (c : Nat), e = .returned (.slice a fs.length c) ∧ FldsIn w' w'.heap.size fs a fs.length ∧ Below w.heap.size w w'
theorem ends_of_own {w w' : World} {base t : Nat} {v : Value} {fs : List Fld} {xs : List Value} {S : Nat → Prop} (ho : w'.ownsRow base t 6 v fs.length xs) (hc : FCellsS w' S xs fs) (hS : ∀ k, S k → k < w'.heap.size) (hb : Below w.heap.size w w') : FldsEnds fs w (.returned v) w' := by
  have hl := ho.lt
  have hcs := @World.ownsRow.cells w' base t 6 v fs.length xs ho
  rcases ho.2 with ⟨rfl, hn⟩ | ⟨g, cap, cur, rfl, hbg, hg, hr⟩
  · have : fs = [] := List.eq_nil_of_length_eq_zero hn
    subst this
    exact ⟨none, 0, rfl, by simp [FldsIn], hb⟩
  · refine ⟨some ⟨g, 0, none⟩, cap, rfl, ?_, hb⟩
    refine FldsS.toIn (S := fun k => k < w'.heap.size) (fun k hk => hk) _ _ _ (hc.flds hS g 0 (hl g rfl).2 ?_)
    intro j u hj
    have := hcs (g := g) rfl j u hj
    rwa [spot_add] at this
theorem flds_1 (nn ec sq : Nat) (l : List Nw) (p : Pk) : fldsOf ⟨1, nn, ec, sq, l, p⟩ = [1, nn, ec].map fU := rfl
theorem flds_2 (nn ec sq : Nat) (l : List Nw) (p : Pk) : fldsOf ⟨2, nn, ec, sq, l, p⟩ = [2, nn, ec, sq].map fU ++ [fL (nwRows l)] := rfl
theorem flds_3 (nn ec sq : Nat) (l : List Nw) (p : Pk) : fldsOf ⟨3, nn, ec, sq, l, p⟩ = [3, nn, ec, sq].map fU := rfl
theorem flds_4 (nn ec sq : Nat) (l : List Nw) (p : Pk) : fldsOf ⟨4, nn, ec, sq, l, p⟩ = [4].map fU ++ pkFlds p := rfl
theorem nums_cells (w : World) (b : Nat) (zs : List Nat) (h : ∀ j v, (zs.map (fun z : Nat => Value.int .u64 (z : Int)))[j]? = some v → w.cell? ⟨b, j, none⟩ = some v) : ∀ k (hk : k < zs.length), w.cell? ⟨b, k, none⟩ = some (.int .u64 (zs[k] : Int)) := fun k hk => h k _ (by rw [List.getElem?_map, List.getElem?_eq_getElem hk]; rfl)

set_option maxHeartbeats 4000000 in
theorem mFlds_1 (nn ec sq : Nat) (l : List Nw) (na : Option Addr) (nc : Nat) (kd fr bk tw hm hp : Int) (sr : Nat) (cd : Int) (nm : ByteArray) (id at_ : Int) (bd : ByteArray) (w : World) :
    Calls Tryz.prog 19 #[.agg #[.int .i64 1, .int .u64 (nn : Int), .int .u64 (ec : Int), .int .u64 (sq : Int), .slice na l.length nc, .int .i64 kd, .int .i64 fr, .int .i64 bk, .int .i64 tw, .int .i64 hm, .int .i64 hp, .int .u64 (sr : Int), .int .i64 cd, .string nm, .int .i64 id, .int .i64 at_, .string bd]] w (FldsEnds (fldsOf ⟨1, nn, ec, sq, l, ⟨kd, fr, bk, tw, hm, hp, sr, cd, nm, id, at_, bd⟩⟩) w) := by
  rw [flds_1]
  obtain ⟨w2, hw2⟩ : ∃ w2, w2 = (w.alloc (.cells #[.int .i64 1, .int .u64 (nn : Int), .int .u64 (ec : Int), .int .u64 (sq : Int), .slice na l.length nc, .int .i64 kd, .int .i64 fr, .int .i64 bk, .int .i64 tw, .int .i64 hm, .int .i64 hp, .int .u64 (sr : Int), .int .i64 cd, .string nm, .int .i64 id, .int .i64 at_, .string bd] 27)).alloc (.cells #[.int .u64 1, .int .u64 (nn : Int), .int .u64 (ec : Int)] 22) := ⟨_, rfl⟩
  have hs2 : w2.heap.size = w.heap.size + 2 := by rw [hw2]; simp
  have hb2 : Below w.heap.size w w2 := by rw [hw2]; exact belowTwo _ _ _
  have HB2 := Lib.hid hb2
  have HN := Lib.hid (mNumbers_any [1, nn, ec] (w.heap.size + 1) 3 w2 (by omega) (nums_cells w2 _ [1, nn, ec] (fun j v hj => by rw [hw2]; have := lit2_cells w (.cells #[.int .i64 1, .int .u64 (nn : Int), .int .u64 (ec : Int), .int .u64 (sq : Int), .slice na l.length nc, .int .i64 kd, .int .i64 fr, .int .i64 bk, .int .i64 tw, .int .i64 hm, .int .i64 hp, .int .u64 (sr : Int), .int .i64 cd, .string nm, .int .i64 id, .int .i64 at_, .string bd] 27) #[.int .u64 1, .int .u64 (nn : Int), .int .u64 (ec : Int)] 22 j v hj; rwa [Nat.zero_add] at this)) (by simp))
  clear hb2
  go_enter Tryz.func19, Tryz.ntmps19
  go_wp2_with fail
  rw [← hw2]
  clear hw2
  refine HN.out.mono ?_
  rintro e w3 ⟨rfl, ho3, hb3, hs3⟩
  have HE : Hid (FldsEnds ([1, nn, ec].map fU) w (.returned (.slice (some ⟨w2.heap.size, 0, none⟩) 3 3)) w3) := Lib.hid (ends_of_own (S := fun _ => False) (fs := [1, nn, ec].map fU) ho3 (ucells_held _ _ _) (fun _ h => h.elim) (HB2.out.trans (hb3.mono (by omega))))
  clear ho3 hb3 HN hs2
  go_wp2_with fail
  go_ret
  exact HE.out
set_option maxHeartbeats 4000000 in
theorem mFlds_3 (nn ec sq : Nat) (l : List Nw) (na : Option Addr) (nc : Nat) (kd fr bk tw hm hp : Int) (sr : Nat) (cd : Int) (nm : ByteArray) (id at_ : Int) (bd : ByteArray) (w : World) :
    Calls Tryz.prog 19 #[.agg #[.int .i64 3, .int .u64 (nn : Int), .int .u64 (ec : Int), .int .u64 (sq : Int), .slice na l.length nc, .int .i64 kd, .int .i64 fr, .int .i64 bk, .int .i64 tw, .int .i64 hm, .int .i64 hp, .int .u64 (sr : Int), .int .i64 cd, .string nm, .int .i64 id, .int .i64 at_, .string bd]] w (FldsEnds (fldsOf ⟨3, nn, ec, sq, l, ⟨kd, fr, bk, tw, hm, hp, sr, cd, nm, id, at_, bd⟩⟩) w) := by
  rw [flds_3]
  obtain ⟨w2, hw2⟩ : ∃ w2, w2 = (w.alloc (.cells #[.int .i64 3, .int .u64 (nn : Int), .int .u64 (ec : Int), .int .u64 (sq : Int), .slice na l.length nc, .int .i64 kd, .int .i64 fr, .int .i64 bk, .int .i64 tw, .int .i64 hm, .int .i64 hp, .int .u64 (sr : Int), .int .i64 cd, .string nm, .int .i64 id, .int .i64 at_, .string bd] 27)).alloc (.cells #[.int .u64 3, .int .u64 (nn : Int), .int .u64 (ec : Int), .int .u64 (sq : Int)] 22) := ⟨_, rfl⟩
  have hs2 : w2.heap.size = w.heap.size + 2 := by rw [hw2]; simp
  have hb2 : Below w.heap.size w w2 := by rw [hw2]; exact belowTwo _ _ _
  have HB2 := Lib.hid hb2
  have k0 : w2.cell? ⟨w.heap.size, 0, none⟩ = some (.int .i64 3) := by rw [hw2]; simp [go_sem]
  have HN := Lib.hid (mNumbers_any [3, nn, ec, sq] (w.heap.size + 1) 4 w2 (by omega) (nums_cells w2 _ [3, nn, ec, sq] (fun j v hj => by rw [hw2]; have := lit2_cells w (.cells #[.int .i64 3, .int .u64 (nn : Int), .int .u64 (ec : Int), .int .u64 (sq : Int), .slice na l.length nc, .int .i64 kd, .int .i64 fr, .int .i64 bk, .int .i64 tw, .int .i64 hm, .int .i64 hp, .int .u64 (sr : Int), .int .i64 cd, .string nm, .int .i64 id, .int .i64 at_, .string bd] 27) #[.int .u64 3, .int .u64 (nn : Int), .int .u64 (ec : Int), .int .u64 (sq : Int)] 22 j v hj; rwa [Nat.zero_add] at this)) (by simp))
  clear hb2
  go_enter Tryz.func19, Tryz.ntmps19
  go_wp2_with fail
  rw [← hw2]
  clear hw2
  refine HN.out.mono ?_
  rintro e w3 ⟨rfl, ho3, hb3, hs3⟩
  have c0 := (hb3.cell (p := ⟨w.heap.size, 0, none⟩) (by simp; omega)).trans k0
  have HE : Hid (FldsEnds ([3, nn, ec, sq].map fU) w (.returned (.slice (some ⟨w2.heap.size, 0, none⟩) 4 4)) w3) := Lib.hid (ends_of_own (S := fun _ => False) (fs := [3, nn, ec, sq].map fU) ho3 (ucells_held _ _ _) (fun _ h => h.elim) (HB2.out.trans (hb3.mono (by omega))))
  clear ho3 hb3 HN hs2 k0
  go_wp2_with fail
  go_ret
  exact HE.out
set_option maxHeartbeats 4000000 in
theorem mFlds_2 (nn ec sq : Nat) (l : List Nw) (na : Option Addr) (nc : Nat) (kd fr bk tw hm hp : Int) (sr : Nat) (cd : Int) (nm : ByteArray) (id at_ : Int) (bd : ByteArray) (w : World) (hin : NewsIn w w.heap.size l na) (hn : l.length ≤ 1048576) :
    Calls Tryz.prog 19 #[.agg #[.int .i64 2, .int .u64 (nn : Int), .int .u64 (ec : Int), .int .u64 (sq : Int), .slice na l.length nc, .int .i64 kd, .int .i64 fr, .int .i64 bk, .int .i64 tw, .int .i64 hm, .int .i64 hp, .int .u64 (sr : Int), .int .i64 cd, .string nm, .int .i64 id, .int .i64 at_, .string bd]] w (FldsEnds (fldsOf ⟨2, nn, ec, sq, l, ⟨kd, fr, bk, tw, hm, hp, sr, cd, nm, id, at_, bd⟩⟩) w) := by
  rw [flds_2]
  obtain ⟨w2, hw2⟩ : ∃ w2, w2 = (w.alloc (.cells #[.int .i64 2, .int .u64 (nn : Int), .int .u64 (ec : Int), .int .u64 (sq : Int), .slice na l.length nc, .int .i64 kd, .int .i64 fr, .int .i64 bk, .int .i64 tw, .int .i64 hm, .int .i64 hp, .int .u64 (sr : Int), .int .i64 cd, .string nm, .int .i64 id, .int .i64 at_, .string bd] 27)).alloc (.cells #[.int .u64 2, .int .u64 (nn : Int), .int .u64 (ec : Int), .int .u64 (sq : Int)] 22) := ⟨_, rfl⟩
  have hs2 : w2.heap.size = w.heap.size + 2 := by rw [hw2]; simp
  have hb2 : Below w.heap.size w w2 := by rw [hw2]; exact belowTwo _ _ _
  have HB2 := Lib.hid hb2
  have HS2 := Lib.hid hs2
  have k4 : w2.cell? ⟨w.heap.size, 4, none⟩ = some (.slice na l.length nc) := by rw [hw2]; simp [go_sem]
  have HIN := Lib.hid hin
  have HL := Lib.hid hn
  clear hin hn
  have k0 : w2.cell? ⟨w.heap.size, 0, none⟩ = some (.int .i64 2) := by rw [hw2]; simp [go_sem]
  have HN := Lib.hid (mNumbers_any [2, nn, ec, sq] (w.heap.size + 1) 4 w2 (by omega) (nums_cells w2 _ [2, nn, ec, sq] (fun j v hj => by rw [hw2]; have := lit2_cells w (.cells #[.int .i64 2, .int .u64 (nn : Int), .int .u64 (ec : Int), .int .u64 (sq : Int), .slice na l.length nc, .int .i64 kd, .int .i64 fr, .int .i64 bk, .int .i64 tw, .int .i64 hm, .int .i64 hp, .int .u64 (sr : Int), .int .i64 cd, .string nm, .int .i64 id, .int .i64 at_, .string bd] 27) #[.int .u64 2, .int .u64 (nn : Int), .int .u64 (ec : Int), .int .u64 (sq : Int)] 22 j v hj; rwa [Nat.zero_add] at this)) (by simp))
  clear hb2
  go_enter Tryz.func19, Tryz.ntmps19
  go_wp2_with fail
  rw [← hw2]
  clear hw2
  refine HN.out.mono ?_
  rintro e w3 ⟨rfl, ho3, hb3, hs3⟩
  have HS3 := Lib.hid hs3
  have c0 := (hb3.cell (p := ⟨w.heap.size, 0, none⟩) (by simp; omega)).trans k0
  have c4 := (hb3.cell (p := ⟨w.heap.size, 4, none⟩) (by simp; omega)).trans k4
  have HNF := Lib.hid (mNewsField_any l na nc w3 (HIN.out.kept (fun i hi => (hb3.block i (by omega)).trans (HB2.out.block i hi)) (by omega)) HL.out)
  have HO3 := Lib.hid ho3
  have HB3 := Lib.hid hb3
  obtain ⟨i0, z0, hi, hz0, hz1, hz2, hz3⟩ := infoFld
  have hz4 : z0.cells.size = 6 := by rw [hz3]; rfl
  have H63 : Hid (4 + 1 ≤ maxLen) := Lib.hid (by decide)
  clear ho3 hb3 HN k4 hs2 k0
  go_wp2_with fail
  refine HNF.out.mono ?_
  rintro e w4 ⟨g, rfl, hr4, hb4⟩
  have HR4 := Lib.hid hr4
  have HB4 := Lib.hid hb4
  have HO4 := Lib.hid (own_kept HO3.out hb4)
  have hs4 := hb4.size
  have HLE : Hid (w2.heap.size ≤ w4.heap.size + 1) := Lib.hid (by omega)
  have HONE : Hid (∀ u ∈ [Value.int .u64 0, .int .i64 0, .float .f64 0, .bool false, .string ⟨#[]⟩, .slice (some ⟨g, 0, none⟩) l.length l.length], u.oneCell' = true) := Lib.hid (by intro u hu; simp only [List.mem_cons, List.not_mem_nil, or_false] at hu; rcases hu with rfl | rfl | rfl | rfl | rfl | rfl <;> rfl)
  clear hr4 hb4 HNF
  go_wp2_with (at_builtin; refine wpList_append_own _ rfl _ _ 45 rfl w2.heap.size 57 i0 z0 6 72 Tryz.underlying45 hi hz0 hz1 hz2 hz4 (by decide) _ 4 _ rfl (HO4.out.alloc _) ⟨w4.heap.size, 0, none⟩ 1 1 [.int .u64 0, .int .i64 0, .float .f64 0, .bool false, .string ⟨#[]⟩, .slice (some ⟨g, 0, none⟩) l.length l.length] rfl rfl (fun j u hj => lit_cells w4 _ _ j u hj) HONE.out H63.out (by omega) (by simp; exact HLE.out) ?_; intro v' w5 ho5 hg5 hnil; have HO5 := Lib.hid ho5; have HG5 := Lib.hid hg5; clear ho5 hg5 hnil)
  go_ret
  have hs2 := HS2.out
  have hb34 : Below w2.heap.size w2 w4 := HB3.out.trans (HB4.out.mono (by omega))
  have hb5 : Below w2.heap.size w2 w5 := (hb34.alloc (by omega) _).grown HG5.out (by simp; omega) (fun k hk => by cases hk; exact Nat.le_refl _)
  have hsz5 := HG5.out.size
  simp at hsz5
  refine ends_of_own (fs := [2, nn, ec, sq].map fU ++ [fL (nwRows l)]) (S := fun k => w3.heap.size ≤ k ∧ k < w4.heap.size) HO5.out ((ucells_held _ _ _).append (FCellsS.cons (u := 0) (i := 0) (f := 0) (bb := false) (s := ⟨#[]⟩) (l := nwRows l) (ra := some ⟨g, 0, none⟩) (rn := l.length) (rc := l.length) (RowsS.kept (fun k hk => ?_) (fun k hk => hk) _ _ _ HR4.out) .nil)) (fun k hk => by omega) (HB2.out.trans (hb5.mono (by omega)))
  have hq3 := HS3.out
  have hne : ¬ w2.heap.size = k := by omega
  rw [HG5.out.block k (by simp; omega) (fun e => hne (by injection e with e; exact e.symm)), Below.heap_alloc _ _ _ hk.2]
end Go.Proofs.YtidfgjgbigedeaaGreatDoor
end

section
namespace Go.Proofs.YtidfgjgbigedeaaGreatDoor
open Go.RowKit Go.Lib Go.Wq Go.Mq
set_option linter.unusedVariables false
set_option linter.unusedSimpArgs false
set_option maxRecDepth 100000

theorem ite_of {c : Prop} [Decidable c] {a b : Prop} (hc : c) (ha : a) : if c then a else b := by rw [if_pos hc]; exact ha

set_option maxHeartbeats 8000000 in
theorem mFlds_4 (nn ec sq : Nat) (l : List Nw) (na : Option Addr) (nc : Nat) (kd fr bk tw hm hp : Int) (sr : Nat) (cd : Int) (nm : ByteArray) (id at_ : Int) (bd : ByteArray) (w : World) :
    Calls Tryz.prog 19 #[.agg #[.int .i64 4, .int .u64 (nn : Int), .int .u64 (ec : Int), .int .u64 (sq : Int), .slice na l.length nc, .int .i64 kd, .int .i64 fr, .int .i64 bk, .int .i64 tw, .int .i64 hm, .int .i64 hp, .int .u64 (sr : Int), .int .i64 cd, .string nm, .int .i64 id, .int .i64 at_, .string bd]] w (FldsEnds (fldsOf ⟨4, nn, ec, sq, l, ⟨kd, fr, bk, tw, hm, hp, sr, cd, nm, id, at_, bd⟩⟩) w) := by
  rw [flds_4]
  obtain ⟨i0, z0, hi, hz0, hz1, hz2, hz3⟩ := infoFld
  have hz4 : z0.cells.size = 6 := by rw [hz3]; rfl
  have H63 : Hid (1 + 12 ≤ maxLen) := Lib.hid (by decide)
  obtain ⟨W1, hW1⟩ : ∃ W1, W1 = w.alloc (.cells #[.int .i64 4, .int .u64 (nn : Int), .int .u64 (ec : Int), .int .u64 (sq : Int), .slice na l.length nc, .int .i64 kd, .int .i64 fr, .int .i64 bk, .int .i64 tw, .int .i64 hm, .int .i64 hp, .int .u64 (sr : Int), .int .i64 cd, .string nm, .int .i64 id, .int .i64 at_, .string bd] 27) := ⟨_, rfl⟩
  have hs1 : w.heap.size < W1.heap.size := by rw [hW1]; simp
  have HB1 : Hid (Below w.heap.size w W1) := Lib.hid (by rw [hW1]; exact (Below.refl _ _).alloc (Nat.le_refl _) _)
  have hcs : ∀ j v, (#[.int .i64 4, .int .u64 (nn : Int), .int .u64 (ec : Int), .int .u64 (sq : Int), .slice na l.length nc, .int .i64 kd, .int .i64 fr, .int .i64 bk, .int .i64 tw, .int .i64 hm, .int .i64 hp, .int .u64 (sr : Int), .int .i64 cd, .string nm, .int .i64 id, .int .i64 at_, .string bd] : Array Value)[j]? = some v → W1.cell? ⟨w.heap.size, j, none⟩ = some v := fun j v hj => by rw [hW1]; simpa [go_sem] using hj
  have KA : ∀ W, Below W1.heap.size W1 W → W.cell? ⟨w.heap.size, 0, none⟩ = some (.int .i64 4) ∧ W.cell? ⟨w.heap.size, 5, none⟩ = some (.int .i64 kd) ∧ W.cell? ⟨w.heap.size, 6, none⟩ = some (.int .i64 fr) ∧ W.cell? ⟨w.heap.size, 7, none⟩ = some (.int .i64 bk) ∧ W.cell? ⟨w.heap.size, 8, none⟩ = some (.int .i64 tw) ∧ W.cell? ⟨w.heap.size, 9, none⟩ = some (.int .i64 hm) ∧ W.cell? ⟨w.heap.size, 10, none⟩ = some (.int .i64 hp) ∧ W.cell? ⟨w.heap.size, 11, none⟩ = some (.int .u64 (sr : Int)) ∧ W.cell? ⟨w.heap.size, 12, none⟩ = some (.int .i64 cd) ∧ W.cell? ⟨w.heap.size, 13, none⟩ = some (.string nm) ∧ W.cell? ⟨w.heap.size, 14, none⟩ = some (.int .i64 id) ∧ W.cell? ⟨w.heap.size, 15, none⟩ = some (.int .i64 at_) ∧ W.cell? ⟨w.heap.size, 16, none⟩ = some (.string bd) := fun W h => by
    have e : ∀ j v, (#[.int .i64 4, .int .u64 (nn : Int), .int .u64 (ec : Int), .int .u64 (sq : Int), .slice na l.length nc, .int .i64 kd, .int .i64 fr, .int .i64 bk, .int .i64 tw, .int .i64 hm, .int .i64 hp, .int .u64 (sr : Int), .int .i64 cd, .string nm, .int .i64 id, .int .i64 at_, .string bd] : Array Value)[j]? = some v → W.cell? ⟨w.heap.size, j, none⟩ = some v := fun j v hj => (h.cell (p := ⟨w.heap.size, j, none⟩) hs1).trans (hcs j v hj)
    exact ⟨e 0 _ rfl, e 5 _ rfl, e 6 _ rfl, e 7 _ rfl, e 8 _ rfl, e 9 _ rfl, e 10 _ rfl, e 11 _ rfl, e 12 _ rfl, e 13 _ rfl, e 14 _ rfl, e 15 _ rfl, e 16 _ rfl⟩
  have HPK := Lib.hid (fun W => mPkFlds_any kd fr bk tw hm hp sr cd nm id at_ bd W)
  have HPL : Hid ((ucells (pkNums ⟨kd, fr, bk, tw, hm, hp, sr, cd, nm, id, at_, bd⟩) ++ (tcell nm ++ tcell bd)).length = 12 * 6) := Lib.hid (by rw [List.length_append, ucells_len]; rfl)
  have HONE : Hid (∀ u ∈ ucells (pkNums ⟨kd, fr, bk, tw, hm, hp, sr, cd, nm, id, at_, bd⟩) ++ (tcell nm ++ tcell bd), u.oneCell' = true) := Lib.hid (pk_one _)
  generalize hpp : (⟨kd, fr, bk, tw, hm, hp, sr, cd, nm, id, at_, bd⟩ : Pk) = p at *
  have hpn : nm = p.name := by rw [← hpp]
  have hpb : bd = p.body := by rw [← hpp]
  rw [hpn, hpb] at HPL HONE
  have HPK2 : Hid (∀ W, Calls Tryz.prog 39 #[.agg #[.int .i64 kd, .int .i64 fr, .int .i64 bk, .int .i64 tw, .int .i64 hm, .int .i64 hp, .int .u64 (sr : Int), .int .i64 cd, .string nm, .int .i64 id, .int .i64 at_, .string bd]] W fun e w' => ∃ v, e = .returned v ∧ w'.ownsRow W.heap.size 57 6 v 12 (ucells (pkNums p) ++ (tcell p.name ++ tcell p.body)) ∧ Below W.heap.size W w') := Lib.hid (fun W => by rw [← hpn, ← hpb]; exact HPK.out W)
  clear HPK hcs hpn hpb hpp
  have HPK := HPK2
  clear HPK2
  go_enter Tryz.func19, Tryz.ntmps19
  go_upto_region 5 with (fail)
  rw [← hW1]
  clear hW1
  refine wp_region_held_drew (S := fun w' => Below W1.heap.size W1 w') (by kernel_rfl) (Below.drew (Below.refl _ _)) (fun hHeld => ?_)
  have hb0 := hHeld
  obtain ⟨w0, hw0⟩ : ∃ V, V = W1.drew := ⟨_, rfl⟩
  rw [← hw0] at hHeld hb0 ⊢
  clear hw0
  refine wpAnyH_take (i := 0) (oi := _) (v := ?_) rfl (by kernel_rfl) (by kernel_rfl) (by kernel_rfl) (fun _ _ _ h => h) (Or.inl ⟨by rfl, ?_⟩) (by assumption) ?_
  rotate_left
  · intro W hSw
    obtain ⟨k0, k5, k6, k7, k8, k9, k10, k11, k12, k13, k14, k15, k16⟩ := KA W hSw
    go_simp
    try with_reducible rfl
  (try simp only [Act.put, List.setIfInBounds_toArray, List.set_cons_zero, List.set_cons_succ, List.getElem_toArray, List.getElem_cons_succ, List.getElem_cons_zero])
  refine wpAnyH_take (i := 1) (oi := _) (v := ?_) rfl (by kernel_rfl) (by kernel_rfl) (by kernel_rfl) (fun _ _ _ h => h) (Or.inl ⟨by rfl, ?_⟩) (by assumption) ?_
  rotate_left
  · intro W hSw
    obtain ⟨k0, k5, k6, k7, k8, k9, k10, k11, k12, k13, k14, k15, k16⟩ := KA W hSw
    go_simp
    try with_reducible rfl
  (try simp only [Act.put, List.setIfInBounds_toArray, List.set_cons_zero, List.set_cons_succ, List.getElem_toArray, List.getElem_cons_succ, List.getElem_cons_zero])
  refine wpAnyH_take (i := 2) (oi := _) (v := ?_) rfl (by kernel_rfl) (by kernel_rfl) (by kernel_rfl) (fun _ _ _ h => h) (Or.inl ⟨by rfl, ?_⟩) (by assumption) ?_
  rotate_left
  · intro W hSw
    obtain ⟨k0, k5, k6, k7, k8, k9, k10, k11, k12, k13, k14, k15, k16⟩ := KA W hSw
    go_simp
    try with_reducible rfl
  (try simp only [Act.put, List.setIfInBounds_toArray, List.set_cons_zero, List.set_cons_succ, List.getElem_toArray, List.getElem_cons_succ, List.getElem_cons_zero])
  refine wpAnyH_take (i := 5) (oi := _) (v := ?_) rfl (by kernel_rfl) (by kernel_rfl) (by kernel_rfl) (fun _ _ _ h => h) (Or.inl ⟨by rfl, ?_⟩) (by assumption) ?_
  rotate_left
  · intro W hSw
    obtain ⟨k0, k5, k6, k7, k8, k9, k10, k11, k12, k13, k14, k15, k16⟩ := KA W hSw
    go_simp
    try with_reducible rfl
  (try simp only [Act.put, List.setIfInBounds_toArray, List.set_cons_zero, List.set_cons_succ, List.getElem_toArray, List.getElem_cons_succ, List.getElem_cons_zero])
  refine wpAnyH_take (i := 6) (oi := _) (v := ?_) rfl (by kernel_rfl) (by kernel_rfl) (by kernel_rfl) (fun _ _ _ h => h) (Or.inl ⟨by rfl, ?_⟩) (by assumption) ?_
  rotate_left
  · intro W hSw
    obtain ⟨k0, k5, k6, k7, k8, k9, k10, k11, k12, k13, k14, k15, k16⟩ := KA W hSw
    go_simp
    try with_reducible rfl
  (try simp only [Act.put, List.setIfInBounds_toArray, List.set_cons_zero, List.set_cons_succ, List.getElem_toArray, List.getElem_cons_succ, List.getElem_cons_zero])
  have h4 : IntKind.u64.wrap 4 = 4 := rfl
  simp only [h4]
  refine wpAnyH_ready (rs := [3]) (by kernel_rfl) (by simp) ?_
  refine AllReadyH.cons (o := _) rfl (fun K hK => ?_) AllReadyH.nil
  go_simp
  obtain ⟨wA, hwA⟩ : ∃ V, V = w0.alloc (.cells #[.int .u64 4] 22) := ⟨_, rfl⟩
  have qwA : wA.cell? ⟨w0.heap.size, 0, none⟩ = some (.int .u64 4) := by rw [hwA]; simp [go_sem]
  have swA : w0.heap.size < wA.heap.size := by rw [hwA]; simp
  have bwA : Below w0.heap.size w0 wA := by rw [hwA]; exact (Below.refl _ _).alloc (Nat.le_refl _) _
  rw [← hwA]
  clear hwA
  have BwA := Lib.hid (below_nx hb0 bwA)
  refine hK.out _ _ BwA.out (fun hHeld => ?_)
  clear hK K
  (try simp only [Act.put, List.setIfInBounds_toArray, List.set_cons_zero, List.set_cons_succ, List.getElem_toArray, List.getElem_cons_succ, List.getElem_cons_zero])
  refine wpAnyH_ready (rs := [4]) (by kernel_rfl) (by simp) ?_
  refine AllReadyH.cons (o := _) rfl (fun K hK => ?_) AllReadyH.nil
  go_simp
  refine (mNumbers_any [4] w0.heap.size 1 wA (by have := swA; have := BwA.out.size; omega) (nums_cells wA _ [4] (fun j v hj => by match j with | 0 => (injection hj with hj; subst hj; exact qwA) | j + 1 => cases hj)) (by simp)).mono ?_
  rintro e wB ⟨rfl, owB, bwB, swB⟩
  have OwB : Hid (wB.ownsRow wA.heap.size 57 6 (.slice (some ⟨wA.heap.size, 0, none⟩) 1 1) 1 (ucells [4])) := Lib.hid owB
  have BwB := Lib.hid (below_nx BwA.out bwB)
  go_wp2_with fail
  refine hK.out _ _ BwB.out (fun hHeld => ?_)
  clear hK K
  (try simp only [Act.put, List.setIfInBounds_toArray, List.set_cons_zero, List.set_cons_succ, List.getElem_toArray, List.getElem_cons_succ, List.getElem_cons_zero])
  refine wpAnyH_ready (rs := [7]) (by kernel_rfl) (by simp) ?_
  refine AllReadyH.cons (o := _) rfl (fun K hK => ?_) AllReadyH.nil
  go_simp
  refine (HPK.out wB).mono ?_
  rintro e wC ⟨vwC, rfl, owC, bwC⟩
  have OwC := Lib.hid owC
  have BwC := Lib.hid (below_nx BwB.out bwC)
  have swC := bwC.size
  go_wp2_with fail
  refine hK.out _ _ BwC.out (fun hHeld => ?_)
  clear hK K
  (try simp only [Act.put, List.setIfInBounds_toArray, List.set_cons_zero, List.set_cons_succ, List.getElem_toArray, List.getElem_cons_succ, List.getElem_cons_zero])
  obtain ⟨g, cap, hv⟩ := own_shape OwC.out (by omega)
  subst hv
  have OP := Lib.hid OwC.out
  have ON := Lib.hid (own_kept OwB.out bwC)
  have HAT : Hid (∀ j u, (ucells (pkNums p) ++ (tcell p.name ++ tcell p.body))[j]? = some u → wC.cell? ((⟨g, 0, none⟩ : Addr).add j) = some u) := Lib.hid (fun j u hj => @World.ownsRow.cells wC _ _ _ _ _ _ OP.out g rfl j u hj)
  have hsz : wA.heap.size ≤ wC.heap.size := by have := BwC.out.size; omega
  refine wpAnyH_ready (rs := [8]) (by kernel_rfl) (by simp) ?_
  refine AllReadyH.cons (o := _) rfl (fun K hK => ?_) AllReadyH.nil
  refine ite_of (by rfl) ?_
  refine wp_append_own wC _ _ 45 rfl wA.heap.size 57 i0 z0 6 72 Tryz.underlying45 hi hz0 hz1 hz2 hz4 (by decide) _ 1 _ rfl ON.out ⟨g, 0, none⟩ 12 cap _ rfl HPL.out HAT.out HONE.out H63.out (by omega) hsz ?_
  intro v' w5 ho5 hg5 hnil
  have hb5 : Below W1.heap.size W1 w5 := BwC.out.grown hg5 BwC.out.size (fun k hk => by cases hk; exact (Nat.le_trans BwA.out.size (Nat.le_refl _)))
  refine hK.out _ _ hb5 (fun hHeld => ?_)
  clear hK K
  (try simp only [Act.put, List.setIfInBounds_toArray, List.set_cons_zero, List.set_cons_succ, List.getElem_toArray, List.getElem_cons_succ, List.getElem_cons_zero])
  have HE : Hid (FldsEnds ([4].map fU ++ pkFlds p) w (.returned v') w5) := Lib.hid (ends_of_own (fs := [4].map fU ++ pkFlds p) (S := fun _ => False) ho5 ((ucells_held _ _ _).append (pk_held _ _ _)) (fun _ h => h.elim) (HB1.out.trans (hb5.mono (by omega))))
  clear ho5 hg5 hnil
  refine wpAnyH_take (i := 9) (oi := _) (v := ?_) rfl (by kernel_rfl) (by kernel_rfl) (by kernel_rfl) (fun _ _ _ h => h) (Or.inl ⟨by rfl, ?_⟩) (by assumption) ?_
  rotate_left
  · intro W hSw
    go_simp
    try with_reducible rfl
  (try simp only [Act.put, List.setIfInBounds_toArray, List.set_cons_zero, List.set_cons_succ, List.getElem_toArray, List.getElem_cons_succ, List.getElem_cons_zero])
  refine wpAnyH_done (by kernel_rfl) ?_ _
  go_wp2_with fail
  go_ret
  exact HE.out
end Go.Proofs.YtidfgjgbigedeaaGreatDoor
end
