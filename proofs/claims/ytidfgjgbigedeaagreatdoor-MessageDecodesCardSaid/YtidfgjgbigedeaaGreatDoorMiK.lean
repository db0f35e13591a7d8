/- Messages: Decode and Kind, the program. -/
import Derived.Test.YtidfgjgbigedeaaGreatDoorMiG
namespace Go.Proofs.YtidfgjgbigedeaaGreatDoor
open Go.RowKit Go.Lib Go.Wq Go.Mq
set_option linter.unusedVariables false
set_option linter.unusedSimpArgs false
set_option maxRecDepth 100000

/-- How Decode ends, on both sides. -/
def DecEnds (s : ByteArray) (w : World) (e : Ending) (w' : World) : Prop := ∃ (na : Option Addr) (nc : Nat), e = .returned (.tuple #[.agg (msCells (outM s.data.toList) na nc).toArray, .int .i64 (codeD s.data.toList)]) ∧ NewsOwn w' w.heap.size (outM s.data.toList).news na nc ∧ Below w.heap.size w w'
theorem dec_ends {s : ByteArray} {w w' : World} {na : Option Addr} {nc : Nat} {m : Ms} {code : Int} (h : codeD s.data.toList = code ∧ outM s.data.toList = m) (hown : NewsOwn w' w.heap.size m.news na nc) (hb : Below w.heap.size w w') :
    DecEnds s w (.returned (.tuple #[.agg (msCells m na nc).toArray, .int .i64 code])) w' := by
  obtain ⟨rfl, rfl⟩ := h
  exact ⟨na, nc, rfl, hown, hb⟩
theorem ms_len (m : Ms) (na : Option Addr) (nc : Nat) : (msCells m na nc).length = 17 := rfl
theorem ms_one (m : Ms) (na : Option Addr) (nc : Nat) : ∀ v ∈ msCells m na nc, v.oneCell' = true := by
  intro v hv
  simp only [msCells, List.mem_cons, List.not_mem_nil, or_false] at hv
  rcases hv with rfl | rfl | rfl | rfl | rfl | rfl | rfl | rfl | rfl | rfl | rfl | rfl | rfl | rfl | rfl | rfl | rfl <;> rfl
theorem mCheckM (m : Ms) (na : Option Addr) (nc : Nat) (hf : (∀ n ∈ m.news, n.Fit) ∧ m.news.length < 4611686018427387904 ∧ m.pk.name.size ≤ 140737488351232) (w : World) (hin : NewsIn w w.heap.size m.news na) :
    Calls Tryz.prog 10 #[.agg (msCells m na nc).toArray] w fun e w' => e = .returned (.int .i64 (if mayB m then 0 else 60)) ∧ Below w.heap.size w w' := by
  obtain ⟨k, n, e, s, l, kd, fr, bk, tw, hm, hp, sr, cd, nm, id, at_, bd⟩ := m
  exact mCheck_any k n e s l na nc kd fr bk tw hm hp sr cd nm id at_ bd (by have := hf.2.2; simp only at this; omega) w hin hf.1
theorem zeros_out {w V : World} (hb : Below w.heap.size w V) (ht : V.there w.heap.size 0 17) : (V.setCells w.heap.size 0 (msCells msZ none 0)).rangeAt w.heap.size 0 (msCells msZ none 0) ∧ Below w.heap.size w (V.setCells w.heap.size 0 (msCells msZ none 0)) :=
  ⟨World.rangeAt_setCells_same V w.heap.size 0 _ ht, below_set w.heap.size (Nat.le_refl _) _ 0 V hb⟩
theorem ms_out {w V : World} {cs : List Value} (hc : cs.length = 17) (hb : Below w.heap.size w V) (ht : V.there w.heap.size 0 17) : (V.setCells w.heap.size 0 cs).rangeAt w.heap.size 0 cs ∧ Below w.heap.size w (V.setCells w.heap.size 0 cs) :=
  ⟨World.rangeAt_setCells_same V w.heap.size 0 _ (by rw [hc]; exact ht), below_set w.heap.size (Nat.le_refl _) _ 0 V hb⟩
/-- Behind a message made and its check. -/
structure Held (w V : World) (b : Nat) (m : Ms) (na : Option Addr) (nc : Nat) : Prop where
  bel : Below w.heap.size w V
  at_ : V.rangeAt b 0 (msCells m na nc)
  hb : b < V.heap.size
  th : V.there w.heap.size 0 17
  hw : w.heap.size < V.heap.size
  own : NewsOwn V (w.heap.size + 1) m.news na nc
theorem own_next {V V' : World} {B : Nat} {l : List Nw} {na : Option Addr} {nc : Nat} (h : NewsOwn V B l na nc) (k : Below V.heap.size V V') : NewsOwn V' B l na nc := own_kept h k
theorem range_box0 (w : World) (cs : List Value) (t : TypeId) : (w.alloc (.cells cs.toArray t)).rangeAt w.heap.size 0 cs := by
  intro j v hj
  simp [go_sem, hj]
theorem held_new {w V V1 : World} {m : Ms} {na : Option Addr} {nc : Nat} (hb : Below w.heap.size w V) (ht : V.there w.heap.size 0 17) (hw : w.heap.size < V.heap.size) (hown : NewsOwn V1 V.heap.size m.news na nc) (k : Below V.heap.size V V1) :
    Held w (V1.alloc (.cells (msCells m na nc).toArray 27)) V1.heap.size m na nc :=
  ⟨(below_nx hb (k.mono (Nat.le_refl _))).alloc (Nat.le_of_lt (Nat.lt_of_lt_of_le hw k.size)) _, range_box0 V1 _ _, by simp, World.there_alloc (there_next ht hw k) _, by simp; have := k.size; omega, own_le (hown.alloc _) (by omega)⟩
theorem Held.next {w V V' : World} {b : Nat} {m : Ms} {na : Option Addr} {nc : Nat} (h : Held w V b m na nc) (k : Below V.heap.size V V') : Held w V' b m na nc :=
  ⟨below_nx h.bel (k.mono (Nat.le_refl _)), range_next h.at_ h.hb k, Nat.lt_of_lt_of_le h.hb k.size, there_next h.th h.hw k, Nat.lt_of_lt_of_le h.hw k.size, own_next h.own k⟩
theorem Held.news {w V : World} {b : Nat} {m : Ms} {na : Option Addr} {nc : Nat} (h : Held w V b m na nc) : NewsIn V V.heap.size m.news na := h.own.news
theorem Held.out {w V : World} {b : Nat} {m : Ms} {na : Option Addr} {nc : Nat} (h : Held w V b m na nc) : NewsOwn (V.setCells w.heap.size 0 (msCells m na nc)) w.heap.size m.news na nc :=
  own_le (own_off0 (msCells m na nc) h.own (fun e => by have := (h.own.lt _ e).1; omega)) (by omega)

set_option maxHeartbeats 4000000 in
theorem mDecode_any (s : ByteArray) (hs2 : s.size ≤ 140737488351232) (w : World) (hg : Handle w) (hsh : Shps w) : Calls Tryz.prog 13 #[.string s] w (DecEnds s w) := by
  have hl : s.data.toList.length = s.size := Array.length_toList
  by_cases hlong : 65536 < s.size
  · have hli : (65536 : Int) < (s.size : Int) := by omega
    have HE := Lib.hid (code_long (s := s.data.toList) (by omega))
    clear hg hsh hl
    go_enter Tryz.func13, Tryz.ntmps13
    go_upto_region 1 with (fail)
    have hth := there_box w (msCells msZ none 0) 27
    have hb := below_al w (.cells (msCells msZ none 0).toArray 27)
    have hsz : w.heap.size < (w.alloc (.cells (msCells msZ none 0).toArray 27)).heap.size := by simp
    rw [show w.alloc (.cells #[.int .i64 0, .int .u64 0, .int .u64 0, .int .u64 0, .slice none 0 0, .int .i64 0, .int .i64 0, .int .i64 0, .int .i64 0, .int .i64 0, .int .i64 0, .int .u64 0, .int .i64 0, .string ⟨#[]⟩, .int .i64 0, .int .i64 0, .string ⟨#[]⟩] 27) = w.alloc (.cells (msCells msZ none 0).toArray 27) from rfl]
    generalize w.alloc (.cells (msCells msZ none 0).toArray 27) = V at *
    go_upto_region 2 with (fail)
    refine wp_region_list ?_
    refine wpList_step (fun K hK0 => ?_)
    have hK := Lib.hid hK0
    clear hK0
    go_simp
    refine hK.out _ _ ?_
    clear hK K
    (try simp only [Act.put, List.setIfInBounds_toArray, List.set_cons_zero, List.set_cons_succ, List.getElem_toArray, List.getElem_cons_succ, List.getElem_cons_zero])
    refine wpList_store_mid rfl 27 _ _ rfl w.heap.size 0 (msCells msZ none 0).toArray rfl rfl hth (by kernel_rfl) (all_oneCell_toArray (ms_one _ _ _)) ?_
    obtain ⟨R, hbl⟩ := zeros_out hb hth
    simp only [List.toList_toArray]
    generalize V.setCells w.heap.size 0 (msCells msZ none 0) = Vz at *
    (try simp only [Act.put, List.setIfInBounds_toArray, List.set_cons_zero, List.set_cons_succ, List.getElem_toArray, List.getElem_cons_succ, List.getElem_cons_zero])
    go_wp2_with fail
    refine bodyPost_ret (results_cell2 Tryz.results13 _ Vz w.heap.size 0 (msCells msZ none 0) _ rfl R Tryz.underlying27 (by rfl) (by kernel_rfl)) rfl ?_
    exact dec_ends (m := msZ) HE.out (World.ownsRow_nil _ _ _ _) hbl
  · have hli : ¬ (65536 : Int) < (s.size : Int) := by omega
    have HRD := Lib.hid (fun (W : World) (h : Below w.heap.size w W) => mRead_any s (by omega) W (hg.below h) (hsh.below h))
    have HC0 := Lib.hid (code_none (s := s.data.toList) (by omega))
    have HC1 := Lib.hid (fun m => code_some (s := s.data.toList) (m := m) (by omega))
    have HLS : Hid (s.data.toList.length ≤ 65536) := Lib.hid (by omega)
    clear hg hsh hl
    go_enter Tryz.func13, Tryz.ntmps13
    go_upto_region 1 with (fail)
    have hth := there_box w (msCells msZ none 0) 27
    have hb := below_al w (.cells (msCells msZ none 0).toArray 27)
    have hsz : w.heap.size < (w.alloc (.cells (msCells msZ none 0).toArray 27)).heap.size := by simp
    rw [show w.alloc (.cells #[.int .i64 0, .int .u64 0, .int .u64 0, .int .u64 0, .slice none 0 0, .int .i64 0, .int .i64 0, .int .i64 0, .int .i64 0, .int .i64 0, .int .i64 0, .int .u64 0, .int .i64 0, .string ⟨#[]⟩, .int .i64 0, .int .i64 0, .string ⟨#[]⟩] 27) = w.alloc (.cells (msCells msZ none 0).toArray 27) from rfl]
    generalize w.alloc (.cells (msCells msZ none 0).toArray 27) = V at *
    have HV : Hid (w.heap.size < V.heap.size) := Lib.hid hsz
    clear hsz
    go_upto_region 3 with (fail)
    go_upto_region 4 with (go_at_call 27; refine (HRD.out _ hb).mono ?_; rintro e w1 ⟨b1, hcase⟩; rcases hcase with ⟨v, er, hne, rfl, hno⟩ | ⟨k, l, la, lc, hk1, hk4, hdec, henc, hfine, hk0, rfl, hfs, hlc⟩)
    · have hth1 := there_next hth HV.out b1
      have hb1 := below_nx hb (b1.mono (Nat.le_refl _))
      have HE := Lib.hid (HC0.out hno)
      have t0 : (er != 0) = true := by simp [hne]
      clear b1 hth hb
      go_upto_region 5 with (fail)
      refine wp_region_list ?_
      refine wpList_step (fun K hK0 => ?_)
      have hK := Lib.hid hK0
      clear hK0
      go_simp
      refine hK.out _ _ ?_
      clear hK K
      (try simp only [Act.put, List.setIfInBounds_toArray, List.set_cons_zero, List.set_cons_succ, List.getElem_toArray, List.getElem_cons_succ, List.getElem_cons_zero])
      refine wpList_store_mid rfl 27 _ _ rfl w.heap.size 0 (msCells msZ none 0).toArray rfl rfl hth1 (by kernel_rfl) (all_oneCell_toArray (ms_one _ _ _)) ?_
      obtain ⟨R, hbl⟩ := zeros_out hb1 hth1
      simp only [List.toList_toArray]
      generalize w1.setCells w.heap.size 0 (msCells msZ none 0) = Vz at *
      (try simp only [Act.put, List.setIfInBounds_toArray, List.set_cons_zero, List.set_cons_succ, List.getElem_toArray, List.getElem_cons_succ, List.getElem_cons_zero])
      go_wp2_with fail
      refine bodyPost_ret (results_cell2 Tryz.results13 _ Vz w.heap.size 0 (msCells msZ none 0) _ rfl R Tryz.underlying27 (by rfl) (by kernel_rfl)) rfl ?_
      exact dec_ends (m := msZ) HE.out (World.ownsRow_nil _ _ _ _) hbl
    · have hth1 := there_next hth HV.out b1
      have hb1 := below_nx hb (b1.mono (Nat.le_refl _))
      have hw1 : w.heap.size < w1.heap.size := Nat.lt_of_lt_of_le HV.out b1.size
      have HM := Lib.hid (mMsOf_any k hk1 hk4 l la lc s.data.toList w1 (new_in hfs (Below.refl _ _)) henc HLS.out hk0 hlc)
      have HFT := Lib.hid (msOf_news inM (k := k) hfine)
      have HDC := Lib.hid hdec
      generalize msOf wM k l = m at *
      clear b1 hth hb hfs hfine henc hdec hk0 hlc hk1 hk4
      go_upto_region 6 with (fail)
      go_upto_region 7 with (go_at_call 28; refine HM.out.mono ?_; rintro e w2 ⟨na, nc, rfl, hown, b2⟩; simp only [msCells])
      have HH := Lib.hid (held_new hb1 hth1 hw1 hown b2)
      rw [show w2.alloc (.cells #[.int .i64 m.kind, .int .u64 (m.nonce : Int), .int .u64 (m.echo : Int), .int .u64 (m.seq : Int), .slice na m.news.length nc, .int .i64 m.pk.kind, .int .i64 m.pk.frm, .int .i64 m.pk.back, .int .i64 m.pk.to, .int .i64 m.pk.home, .int .i64 m.pk.hops, .int .u64 (m.pk.serial : Int), .int .i64 m.pk.code, .string m.pk.name, .int .i64 m.pk.id, .int .i64 m.pk.at_, .string m.pk.body] 27) = w2.alloc (.cells (msCells m na nc).toArray 27) from rfl]
      generalize w2.alloc (.cells (msCells m na nc).toArray 27) = V2 at *
      generalize w2.heap.size = mb at *
      clear b2 hown hth1 hb1
      have HCK := Lib.hid (mCheckM m na nc HFT.out V2 HH.out.news)
      refine wp_region_list ?_
      refine wpList_load_guard (by kernel_rfl) 27 (.tmp 6) rfl mb 0 rfl (msCells m na nc) _ HH.out.at_ Tryz.underlying27 (by rfl) (by kernel_rfl) ?_
      (try simp only [Act.put, List.setIfInBounds_toArray, List.set_cons_zero, List.set_cons_succ, List.getElem_toArray, List.getElem_cons_succ, List.getElem_cons_zero])
      go_upto_region 8 with (go_at_call 10; refine HCK.out.mono ?_; rintro e V3 ⟨rfl, b3⟩)
      have HH3 := Lib.hid (HH.out.next b3)
      clear b3 HCK HH
      cases hm : mayB m with
      | false =>
        have hd := HDC.out
        rw [hm] at hd
        have HE := Lib.hid (HC0.out hd)
        clear hd
        simp only [if_false, Bool.false_eq_true]
        have hbz := HH3.out.bel
        have htz := HH3.out.th
        go_upto_region 9 with (fail)
        refine wp_region_list ?_
        refine wpList_step (fun K hK0 => ?_)
        have hK := Lib.hid hK0
        clear hK0
        go_simp
        refine hK.out _ _ ?_
        clear hK K
        (try simp only [Act.put, List.setIfInBounds_toArray, List.set_cons_zero, List.set_cons_succ, List.getElem_toArray, List.getElem_cons_succ, List.getElem_cons_zero])
        refine wpList_step (fun K hK0 => ?_)
        have hK := Lib.hid hK0
        clear hK0
        go_simp
        refine hK.out _ _ ?_
        clear hK K
        (try simp only [Act.put, List.setIfInBounds_toArray, List.set_cons_zero, List.set_cons_succ, List.getElem_toArray, List.getElem_cons_succ, List.getElem_cons_zero])
        refine wpList_store_mid rfl 27 _ _ rfl w.heap.size 0 (msCells msZ none 0).toArray rfl rfl htz (by kernel_rfl) (all_oneCell_toArray (ms_one _ _ _)) ?_
        obtain ⟨R, hbl⟩ := zeros_out hbz htz
        simp only [List.toList_toArray]
        generalize V3.setCells w.heap.size 0 (msCells msZ none 0) = Vz at *
        (try simp only [Act.put, List.setIfInBounds_toArray, List.set_cons_zero, List.set_cons_succ, List.getElem_toArray, List.getElem_cons_succ, List.getElem_cons_zero])
        go_wp2_with fail
        refine bodyPost_ret (results_cell2 Tryz.results13 _ Vz w.heap.size 0 (msCells msZ none 0) _ rfl R Tryz.underlying27 (by rfl) (by kernel_rfl)) rfl ?_
        exact dec_ends (m := msZ) HE.out (World.ownsRow_nil _ _ _ _) hbl
      | true =>
        have hd := HDC.out
        rw [hm] at hd
        have HE := Lib.hid (HC1.out m hd)
        clear hd
        simp only [if_true]
        go_upto_region 10 with (fail)
        refine wp_region_list ?_
        refine wpList_load_guard (by kernel_rfl) 27 (.tmp 6) rfl mb 0 rfl (msCells m na nc) _ HH3.out.at_ Tryz.underlying27 (by rfl) (by kernel_rfl) ?_
        (try simp only [Act.put, List.setIfInBounds_toArray, List.set_cons_zero, List.set_cons_succ, List.getElem_toArray, List.getElem_cons_succ, List.getElem_cons_zero])
        refine wpList_store_mid rfl 27 _ _ rfl w.heap.size 0 (msCells m na nc).toArray rfl rfl HH3.out.th (by kernel_rfl) (all_oneCell_toArray (ms_one _ _ _)) ?_
        obtain ⟨R, hbl⟩ := ms_out (ms_len m na nc) HH3.out.bel HH3.out.th
        have hown := HH3.out.out
        simp only [List.toList_toArray]
        generalize V3.setCells w.heap.size 0 (msCells m na nc) = Vz at *
        (try simp only [Act.put, List.setIfInBounds_toArray, List.set_cons_zero, List.set_cons_succ, List.getElem_toArray, List.getElem_cons_succ, List.getElem_cons_zero])
        go_wp2_with fail
        refine bodyPost_ret (results_cell2 Tryz.results13 _ Vz w.heap.size 0 (msCells m na nc) _ rfl R Tryz.underlying27 (by rfl) (by kernel_rfl)) rfl ?_
        exact dec_ends HE.out hown hbl

set_option maxHeartbeats 4000000 in
theorem mKind_any (s : ByteArray) (hs2 : s.size ≤ 140737488351232) (w : World) (hg : Handle w) (hsh : Shps w) : Calls Tryz.prog 16 #[.string s] w fun e w' => e = .returned (.int .i64 (outM s.data.toList).kind) ∧ Below w.heap.size w w' := by
  have HD := Lib.hid (mDecode_any s hs2 w hg hsh)
  clear hg hsh
  go_enter Tryz.func16, Tryz.ntmps16
  unfold DecEnds at HD
  generalize outM s.data.toList = m at *
  generalize codeD s.data.toList = code at *
  go_wp2_with (go_at_call 13; refine HD.out.mono ?_; rintro e w2 ⟨na, nc, rfl, hown, b2⟩; simp only [msCells]; have B2 := Lib.hid b2; clear hown b2)
  go_ret
  exact ⟨rfl, B2.out.alloc B2.out.size _⟩
end Go.Proofs.YtidfgjgbigedeaaGreatDoor
