/- The program's reader: one field, a list. The program's reader: all letters; fields to any depth. -/
import Derived.Test.YtidfgjgbigedeaaGreatDoorWpP
import Derived.Deep.RegionHeld3
import Derived.Test.YtidfgjgbigedeaaGreatDoorShelf
section
namespace Go.Proofs.YtidfgjgbigedeaaGreatDoor
open Go.RowKit Go.Lib Go.Wq
set_option linter.unusedVariables false
set_option linter.unusedSimpArgs false
set_option maxRecDepth 100000

set_option maxHeartbeats 4000000 in
theorem pfield_l (rb : Nat) (s : ByteArray) (its : List It) (HA : PAllSays rb s its) : POneSays rb s (.l its) := by
  intro p ia n ic S w H hs hok hsm hits hS hrb
  have L := laidP w rb s p 40 ia n ic H hrb
  have HN := Lib.hid (rnum_any rb s p _ L.rd hs)
  have HLD := Lib.hid L
  have hl : Hid (s.data.toList.length = s.size) := Lib.hid Array.length_toList
  simp only [It.inner] at hits
  obtain rfl := hits.len
  obtain ⟨hne, hok'⟩ : its ≠ [] ∧ ∀ x ∈ its, x.Ok := by cases hok with | l h g => exact ⟨h, g⟩
  obtain ⟨h256, hsm'⟩ : its.length ≤ 256 ∧ ∀ x ∈ its, x.Sm := by cases hsm with | l h g => exact ⟨h, g⟩
  have HLI := Lib.hid (fun (N q : Nat) (hN : N < 18446744073709551616) (W : World) (hr : Rd W rb s q) (hk : Kept (fun k => k = rb) w W) => plist_any rb s its HA hne h256 hok' hsm' N q hN ia ic S W hr hs (ItsZ.kept (fun k hk2 => hk.block k (hS k hk2).1 (hS k hk2).2) (fun k h => h) _ _ _ hits) (fun k hk2 => ⟨Nat.lt_of_lt_of_le (hS k hk2).1 hk.size, (hS k hk2).2⟩) (Nat.lt_of_lt_of_le hrb hk.size))
  clear HA hok' hsm' hne h256
  have hst := d_store
  obtain ⟨c0, c1, fz, -⟩ := id H
  have nb1 : rb ≠ w.heap.size := by omega
  have nb2 : rb ≠ w.heap.size + 1 := by omega
  have hrb2 : rb < w.heap.size + 1 := by omega
  clear H L hok hsm hits hS
  show Calls _ _ #[.pointer (some ⟨rb, 0, none⟩), .agg #[.int .u8 40, .slice ia its.length ic]] w _
  go_enter Tryz.func109, Tryz.ntmps109
  go_wp2_with fail
  obtain ⟨w2, hw2⟩ : ∃ w2, w2 = ((w.alloc (IP0 40 ia its.length ic)).alloc F00) := ⟨_, rfl⟩
  rw [← hw2] at HLD ⊢
  clear HN
  clear hw2
  have q1 : w2.cell? ⟨w.heap.size, 1, none⟩ = some (.slice ia its.length ic) := HLD.out.i1
  have hsz2 : w.heap.size < w2.heap.size := by rw [HLD.out.siz]; omega
  have HNd : Hid (Calls Tryz.prog 121 #[.pointer (some ⟨rb, 0, none⟩), .int .i64 (p : Int)] w2.drew (NumEnds rb s p w2.drew)) := Lib.hid (rnum_any rb s p w2.drew ⟨HLD.out.rd.c0, HLD.out.rd.c1, HLD.out.rd.fz, HLD.out.rd.le⟩ hs)
  have KL : ∀ w', Kept (fun k => k = rb) w2 w' → w'.cell? ⟨w.heap.size, 1, none⟩ = some (.slice ia its.length ic) := fun w' h => (World.cell?_of_block (h.block w.heap.size hsz2 (fun e => nb1 e.symm))).trans q1
  have hd2 : Kept (fun k => k = rb) w2 w2.drew := ⟨rfl, rfl, rfl, Nat.le_refl _, fun _ _ _ => rfl⟩
  refine wp_region_held_drew (S := fun w' => w'.cell? ⟨w.heap.size, 1, none⟩ = some (.slice ia its.length ic)) (by kernel_rfl) q1 (fun hHeld => ?_)
  refine wpAnyH_take (i := 0) (oi := _) (v := ?_) rfl (by kernel_rfl) (by kernel_rfl) (by kernel_rfl) (fun _ _ _ h => h) (Or.inl ⟨by rfl, ?_⟩) (by assumption) ?_
  rotate_left
  · intro w hSw
    try dsimp only at hSw
    go_simp
    try with_reducible rfl
  (try simp only [Act.put, List.setIfInBounds_toArray, List.set_cons_zero, List.set_cons_succ])
  refine wpAnyH_take (i := 1) (oi := _) (v := ?_) rfl (by kernel_rfl) (by kernel_rfl) (by kernel_rfl) (fun _ _ _ h => h) (Or.inl ⟨by rfl, ?_⟩) (by assumption) ?_
  rotate_left
  · intro w hSw
    try dsimp only at hSw
    go_simp
    try with_reducible rfl
  (try simp only [Act.put, List.setIfInBounds_toArray, List.set_cons_zero, List.set_cons_succ])
  refine wpAnyH_take (i := 2) (oi := _) (v := ?_) rfl (by kernel_rfl) (by kernel_rfl) (by kernel_rfl) (fun _ _ _ h => h) (Or.inl ⟨by rfl, ?_⟩) (by assumption) ?_
  rotate_left
  · intro w hSw
    try dsimp only at hSw
    go_simp
    try with_reducible rfl
  (try simp only [Act.put, List.setIfInBounds_toArray, List.set_cons_zero, List.set_cons_succ])
  refine wpAnyH_take (i := 4) (oi := _) (v := ?_) rfl (by kernel_rfl) (by kernel_rfl) (by kernel_rfl) (fun _ _ _ h => h) (Or.inl ⟨by rfl, ?_⟩) (by assumption) ?_
  rotate_left
  · intro w hSw
    try dsimp only at hSw
    go_simp
    try with_reducible rfl
  (try simp only [Act.put, List.setIfInBounds_toArray, List.set_cons_zero, List.set_cons_succ])
  refine wpAnyH_take (i := 5) (oi := _) (v := ?_) rfl (by kernel_rfl) (by kernel_rfl) (by kernel_rfl) (fun _ _ _ h => h) (Or.inl ⟨by rfl, ?_⟩) (by assumption) ?_
  rotate_left
  · intro w hSw
    try dsimp only at hSw
    go_simp
    try with_reducible rfl
  (try simp only [Act.put, List.setIfInBounds_toArray, List.set_cons_zero, List.set_cons_succ])
  refine wpAnyH_ready (rs := [3]) (by kernel_rfl) (by simp) ?_
  refine AllReadyH.cons (o := _) rfl (fun K hK => ?_) AllReadyH.nil
  go_simp
  refine HNd.out.mono ?_
  rintro e w3 ⟨hk3, hcs⟩
  have hk3 := hd2.trans hk3
  have hs3 : w.heap.size + 2 ≤ w3.heap.size := by have := hk3.size; have := HLD.out.siz; omega
  have HF3 := Lib.hid (show F6 w3 (w.heap.size + 1) 0 0 0 false ⟨#[]⟩ none 0 0 from by
    have e : w3.heap[w.heap.size + 1]? = w2.heap[w.heap.size + 1]? := hk3.block _ (by rw [HLD.out.siz]; omega) (fun e => nb2 e.symm)
    obtain ⟨d0, d1, d2, d3, d4, d5, dz⟩ := HLD.out.fd
    exact ⟨(World.cell?_of_block e).trans d0, (World.cell?_of_block e).trans d1, (World.cell?_of_block e).trans d2, (World.cell?_of_block e).trans d3, (World.cell?_of_block e).trans d4, (World.cell?_of_block e).trans d5, fun j hj => (World.frozen?_of_block e).trans (dz j hj)⟩)
  have HK3 := Lib.hid (hk3.from HLD.out.bel)
  have q3 := KL w3 hk3
  have HK23 := Lib.hid hk3
  clear hk3
  cases hr : rdVar s.data.toList p with
  | bad er fr =>
    rw [hr] at hcs
    obtain ⟨pb, rfl, hd⟩ := hcs
    have HD := Lib.hid hd
    have hx : rdOne s.data.toList (.l its) p = .bad er fr := by simp only [rdOne, hr]
    have HX := Lib.hid hx
    clear hd hx hr
    go_wp2_with fail
    refine ⟨rfl, HK3.out, ?_⟩
    rw [HX.out]
    exact ⟨pb, rfl, by have h1 := HD.out.1; have h2 := HLD.out.siz; have h3 : w2.drew.heap.size = w2.heap.size := rfl; omega, HD.out.2⟩
  | ok N q =>
    rw [hr] at hcs
    obtain ⟨rfl, hr3⟩ := hcs
    have HLC := Lib.hid (HLI.out N q (rdVar_only hr).1 w3 hr3 HK3.out)
    have HR := Lib.hid hr
    clear hr3 hr
    go_wp2_with fail
    refine hK.out _ _ q3 (fun hHeld => ?_)
    clear hK K
    (try simp only [Act.put, List.setIfInBounds_toArray, List.set_cons_zero, List.set_cons_succ])
    refine wpAnyH_ready (rs := [6]) (by kernel_rfl) (by simp) ?_
    refine AllReadyH.cons (o := _) rfl (fun K hK => ?_) AllReadyH.nil
    go_simp
    refine HLC.out.mono ?_
    rintro e w4 ⟨hk4, hcs⟩
    have q4 := KL w4 (HK23.out.trans hk4)
    have HK4 := Lib.hid (HK3.out.trans hk4)
    have hs4 := hk4.size
    have HF4 := Lib.hid (HF3.out.moved (w' := w4) (hk4.block _ (by omega) (fun e => nb2 e.symm)))
    clear hk4
    cases hg : rdRows (fun p => rdAll s.data.toList its p) N q with
    | bad er fr =>
      rw [hg] at hcs
      obtain ⟨pb, rfl, hd⟩ := hcs
      have HD := Lib.hid hd
      have HX : Hid (rdOne s.data.toList (.l its) p = .bad er fr) := Lib.hid (by simp only [rdOne, HR.out, hg])
      clear hd hg
      go_wp2_with fail
      refine ⟨rfl, HK4.out, ?_⟩
      rw [HX.out]
      exact ⟨pb, rfl, by have h1 := HD.out.1; omega, HD.out.2⟩
    | ok l q' =>
      rw [hg] at hcs
      obtain ⟨la, lc, rfl, hrows, hr4⟩ := hcs
      have HX : Hid (rdOne s.data.toList (.l its) p = .ok (.mk 0 0 0 false (⟨#[]⟩ : ByteArray).data.toList l) q') := Lib.hid (by simp only [rdOne, HR.out, hg])
      have HROWS := Lib.hid hrows
      have HR4 := Lib.hid hr4
      clear hg hrows hr4
      go_wp2_with fail
      refine hK.out _ _ q4 (fun hHeld => ?_)
      clear hK K
      (try simp only [Act.put, List.setIfInBounds_toArray, List.set_cons_zero, List.set_cons_succ])
      refine wpAnyH_ready (rs := [7]) (by kernel_rfl) (by simp) ?_
      refine AllReadyH.cons (o := _) rfl (fun K hK => ?_) AllReadyH.nil
      go_simp
      refine hK.out _ _ q4 (fun hHeld => ?_)
      clear hK K
      (try simp only [Act.put, List.setIfInBounds_toArray, List.set_cons_zero, List.set_cons_succ])
      refine wpAnyH_ready (rs := [8]) (by kernel_rfl) (by simp) ?_
      refine AllReadyH.cons (o := _) rfl (fun K hK => ?_) AllReadyH.nil
      obtain ⟨d0, d1, d2, d3, d4, d5, v0, v1, v2, v3, v4, v5⟩ := HF4.out.flat'
      go_simp
      have hne6 : w.heap.size ≠ w.heap.size + 1 := by omega
      have HFin := Lib.hid (show ∀ w', Kept (fun k => k = rb) w w' → Rd w' rb s q' → RowsS w' (New w.heap.size w') l la l.length → POneEnds rb s (.l its) p w (.returned (fdV 0 0 0 false ⟨#[]⟩ la l.length lc)) w' from fun w' hk hr' hrows => ⟨hk, by rw [HX.out]; exact ⟨_, rfl, ⟨0, 0, 0, false, ⟨#[]⟩, l, la, l.length, lc, rfl, rfl, hrows⟩, hr'⟩⟩)
      have Q6 := Lib.hid (fun (x0 x1 x2 x3 x4 x5 : Value) => (World.cell?_of_block (a := ⟨w.heap.size, 1, none⟩) (heap6 w4 (w.heap.size + 1) w.heap.size hne6 x0 x1 x2 x3 x4 x5)).trans q4)
      refine hK.out _ _ ?_ (fun hHeld => ?_)
      · try dsimp only
        with_reducible exact Q6.out _ _ _ _ _ _
      clear hK K
      refine wpAnyH_done (by kernel_rfl) ?_ _
      go_wp2_with fail
      (try simp only [Exit.inBlock, Exit.then])
      refine bodyPost_ret (v := fdV 0 0 0 false ⟨#[]⟩ la l.length lc) (by simp [results, Tryz.results109, go_sem, d0, d1, d2, d3, d4, d5]) rfl ?_
      refine HFin.out _ (HK4.out.set6 _ (by omega) _ _ _ _ _ _) (HR4.out.kept (heap6 _ _ _ nb2 _ _ _ _ _ _)) (RowsS.kept (w := w4) (fun k hk => heap6 _ _ _ (by have := hk.1; omega) _ _ _ _ _ _) (fun k hk => ⟨by have := hk.1; omega, by have := hk.2; simpa [World.setCell] using this⟩) _ _ _ HROWS.out)
end Go.Proofs.YtidfgjgbigedeaaGreatDoor
end

section
namespace Go.Proofs.YtidfgjgbigedeaaGreatDoor
open Go.RowKit Go.Lib Go.Wq
set_option linter.unusedVariables false
set_option linter.unusedSimpArgs false
set_option maxRecDepth 100000

theorem clone_any (T : ByteArray) (w : World) (hT : T.size ≤ 65536) : Calls Tryz.prog 125 #[.string T] w fun e w' => e = .returned (.string T) ∧ Below w.heap.size w w' := by
  have HC := Lib.hid (Tryz.stringslite_Clone T w (by omega))
  go_enter Tryz.func125, Tryz.ntmps125
  go_wp2_with fail
  refine HC.out.mono ?_
  rintro e w3 ⟨rfl, hb⟩
  have HB := Lib.hid hb
  clear hb
  go_wp2_with fail
  go_ret
  exact ⟨rfl, HB.out⟩
theorem pone_all (rb : Nat) (s : ByteArray) (it : It) (h : ∀ its, it = .l its → PAllSays rb s its) : POneSays rb s it := by
  cases it with
  | u => exact pfield_u rb s
  | i => exact pfield_i rb s
  | f => exact pfield_f rb s
  | b => exact pfield_b rb s
  | t => exact pfield_t clone_any rb s
  | l its => exact pfield_l rb s its (h its rfl)
theorem pall_says (rb : Nat) (s : ByteArray) (its : List It) : PAllSays rb s its := its_ind (PAllSays rb s) (fun its ih => pfields_any rb s its (fun it hit => pone_all rb s it (fun its' e => ih its' (by rw [← e]; exact hit)))) its
end Go.Proofs.YtidfgjgbigedeaaGreatDoor
end
