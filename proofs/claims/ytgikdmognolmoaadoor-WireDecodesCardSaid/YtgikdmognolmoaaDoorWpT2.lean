/- The program's reader: one field, the letters i, f, b. -/
import Derived.Test.YtgikdmognolmoaaDoorWpT
namespace Go.Proofs.YtgikdmognolmoaaDoor
open Go.RowKit Go.Lib Go.Wq
set_option linter.unusedVariables false
set_option linter.unusedSimpArgs false
set_option maxRecDepth 100000

set_option maxHeartbeats 4000000 in
theorem pfield_i (rb : Nat) (s : ByteArray) : POneSays rb s .i := by
  intro p ia n ic S w H hs hok hsm hits hS hrb
  have L := laidP w rb s p 105 ia n ic H hrb
  have HN := Lib.hid (rnum_any rb s p _ L.rd hs)
  have HLD := Lib.hid L
  have hst := d_store
  obtain ⟨c0, c1, fz, -⟩ := id H
  have nb1 : rb ≠ w.heap.size := by omega
  have nb2 : rb ≠ w.heap.size + 1 := by omega
  have hrb2 : rb < w.heap.size + 1 := by omega
  clear H L hok hsm hits hS
  show Calls _ _ #[.pointer (some ⟨rb, 0, none⟩), .agg #[.int .u8 105, .slice ia n ic]] w _
  go_enter Tryd.func30, Tryd.ntmps30
  go_wp2_with fail
  refine HN.out.mono ?_
  rintro e w3 ⟨hk3, hcs⟩
  have hs3 : w.heap.size + 2 ≤ w3.heap.size := by have := hk3.size; have := HLD.out.siz; omega
  have HF3 := Lib.hid (show F6 w3 (w.heap.size + 1) 0 0 0 false ⟨#[]⟩ none 0 0 from by
    have e : w3.heap[w.heap.size + 1]? = ((w.alloc (IP0 105 ia n ic)).alloc F00).heap[w.heap.size + 1]? := hk3.block _ (by rw [HLD.out.siz]; omega) (fun e => nb2 e.symm)
    obtain ⟨d0, d1, d2, d3, d4, d5, dz⟩ := HLD.out.fd
    exact ⟨(World.cell?_of_block e).trans d0, (World.cell?_of_block e).trans d1, (World.cell?_of_block e).trans d2, (World.cell?_of_block e).trans d3, (World.cell?_of_block e).trans d4, (World.cell?_of_block e).trans d5, fun j hj => (World.frozen?_of_block e).trans (dz j hj)⟩)
  have HK3 := Lib.hid (hk3.from HLD.out.bel)
  clear hk3
  cases hr : rdVar s.data.toList p with
  | ok N q =>
    rw [hr] at hcs
    obtain ⟨rfl, hr3⟩ := hcs
    have HR3 := Lib.hid hr3
    have hx : rdOne s.data.toList .i p = .ok (.mk 0 (zag N) 0 false (⟨#[]⟩ : ByteArray).data.toList []) q := by simp only [rdOne, hr]
    have HFin := Lib.hid (show ∀ w', Kept (fun k => k = rb) w w' → Rd w' rb s q → POneEnds rb s .i p w (.returned (fdV 0 (zag N) 0 false ⟨#[]⟩ none 0 0)) w' from fun w' hk hr' => ⟨hk, by rw [hx]; exact ⟨_, rfl, ⟨0, zag N, 0, false, ⟨#[]⟩, [], none, 0, 0, rfl, rfl, by simp [RowsS]⟩, hr'⟩⟩)
    obtain ⟨d0, d1, d2, d3, d4, d5, v0, v1, v2, v3, v4, v5⟩ := HF3.out.flat'
    have HU := Lib.hid (fun w => unfold_any N (rdVar_only hr).1 w)
    clear hr3 hx hr
    go_wp2_with fail
    refine (HU.out _).mono ?_
    rintro e w4 ⟨rfl, rfl⟩
    go_wp2_with fail
    (try simp only [Exit.inBlock, Exit.then])
    refine bodyPost_ret (v := fdV 0 (zag N) 0 false ⟨#[]⟩ none 0 0) (by simp [results, Tryd.results30, go_sem, d0, d1, d2, d3, d4, d5]) rfl ?_
    exact HFin.out _ (HK3.out.set6 _ (by omega) _ _ _ _ _ _) (HR3.out.kept (heap6 _ _ _ nb2 _ _ _ _ _ _))
  | bad er fr =>
    rw [hr] at hcs
    obtain ⟨pb, rfl, hd⟩ := hcs
    have HD := Lib.hid hd
    have hx : rdOne s.data.toList .i p = .bad er fr := by simp only [rdOne, hr]
    have HX := Lib.hid hx
    clear hd hx hr
    go_wp2_with fail
    refine ⟨rfl, HK3.out, ?_⟩
    rw [HX.out]
    exact ⟨pb, rfl, by have h1 := HD.out.1; have h2 := HLD.out.siz; omega, HD.out.2⟩

set_option maxHeartbeats 4000000 in
theorem pfield_f (rb : Nat) (s : ByteArray) : POneSays rb s .f := by
  intro p ia n ic S w H hs hok hsm hits hS hrb
  have L := laidP w rb s p 102 ia n ic H hrb
  have HN := Lib.hid (pfloat_any rb s p _ L.rd hs)
  have HLD := Lib.hid L
  have hst := d_store
  obtain ⟨c0, c1, fz, -⟩ := id H
  have nb1 : rb ≠ w.heap.size := by omega
  have nb2 : rb ≠ w.heap.size + 1 := by omega
  have hrb2 : rb < w.heap.size + 1 := by omega
  clear H L hok hsm hits hS
  show Calls _ _ #[.pointer (some ⟨rb, 0, none⟩), .agg #[.int .u8 102, .slice ia n ic]] w _
  go_enter Tryd.func30, Tryd.ntmps30
  go_wp2_with fail
  refine HN.out.mono ?_
  rintro e w3 ⟨hk3, hcs⟩
  have hs3 : w.heap.size + 2 ≤ w3.heap.size := by have := hk3.size; have := HLD.out.siz; omega
  have HF3 := Lib.hid (show F6 w3 (w.heap.size + 1) 0 0 0 false ⟨#[]⟩ none 0 0 from by
    have e : w3.heap[w.heap.size + 1]? = ((w.alloc (IP0 102 ia n ic)).alloc F00).heap[w.heap.size + 1]? := hk3.block _ (by rw [HLD.out.siz]; omega) (fun e => nb2 e.symm)
    obtain ⟨d0, d1, d2, d3, d4, d5, dz⟩ := HLD.out.fd
    exact ⟨(World.cell?_of_block e).trans d0, (World.cell?_of_block e).trans d1, (World.cell?_of_block e).trans d2, (World.cell?_of_block e).trans d3, (World.cell?_of_block e).trans d4, (World.cell?_of_block e).trans d5, fun j hj => (World.frozen?_of_block e).trans (dz j hj)⟩)
  have HK3 := Lib.hid (hk3.from HLD.out.bel)
  clear hk3
  by_cases hlt : s.data.toList.length < p + 8
  · rw [if_pos hlt] at hcs
    obtain ⟨pb, rfl, hd⟩ := hcs
    have HD := Lib.hid hd
    have hx : rdOne s.data.toList .f p = .bad 42 p := by simp only [rdOne, if_pos hlt]
    have HX := Lib.hid hx
    clear hd hx hlt
    go_wp2_with fail
    refine ⟨rfl, HK3.out, ?_⟩
    rw [HX.out]
    exact ⟨pb, rfl, by have h1 := HD.out.1; have h2 := HLD.out.siz; omega, HD.out.2⟩
  · rw [if_neg hlt] at hcs
    obtain ⟨rfl, hr3⟩ := hcs
    have HR3 := Lib.hid hr3
    have hx : rdOne s.data.toList .f p = .ok (.mk 0 0 (numOf ((s.data.toList.drop p).take 8) 0) false (⟨#[]⟩ : ByteArray).data.toList []) (p + 8) := by simp only [rdOne, if_neg hlt]
    generalize numOf ((s.data.toList.drop p).take 8) 0 = N at *
    have HFin := Lib.hid (show ∀ w', Kept (fun k => k = rb) w w' → Rd w' rb s (p + 8) → POneEnds rb s .f p w (.returned (fdV 0 0 N false ⟨#[]⟩ none 0 0)) w' from fun w' hk hr' => ⟨hk, by rw [hx]; exact ⟨_, rfl, ⟨0, 0, N, false, ⟨#[]⟩, [], none, 0, 0, rfl, rfl, by simp [RowsS]⟩, hr'⟩⟩)
    obtain ⟨d0, d1, d2, d3, d4, d5, v0, v1, v2, v3, v4, v5⟩ := HF3.out.flat'
    clear hr3 hx hlt
    go_wp2_with fail
    (try simp only [Exit.inBlock, Exit.then])
    refine bodyPost_ret (v := fdV 0 0 N false ⟨#[]⟩ none 0 0) (by simp [results, Tryd.results30, go_sem, d0, d1, d2, d3, d4, d5]) rfl ?_
    exact HFin.out _ (HK3.out.set6 _ (by omega) _ _ _ _ _ _) (HR3.out.kept (heap6 _ _ _ nb2 _ _ _ _ _ _))

set_option maxHeartbeats 4000000 in
theorem pfield_b (rb : Nat) (s : ByteArray) : POneSays rb s .b := by
  intro p ia n ic S w H hs hok hsm hits hS hrb
  have L := laidP w rb s p 98 ia n ic H hrb
  have HN := Lib.hid (rtruth_any rb s p _ L.rd hs)
  have HLD := Lib.hid L
  have hst := d_store
  obtain ⟨c0, c1, fz, -⟩ := id H
  have nb1 : rb ≠ w.heap.size := by omega
  have nb2 : rb ≠ w.heap.size + 1 := by omega
  have hrb2 : rb < w.heap.size + 1 := by omega
  clear H L hok hsm hits hS
  show Calls _ _ #[.pointer (some ⟨rb, 0, none⟩), .agg #[.int .u8 98, .slice ia n ic]] w _
  go_enter Tryd.func30, Tryd.ntmps30
  go_wp2_with fail
  refine HN.out.mono ?_
  rintro e w3 ⟨hk3, hcs⟩
  have hs3 : w.heap.size + 2 ≤ w3.heap.size := by have := hk3.size; have := HLD.out.siz; omega
  have HF3 := Lib.hid (show F6 w3 (w.heap.size + 1) 0 0 0 false ⟨#[]⟩ none 0 0 from by
    have e : w3.heap[w.heap.size + 1]? = ((w.alloc (IP0 98 ia n ic)).alloc F00).heap[w.heap.size + 1]? := hk3.block _ (by rw [HLD.out.siz]; omega) (fun e => nb2 e.symm)
    obtain ⟨d0, d1, d2, d3, d4, d5, dz⟩ := HLD.out.fd
    exact ⟨(World.cell?_of_block e).trans d0, (World.cell?_of_block e).trans d1, (World.cell?_of_block e).trans d2, (World.cell?_of_block e).trans d3, (World.cell?_of_block e).trans d4, (World.cell?_of_block e).trans d5, fun j hj => (World.frozen?_of_block e).trans (dz j hj)⟩)
  have HK3 := Lib.hid (hk3.from HLD.out.bel)
  clear hk3
  cases hg : s.data.toList[p]? with
  | none =>
    rw [hg] at hcs
    obtain ⟨pb, rfl, hd⟩ := hcs
    have HD := Lib.hid hd
    have hx : rdOne s.data.toList .b p = .bad 42 p := by simp only [rdOne, hg]
    have HX := Lib.hid hx
    clear hd hx hg
    go_wp2_with fail
    refine ⟨rfl, HK3.out, ?_⟩
    rw [HX.out]
    exact ⟨pb, rfl, by have h1 := HD.out.1; have h2 := HLD.out.siz; omega, HD.out.2⟩
  | some c =>
    rw [hg] at hcs
    simp only [] at hcs
    by_cases hlt : 1 < c.toNat
    · rw [if_pos hlt] at hcs
      obtain ⟨pb, rfl, hd⟩ := hcs
      have HD := Lib.hid hd
      have hx : rdOne s.data.toList .b p = .bad 43 p := by simp only [rdOne, hg, if_pos hlt]
      have HX := Lib.hid hx
      clear hd hx hg hlt
      go_wp2_with fail
      refine ⟨rfl, HK3.out, ?_⟩
      rw [HX.out]
      exact ⟨pb, rfl, by have h1 := HD.out.1; have h2 := HLD.out.siz; omega, HD.out.2⟩
    · rw [if_neg hlt] at hcs
      obtain ⟨rfl, hr3⟩ := hcs
      have HR3 := Lib.hid hr3
      have hx : rdOne s.data.toList .b p = .ok (.mk 0 0 0 (c.toNat == 1) (⟨#[]⟩ : ByteArray).data.toList []) (p + 1) := by simp only [rdOne, hg, if_neg hlt]
      generalize (c.toNat == 1) = B at *
      have HFin := Lib.hid (show ∀ w', Kept (fun k => k = rb) w w' → Rd w' rb s (p + 1) → POneEnds rb s .b p w (.returned (fdV 0 0 0 B ⟨#[]⟩ none 0 0)) w' from fun w' hk hr' => ⟨hk, by rw [hx]; exact ⟨_, rfl, ⟨0, 0, 0, B, ⟨#[]⟩, [], none, 0, 0, rfl, rfl, by simp [RowsS]⟩, hr'⟩⟩)
      obtain ⟨d0, d1, d2, d3, d4, d5, v0, v1, v2, v3, v4, v5⟩ := HF3.out.flat'
      clear hr3 hx hg hlt
      go_wp2_with fail
      (try simp only [Exit.inBlock, Exit.then])
      refine bodyPost_ret (v := fdV 0 0 0 B ⟨#[]⟩ none 0 0) (by simp [results, Tryd.results30, go_sem, d0, d1, d2, d3, d4, d5]) rfl ?_
      exact HFin.out _ (HK3.out.set6 _ (by omega) _ _ _ _ _ _) (HR3.out.kept (heap6 _ _ _ nb2 _ _ _ _ _ _))

end Go.Proofs.YtgikdmognolmoaaDoor
