/- The program's reader: one field, a text. -/
import Derived.Test.YtgikdmognolmoaaDoorWpT2
namespace Go.Proofs.YtgikdmognolmoaaDoor
open Go.RowKit Go.Lib Go.Wq
set_option linter.unusedVariables false
set_option linter.unusedSimpArgs false
set_option maxRecDepth 100000

theorem F6.moved {w w' : World} {b u : Nat} {i : Int} {f : Nat} {bb : Bool} {t : ByteArray} {ra : Option Addr} {rn rc : Nat} (h : F6 w b u i f bb t ra rn rc) (e : w'.heap[b]? = w.heap[b]?) : F6 w' b u i f bb t ra rn rc :=
  ⟨(World.cell?_of_block e).trans h.c0, (World.cell?_of_block e).trans h.c1, (World.cell?_of_block e).trans h.c2, (World.cell?_of_block e).trans h.c3, (World.cell?_of_block e).trans h.c4, (World.cell?_of_block e).trans h.c5, fun j hj => (World.frozen?_of_block e).trans (h.fz j hj)⟩

set_option maxHeartbeats 4000000 in
theorem pfield_t (HCl : ∀ (T : ByteArray) (w : World), T.size ≤ 65536 → Calls Tryd.prog 45 #[.string T] w fun e w' => e = .returned (.string T) ∧ Below w.heap.size w w') (rb : Nat) (s : ByteArray) : POneSays rb s .t := by
  intro p ia n ic S w H hs hok hsm hits hS hrb
  have L := laidP w rb s p 116 ia n ic H hrb
  have HN := Lib.hid (rnum_any rb s p _ L.rd hs)
  have HLD := Lib.hid L
  have HCL := Lib.hid HCl
  have HS := Lib.hid hs
  have hl : Hid (s.data.toList.length = s.size) := Lib.hid Array.length_toList
  clear HCl
  have hst := d_store
  obtain ⟨c0, c1, fz, -⟩ := id H
  have nb1 : rb ≠ w.heap.size := by omega
  have nb2 : rb ≠ w.heap.size + 1 := by omega
  have hrb2 : rb < w.heap.size + 1 := by omega
  clear H L hok hsm hits hS
  show Calls _ _ #[.pointer (some ⟨rb, 0, none⟩), .agg #[.int .u8 116, .slice ia n ic]] w _
  go_enter Tryd.func30, Tryd.ntmps30
  go_wp2_with fail
  refine HN.out.mono ?_
  rintro e w3 ⟨hk3, hcs⟩
  have hs3 : w.heap.size + 2 ≤ w3.heap.size := by have := hk3.size; have := HLD.out.siz; omega
  have HF3 := Lib.hid (show F6 w3 (w.heap.size + 1) 0 0 0 false ⟨#[]⟩ none 0 0 from by
    have e : w3.heap[w.heap.size + 1]? = ((w.alloc (IP0 116 ia n ic)).alloc F00).heap[w.heap.size + 1]? := hk3.block _ (by rw [HLD.out.siz]; omega) (fun e => nb2 e.symm)
    obtain ⟨d0, d1, d2, d3, d4, d5, dz⟩ := HLD.out.fd
    exact ⟨(World.cell?_of_block e).trans d0, (World.cell?_of_block e).trans d1, (World.cell?_of_block e).trans d2, (World.cell?_of_block e).trans d3, (World.cell?_of_block e).trans d4, (World.cell?_of_block e).trans d5, fun j hj => (World.frozen?_of_block e).trans (dz j hj)⟩)
  have HK3 := Lib.hid (hk3.from HLD.out.bel)
  clear hk3
  cases hr : rdVar s.data.toList p with
  | ok N q =>
    rw [hr] at hcs
    obtain ⟨rfl, hr3⟩ := hcs
    have HN64 := Lib.hid (rdVar_only hr).1
    by_cases hlt : s.data.toList.length < q + N
    · have HTB := Lib.hid (take_bad rb s q N p w3 hr3 hs (by have := hl.out; omega) HN64.out)
      have hx : rdOne s.data.toList .t p = .bad 42 p := by simp only [rdOne, hr, if_pos hlt]
      have HX := Lib.hid hx
      clear hr3 hx hr hlt
      go_wp2_with fail
      refine HTB.out.mono ?_
      rintro e w4 ⟨⟨pb, rfl, hd⟩, hb4⟩
      have HD := Lib.hid hd
      have HB4 := Lib.hid (Kept.of_below (S := fun k => k = rb) hb4)
      clear hd hb4
      go_wp2_with fail
      refine ⟨rfl, HK3.out.trans HB4.out, ?_⟩
      rw [HX.out]
      exact ⟨pb, rfl, by have h1 := HD.out.1; omega, HD.out.2⟩
    · have HTK := Lib.hid (take_ok rb s q N p w3 hr3 hs (by have := hl.out; omega))
      have hx : rdOne s.data.toList .t p = .ok (.mk 0 0 0 false (s.extract q (q + N)).data.toList []) (q + N) := by simp only [rdOne, hr, if_neg hlt, extract_data]
      have hTz : (s.extract q (q + N)).size ≤ 65536 := by rw [extract_size s q N (by have := hl.out; omega)]; have := hl.out; omega
      generalize s.extract q (q + N) = T at *
      have HFin := Lib.hid (show ∀ w', Kept (fun k => k = rb) w w' → Rd w' rb s (q + N) → POneEnds rb s .t p w (.returned (fdV 0 0 0 false T none 0 0)) w' from fun w' hk hr' => ⟨hk, by rw [hx]; exact ⟨_, rfl, ⟨0, 0, 0, false, T, [], none, 0, 0, rfl, rfl, by simp [RowsS]⟩, hr'⟩⟩)
      have HC := Lib.hid (fun w => HCL.out T w hTz)
      clear hr3 hx hr hlt hTz
      go_wp2_with fail
      refine HTK.out.mono ?_
      rintro e w4 ⟨rfl, hr4, hk4⟩
      have HK4 := Lib.hid hk4
      have HR4 := Lib.hid hr4
      have hs4 := hk4.size
      clear hr4 hk4
      go_wp2_with fail
      refine (HC.out w4).mono ?_
      rintro e w5 ⟨rfl, hb5⟩
      have hs5 := hb5.size
      have HF5 := Lib.hid (HF3.out.moved (w' := w5) ((hb5.block _ (by omega)).trans (HK4.out.block _ (by omega) (fun e => nb2 e.symm))))
      have HK5 := Lib.hid ((HK3.out.trans HK4.out).trans (Kept.of_below hb5))
      have HR5 := Lib.hid (HR4.out.kept (hb5.block rb (by omega)))
      clear hb5
      obtain ⟨d0, d1, d2, d3, d4, d5, v0, v1, v2, v3, v4, v5⟩ := HF5.out.flat'
      go_wp2_with fail
      (try simp only [Exit.inBlock, Exit.then])
      refine bodyPost_ret (v := fdV 0 0 0 false T none 0 0) (by simp [results, Tryd.results30, go_sem, d0, d1, d2, d3, d4, d5]) rfl ?_
      exact HFin.out _ (HK5.out.set6 _ (by omega) _ _ _ _ _ _) (HR5.out.kept (heap6 _ _ _ nb2 _ _ _ _ _ _))
  | bad er fr =>
    rw [hr] at hcs
    obtain ⟨pb, rfl, hd⟩ := hcs
    have HD := Lib.hid hd
    have hx : rdOne s.data.toList .t p = .bad er fr := by simp only [rdOne, hr]
    have HX := Lib.hid hx
    clear hd hx hr
    go_wp2_with fail
    refine ⟨rfl, HK3.out, ?_⟩
    rw [HX.out]
    exact ⟨pb, rfl, by have h1 := HD.out.1; have h2 := HLD.out.siz; omega, HD.out.2⟩

end Go.Proofs.YtgikdmognolmoaaDoor
