/- The program's reader: one field, letter by letter. -/
import Derived.Test.YtgikdmognolmoaaDoorWpQ
namespace Go.Proofs.YtgikdmognolmoaaDoor
open Go.RowKit Go.Lib Go.Wq
set_option linter.unusedVariables false
set_option linter.unusedSimpArgs false
set_option maxRecDepth 100000

abbrev IP0 (c : Int) (ia : Option Addr) (n ic : Nat) : Obj := .cells #[.int .u8 c, .slice ia n ic] 74
/-- What field has laid ahead of its switch. -/
structure LaidP (w W : World) (rb : Nat) (s : ByteArray) (p : Nat) (c : Int) (ia : Option Addr) (n ic : Nat) : Prop where
  i0 : W.cell? ⟨w.heap.size, 0, none⟩ = some (.int .u8 c)
  i1 : W.cell? ⟨w.heap.size, 1, none⟩ = some (.slice ia n ic)
  fd : F6 W (w.heap.size + 1) 0 0 0 false ⟨#[]⟩ none 0 0
  rd : Rd W rb s p
  bel : Below w.heap.size w W
  siz : W.heap.size = w.heap.size + 2
theorem laidP (w : World) (rb : Nat) (s : ByteArray) (p : Nat) (c : Int) (ia : Option Addr) (n ic : Nat) (H : Rd w rb s p) (hrb : rb < w.heap.size) : LaidP w ((w.alloc (IP0 c ia n ic)).alloc F00) rb s p c ia n ic := by
  have f1 := F6.first (w.alloc (IP0 c ia n ic)) 53
  simp only [World.size_alloc] at f1
  have hb : Below w.heap.size w ((w.alloc (IP0 c ia n ic)).alloc F00) := ((Below.refl _ w).alloc (Nat.le_refl _) _).alloc (by simp) _
  exact ⟨by simp [go_sem], by simp [go_sem], f1, H.kept (hb.block rb hrb), hb, by simp⟩
theorem Kept.from {S : Nat → Prop} {w W w' : World} (h : Kept S W w') (hb : Below w.heap.size w W) : Kept S w w' := (Kept.of_below hb).trans h
theorem Kept.put {S : Nat → Prop} {w w' : World} (h : Kept S w w') (a : Addr) (v : Value) (ha : w.heap.size ≤ a.block) : Kept S w (w'.setCell a v) :=
  ⟨h.os, h.tape, h.output, by simpa [World.setCell] using h.size, fun k hk hn => by rw [Below.heap_setCell _ _ _ _ (by omega), h.block k hk hn]⟩
/-- Six stores to a block that is new. -/
theorem Kept.set6 {S : Nat → Prop} {w w' : World} (h : Kept S w w') (b : Nat) (hb : w.heap.size ≤ b) (x0 x1 x2 x3 x4 x5 : Value) :
    Kept S w ((((((w'.setCell ⟨b, 0, none⟩ x0).setCell ⟨b, 1, none⟩ x1).setCell ⟨b, 2, none⟩ x2).setCell ⟨b, 3, none⟩ x3).setCell ⟨b, 4, none⟩ x4).setCell ⟨b, 5, none⟩ x5) :=
  (((((h.put _ _ hb).put _ _ hb).put _ _ hb).put _ _ hb).put _ _ hb).put _ _ hb
theorem heap6 (w : World) (b k : Nat) (hne : k ≠ b) (x0 x1 x2 x3 x4 x5 : Value) :
    ((((((w.setCell ⟨b, 0, none⟩ x0).setCell ⟨b, 1, none⟩ x1).setCell ⟨b, 2, none⟩ x2).setCell ⟨b, 3, none⟩ x3).setCell ⟨b, 4, none⟩ x4).setCell ⟨b, 5, none⟩ x5).heap[k]? = w.heap[k]? := by
  rw [Below.heap_setCell _ _ _ _ hne, Below.heap_setCell _ _ _ _ hne, Below.heap_setCell _ _ _ _ hne, Below.heap_setCell _ _ _ _ hne, Below.heap_setCell _ _ _ _ hne, Below.heap_setCell _ _ _ _ hne]

theorem F6.flat' {w : World} {b u : Nat} {i : Int} {f : Nat} {bb : Bool} {t : ByteArray} {ra : Option Addr} {rn rc : Nat} (h : F6 w b u i f bb t ra rn rc) :
    w.cell? ⟨b, 0, none⟩ = some (.int .u64 (u : Int)) ∧ w.cell? ⟨b, 1, none⟩ = some (.int .i64 i) ∧ w.cell? ⟨b, 2, none⟩ = some (.float .f64 f) ∧ w.cell? ⟨b, 3, none⟩ = some (.bool bb) ∧ w.cell? ⟨b, 4, none⟩ = some (.string t) ∧ w.cell? ⟨b, 5, none⟩ = some (.slice ra rn rc) ∧
    w.frozen? ⟨b, 0, none⟩ = false ∧ w.frozen? ⟨b, 1, none⟩ = false ∧ w.frozen? ⟨b, 2, none⟩ = false ∧ w.frozen? ⟨b, 3, none⟩ = false ∧ w.frozen? ⟨b, 4, none⟩ = false ∧ w.frozen? ⟨b, 5, none⟩ = false :=
  ⟨h.c0, h.c1, h.c2, h.c3, h.c4, h.c5, h.fz 0 (by omega), h.fz 1 (by omega), h.fz 2 (by omega), h.fz 3 (by omega), h.fz 4 (by omega), h.fz 5 (by omega)⟩

set_option maxHeartbeats 4000000 in
theorem pfield_u (rb : Nat) (s : ByteArray) : POneSays rb s .u := by
  intro p ia n ic S w H hs hok hsm hits hS hrb
  have L := laidP w rb s p 117 ia n ic H hrb
  have HN := Lib.hid (rnum_any rb s p _ L.rd hs)
  have HLD := Lib.hid L
  have hst := d_store
  obtain ⟨c0, c1, fz, -⟩ := id H
  have nb1 : rb ≠ w.heap.size := by omega
  have nb2 : rb ≠ w.heap.size + 1 := by omega
  have hrb2 : rb < w.heap.size + 1 := by omega
  clear H L hok hsm hits hS
  show Calls _ _ #[.pointer (some ⟨rb, 0, none⟩), .agg #[.int .u8 117, .slice ia n ic]] w _
  go_enter Tryd.func30, Tryd.ntmps30
  go_wp2_with fail
  refine HN.out.mono ?_
  rintro e w3 ⟨hk3, hcs⟩
  have hs3 : w.heap.size + 2 ≤ w3.heap.size := by have := hk3.size; have := HLD.out.siz; omega
  have HF3 := Lib.hid (show F6 w3 (w.heap.size + 1) 0 0 0 false ⟨#[]⟩ none 0 0 from by
    have e : w3.heap[w.heap.size + 1]? = ((w.alloc (IP0 117 ia n ic)).alloc F00).heap[w.heap.size + 1]? := hk3.block _ (by rw [HLD.out.siz]; omega) (fun e => nb2 e.symm)
    obtain ⟨d0, d1, d2, d3, d4, d5, dz⟩ := HLD.out.fd
    exact ⟨(World.cell?_of_block e).trans d0, (World.cell?_of_block e).trans d1, (World.cell?_of_block e).trans d2, (World.cell?_of_block e).trans d3, (World.cell?_of_block e).trans d4, (World.cell?_of_block e).trans d5, fun j hj => (World.frozen?_of_block e).trans (dz j hj)⟩)
  have HK3 := Lib.hid (hk3.from HLD.out.bel)
  clear hk3
  cases hr : rdVar s.data.toList p with
  | ok N q =>
    rw [hr] at hcs
    obtain ⟨rfl, hr3⟩ := hcs
    have HR3 := Lib.hid hr3
    have hx : rdOne s.data.toList .u p = .ok (.mk N 0 0 false (⟨#[]⟩ : ByteArray).data.toList []) q := by simp only [rdOne, hr]
    have HFin := Lib.hid (show ∀ w', Kept (fun k => k = rb) w w' → Rd w' rb s q → POneEnds rb s .u p w (.returned (fdV N 0 0 false ⟨#[]⟩ none 0 0)) w' from fun w' hk hr' => ⟨hk, by rw [hx]; exact ⟨_, rfl, ⟨N, 0, 0, false, ⟨#[]⟩, [], none, 0, 0, rfl, rfl, by simp [RowsS]⟩, hr'⟩⟩)
    obtain ⟨d0, d1, d2, d3, d4, d5, v0, v1, v2, v3, v4, v5⟩ := HF3.out.flat'
    clear hr3 hx hr
    go_wp2_with fail
    (try simp only [Exit.inBlock, Exit.then])
    refine bodyPost_ret (v := fdV N 0 0 false ⟨#[]⟩ none 0 0) (by simp [results, Tryd.results30, go_sem, d0, d1, d2, d3, d4, d5]) rfl ?_
    exact HFin.out _ (HK3.out.set6 _ (by omega) _ _ _ _ _ _) (HR3.out.kept (heap6 _ _ _ nb2 _ _ _ _ _ _))
  | bad er fr =>
    rw [hr] at hcs
    obtain ⟨pb, rfl, hd⟩ := hcs
    have HD := Lib.hid hd
    have hx : rdOne s.data.toList .u p = .bad er fr := by simp only [rdOne, hr]
    have HX := Lib.hid hx
    clear hd hx hr
    go_wp2_with fail
    refine ⟨rfl, HK3.out, ?_⟩
    rw [HX.out]
    exact ⟨pb, rfl, by have h1 := HD.out.1; have h2 := HLD.out.siz; omega, HD.out.2⟩

end Go.Proofs.YtgikdmognolmoaaDoor
