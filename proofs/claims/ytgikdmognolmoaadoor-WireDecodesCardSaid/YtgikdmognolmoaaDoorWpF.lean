/- The program's writer: a field of each letter. -/
import Derived.Test.YtgikdmognolmoaaDoorWpE
import Derived.Test.YtgikdmognolmoaaDoorWqAll
import Derived.StillTailTactics
namespace Go.Proofs.YtgikdmognolmoaaDoor
open Go.RowKit Go.Lib Go.Wq
set_option linter.unusedVariables false
set_option linter.unusedSimpArgs false
set_option maxRecDepth 100000

/-- How writing ends: all is written, or it was too much. -/
def FEnd (wb base : Nat) (x : List UInt8) (v : Value) (w : World) (e : Ending) (w' : World) : Prop :=
  Wrote wb base x v w e w' ∨ (65536 < x.length ∧ Dies 3 0 w e w' ∧ Kept (Ours wb base) w w')
theorem FEnd.from {wb base : Nat} {x : List UInt8} {v : Value} {w0 w : World} {e : Ending} {w' : World} (h : FEnd wb base x v w e w') (hb : Below w0.heap.size w0 w) : FEnd wb base x v w0 e w' := by
  rcases h with ⟨rfl, v', h1, h2⟩ | ⟨h1, h2, h3⟩
  · exact Or.inl ⟨rfl, v', h1, (Moved.of_below v hb).trans h2⟩
  · exact Or.inr ⟨h1, h2.from hb.size, (Kept.of_below hb).trans h3⟩
theorem wrote_end {wb base : Nat} {x y : List UInt8} {v : Value} {w w' : World} {e : Ending} (h : Wrote wb base x v w e w') (hx : x = y) : FEnd wb base y v w e w' := by subst hx; exact Or.inl h

def FieldSays (it : It) : Prop := ∀ (wb base : Nat) (v : Value) (b : List UInt8) (S : Nat → Prop) (xa : Option Addr) (xc : Nat) (u : Nat) (i : Int) (f : Nat) (bb : Bool) (s : ByteArray) (l : List (List Fld)) (ra : Option Addr) (rc : Nat) (w : World) (a : List UInt8),
  Wr w wb base v b → ItsZ w S it.inner xa it.inner.length → (∀ k, S k → k < base ∧ k ≠ wb) → Go.Wq.RowsIn w wb l ra l.length → it.inner.length ≤ 256 → SizeOf.sizeOf it ≤ 2000 → b.length + 16 * SizeOf.sizeOf it ≤ 131072 → Fine (.mk u i f bb s.data.toList l) → encOne it (.mk u i f bb s.data.toList l) = some a →
  Calls Tryd.prog 35 #[.pointer (some ⟨wb, 0, none⟩), .agg #[.int .u8 it.code, .slice xa it.inner.length xc], .agg #[.int .u64 (u : Int), .int .i64 i, .float .f64 f, .bool bb, .string s, .slice ra l.length rc]] w fun e w' => FEnd wb base (b ++ a) v w e w'

theorem boxes (w : World) (c1 c2 : Array Value) (t1 t2 : TypeId) : Below w.heap.size w ((w.alloc (.cells c1 t1)).alloc (.cells c2 t2)) := ((Below.refl _ w).alloc (Nat.le_refl _) _).alloc (by simp) _

set_option maxHeartbeats 2000000 in
theorem field_u : FieldSays .u := by
  intro wb base v b S xa xc u i f bb s l ra rc w a H hits hS hrows h256 hsz hbl hfine henc
  have ha : a = vint u := by
    simp only [encOne] at henc
    split at henc
    · exact (Option.some.inj henc).symm
    · cases henc
  subst ha
  have hu : u < 18446744073709551616 := hfine.1.hu
  have hb := boxes w #[.int .u8 It.u.code, .slice xa It.u.inner.length xc] #[.int .u64 (u : Int), .int .i64 i, .float .f64 f, .bool bb, .string s, .slice ra l.length rc] 74 53
  have HN := Lib.hid (number_any wb base b u hu v _ (H.kept hb) (by omega))
  have HB := Lib.hid hb
  simp only [It.code, It.inner] at HN HB ⊢
  clear hits hrows hfine henc hb H
  go_enter Tryd.func35, Tryd.ntmps35
  go_wp2_with fail
  refine HN.out.mono ?_
  rintro e w3 h3
  obtain ⟨rfl, h4⟩ := h3
  have H4 := Lib.hid h4
  clear h4
  go_wp2_with fail
  first | go_end0 | refine bodyPost_ret (results_none rfl _ _ _) rfl ?_
  exact FEnd.from (Or.inl ⟨rfl, H4.out⟩) HB.out

set_option maxHeartbeats 2000000 in
theorem field_i : FieldSays .i := by
  intro wb base v b S xa xc u i f bb s l ra rc w a H hits hS hrows h256 hsz hbl hfine henc
  have ha : a = vint (zig i) := by
    simp only [encOne] at henc
    split at henc
    · exact (Option.some.inj henc).symm
    · cases henc
  subst ha
  have h0 : -9223372036854775808 ≤ i := hfine.1.h0
  have h1 : i ≤ 9223372036854775807 := hfine.1.h1
  have hb := boxes w #[.int .u8 It.i.code, .slice xa It.i.inner.length xc] #[.int .u64 (u : Int), .int .i64 i, .float .f64 f, .bool bb, .string s, .slice ra l.length rc] 74 53
  have HN := Lib.hid (number_any wb base b (zig i) (zig_lt h0 h1) v _ (H.kept hb) (by omega))
  have HB := Lib.hid hb
  have HF := Lib.hid (fold_any i h0 h1)
  simp only [It.code, It.inner] at HN HB ⊢
  clear hits hrows hfine henc hb H
  go_enter Tryd.func35, Tryd.ntmps35
  go_wp2_with fail
  refine (HF.out _).mono ?_
  rintro e w2 ⟨rfl, rfl⟩
  go_wp2_with fail
  refine HN.out.mono ?_
  rintro e w3 h3
  obtain ⟨rfl, h4⟩ := h3
  have H4 := Lib.hid h4
  clear h4
  go_wp2_with fail
  first | go_end0 | refine bodyPost_ret (results_none rfl _ _ _) rfl ?_
  exact FEnd.from (Or.inl ⟨rfl, H4.out⟩) HB.out

set_option maxHeartbeats 2000000 in
theorem field_f : FieldSays .f := by
  intro wb base v b S xa xc u i f bb s l ra rc w a H hits hS hrows h256 hsz hbl hfine henc
  have ha : a = bytesOf 8 f := by
    simp only [encOne] at henc
    split at henc
    · exact (Option.some.inj henc).symm
    · cases henc
  subst ha
  have hb := boxes w #[.int .u8 It.f.code, .slice xa It.f.inner.length xc] #[.int .u64 (u : Int), .int .i64 i, .float .f64 f, .bool bb, .string s, .slice ra l.length rc] 74 53
  have HN := Lib.hid (wfloat_any wb base b f v _ (H.kept hb) (by omega))
  have HB := Lib.hid hb
  simp only [It.code, It.inner] at HN HB ⊢
  clear hits hrows hfine henc hb H
  go_enter Tryd.func35, Tryd.ntmps35
  go_wp2_with fail
  refine HN.out.mono ?_
  rintro e w3 h3
  obtain ⟨rfl, h4⟩ := h3
  have H4 := Lib.hid h4
  clear h4
  go_wp2_with fail
  first | go_end0 | refine bodyPost_ret (results_none rfl _ _ _) rfl ?_
  exact FEnd.from (Or.inl ⟨rfl, H4.out⟩) HB.out

set_option maxHeartbeats 2000000 in
theorem field_b : FieldSays .b := by
  intro wb base v b S xa xc u i f bb s l ra rc w a H hits hS hrows h256 hsz hbl hfine henc
  have ha : a = [if bb then 1 else 0] := by
    simp only [encOne] at henc
    split at henc
    · exact (Option.some.inj henc).symm
    · cases henc
  subst ha
  have hb := boxes w #[.int .u8 It.b.code, .slice xa It.b.inner.length xc] #[.int .u64 (u : Int), .int .i64 i, .float .f64 f, .bool bb, .string s, .slice ra l.length rc] 74 53
  have HN := Lib.hid (truth_any wb base b bb v _ (H.kept hb) (by omega))
  have HB := Lib.hid hb
  simp only [It.code, It.inner] at HN HB ⊢
  clear hits hrows hfine henc hb H
  cases bb <;> (
    go_enter Tryd.func35, Tryd.ntmps35
    go_wp2_with fail
    refine HN.out.mono ?_
    rintro e w3 h3
    obtain ⟨rfl, h4⟩ := h3
    have H4 := Lib.hid h4
    clear h4
    go_wp2_with fail
    first | go_end0 | refine bodyPost_ret (results_none rfl _ _ _) rfl ?_
    exact FEnd.from (Or.inl ⟨rfl, H4.out⟩) HB.out)

set_option maxHeartbeats 2000000 in
theorem field_t : FieldSays .t := by
  intro wb base v b S xa xc u i f bb s l ra rc w a H hits hS hrows h256 hsz hbl hfine henc
  have hsd : s.data.toList.length = s.size := by rw [Array.length_toList]; rfl
  have ha : a = vint s.size ++ s.data.toList := by
    simp only [encOne] at henc
    split at henc
    · have := (Option.some.inj henc).symm; simp only [Fld.T, hsd] at this; exact this
    · cases henc
  subst ha
  have hss : s.size ≤ 140737488351232 := by have := hfine.2.1.t; simp only [Fld.T, hsd] at this; exact this
  have hb := boxes w #[.int .u8 It.t.code, .slice xa It.t.inner.length xc] #[.int .u64 (u : Int), .int .i64 i, .float .f64 f, .bool bb, .string s, .slice ra l.length rc] 74 53
  have HN := Lib.hid (text_any wb base b s v _ (H.kept hb) (by omega) hss)
  have HB := Lib.hid hb
  simp only [It.code, It.inner] at HN HB ⊢
  clear hits hrows hfine henc hb H hsd
  go_enter Tryd.func35, Tryd.ntmps35
  go_wp2_with fail
  refine HN.out.mono ?_
  rintro e w3 h3
  rcases h3 with ⟨rfl, h4⟩ | ⟨h5, ⟨pb, rfl, h6⟩, h7⟩
  · have H4 := Lib.hid h4
    clear h4
    go_wp2_with fail
    first | go_end0 | refine bodyPost_ret (results_none rfl _ _ _) rfl ?_
    exact FEnd.from (Or.inl ⟨rfl, H4.out⟩) HB.out
  · have H5 := Lib.hid h5
    have H6 := Lib.hid h6
    have H7 := Lib.hid h7
    clear h5 h6 h7
    go_wp2_with fail
    exact ⟨rfl, FEnd.from (Or.inr ⟨H5.out, ⟨pb, rfl, H6.out⟩, H7.out⟩) HB.out⟩
end Go.Proofs.YtgikdmognolmoaaDoor
