/- Sessions, plainly. -/
namespace Go.Sq
set_option linter.unusedVariables false
set_option linter.unusedSimpArgs false

/-- What one has of a neighbour: its own nonce, the other's, is it up, how long it is silent. -/
structure Se where
  m : Int
  p : Int
  u : Bool
  s : Int
deriving DecidableEq
def hearF (x : Se) (n e : Int) : Se × Bool × Bool :=
  if n = 0 then (x, false, false) else if n < x.p then (x, false, false)
  else if x.p < n then (⟨x.m, n, e == x.m, 0⟩, true, e == x.m)
  else (⟨x.m, x.p, x.u || (e == x.m), 0⟩, false, (e == x.m) && !x.u)
def acceptF (x : Se) (n e : Int) : Se × Bool × Bool :=
  if n = 0 then (x, false, false) else if n = x.p then (if e = x.m then (⟨x.m, x.p, true, 0⟩, true, !x.u) else (x, false, false)) else (x, false, false)
def nextM (m : Int) : Int := if m = 18446744073709551615 then m else m + 1
def downF (x : Se) : Se := ⟨nextM x.m, 0, false, 0⟩
def nextS (s : Int) : Int := if s < 9223372036854775807 then s + 1 else s
def tickF (x : Se) (l : Int) : Se × Bool :=
  if x.p = 0 then (x, false) else if l ≤ nextS x.s then (downF x, true) else (⟨x.m, x.p, x.u, nextS x.s⟩, false)
def mayB (x : Se) : Bool := decide (0 < x.m) && decide (0 ≤ x.s) && (decide (0 < x.p) || !x.u)
/-- Numbers that fit. -/
structure Ok (x : Se) : Prop where
  m0 : 0 ≤ x.m
  m1 : x.m ≤ 18446744073709551615
  p0 : 0 ≤ x.p
  p1 : x.p ≤ 18446744073709551615
  s0 : -9223372036854775808 ≤ x.s
  s1 : x.s ≤ 9223372036854775807
theorem Ok.hear {x : Se} (h : Ok x) {n : Int} (e : Int) (h0 : 0 ≤ n) (h1 : n ≤ 18446744073709551615) : Ok (hearF x n e).1 := by
  obtain ⟨a, b, c, d, f, g⟩ := h
  unfold hearF
  split
  · exact ⟨a, b, c, d, f, g⟩
  · split
    · exact ⟨a, b, c, d, f, g⟩
    · split
      · exact ⟨a, b, h0, h1, by simp, by simp⟩
      · exact ⟨a, b, c, d, by simp, by simp⟩
theorem Ok.accept {x : Se} (h : Ok x) (n e : Int) : Ok (acceptF x n e).1 := by
  obtain ⟨a, b, c, d, f, g⟩ := h
  unfold acceptF
  split
  · exact ⟨a, b, c, d, f, g⟩
  · split
    · split
      · exact ⟨a, b, c, d, by simp, by simp⟩
      · exact ⟨a, b, c, d, f, g⟩
    · exact ⟨a, b, c, d, f, g⟩
theorem Ok.down {x : Se} (h : Ok x) : Ok (downF x) := by
  obtain ⟨a, b, c, d, f, g⟩ := h
  unfold downF nextM
  split
  · exact ⟨a, b, by simp, by simp, by simp, by simp⟩
  · exact ⟨by simp only; omega, by simp only; omega, by simp, by simp, by simp, by simp⟩
theorem Ok.tick {x : Se} (h : Ok x) (l : Int) : Ok (tickF x l).1 := by
  unfold tickF
  split
  · exact h
  · split
    · exact h.down
    · obtain ⟨a, b, c, d, f, g⟩ := h
      refine ⟨a, b, c, d, ?_, ?_⟩ <;> simp only [nextS] <;> split <;> omega
theorem Ok.new {m : Int} (h0 : 0 ≤ m) (h1 : m ≤ 18446744073709551615) : Ok ⟨m, 0, false, 0⟩ := ⟨h0, h1, by simp, by simp, by simp, by simp⟩
end Go.Sq
