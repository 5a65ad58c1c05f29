/-
  A node that came in, with the room behind its lists. Condition: the argument's type can be read.
-/
import Derived.Test.YtnifaldgofmciaaNdX
import Derived.Test.YtnifaldgofmciaaNeH
namespace Go.Proofs.Ytnifaldgofmciaa
open Go.ChangeShapes Go.WideShapes Go.ChangeAt Go.RowKit
theorem fresh0 (v : Value) : fresh 0 v := fun _ _ => Nat.zero_le _
theorem cap_keys {H : Type} {enc : TypeId × Value → H} {w : World} {base fuel : Nat} {cs : List Value} {x : DataW H × List MemPlace}
    (h : DataW.trod enc Try.prog w base (fun _ => true) true fuel 22 cs = some x) : ∃ a n c, cs = [.slice a n c] ∧ n ≤ c := by
  rcases open_ints Try.underlying22 Try.underlying52 c52 h with ⟨hc, _⟩ | ⟨a, len, cap, zs, hc, _, hl, hm, hlen, _, hcell, hwf⟩
  · exact ⟨_, _, _, hc, Nat.le_refl _⟩
  · exact ⟨_, _, _, hc, by omega⟩
theorem cap_rows {t e : TypeId} (ht : Try.prog.underlying t = some (.slice e)) {H : Type} {enc : TypeId × Value → H} {w : World} {base fuel : Nat} {cs : List Value} {x : DataW H × List MemPlace}
    (h : DataW.trod enc Try.prog w base (fun _ => true) true fuel t cs = some x) : ∃ a n c, cs = [.slice a n c] ∧ n ≤ c := by
  rcases Go.Deep.open_slice ht h with ⟨hc, _⟩ | ⟨a, len, cap, m, n, D, Pl, hc, _, hl, hm, hlen, _, hel⟩
  · exact ⟨_, _, _, hc, Nat.le_refl _⟩
  · exact ⟨_, _, _, hc, by omega⟩
set_option maxRecDepth 100000 in
theorem open_nodeA {H : Type} {enc : TypeId × Value → H} {w : World} {r : Reach} {b0 base : Nat} {v : Value} {d : DataW H} {ps : List MemPlace}
    (hval : Value.okWide Try.prog w r b0 26 v) (hd : DataW.Trod enc Try.prog w base (fun _ => true) true 26 v d ps) : ∃ A n, v = .agg A ∧ ND w (.agg A) n ∧ okA 0 A := by
  obtain ⟨n, hn, _, _⟩ := open_node hval hd
  obtain ⟨cs, rfl, hsz⟩ := okWide_struct st26 hval
  rw [c26] at hsz
  obtain ⟨fuel, hf⟩ := hd
  have hf' : DataW.trod enc Try.prog w base (fun _ => true) true fuel 26 cs.toList = some (d, ps) := hf
  obtain ⟨m0, y0, h0⟩ := trod_field st26 hf' fs26 0 true 4 0 rfl
  obtain ⟨m1, y1, h1⟩ := trod_field st26 hf' fs26 1 true 22 1 rfl
  obtain ⟨m2, y2, h2⟩ := trod_field st26 hf' fs26 2 true 23 2 rfl
  obtain ⟨m3, y3, h3⟩ := trod_field st26 hf' fs26 3 true 24 3 rfl
  rw [c4] at h0
  rw [c22] at h1
  rw [c23] at h2
  rw [c24] at h3
  obtain ⟨c, hc, _⟩ := DataW.trod_bool Try.underlying4 h0
  obtain ⟨x1, n1, c1, hK, l1⟩ := cap_keys h1
  obtain ⟨x2, n2, c2, hV, l2⟩ := cap_rows Try.underlying23 h2
  obtain ⟨x3, n3, c3, hQ, l3⟩ := cap_rows Try.underlying24 h3
  refine ⟨cs, n, rfl, hn, c, x1, n1, c1, x2, n2, c2, x3, n3, c3, ?_, ⟨l1, l2, l3⟩, fresh0 _, fresh0 _, fresh0 _⟩
  apply Array.ext'
  have hcl : cs.toList.length = 4 := by simpa using hsz
  generalize cs.toList = L at *
  match L, hcl with
  | [p, q, r, s], _ =>
    simp at hc hK hV hQ
    subst hc hK hV hQ
    rfl
end Go.Proofs.Ytnifaldgofmciaa
