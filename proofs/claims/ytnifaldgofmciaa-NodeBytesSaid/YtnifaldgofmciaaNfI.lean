/-
  What stays in memory where bytes of a call's own are turned; the document's nodes' cells. Condition: none.
-/
import Derived.Test.YtnifaldgofmciaaNfG
import Derived.Test.YtnifaldgofmciaaNdW
namespace Go.Proofs.Ytnifaldgofmciaa
open Go.RowKit
open oc (Byt Sees Own be nth)
section
variable {w : World} {X : Array Value} {x : DN}
theorem DM.form (h : DM w (.agg X) x) : ∃ b a n c, X = #[.bool b, .slice a n c] := by
  obtain ⟨L, e, hp⟩ := h
  obtain ⟨a, c, rfl, _⟩ := hp.form
  injection e with e
  exact ⟨_, _, _, _, e⟩
theorem DM.info (h : DM w (.agg X) x) : (Try.prog.info? 32).map (·.size) = some X.size := by obtain ⟨b, a, n, c, rfl⟩ := h.form; exact i32 _ _
theorem DM.two (h : DM w (.agg X) x) : X.size = 2 := by obtain ⟨b, a, n, c, rfl⟩ := h.form; rfl
theorem DM.one (h : DM w (.agg X) x) : X.all (·.oneCell') = true := by obtain ⟨b, a, n, c, rfl⟩ := h.form; simp [Value.oneCell']
end
theorem ND.form {w : World} {A : Array Value} {n : NV} (h : ND w (.agg A) n) : ∃ b x1 n1 c1 x2 n2 c2 x3 n3 c3, A = #[.bool b, .slice x1 n1 c1, .slice x2 n2 c2, .slice x3 n3 c3] := by
  obtain ⟨K, V, Q, e, hk, hv, hq, _⟩ := h
  obtain ⟨x1, n1, c1, rfl⟩ := hk.form
  obtain ⟨x2, n2, c2, rfl⟩ := hv.form
  obtain ⟨x3, n3, c3, rfl⟩ := hq.form
  injection e with e
  exact ⟨_, _, _, _, _, _, _, _, _, _, e⟩
theorem ND.info {w : World} {A : Array Value} {n : NV} (h : ND w (.agg A) n) : (Try.prog.info? 26).map (·.size) = some A.size := by obtain ⟨b, x1, n1, c1, x2, n2, c2, x3, n3, c3, rfl⟩ := h.form; exact size26' _ _ _ _
theorem ND.four {w : World} {A : Array Value} {n : NV} (h : ND w (.agg A) n) : A.size = 4 := by obtain ⟨b, x1, n1, c1, x2, n2, c2, x3, n3, c3, rfl⟩ := h.form; rfl
theorem ND.one {w : World} {A : Array Value} {n : NV} (h : ND w (.agg A) n) : A.all (·.oneCell') = true := by obtain ⟨b, x1, n1, c1, x2, n2, c2, x3, n3, c3, rfl⟩ := h.form; simp [Value.oneCell']
theorem range_grown {w w' : World} {row : Option Nat} {b o : Nat} {l : List Value} (h : w.rangeAt b o l) (hl : b < w.heap.size) (hg : w.grownBy w' row) (hb : some b ≠ row) : w'.rangeAt b o l := fun j v hj => by
  have e := hg.block b hl hb
  have := h j v hj
  simp only [World.cell?, e] at this ⊢
  exact this
theorem ES.grown {α : Type} {f : α → List Value} {e : Nat} {w w' : World} {v : Value} {xs : List α} {g : Nat} {row : Option Nat} (h : ES f e w v xs) (hf : fresh g v) (hg : w.grownBy w' row) (hr : ∀ k, row = some k → k < g) : ES f e w' v xs := by
  obtain ⟨h1, h2, x, c, h3, h4⟩ := h
  refine ⟨h1, h2, x, c, h3, fun i y hi => ?_⟩
  obtain ⟨b, o, e1, e2, e3⟩ := h4 i y hi
  refine ⟨b, o, e1, Nat.lt_of_lt_of_le e2 hg.size, range_grown e3 e2 hg (fun e => ?_)⟩
  have := hf b (by rw [h3, e1]; rfl)
  have := hr b e.symm
  omega
theorem ND.grown {w w' : World} {A : Array Value} {n : NV} {g : Nat} {row : Option Nat} (h : ND w (.agg A) n) (hf : freshN g (.agg A)) (hg : w.grownBy w' row) (hr : ∀ k, row = some k → k < g) : ND w' (.agg A) n := by
  obtain ⟨K, V, Q, e, h1, h2, h3, h4, h5⟩ := h
  obtain ⟨f1, f2, f3⟩ := hf _ _ _ _ e
  exact ⟨K, V, Q, e, (h1.es.grown f1 hg hr).ks h1.1, h2.grown f2 hg hr, h3.grown f3 hg hr, h4, h5⟩
/-- One byte of bytes of a call's own is turned. -/
theorem own_set {w : World} {base : Nat} {x : Option Addr} {n c : Nat} {zs : List Int} {i : Nat} (h : Own w base (.slice x n c) zs) (hi : i < zs.length) : ∃ g, x = some ⟨g, 0, none⟩ ∧ base ≤ g ∧ w.cell? ⟨g, i, none⟩ = some (.int .u8 (nth zs i)) ∧ w.frozen? ⟨g, i, none⟩ = false ∧
    ∀ z : Int, 0 ≤ z ∧ z ≤ 255 → Own (w.setCell ⟨g, i, none⟩ (.int .u8 z)) base (.slice x n c) (zs.set i z) ∧ w.grownBy (w.setCell ⟨g, i, none⟩ (.int .u8 z)) (some g) := by
  obtain ⟨hb, hl, ⟨e, h0⟩ | ⟨g, cap, cur, e, hbg, hg, hn, hm, hs, ht⟩⟩ := h
  · omega
  · injection e with e1 e2 e3
    subst e1 e2 e3
    have hit : (zs.map (Value.int .u8))[i]? = some (.int .u8 (nth zs i)) := by simp [nth, List.getD, hi]
    rw [Nat.mul_one] at ht
    have hci : cur[i]? = some (.int .u8 (nth zs i)) := by
      rw [← ht, List.getElem?_take_of_lt hi] at hit
      simpa using hit
    refine ⟨g, rfl, hbg, by rw [cell_row hg]; exact hci, oc.frozen_block hg i, fun z hz => ?_⟩
    refine ⟨⟨fun y hy => ?_, by simp, .inr ⟨g, c, cur.setIfInBounds i (.int .u8 z), by simp, hbg, heap_setCell_same _ _ _ _ _ _ hg, by simpa using hn, hm, by simpa using hs, ?_⟩⟩, by rw [setCell_eq_setRow _ _ _ _ _ _ _ hg]; exact oc.grownBy_setRow _ _ _⟩
    · rcases List.mem_or_eq_of_mem_set hy with hy | hy
      · exact hb y hy
      · rw [hy]; exact hz
    · rw [Array.toList_setIfInBounds, List.length_set, Nat.mul_one, List.take_set, ht, List.map_set]
theorem grown_trans {a b c : World} {row : Option Nat} (h : a.grownBy b row) (k : b.grownBy c row) : a.grownBy c row := oc.grownBy_trans h k
theorem wpList_blank_met {ops : Array Oper} {rest : List Oper} {o : Oper} {a : Act} {w : World} {Q : Exit → Act → World → Prop} (hw : Region.wanted o (yielded ops a.tmps) = true) (t : TypeId)
    (ho : o.op = .build t #[]) {v : Value} (hr : (Instr.build t #[]).run Try.prog w = .ok v w) (h : wpList Try.prog ops Q rest (a.put o.dst v) w) : wpList Try.prog ops Q (o :: rest) a w :=
  wpList_wanted hw fun K hK => by
    unfold Oper.wp execOp
    simp only [ho, Sem.run_bind, Sem.run_pure, Result.andThen_ok, List.map_toArray, List.map_nil, hr]
    exact hK _ _ h
end Go.Proofs.Ytnifaldgofmciaa
