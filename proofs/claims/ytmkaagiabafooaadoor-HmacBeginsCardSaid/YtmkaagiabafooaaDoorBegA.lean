/-
  Toward the law HmacBegins: the state of memory between the operations of a region that draws its order (a row that grows, a row of the byte 1, a row for the mark). No condition.
-/
import Derived.Test.YtmkaagiabafooaaDoorAlivc
namespace Go.Proofs.YtmkaagiabafooaaDoor
open Go.RowKit
theorem wp_app {o : Oper} {a : Act} {w : World} {K : Act → World → Prop} {Q : Exit → Act → World → Prop} (s x : Operand)
    (ho : o.op = .call { callee := .builtin .append, args := #[s, x], argTypes := #[22, 22] }) (hty : o.type = 22) {v u v' : Value} {w' : World} (hs : a.eval s = v) (hx : a.eval x = u)
    (hr : (Builtin.append_ #[22, 22] 22 #[v, u]).run Tryd.prog w = .ok v' w') (h : K (a.put o.dst v') w') : o.wp Tryd.prog a w K Q := by
  unfold Oper.wp execOp
  simp only [ho, hty, resolve, invoke, builtin, Sem.run_bind, Sem.run_pure, Result.andThen_ok, List.map_toArray, List.map_cons, List.map_nil, hs, hx, hr]
  exact h
structure MSt (W0 w : World) (d : Bool) (o : Option (Value × List Int)) (f a : Option Nat) : Prop where
  bel : Below W0.heap.size W0 w
  own : ∀ v xs, o = some (v, xs) → Own w W0.heap.size v xs
  one : ∀ g, f = some g → w.heap[g]? = some (.cells #[.int .u8 1] 5 (0, 0))
  dif : d = true → ∀ v xs g, o = some (v, xs) → f = some g → v.ownBlock ≠ some g
  row : ∀ g, a = some g → W0.heap.size ≤ g ∧ Row27 w g (List.replicate 32 0)
theorem Own.lt {w : World} {base : Nat} {v : Value} {xs : List Int} (h : Own w base v xs) : ∀ k, v.ownBlock = some k → k < w.heap.size := by
  intro k hk
  obtain ⟨_, _, ⟨rfl, _⟩ | ⟨g', cap, cur, rfl, _, hg, _⟩⟩ := h
  · simp [Value.ownBlock] at hk
  · have : g' = k := by simpa [Value.ownBlock] using hk
    subst this
    exact blk_lt hg
theorem MSt.start {W0 : World} : MSt W0 W0 true none none none := ⟨Below.refl _ _, fun _ _ h => (by cases h), fun _ h => (by cases h), fun _ _ _ _ h => (by cases h), fun _ h => (by cases h)⟩
theorem own_empty' (w : World) (base : Nat) (h : base ≤ w.heap.size) : Own (w.alloc (.cells #[] 5)) base (.slice (some ⟨w.heap.size, 0, none⟩) 0 0) [] :=
  ⟨fun _ h => by simp at h, rfl, .inr ⟨w.heap.size, 0, #[], rfl, h, heap_alloc_new w _, Nat.le_refl _, by simp [maxLen], rfl, rfl⟩⟩
theorem alloc_below (w : World) (o : Obj) : Below w.heap.size w (w.alloc o) := (Below.refl _ _).alloc (Nat.le_refl _) _
theorem MSt.mk_one {W0 w : World} {d : Bool} {f a : Option Nat} (h : MSt W0 w d none f a) : MSt W0 (w.alloc (.cells #[] 5)) d (some (.slice (some ⟨w.heap.size, 0, none⟩) 0 0, [])) f a := by
  obtain ⟨h1, h2, h3, h4, h5⟩ := h
  refine ⟨h1.alloc h1.size _, fun v xs e => ?_, fun g e => ?_, fun hd v xs g e1 e2 => ?_, fun g e => ⟨(h5 g e).1, (h5 g e).2.below (alloc_below w _)⟩⟩
  · simp only [Option.some.injEq, Prod.mk.injEq] at e
    obtain ⟨rfl, rfl⟩ := e
    exact own_empty' w _ h1.size
  · rw [(alloc_below w _).block _ (blk_lt (h3 g e))]; exact h3 g e
  · simp only [Option.some.injEq, Prod.mk.injEq] at e1
    obtain ⟨rfl, rfl⟩ := e1
    have := blk_lt (h3 g e2)
    simp [Value.ownBlock]; omega
theorem MSt.mk_four {W0 w : World} {d : Bool} {o : Option (Value × List Int)} {a : Option Nat} (h : MSt W0 w d o none a) : MSt W0 (w.alloc (.cells #[.int .u8 1] 5)) d o (some w.heap.size) a := by
  obtain ⟨h1, h2, h3, h4, h5⟩ := h
  refine ⟨h1.alloc h1.size _, fun v xs e => (h2 v xs e).below (alloc_below w _), fun g e => ?_, fun hd v xs g e1 e2 => ?_, fun g e => ⟨(h5 g e).1, (h5 g e).2.below (alloc_below w _)⟩⟩
  · obtain rfl := Option.some.inj e
    exact heap_alloc_new w _
  · obtain rfl := Option.some.inj e2
    intro e3
    have := (h2 v xs e1).lt _ e3
    omega
theorem MSt.mk_seven {W0 w : World} {d : Bool} {o : Option (Value × List Int)} {f : Option Nat} (Z : Array Value) (hZ : Z = bcells (List.replicate 32 0)) (h : MSt W0 w d o f none) : MSt W0 (w.alloc (.cells Z 27)) d o f (some w.heap.size) := by
  subst hZ
  obtain ⟨h1, h2, h3, h4, h5⟩ := h
  refine ⟨h1.alloc h1.size _, fun v xs e => (h2 v xs e).below (alloc_below w _), fun g e => ?_, h4, fun g e => ?_⟩
  · rw [(alloc_below w _).block _ (blk_lt (h3 g e))]; exact h3 g e
  · obtain rfl := Option.some.inj e
    exact ⟨h1.size, heap_alloc_new w _⟩
theorem Row27.after {w w' : World} {base g : Nat} {v : Value} {xs ys : List Int} (h : Row27 w g ys) (ho : Own w base v xs) (hg : w.grownBy w' v.ownBlock) : Row27 w' g ys := by
  unfold Row27
  rw [hg.block _ (blk_lt h) (fun e => ho.not27 h g e.symm rfl)]
  exact h
theorem MSt.mk_three {W0 w : World} {q : Option Addr} {cap : Nat} {f a : Option Nat} {vn : Value} {name : List Int} (h : MSt W0 w true (some (.slice q 0 cap, [])) f a) (hn : Sees W0 vn name) (hl : name.length ≤ 300) :
    ∃ q' cap' w', (Builtin.append_ #[22, 22] 22 #[.slice q 0 cap, vn]).run Tryd.prog w = .ok (.slice q' name.length cap') w' ∧ MSt W0 w' false (some (.slice q' name.length cap', name)) f a := by
  obtain ⟨h1, h2, h3, h4, h5⟩ := h
  have ho := h2 _ _ rfl
  obtain ⟨q', cap', w', r, o, g, b⟩ := app ho (hn.below h1) (by simp; omega) h1.size
  simp only [List.length_nil, Nat.zero_add, List.nil_append] at r o
  refine ⟨q', cap', w', r, h1.trans b, fun v xs e => ?_, fun k e => ?_, fun hd => (by cases hd), fun k e => ⟨(h5 k e).1, (h5 k e).2.after ho g⟩⟩
  · simp only [Option.some.injEq, Prod.mk.injEq] at e
    obtain ⟨rfl, rfl⟩ := e
    exact o
  · rw [g.block _ (blk_lt (h3 k e)) (fun e2 => h4 rfl _ _ k rfl e e2.symm)]; exact h3 k e
theorem MSt.mk_five {W0 w : World} {d : Bool} {q : Option Addr} {cap k : Nat} {a : Option Nat} {name : List Int} (h : MSt W0 w d (some (.slice q name.length cap, name)) (some k) a) (hl : name.length ≤ 300) :
    ∃ q' cap' w', (Builtin.append_ #[22, 22] 22 #[.slice q name.length cap, .slice (some ⟨k, 0, none⟩) 1 1]).run Tryd.prog w = .ok (.slice q' (name.length + 1) cap') w' ∧ MSt W0 w' false (some (.slice q' (name.length + 1) cap', name ++ [1])) none a := by
  obtain ⟨h1, h2, h3, h4, h5⟩ := h
  have ho := h2 _ _ rfl
  have hs : Sees w (.slice (some ⟨k, 0, none⟩) 1 1) [1] := by
    refine ⟨byt_one 1 (by omega), .inr (.inr ⟨_, _, _, rfl, by simp, by simp, by decide, fun i hi => ?_⟩)⟩
    obtain rfl : i = 0 := by simpa using hi
    rw [cell_of_row _ _ _ _ _ _ (h3 _ rfl)]
    rfl
  obtain ⟨q', cap', w', r, o, g, b⟩ := app ho hs (by simp; omega) h1.size
  simp only [List.length_singleton] at r o
  refine ⟨q', cap', w', r, h1.trans b, fun v xs e => ?_, fun k e => (by cases e), fun hd => (by cases hd), fun k e => ⟨(h5 k e).1, (h5 k e).2.after ho g⟩⟩
  simp only [Option.some.injEq, Prod.mk.injEq] at e
  obtain ⟨rfl, rfl⟩ := e
  exact o
theorem MSt.below {W0 w w' : World} {d : Bool} {o : Option (Value × List Int)} {f a : Option Nat} (h : MSt W0 w d o f a) (hb : Below w.heap.size w w') : MSt W0 w' false none none a :=
  ⟨h.bel.trans (hb.mono h.bel.size), fun _ _ h => (by cases h), fun _ h => (by cases h), fun h => (by cases h), fun g e => ⟨(h.row g e).1, (h.row g e).2.below hb⟩⟩
theorem MSt.sees {W0 w : World} {d : Bool} {v : Value} {xs : List Int} {f a : Option Nat} (h : MSt W0 w d (some (v, xs)) f a) : Sees w v xs := (h.own _ _ rfl).sees
end Go.Proofs.YtmkaagiabafooaaDoor
