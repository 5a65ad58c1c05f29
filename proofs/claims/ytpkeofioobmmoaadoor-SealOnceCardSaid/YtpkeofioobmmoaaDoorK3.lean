/-
  Slices of 64-digit numbers that came in; a slice of sealers of the call's own; counters and sealers side by side. No condition.
-/
import Derived.Test.YtpkeofioobmmoaaDoorK2
import Derived.Test.YtpkeofioobmmoaaDoorShLaid
import Derived.Test.YtpkeofioobmmoaaDoorAeX
namespace Go.Proofs.YtpkeofioobmmoaaDoor
open Go.ChangeShapes Go.WideShapes Go.ChangeAt Go.RowKit Go.Proofs.YtpkeofioobmmoaaDoor.ae
/-- The slice v reads, in w, as the numbers xs. -/
def SeesU (w : World) (v : Value) (xs : List Nat) : Prop :=
  (∃ x cap, v = .slice x 0 cap ∧ xs = []) ∨ ∃ b o cap, v = .slice (some ⟨b, o, none⟩) xs.length cap ∧ xs ≠ [] ∧ ∀ i, i < xs.length → w.cell? ⟨b, o + i, none⟩ = some (.int .u64 (at_ xs i : Nat))
theorem SeesU.form {w : World} {v : Value} {xs : List Nat} (h : SeesU w v xs) : ∃ x cap, v = .slice x xs.length cap := by
  rcases h with ⟨x, cap, rfl, rfl⟩ | ⟨b, o, cap, rfl, _⟩
  · exact ⟨_, _, rfl⟩
  · exact ⟨_, _, rfl⟩
theorem SeesU.at {w : World} {x : Option Addr} {n cap : Nat} {xs : List Nat} (h : SeesU w (.slice x n cap) xs) (h0 : 0 < xs.length) : ∃ b o, x = some ⟨b, o, none⟩ ∧ ∀ i, i < xs.length → w.cell? ⟨b, o + i, none⟩ = some (.int .u64 (at_ xs i : Nat)) := by
  rcases h with ⟨x', cap', _, rfl⟩ | ⟨b, o, cap', hv, _, h5⟩
  · simp at h0
  · simp only [Value.slice.injEq] at hv
    exact ⟨b, o, hv.1, h5⟩
theorem cells22 : Tryd.prog.cellsOf 22 = 1 := by kernel_rfl
set_option maxRecDepth 100000 in
theorem open_u64s {H : Type} {enc : TypeId × Value → H} {w : World} {r : Reach} {b0 base : Nat} {v : Value} {d : DataW H} {ps : List MemPlace}
    (hval : Value.okWide Tryd.prog w r b0 46 v) (hd : DataW.Trod enc Tryd.prog w base (fun _ => true) true 46 v d ps) : ∃ xs, SeesU w v xs ∧ ∀ x ∈ xs, x ≤ 18446744073709551615 := by
  obtain ⟨fuel, hf⟩ := hd
  have hv : ∀ c : Value, v.cells.toList = [c] → (∃ x l k, c = .slice x l k) → v = c := by
    intro c hc ⟨x, l, k, hx⟩
    obtain ⟨x', l', k', rfl⟩ := okWide_slice Tryd.underlying46 hval
    simpa [Value.cells] using hc
  rcases open_ints Tryd.underlying46 Tryd.underlying22 cells22 hf with ⟨hc, _⟩ | ⟨a, len, cap, zs, hc, _, hl, hm, hlen, _, hcell, hwf⟩
  · exact ⟨[], by rw [hv _ hc ⟨_, _, _, rfl⟩]; exact .inl ⟨_, _, rfl, rfl⟩, fun _ h => by simp at h⟩
  · have hvv := hv _ hc ⟨_, _, _, rfl⟩
    subst hvv
    rw [if_pos rfl] at hlen
    have hb : ∀ x ∈ zs.take len, 0 ≤ x ∧ x ≤ 18446744073709551615 := fun x hx => bounds_u64 (hwf x (List.mem_of_mem_take hx))
    have hlz : (zs.take len).length = len := by rw [List.length_take]; omega
    refine ⟨(zs.take len).map Int.toNat, ?_, fun x hx => ?_⟩
    · by_cases h0 : len = 0
      · subst h0
        exact .inl ⟨_, _, rfl, by simp⟩
      · obtain ⟨b, o, rfl, h2⟩ := ints_at hcell (by omega)
        have hlm : ((zs.take len).map Int.toNat).length = len := by rw [List.length_map, hlz]
        refine .inr ⟨b, o, cap, by rw [hlm], fun e => h0 (by rw [← hlm, e]; rfl), fun i hi => ?_⟩
        rw [hlm] at hi
        rw [h2 i (by omega)]
        have hi2 : i < zs.length := by omega
        have := hb zs[i] (by rw [List.mem_iff_getElem]; exact ⟨i, by rw [hlz]; exact hi, by simp⟩)
        simp [at_, List.getD, List.getElem?_take_of_lt hi, hi2]
        omega
    · obtain ⟨y, hy, rfl⟩ := List.mem_map.1 hx
      have := hb y hy
      omega
/-- A slice of pointers of the call's own. -/
def OwnV (w : World) (base : Nat) (v : Value) (vs : List Value) : Prop := w.ownsRow base 55 1 v vs.length vs
theorem ownv_nil (w : World) (base : Nat) : OwnV w base (.slice none 0 0) [] := World.ownsRow_nil w base 55 1
theorem OwnV.below {w w' : World} {base : Nat} {v : Value} {vs : List Value} (h : OwnV w base v vs) (hb : Below w.heap.size w w') : OwnV w' base v vs :=
  World.ownsRow.kept (row := none) h ⟨hb.os, hb.tape, hb.output, hb.size, fun j hj _ => hb.block j hj⟩ (by cases v.ownBlock <;> simp)
theorem OwnV.row {w : World} {base : Nat} {v : Value} {vs : List Value} (h : OwnV w base v vs) (h0 : 0 < vs.length) :
    ∃ g cap cur, v = .slice (some ⟨g, 0, none⟩) vs.length cap ∧ base ≤ g ∧ w.heap[g]? = some (.cells cur 55 (0, 0)) ∧ vs.length ≤ cap ∧ ∀ i, i < vs.length → cur[i]? = vs[i]? := by
  obtain ⟨hl, ⟨rfl, e0⟩ | ⟨g, cap, cur, rfl, hbg, hg, hn, hm, hs, ht⟩⟩ := h
  · omega
  · refine ⟨g, cap, cur, rfl, hbg, hg, hn, fun i hi => ?_⟩
    rw [← ht, List.getElem?_take_of_lt (by omega)]
    simp
theorem info55 : (Tryd.prog.info? 55).map (fun i => (i.zero, i.size, i.bytes)) = some (some (.pointer none), 1, 8) := by kernel_rfl
/-- Two pointers more. -/
theorem OwnV.push2 {w : World} {base : Nat} {v : Value} {vs : List Value} (h : OwnV w base v vs) (hn : vs.length ≤ 1000) (hbase : base ≤ w.heap.size) (p q : Option Addr) :
    ∃ x cap w', (Builtin.append_ #[64, 64] 64 #[v, .slice (some ⟨w.heap.size, 0, none⟩) 2 2]).run Tryd.prog (w.alloc (.cells #[.pointer p, .pointer q] 55)) = .ok (.slice x (vs.length + 2) cap) w' ∧
      OwnV w' base (.slice x (vs.length + 2) cap) (vs ++ [.pointer p, .pointer q]) ∧ Below base w w' ∧ (w.alloc (.cells #[.pointer p, .pointer q] 55)).grownBy w' v.ownBlock := by
  obtain ⟨i, hi, hz0, hz1, hz2⟩ := info_parts info55
  have ho : OwnV (w.alloc (.cells #[.pointer p, .pointer q] 55)) base v vs := h.below ((Below.refl _ _).alloc (Nat.le_refl _) _)
  obtain ⟨v', w', hr, hown, hg, hnil⟩ := run_append_own (P := Tryd.prog) (w.alloc (.cells #[.pointer p, .pointer q] 55)) base 64 64 55 i _ 1 8 Tryd.underlying64 hi hz0 hz1 hz2 rfl (by decide) v vs.length _ ho ⟨w.heap.size, 0, none⟩ 2 2 [.pointer p, .pointer q] rfl
    (fun j u hj => by
      rw [ae.addr_add, Nat.zero_add, cell_of_row _ _ _ _ _ _ (heap_alloc_new w _)]
      simpa using hj) (by simp [Value.oneCell']) (by unfold maxLen; omega) (by omega) (by simp; omega)
  have hbel : Below base w w' := ((Below.refl base w).alloc hbase _).grown hg (by simp; omega) (fun j e => (World.ownsRow.lt ho j e).1)
  have hown' : OwnV w' base v' (vs ++ [.pointer p, .pointer q]) := by
    unfold OwnV
    rw [List.length_append]
    exact hown
  rcases hown.2 with ⟨rfl, h0⟩ | ⟨g, cap, cur, rfl, _⟩
  · omega
  · exact ⟨_, _, w', hr, hown', hbel, hg⟩
/-- Counters and their sealers, two each. -/
def ST (w : World) (E C G S : Nat → Nat) (k : Nat) : Prop :=
  (∀ t, t < k → CT w (G t) (E t) (C t)) ∧ (∀ j, j < 2 * k → SLat w (S j) xk1 (7 + j % 2) (some ⟨G (j / 2), 0, none⟩))
theorem ST.below {w w' : World} {E C G S : Nat → Nat} {k : Nat} (h : ST w E C G S k) (hb : Below w.heap.size w w') : ST w' E C G S k :=
  ⟨fun t ht => (h.1 t ht).below hb, fun j hj => (h.2 j hj).below hb⟩
/-- The sealers' pointers. -/
def pv (S : Nat → Nat) (k : Nat) : List Value := (List.range (2 * k)).map fun j => Value.pointer (some ⟨S j, 0, none⟩)
theorem pv_len (S : Nat → Nat) (k : Nat) : (pv S k).length = 2 * k := by simp [pv]
theorem pv_at (S : Nat → Nat) (k j : Nat) (h : j < 2 * k) : (pv S k)[j]? = some (.pointer (some ⟨S j, 0, none⟩)) := by simp [pv, h]
def upd (f : Nat → Nat) (i x : Nat) : Nat → Nat := fun j => if j = i then x else f j
theorem upd_eq (f : Nat → Nat) (i x : Nat) : upd f i x i = x := by simp [upd]
theorem upd_ne (f : Nat → Nat) {i j : Nat} (x : Nat) (h : j ≠ i) : upd f i x j = f j := by simp [upd, h]
theorem pv_more (S : Nat → Nat) (k a b : Nat) : pv (upd (upd S (2 * k) a) (2 * k + 1) b) (k + 1) = pv S k ++ [.pointer (some ⟨a, 0, none⟩), .pointer (some ⟨b, 0, none⟩)] := by
  unfold pv
  rw [show 2 * (k + 1) = 2 * k + 1 + 1 by omega, List.range_succ, List.range_succ, List.map_append, List.map_append, List.append_assoc]
  congr 1
  · apply List.map_congr_left
    intro j hj
    have := List.mem_range.1 hj
    rw [upd_ne _ _ (by omega), upd_ne _ _ (by omega)]
  · simp only [List.map_cons, List.map_nil, List.cons_append, List.nil_append, upd_eq]
    rw [upd_ne _ _ (by omega), upd_eq]
theorem ST.more {w : World} {E C G S : Nat → Nat} {k g a b : Nat} (h : ST w E C G S k) (hc : CT w g (E k) (C k)) (ha : SLat w a xk1 7 (some ⟨g, 0, none⟩)) (hb : SLat w b xk1 8 (some ⟨g, 0, none⟩)) :
    ST w E C (upd G k g) (upd (upd S (2 * k) a) (2 * k + 1) b) (k + 1) := by
  refine ⟨fun t ht => ?_, fun j hj => ?_⟩
  · by_cases e : t = k
    · subst e; rw [upd_eq]; exact hc
    · rw [upd_ne _ _ e]; exact h.1 t (by omega)
  · by_cases e : j = 2 * k + 1
    · subst e
      rw [upd_eq, show (2 * k + 1) % 2 = 1 by omega, show (2 * k + 1) / 2 = k by omega, upd_eq]
      exact hb
    · by_cases e2 : j = 2 * k
      · subst e2
        rw [upd_ne _ _ e, upd_eq, show (2 * k) % 2 = 0 by omega, show (2 * k) / 2 = k by omega, upd_eq]
        exact ha
      · rw [upd_ne _ _ e, upd_ne _ _ e2, upd_ne _ _ (by omega)]
        exact h.2 j (by omega)
/-- One counter told one more. -/
theorem ST.next {w w' : World} {E C G S : Nat → Nat} {k t : Nat} (h : ST w E C G S k) (ht : t < k) (hd : ∀ a b, a < k → b < k → a ≠ b → E a ≠ E b) (hc : CT w' (G t) (E t) (C t + 1)) (he : Elsewhere (G t) w w') : ST w' E (upd C t (C t + 1)) G S k := by
  refine ⟨fun u hu => ?_, fun j hj => ?_⟩
  · by_cases e : u = t
    · subst e; rw [upd_eq]; exact hc
    · rw [upd_ne _ _ e]
      have hg : G u ≠ G t := fun e2 => by
        have h1 := h.1 u hu
        have h2 := h.1 t ht
        rw [e2] at h1
        unfold CT at h1 h2
        have h3 := h1.symm.trans h2
        simp only [Option.some.injEq, Obj.cells.injEq] at h3
        have h4 := h3.1
        unfold CTcells at h4
        simp at h4
        exact hd u t hu ht e (by have := h4.1; omega)
      exact (he.1 _ (blk_lt (h.1 u hu)) hg).trans (h.1 u hu)
  · have h2 := h.2 j hj
    exact (he.1 _ (blk_lt h2) (SL_ne h2 xk1_bts.1 (h.1 t ht))).trans h2
theorem grown_block {w w' : World} {row : Option Nat} {g : Nat} {c : Array Value} {t : TypeId} (hg : w.grownBy w' row) (hrow : ∀ b, row = some b → ∃ cur, w.heap[b]? = some (.cells cur 55 (0, 0))) (h : w.heap[g]? = some (.cells c t (0, 0))) (ht : t ≠ 55) : w'.heap[g]? = some (.cells c t (0, 0)) := by
  have hne : row ≠ some g := fun e => by
    obtain ⟨cur, h2⟩ := hrow g e
    rw [h] at h2
    simp only [Option.some.injEq, Obj.cells.injEq] at h2
    exact ht h2.2.1
  rw [hg.block g (blk_lt h) (fun e => hne e.symm)]
  exact h
theorem ST.grown {w w' : World} {E C G S : Nat → Nat} {k : Nat} {row : Option Nat} (h : ST w E C G S k) (hg : w.grownBy w' row) (hrow : ∀ b, row = some b → ∃ cur, w.heap[b]? = some (.cells cur 55 (0, 0))) : ST w' E C G S k :=
  ⟨fun t ht => grown_block hg hrow (h.1 t ht) (by decide), fun j hj => grown_block hg hrow (h.2 j hj) (by decide)⟩
theorem OwnV.rowIs {w : World} {base : Nat} {v : Value} {vs : List Value} (h : OwnV w base v vs) : ∀ b, v.ownBlock = some b → ∃ cur, w.heap[b]? = some (.cells cur 55 (0, 0)) := fun b hb => by
  obtain ⟨hl, ⟨rfl, e0⟩ | ⟨g, cap, cur, rfl, hbg, hg, hn, hm, hs, ht⟩⟩ := h
  · simp [Value.ownBlock] at hb
  · simp [Value.ownBlock] at hb
    subst hb
    exact ⟨cur, hg⟩
end Go.Proofs.YtpkeofioobmmoaaDoor
