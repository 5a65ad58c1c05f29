/-
  Words for memory: what may have turned ('Mods'), and a map's block as a function of its keys ('MapV'), with what a lookup, a store, and an entry and its store make of it; keys that are arrays of 32 bytes. Condition: none.
-/
import Derived.Test.YtjdamlmoegippaaDoorHlSums
import Derived.ProofKit
import Derived.OpenShut
import Derived.Below
import Derived.ArgAppend
import Derived.Laws.OwnMore
import Derived.Laws.Rows
import Derived.Laws.IdiomCopy
import Derived.Maps.Own
import Derived.Maps.OwnOps
import Derived.Maps.OwnSet
import Derived.Maps.Views
import Derived.Maps.Ext
import Derived.WideKeyEntry
import Derived.WideKeyArr
namespace Go.Proofs.YtjdamlmoegippaaDoor.hl
open Go.RowKit
/-- Nothing that was there has turned, but blocks of S. -/
structure Mods (S : Nat → Prop) (w w' : World) : Prop where
  os : w'.os = w.os
  tape : w'.tape = w.tape
  output : w'.output = w.output
  size : w.heap.size ≤ w'.heap.size
  block : ∀ k, k < w.heap.size → ¬ S k → w'.heap[k]? = w.heap[k]?

section
variable {S T : Nat → Prop} {w w1 w2 w' : World}
theorem Mods.refl (S : Nat → Prop) (w : World) : Mods S w w := ⟨rfl, rfl, rfl, Nat.le_refl _, fun _ _ _ => rfl⟩
theorem Mods.trans (h : Mods S w w1) (k : Mods T w1 w2) (hT : ∀ b, T b → S b ∨ w.heap.size ≤ b) : Mods S w w2 :=
  ⟨k.os.trans h.os, k.tape.trans h.tape, k.output.trans h.output, Nat.le_trans h.size k.size, fun b hb hs =>
    (k.block b (Nat.lt_of_lt_of_le hb h.size) (fun ht => by rcases hT b ht with h1 | h1; exact hs h1; omega)).trans (h.block b hb hs)⟩
theorem Mods.mono (h : Mods S w w') (hS : ∀ b, S b → T b ∨ w.heap.size ≤ b) : Mods T w w' :=
  ⟨h.os, h.tape, h.output, h.size, fun b hb hs => h.block b hb (fun ht => by rcases hS b ht with h1 | h1; exact hs h1; omega)⟩
theorem Mods.below {B : Nat} {a : World} (h : Below B a w) (k : Mods S w w') (hB : B ≤ w.heap.size) (hS : ∀ b, S b → B ≤ b) : Below B a w' :=
  h.trans ⟨k.os, k.tape, k.output, k.size, fun b hb => k.block b (by omega) (fun e => by have := hS b e; omega)⟩
theorem Mods.of_below (h : Below w.heap.size w w') : Mods S w w' := ⟨h.os, h.tape, h.output, h.size, fun b hb _ => h.block b hb⟩
theorem Mods.of_grown {r : Option Nat} (h : w.grownBy w' r) : Mods (fun k => r = some k) w w' := ⟨h.os, h.tape, h.output, h.size, fun b hb hs => h.block b hb (fun e => hs e.symm)⟩
theorem Mods.alloc (w : World) (o : Obj) : Mods S w (w.alloc o) := Mods.of_below ((Below.refl _ _).alloc (Nat.le_refl _) _)
theorem Mods.set (w : World) (p : Addr) (u : Value) (h : S p.block) : Mods S w (w.setCell p u) :=
  ⟨rfl, rfl, rfl, by simp [World.setCell], fun k _ hk => Below.heap_setCell _ _ _ _ (fun e => by subst e; exact hk h)⟩
theorem Mods.sets (g : Nat) (h : S g) : ∀ (vs : List Value) (o : Nat) (w : World), Mods S w (w.setCells g o vs)
  | [], _, w => Mods.refl S w
  | v :: r, o, w => (Mods.set w ⟨g, o, none⟩ v h).trans (Mods.sets g h r (o + 1) _) (fun _ hb => .inl hb)
end

/-- How an element reads: as itself. -/
def RV (v : Value) : Option (DataW Value × List MemPlace) := some (.held v, [])
/-- What a map's entry reads as. -/
def ent (o : Option Value) (z : DataW Value) : DataW Value := match o with | some v => .held v | none => z
/-- Block b is a map of s entries, whose entry at the key l is f l. -/
def MapV (P : Program) (k : TypeId) (w : World) (b s : Nat) (f : Lit → Option Value) : Prop :=
  ∃ D : DataW Value, w.ownsMap P k RV b s D ∧ Maps.size D = s ∧ ∀ l z, D.atKey l z = ent (f l) z
/-- A function that is turned at one key. -/
def updL (f : Lit → Option Value) (k : Lit) (o : Option Value) : Lit → Option Value := fun l => if l.sameKey k then o else f l
section
variable {P : Program} {k e t : TypeId} {w w' : World} {b s : Nat} {f : Lit → Option Value}
theorem ownsMap_tight {H : Type} {R : Value → Option (DataW H × List MemPlace)} {n : Nat} {D : DataW H} (h : w.ownsMap P k R b n D) : w.ownsMap P k R b (Maps.size D) D := by
  obtain ⟨es, clock, hb, F, hs, hD⟩ := h
  refine ⟨es, clock, hb, F, ?_, hD⟩
  rw [hD]
  show es.size ≤ List.length _
  rw [length_sorted]
  simp
theorem MapV.lt (h : MapV P k w b s f) : b < w.heap.size := by obtain ⟨D, h1, _⟩ := h; exact h1.lt
theorem MapV.made (w : World) (P : Program) (k : TypeId) : MapV P k (w.alloc (.map #[] 0)) w.heap.size 0 (fun _ => none) :=
  ⟨.map [], World.ownsMap_made w P k RV, rfl, fun _ _ => rfl⟩
theorem MapV.same (h : MapV P k w b s f) (hb : w'.heap[b]? = w.heap[b]?) : MapV P k w' b s f := by
  obtain ⟨D, ⟨es, clock, h1, r⟩, h2⟩ := h
  exact ⟨D, ⟨es, clock, hb.trans h1, r⟩, h2⟩
theorem MapV.mods {S : Nat → Prop} (h : MapV P k w b s f) (hm : Mods S w w') (hS : ¬ S b) : MapV P k w' b s f := h.same (hm.block b h.lt hS)
theorem MapV.isMap (h : MapV P k w b s f) : ∃ es c, w.heap[b]? = some (.map es c) := by obtain ⟨D, ⟨es, clock, h1, _⟩, _⟩ := h; exact ⟨es, clock, h1⟩
theorem MapV.has {D : DataW Value} (h : ∀ l z, D.atKey l z = ent (f l) z) (l : Lit) : Maps.has D l = (f l).isSome := by
  cases hf : f l with
  | none => exact Maps.has_false_of_atKey (fun z => by rw [h, hf]; rfl)
  | some v => exact Maps.has_true_of_atKey (y := .held v) (fun z => by rw [h, hf]; rfl)
theorem MapV.look (h : MapV P k w b s f) (K : Maps.Keyed P k) (ht : P.underlying t = some (.map k e)) {z : Value} (hz : (zeroValue e).run P w = .ok z w) {key : Value} {kl : Lit} (hkey : keyOf P k key = some kl) :
    (Instr.lookup t (.map (some b)) key false).run P w = .ok ((f kl).getD z) w := by
  obtain ⟨D, h1, _, h3⟩ := h
  obtain ⟨v, ps, hr, hv⟩ := h1.lookup K ht hz (zd := .held z) (zp := []) rfl hkey
  rw [hr, h3] at *
  simp only [RV, Option.some.injEq, Prod.mk.injEq] at hv
  cases hf : f kl with
  | none => rw [hf] at hv; simp only [ent, DataW.held.injEq] at hv; rw [hv.1]; rfl
  | some x => rw [hf] at hv; simp only [ent, DataW.held.injEq] at hv; rw [hv.1]; rfl
theorem MapV.look_ok (h : MapV P k w b s f) (K : Maps.Keyed P k) (ht : P.underlying t = some (.map k e)) {z : Value} (hz : (zeroValue e).run P w = .ok z w) {key : Value} {kl : Lit} (hkey : keyOf P k key = some kl) :
    (Instr.lookup t (.map (some b)) key true).run P w = .ok (.tuple #[(f kl).getD z, .bool (f kl).isSome]) w := by
  obtain ⟨D, h1, _, h3⟩ := h
  obtain ⟨v, ps, hr, hv⟩ := h1.look_ok K ht hz (zd := .held z) (zp := []) rfl hkey
  rw [hr, MapV.has h3]
  rw [h3] at hv
  simp only [RV, Option.some.injEq, Prod.mk.injEq] at hv
  cases hf : f kl with
  | none => rw [hf] at hv; simp only [ent, DataW.held.injEq] at hv; rw [hv.1]; rfl
  | some x => rw [hf] at hv; simp only [ent, DataW.held.injEq] at hv; rw [hv.1]; rfl
theorem MapV.len (h : MapV P k w b s f) (ht : P.underlying t = some (.map k e)) (ty : TypeId) : (Builtin.len_ #[t] ty #[.map (some b)]).run P w = .ok (.int .i64 s) w := by
  obtain ⟨D, h1, h2, _⟩ := h
  rw [h1.len ht ty, h2]
theorem mods_turned (h : w.mapTurned w' b) : Mods (fun k => k = b) w w' := by
  have := h.grown
  exact ⟨this.os, this.tape, this.output, this.size, fun j hj hs => this.block j hj (fun e => hs (Option.some.inj e))⟩
theorem turned_size (h : w.mapTurned w' b) : w'.heap.size = w.heap.size := by
  obtain ⟨es, clock, es', clock', hb, rfl⟩ := h
  simp [ChangeMaps.setBlock]
theorem MapV.store (h : MapV P k w b s f) (K : Maps.Keyed P k) (ht : P.underlying t = some (.map k e)) (hn : s < maxLen) {key v : Value} {kl : Lit} (hkey : keyOf P k key = some kl) :
    ∃ w', (Instr.mapUpdate t (.map (some b)) key v).run P w = .ok () w' ∧ MapV P k w' b (if (f kl).isSome then s else s + 1) (updL f kl (some v)) ∧ Mods (fun j => j = b) w w' ∧ w'.heap.size = w.heap.size := by
  obtain ⟨D, h1, h2, h3⟩ := h
  obtain ⟨w', hr, o1, o2⟩ := h1.store K ht hn (val := v) (d := .held v) (ps := []) hkey rfl
  have hs : Maps.size (D.put kl (.held v)) = if (f kl).isSome then s else s + 1 := by rw [Maps.size_put (h1.tidy K), MapV.has h3, h2]
  refine ⟨w', hr, ⟨D.put kl (.held v), ?_, hs, fun l z => ?_⟩, mods_turned o2, turned_size o2⟩
  · rw [← hs]; exact ownsMap_tight o1
  · unfold updL
    by_cases hl : l = kl
    · subst hl; rw [if_pos (WideAt.sameKey_self (K.key hkey)), Maps.atKey_put_same h1.isMap (K.key hkey)]; rfl
    · rw [if_neg (by rw [Maps.sameKey_ne hl]; simp), Maps.atKey_put_other hl, h3]
theorem MapV.drop (h : MapV P k w b s f) (K : Maps.Keyed P k) (ht : P.underlying t = some (.map k e)) {key : Value} {kl : Lit} (hkey : keyOf P k key = some kl) :
    ∃ w', (∀ ty, (Builtin.delete_ #[t, k] ty #[.map (some b), key]).run P w = .ok (.tuple #[]) w') ∧ MapV P k w' b (if (f kl).isSome then s - 1 else s) (updL f kl none) ∧ Mods (fun j => j = b) w w' ∧ w'.heap.size = w.heap.size := by
  obtain ⟨D, h1, h2, h3⟩ := h
  obtain ⟨w', hr, o1, o2⟩ := h1.drop K ht hkey 0
  have hs : Maps.size (D.del kl) = if (f kl).isSome then s - 1 else s := by
    have := Maps.size_del (k := kl) (h1.tidy K)
    rw [MapV.has h3, h2] at this
    split <;> simp_all <;> omega
  refine ⟨w', fun ty => ?_, ⟨D.del kl, ?_, hs, fun l z => ?_⟩, mods_turned o2, turned_size o2⟩
  · exact hr
  · rw [← hs]; exact ownsMap_tight o1
  · unfold updL
    by_cases hl : l = kl
    · subst hl; rw [if_pos (WideAt.sameKey_self (K.key hkey)), Maps.atKey_del_same]; rfl
    · rw [if_neg (by rw [Maps.sameKey_ne hl]; simp), Maps.atKey_del_other hl, h3]
end
theorem pw_eq : ∀ {l : List MapEntry}, l.Pairwise (fun x y => x.key ≠ y.key) → ∀ {x y : MapEntry}, x ∈ l → y ∈ l → x.key = y.key → x = y
  | [], _, _, _, h, _, _ => by cases h
  | a :: r, hp, x, y, hx, hy, e => by
    rw [List.pairwise_cons] at hp
    rcases List.mem_cons.1 hx with rfl | hx1
    · rcases List.mem_cons.1 hy with rfl | hy1
      · rfl
      · exact (hp.1 y hy1 e).elim
    · rcases List.mem_cons.1 hy with rfl | hy1
      · exact (hp.1 x hx1 e.symm).elim
      · exact pw_eq hp.2 hx1 hy1 e
section
variable {P : Program} {k e t : TypeId} {w w' : World} {b s : Nat} {f : Lit → Option Value}
open Go.WideElems Go.ChangeMaps
/-- An entry, and its store later on. -/
theorem MapV.entry (h : MapV P k w b s f) (KL : WideMaps.KeyLaw P k) (ht : P.underlying t = some (.map k e)) (hn : s < maxLen) {z : Value} (hz : ∀ u : World, (zeroValue e).run P u = .ok z u) {key : Value} {kl : Lit} (hkey : keyOf P k key = some kl) :
    ∃ (st : Nat) (w1 : World), (Instr.mapEntry t (.map (some b)) key).run P w = .ok (.tuple #[(f kl).getD z, goInt st]) w1 ∧ Mods (fun j => j = b) w w1 ∧ w1.heap.size = w.heap.size ∧ (∃ es c, w1.heap[b]? = some (.map es c)) ∧
      ∀ (w2 : World) (val : Value), w2.heap[b]? = w1.heap[b]? → ∃ w3, (Instr.entryStore t (.map (some b)) (goInt st) val).run P w2 = .ok () w3 ∧ MapV P k w3 b (if (f kl).isSome then s else s + 1) (updL f kl (some val)) ∧ Mods (fun j => j = b) w2 w3 ∧ w3.heap.size = w2.heap.size := by
  have K : Maps.Keyed P k := Maps.Keyed.of_law KL
  obtain ⟨es, clock, hb⟩ := h.isMap
  have F : Fit P k RV es clock := by
    obtain ⟨D, ⟨es', clock', h1, F, _⟩, _⟩ := h
    rw [hb] at h1
    simp only [Option.some.injEq, Obj.map.injEq] at h1
    obtain ⟨rfl, rfl⟩ := h1
    exact F
  obtain ⟨v0, st, es1, clock1, hr, hv, hst⟩ := entry_then_store KL ht hz hb F hkey
  have hlk := h.look K ht (hz w) hkey
  have hbl : b < w.heap.size := h.lt
  have mset : ∀ (W : World) (o : Obj), b < W.heap.size → Mods (fun j => j = b) W (setBlock W b o) ∧ (setBlock W b o).heap.size = W.heap.size ∧ (setBlock W b o).heap[b]? = some o := fun W o hb => by
    refine ⟨⟨rfl, rfl, rfl, by simp [setBlock], fun j _ hj => ?_⟩, by simp [setBlock], ?_⟩
    · have hj' : j ≠ b := hj
      show (W.heap.setIfInBounds b o)[j]? = W.heap[j]?
      rw [Array.getElem?_setIfInBounds_ne (fun e => hj' e.symm)]
    · show (W.heap.setIfInBounds b o)[b]? = some o
      rw [Array.getElem?_setIfInBounds_self_of_lt hb]
  have hv0 : v0 = (f kl).getD z := by
    have hl2 : (Instr.lookup t (.map (some b)) key false).run P w = .ok v0 w := by
      rcases K.find w hkey es.toList F.keys with ⟨f1, f2⟩ | ⟨j, e0, f1, f2, f3⟩
      · rcases hv with ⟨e1, m1, k1, rfl⟩ | ⟨_, rfl⟩
        · exact (f2 e1 m1 k1).elim
        · simp [Instr.lookup, run_underlying ht, MapKept.run_getObj_map hb, K.check w _ hkey, f1, hz, Result.andThen]
      · rcases hv with ⟨e1, m1, k1, rfl⟩ | ⟨n1, _⟩
        · obtain ⟨j1, h1⟩ := List.getElem?_of_mem m1
          have ke : e1 = e0 := pw_eq (List.pairwise_map.1 F.stamped.2.2) m1 (List.mem_of_getElem? f2) (by rw [k1, f3])
          subst ke
          simp [Instr.lookup, run_underlying ht, MapKept.run_getObj_map hb, K.check w _ hkey, f1, Result.andThen]
        · exact (n1 e0 (List.mem_of_getElem? f2) f3).elim
    rw [hlk] at hl2
    simp only [Result.ok.injEq, and_true] at hl2
    exact hl2.symm
  obtain ⟨m1, m2, m3⟩ := mset w (.map es1 clock1) hbl
  refine ⟨st, _, by rw [← hv0]; exact hr, m1, m2, ⟨_, _, m3⟩, fun w2 val hw2 => ?_⟩
  rw [m3] at hw2
  obtain ⟨es', clock', e1, e2⟩ := hst w2 val hw2
  obtain ⟨w', u1, u2, u3, u4⟩ := h.store K ht hn hkey (v := val)
  rw [e2] at u1
  simp only [Result.ok.injEq, true_and] at u1
  have hb2 : b < w2.heap.size := by
    rcases Nat.lt_or_ge b w2.heap.size with h | h
    · exact h
    · rw [Array.getElem?_eq_none h] at hw2; cases hw2
  obtain ⟨n1, n2, n3⟩ := mset w2 (.map es' clock') hb2
  refine ⟨_, e1, u2.same ?_, n1, n2⟩
  rw [n3, ← u1, (mset w _ hbl).2.2]
end
theorem mapM_some {α β : Type} (f : α → Option β) (g : α → β) : ∀ l : List α, (∀ x ∈ l, f x = some (g x)) → l.mapM f = some (l.map g)
  | [], _ => rfl
  | a :: r, h => by
    rw [List.mapM_cons, h a (List.mem_cons_self ..), mapM_some f g r (fun x hx => h x (List.mem_cons_of_mem _ hx))]
    rfl
/-- The keys of the log's map: sums. -/
theorem law31 : WideMaps.KeyLaw Tryd.prog 24 := WideMaps.ArrKey.law (e := 5) (n := 32) ⟨Tryd.underlying24, by kernel_rfl, by kernel_rfl, by kernel_rfl⟩
theorem keyed31 : Maps.Keyed Tryd.prog 24 := Maps.Keyed.of_law law31
theorem wf8 (n : Int) (h : 0 ≤ n ∧ n ≤ 255) : (Lit.int .u8 n).wf = true := by
  simp [Lit.wf, IntKind.min, IntKind.max, IntKind.signed, IntKind.bits]
  omega
theorem lits5 (d : Nat) (n : Int) (h : 0 ≤ n ∧ n ≤ 255) : Tryd.prog.keyLits (d + 1) 5 [.int .u8 n] = some [.int .u8 n] := by
  simp only [Program.keyLits, Tryd.underlying5]
  rw [if_pos ⟨by trivial, wf8 n h⟩]
theorem types_big : Tryd.prog.types.size + 1 = (Tryd.prog.types.size - 1) + 2 := by kernel_rfl
set_option maxRecDepth 100000 in
theorem key_some (k : List Int) (hk : Byt k) (hl : k.length = 32) : ∃ l, keyOf Tryd.prog 24 (.agg (bcells k)) = some l := by
  have c31 : Tryd.prog.cellsOf 24 = 32 := by kernel_rfl
  have c5 : Tryd.prog.cellsOf 5 = 1 := by kernel_rfl
  have kt : Tryd.prog.keyType 24 = true := by kernel_rfl
  have cl : (bcells k).toList = k.map fun n => Value.int .u8 n := by simp [bcells]
  have kl : Tryd.prog.keyLits (Tryd.prog.types.size + 1) 24 (bcells k).toList = some ((List.range 32).map fun i => [Lit.int .u8 (nth k i)]).flatten := by
    rw [types_big]
    unfold Program.keyLits
    simp only [Tryd.underlying24]
    rw [if_pos (by rw [cl, List.length_map, hl, c31])]
    rw [c5, mapM_some _ (fun i => [Lit.int .u8 (nth k i)])]
    · rfl
    · intro i hi
      have hi' : i < 32 := List.mem_range.1 hi
      have e : (((bcells k).toList.drop (i * 1)).take 1) = [.int .u8 (nth k i)] := by
        rw [cl, Nat.mul_one, List.drop_eq_getElem_cons (by rw [List.length_map, hl]; exact hi'), List.take_succ_cons, List.take_zero, List.getElem_map]
        congr 2
        simp [nth, List.getD, show i < k.length by omega]
      rw [e]
      exact lits5 _ _ (hk.nth i)
  refine ⟨.string (keyBytes ((List.range 32).map fun i => [Lit.int .u8 (nth k i)]).flatten), ?_⟩
  unfold keyOf
  rw [Tryd.underlying24]
  simp only
  rw [if_pos]
  · show Option.map _ (Tryd.prog.keyLits (Tryd.prog.types.size + 1) 24 (bcells k).toList) = _
    rw [kl]
    rfl
  · rw [kt, Bool.true_and]
    unfold Value.formed
    rw [Tryd.underlying24]
    simp only
    rw [bsize, hl, c31]
    rfl
/-- The key of a sum. -/
noncomputable def kl (k : List Int) : Lit := (keyOf Tryd.prog 24 (.agg (bcells k))).getD .nil
theorem kl_is (k : List Int) (hk : Byt k) (hl : k.length = 32) : keyOf Tryd.prog 24 (.agg (bcells k)) = some (kl k) := by
  obtain ⟨l, h⟩ := key_some k hk hl
  unfold kl
  rw [h]
  rfl
theorem kl_inj {j k : List Int} (hj : Byt j) (lj : j.length = 32) (hk : Byt k) (lk : k.length = 32) (e : kl j = kl k) : j = k := by
  have h1 := kl_is j hj lj
  have h2 := kl_is k hk lk
  rw [e] at h1
  have := law31.inj h1 h2
  simp only [Value.agg.injEq] at this
  have h3 : (bcells j).toList = (bcells k).toList := by rw [this]
  have c : ∀ l : List Int, (bcells l).toList = l.map fun n => Value.int .u8 n := fun l => by simp [bcells]
  rw [c, c] at h3
  exact (List.map_inj_right (fun a b h => by simpa using h)).1 h3
end Go.Proofs.YtjdamlmoegippaaDoor.hl
