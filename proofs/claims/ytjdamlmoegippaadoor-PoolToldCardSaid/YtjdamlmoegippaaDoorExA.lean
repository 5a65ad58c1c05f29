/-
  Words for memory: what may have turned ('Mods'), and a map's block as a function of its keys ('MapV'), with what a lookup, a store, a deletion and a copy make of it. Condition: none.
-/
import Derived.WalkKit
import Derived.Laws.Entries
import Derived.Test.YtjdamlmoegippaaDoorRows
import Derived.ProofKit
import Derived.OpenShut
import Derived.Below
import Derived.ArgAppend
import Derived.Laws.OwnMore
import Derived.Laws.Rows
import Derived.Laws.IdiomCopy
import Derived.Lib.Hide
import Derived.Maps.Own
import Derived.Maps.OwnOps
import Derived.Maps.OwnSet
import Derived.Maps.Views
import Derived.Maps.Ext
namespace Go.Proofs.YtjdamlmoegippaaDoor.ex
theorem u64_wrap (m : Nat) (h : m < 2 ^ 64) : IntKind.u64.wrap (m : Int) = m := by
  have : IntKind.u64.wrap (m : Int) = (m : Int) % 18446744073709551616 := by simp [IntKind.wrap, IntKind.bits, IntKind.signed]
  rw [this]
  have h2 : (2 : Nat) ^ 64 = 18446744073709551616 := by decide
  omega
theorem ofInt64 (m : Nat) : BitVec.ofInt 64 (m : Int) = BitVec.ofNat 64 m := by rw [BitVec.ofInt_natCast]
theorem u64_and (m k : Nat) (hm : m < 2 ^ 64) (hk : k < 2 ^ 64) : bits .and .u64 (m : Int) (k : Int) = ((m &&& k : Nat) : Int) := by
  show IntKind.u64.wrap ((BitVec.ofInt 64 (m : Int) &&& BitVec.ofInt 64 (k : Int)).toNat : Int) = _
  rw [BitVec.toNat_and, ofInt64, ofInt64, BitVec.toNat_ofNat, BitVec.toNat_ofNat, Nat.mod_eq_of_lt hm, Nat.mod_eq_of_lt hk]
  exact u64_wrap _ (Nat.and_lt_two_pow _ hk)
theorem u64_or (m k : Nat) (hm : m < 2 ^ 64) (hk : k < 2 ^ 64) : bits .or .u64 (m : Int) (k : Int) = ((m ||| k : Nat) : Int) := by
  show IntKind.u64.wrap ((BitVec.ofInt 64 (m : Int) ||| BitVec.ofInt 64 (k : Int)).toNat : Int) = _
  rw [BitVec.toNat_or, ofInt64, ofInt64, BitVec.toNat_ofNat, BitVec.toNat_ofNat, Nat.mod_eq_of_lt hm, Nat.mod_eq_of_lt hk]
  exact u64_wrap _ (Nat.or_lt_two_pow hm hk)
/-- A word without the digits of another one. -/
def nots (m k : Nat) : Nat := (BitVec.ofNat 64 m &&& ~~~ BitVec.ofNat 64 k).toNat
theorem nots_lt (m k : Nat) : nots m k < 2 ^ 64 := BitVec.isLt _
theorem u64_nots (m k : Nat) : bits .andNot .u64 (m : Int) (k : Int) = ((nots m k : Nat) : Int) := by
  show IntKind.u64.wrap ((BitVec.ofInt 64 (m : Int) &&& ~~~ BitVec.ofInt 64 (k : Int)).toNat : Int) = _
  rw [ofInt64, ofInt64]
  exact u64_wrap _ (BitVec.isLt _)
theorem nots_bit (m k i : Nat) (hi : i < 64) : (nots m k).testBit i = (m.testBit i && !k.testBit i) := by
  unfold nots
  rw [BitVec.testBit_toNat, BitVec.getLsbD_and, BitVec.getLsbD_not, BitVec.getLsbD_ofNat, BitVec.getLsbD_ofNat]
  simp [hi]
theorem pow_bit (j i : Nat) : (2 ^ j).testBit i = decide (j = i) := by rw [Nat.testBit_two_pow]
theorem or_bit (m j i : Nat) : (m ||| 2 ^ j).testBit i = (m.testBit i || decide (j = i)) := by rw [Nat.testBit_or, pow_bit]
theorem nots_pow_bit (m j i : Nat) (hi : i < 64) : (nots m (2 ^ j)).testBit i = (m.testBit i && !decide (j = i)) := by rw [nots_bit _ _ _ hi, pow_bit]
theorem pow_lt (j : Nat) (h : j < 64) : 2 ^ j < 2 ^ 64 := Nat.pow_lt_pow_right (by omega) h
theorem and_pow (m j : Nat) : (m &&& 2 ^ j = 0) ↔ m.testBit j = false := by
  constructor
  · intro h
    have := congrArg (fun x => Nat.testBit x j) h
    simpa [Nat.testBit_and, pow_bit] using this
  · intro h
    apply Nat.eq_of_testBit_eq
    intro i
    rw [Nat.testBit_and, pow_bit, Nat.zero_testBit]
    by_cases e : j = i
    · subst e; simp [h]
    · simp [e]
theorem full_bit (m : Nat) (hm : m < 2 ^ 64) : m = 18446744073709551615 ↔ ∀ i, i < 64 → m.testBit i = true := by
  have e : (18446744073709551615 : Nat) = 2 ^ 64 - 1 := by decide
  constructor
  · intro h i hi
    rw [h, e, Nat.testBit_two_pow_sub_one]
    simpa using hi
  · intro h
    rw [e]
    apply Nat.eq_of_testBit_eq
    intro i
    rw [Nat.testBit_two_pow_sub_one]
    by_cases hi : i < 64
    · rw [h i hi]; simp [hi]
    · rw [Nat.testBit_lt_two_pow (Nat.lt_of_lt_of_le hm (Nat.pow_le_pow_right (by omega) (by omega)))]; simp [hi]
end Go.Proofs.YtjdamlmoegippaaDoor.ex
namespace Go.Proofs.YtjdamlmoegippaaDoor.ex
open Go.RowKit

/-- Nothing that was there has turned, but blocks of S. -/
structure Mods (S : Nat → Prop) (w w' : World) : Prop where
  os : w'.os = w.os
  tape : w'.tape = w.tape
  output : w'.output = w.output
  size : w.heap.size ≤ w'.heap.size
  block : ∀ k, k < w.heap.size → ¬ S k → w'.heap[k]? = w.heap[k]?

section
variable {S T : Nat → Prop} {w w1 w2 w' : World}
theorem Mods.refl (S : Nat → Prop) (w : World) : Mods S w w := ⟨rfl, rfl, rfl, Nat.le_refl _, fun _ _ _ => rfl⟩
theorem Mods.trans (h : Mods S w w1) (k : Mods T w1 w2) (hT : ∀ b, T b → S b ∨ w.heap.size ≤ b) : Mods S w w2 :=
  ⟨k.os.trans h.os, k.tape.trans h.tape, k.output.trans h.output, Nat.le_trans h.size k.size, fun b hb hs =>
    (k.block b (Nat.lt_of_lt_of_le hb h.size) (fun ht => by rcases hT b ht with h1 | h1; exact hs h1; omega)).trans (h.block b hb hs)⟩
theorem Mods.mono (h : Mods S w w') (hS : ∀ b, S b → T b ∨ w.heap.size ≤ b) : Mods T w w' :=
  ⟨h.os, h.tape, h.output, h.size, fun b hb hs => h.block b hb (fun ht => by rcases hS b ht with h1 | h1; exact hs h1; omega)⟩
theorem Mods.below {B : Nat} {a : World} (h : Below B a w) (k : Mods S w w') (hB : B ≤ w.heap.size) (hS : ∀ b, S b → B ≤ b) : Below B a w' :=
  h.trans ⟨k.os, k.tape, k.output, k.size, fun b hb => k.block b (by omega) (fun e => by have := hS b e; omega)⟩
theorem Mods.of_below (h : Below w.heap.size w w') : Mods S w w' := ⟨h.os, h.tape, h.output, h.size, fun b hb _ => h.block b hb⟩
theorem Mods.of_grown {r : Option Nat} (h : w.grownBy w' r) : Mods (fun k => r = some k) w w' := ⟨h.os, h.tape, h.output, h.size, fun b hb hs => h.block b hb (fun e => hs e.symm)⟩
theorem Mods.alloc (w : World) (o : Obj) : Mods S w (w.alloc o) := Mods.of_below ((Below.refl _ _).alloc (Nat.le_refl _) _)
theorem Mods.set (w : World) (p : Addr) (u : Value) (h : S p.block) : Mods S w (w.setCell p u) :=
  ⟨rfl, rfl, rfl, by simp [World.setCell], fun k _ hk => Below.heap_setCell _ _ _ _ (fun e => by subst e; exact hk h)⟩
theorem Mods.sets (g : Nat) (h : S g) : ∀ (vs : List Value) (o : Nat) (w : World), Mods S w (w.setCells g o vs)
  | [], _, w => Mods.refl S w
  | v :: r, o, w => (Mods.set w ⟨g, o, none⟩ v h).trans (Mods.sets g h r (o + 1) _) (fun _ hb => .inl hb)
end

theorem addr_add (g o n : Nat) : (⟨g, o, none⟩ : Addr).add n = ⟨g, o + n, none⟩ := by unfold Addr.add; split <;> simp_all

/-- How an element reads: as itself. -/
def RV (v : Value) : Option (DataW Value × List MemPlace) := some (.held v, [])
/-- What a map's entry reads as. -/
def ent (o : Option Value) (z : DataW Value) : DataW Value := match o with | some v => .held v | none => z
/-- Block b is a map of s entries, whose entry at the key l is f l. -/
def MapV (P : Program) (k : TypeId) (w : World) (b s : Nat) (f : Lit → Option Value) : Prop :=
  ∃ D : DataW Value, w.ownsMap P k RV b s D ∧ Maps.size D = s ∧ ∀ l z, D.atKey l z = ent (f l) z
/-- A function that is turned at one key. -/
def updL (f : Lit → Option Value) (k : Lit) (o : Option Value) : Lit → Option Value := fun l => if l.sameKey k then o else f l
section
variable {P : Program} {k e t : TypeId} {w w' : World} {b s : Nat} {f : Lit → Option Value}
theorem ownsMap_tight {H : Type} {R : Value → Option (DataW H × List MemPlace)} {n : Nat} {D : DataW H} (h : w.ownsMap P k R b n D) : w.ownsMap P k R b (Maps.size D) D := by
  obtain ⟨es, clock, hb, F, hs, hD⟩ := h
  refine ⟨es, clock, hb, F, ?_, hD⟩
  rw [hD]
  show es.size ≤ List.length _
  rw [length_sorted]
  simp
theorem MapV.lt (h : MapV P k w b s f) : b < w.heap.size := by obtain ⟨D, h1, _⟩ := h; exact h1.lt
theorem MapV.made (w : World) (P : Program) (k : TypeId) : MapV P k (w.alloc (.map #[] 0)) w.heap.size 0 (fun _ => none) :=
  ⟨.map [], World.ownsMap_made w P k RV, rfl, fun _ _ => rfl⟩
theorem MapV.same (h : MapV P k w b s f) (hb : w'.heap[b]? = w.heap[b]?) : MapV P k w' b s f := by
  obtain ⟨D, ⟨es, clock, h1, r⟩, h2⟩ := h
  exact ⟨D, ⟨es, clock, hb.trans h1, r⟩, h2⟩
theorem MapV.mods {S : Nat → Prop} (h : MapV P k w b s f) (hm : Mods S w w') (hS : ¬ S b) : MapV P k w' b s f := h.same (hm.block b h.lt hS)
theorem MapV.isMap (h : MapV P k w b s f) : ∃ es c, w.heap[b]? = some (.map es c) := by obtain ⟨D, ⟨es, clock, h1, _⟩, _⟩ := h; exact ⟨es, clock, h1⟩
theorem MapV.has {D : DataW Value} (h : ∀ l z, D.atKey l z = ent (f l) z) (l : Lit) : Maps.has D l = (f l).isSome := by
  cases hf : f l with
  | none => exact Maps.has_false_of_atKey (fun z => by rw [h, hf]; rfl)
  | some v => exact Maps.has_true_of_atKey (y := .held v) (fun z => by rw [h, hf]; rfl)
theorem MapV.look (h : MapV P k w b s f) (K : Maps.Keyed P k) (ht : P.underlying t = some (.map k e)) {z : Value} (hz : (zeroValue e).run P w = .ok z w) {key : Value} {kl : Lit} (hkey : keyOf P k key = some kl) :
    (Instr.lookup t (.map (some b)) key false).run P w = .ok ((f kl).getD z) w := by
  obtain ⟨D, h1, _, h3⟩ := h
  obtain ⟨v, ps, hr, hv⟩ := h1.lookup K ht hz (zd := .held z) (zp := []) rfl hkey
  rw [hr, h3] at *
  simp only [RV, Option.some.injEq, Prod.mk.injEq] at hv
  cases hf : f kl with
  | none => rw [hf] at hv; simp only [ent, DataW.held.injEq] at hv; rw [hv.1]; rfl
  | some x => rw [hf] at hv; simp only [ent, DataW.held.injEq] at hv; rw [hv.1]; rfl
theorem MapV.look_ok (h : MapV P k w b s f) (K : Maps.Keyed P k) (ht : P.underlying t = some (.map k e)) {z : Value} (hz : (zeroValue e).run P w = .ok z w) {key : Value} {kl : Lit} (hkey : keyOf P k key = some kl) :
    (Instr.lookup t (.map (some b)) key true).run P w = .ok (.tuple #[(f kl).getD z, .bool (f kl).isSome]) w := by
  obtain ⟨D, h1, _, h3⟩ := h
  obtain ⟨v, ps, hr, hv⟩ := h1.look_ok K ht hz (zd := .held z) (zp := []) rfl hkey
  rw [hr, MapV.has h3]
  rw [h3] at hv
  simp only [RV, Option.some.injEq, Prod.mk.injEq] at hv
  cases hf : f kl with
  | none => rw [hf] at hv; simp only [ent, DataW.held.injEq] at hv; rw [hv.1]; rfl
  | some x => rw [hf] at hv; simp only [ent, DataW.held.injEq] at hv; rw [hv.1]; rfl
theorem MapV.len (h : MapV P k w b s f) (ht : P.underlying t = some (.map k e)) (ty : TypeId) : (Builtin.len_ #[t] ty #[.map (some b)]).run P w = .ok (.int .i64 s) w := by
  obtain ⟨D, h1, h2, _⟩ := h
  rw [h1.len ht ty, h2]
theorem mods_turned (h : w.mapTurned w' b) : Mods (fun k => k = b) w w' := by
  have := h.grown
  exact ⟨this.os, this.tape, this.output, this.size, fun j hj hs => this.block j hj (fun e => hs (Option.some.inj e))⟩
theorem turned_size (h : w.mapTurned w' b) : w'.heap.size = w.heap.size := by
  obtain ⟨es, clock, es', clock', hb, rfl⟩ := h
  simp [ChangeMaps.setBlock]
theorem MapV.store (h : MapV P k w b s f) (K : Maps.Keyed P k) (ht : P.underlying t = some (.map k e)) (hn : s < maxLen) {key v : Value} {kl : Lit} (hkey : keyOf P k key = some kl) :
    ∃ w', (Instr.mapUpdate t (.map (some b)) key v).run P w = .ok () w' ∧ MapV P k w' b (if (f kl).isSome then s else s + 1) (updL f kl (some v)) ∧ Mods (fun j => j = b) w w' ∧ w'.heap.size = w.heap.size := by
  obtain ⟨D, h1, h2, h3⟩ := h
  obtain ⟨w', hr, o1, o2⟩ := h1.store K ht hn (val := v) (d := .held v) (ps := []) hkey rfl
  have hs : Maps.size (D.put kl (.held v)) = if (f kl).isSome then s else s + 1 := by rw [Maps.size_put (h1.tidy K), MapV.has h3, h2]
  refine ⟨w', hr, ⟨D.put kl (.held v), ?_, hs, fun l z => ?_⟩, mods_turned o2, turned_size o2⟩
  · rw [← hs]; exact ownsMap_tight o1
  · unfold updL
    by_cases hl : l = kl
    · subst hl; rw [if_pos (WideAt.sameKey_self (K.key hkey)), Maps.atKey_put_same h1.isMap (K.key hkey)]; rfl
    · rw [if_neg (by rw [Maps.sameKey_ne hl]; simp), Maps.atKey_put_other hl, h3]
theorem MapV.drop (h : MapV P k w b s f) (K : Maps.Keyed P k) (ht : P.underlying t = some (.map k e)) {key : Value} {kl : Lit} (hkey : keyOf P k key = some kl) :
    ∃ w', (∀ ty, (Builtin.delete_ #[t, k] ty #[.map (some b), key]).run P w = .ok (.tuple #[]) w') ∧ MapV P k w' b (if (f kl).isSome then s - 1 else s) (updL f kl none) ∧ Mods (fun j => j = b) w w' ∧ w'.heap.size = w.heap.size := by
  obtain ⟨D, h1, h2, h3⟩ := h
  obtain ⟨w', hr, o1, o2⟩ := h1.drop K ht hkey 0
  have hs : Maps.size (D.del kl) = if (f kl).isSome then s - 1 else s := by
    have := Maps.size_del (k := kl) (h1.tidy K)
    rw [MapV.has h3, h2] at this
    split <;> simp_all <;> omega
  refine ⟨w', fun ty => ?_, ⟨D.del kl, ?_, hs, fun l z => ?_⟩, mods_turned o2, turned_size o2⟩
  · exact hr
  · rw [← hs]; exact ownsMap_tight o1
  · unfold updL
    by_cases hl : l = kl
    · subst hl; rw [if_pos (WideAt.sameKey_self (K.key hkey)), Maps.atKey_del_same]; rfl
    · rw [if_neg (by rw [Maps.sameKey_ne hl]; simp), Maps.atKey_del_other hl, h3]
end
end Go.Proofs.YtjdamlmoegippaaDoor.ex
