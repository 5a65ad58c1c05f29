/-
  For all roots, tenants and values the law EntryTenants of package casematelaw23 returns true: roots and tenants have their values, or may not be; and any value is one's, or not. Condition: none.
-/
import Derived.Test.YtbhkhkiidaemcaaEntryTenantsA
namespace Go.Proofs.Ytbhkhkiidaemcaa.entryTenants
open Go.ChangeShapes Go.WideShapes Go.ChangeAt Go.RowKit
theorem ret_wr {f : FuncId} {X : Array Value} {m : Prop} [Decidable m] {V : List Int} (h : ∀ W, Calls Try.prog f #[.agg X] W (WrP W m V)) : Ret f #[.agg X] (.tuple #[.agg (bcells (if m then V else zs 44)), .int .i64 (if m then 0 else 3)]) := h
theorem ret_ch {f : FuncId} {A : Array Value} {m : Prop} [Decidable m] {V v : List Int} {X Z : Array Value} (h : ∀ W, Calls Try.prog f #[.agg A] W (ChP W m V v (.agg X) (.agg Z))) :
    Ret f #[.agg A] (.tuple #[.agg (if m ∧ V = v then X else Z), .int .i64 (if m ∧ V = v then 0 else 3)]) := fun W => by
  have := h W
  unfold ChP at this
  by_cases c : m ∧ V = v
  · rw [if_pos c, if_pos c] at this; rw [if_pos c, if_pos c]; exact this
  · rw [if_neg c, if_neg c] at this; rw [if_neg c, if_neg c]; exact this
theorem iteC {α : Type} {P : α → Prop} {m : Prop} [Decidable m] {a b : α} (ha : P a) (hb : P b) : P (if m then a else b) := by
  split
  · exact ha
  · exact hb
theorem ocells_ite {m : Prop} [Decidable m] (h : Bool) (s : Int) (z : List Int) : (if m then ocells h s z else ocells false 0 (zs 32)) = ocells (if m then h else false) (if m then s else 0) (if m then z else zs 32) := by split <;> rfl
theorem ncells_ite {m : Prop} [Decidable m] (z : List Int) (r q c : Int) : (if m then ncells z r q c else ncells (zs 32) 0 0 0) = ncells (if m then z else zs 32) (if m then r else 0) (if m then q else 0) (if m then c else 0) := by split <;> rfl
theorem oN_nth {v : List Int} (hl : v.length = 44) : oN v = nth v 0 := by
  have e0 : pt v 0 1 = [nth v 0] := by
    match v, hl with
    | x :: _, _ => simp [pt, nth]
  unfold oN; rw [e0]; simp [numI]
theorem nC_nth {v : List Int} (hl : v.length = 44) : nC v = nth v 36 := by
  have e36 : pt v 36 1 = [nth v 36] := by
    unfold pt
    have e : nth v 36 = v[36] := by simp [nth, List.getD, show 36 < v.length by omega]
    rw [List.drop_eq_getElem_cons (by omega), List.take_succ_cons, List.take_zero, e]
  unfold nC; rw [e36]; simp [numI]
set_option maxHeartbeats 4000000 in
theorem walk (h : Bool) (s r q c : Int) (z tz v : List Int) (hs : 0 ≤ s ∧ s ≤ 4294967295) (bz : Byt z) (lz : z.length = 32) (btz : Byt tz) (ltz : tz.length = 32) (hv : Byt v) (hl : v.length = 44) (w : World) :
    Calls Try.prog 5 #[.agg (ocells h s z), .agg (ncells tz r q c), .agg (bcells v)] w (WP w) := by
  have zl5 : (oZ v).length = 32 := pt_len v 5 32 (by omega)
  have zl6 : (nZ v).length = 32 := pt_len v 0 32 (by omega)
  have sb : 0 ≤ oS v ∧ oS v ≤ 4294967295 := num32 (pt_byt hv 1 4) (pt_len v 1 4 (by omega))
  have rb : 0 ≤ nR v ∧ nR v ≤ 65535 := num16 (pt_byt hv 32 2) (pt_len v 32 2 (by omega))
  have qb : 0 ≤ nQ v ∧ nQ v ≤ 65535 := num16 (pt_byt hv 34 2) (pt_len v 34 2 (by omega))
  have K28 := ret_ch (readRoot v hv hl)
  rw [ocells_ite] at K28
  have K29 := ret_ch (readTen v hv hl)
  rw [ncells_ite] at K29
  refine core h s r q c _ _ _ _ _ _ _ _ _ (decide (oMay h s z)) (decide (nMay r q c)) z tz v (if oMay h s z then oW h s z else zs 44) (if nMay r q c then nW tz r q c else zs 44) _ _
    (Lib.hid (ret_wr (writeRoot h s z hs.1 hs.2 bz lz))) (Lib.hid (ret_wr (writeTen tz r q c btz ltz))) (Lib.hid K28) (Lib.hid K29) (Lib.hid rfl) (Lib.hid rfl) (Lib.hid ?ht7) (Lib.hid ?hf7) (Lib.hid ?ht9) (Lib.hid ?hf9)
    (Lib.hid (sl_bytes s 4 (by decide) hs.1 (by omega))) (Lib.hid ?t5) (Lib.hid hl) (Lib.hid hv) (Lib.hid lz) (Lib.hid bz) (Lib.hid ltz) (Lib.hid btz)
    (Lib.hid (iteC (P := fun l : List Int => l.length = 32) zl5 (zs_len _))) (Lib.hid (iteC (P := Byt) (pt_byt hv 5 32) (zs_byt _))) (Lib.hid (iteC (P := fun l : List Int => l.length = 32) zl6 (zs_len _))) (Lib.hid (iteC (P := Byt) (pt_byt hv 0 32) (zs_byt _)))
    (Lib.hid hs) (Lib.hid (iteC (P := fun x : Int => 0 ≤ x ∧ x ≤ 4294967295) sb (by decide))) (Lib.hid (iteC (P := fun x : Int => 0 ≤ x ∧ x ≤ 65535) rb (by decide))) (Lib.hid (iteC (P := fun x : Int => 0 ≤ x ∧ x ≤ 65535) qb (by decide)))
    (Lib.hid ?hr) (Lib.hid ?hn) (Lib.hid (iteC (P := fun l : List Int => l.length = 44) (oW_len lz) (zs_len _))) (Lib.hid (iteC (P := Byt) (oW_byt bz) (zs_byt _))) (Lib.hid (iteC (P := fun l : List Int => l.length = 44) (nW_len ltz) (zs_len _))) (Lib.hid (iteC (P := Byt) (nW_byt btz) (zs_byt _))) w
  case ht7 =>
    intro h1
    have h2 := of_decide_eq_true h1
    rw [if_pos h2, if_pos h2]
    exact ⟨rfl, rfl⟩
  case hf7 =>
    intro h1
    have h2 := of_decide_eq_false h1
    rw [if_neg h2, if_neg h2]
    exact ⟨rfl, rfl⟩
  case ht9 =>
    intro h1
    have h2 := of_decide_eq_true h1
    rw [if_pos h2, if_pos h2]
    exact ⟨rfl, rfl⟩
  case hf9 =>
    intro h1
    have h2 := of_decide_eq_false h1
    rw [if_neg h2, if_neg h2]
    exact ⟨rfl, rfl⟩
  case t5 =>
    intro h1
    have h2 : nMay r q c := of_decide_eq_true h1
    obtain ⟨⟨a, b⟩, ⟨d, e⟩, f, g⟩ := h2
    exact ⟨sl_bytes r 2 (by decide) a (by omega), sl_bytes q 2 (by decide) d (by omega), sl_bytes c 1 (by decide) f (by omega)⟩
  case hr =>
    by_cases cc : oMay (oH v) (oS v) (oZ v) ∧ oW (oH v) (oS v) (oZ v) = v
    · left
      rw [if_pos cc, if_pos cc, if_pos cc, if_pos cc]
      exact ⟨rfl, (oW_iff hv hl).1 cc, by unfold oH; rw [oN_nth hl], rfl, rfl⟩
    · right
      rw [if_neg cc, if_neg cc, if_neg cc, if_neg cc]
      exact ⟨rfl, by cases h : iR v with | true => exact absurd ((oW_iff hv hl).2 h) cc | false => rfl, rfl, rfl, rfl⟩
  case hn =>
    by_cases cc : nMay (nR v) (nQ v) (nC v) ∧ nW (nZ v) (nR v) (nQ v) (nC v) = v
    · left
      rw [if_pos cc, if_pos cc, if_pos cc, if_pos cc, if_pos cc]
      exact ⟨rfl, (nW_iff hv hl).1 cc, rfl, rfl, rfl, (nC_nth hl).symm⟩
    · right
      rw [if_neg cc, if_neg cc, if_neg cc, if_neg cc, if_neg cc]
      exact ⟨rfl, by cases h : iT v with | true => exact absurd ((nW_iff hv hl).2 h) cc | false => rfl, rfl, rfl, rfl, rfl⟩

set_option maxRecDepth 100000 in
set_option maxHeartbeats 4000000 in
theorem lifted (os : Os) (started : os.Started) (H : Type) (enc : TypeId × Value → H) :
    ReturnsInHanded {} Try.checked os 5 .any (Rows.entryTenantsSpec.pre6 enc Try.prog Try.f5 Rows.entryTenantsRow.domain false) (Rows.entryTenantsSpec.post enc Try.prog Try.f5 false true false false) := by
  refine returnsInHanded_of_change (C := Try.checked) own started (by kernel_rfl) Try.func5
    (ChangeSpec.witness6 (enc := enc) (C := Try.checked) false ⟨#[], #[.agg (#[.bool false, .int .u32 0] ++ Array.replicate 32 (.int .u8 0)), .agg (Array.replicate 32 (.int .u8 0) ++ #[.int .i64 0, .int .i64 0, .int .i64 0]), .agg (Array.replicate 44 (.int .u8 0))], []⟩ 100 (by kernel_rfl) (by kernel_rfl) (by kernel_rfl) (by kernel_rfl)) ?_
  intro W base args ds gs before hval0 hW hcnd _
  have hval : ∀ (j : Nat) t v, Try.f5.params[j]? = some t → args[j]? = some v → Value.okWide Try.prog W .any base t v := hval0
  have hW' := hW
  obtain ⟨p, q, hA0, hV, rfl, hfz, hnd⟩ := hW
  have hA : DataW.TrodAll enc Try.prog W 0 (fun _ => true) true Try.f5.params.toList args.toList ds p := hA0
  rw [Try.params5] at hA hval
  obtain ⟨v0, vs0, d0, ds0, p0, q0, hargs, rfl, rfl, h0, r0⟩ := trodAll_cons hA
  obtain ⟨v1, vs1, d1, ds1, p1, q1, rfl, rfl, rfl, h1, r1⟩ := trodAll_cons r0
  obtain ⟨v2, vs2, d2, ds2, p2, q2, rfl, rfl, rfl, h2, r2⟩ := trodAll_cons r1
  obtain ⟨rfl, rfl, rfl⟩ := trodAll_nil r2
  obtain rfl : args = #[v0, v1, v2] := by cases args; simp_all
  obtain ⟨rfl, rfl⟩ := trodVars_none hV
  obtain ⟨rr0, rr1, rr2, hr0, hr1, hr2, rfl⟩ := open_root (hval 0 55 v0 rfl rfl) h0
  obtain ⟨t0, t1, t2, t3, ht1, ht2, rfl⟩ := open_ten (hval 1 57 v1 rfl rfl) h1
  obtain ⟨v0, hv0, hv1, rfl⟩ := open_val (hval 2 38 v2 rfl rfl) h2
  refine (walk rr0 rr1 t1 t2 t3 rr2 t0 v0 hr0 hr1 hr2 ht1 ht2 hv0 hv1 W).mono fun e W' ⟨he, hb⟩ => ?_
  subst he
  exact ⟨_, rfl, law_post hW' rfl rfl rfl (by kernel_rfl) hb⟩

/-- The statement. -/
theorem proved : Rows.EntryTenantsSaid :=
  OpenClaim.holds_of_wide 5 Try.f5 rfl rfl rfl rfl rfl rfl rfl ⟨rfl, rfl, rfl, rfl, rfl⟩ rfl rfl rfl rfl rfl (by kernel_rfl) Try.func5 (by kernel_rfl)
    (of_decide_eq_true (by kernel_rfl)) (by unfold Func.isWrapper; first | (rw [if_pos (by decide +kernel)]; kernel_rfl) | (rw [if_neg (by decide +kernel)]; exact ⟨rfl, rfl⟩))
    (fun os started H enc _ => lifted os started H enc)
#print axioms proved
end Go.Proofs.Ytbhkhkiidaemcaa.entryTenants
