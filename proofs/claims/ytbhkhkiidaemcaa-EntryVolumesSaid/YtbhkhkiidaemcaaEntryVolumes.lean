/-
  For all counts, volumes, blocks and values the law EntryVolumes of package casematelaw23 returns true: counts, descriptions and blocks have their values, or may not be; and any value is one's, or not. Condition: none.
-/
import Derived.Test.YtbhkhkiidaemcaaEntryVolumesA
namespace Go.Proofs.Ytbhkhkiidaemcaa.entryVolumes
open Go.ChangeShapes Go.WideShapes Go.ChangeAt Go.RowKit
theorem ret_wr {f : FuncId} {X : Array Value} {m : Prop} [Decidable m] {V : List Int} (h : ∀ W, Calls Try.prog f #[.agg X] W (WrP W m V)) : Ret f #[.agg X] (.tuple #[.agg (bcells (if m then V else zs 44)), .int .i64 (if m then 0 else 3)]) := h
theorem ret_ch {f : FuncId} {A : Array Value} {m : Prop} [Decidable m] {V v : List Int} {X Z : Array Value} (h : ∀ W, Calls Try.prog f #[.agg A] W (ChP W m V v (.agg X) (.agg Z))) :
    Ret f #[.agg A] (.tuple #[.agg (if m ∧ V = v then X else Z), .int .i64 (if m ∧ V = v then 0 else 3)]) := fun W => by
  have := h W
  unfold ChP at this
  by_cases c : m ∧ V = v
  · rw [if_pos c, if_pos c] at this; rw [if_pos c, if_pos c]; exact this
  · rw [if_neg c, if_neg c] at this; rw [if_neg c, if_neg c]; exact this
theorem iteC {α : Type} {P : α → Prop} {m : Prop} [Decidable m] {a b : α} (ha : P a) (hb : P b) : P (if m then a else b) := by
  split
  · exact ha
  · exact hb
theorem vcells_ite {m : Prop} [Decidable m] (n b : Int) : (if m then vcells n b else vcells 0 0) = vcells (if m then n else 0) (if m then b else 0) := by split <;> rfl
theorem writeVol (n b : Int) (h : 0 ≤ n ∧ n ≤ 18446744073709551615) (w : World) : Calls Try.prog 16 #[.agg (vcells n b)] w (WrP w (vMay b) (vW n b)) := by
  by_cases hm : vMay b
  · exact writeVol_yes n b h.1 h.2 hm w
  · exact writeVol_no n b hm w
theorem k_there {v : List Int} (hv : Byt v) (hl : v.length = 44) : kW (kS v) (kZ v) (kT v) = v := by
  have e : (kP (kS v) (kZ v) (kT v)).flatten = v.take 44 := by
    unfold kP kS kZ kT
    rw [be_numI 4 _ (pt_len v 0 4 (by omega)) (pt_byt hv 0 4), be_numI 8 _ (pt_len v 36 8 (by omega)) (pt_byt hv 36 8), show (44 : Nat) = 36 + 8 from rfl, take_pt v 36 8, show (36 : Nat) = 4 + 32 from rfl, take_pt v 4 32]
    simp [pt]
  have e2 : v.take 44 = v := List.take_of_length_le (by omega)
  unfold kW fv
  rw [e, e2, hl]
  simp [zs]
theorem ret_count (v : List Int) (hv : Byt v) (hl : v.length = 44) :
    Ret 20 #[.agg (bcells v)] (.tuple #[.int .u64 (if True ∧ cW (numI (pt v 0 8)) = v then numI (pt v 0 8) else 0), .int .i64 (if True ∧ cW (numI (pt v 0 8)) = v then 0 else 3)]) := fun W => by
  have := readCount v hv hl W
  unfold ChP at this
  by_cases c : True ∧ cW (numI (pt v 0 8)) = v
  · rw [if_pos c, if_pos c] at this; rw [if_pos c, if_pos c]; exact this
  · rw [if_neg c, if_neg c] at this; rw [if_neg c, if_neg c]; exact this
theorem walk (n vn vb ks kt : Int) (kz v : List Int) (hn : 0 ≤ n ∧ n ≤ 18446744073709551615) (hvn : 0 ≤ vn ∧ vn ≤ 18446744073709551615) (hks : 0 ≤ ks ∧ ks ≤ 4294967295) (bkz : Byt kz) (lkz : kz.length = 32) (hkt : 0 ≤ kt ∧ kt ≤ 18446744073709551615)
    (hv : Byt v) (hl : v.length = 44) (w : World) : Calls Try.prog 4 #[.int .u64 n, .agg (vcells vn vb), .agg (kcells ks kz kt), .agg (bcells v)] w (WP w) := by
  have K21 := ret_ch (readVol v hv hl)
  rw [vcells_ite] at K21
  have zk : (kZ v).length = 32 := pt_len v 4 32 (by omega)
  have sk : 0 ≤ kS v ∧ kS v ≤ 4294967295 := num32 (pt_byt hv 0 4) (pt_len v 0 4 (by omega))
  have tk : 0 ≤ kT v ∧ kT v ≤ 18446744073709551615 := num64 (pt_byt hv 36 8) (pt_len v 36 8 (by omega))
  have pb := num32 (pt_byt hv 8 4) (pt_len v 8 4 (by omega))
  refine core n vn vb ks kt _ _ _ _ _ _ kz v (cW n) (if vMay vb then vW vn vb else zs 44) (kW ks kz kt) (kcells (kS v) (kZ v) (kT v)) (decide (1 ≤ vb ∧ vb ≤ 256))
    (Lib.hid (fun W => writeCount n hn.1 hn.2 W)) (Lib.hid (ret_wr (writeVol vn vb hvn))) (Lib.hid (fun W => writeBlk ks kz kt hks.1 hks.2 bkz lkz hkt.1 hkt.2 W)) (Lib.hid (ret_count v hv hl)) (Lib.hid K21) (Lib.hid (fun W => readBlk v hv hl W)) (Lib.hid ?k17)
    (Lib.hid (sl_bytes n 8 (by decide) hn.1 hn.2)) (Lib.hid (sl_bytes vn 8 (by decide) hvn.1 hvn.2)) (Lib.hid ?t3) (Lib.hid (sl_bytes ks 4 (by decide) hks.1 (by omega))) (Lib.hid (sl_bytes kt 8 (by decide) hkt.1 hkt.2))
    (Lib.hid rfl) (Lib.hid rfl) (Lib.hid ?ht) (Lib.hid ?hf) (Lib.hid rfl) (Lib.hid hl) (Lib.hid hv) (Lib.hid lkz) (Lib.hid bkz) (Lib.hid ?hc) (Lib.hid ?hv)
    (Lib.hid (i37 lkz)) (Lib.hid (i37 zk)) (Lib.hid (by simp [kcells, rcells, zk, zs_len])) (Lib.hid (one_k _ _ _)) (Lib.hid hks) (Lib.hid (cW_len n)) (Lib.hid (cW_byt n)) (Lib.hid (iteC (P := fun l : List Int => l.length = 44) (vW_len _ _) (zs_len _))) (Lib.hid (iteC (P := Byt) (vW_byt _ _) (zs_byt _))) (Lib.hid (kW_len lkz)) (Lib.hid (kW_byt bkz)) w
  case k17 =>
    exact fun W => by
      have h := writeBlk (kS v) (kZ v) (kT v) sk.1 sk.2 (pt_byt hv 4 32) zk tk.1 tk.2 W
      rw [k_there hv hl] at h
      exact h
  case t3 =>
    exact fun h => by
      have h2 : 1 ≤ vb ∧ vb ≤ 256 := of_decide_eq_true h
      exact sl_bytes vb 4 (by decide) (by omega) (by omega)
  case ht =>
    exact fun h => by
      have h2 : vMay vb := of_decide_eq_true h
      rw [if_pos h2, if_pos h2]
      exact ⟨rfl, rfl⟩
  case hf =>
    exact fun h => by
      have h2 : ¬ vMay vb := of_decide_eq_false h
      rw [if_neg h2, if_neg h2]
      exact ⟨rfl, rfl⟩
  case hc =>
    by_cases c : True ∧ cW (numI (pt v 0 8)) = v
    · left
      rw [if_pos c, if_pos c]
      exact ⟨rfl, (cW_iff hv hl).1 c, rfl⟩
    · right
      rw [if_neg c, if_neg c]
      exact ⟨rfl, by cases h : iC v with | true => exact absurd ((cW_iff hv hl).2 h) c | false => rfl, rfl⟩
  case hv =>
    by_cases c : vMay (vB v) ∧ vW (vN v) (vB v) = v
    · left
      rw [if_pos c, if_pos c, if_pos c]
      exact ⟨rfl, (vW_iff hv hl).1 c, rfl, rfl, pb.1, pb.2⟩
    · right
      rw [if_neg c, if_neg c, if_neg c]
      exact ⟨rfl, by cases h : iV v with | true => exact absurd ((vW_iff hv hl).2 h) c | false => rfl, rfl, rfl⟩

set_option maxRecDepth 100000 in
set_option maxHeartbeats 4000000 in
theorem lifted (os : Os) (started : os.Started) (H : Type) (enc : TypeId × Value → H) :
    ReturnsInHanded {} Try.checked os 4 .any (Rows.entryVolumesSpec.pre6 enc Try.prog Try.f4 Rows.entryVolumesRow.domain false) (Rows.entryVolumesSpec.post enc Try.prog Try.f4 false true false false) := by
  refine returnsInHanded_of_change (C := Try.checked) own started (by kernel_rfl) Try.func4
    (ChangeSpec.witness6 (enc := enc) (C := Try.checked) false ⟨#[], #[.int .u64 0, .agg #[.int .u64 0, .int .i64 0], .agg (#[.int .u32 0] ++ Array.replicate 32 (.int .u8 0) ++ #[.int .u64 0]), .agg (Array.replicate 44 (.int .u8 0))], []⟩ 100 (by kernel_rfl) (by kernel_rfl) (by kernel_rfl) (by kernel_rfl)) ?_
  intro W base args ds gs before hval0 hW hcnd _
  have hval : ∀ (j : Nat) t v, Try.f4.params[j]? = some t → args[j]? = some v → Value.okWide Try.prog W .any base t v := hval0
  have hW' := hW
  obtain ⟨p, q, hA0, hV, rfl, hfz, hnd⟩ := hW
  have hA : DataW.TrodAll enc Try.prog W 0 (fun _ => true) true Try.f4.params.toList args.toList ds p := hA0
  rw [Try.params4] at hA hval
  obtain ⟨v0, vs0, d0, ds0, p0, q0, hargs, rfl, rfl, h0, r0⟩ := trodAll_cons hA
  obtain ⟨v1, vs1, d1, ds1, p1, q1, rfl, rfl, rfl, h1, r1⟩ := trodAll_cons r0
  obtain ⟨v2, vs2, d2, ds2, p2, q2, rfl, rfl, rfl, h2, r2⟩ := trodAll_cons r1
  obtain ⟨v3, vs3, d3, ds3, p3, q3, rfl, rfl, rfl, h3, r3⟩ := trodAll_cons r2
  obtain ⟨rfl, rfl, rfl⟩ := trodAll_nil r3
  obtain rfl : args = #[v0, v1, v2, v3] := by cases args; simp_all
  obtain ⟨rfl, rfl⟩ := trodVars_none hV
  obtain ⟨a0, rfl, rfl, rfl, w0⟩ := open_int Try.underlying22 (hval 0 22 v0 rfl rfl) h0
  have b0 := bounds_u64 w0
  obtain ⟨x0, x1, hx, rfl⟩ := open_vol (hval 1 30 v1 rfl rfl) h1
  obtain ⟨y0, y1, y2, hy0, hy1, hy2, hy3, rfl⟩ := open_blk (hval 2 37 v2 rfl rfl) h2
  obtain ⟨v0, hv0, hv1, rfl⟩ := open_val (hval 3 38 v3 rfl rfl) h3
  refine (walk a0 x0 x1 y0 y2 y1 v0 b0 hx hy0 hy1 hy2 hy3 hv0 hv1 W).mono fun e W' ⟨he, hb⟩ => ?_
  subst he
  exact ⟨_, rfl, law_post hW' rfl rfl rfl (by kernel_rfl) hb⟩

/-- The statement. -/
theorem proved : Rows.EntryVolumesSaid :=
  OpenClaim.holds_of_wide 4 Try.f4 rfl rfl rfl rfl rfl rfl rfl ⟨rfl, rfl, rfl, rfl, rfl⟩ rfl rfl rfl rfl rfl (by kernel_rfl) Try.func4 (by kernel_rfl)
    (of_decide_eq_true (by kernel_rfl)) (by unfold Func.isWrapper; first | (rw [if_pos (by decide +kernel)]; kernel_rfl) | (rw [if_neg (by decide +kernel)]; exact ⟨rfl, rfl⟩))
    (fun os started H enc _ => lifted os started H enc)
#print axioms proved
end Go.Proofs.Ytbhkhkiidaemcaa.entryVolumes
