/-
  Contracts of package hashlog: New, Count, whether a call made it, whether a text stands at a sum; bytes.Equal, bytes.Clone. Condition: the log lies in memory as a list of texts.
-/
import Derived.Test.YtjdamlmoegippaaDoorHlLA
import Derived.StillTailTactics
import Derived.Deep.RegionHeld
import Derived.Deep.MidRow
import Derived.Deep.QuietTactic
import Derived.BigQuiet
import Derived.IntWalk
import Derived.WalkSpells
namespace Go.Proofs.YtjdamlmoegippaaDoor.hl
open Go.RowKit
theorem yieldsIf_load_at {P : Program} {ops : Array Oper} {S : World → Prop} {op : Oper} {a : Act} (hw : Region.wanted op (yielded ops a.tmps) = true) (ty : TypeId) (x : Operand) (ho : op.op = .load ty x)
    (b o : Nat) (hx : a.eval x = .pointer (some ⟨b, o, none⟩)) (cs : Array Value) (d : TypeDesc) (hS : ∀ w, S w → w.rangeAt b o cs.toList)
    (hu : P.underlying ty = some d) (hd : d.isRow = true) (hi : (P.info? ty).map (·.size) = some cs.size) : YieldsIf P ops S op (.agg cs) a :=
  yieldsIf_load_mid hw ty x ho b o hx cs.toList d hS hu hd (by rw [Array.length_toList]; exact hi)
theorem range_row {W : World} {g : Nat} {c : Array Value} {t : TypeId} {fr : Nat × Nat} (h : W.heap[g]? = some (.cells c t fr)) : W.rangeAt g 0 c.toList := fun j v hv => by
  rw [Nat.zero_add, cell_of_row _ _ _ _ _ _ h, ← hv]; simp
theorem str_eq {xs ys : List Int} (hx : Byt xs) (hy : Byt ys) : ((strOfNums xs).toList == (strOfNums ys).toList) = decide (xs = ys) := by
  rw [strOfNums_toList, strOfNums_toList, Bool.eq_iff_iff]
  simp only [beq_iff_eq, decide_eq_true_eq]
  exact ⟨tob_inj hx hy, fun e => by rw [e]⟩
/-- bytes.Equal. -/
theorem equalB (v u : Value) (xs ys : List Int) (w : World) (h : Sees w v xs) (k : Sees w u ys) : Calls Tryd.prog 66 #[v, u] w fun e w' => e = .returned (.bool (decide (xs = ys))) ∧ w = w' := by
  have s1 := h.str
  have s2 := k.str
  have E := Lib.hid (str_eq h.1 k.1)
  obtain ⟨q, hq⟩ : ∃ q, q = decide (xs = ys) := ⟨_, rfl⟩
  rw [← hq] at E ⊢
  have e := E.out
  clear h k hq
  go_enter Tryd.func66, Tryd.ntmps66
  go_wp2_with fail
  go_ret
  exact ⟨rfl, rfl⟩
/-- Bytes appended to bytes of one's own: as long as the form reaches. -/
theorem appW {w : World} {base : Nat} {v u : Value} {xs ys : List Int} (h : Own w base v xs) (hs : Sees w u ys) (hn : xs.length + ys.length ≤ 140737488355328) (hbase : base ≤ w.heap.size) :
    ∃ x cap w', (Builtin.append_ #[37, 37] 37 #[v, u]).run Tryd.prog w = .ok (.slice x (xs.length + ys.length) cap) w' ∧ Own w' base (.slice x (xs.length + ys.length) cap) (xs ++ ys) ∧ w.grownBy w' v.ownBlock ∧ Below base w w' := by
  obtain ⟨i, hi, hz0, hz1, hz2⟩ := info_parts info5
  have fin : ∀ v' w', (Builtin.append_ #[37, 37] 37 #[v, u]).run Tryd.prog w = .ok v' w' → w'.ownsRow base 5 1 v' (xs.length + ys.length) (xs.map (Value.int .u8) ++ ys.map (Value.int .u8)) → w.grownBy w' v.ownBlock →
      ∃ x cap w', (Builtin.append_ #[37, 37] 37 #[v, u]).run Tryd.prog w = .ok (.slice x (xs.length + ys.length) cap) w' ∧ Own w' base (.slice x (xs.length + ys.length) cap) (xs ++ ys) ∧ w.grownBy w' v.ownBlock ∧ Below base w w' := by
    intro v' w' hr ho hg
    have hbel : Below base w w' := (Below.refl _ _).grown hg hbase (fun k e => (h.2.lt k e).1)
    have ho' : Own w' base v' (xs ++ ys) := ⟨h.1.append hs.1, by simpa using ho⟩
    rcases ho.2 with ⟨rfl, h0⟩ | ⟨g, cap, cur, rfl, _⟩
    · exact ⟨none, 0, w', by rw [h0]; exact hr, by rw [h0]; exact ho', hg, hbel⟩
    · exact ⟨_, _, w', hr, ho', hg, hbel⟩
  have hm : xs.length + ys.length ≤ maxLen := by unfold maxLen; omega
  have key : ∀ (a : Addr) (cap : Nat), u = .slice (some a) ys.length cap → (∀ i, i < ys.length → w.cell? (a.add i) = some (.int .u8 (nth ys i))) →
      ∃ x cap w', (Builtin.append_ #[37, 37] 37 #[v, u]).run Tryd.prog w = .ok (.slice x (xs.length + ys.length) cap) w' ∧ Own w' base (.slice x (xs.length + ys.length) cap) (xs ++ ys) ∧ w.grownBy w' v.ownBlock ∧ Below base w w' := by
    intro a cap hu hc
    obtain ⟨v', w', hr, ho, hg, _⟩ := run_append_own (P := Tryd.prog) w base 37 37 5 i _ 1 1 Tryd.underlying37 hi hz0 hz1 hz2 rfl (by decide) v xs.length _ h.2 a ys.length cap (ys.map (Value.int .u8)) (by simp) (fun j u' hj => by
        have hjl : j < ys.length := by
          rcases Nat.lt_or_ge j ys.length with h | h
          · exact h
          · simp [List.getElem?_eq_none (show (ys.map (Value.int .u8)).length ≤ j by simpa using h)] at hj
        rw [hc j hjl, ← hj]
        simp [nth, List.getD, hjl]) (by simp [Value.oneCell']) hm (by omega) hbase
    rw [← hu] at hr
    exact fin v' w' hr ho hg
  obtain ⟨h1, ⟨hu, rfl⟩ | ⟨a, cap, hu, rfl, _⟩ | ⟨b, o, cap, hu, h3, h4, h5, h6⟩⟩ := id hs
  · have hr := run_append_owned_none (P := Tryd.prog) (w := w) base 37 37 5 i 1 Tryd.underlying37 hi v xs.length _ h.2
    rw [← hu] at hr
    exact fin v w hr (by simpa using h.2) ⟨rfl, rfl, rfl, Nat.le_refl _, fun _ _ _ => rfl⟩
  · exact key a cap hu (by simp)
  · refine key _ cap hu fun i hi => ?_
    have hplain : (⟨b, o, none⟩ : Addr).add i = ⟨b, o + i, none⟩ := by unfold Addr.add; split <;> simp_all
    rw [hplain]
    exact h6 i hi
/-- bytes.Clone. -/
def CloneP (w : World) (xs : List Int) (e : Ending) (w' : World) : Prop := ∃ (u : Value), e = .returned u ∧ (∃ x c, u = .slice x xs.length c) ∧ Own w' w.heap.size u xs ∧ Below w.heap.size w w'
theorem cloneB (v : Value) (xs : List Int) (hl : xs.length ≤ 140737488355328) (w : World) (h : Sees w v xs) : Calls Tryd.prog 53 #[v] w (CloneP w xs) := by
  obtain ⟨x, cap, rfl, _⟩ := h.form
  by_cases hn : x = none
  · subst hn
    have h0 : xs = [] ∧ cap = 0 := by
      rcases h.2 with ⟨e1, e2⟩ | ⟨a, c, e1, _⟩ | ⟨b, o, c, e1, _⟩
      · simp only [Value.slice.injEq] at e1
        exact ⟨e2, e1.2.2⟩
      · simp at e1
      · simp at e1
    obtain ⟨rfl, rfl⟩ := h0
    clear h
    have nn := fun (W : World) => Go.run_eql_nil_slice (P := Tryd.prog) W 37 5 none 0 0 0 0 Tryd.underlying37
    go_enter Tryd.func53, Tryd.ntmps53
    go_wp2_with fail
    go_ret
    exact ⟨_, rfl, ⟨none, 0, rfl⟩, own_nil _ _, Below.refl _ _⟩
  · obtain ⟨a, rfl⟩ : ∃ a, x = some a := by cases x with
      | none => exact (hn rfl).elim
      | some a => exact ⟨a, rfl⟩
    have b0 : Below w.heap.size w (w.alloc (.cells #[] 5)) := (Below.refl _ _).alloc (Nat.le_refl _) _
    have own0 : Own (w.alloc (.cells #[] 5)) w.heap.size (.slice (some ⟨w.heap.size, 0, none⟩) 0 0) [] := ⟨fun _ h => by simp at h, rfl, .inr ⟨w.heap.size, 0, #[], rfl, Nat.le_refl _, heap_alloc_new w _, Nat.le_refl _, by decide, rfl, rfl⟩⟩
    obtain ⟨q, c, w', hr, ho, hg, hb⟩ := appW own0 (h.below b0) (by show 0 + xs.length ≤ _; omega) (by simp)
    simp only [List.length_nil, Nat.zero_add, List.nil_append] at hr ho
    have HR := Lib.hid hr
    have HO := Lib.hid ho
    have HB := Lib.hid (b0.trans hb)
    have nn := fun (W : World) => Lib.run_eql_slice_nil (P := Tryd.prog) W 37 5 (some a) xs.length cap 0 0 Tryd.underlying37
    clear h hn hr ho hg hb b0 own0 hl
    go_enter Tryd.func53, Tryd.ntmps53
    go_wp2_with (at_builtin; refine wpList_app rfl _ _ rfl rfl rfl rfl HR.out ?_)
    go_ret
    exact ⟨_, rfl, ⟨q, c, rfl⟩, HO.out, HB.out⟩
theorem lc0 (mb n : Nat) (cl : Bool) (C : List Int) : (lcells mb n cl C)[0]? = some (.map (some mb)) := rfl
theorem lc1 (mb n : Nat) (cl : Bool) (C : List Int) : (lcells mb n cl C)[1]? = some (.int .i64 (n : Int)) := rfl
theorem lc2 (mb n : Nat) (cl : Bool) (C : List Int) : (lcells mb n cl C)[2]? = some (.bool cl) := rfl
theorem lcsize (mb n : Nat) (cl : Bool) (C : List Int) : (lcells mb n cl C).size = 3 + C.length := by simp [lcells]; omega
section
variable {S : Nat → Prop} {w : World} {g mb s : Nat} {T : List (List Int)} {f : Lit → Option Value} {C : List Int}
theorem LGs.c0 (h : LGs S w g T mb s f C) : w.cell? ⟨g, 0, none⟩ = some (.map (some mb)) := (cell_of_row _ _ 0 _ _ _ h.head).trans (lc0 ..)
theorem LGs.c1 (h : LGs S w g T mb s f C) : w.cell? ⟨g, 1, none⟩ = some (.int .i64 (T.length : Int)) := (cell_of_row _ _ 1 _ _ _ h.head).trans (lc1 ..)
theorem LGs.c2 (h : LGs S w g T mb s f C) : w.cell? ⟨g, 2, none⟩ = some (.bool (clk sha T).isSome) := (cell_of_row _ _ 2 _ _ _ h.head).trans (lc2 ..)
end
theorem isMadeY (S : Nat → Prop) (g : Nat) (T : List (List Int)) (w : World) (h : LG S w g T) : Calls Tryd.prog 47 #[.pointer (some ⟨g, 0, none⟩)] w fun e w' => e = .returned (.bool true) ∧ w = w' := by
  obtain ⟨mb, s, f, C, h⟩ := h
  have c0 := h.c0
  have nn := fun (W : World) => Go.run_neq_map_nil (P := Tryd.prog) W 106 24 55 (some mb) Tryd.underlying106
  clear h
  go_enter Tryd.func47, Tryd.ntmps47
  go_wp2_with fail
  go_ret
  exact ⟨rfl, rfl⟩
theorem lg_new (w : World) (h2 : 2 ≤ w.heap.size) : LG (fun b => w.heap.size ≤ b ∧ b < w.heap.size + 2) ((w.alloc (.map #[] 0)).alloc (.cells (lcells w.heap.size 0 false (List.replicate 32 0)) 108)) (w.heap.size + 1) [] := by
  refine ⟨w.heap.size, 0, fun _ => none, List.replicate 32 0, ?_⟩
  have hm := MapV.made (k := 24) w Tryd.prog
  exact {
    head := heap_alloc2_new w _ _
    map := hm.same (by rw [Below.heap_alloc _ _ _ (by simp)])
    rows := fun k _ _ => .inl ⟨rfl, rfl⟩
    apart := fun j k _ _ _ _ _ v u hv => by cases hv
    own := fun b hb => ⟨by omega, by simp; omega⟩
    sg := ⟨by omega, by omega⟩
    sm := ⟨by omega, by omega⟩
    small := Nat.le_refl _
    nodup := List.nodup_nil
    byt := fun t ht => by cases ht
    clash := fun c hc => by cases hc
    clen := ⟨by simp, byt_zero 32⟩ }
/-- A new log. -/
def NewLP (w : World) (e : Ending) (w' : World) : Prop := ∃ g, e = .returned (.pointer (some ⟨g, 0, none⟩)) ∧ LG (fun b => w.heap.size ≤ b ∧ b < w.heap.size + 2) w' g [] ∧ w.heap.size ≤ g ∧ Below w.heap.size w w'
theorem newL (w : World) (h2 : 2 ≤ w.heap.size) : Calls Tryd.prog 30 #[] w (NewLP w) := by
  have hmm := @run_makeMap Tryd.prog
  have LGN := Lib.hid (lg_new w h2)
  have BB : Hid (Below w.heap.size w ((w.alloc (.map #[] 0)).alloc (.cells (lcells w.heap.size 0 false (List.replicate 32 0)) 108))) := ((Below.refl _ _).alloc (Nat.le_refl _) _).alloc (by simp) _
  clear h2
  go_enter Tryd.func30, Tryd.ntmps30
  go_wp2_with fail
  go_ret
  exact ⟨_, rfl, LGN.out, by omega, BB.out⟩
set_option maxRecDepth 100000 in
set_option maxHeartbeats 4000000 in
theorem stands (S : Nat → Prop) (g mb s : Nat) (T : List (List Int)) (f : Lit → Option Value) (C k b : List Int) (v : Value) (w : World) (h : LGs S w g T mb s f C) (hk : Byt k) (lk : k.length = 32) (hv : Sees w v b) (hT : T.length ≤ 1000000) :
    Calls Tryd.prog 60 #[.pointer (some ⟨g, 0, none⟩), .agg (bcells k), v] w fun e w' => e = .returned (.bool (decide (b ∈ ofSum sha T k))) ∧ Below w.heap.size w w' := by
  obtain ⟨W1, hW1⟩ : ∃ W1, W1 = w.alloc (.cells (bcells k) 24) := ⟨_, rfl⟩
  have bw : Below w.heap.size w W1 := by rw [hW1]; exact (Below.refl _ _).alloc (Nat.le_refl _) _
  have G1 : Hid (W1.heap[w.heap.size]? = some (.cells (bcells k) 24 (0, 0))) := by show _ = _; rw [hW1]; exact heap_alloc_new w _
  have h1 : LGs S W1 g T mb s f C := h.same (fun b hb => bw.block b (h.own b hb).2) bw.size
  have C0 := Lib.hid h1.c0
  have LTG := Lib.hid (blk_lt h1.head)
  have IK : Hid ((Tryd.prog.info? 24).map (·.size) = some (bcells k).size) := by show _ = _; rw [i27, bsize, lk]
  have zs : ∀ W : World, (zeroValue 55).run Tryd.prog W = .ok (.slice none 0 0) W := fun W => by kernel_rfl
  have HV := Lib.hid (hv.below bw)
  obtain ⟨V, hV⟩ : ∃ V, V = (f (kl k)).getD (.slice none 0 0) := ⟨_, rfl⟩
  have ROW : ∃ (x : Option Addr) (c : Nat), V = .slice x (ofSum sha T k).length c ∧ ∀ i t, (ofSum sha T k)[i]? = some t → ∃ gb u, x = some ⟨gb, 0, none⟩ ∧ gb < W1.heap.size ∧ W1.cell? ⟨gb, i, none⟩ = some u ∧ Sees W1 u t := by
    rcases h1.rows k hk lk with ⟨e1, e2⟩ | ⟨v', xs, e1, e2, ⟨hl, ⟨e3, e4⟩ | ⟨gb, cap, cur, rfl, _, hg, hn, hm, hsz, ht⟩⟩, e5, e6⟩
    · refine ⟨none, 0, by rw [hV, e1, e2]; rfl, fun i t hi => ?_⟩
      rw [e2] at hi
      simp at hi
    · exact (e2 (List.length_eq_zero_iff.1 e4)).elim
    · refine ⟨_, _, by rw [hV, e1]; rfl, fun i t hi => ?_⟩
      obtain ⟨u, e7, e8⟩ := e6 i t hi
      refine ⟨gb, u, rfl, blk_lt hg, ?_, e8.1⟩
      rw [cell_of_row _ _ _ _ _ _ hg]
      have hil : i < (ofSum sha T k).length := (List.getElem?_eq_some_iff.1 hi).1
      rw [← ht, List.getElem?_take_of_lt (by omega)] at e7
      simpa using e7
  have LK : Hid (∀ W : World, Below W1.heap.size W1 W → (Instr.lookup 106 (.map (some mb)) (.agg (bcells k)) false).run Tryd.prog W = .ok V W) := fun W hW => by
    rw [hV]
    exact (h1.map.same (hW.block _ h1.map.lt)).look keyed31 Tryd.underlying106 (zs W) (kl_is k hk lk)
  obtain ⟨x, c, rfl, hrow⟩ := ROW
  have HROW := Lib.hid hrow
  have HB := Lib.hid bw
  have RLEN : Hid ((ofSum sha T k).length ≤ 1000000) := Nat.le_trans (List.length_filter_le _ _) hT
  have HBB := Lib.hid hv.1
  obtain ⟨R, hR⟩ : ∃ R, R = ofSum sha T k := ⟨_, rfl⟩
  rw [← hR] at HROW RLEN LK ⊢
  have RB : Hid (∀ t ∈ R, Byt t) := fun t ht => by rw [hR] at ht; exact (h.byt t ((mem_ofSum sha).1 ht).1).1
  obtain ⟨n, hn⟩ : ∃ n, n = R.length := ⟨_, rfl⟩
  rw [← hn] at LK RLEN
  have HN := Lib.hid hn
  have hni : (n : Int) ≤ 1000000 := by have := RLEN.out; omega
  have HW1 := Lib.hid hW1
  clear h h1 hk lk hv bw hV hrow hR hn hW1 hT
  go_enter Tryd.func60, Tryd.ntmps60
  go_wp2_with fail
  rw [← HW1.out]
  refine wp_region_held_drew (S := fun W => Below W1.heap.size W1 W) (by kernel_rfl) (Below.refl _ _).drew (fun hS => ?_)
  refine' wpAnyH_take (i := 0) ?h1x0s ?hsx0s ?hfx0s ?hrx0s ?hQx0s (Or.inl ⟨?hwx0s, ?hyx0s⟩) hS ?restx0s
  case h1x0s => (simp only [List.getElem?_toArray, List.getElem?_cons_zero]; rfl)
  case hsx0s | hfx0s | hrx0s => kernel_rfl
  case hQx0s => exact fun _ _ _ h => h
  case hwx0s => rfl
  case hyx0s =>
    intro W hW
    go_simp
    try with_reducible rfl
  simp only [Act.put, List.setIfInBounds_toArray, List.set_cons_succ, List.set_cons_zero]
  refine' wpAnyH_take (i := 1) ?h1x1s ?hsx1s ?hfx1s ?hrx1s ?hQx1s (Or.inl ⟨?hwx1s, ?hyx1s⟩) hS ?restx1s
  case h1x1s => (simp only [List.getElem?_toArray, List.getElem?_cons_succ, List.getElem?_cons_zero]; rfl)
  case hsx1s | hfx1s | hrx1s => kernel_rfl
  case hQx1s => exact fun _ _ _ h => h
  case hwx1s => rfl
  case hyx1s =>
    intro W hW
    go_simp
    try with_reducible rfl
  simp only [Act.put, List.setIfInBounds_toArray, List.set_cons_succ, List.set_cons_zero]
  refine' wpAnyH_take (i := 2) ?h1x2s ?hsx2s ?hfx2s ?hrx2s ?hQx2s (Or.inl ⟨?hwx2s, ?hyx2s⟩) hS ?restx2s
  case h1x2s => (simp only [List.getElem?_toArray, List.getElem?_cons_succ, List.getElem?_cons_zero]; rfl)
  case hsx2s | hfx2s | hrx2s => kernel_rfl
  case hQx2s => exact fun _ _ _ h => h
  case hwx2s => rfl
  case hyx2s =>
    intro W hW
    go_simp
    try with_reducible rfl
  simp only [Act.put, List.setIfInBounds_toArray, List.set_cons_succ, List.set_cons_zero]
  refine' wpAnyH_take (i := 3) ?h1x3s ?hsx3s ?hfx3s ?hrx3s ?hQx3s (Or.inl ⟨?hwx3s, ?hyx3s⟩) hS ?restx3s
  case h1x3s => (simp only [List.getElem?_toArray, List.getElem?_cons_succ, List.getElem?_cons_zero]; rfl)
  case hsx3s | hfx3s | hrx3s => kernel_rfl
  case hQx3s => exact fun _ _ _ h => h
  case hwx3s => rfl
  case hyx3s =>
    intro W hW
    have c0 := (hW.cell (p := ⟨g, 0, none⟩) LTG.out).trans C0.out
    go_simp
    try with_reducible rfl
  simp only [Act.put, List.setIfInBounds_toArray, List.set_cons_succ, List.set_cons_zero]
  refine' wpAnyH_take (i := 4) ?h1x4s ?hsx4s ?hfx4s ?hrx4s ?hQx4s (yieldsIf_load_at ?hwx4s 24 (.tmp 4) ?hopx4s w.heap.size 0 rfl (bcells k) _ (fun W hW => range_row ((hW.block _ (blk_lt G1.out)).trans G1.out)) Tryd.underlying24 rfl ?hix4s) hS ?restx4s
  case h1x4s => (simp only [List.getElem?_toArray, List.getElem?_cons_succ, List.getElem?_cons_zero]; rfl)
  case hopx4s => rfl
  case hsx4s | hfx4s | hrx4s => kernel_rfl
  case hQx4s => exact fun _ _ _ h => h
  case hwx4s => rfl
  case hix4s => exact IK.out
  simp only [Act.put, List.setIfInBounds_toArray, List.set_cons_succ, List.set_cons_zero]
  refine' wpAnyH_take (i := 5) ?h1x5s ?hsx5s ?hfx5s ?hrx5s ?hQx5s (Or.inl ⟨?hwx5s, ?hyx5s⟩) hS ?restx5s
  case h1x5s => (simp only [List.getElem?_toArray, List.getElem?_cons_succ, List.getElem?_cons_zero]; rfl)
  case hsx5s | hfx5s | hrx5s => kernel_rfl
  case hQx5s => exact fun _ _ _ h => h
  case hwx5s => rfl
  case hyx5s =>
    intro W hW
    have lk := LK.out W hW
    go_simp
    try with_reducible rfl
  simp only [Act.put, List.setIfInBounds_toArray, List.set_cons_succ, List.set_cons_zero]
  refine' wpAnyH_take (i := 6) ?h1x6s ?hsx6s ?hfx6s ?hrx6s ?hQx6s (Or.inl ⟨?hwx6s, ?hyx6s⟩) hS ?restx6s
  case h1x6s => (simp only [List.getElem?_toArray, List.getElem?_cons_succ, List.getElem?_cons_zero]; rfl)
  case hsx6s | hfx6s | hrx6s => kernel_rfl
  case hQx6s => exact fun _ _ _ h => h
  case hwx6s => rfl
  case hyx6s =>
    intro W hW
    go_simp
    try with_reducible rfl
  simp only [Act.put, List.setIfInBounds_toArray, List.set_cons_succ, List.set_cons_zero]
  refine' wpAnyH_take (i := 7) ?h1x7s ?hsx7s ?hfx7s ?hrx7s ?hQx7s (Or.inl ⟨?hwx7s, ?hyx7s⟩) hS ?restx7s
  case h1x7s => (simp only [List.getElem?_toArray, List.getElem?_cons_succ, List.getElem?_cons_zero]; rfl)
  case hsx7s | hfx7s | hrx7s => kernel_rfl
  case hQx7s => exact fun _ _ _ h => h
  case hwx7s => rfl
  case hyx7s =>
    intro W hW
    go_simp
    try with_reducible rfl
  simp only [Act.put, List.setIfInBounds_toArray, List.set_cons_succ, List.set_cons_zero]
  refine wpAnyH_done (by kernel_rfl) ?_ _
  obtain ⟨W2, hW2⟩ : ∃ W2, W2 = W1.drew := ⟨_, rfl⟩
  have B2 : Hid (Below W1.heap.size W1 W2) := by rw [hW2]; exact (Below.refl _ _).drew
  rw [← hW2]
  clear hS hW2
  go_wp2_with fail
  go_loopw [16] (fun vi wr => ∃ i : Nat, i ≤ n ∧ vi = .int .i64 (i : Int) ∧ (∀ t ∈ R.take i, t ≠ b) ∧ wr = W2) (fun vi _ => n - (intOf vi).toNat)
  case atStart => exact ⟨0, by omega, rfl, fun t ht => by simp at ht, rfl⟩
  case round =>
    obtain ⟨i, hi, rfl, hall, rfl⟩ := hrel
    have HALL := Lib.hid hall
    clear hall
    by_cases hlt : i < n
    · have hii : (i : Int) < (n : Int) := by omega
      have hir : i < R.length := by have := HN.out; omega
      obtain ⟨gb, u, rfl, hgl, hcu, hsu⟩ := HROW.out i R[i] (List.getElem?_eq_getElem hir)
      have cu : wr.cell? ⟨gb, i, none⟩ = some u := (B2.out.cell (p := ⟨gb, i, none⟩) hgl).trans hcu
      have EQ := Lib.hid (equalB u v R[i] b wr (hsu.below B2.out) (HV.out.below B2.out))
      have LGB := Lib.hid hgl
      have TS : Hid (R.take (i + 1) = R.take i ++ [R[i]]) := List.take_succ_eq_append_getElem hir
      by_cases e : R[i] = b
      · have IN : Hid (b ∈ R) := by show b ∈ R; rw [← e]; exact List.getElem_mem hir
        rw [show decide (R[i] = b) = true from decide_eq_true e] at EQ
        clear hcu hsu e hgl
        go_wp2_with fail
        refine EQ.out.mono ?_
        rintro e w' ⟨rfl, rfl⟩
        go_wp2_with fail
        go_ret
        exact ⟨by rw [show decide (b ∈ R) = true from decide_eq_true IN.out]; rfl, HB.out.trans (B2.out.mono HB.out.size)⟩
      · have NE : Hid (∀ t ∈ R.take (i + 1), t ≠ b) := fun t ht => by
          rw [TS.out, List.mem_append] at ht
          rcases ht with ht | ht
          · exact HALL.out t ht
          · simp at ht; rw [ht]; exact e
        rw [show decide (R[i] = b) = false from decide_eq_false e] at EQ
        clear hcu hsu e hgl
        go_wp2_with fail
        refine EQ.out.mono ?_
        rintro e w' ⟨rfl, rfl⟩
        go_wp2_with fail
        go_roundw
        case rel => exact ⟨i + 1, by omega, by go_num, NE.out, by first | exact rfl | trivial⟩
        case measure => simp [intOf]; omega
    · have hin : i = n := by omega
      have NI : Hid (b ∉ R) := fun hb => by
        have := HALL.out b (by rw [hin, HN.out, List.take_length]; exact hb)
        exact this rfl
      have hge : ¬ (i : Int) < (n : Int) := by omega
      clear hin
      go_wp2_with fail
      go_ret
      exact ⟨by rw [show decide (b ∈ R) = false from decide_eq_false NI.out]; rfl, HB.out.trans (B2.out.mono HB.out.size)⟩
end Go.Proofs.YtjdamlmoegippaaDoor.hl
