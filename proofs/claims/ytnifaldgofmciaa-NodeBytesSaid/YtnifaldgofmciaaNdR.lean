/-
  Contract of node.read. Condition: the slice reads as bytes.
-/
import Derived.Test.YtnifaldgofmciaaNdQ
import Derived.Test.YtnifaldgofmciaaNdO
import Derived.Deep.DeepCutAuto
namespace Go.Proofs.Ytnifaldgofmciaa
open Go.RowKit
open oc (Byt Sees Own be nth got rst shrt getV)
theorem alloc_setRowT (w : World) (o cs : Array Value) (t : TypeId) (g : Nat) (hg : w.heap.size = g) : (w.alloc (.cells o t)).setRow g cs = w.alloc (.cells cs t) := by
  subst hg
  cases w with
  | mk heap tape drawn os output =>
    simp only [World.setRow, World.alloc]
    congr 1
    apply Array.ext
    · simp
    · intro k h1 h2
      simp only [Array.getElem_modify, Array.getElem_push]
      split
      · rename_i hk; subst hk; simp
      · rename_i hk
        have : k < heap.size := by simp at h1; omega
        simp [this]
def kcI (p : RS) (i : Nat) : List Value := (List.range i).map fun j => .int .u64 (keyA false p j)
def qcI (p : RS) (i : Nat) : List Value := (List.range i).flatMap fun j => kid (kidA p j)
theorem kcI_succ (p : RS) (i : Nat) : kcI p i ++ [.int .u64 (keyA false p i)] = kcI p (i + 1) := by unfold kcI; rw [List.range_succ, List.map_append]; rfl
theorem qcI_succ (p : RS) (i : Nat) : qcI p i ++ kid (kidA p i) = qcI p (i + 1) := by unfold qcI; rw [List.range_succ, List.flatMap_append]; simp
theorem wpList_build_any {ops : Array Oper} {rest : List Oper} {o : Oper} {a : Act} {w : World} {Q : Exit → Act → World → Prop} (hgd : o.guard = none) (t : TypeId) (parts : Array (Nat × Operand)) (ho : o.op = .build t parts)
    (vs : Array (Nat × Value)) (hv : parts.map (fun (i, x) => (i, a.eval x)) = vs) {v : Value} (hr : (Instr.build t vs).run Try.prog w = .ok v w) (h : wpList Try.prog ops Q rest (a.put o.dst v) w) : wpList Try.prog ops Q (o :: rest) a w := by
  refine wpList_plain hgd fun K hK => ?_
  subst hv
  unfold Oper.wp execOp
  simp only [ho, Sem.run_bind, Sem.run_pure]
  rw [hr]
  exact hK _ _ h
theorem wpList_bs24 {ops : Array Oper} {rest : List Oper} {o : Oper} {a : Act} {w : World} {Q : Exit → Act → World → Prop} (hgd : o.guard = none) (x : Operand) (ho : o.op = .buildSlice 24 1 #[(0, x)]) {u v' : Value} {w' : World}
    (hx : a.eval x = u) (hr : (Instr.buildSlice 24 1 #[(0, u)]).run Try.prog w = .ok v' w') (h : wpList Try.prog ops Q rest (a.put o.dst v') w') : wpList Try.prog ops Q (o :: rest) a w := by
  refine wpList_plain hgd fun K hK => ?_
  unfold Oper.wp execOp
  simp only [ho, Sem.run_bind, Sem.run_pure, Result.andThen_ok, List.map_toArray, List.map_cons, List.map_nil, hx, hr]
  exact hK _ _ h
theorem readI_fin {p : RS} {c C : Nat} {xs : List Int} {K V : Value} {W : World} (ho : W.ownsRow C 52 1 K c (kcI p c)) (hr : W.ownsRow C 67 33 V c (qcI p c)) (hp : p = begR xs) (hc : cntR xs = c) (hlf : lfR xs = false) (hb : Byt p.1) (h9 : (c : Int) ≤ 255) :
    ND W (.agg #[.bool false, K, .slice none 0 0, V]) (rdN xs) ∧ ∀ p ∈ (rdN xs).qs, 0 ≤ p.1 ∧ p.1 ≤ 4294967295 := by
  have e : rdN xs = { leaf := false, ks := (List.range c).map (keyA false p), vs := [], qs := (List.range c).map (kidA p) } := by
    unfold rdN
    rw [hlf, hc, hp]
    simp
  have hv : ∀ z ∈ (List.range c).map (kidA p), ((∀ x ∈ z.2, 0 ≤ x ∧ x ≤ 255) ∧ z.2.length = 32) ∧ 0 ≤ z.1 ∧ z.1 ≤ 4294967295 := fun z hz => by
    obtain ⟨j, _, rfl⟩ := List.mem_map.1 hz
    exact kid_ok hb j
  rw [e]
  refine ⟨⟨K, _, V, rfl, ks_own (C := C) (n := c) ?_ ?_ (by omega), ⟨by simp, by simp, none, 0, rfl, fun i y hi => by simp at hi⟩, es_own (C := C) (n := c) (ty := 67) ?_ ?_ (by simp) (by omega), by simp, fun z hz => (hv z hz).1⟩, fun z hz => (hv z hz).2⟩
  · rw [List.map_map]
    exact ho
  · intro k hk
    obtain ⟨j, _, rfl⟩ := List.mem_map.1 hk
    exact key_bound hb j
  · rw [List.flatMap_map]
    exact hr
  · intro z hz
    simp [kid, (hv z hz).1.2]
set_option maxRecDepth 100000 in
set_option maxHeartbeats 8000000 in
theorem read_inner (v : Value) (xs : List Int) (w : World) (hs : Sees w v xs) (hm : xs.length ≤ 140737488355328) (hlf : lfR xs = false) : Calls Try.prog 31 #[v] w (ReadNP w xs) := by
  obtain ⟨wa, hwa⟩ : ∃ wa, wa = w.alloc (.cells #[.bool false, .slice none 0 0, .slice none 0 0, .slice none 0 0] 26) := ⟨_, rfl⟩
  have ba : Below w.heap.size w wa := by rw [hwa]; exact (Below.refl _ _).alloc (Nat.le_refl _) _
  have ea : wa.heap[w.heap.size]? = some (.cells #[.bool false, .slice none 0 0, .slice none 0 0, .slice none 0 0] 26 (0, 0)) := by rw [hwa]; exact heap_alloc_new w _
  have HS := Lib.hid (hs.below ba)
  have HWA := Lib.hid hwa
  have BA := Lib.hid ba
  have EA := Lib.hid ea
  obtain ⟨fx, hfx⟩ : ∃ fx, fx = getV (got xs false 1) 0 1 := ⟨_, rfl⟩
  have lf1 : (fx == 1) = false := by
    have : ¬ getV (got xs false 1) 0 1 = 1 := of_decide_eq_false hlf
    rw [hfx]; simpa using this
  have LF := Lib.hid hfx
  clear hfx
  have HBY := Lib.hid hs.1
  clear hs hwa ba ea
  go_enter Try.func31, Try.ntmps31
  go_wp2_with fail
  rw [← HWA.out]
  obtain ⟨w1, hw1⟩ : ∃ w1, w1 = (wa.alloc (.cells (oc.bcells xs) 5)).alloc (.cells #[.slice (some ⟨wa.heap.size, 0, none⟩) xs.length xs.length, .bool false] 106) := ⟨_, rfl⟩
  have R1 : Hid (ov.RD (wa.heap.size + 2) w1 (wa.heap.size + 1) xs false) := by show ov.RD _ _ _ _ _; rw [hw1]; exact ov.rd_made _ wa xs HBY.out (by unfold maxLen; omega) (by omega)
  have B1 : Hid (Below wa.heap.size wa w1) := by show Below _ _ _; rw [hw1]; exact ((Below.refl _ _).alloc (Nat.le_refl _) _).alloc (by simp) _
  refine (oc.read_rd v xs hm wa HS.out).mono ?_
  rintro e w1' ⟨rfl, hx⟩
  rw [← hw1] at hx
  subst hx
  have SZ1 : Hid (wa.heap.size + 2 ≤ w1.heap.size) := by show _ ≤ _; rw [hw1]; simp
  clear hw1
  have HG0 : Hid (wa.heap.size + 1 < wa.heap.size + 2) := by show _ < _; omega
  generalize hB : wa.heap.size + 2 = B at *
  generalize hg : wa.heap.size + 1 = g at *
  go_wp2_with fail
  refine (ov.u8 B g xs false w1 R1.out).mono ?_
  rintro e w2 ⟨rfl, hr, hgr⟩
  rw [← LF.out]
  have hr : ov.RD B w2 g (nxt (xs, false) 1).1 (nxt (xs, false) 1).2 := hr
  have R2 := Lib.hid hr
  have B2 : Hid (Below wa.heap.size wa w2) := by show Below _ _ _; exact B1.out.grown hgr B1.out.size (fun k e => by cases e; omega)
  have SZ2 : Hid (B ≤ w2.heap.size) := Nat.le_trans SZ1.out hgr.size
  clear hr hgr
  go_wp2_with fail
  obtain ⟨w3, hw3⟩ : ∃ w3, w3 = w2.alloc (.cells #[.bool false, .slice none 0 0, .slice none 0 0, .slice none 0 0] 26) := ⟨_, rfl⟩
  rw [← hw3]
  have R3 : Hid (ov.RD B w3 g (nxt (xs, false) 1).1 (nxt (xs, false) 1).2) := by show ov.RD _ _ _ _ _; rw [hw3]; exact R2.out.below ((Below.refl _ _).alloc (Nat.le_refl _) _)
  have B3 : Hid (Below wa.heap.size wa w3) := by show Below _ _ _; rw [hw3]; exact B2.out.alloc B2.out.size _
  have G3 : Hid (w3.heap[w2.heap.size]? = some (.cells #[.bool false, .slice none 0 0, .slice none 0 0, .slice none 0 0] 26 (0, 0))) := by show _ = _; rw [hw3]; exact heap_alloc_new w2 _
  have NE : Hid (w2.heap.size ≠ g) := by have := R2.out.lt; show _ ≠ _; omega
  have GA : Hid (wa.heap.size ≤ w2.heap.size) := B2.out.size
  clear hw3
  generalize w2.heap.size = gn at *
  refine (ov.u8 B g _ _ w3 R3.out).mono ?_
  rintro e w4 ⟨rfl, hr, hgr⟩
  have hr : ov.RD B w4 g (nxt (nxt (xs, false) 1) 1).1 (nxt (nxt (xs, false) 1) 1).2 := hr
  have R4 := Lib.hid hr
  have B4 : Hid (Below wa.heap.size wa w4) := by show Below _ _ _; exact B3.out.grown hgr B3.out.size (fun k e => by cases e; omega)
  have G4 : Hid (w4.heap[gn]? = some (.cells #[.bool false, .slice none 0 0, .slice none 0 0, .slice none 0 0] 26 (0, 0))) := (hgr.block gn (Array.getElem?_eq_some_iff.1 G3.out).1 (fun e => NE.out (by cases e; rfl))).trans G3.out
  have CN : Hid (getV (got (nxt (xs, false) 1).1 (nxt (xs, false) 1).2 1) 0 1 = cntR xs) := rfl
  rw [CN.out]
  obtain ⟨c, hc⟩ : ∃ c : Nat, cntR xs = c := Int.eq_ofNat_of_zero_le (gv_bound (nxt_byt (p := (xs, false)) HBY.out 1) 1 1 rfl).1
  have hc9 : (c : Int) ≤ 255 := by have := (gv_bound (nxt_byt (p := (xs, false)) HBY.out 1) 1 1 rfl).2; rw [← hc]; unfold cntR; omega
  rw [hc]
  clear hr hgr CN
  go_wp2_with fail
  have LQ : Hid (∀ n : Int, (nxt (nxt (xs, false) 1) 1).1.length ≤ 140737488355328) := fun _ => Nat.le_trans (nxt_len _ _) (Nat.le_trans (nxt_len _ _) hm)
  refine (ov.bytes_rd B g _ _ 6 (LQ.out 0) w4 R4.out).mono ?_
  rintro e w5 ⟨q5, rfl, _, _, hr, hgr⟩
  have hr : ov.RD B w5 g (begR xs).1 (begR xs).2 := hr
  have R5 := Lib.hid hr
  have B5 : Hid (Below wa.heap.size wa w5) := by show Below _ _ _; exact B4.out.grown hgr B4.out.size (fun k e => by cases e; omega)
  have G5 : Hid (w5.heap[gn]? = some (.cells #[.bool false, .slice none 0 0, .slice none 0 0, .slice none 0 0] 26 (0, 0))) := (hgr.block gn (Array.getElem?_eq_some_iff.1 G4.out).1 (fun e => NE.out (by cases e; rfl))).trans G4.out
  have LB : Hid ((begR xs).1.length ≤ 140737488355328) := Nat.le_trans (nxt_len _ _) (LQ.out 0)
  have YB : Hid (Byt (begR xs).1) := nxt_byt (nxt_byt (nxt_byt (p := (xs, false)) HBY.out 1) 1) 6
  clear hr hgr R1 R2 R3 R4 B1 B2 B3 B4 G3 G4 LQ
  obtain ⟨p, hp⟩ : ∃ p, p = begR xs := ⟨_, rfl⟩
  rw [← hp] at R5 LB YB
  have HP := Lib.hid hp
  have HC := Lib.hid hc
  clear hp hc LF
  go_wp2_with fail
  have E : Hid (EV wa B w5.heap.size g gn) := ⟨R5.out.lt, (Array.getElem?_eq_some_iff.1 G5.out).1, NE.out, Nat.le_trans SZ2.out (Nat.le_of_lt (Array.getElem?_eq_some_iff.1 G5.out).1), SZ2.out, by omega, GA.out⟩
  have MJ0 : Hid (MJ wa B w5.heap.size g gn (stA false p 0) 0 0 (kcI p 0) (qcI p 0) (.slice none 0 0) (.slice none 0 0) (.slice none 0 0) (.slice none 0 0) w5) :=
    ⟨G5.out, R5.out, World.ownsRow_nil _ _ _ _, World.ownsRow_nil _ _ _ _, .inl rfl, B5.out, Nat.le_refl _⟩
  generalize w5.heap.size = C at E MJ0
  clear R5 B5 G5 SZ1 SZ2 NE GA HG0 lf1
  go_loopw [18] (fun vi wr => ∃ (i : Nat) (kv vv : Value), i ≤ c ∧ vi = .int .u8 i ∧ MJ wa B C g gn (stA false p i) i i (kcI p i) (qcI p i) kv vv kv vv wr) (fun vi _ => c - (intOf vi).toNat)
  case atStart => exact ⟨0, _, _, by omega, rfl, MJ0.out⟩
  case round =>
    obtain ⟨i, kv, vv, hi, rfl, hM⟩ := hrel
    have HM := Lib.hid hM
    clear hM
    by_cases hlt : i < c
    · have hi16 : (i : Int) < (c : Int) := by omega
      have hi255 : (i : Int) ≤ 254 := by omega
      have i256 : i + 1 ≤ 256 := by omega
      have LQ : Hid ((nxt (nxt (stA false p i) 8) 4).1.length ≤ 140737488355328) := Nat.le_trans (nxt_len _ _) (Nat.le_trans (nxt_len _ _) (Nat.le_trans (stA_len i) LB.out))
      have KS1 := Lib.hid (kcI_succ p i)
      have VS1 := Lib.hid (qcI_succ p i)
      have ST1 : Hid (nxt (nxt (nxt (stA false p i) 8) 4) 32 = stA false p (i + 1)) := rfl
      have KE : Hid (getV (got (stA false p i).1 (stA false p i).2 8) 0 8 = keyA false p i) := rfl
      have QE : Hid (getV (got (nxt (stA false p i) 8).1 (nxt (stA false p i) 8).2 4) 0 4 = (kidA p i).1) := rfl
      have VE : Hid (((kidA p i).1, fix 32 (gt (nxt (nxt (stA false p i) 8) 4) 32)) = kidA p i) := rfl
      have GL := Lib.hid (gt_len (p := nxt (nxt (stA false p i) 8) 4) 32 32 rfl)
      have KO := kid_ok YB.out i
      have KL := Lib.hid KO.1.2
      have kx0 : 0 ≤ (kidA p i).1 := KO.2.1
      have kx1 : (kidA p i).1 ≤ 4294967295 := KO.2.2
      clear KO
      have BS24 := Lib.hid (bs24 (kidA p i) KL.out)
      have IK := Lib.hid (i67 KL.out)
      have HD := Lib.hid HM.out.drew
      have B67 := Lib.hid (b67 (kidA p i).1)
      have HZ67 := z67
      obtain ⟨ZQ, hZQ⟩ : ∃ ZQ, ZQ = (kid (0, List.replicate 32 0)).toArray := ⟨_, rfl⟩
      obtain ⟨KQ, hKQ⟩ : ∃ KQ, KQ = (kid ((kidA p i).1, List.replicate 32 0)).toArray := ⟨_, rfl⟩
      have IQ : Hid ((Try.prog.info? 67).map (·.size) = some KQ.size) := by show _ = _; rw [hKQ]; exact i67 (by simp)
      have SQ : Hid (ZQ.size = KQ.size) := by show _ = _; rw [hKQ, hZQ]; simp [kid]
      have OQ : Hid (KQ.all (·.oneCell') = true) := by show _ = _; rw [hKQ]; simp [kid, Value.oneCell']
      rw [← hZQ] at HZ67
      rw [← hKQ] at B67
      have HKQ := Lib.hid hKQ
      clear hZQ hKQ
      go_wp2_with fail
      refine wp_region_held_drew (S := fun _ => True) (by kernel_rfl) trivial (fun hS => ?_)
      refine' wpAnyH_take (i := 0) ?h1x0a ?hsx0a ?hfx0a ?hrx0a ?hQx0a (Or.inl ⟨?hwx0a, ?hyx0a⟩) hS ?restx0a
      case h1x0a => (simp only [List.getElem?_toArray, List.getElem?_cons_zero]; rfl)
      case hsx0a | hfx0a | hrx0a => kernel_rfl
      case hQx0a => exact fun _ _ _ h => h
      case hwx0a => rfl
      case hyx0a =>
        intro W hW
        go_simp
        try with_reducible rfl
      simp only [Act.put, List.setIfInBounds_toArray, List.set_cons_succ, List.set_cons_zero]
      refine' wpAnyH_take (i := 2) ?h1x2a ?hsx2a ?hfx2a ?hrx2a ?hQx2a (Or.inl ⟨?hwx2a, ?hyx2a⟩) hS ?restx2a
      case h1x2a => (simp only [List.getElem?_toArray, List.getElem?_cons_succ, List.getElem?_cons_zero]; rfl)
      case hsx2a | hfx2a | hrx2a => kernel_rfl
      case hQx2a => exact fun _ _ _ h => h
      case hwx2a => rfl
      case hyx2a =>
        intro W hW
        go_simp
        try with_reducible rfl
      simp only [Act.put, List.setIfInBounds_toArray, List.set_cons_succ, List.set_cons_zero]
      refine wpAnyH_ready (rs := [1, 3]) (by kernel_rfl) (by simp) ?_
      refine' (AllReadyH.cons ?hoc1b (fun K hK => ?stc1b) (AllReadyH.cons ?hoc3b (fun K hK => ?stc3b) AllReadyH.nil))
      case hoc1b => (simp only [List.getElem?_toArray, List.getElem?_cons_succ, List.getElem?_cons_zero]; rfl)
      case hoc3b => (simp only [List.getElem?_toArray, List.getElem?_cons_succ, List.getElem?_cons_zero]; rfl)
      case stc1b =>
        have dd := (cell_row HD.out.node 1).trans (show (#[Value.bool false, kv, .slice none 0 0, vv] : Array Value)[1]? = some kv from rfl)
        go_simp
        refine hK.out _ _ trivial (fun hHeld => ?_)
        clear hK K
        try simp only [Act.put, List.setIfInBounds_toArray, List.set_cons_succ, List.set_cons_zero]
        clear hS
        have hS := hHeld
        clear hHeld
        clear dd
        refine wpAnyH_ready (rs := [3]) (by kernel_rfl) (by simp) ?_
        refine' (AllReadyH.cons ?hoc3c (fun K hK => ?stc3c) AllReadyH.nil)
        case hoc3c => (simp only [List.getElem?_toArray, List.getElem?_cons_succ, List.getElem?_cons_zero]; rfl)
        go_simp
        refine (ov.u64 B g _ _ _ HD.out.rd).mono ?_
        rintro e W1 ⟨rfl, hr, hgr⟩
        rw [KE.out]
        have HM1 := Lib.hid (HD.out.call E.out (q' := nxt (stA false p i) 8) hr hgr)
        clear hr hgr
        go_wp2_with fail
        refine hK.out _ _ trivial (fun hHeld => ?_)
        clear hK K
        try simp only [Act.put, List.setIfInBounds_toArray, List.set_cons_succ, List.set_cons_zero]
        clear hS
        have hS := hHeld
        clear hHeld
        refine wpAnyH_ready (rs := [4]) (by kernel_rfl) (by simp) ?_
        refine' (AllReadyH.cons ?hoc4d (fun K hK => ?stc4d) AllReadyH.nil)
        case hoc4d => (simp only [List.getElem?_toArray, List.getElem?_cons_succ, List.getElem?_cons_zero]; rfl)
        go_simp
        refine hK.out _ _ trivial (fun hHeld => ?_)
        clear hK K
        try simp only [Act.put, List.setIfInBounds_toArray, List.set_cons_succ, List.set_cons_zero]
        clear hS
        have hS := hHeld
        clear hHeld
        have HM1a := Lib.hid (HM1.out.alloc (.cells #[.int .u64 (keyA false p i)] 52))
        obtain ⟨kv2, W2, hr2, hM2⟩ := HM1a.out.appK E.out (heap_alloc_new W1 _) i256
        rw [KS1.out] at hM2
        obtain ⟨y2, z2, rfl⟩ := own_form hM2.own
        have HM2 := Lib.hid hM2
        have HR2 := Lib.hid hr2
        clear hr2 hM2
        refine wpAnyH_ready (rs := [5]) (by kernel_rfl) (by simp) ?_
        refine' (AllReadyH.cons ?hoc5e (fun K hK => ?stc5e) AllReadyH.nil)
        case hoc5e => (simp only [List.getElem?_toArray, List.getElem?_cons_succ, List.getElem?_cons_zero]; rfl)
        refine step_appT 22 rfl _ _ rfl rfl rfl rfl HR2.out ?_
        refine hK.out _ _ trivial (fun hHeld => ?_)
        clear hK K
        try simp only [Act.put, List.setIfInBounds_toArray, List.set_cons_succ, List.set_cons_zero]
        clear hS
        have hS := hHeld
        clear hHeld
        refine' wpAnyH_take (i := 6) ?h1x6e ?hsx6e ?hfx6e ?hrx6e ?hQx6e (Or.inl ⟨?hwx6e, ?hyx6e⟩) hS ?restx6e
        case h1x6e => (simp only [List.getElem?_toArray, List.getElem?_cons_succ, List.getElem?_cons_zero]; rfl)
        case hsx6e | hfx6e | hrx6e => kernel_rfl
        case hQx6e => exact fun _ _ _ h => h
        case hwx6e => rfl
        case hyx6e =>
          intro W hW
          go_simp
          try with_reducible rfl
        simp only [Act.put, List.setIfInBounds_toArray, List.set_cons_succ, List.set_cons_zero]
        refine wpAnyH_ready (rs := [7]) (by kernel_rfl) (by simp) ?_
        refine' (AllReadyH.cons ?hoc7e (fun K hK => ?stc7e) AllReadyH.nil)
        case hoc7e => (simp only [List.getElem?_toArray, List.getElem?_cons_succ, List.getElem?_cons_zero]; rfl)
        have c1 := (cell_row HM2.out.node 1).trans (show (#[Value.bool false, kv, .slice none 0 0, vv] : Array Value)[1]? = some kv from rfl)
        have f1 := oc.frozen_block HM2.out.node 1
        go_simp
        have hW3 : W2.setCell ⟨gn, 1, none⟩ (.slice y2 (i + 1) z2) = W2.setRow gn #[.bool false, .slice y2 (i + 1) z2, .slice none 0 0, vv] := setCell_eq_setRow W2 gn 1 _ _ _ _ HM2.out.node
        have HM3 := Lib.hid (HM2.out.store E.out (.slice y2 (i + 1) z2) vv)
        rw [hW3]
        clear hW3 c1 f1
        obtain ⟨W3, hW3⟩ : ∃ W3, W3 = W2.setRow gn #[.bool false, .slice y2 (i + 1) z2, .slice none 0 0, vv] := ⟨_, rfl⟩
        rw [← hW3] at HM3 ⊢
        clear hW3
        refine hK.out _ _ trivial (fun hHeld => ?_)
        clear hK K
        try simp only [Act.put, List.setIfInBounds_toArray, List.set_cons_succ, List.set_cons_zero]
        clear hS
        have hS := hHeld
        clear hHeld
        refine wpAnyH_done (by kernel_rfl) ?_ _
        clear HM1 HM1a HM2 HR2 hS HD
        have c0 := (cell_row HM3.out.node 0).trans (show (#[.bool false, .slice y2 (i + 1) z2, .slice none 0 0, vv] : Array Value)[0]? = some (.bool false) from rfl)
        go_wp2_with fail
        refine (ov.u32 B g _ _ _ HM3.out.rd).mono ?_
        rintro e W4 ⟨rfl, hr, hgr⟩
        rw [QE.out]
        have HM4 := Lib.hid (HM3.out.call E.out (q' := nxt (nxt (stA false p i) 8) 4) hr hgr)
        clear hr hgr c0 HM3
        have hKb : ∀ k, (Value.slice y2 (i + 1) z2).ownBlock = some k → k < W4.heap.size := fun k e => (HM4.out.own.lt k e).2
        have hVb : ∀ k, vv.ownBlock = some k → k < W4.heap.size := fun k e => (HM4.out.row.lt k e).2
        have GN6 := Lib.hid (heap_alloc_new W4 (.cells ZQ 67))
        have RN6 := Lib.hid (alloc_setRowT W4 ZQ KQ 67 _ rfl)
        have G6 := Lib.hid (heap_alloc_new W4 (.cells KQ 67))
        have HM5 := Lib.hid (HM4.out.alloc (.cells KQ 67))
        have C6 : C ≤ W4.heap.size := HM4.out.size
        have g6g : W4.heap.size ≠ g := by have := HM4.out.rd.lt; omega
        have g6n : W4.heap.size ≠ gn := by have := (Array.getElem?_eq_some_iff.1 HM4.out.node).1; omega
        have HKB := Lib.hid hKb
        have HVB := Lib.hid hVb
        clear hKb hVb HM4
        go_upto_region 12 with (first
          | (refine wpList_build_any rfl 67 #[(0, .tmp 47)] rfl #[(0, .int .u32 (kidA p i).1)] (by kernel_rfl) (B67.out _) ?_)
          | (refine wpList_store_row rfl 67 (.tmp 6) (.tmp 48) rfl W4.heap.size KQ rfl rfl 67 ZQ GN6.out IQ.out SQ.out OQ.out ?_))
        rw [RN6.out]
        try simp only [Act.put]
        clear GN6 RN6
        generalize W4.alloc (.cells KQ 67) = W5 at *
        generalize W4.heap.size = g6 at *
        have HD5 := Lib.hid HM5.out.drew
        have GD5 : Hid (W5.drew.heap[g6]? = some (.cells KQ 67 (0, 0))) := G6.out
        clear HM5 G6
        refine wp_region_held_drew (S := fun _ => True) (by kernel_rfl) trivial (fun hS => ?_)
        refine' wpAnyH_take (i := 0) ?h1x0ze ?hsx0ze ?hfx0ze ?hrx0ze ?hQx0ze (Or.inl ⟨?hwx0ze, ?hyx0ze⟩) hS ?restx0ze
        case h1x0ze => (simp only [List.getElem?_toArray, List.getElem?_cons_zero]; rfl)
        case hsx0ze | hfx0ze | hrx0ze => kernel_rfl
        case hQx0ze => exact fun _ _ _ h => h
        case hwx0ze => rfl
        case hyx0ze =>
          intro W hW
          go_simp
          try with_reducible rfl
        simp only [Act.put, List.setIfInBounds_toArray, List.set_cons_succ, List.set_cons_zero]
        refine' wpAnyH_take (i := 1) ?h1x1ze ?hsx1ze ?hfx1ze ?hrx1ze ?hQx1ze (Or.inl ⟨?hwx1ze, ?hyx1ze⟩) hS ?restx1ze
        case h1x1ze => (simp only [List.getElem?_toArray, List.getElem?_cons_succ, List.getElem?_cons_zero]; rfl)
        case hsx1ze | hfx1ze | hrx1ze => kernel_rfl
        case hQx1ze => exact fun _ _ _ h => h
        case hwx1ze => rfl
        case hyx1ze =>
          intro W hW
          go_simp
          try with_reducible rfl
        simp only [Act.put, List.setIfInBounds_toArray, List.set_cons_succ, List.set_cons_zero]
        refine' wpAnyH_take (i := 2) ?h1x2ze ?hsx2ze ?hfx2ze ?hrx2ze ?hQx2ze (Or.inl ⟨?hwx2ze, ?hyx2ze⟩) hS ?restx2ze
        case h1x2ze => (simp only [List.getElem?_toArray, List.getElem?_cons_succ, List.getElem?_cons_zero]; rfl)
        case hsx2ze | hfx2ze | hrx2ze => kernel_rfl
        case hQx2ze => exact fun _ _ _ h => h
        case hwx2ze => rfl
        case hyx2ze =>
          intro W hW
          go_simp
          try with_reducible rfl
        simp only [Act.put, List.setIfInBounds_toArray, List.set_cons_succ, List.set_cons_zero]
        refine wpAnyH_ready (rs := [3]) (by kernel_rfl) (by simp) ?_
        refine' (AllReadyH.cons ?hoc3ye (fun K hK => ?stc3ye) AllReadyH.nil)
        case hoc3ye => (simp only [List.getElem?_toArray, List.getElem?_cons_succ, List.getElem?_cons_zero]; rfl)
        go_simp
        refine (ov.bytes_rd B g _ _ 32 LQ.out _ HD5.out.rd).mono ?_
        rintro e W6 ⟨q6, rfl, hs6, _, hr, hgr⟩
        have HM6 := Lib.hid (HD5.out.call E.out (q' := nxt (nxt (nxt (stA false p i) 8) 4) 32) hr hgr)
        have G6b : W6.heap[g6]? = some (.cells KQ 67 (0, 0)) := (hgr.block g6 (Array.getElem?_eq_some_iff.1 GD5.out).1 (fun e => g6g (by cases e; rfl))).trans GD5.out
        have hcp := cpKid W6 g6 (kidA p i).1 _ GL.out (by rw [← HKQ.out]; exact G6b) _ hs6
        rw [VE.out] at hcp
        have HCP := Lib.hid hcp
        have HM7 := Lib.hid (HM6.out.other E.out (k := g6) (kid (kidA p i)).toArray g6g g6n C6 (fun e => Nat.lt_irrefl _ (HKB.out _ e)) (fun e => Nat.lt_irrefl _ (HVB.out _ e)))
        rw [ST1.out] at HM7
        have G7 := Lib.hid (setRow_heap W6 g6 _ (kid (kidA p i)).toArray 67 _ G6b)
        clear hr hgr hs6 hcp G6b
        go_wp2_with fail
        refine hK.out _ _ trivial (fun hHeld => ?_)
        clear hK K
        try simp only [Act.put, List.setIfInBounds_toArray, List.set_cons_succ, List.set_cons_zero]
        clear hS
        have hS := hHeld
        clear hHeld
        refine wpAnyH_ready (rs := [4]) (by kernel_rfl) (by simp) ?_
        refine' (AllReadyH.cons ?hoc4xe (fun K hK => ?stc4xe) AllReadyH.nil)
        case hoc4xe => (simp only [List.getElem?_toArray, List.getElem?_cons_succ, List.getElem?_cons_zero]; rfl)
        refine step_cpT rfl _ _ rfl rfl rfl rfl HCP.out ?_
        refine hK.out _ _ trivial (fun hHeld => ?_)
        clear hK K
        try simp only [Act.put, List.setIfInBounds_toArray, List.set_cons_succ, List.set_cons_zero]
        clear hS
        have hS := hHeld
        clear hHeld
        refine wpAnyH_done (by kernel_rfl) ?_ _
        clear HM6 HCP hS HD5 GD5
        obtain ⟨W7, hW7⟩ : ∃ W7, W7 = W6.setRow g6 (kid (kidA p i)).toArray := ⟨_, rfl⟩
        rw [← hW7] at HM7 G7 ⊢
        clear hW7
        have c3 := (cell_row HM7.out.node 3).trans (show (#[.bool false, .slice y2 (i + 1) z2, .slice none 0 0, vv] : Array Value)[3]? = some vv from rfl)
        have HM7a := Lib.hid (HM7.out.alloc (.cells (kid (kidA p i)).toArray 67))
        obtain ⟨vv8, W8, hr8, hM8⟩ := HM7a.out.appQ E.out (z := kidA p i) KL.out (heap_alloc_new W7 _) i256
        rw [VS1.out] at hM8
        obtain ⟨g8, z8, rfl⟩ := own_form2 hM8.row
        have HM8 := Lib.hid hM8
        have HR8 := Lib.hid hr8
        clear hr8 hM8
        have c3' := (cell_row HM8.out.node 3).trans (show (#[.bool false, .slice y2 (i + 1) z2, .slice none 0 0, vv] : Array Value)[3]? = some vv from rfl)
        have f3 := oc.frozen_block HM8.out.node 3
        have HM9 := Lib.hid (HM8.out.store E.out (.slice y2 (i + 1) z2) (.slice (some ⟨g8, 0, none⟩) (i + 1) z8))
        go_wp2_with (first
          | (refine wpList_load_row rfl 67 (.tmp 6) rfl g6 rfl 67 (kid (kidA p i)).toArray (0, 0) _ G7.out Try.underlying67 rfl IK.out ?_; refine wpList_bs24 rfl _ rfl rfl (BS24.out _) ?_; refine wpList_appT 24 rfl _ _ rfl rfl rfl rfl HR8.out ?_))
        have hW9 : W8.setCell ⟨gn, 3, none⟩ (.slice (some ⟨g8, 0, none⟩) (i + 1) z8) = W8.setRow gn #[.bool false, .slice y2 (i + 1) z2, .slice none 0 0, .slice (some ⟨g8, 0, none⟩) (i + 1) z8] := setCell_eq_setRow W8 gn 3 _ _ _ _ HM8.out.node
        rw [hW9]
        go_roundw
        case rel => exact ⟨i + 1, _, _, by omega, by go_num, HM9.out⟩
        case measure => simp [intOf]; omega
      case stc3b =>
        go_simp
        refine (ov.u64 B g _ _ _ HD.out.rd).mono ?_
        rintro e W1 ⟨rfl, hr, hgr⟩
        rw [KE.out]
        have HM1 := Lib.hid (HD.out.call E.out (q' := nxt (stA false p i) 8) hr hgr)
        clear hr hgr
        go_wp2_with fail
        refine hK.out _ _ trivial (fun hHeld => ?_)
        clear hK K
        try simp only [Act.put, List.setIfInBounds_toArray, List.set_cons_succ, List.set_cons_zero]
        clear hS
        have hS := hHeld
        clear hHeld
        refine wpAnyH_ready (rs := [1, 4]) (by kernel_rfl) (by simp) ?_
        refine' (AllReadyH.cons ?hoc1f (fun K hK => ?stc1f) (AllReadyH.cons ?hoc4f (fun K hK => ?stc4f) AllReadyH.nil))
        case hoc1f => (simp only [List.getElem?_toArray, List.getElem?_cons_succ, List.getElem?_cons_zero]; rfl)
        case hoc4f => (simp only [List.getElem?_toArray, List.getElem?_cons_succ, List.getElem?_cons_zero]; rfl)
        case stc1f =>
          have dd := (cell_row HM1.out.node 1).trans (show (#[Value.bool false, kv, .slice none 0 0, vv] : Array Value)[1]? = some kv from rfl)
          go_simp
          refine hK.out _ _ trivial (fun hHeld => ?_)
          clear hK K
          try simp only [Act.put, List.setIfInBounds_toArray, List.set_cons_succ, List.set_cons_zero]
          clear hS
          have hS := hHeld
          clear hHeld
          clear dd
          refine wpAnyH_ready (rs := [4]) (by kernel_rfl) (by simp) ?_
          refine' (AllReadyH.cons ?hoc4g (fun K hK => ?stc4g) AllReadyH.nil)
          case hoc4g => (simp only [List.getElem?_toArray, List.getElem?_cons_succ, List.getElem?_cons_zero]; rfl)
          go_simp
          refine hK.out _ _ trivial (fun hHeld => ?_)
          clear hK K
          try simp only [Act.put, List.setIfInBounds_toArray, List.set_cons_succ, List.set_cons_zero]
          clear hS
          have hS := hHeld
          clear hHeld
          have HM1a := Lib.hid (HM1.out.alloc (.cells #[.int .u64 (keyA false p i)] 52))
          obtain ⟨kv2, W2, hr2, hM2⟩ := HM1a.out.appK E.out (heap_alloc_new W1 _) i256
          rw [KS1.out] at hM2
          obtain ⟨y2, z2, rfl⟩ := own_form hM2.own
          have HM2 := Lib.hid hM2
          have HR2 := Lib.hid hr2
          clear hr2 hM2
          refine wpAnyH_ready (rs := [5]) (by kernel_rfl) (by simp) ?_
          refine' (AllReadyH.cons ?hoc5h (fun K hK => ?stc5h) AllReadyH.nil)
          case hoc5h => (simp only [List.getElem?_toArray, List.getElem?_cons_succ, List.getElem?_cons_zero]; rfl)
          refine step_appT 22 rfl _ _ rfl rfl rfl rfl HR2.out ?_
          refine hK.out _ _ trivial (fun hHeld => ?_)
          clear hK K
          try simp only [Act.put, List.setIfInBounds_toArray, List.set_cons_succ, List.set_cons_zero]
          clear hS
          have hS := hHeld
          clear hHeld
          refine' wpAnyH_take (i := 6) ?h1x6h ?hsx6h ?hfx6h ?hrx6h ?hQx6h (Or.inl ⟨?hwx6h, ?hyx6h⟩) hS ?restx6h
          case h1x6h => (simp only [List.getElem?_toArray, List.getElem?_cons_succ, List.getElem?_cons_zero]; rfl)
          case hsx6h | hfx6h | hrx6h => kernel_rfl
          case hQx6h => exact fun _ _ _ h => h
          case hwx6h => rfl
          case hyx6h =>
            intro W hW
            go_simp
            try with_reducible rfl
          simp only [Act.put, List.setIfInBounds_toArray, List.set_cons_succ, List.set_cons_zero]
          refine wpAnyH_ready (rs := [7]) (by kernel_rfl) (by simp) ?_
          refine' (AllReadyH.cons ?hoc7h (fun K hK => ?stc7h) AllReadyH.nil)
          case hoc7h => (simp only [List.getElem?_toArray, List.getElem?_cons_succ, List.getElem?_cons_zero]; rfl)
          have c1 := (cell_row HM2.out.node 1).trans (show (#[Value.bool false, kv, .slice none 0 0, vv] : Array Value)[1]? = some kv from rfl)
          have f1 := oc.frozen_block HM2.out.node 1
          go_simp
          have hW3 : W2.setCell ⟨gn, 1, none⟩ (.slice y2 (i + 1) z2) = W2.setRow gn #[.bool false, .slice y2 (i + 1) z2, .slice none 0 0, vv] := setCell_eq_setRow W2 gn 1 _ _ _ _ HM2.out.node
          have HM3 := Lib.hid (HM2.out.store E.out (.slice y2 (i + 1) z2) vv)
          rw [hW3]
          clear hW3 c1 f1
          obtain ⟨W3, hW3⟩ : ∃ W3, W3 = W2.setRow gn #[.bool false, .slice y2 (i + 1) z2, .slice none 0 0, vv] := ⟨_, rfl⟩
          rw [← hW3] at HM3 ⊢
          clear hW3
          refine hK.out _ _ trivial (fun hHeld => ?_)
          clear hK K
          try simp only [Act.put, List.setIfInBounds_toArray, List.set_cons_succ, List.set_cons_zero]
          clear hS
          have hS := hHeld
          clear hHeld
          refine wpAnyH_done (by kernel_rfl) ?_ _
          clear HM1 HM1a HM2 HR2 hS HD
          have c0 := (cell_row HM3.out.node 0).trans (show (#[.bool false, .slice y2 (i + 1) z2, .slice none 0 0, vv] : Array Value)[0]? = some (.bool false) from rfl)
          go_wp2_with fail
          refine (ov.u32 B g _ _ _ HM3.out.rd).mono ?_
          rintro e W4 ⟨rfl, hr, hgr⟩
          rw [QE.out]
          have HM4 := Lib.hid (HM3.out.call E.out (q' := nxt (nxt (stA false p i) 8) 4) hr hgr)
          clear hr hgr c0 HM3
          have hKb : ∀ k, (Value.slice y2 (i + 1) z2).ownBlock = some k → k < W4.heap.size := fun k e => (HM4.out.own.lt k e).2
          have hVb : ∀ k, vv.ownBlock = some k → k < W4.heap.size := fun k e => (HM4.out.row.lt k e).2
          have GN6 := Lib.hid (heap_alloc_new W4 (.cells ZQ 67))
          have RN6 := Lib.hid (alloc_setRowT W4 ZQ KQ 67 _ rfl)
          have G6 := Lib.hid (heap_alloc_new W4 (.cells KQ 67))
          have HM5 := Lib.hid (HM4.out.alloc (.cells KQ 67))
          have C6 : C ≤ W4.heap.size := HM4.out.size
          have g6g : W4.heap.size ≠ g := by have := HM4.out.rd.lt; omega
          have g6n : W4.heap.size ≠ gn := by have := (Array.getElem?_eq_some_iff.1 HM4.out.node).1; omega
          have HKB := Lib.hid hKb
          have HVB := Lib.hid hVb
          clear hKb hVb HM4
          go_upto_region 12 with (first
            | (refine wpList_build_any rfl 67 #[(0, .tmp 47)] rfl #[(0, .int .u32 (kidA p i).1)] (by kernel_rfl) (B67.out _) ?_)
            | (refine wpList_store_row rfl 67 (.tmp 6) (.tmp 48) rfl W4.heap.size KQ rfl rfl 67 ZQ GN6.out IQ.out SQ.out OQ.out ?_))
          rw [RN6.out]
          try simp only [Act.put]
          clear GN6 RN6
          generalize W4.alloc (.cells KQ 67) = W5 at *
          generalize W4.heap.size = g6 at *
          have HD5 := Lib.hid HM5.out.drew
          have GD5 : Hid (W5.drew.heap[g6]? = some (.cells KQ 67 (0, 0))) := G6.out
          clear HM5 G6
          refine wp_region_held_drew (S := fun _ => True) (by kernel_rfl) trivial (fun hS => ?_)
          refine' wpAnyH_take (i := 0) ?h1x0zh ?hsx0zh ?hfx0zh ?hrx0zh ?hQx0zh (Or.inl ⟨?hwx0zh, ?hyx0zh⟩) hS ?restx0zh
          case h1x0zh => (simp only [List.getElem?_toArray, List.getElem?_cons_zero]; rfl)
          case hsx0zh | hfx0zh | hrx0zh => kernel_rfl
          case hQx0zh => exact fun _ _ _ h => h
          case hwx0zh => rfl
          case hyx0zh =>
            intro W hW
            go_simp
            try with_reducible rfl
          simp only [Act.put, List.setIfInBounds_toArray, List.set_cons_succ, List.set_cons_zero]
          refine' wpAnyH_take (i := 1) ?h1x1zh ?hsx1zh ?hfx1zh ?hrx1zh ?hQx1zh (Or.inl ⟨?hwx1zh, ?hyx1zh⟩) hS ?restx1zh
          case h1x1zh => (simp only [List.getElem?_toArray, List.getElem?_cons_succ, List.getElem?_cons_zero]; rfl)
          case hsx1zh | hfx1zh | hrx1zh => kernel_rfl
          case hQx1zh => exact fun _ _ _ h => h
          case hwx1zh => rfl
          case hyx1zh =>
            intro W hW
            go_simp
            try with_reducible rfl
          simp only [Act.put, List.setIfInBounds_toArray, List.set_cons_succ, List.set_cons_zero]
          refine' wpAnyH_take (i := 2) ?h1x2zh ?hsx2zh ?hfx2zh ?hrx2zh ?hQx2zh (Or.inl ⟨?hwx2zh, ?hyx2zh⟩) hS ?restx2zh
          case h1x2zh => (simp only [List.getElem?_toArray, List.getElem?_cons_succ, List.getElem?_cons_zero]; rfl)
          case hsx2zh | hfx2zh | hrx2zh => kernel_rfl
          case hQx2zh => exact fun _ _ _ h => h
          case hwx2zh => rfl
          case hyx2zh =>
            intro W hW
            go_simp
            try with_reducible rfl
          simp only [Act.put, List.setIfInBounds_toArray, List.set_cons_succ, List.set_cons_zero]
          refine wpAnyH_ready (rs := [3]) (by kernel_rfl) (by simp) ?_
          refine' (AllReadyH.cons ?hoc3yh (fun K hK => ?stc3yh) AllReadyH.nil)
          case hoc3yh => (simp only [List.getElem?_toArray, List.getElem?_cons_succ, List.getElem?_cons_zero]; rfl)
          go_simp
          refine (ov.bytes_rd B g _ _ 32 LQ.out _ HD5.out.rd).mono ?_
          rintro e W6 ⟨q6, rfl, hs6, _, hr, hgr⟩
          have HM6 := Lib.hid (HD5.out.call E.out (q' := nxt (nxt (nxt (stA false p i) 8) 4) 32) hr hgr)
          have G6b : W6.heap[g6]? = some (.cells KQ 67 (0, 0)) := (hgr.block g6 (Array.getElem?_eq_some_iff.1 GD5.out).1 (fun e => g6g (by cases e; rfl))).trans GD5.out
          have hcp := cpKid W6 g6 (kidA p i).1 _ GL.out (by rw [← HKQ.out]; exact G6b) _ hs6
          rw [VE.out] at hcp
          have HCP := Lib.hid hcp
          have HM7 := Lib.hid (HM6.out.other E.out (k := g6) (kid (kidA p i)).toArray g6g g6n C6 (fun e => Nat.lt_irrefl _ (HKB.out _ e)) (fun e => Nat.lt_irrefl _ (HVB.out _ e)))
          rw [ST1.out] at HM7
          have G7 := Lib.hid (setRow_heap W6 g6 _ (kid (kidA p i)).toArray 67 _ G6b)
          clear hr hgr hs6 hcp G6b
          go_wp2_with fail
          refine hK.out _ _ trivial (fun hHeld => ?_)
          clear hK K
          try simp only [Act.put, List.setIfInBounds_toArray, List.set_cons_succ, List.set_cons_zero]
          clear hS
          have hS := hHeld
          clear hHeld
          refine wpAnyH_ready (rs := [4]) (by kernel_rfl) (by simp) ?_
          refine' (AllReadyH.cons ?hoc4xh (fun K hK => ?stc4xh) AllReadyH.nil)
          case hoc4xh => (simp only [List.getElem?_toArray, List.getElem?_cons_succ, List.getElem?_cons_zero]; rfl)
          refine step_cpT rfl _ _ rfl rfl rfl rfl HCP.out ?_
          refine hK.out _ _ trivial (fun hHeld => ?_)
          clear hK K
          try simp only [Act.put, List.setIfInBounds_toArray, List.set_cons_succ, List.set_cons_zero]
          clear hS
          have hS := hHeld
          clear hHeld
          refine wpAnyH_done (by kernel_rfl) ?_ _
          clear HM6 HCP hS HD5 GD5
          obtain ⟨W7, hW7⟩ : ∃ W7, W7 = W6.setRow g6 (kid (kidA p i)).toArray := ⟨_, rfl⟩
          rw [← hW7] at HM7 G7 ⊢
          clear hW7
          have c3 := (cell_row HM7.out.node 3).trans (show (#[.bool false, .slice y2 (i + 1) z2, .slice none 0 0, vv] : Array Value)[3]? = some vv from rfl)
          have HM7a := Lib.hid (HM7.out.alloc (.cells (kid (kidA p i)).toArray 67))
          obtain ⟨vv8, W8, hr8, hM8⟩ := HM7a.out.appQ E.out (z := kidA p i) KL.out (heap_alloc_new W7 _) i256
          rw [VS1.out] at hM8
          obtain ⟨g8, z8, rfl⟩ := own_form2 hM8.row
          have HM8 := Lib.hid hM8
          have HR8 := Lib.hid hr8
          clear hr8 hM8
          have c3' := (cell_row HM8.out.node 3).trans (show (#[.bool false, .slice y2 (i + 1) z2, .slice none 0 0, vv] : Array Value)[3]? = some vv from rfl)
          have f3 := oc.frozen_block HM8.out.node 3
          have HM9 := Lib.hid (HM8.out.store E.out (.slice y2 (i + 1) z2) (.slice (some ⟨g8, 0, none⟩) (i + 1) z8))
          go_wp2_with (first
            | (refine wpList_load_row rfl 67 (.tmp 6) rfl g6 rfl 67 (kid (kidA p i)).toArray (0, 0) _ G7.out Try.underlying67 rfl IK.out ?_; refine wpList_bs24 rfl _ rfl rfl (BS24.out _) ?_; refine wpList_appT 24 rfl _ _ rfl rfl rfl rfl HR8.out ?_))
          have hW9 : W8.setCell ⟨gn, 3, none⟩ (.slice (some ⟨g8, 0, none⟩) (i + 1) z8) = W8.setRow gn #[.bool false, .slice y2 (i + 1) z2, .slice none 0 0, .slice (some ⟨g8, 0, none⟩) (i + 1) z8] := setCell_eq_setRow W8 gn 3 _ _ _ _ HM8.out.node
          rw [hW9]
          go_roundw
          case rel => exact ⟨i + 1, _, _, by omega, by go_num, HM9.out⟩
          case measure => simp [intOf]; omega
        case stc4f =>
          go_simp
          refine hK.out _ _ trivial (fun hHeld => ?_)
          clear hK K
          try simp only [Act.put, List.setIfInBounds_toArray, List.set_cons_succ, List.set_cons_zero]
          clear hS
          have hS := hHeld
          clear hHeld
          have HM1a := Lib.hid (HM1.out.alloc (.cells #[.int .u64 (keyA false p i)] 52))
          refine wpAnyH_ready (rs := [1]) (by kernel_rfl) (by simp) ?_
          refine' (AllReadyH.cons ?hoc1k (fun K hK => ?stc1k) AllReadyH.nil)
          case hoc1k => (simp only [List.getElem?_toArray, List.getElem?_cons_succ, List.getElem?_cons_zero]; rfl)
          have dd := (cell_row HM1a.out.node 1).trans (show (#[Value.bool false, kv, .slice none 0 0, vv] : Array Value)[1]? = some kv from rfl)
          go_simp
          refine hK.out _ _ trivial (fun hHeld => ?_)
          clear hK K
          try simp only [Act.put, List.setIfInBounds_toArray, List.set_cons_succ, List.set_cons_zero]
          clear hS
          have hS := hHeld
          clear hHeld
          clear dd
          obtain ⟨kv2, W2, hr2, hM2⟩ := HM1a.out.appK E.out (heap_alloc_new W1 _) i256
          rw [KS1.out] at hM2
          obtain ⟨y2, z2, rfl⟩ := own_form hM2.own
          have HM2 := Lib.hid hM2
          have HR2 := Lib.hid hr2
          clear hr2 hM2
          refine wpAnyH_ready (rs := [5]) (by kernel_rfl) (by simp) ?_
          refine' (AllReadyH.cons ?hoc5l (fun K hK => ?stc5l) AllReadyH.nil)
          case hoc5l => (simp only [List.getElem?_toArray, List.getElem?_cons_succ, List.getElem?_cons_zero]; rfl)
          refine step_appT 22 rfl _ _ rfl rfl rfl rfl HR2.out ?_
          refine hK.out _ _ trivial (fun hHeld => ?_)
          clear hK K
          try simp only [Act.put, List.setIfInBounds_toArray, List.set_cons_succ, List.set_cons_zero]
          clear hS
          have hS := hHeld
          clear hHeld
          refine' wpAnyH_take (i := 6) ?h1x6l ?hsx6l ?hfx6l ?hrx6l ?hQx6l (Or.inl ⟨?hwx6l, ?hyx6l⟩) hS ?restx6l
          case h1x6l => (simp only [List.getElem?_toArray, List.getElem?_cons_succ, List.getElem?_cons_zero]; rfl)
          case hsx6l | hfx6l | hrx6l => kernel_rfl
          case hQx6l => exact fun _ _ _ h => h
          case hwx6l => rfl
          case hyx6l =>
            intro W hW
            go_simp
            try with_reducible rfl
          simp only [Act.put, List.setIfInBounds_toArray, List.set_cons_succ, List.set_cons_zero]
          refine wpAnyH_ready (rs := [7]) (by kernel_rfl) (by simp) ?_
          refine' (AllReadyH.cons ?hoc7l (fun K hK => ?stc7l) AllReadyH.nil)
          case hoc7l => (simp only [List.getElem?_toArray, List.getElem?_cons_succ, List.getElem?_cons_zero]; rfl)
          have c1 := (cell_row HM2.out.node 1).trans (show (#[Value.bool false, kv, .slice none 0 0, vv] : Array Value)[1]? = some kv from rfl)
          have f1 := oc.frozen_block HM2.out.node 1
          go_simp
          have hW3 : W2.setCell ⟨gn, 1, none⟩ (.slice y2 (i + 1) z2) = W2.setRow gn #[.bool false, .slice y2 (i + 1) z2, .slice none 0 0, vv] := setCell_eq_setRow W2 gn 1 _ _ _ _ HM2.out.node
          have HM3 := Lib.hid (HM2.out.store E.out (.slice y2 (i + 1) z2) vv)
          rw [hW3]
          clear hW3 c1 f1
          obtain ⟨W3, hW3⟩ : ∃ W3, W3 = W2.setRow gn #[.bool false, .slice y2 (i + 1) z2, .slice none 0 0, vv] := ⟨_, rfl⟩
          rw [← hW3] at HM3 ⊢
          clear hW3
          refine hK.out _ _ trivial (fun hHeld => ?_)
          clear hK K
          try simp only [Act.put, List.setIfInBounds_toArray, List.set_cons_succ, List.set_cons_zero]
          clear hS
          have hS := hHeld
          clear hHeld
          refine wpAnyH_done (by kernel_rfl) ?_ _
          clear HM1 HM1a HM2 HR2 hS HD
          have c0 := (cell_row HM3.out.node 0).trans (show (#[.bool false, .slice y2 (i + 1) z2, .slice none 0 0, vv] : Array Value)[0]? = some (.bool false) from rfl)
          go_wp2_with fail
          refine (ov.u32 B g _ _ _ HM3.out.rd).mono ?_
          rintro e W4 ⟨rfl, hr, hgr⟩
          rw [QE.out]
          have HM4 := Lib.hid (HM3.out.call E.out (q' := nxt (nxt (stA false p i) 8) 4) hr hgr)
          clear hr hgr c0 HM3
          have hKb : ∀ k, (Value.slice y2 (i + 1) z2).ownBlock = some k → k < W4.heap.size := fun k e => (HM4.out.own.lt k e).2
          have hVb : ∀ k, vv.ownBlock = some k → k < W4.heap.size := fun k e => (HM4.out.row.lt k e).2
          have GN6 := Lib.hid (heap_alloc_new W4 (.cells ZQ 67))
          have RN6 := Lib.hid (alloc_setRowT W4 ZQ KQ 67 _ rfl)
          have G6 := Lib.hid (heap_alloc_new W4 (.cells KQ 67))
          have HM5 := Lib.hid (HM4.out.alloc (.cells KQ 67))
          have C6 : C ≤ W4.heap.size := HM4.out.size
          have g6g : W4.heap.size ≠ g := by have := HM4.out.rd.lt; omega
          have g6n : W4.heap.size ≠ gn := by have := (Array.getElem?_eq_some_iff.1 HM4.out.node).1; omega
          have HKB := Lib.hid hKb
          have HVB := Lib.hid hVb
          clear hKb hVb HM4
          go_upto_region 12 with (first
            | (refine wpList_build_any rfl 67 #[(0, .tmp 47)] rfl #[(0, .int .u32 (kidA p i).1)] (by kernel_rfl) (B67.out _) ?_)
            | (refine wpList_store_row rfl 67 (.tmp 6) (.tmp 48) rfl W4.heap.size KQ rfl rfl 67 ZQ GN6.out IQ.out SQ.out OQ.out ?_))
          rw [RN6.out]
          try simp only [Act.put]
          clear GN6 RN6
          generalize W4.alloc (.cells KQ 67) = W5 at *
          generalize W4.heap.size = g6 at *
          have HD5 := Lib.hid HM5.out.drew
          have GD5 : Hid (W5.drew.heap[g6]? = some (.cells KQ 67 (0, 0))) := G6.out
          clear HM5 G6
          refine wp_region_held_drew (S := fun _ => True) (by kernel_rfl) trivial (fun hS => ?_)
          refine' wpAnyH_take (i := 0) ?h1x0zl ?hsx0zl ?hfx0zl ?hrx0zl ?hQx0zl (Or.inl ⟨?hwx0zl, ?hyx0zl⟩) hS ?restx0zl
          case h1x0zl => (simp only [List.getElem?_toArray, List.getElem?_cons_zero]; rfl)
          case hsx0zl | hfx0zl | hrx0zl => kernel_rfl
          case hQx0zl => exact fun _ _ _ h => h
          case hwx0zl => rfl
          case hyx0zl =>
            intro W hW
            go_simp
            try with_reducible rfl
          simp only [Act.put, List.setIfInBounds_toArray, List.set_cons_succ, List.set_cons_zero]
          refine' wpAnyH_take (i := 1) ?h1x1zl ?hsx1zl ?hfx1zl ?hrx1zl ?hQx1zl (Or.inl ⟨?hwx1zl, ?hyx1zl⟩) hS ?restx1zl
          case h1x1zl => (simp only [List.getElem?_toArray, List.getElem?_cons_succ, List.getElem?_cons_zero]; rfl)
          case hsx1zl | hfx1zl | hrx1zl => kernel_rfl
          case hQx1zl => exact fun _ _ _ h => h
          case hwx1zl => rfl
          case hyx1zl =>
            intro W hW
            go_simp
            try with_reducible rfl
          simp only [Act.put, List.setIfInBounds_toArray, List.set_cons_succ, List.set_cons_zero]
          refine' wpAnyH_take (i := 2) ?h1x2zl ?hsx2zl ?hfx2zl ?hrx2zl ?hQx2zl (Or.inl ⟨?hwx2zl, ?hyx2zl⟩) hS ?restx2zl
          case h1x2zl => (simp only [List.getElem?_toArray, List.getElem?_cons_succ, List.getElem?_cons_zero]; rfl)
          case hsx2zl | hfx2zl | hrx2zl => kernel_rfl
          case hQx2zl => exact fun _ _ _ h => h
          case hwx2zl => rfl
          case hyx2zl =>
            intro W hW
            go_simp
            try with_reducible rfl
          simp only [Act.put, List.setIfInBounds_toArray, List.set_cons_succ, List.set_cons_zero]
          refine wpAnyH_ready (rs := [3]) (by kernel_rfl) (by simp) ?_
          refine' (AllReadyH.cons ?hoc3yl (fun K hK => ?stc3yl) AllReadyH.nil)
          case hoc3yl => (simp only [List.getElem?_toArray, List.getElem?_cons_succ, List.getElem?_cons_zero]; rfl)
          go_simp
          refine (ov.bytes_rd B g _ _ 32 LQ.out _ HD5.out.rd).mono ?_
          rintro e W6 ⟨q6, rfl, hs6, _, hr, hgr⟩
          have HM6 := Lib.hid (HD5.out.call E.out (q' := nxt (nxt (nxt (stA false p i) 8) 4) 32) hr hgr)
          have G6b : W6.heap[g6]? = some (.cells KQ 67 (0, 0)) := (hgr.block g6 (Array.getElem?_eq_some_iff.1 GD5.out).1 (fun e => g6g (by cases e; rfl))).trans GD5.out
          have hcp := cpKid W6 g6 (kidA p i).1 _ GL.out (by rw [← HKQ.out]; exact G6b) _ hs6
          rw [VE.out] at hcp
          have HCP := Lib.hid hcp
          have HM7 := Lib.hid (HM6.out.other E.out (k := g6) (kid (kidA p i)).toArray g6g g6n C6 (fun e => Nat.lt_irrefl _ (HKB.out _ e)) (fun e => Nat.lt_irrefl _ (HVB.out _ e)))
          rw [ST1.out] at HM7
          have G7 := Lib.hid (setRow_heap W6 g6 _ (kid (kidA p i)).toArray 67 _ G6b)
          clear hr hgr hs6 hcp G6b
          go_wp2_with fail
          refine hK.out _ _ trivial (fun hHeld => ?_)
          clear hK K
          try simp only [Act.put, List.setIfInBounds_toArray, List.set_cons_succ, List.set_cons_zero]
          clear hS
          have hS := hHeld
          clear hHeld
          refine wpAnyH_ready (rs := [4]) (by kernel_rfl) (by simp) ?_
          refine' (AllReadyH.cons ?hoc4xl (fun K hK => ?stc4xl) AllReadyH.nil)
          case hoc4xl => (simp only [List.getElem?_toArray, List.getElem?_cons_succ, List.getElem?_cons_zero]; rfl)
          refine step_cpT rfl _ _ rfl rfl rfl rfl HCP.out ?_
          refine hK.out _ _ trivial (fun hHeld => ?_)
          clear hK K
          try simp only [Act.put, List.setIfInBounds_toArray, List.set_cons_succ, List.set_cons_zero]
          clear hS
          have hS := hHeld
          clear hHeld
          refine wpAnyH_done (by kernel_rfl) ?_ _
          clear HM6 HCP hS HD5 GD5
          obtain ⟨W7, hW7⟩ : ∃ W7, W7 = W6.setRow g6 (kid (kidA p i)).toArray := ⟨_, rfl⟩
          rw [← hW7] at HM7 G7 ⊢
          clear hW7
          have c3 := (cell_row HM7.out.node 3).trans (show (#[.bool false, .slice y2 (i + 1) z2, .slice none 0 0, vv] : Array Value)[3]? = some vv from rfl)
          have HM7a := Lib.hid (HM7.out.alloc (.cells (kid (kidA p i)).toArray 67))
          obtain ⟨vv8, W8, hr8, hM8⟩ := HM7a.out.appQ E.out (z := kidA p i) KL.out (heap_alloc_new W7 _) i256
          rw [VS1.out] at hM8
          obtain ⟨g8, z8, rfl⟩ := own_form2 hM8.row
          have HM8 := Lib.hid hM8
          have HR8 := Lib.hid hr8
          clear hr8 hM8
          have c3' := (cell_row HM8.out.node 3).trans (show (#[.bool false, .slice y2 (i + 1) z2, .slice none 0 0, vv] : Array Value)[3]? = some vv from rfl)
          have f3 := oc.frozen_block HM8.out.node 3
          have HM9 := Lib.hid (HM8.out.store E.out (.slice y2 (i + 1) z2) (.slice (some ⟨g8, 0, none⟩) (i + 1) z8))
          go_wp2_with (first
            | (refine wpList_load_row rfl 67 (.tmp 6) rfl g6 rfl 67 (kid (kidA p i)).toArray (0, 0) _ G7.out Try.underlying67 rfl IK.out ?_; refine wpList_bs24 rfl _ rfl rfl (BS24.out _) ?_; refine wpList_appT 24 rfl _ _ rfl rfl rfl rfl HR8.out ?_))
          have hW9 : W8.setCell ⟨gn, 3, none⟩ (.slice (some ⟨g8, 0, none⟩) (i + 1) z8) = W8.setRow gn #[.bool false, .slice y2 (i + 1) z2, .slice none 0 0, .slice (some ⟨g8, 0, none⟩) (i + 1) z8] := setCell_eq_setRow W8 gn 3 _ _ _ _ HM8.out.node
          rw [hW9]
          go_roundw
          case rel => exact ⟨i + 1, _, _, by omega, by go_num, HM9.out⟩
          case measure => simp [intOf]; omega
    · obtain rfl : i = c := by omega
      obtain ⟨kx, kz, rfl⟩ := own_form HM.out.own
      obtain ⟨vx, vz, rfl⟩ := own_form HM.out.row
      have AL : Hid (w.heap.size < wa.heap.size) := (Array.getElem?_eq_some_iff.1 EA.out).1
      have AE : Hid (wr.heap[w.heap.size]? = some (.cells #[.bool false, .slice none 0 0, .slice none 0 0, .slice none 0 0] 26 (0, 0))) := (HM.out.below.block _ AL.out).trans EA.out
      have LT : w.heap.size < C := by have := E.out.hn; have := E.out.an; have := AL.out; omega
      obtain ⟨AR, hAR⟩ : ∃ AR : Array Value, AR = #[.bool false, .slice kx i kz, .slice none 0 0, .slice vx i vz] := ⟨_, rfl⟩
      have NR : Hid (wr.heap[gn]? = some (.cells AR 26 (0, 0))) := by show _ = _; rw [hAR]; exact HM.out.node
      have I26 : Hid ((Try.prog.info? 26).map (·.size) = some AR.size) := by show _ = _; rw [hAR]; exact size26' _ _ _ _
      have S26 : Hid ((#[.bool false, .slice none 0 0, .slice none 0 0, .slice none 0 0] : Array Value).size = AR.size) := by show _ = _; rw [hAR]; rfl
      have O26 : Hid (AR.all (·.oneCell') = true) := by show _ = _; rw [hAR]; simp [Value.oneCell']
      have WF : Hid (ReadNP w xs (.returned (.agg AR)) (wr.setRow w.heap.size AR)) := by
        rw [hAR]
        have f := readI_fin (HM.out.own.kept (oc.grownBy_setRow wr w.heap.size #[.bool false, .slice kx i kz, .slice none 0 0, .slice vx i vz]) (.inr (own_ne HM.out.own LT))) (HM.out.row.kept (oc.grownBy_setRow wr w.heap.size #[.bool false, .slice kx i kz, .slice none 0 0, .slice vx i vz]) (.inr (own_ne HM.out.row LT))) HP.out HC.out hlf YB.out hc9
        exact ⟨_, rfl, f.1, f.2, freshN_mk (fresh_own HM.out.own (Nat.le_of_lt LT)) (fresh_nil _) (fresh_own HM.out.row (Nat.le_of_lt LT)), (BA.out.trans (HM.out.below.mono BA.out.size)).grown (oc.grownBy_setRow _ _ _) (Nat.le_trans BA.out.size HM.out.below.size) (fun k e => by cases e; exact Nat.le_refl _)⟩
      have RW := Lib.hid (setRow_heap wr w.heap.size _ AR 26 _ AE.out)
      clear hAR
      go_wp2_with (first
        | (refine wpList_load_row rfl 26 (.tmp 4) rfl gn rfl 26 AR (0, 0) _ NR.out Try.underlying26 rfl I26.out ?_)
        | (refine wpList_store_row rfl 26 (.tmp 2) (.tmp 61) rfl w.heap.size AR rfl rfl 26 _ AE.out I26.out S26.out O26.out ?_))
      exact bodyPost_ret (v := .agg AR) (results_cell_row Try.results31 _ _ w.heap.size 26 _ (0, 0) _ rfl RW.out Try.underlying26 rfl I26.out) rfl WF.out
end Go.Proofs.Ytnifaldgofmciaa
