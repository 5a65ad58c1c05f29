/-
  Contract of node.read. Condition: the slice reads as bytes.
-/
import Derived.Test.YtnifaldgofmciaaNdP
namespace Go.Proofs.Ytnifaldgofmciaa
open Go.RowKit
open oc (Byt Sees Own be nth got rst shrt getV)
def kc (p : RS) (i : Nat) : List Value := (List.range i).map fun j => .int .u64 (keyA true p j)
def vc (p : RS) (i : Nat) : List Value := (List.range i).flatMap fun j => val (valA p j)
theorem own_form {w : World} {base size n : Nat} {e : TypeId} {v : Value} {xs : List Value} (h : w.ownsRow base e size v n xs) : ∃ x c, v = .slice x n c := by
  obtain ⟨_, ⟨rfl, rfl⟩ | ⟨g, cap, _, rfl, _⟩⟩ := h
  · exact ⟨_, _, rfl⟩
  · exact ⟨_, _, rfl⟩
theorem own_form2 {w : World} {base size n : Nat} {e : TypeId} {v : Value} {xs : List Value} (h : w.ownsRow base e size v (n + 1) xs) : ∃ g c, v = .slice (some ⟨g, 0, none⟩) (n + 1) c := by
  obtain ⟨_, ⟨_, h⟩ | ⟨g, cap, _, rfl, _⟩⟩ := h
  · cases h
  · exact ⟨_, _, rfl⟩
theorem wpList_b54 {ops : Array Oper} {rest : List Oper} {o : Oper} {a : Act} {w : World} {Q : Exit → Act → World → Prop} (hgd : o.guard = none) (ho : o.op = .build 54 #[]) {v' : Value}
    (hr : (Instr.build 54 #[]).run Try.prog w = .ok v' w) (h : wpList Try.prog ops Q rest (a.put o.dst v') w) : wpList Try.prog ops Q (o :: rest) a w := by
  refine wpList_plain hgd fun K hK => ?_
  unfold Oper.wp execOp
  simp only [ho, Sem.run_bind, Sem.run_pure, Result.andThen_ok, List.map_toArray, List.map_nil, hr]
  exact hK _ _ h
theorem wpList_bs23 {ops : Array Oper} {rest : List Oper} {o : Oper} {a : Act} {w : World} {Q : Exit → Act → World → Prop} (hgd : o.guard = none) (x : Operand) (ho : o.op = .buildSlice 23 1 #[(0, x)]) {u v' : Value} {w' : World}
    (hx : a.eval x = u) (hr : (Instr.buildSlice 23 1 #[(0, u)]).run Try.prog w = .ok v' w') (h : wpList Try.prog ops Q rest (a.put o.dst v') w') : wpList Try.prog ops Q (o :: rest) a w := by
  refine wpList_plain hgd fun K hK => ?_
  unfold Oper.wp execOp
  simp only [ho, Sem.run_bind, Sem.run_pure, Result.andThen_ok, List.map_toArray, List.map_cons, List.map_nil, hx, hr]
  exact hK _ _ h
set_option maxRecDepth 100000 in
theorem b54 (w : World) : (Instr.build 54 #[]).run Try.prog w = .ok (.agg (val (List.replicate 44 0)).toArray) w := by kernel_rfl
set_option maxRecDepth 100000 in
theorem bs23 (w : World) : (Instr.buildSlice 23 1 #[(0, .agg (val (List.replicate 44 0)).toArray)]).run Try.prog w = .ok (.slice (some ⟨w.heap.size, 0, none⟩) 1 1) (w.alloc (.cells (val (List.replicate 44 0)).toArray 54)) := by kernel_rfl
/-- A copy whose run is known, in a region that draws. -/
theorem step_cpT {ops : Array Oper} {o : Oper} {a : Act} {w : World} {K : Act → World → Prop} {Q : Exit → Act → World → Prop} {E : Prop} (hgd : o.guard = none) (s x : Operand)
    (ho : o.op = .call { callee := .builtin .copy, args := #[s, x], argTypes := #[27, 27] }) (hty : o.type = 3) {v u v' : Value} {w' : World} (hs : a.eval s = v) (hx : a.eval x = u)
    (hr : (Builtin.copy_ #[27, 27] 3 #[v, u]).run Try.prog w = .ok v' w')
    (hK : K (a.put o.dst v') w') : if Region.wanted o (yielded ops a.tmps) = true then Oper.wp Try.prog o a w K Q else E := by
  have hw : Region.wanted o (yielded ops a.tmps) = true := by simp [Region.wanted, hgd]
  rw [if_pos hw]
  unfold Oper.wp
  simp [execOp, ho, hty, resolve, invoke, builtin, hs, hx, hr, Result.andThen]
  exact hK
theorem kc_succ (p : RS) (i : Nat) : kc p i ++ [.int .u64 (keyA true p i)] = kc p (i + 1) := by unfold kc; rw [List.range_succ, List.map_append]; rfl
theorem vc_succ (p : RS) (i : Nat) : vc p i ++ val (valA p i) = vc p (i + 1) := by unfold vc; rw [List.range_succ, List.flatMap_append]; simp
theorem vc_len {p : RS} (h : Byt p.1) : ∀ i, (vc p i).length = i * 44
  | 0 => rfl
  | i + 1 => by
    rw [← vc_succ, List.length_append, vc_len h i]
    unfold val
    rw [List.length_map, (val_ok h i).2]
    omega
theorem size26' (a b c d : Value) : (Try.prog.info? 26).map (·.size) = some (#[a, b, c, d] : Array Value).size := by kernel_rfl
theorem read_fin {p : RS} {c C : Nat} {xs : List Int} {K V : Value} {W : World} (ho : W.ownsRow C 52 1 K c (kc p c)) (hr : W.ownsRow C 54 44 V c (vc p c)) (hp : p = begR xs) (hc : cntR xs = c) (hlf : lfR xs = true) (hb : Byt p.1) (h9 : (c : Int) ≤ 255) :
    ND W (.agg #[.bool true, K, V, .slice none 0 0]) (rdN xs) ∧ ∀ p ∈ (rdN xs).qs, 0 ≤ p.1 ∧ p.1 ≤ 4294967295 := by
  have e : rdN xs = { leaf := true, ks := (List.range c).map (keyA true p), vs := (List.range c).map (valA p), qs := [] } := by
    unfold rdN
    rw [hlf, hc, hp]
    simp
  have hv : ∀ z ∈ (List.range c).map (valA p), (∀ x ∈ z, 0 ≤ x ∧ x ≤ 255) ∧ z.length = 44 := fun z hz => by
    obtain ⟨j, _, rfl⟩ := List.mem_map.1 hz
    exact val_ok hb j
  rw [e]
  refine ⟨⟨K, V, _, rfl, ks_own (C := C) (n := c) ?_ ?_ (by omega), es_own (C := C) (n := c) (ty := 54) ?_ ?_ (by simp) (by omega), ⟨by simp, by simp, none, 0, rfl, fun i y hi => by simp at hi⟩, hv, by simp⟩, by simp⟩
  · rw [List.map_map]
    exact ho
  · intro k hk
    obtain ⟨j, _, rfl⟩ := List.mem_map.1 hk
    exact key_bound hb j
  · rw [List.flatMap_map]
    exact hr
  · intro z hz
    unfold val
    rw [List.length_map, (hv z hz).2]
/-- An append whose run is known, in a region that draws. -/
theorem step_appT {ops : Array Oper} {o : Oper} {a : Act} {w : World} {K : Act → World → Prop} {Q : Exit → Act → World → Prop} {E : Prop} (ty : TypeId) (hgd : o.guard = none) (s x : Operand)
    (ho : o.op = .call { callee := .builtin .append, args := #[s, x], argTypes := #[ty, ty] }) (hty : o.type = ty) {v u v' : Value} {w' : World} (hs : a.eval s = v) (hx : a.eval x = u)
    (hr : (Builtin.append_ #[ty, ty] ty #[v, u]).run Try.prog w = .ok v' w')
    (hK : K (a.put o.dst v') w') : if Region.wanted o (yielded ops a.tmps) = true then Oper.wp Try.prog o a w K Q else E := by
  have hw : Region.wanted o (yielded ops a.tmps) = true := by simp [Region.wanted, hgd]
  rw [if_pos hw]
  unfold Oper.wp
  simp [execOp, ho, hty, resolve, invoke, builtin, hs, hx, hr, Result.andThen]
  exact hK
theorem wpList_appT {ops : Array Oper} {rest : List Oper} {o : Oper} {a : Act} {w : World} {Q : Exit → Act → World → Prop} (ty : TypeId) (hgd : o.guard = none) (s x : Operand)
    (ho : o.op = .call { callee := .builtin .append, args := #[s, x], argTypes := #[ty, ty] }) (hty : o.type = ty) {v u v' : Value} {w' : World} (hs : a.eval s = v) (hx : a.eval x = u)
    (hr : (Builtin.append_ #[ty, ty] ty #[v, u]).run Try.prog w = .ok v' w') (h : wpList Try.prog ops Q rest (a.put o.dst v') w') : wpList Try.prog ops Q (o :: rest) a w := by
  refine wpList_plain hgd fun K hK => ?_
  unfold Oper.wp execOp
  simp only [ho, hty, resolve, invoke, builtin, Sem.run_bind, Sem.run_pure, Result.andThen_ok, List.map_toArray, List.map_cons, List.map_nil, hs, hx, hr]
  exact hK _ _ h
set_option maxRecDepth 100000 in
set_option maxHeartbeats 8000000 in
theorem read_leaf (v : Value) (xs : List Int) (w : World) (hs : Sees w v xs) (hm : xs.length ≤ 140737488355328) (hlf : lfR xs = true) : Calls Try.prog 31 #[v] w (ReadNP w xs) := by
  obtain ⟨wa, hwa⟩ : ∃ wa, wa = w.alloc (.cells #[.bool false, .slice none 0 0, .slice none 0 0, .slice none 0 0] 26) := ⟨_, rfl⟩
  have ba : Below w.heap.size w wa := by rw [hwa]; exact (Below.refl _ _).alloc (Nat.le_refl _) _
  have ea : wa.heap[w.heap.size]? = some (.cells #[.bool false, .slice none 0 0, .slice none 0 0, .slice none 0 0] 26 (0, 0)) := by rw [hwa]; exact heap_alloc_new w _
  have HS := Lib.hid (hs.below ba)
  have HWA := Lib.hid hwa
  have BA := Lib.hid ba
  have EA := Lib.hid ea
  have LF : Hid (getV (got xs false 1) 0 1 = 1) := by show _ = _; exact of_decide_eq_true hlf
  have HBY := Lib.hid hs.1
  clear hs hwa ba ea
  go_enter Try.func31, Try.ntmps31
  go_wp2_with fail
  rw [← HWA.out]
  obtain ⟨w1, hw1⟩ : ∃ w1, w1 = (wa.alloc (.cells (oc.bcells xs) 5)).alloc (.cells #[.slice (some ⟨wa.heap.size, 0, none⟩) xs.length xs.length, .bool false] 106) := ⟨_, rfl⟩
  have R1 : Hid (ov.RD (wa.heap.size + 2) w1 (wa.heap.size + 1) xs false) := by show ov.RD _ _ _ _ _; rw [hw1]; exact ov.rd_made _ wa xs HBY.out (by unfold maxLen; omega) (by omega)
  have B1 : Hid (Below wa.heap.size wa w1) := by show Below _ _ _; rw [hw1]; exact ((Below.refl _ _).alloc (Nat.le_refl _) _).alloc (by simp) _
  refine (oc.read_rd v xs hm wa HS.out).mono ?_
  rintro e w1' ⟨rfl, hx⟩
  rw [← hw1] at hx
  subst hx
  have SZ1 : Hid (wa.heap.size + 2 ≤ w1.heap.size) := by show _ ≤ _; rw [hw1]; simp
  clear hw1
  have HG0 : Hid (wa.heap.size + 1 < wa.heap.size + 2) := by show _ < _; omega
  generalize hB : wa.heap.size + 2 = B at *
  generalize hg : wa.heap.size + 1 = g at *
  go_wp2_with fail
  refine (ov.u8 B g xs false w1 R1.out).mono ?_
  rintro e w2 ⟨rfl, hr, hgr⟩
  rw [LF.out]
  have hr : ov.RD B w2 g (nxt (xs, false) 1).1 (nxt (xs, false) 1).2 := hr
  have R2 := Lib.hid hr
  have B2 : Hid (Below wa.heap.size wa w2) := by show Below _ _ _; exact B1.out.grown hgr B1.out.size (fun k e => by cases e; omega)
  have SZ2 : Hid (B ≤ w2.heap.size) := Nat.le_trans SZ1.out hgr.size
  clear hr hgr
  go_wp2_with fail
  obtain ⟨w3, hw3⟩ : ∃ w3, w3 = w2.alloc (.cells #[.bool true, .slice none 0 0, .slice none 0 0, .slice none 0 0] 26) := ⟨_, rfl⟩
  rw [← hw3]
  have R3 : Hid (ov.RD B w3 g (nxt (xs, false) 1).1 (nxt (xs, false) 1).2) := by show ov.RD _ _ _ _ _; rw [hw3]; exact R2.out.below ((Below.refl _ _).alloc (Nat.le_refl _) _)
  have B3 : Hid (Below wa.heap.size wa w3) := by show Below _ _ _; rw [hw3]; exact B2.out.alloc B2.out.size _
  have G3 : Hid (w3.heap[w2.heap.size]? = some (.cells #[.bool true, .slice none 0 0, .slice none 0 0, .slice none 0 0] 26 (0, 0))) := by show _ = _; rw [hw3]; exact heap_alloc_new w2 _
  have NE : Hid (w2.heap.size ≠ g) := by have := R2.out.lt; show _ ≠ _; omega
  have GA : Hid (wa.heap.size ≤ w2.heap.size) := B2.out.size
  clear hw3
  generalize w2.heap.size = gn at *
  refine (ov.u8 B g _ _ w3 R3.out).mono ?_
  rintro e w4 ⟨rfl, hr, hgr⟩
  have hr : ov.RD B w4 g (nxt (nxt (xs, false) 1) 1).1 (nxt (nxt (xs, false) 1) 1).2 := hr
  have R4 := Lib.hid hr
  have B4 : Hid (Below wa.heap.size wa w4) := by show Below _ _ _; exact B3.out.grown hgr B3.out.size (fun k e => by cases e; omega)
  have G4 : Hid (w4.heap[gn]? = some (.cells #[.bool true, .slice none 0 0, .slice none 0 0, .slice none 0 0] 26 (0, 0))) := (hgr.block gn (Array.getElem?_eq_some_iff.1 G3.out).1 (fun e => NE.out (by cases e; rfl))).trans G3.out
  have CN : Hid (getV (got (nxt (xs, false) 1).1 (nxt (xs, false) 1).2 1) 0 1 = cntR xs) := rfl
  rw [CN.out]
  obtain ⟨c, hc⟩ : ∃ c : Nat, cntR xs = c := Int.eq_ofNat_of_zero_le (gv_bound (nxt_byt (p := (xs, false)) HBY.out 1) 1 1 rfl).1
  have hc9 : (c : Int) ≤ 255 := by have := (gv_bound (nxt_byt (p := (xs, false)) HBY.out 1) 1 1 rfl).2; rw [← hc]; unfold cntR; omega
  rw [hc]
  clear hr hgr CN
  go_wp2_with fail
  have LQ : Hid (∀ n : Int, (nxt (nxt (xs, false) 1) 1).1.length ≤ 140737488355328) := fun _ => Nat.le_trans (nxt_len _ _) (Nat.le_trans (nxt_len _ _) hm)
  refine (ov.bytes_rd B g _ _ 6 (LQ.out 0) w4 R4.out).mono ?_
  rintro e w5 ⟨q5, rfl, _, _, hr, hgr⟩
  have hr : ov.RD B w5 g (begR xs).1 (begR xs).2 := hr
  have R5 := Lib.hid hr
  have B5 : Hid (Below wa.heap.size wa w5) := by show Below _ _ _; exact B4.out.grown hgr B4.out.size (fun k e => by cases e; omega)
  have G5 : Hid (w5.heap[gn]? = some (.cells #[.bool true, .slice none 0 0, .slice none 0 0, .slice none 0 0] 26 (0, 0))) := (hgr.block gn (Array.getElem?_eq_some_iff.1 G4.out).1 (fun e => NE.out (by cases e; rfl))).trans G4.out
  have LB : Hid ((begR xs).1.length ≤ 140737488355328) := Nat.le_trans (nxt_len _ _) (LQ.out 0)
  have YB : Hid (Byt (begR xs).1) := nxt_byt (nxt_byt (nxt_byt (p := (xs, false)) HBY.out 1) 1) 6
  clear hr hgr R1 R2 R3 R4 B1 B2 B3 B4 G3 G4 LQ
  obtain ⟨p, hp⟩ : ∃ p, p = begR xs := ⟨_, rfl⟩
  rw [← hp] at R5 LB YB
  have HP := Lib.hid hp
  have HC := Lib.hid hc
  clear hp hc LF
  go_wp2_with fail
  have E : Hid (EV wa B w5.heap.size g gn) := ⟨R5.out.lt, (Array.getElem?_eq_some_iff.1 G5.out).1, NE.out, Nat.le_trans SZ2.out (Nat.le_of_lt (Array.getElem?_eq_some_iff.1 G5.out).1), SZ2.out, by omega, GA.out⟩
  have MI0 : Hid (MI wa B w5.heap.size g gn (stA true p 0) 0 0 (kc p 0) (vc p 0) (.slice none 0 0) (.slice none 0 0) (.slice none 0 0) (.slice none 0 0) w5) :=
    ⟨G5.out, R5.out, World.ownsRow_nil _ _ _ _, World.ownsRow_nil _ _ _ _, .inl rfl, B5.out, Nat.le_refl _⟩
  generalize w5.heap.size = C at E MI0
  clear R5 B5 G5 SZ1 SZ2 NE GA HG0
  go_loopw [18] (fun vi wr => ∃ (i : Nat) (kv vv : Value), i ≤ c ∧ vi = .int .u8 i ∧ MI wa B C g gn (stA true p i) i i (kc p i) (vc p i) kv vv kv vv wr) (fun vi _ => c - (intOf vi).toNat)
  case atStart => exact ⟨0, _, _, by omega, rfl, MI0.out⟩
  case round =>
    obtain ⟨i, kv, vv, hi, rfl, hM⟩ := hrel
    have HM := Lib.hid hM
    clear hM
    by_cases hlt : i < c
    · have hi16 : (i : Int) < (c : Int) := by omega
      have hi255 : (i : Int) ≤ 254 := by omega
      have i256 : i + 1 ≤ 256 := by omega
      have LQ : Hid ((nxt (stA true p i) 8).1.length ≤ 140737488355328) := Nat.le_trans (nxt_len _ _) (Nat.le_trans (stA_len i) LB.out)
      have VL := Lib.hid (vc_len YB.out i)
      have KS1 := Lib.hid (kc_succ p i)
      have VS1 := Lib.hid (vc_succ p i)
      have ST1 : Hid (nxt (nxt (stA true p i) 8) 44 = stA true p (i + 1)) := rfl
      have KE : Hid (getV (got (stA true p i).1 (stA true p i).2 8) 0 8 = keyA true p i) := rfl
      have VE : Hid (fix 44 (got (nxt (stA true p i) 8).1 (nxt (stA true p i) 8).2 44) = valA p i) := rfl
      have GL := Lib.hid (gt_len (p := nxt (stA true p i) 8) 44 44 rfl)
      have HD := Lib.hid HM.out.drew
      have B54 := Lib.hid b54
      have BS23 := Lib.hid bs23
      obtain ⟨ZR, hZR⟩ : ∃ ZR, ZR = (val (List.replicate 44 0)).toArray := ⟨_, rfl⟩
      rw [← hZR] at B54 BS23
      have HZR := Lib.hid hZR
      clear hZR
      go_wp2_with fail
      refine wp_region_held_drew (S := fun _ => True) (by kernel_rfl) trivial (fun hS => ?_)
      refine' wpAnyH_take (i := 0) ?h1x0a ?hsx0a ?hfx0a ?hrx0a ?hQx0a (Or.inl ⟨?hwx0a, ?hyx0a⟩) hS ?restx0a
      case h1x0a => (simp only [List.getElem?_toArray, List.getElem?_cons_zero]; rfl)
      case hsx0a | hfx0a | hrx0a => kernel_rfl
      case hQx0a => exact fun _ _ _ h => h
      case hwx0a => rfl
      case hyx0a =>
        intro W hW
        go_simp
        try with_reducible rfl
      simp only [Act.put, List.setIfInBounds_toArray, List.set_cons_succ, List.set_cons_zero]
      refine' wpAnyH_take (i := 2) ?h1x2a ?hsx2a ?hfx2a ?hrx2a ?hQx2a (Or.inl ⟨?hwx2a, ?hyx2a⟩) hS ?restx2a
      case h1x2a => (simp only [List.getElem?_toArray, List.getElem?_cons_succ, List.getElem?_cons_zero]; rfl)
      case hsx2a | hfx2a | hrx2a => kernel_rfl
      case hQx2a => exact fun _ _ _ h => h
      case hwx2a => rfl
      case hyx2a =>
        intro W hW
        go_simp
        try with_reducible rfl
      simp only [Act.put, List.setIfInBounds_toArray, List.set_cons_succ, List.set_cons_zero]
      refine wpAnyH_ready (rs := [1, 3]) (by kernel_rfl) (by simp) ?_
      refine' (AllReadyH.cons ?hoc1b (fun K hK => ?stc1b) (AllReadyH.cons ?hoc3b (fun K hK => ?stc3b) AllReadyH.nil))
      case hoc1b => (simp only [List.getElem?_toArray, List.getElem?_cons_succ, List.getElem?_cons_zero]; rfl)
      case hoc3b => (simp only [List.getElem?_toArray, List.getElem?_cons_succ, List.getElem?_cons_zero]; rfl)
      case stc1b =>
        have dd := (cell_row HD.out.node 1).trans (show (#[Value.bool true, kv, vv, .slice none 0 0] : Array Value)[1]? = some kv from rfl)
        go_simp
        refine hK.out _ _ trivial (fun hHeld => ?_)
        clear hK K
        try simp only [Act.put, List.setIfInBounds_toArray, List.set_cons_succ, List.set_cons_zero]
        clear hS
        have hS := hHeld
        clear hHeld
        clear dd
        refine wpAnyH_ready (rs := [3]) (by kernel_rfl) (by simp) ?_
        refine' (AllReadyH.cons ?hoc3c (fun K hK => ?stc3c) AllReadyH.nil)
        case hoc3c => (simp only [List.getElem?_toArray, List.getElem?_cons_succ, List.getElem?_cons_zero]; rfl)
        go_simp
        refine (ov.u64 B g _ _ _ HD.out.rd).mono ?_
        rintro e W1 ⟨rfl, hr, hgr⟩
        rw [KE.out]
        have HM1 := Lib.hid (HD.out.call E.out (q' := nxt (stA true p i) 8) hr hgr)
        clear hr hgr
        go_wp2_with fail
        refine hK.out _ _ trivial (fun hHeld => ?_)
        clear hK K
        try simp only [Act.put, List.setIfInBounds_toArray, List.set_cons_succ, List.set_cons_zero]
        clear hS
        have hS := hHeld
        clear hHeld
        refine wpAnyH_ready (rs := [4]) (by kernel_rfl) (by simp) ?_
        refine' (AllReadyH.cons ?hoc4d (fun K hK => ?stc4d) AllReadyH.nil)
        case hoc4d => (simp only [List.getElem?_toArray, List.getElem?_cons_succ, List.getElem?_cons_zero]; rfl)
        go_simp
        refine hK.out _ _ trivial (fun hHeld => ?_)
        clear hK K
        try simp only [Act.put, List.setIfInBounds_toArray, List.set_cons_succ, List.set_cons_zero]
        clear hS
        have hS := hHeld
        clear hHeld
        have HM1a := Lib.hid (HM1.out.alloc (.cells #[.int .u64 (keyA true p i)] 52))
        obtain ⟨kv2, W2, hr2, hM2⟩ := HM1a.out.appK E.out (heap_alloc_new W1 _) i256
        rw [KS1.out] at hM2
        obtain ⟨y2, z2, rfl⟩ := own_form hM2.own
        have HM2 := Lib.hid hM2
        have HR2 := Lib.hid hr2
        clear hr2 hM2
        refine wpAnyH_ready (rs := [5]) (by kernel_rfl) (by simp) ?_
        refine' (AllReadyH.cons ?hoc5e (fun K hK => ?stc5e) AllReadyH.nil)
        case hoc5e => (simp only [List.getElem?_toArray, List.getElem?_cons_succ, List.getElem?_cons_zero]; rfl)
        refine step_appT 22 rfl _ _ rfl rfl rfl rfl HR2.out ?_
        refine hK.out _ _ trivial (fun hHeld => ?_)
        clear hK K
        try simp only [Act.put, List.setIfInBounds_toArray, List.set_cons_succ, List.set_cons_zero]
        clear hS
        have hS := hHeld
        clear hHeld
        refine' wpAnyH_take (i := 6) ?h1x6e ?hsx6e ?hfx6e ?hrx6e ?hQx6e (Or.inl ⟨?hwx6e, ?hyx6e⟩) hS ?restx6e
        case h1x6e => (simp only [List.getElem?_toArray, List.getElem?_cons_succ, List.getElem?_cons_zero]; rfl)
        case hsx6e | hfx6e | hrx6e => kernel_rfl
        case hQx6e => exact fun _ _ _ h => h
        case hwx6e => rfl
        case hyx6e =>
          intro W hW
          go_simp
          try with_reducible rfl
        simp only [Act.put, List.setIfInBounds_toArray, List.set_cons_succ, List.set_cons_zero]
        refine wpAnyH_ready (rs := [7]) (by kernel_rfl) (by simp) ?_
        refine' (AllReadyH.cons ?hoc7e (fun K hK => ?stc7e) AllReadyH.nil)
        case hoc7e => (simp only [List.getElem?_toArray, List.getElem?_cons_succ, List.getElem?_cons_zero]; rfl)
        have c1 := (cell_row HM2.out.node 1).trans (show (#[Value.bool true, kv, vv, .slice none 0 0] : Array Value)[1]? = some kv from rfl)
        have f1 := oc.frozen_block HM2.out.node 1
        go_simp
        have hW3 : W2.setCell ⟨gn, 1, none⟩ (.slice y2 (i + 1) z2) = W2.setRow gn #[.bool true, .slice y2 (i + 1) z2, vv, .slice none 0 0] := setCell_eq_setRow W2 gn 1 _ _ _ _ HM2.out.node
        have HM3 := Lib.hid (HM2.out.store E.out (.slice y2 (i + 1) z2) vv)
        rw [hW3]
        clear hW3 c1 f1
        obtain ⟨W3, hW3⟩ : ∃ W3, W3 = W2.setRow gn #[.bool true, .slice y2 (i + 1) z2, vv, .slice none 0 0] := ⟨_, rfl⟩
        rw [← hW3] at HM3 ⊢
        clear hW3
        refine hK.out _ _ trivial (fun hHeld => ?_)
        clear hK K
        try simp only [Act.put, List.setIfInBounds_toArray, List.set_cons_succ, List.set_cons_zero]
        clear hS
        have hS := hHeld
        clear hHeld
        refine wpAnyH_done (by kernel_rfl) ?_ _
        clear HM1 HM1a HM2 HR2 hS HD
        have c0 := (cell_row HM3.out.node 0).trans (show (#[Value.bool true, .slice y2 (i + 1) z2, vv, .slice none 0 0] : Array Value)[0]? = some (.bool true) from rfl)
        have c2 := (cell_row HM3.out.node 2).trans (show (#[Value.bool true, .slice y2 (i + 1) z2, vv, .slice none 0 0] : Array Value)[2]? = some vv from rfl)
        have HM3a := Lib.hid (HM3.out.alloc (.cells ZR 54))
        obtain ⟨vv4, W4, hr4, hM4⟩ := HM3a.out.appV E.out (z := List.replicate 44 0) List.length_replicate (by rw [← HZR.out]; exact heap_alloc_new W3 _) i256
        obtain ⟨gv, z4, rfl⟩ := own_form2 hM4.row
        have HM4 := Lib.hid hM4
        have HR4 := Lib.hid hr4
        clear hr4 hM4
        have c2' := (cell_row HM4.out.node 2).trans (show (#[Value.bool true, .slice y2 (i + 1) z2, vv, .slice none 0 0] : Array Value)[2]? = some vv from rfl)
        have f2 := oc.frozen_block HM4.out.node 2
        go_wp2_with (refine wpList_b54 rfl rfl (B54.out _) ?_; refine wpList_bs23 rfl _ rfl rfl (BS23.out _) ?_; refine wpList_appT 23 rfl _ _ rfl rfl rfl rfl HR4.out ?_)
        have hW5 : W4.setCell ⟨gn, 2, none⟩ (.slice (some ⟨gv, 0, none⟩) (i + 1) z4) = W4.setRow gn #[.bool true, .slice y2 (i + 1) z2, .slice (some ⟨gv, 0, none⟩) (i + 1) z4, .slice none 0 0] := setCell_eq_setRow W4 gn 2 _ _ _ _ HM4.out.node
        have HM5 := Lib.hid (HM4.out.store E.out (.slice y2 (i + 1) z2) (.slice (some ⟨gv, 0, none⟩) (i + 1) z4))
        rw [hW5]
        obtain ⟨W5, hW5'⟩ : ∃ W5, W5 = W4.setRow gn #[.bool true, .slice y2 (i + 1) z2, .slice (some ⟨gv, 0, none⟩) (i + 1) z4, .slice none 0 0] := ⟨_, rfl⟩
        rw [← hW5'] at HM5 ⊢
        clear hW5 hW5'
        have HD5 := Lib.hid HM5.out.drew
        have IW : IntKind.i64.wrap (i : Int) = (i : Int) := by rw [IntKind.wrap_i64]; omega
        have IW0 : (0 : Int) ≤ (i : Int) := by omega
        have IW1 : (i : Int) < (i : Int) + 1 := by omega
        clear HM3 HM3a HM4 HR4 c0 c2 c2' f2
        refine wp_region_held_drew (S := fun W => W.heap[gn]? = some (.cells #[.bool true, .slice y2 (i + 1) z2, .slice (some ⟨gv, 0, none⟩) (i + 1) z4, .slice none 0 0] 26 (0, 0))) (by kernel_rfl) HD5.out.node (fun hS => ?_)
        refine' wpAnyH_take (i := 0) ?h1x0ze ?hsx0ze ?hfx0ze ?hrx0ze ?hQx0ze (Or.inl ⟨?hwx0ze, ?hyx0ze⟩) hS ?restx0ze
        case h1x0ze => (simp only [List.getElem?_toArray, List.getElem?_cons_zero]; rfl)
        case hsx0ze | hfx0ze | hrx0ze => kernel_rfl
        case hQx0ze => exact fun _ _ _ h => h
        case hwx0ze => rfl
        case hyx0ze =>
          intro W hW
          go_simp
          try with_reducible rfl
        simp only [Act.put, List.setIfInBounds_toArray, List.set_cons_succ, List.set_cons_zero]
        refine' wpAnyH_take (i := 1) ?h1x1ze ?hsx1ze ?hfx1ze ?hrx1ze ?hQx1ze (Or.inl ⟨?hwx1ze, ?hyx1ze⟩) hS ?restx1ze
        case h1x1ze => (simp only [List.getElem?_toArray, List.getElem?_cons_succ, List.getElem?_cons_zero]; rfl)
        case hsx1ze | hfx1ze | hrx1ze => kernel_rfl
        case hQx1ze => exact fun _ _ _ h => h
        case hwx1ze => rfl
        case hyx1ze =>
          intro W hW
          have dd := (cell_row hW 2).trans (show (#[Value.bool true, .slice y2 (i + 1) z2, .slice (some ⟨gv, 0, none⟩) (i + 1) z4, .slice none 0 0] : Array Value)[2]? = some (.slice (some ⟨gv, 0, none⟩) (i + 1) z4) from rfl)
          go_simp
          try with_reducible rfl
        simp only [Act.put, List.setIfInBounds_toArray, List.set_cons_succ, List.set_cons_zero]
        refine' wpAnyH_take (i := 2) ?h1x2ze ?hsx2ze ?hfx2ze ?hrx2ze ?hQx2ze (Or.inl ⟨?hwx2ze, ?hyx2ze⟩) hS ?restx2ze
        case h1x2ze => (simp only [List.getElem?_toArray, List.getElem?_cons_succ, List.getElem?_cons_zero]; rfl)
        case hsx2ze | hfx2ze | hrx2ze => kernel_rfl
        case hQx2ze => exact fun _ _ _ h => h
        case hwx2ze => rfl
        case hyx2ze =>
          intro W hW
          go_simp
          try with_reducible rfl
        simp only [Act.put, List.setIfInBounds_toArray, List.set_cons_succ, List.set_cons_zero]
        refine' wpAnyH_take (i := 3) ?h1x3ze ?hsx3ze ?hfx3ze ?hrx3ze ?hQx3ze (Or.inl ⟨?hwx3ze, ?hyx3ze⟩) hS ?restx3ze
        case h1x3ze => (simp only [List.getElem?_toArray, List.getElem?_cons_succ, List.getElem?_cons_zero]; rfl)
        case hsx3ze | hfx3ze | hrx3ze => kernel_rfl
        case hQx3ze => exact fun _ _ _ h => h
        case hwx3ze => rfl
        case hyx3ze =>
          intro W hW
          have dd := (cell_row hW 2).trans (show (#[Value.bool true, .slice y2 (i + 1) z2, .slice (some ⟨gv, 0, none⟩) (i + 1) z4, .slice none 0 0] : Array Value)[2]? = some (.slice (some ⟨gv, 0, none⟩) (i + 1) z4) from rfl)
          go_simp
          try with_reducible rfl
        simp only [Act.put, List.setIfInBounds_toArray, List.set_cons_succ, List.set_cons_zero]
        refine' wpAnyH_take (i := 4) ?h1x4ze ?hsx4ze ?hfx4ze ?hrx4ze ?hQx4ze (Or.inl ⟨?hwx4ze, ?hyx4ze⟩) hS ?restx4ze
        case h1x4ze => (simp only [List.getElem?_toArray, List.getElem?_cons_succ, List.getElem?_cons_zero]; rfl)
        case hsx4ze | hfx4ze | hrx4ze => kernel_rfl
        case hQx4ze => exact fun _ _ _ h => h
        case hwx4ze => rfl
        case hyx4ze =>
          intro W hW
          go_simp
          try with_reducible rfl
        simp only [Act.put, List.setIfInBounds_toArray, List.set_cons_succ, List.set_cons_zero]
        refine' wpAnyH_take (i := 5) ?h1x5ze ?hsx5ze ?hfx5ze ?hrx5ze ?hQx5ze (Or.inl ⟨?hwx5ze, ?hyx5ze⟩) hS ?restx5ze
        case h1x5ze => (simp only [List.getElem?_toArray, List.getElem?_cons_succ, List.getElem?_cons_zero]; rfl)
        case hsx5ze | hfx5ze | hrx5ze => kernel_rfl
        case hQx5ze => exact fun _ _ _ h => h
        case hwx5ze => rfl
        case hyx5ze =>
          intro W hW
          go_simp
          try with_reducible rfl
        simp only [Act.put, List.setIfInBounds_toArray, List.set_cons_succ, List.set_cons_zero]
        refine' wpAnyH_take (i := 6) ?h1x6ze ?hsx6ze ?hfx6ze ?hrx6ze ?hQx6ze (Or.inl ⟨?hwx6ze, ?hyx6ze⟩) hS ?restx6ze
        case h1x6ze => (simp only [List.getElem?_toArray, List.getElem?_cons_succ, List.getElem?_cons_zero]; rfl)
        case hsx6ze | hfx6ze | hrx6ze => kernel_rfl
        case hQx6ze => exact fun _ _ _ h => h
        case hwx6ze => rfl
        case hyx6ze =>
          intro W hW
          go_simp
          try with_reducible rfl
        simp only [Act.put, List.setIfInBounds_toArray, List.set_cons_succ, List.set_cons_zero]
        refine' wpAnyH_take (i := 7) ?h1x7ze ?hsx7ze ?hfx7ze ?hrx7ze ?hQx7ze (Or.inl ⟨?hwx7ze, ?hyx7ze⟩) hS ?restx7ze
        case h1x7ze => (simp only [List.getElem?_toArray, List.getElem?_cons_succ, List.getElem?_cons_zero]; rfl)
        case hsx7ze | hfx7ze | hrx7ze => kernel_rfl
        case hQx7ze => exact fun _ _ _ h => h
        case hwx7ze => rfl
        case hyx7ze =>
          intro W hW
          go_simp
          try with_reducible rfl
        simp only [Act.put, List.setIfInBounds_toArray, List.set_cons_succ, List.set_cons_zero]
        refine' wpAnyH_take (i := 8) ?h1x8ze ?hsx8ze ?hfx8ze ?hrx8ze ?hQx8ze (Or.inl ⟨?hwx8ze, ?hyx8ze⟩) hS ?restx8ze
        case h1x8ze => (simp only [List.getElem?_toArray, List.getElem?_cons_succ, List.getElem?_cons_zero]; rfl)
        case hsx8ze | hfx8ze | hrx8ze => kernel_rfl
        case hQx8ze => exact fun _ _ _ h => h
        case hwx8ze => rfl
        case hyx8ze =>
          intro W hW
          go_simp
          try with_reducible rfl
        simp only [Act.put, List.setIfInBounds_toArray, List.set_cons_succ, List.set_cons_zero]
        refine wpAnyH_ready (rs := [9]) (by kernel_rfl) (by simp) ?_
        refine' (AllReadyH.cons ?hoc9ye (fun K hK => ?stc9ye) AllReadyH.nil)
        case hoc9ye => (simp only [List.getElem?_toArray, List.getElem?_cons_succ, List.getElem?_cons_zero]; rfl)
        go_simp
        refine (ov.bytes_rd B g _ _ 44 LQ.out _ HD5.out.rd).mono ?_
        rintro e W6 ⟨q6, rfl, hs6, _, hr, hgr⟩
        have HM6 := Lib.hid (HD5.out.call E.out (q' := nxt (nxt (stA true p i) 8) 44) hr hgr)
        obtain ⟨gv', z4', W7, hVe, hr7, hM7⟩ := HM6.out.copyV E.out VL.out hs6 GL.out
        cases hVe
        rw [VE.out, VS1.out, ST1.out] at hM7
        have HM7 := Lib.hid hM7
        have HR7 := Lib.hid hr7
        clear hr7 hM7 hr hgr hs6
        go_wp2_with fail
        refine hK.out _ _ HM6.out.node (fun hHeld => ?_)
        clear hK K
        try simp only [Act.put, List.setIfInBounds_toArray, List.set_cons_succ, List.set_cons_zero]
        clear hS
        have hS := hHeld
        clear hHeld
        refine wpAnyH_ready (rs := [10]) (by kernel_rfl) (by simp) ?_
        refine' (AllReadyH.cons ?hoc10xe (fun K hK => ?stc10xe) AllReadyH.nil)
        case hoc10xe => (simp only [List.getElem?_toArray, List.getElem?_cons_succ, List.getElem?_cons_zero]; rfl)
        refine step_cpT rfl _ _ rfl rfl rfl rfl HR7.out ?_
        refine hK.out _ _ HM7.out.node (fun hHeld => ?_)
        clear hK K
        try simp only [Act.put, List.setIfInBounds_toArray, List.set_cons_succ, List.set_cons_zero]
        clear hS
        have hS := hHeld
        clear hHeld
        refine wpAnyH_done (by kernel_rfl) ?_ _
        clear HM5 HD5 HM6 HR7 hS
        go_wp2_with fail
        go_roundw
        case rel => exact ⟨i + 1, _, _, by omega, by go_num, HM7.out⟩
        case measure => simp [intOf]; omega
      case stc3b =>
        go_simp
        refine (ov.u64 B g _ _ _ HD.out.rd).mono ?_
        rintro e W1 ⟨rfl, hr, hgr⟩
        rw [KE.out]
        have HM1 := Lib.hid (HD.out.call E.out (q' := nxt (stA true p i) 8) hr hgr)
        clear hr hgr
        go_wp2_with fail
        refine hK.out _ _ trivial (fun hHeld => ?_)
        clear hK K
        try simp only [Act.put, List.setIfInBounds_toArray, List.set_cons_succ, List.set_cons_zero]
        clear hS
        have hS := hHeld
        clear hHeld
        refine wpAnyH_ready (rs := [1, 4]) (by kernel_rfl) (by simp) ?_
        refine' (AllReadyH.cons ?hoc1f (fun K hK => ?stc1f) (AllReadyH.cons ?hoc4f (fun K hK => ?stc4f) AllReadyH.nil))
        case hoc1f => (simp only [List.getElem?_toArray, List.getElem?_cons_succ, List.getElem?_cons_zero]; rfl)
        case hoc4f => (simp only [List.getElem?_toArray, List.getElem?_cons_succ, List.getElem?_cons_zero]; rfl)
        case stc1f =>
          have dd := (cell_row HM1.out.node 1).trans (show (#[Value.bool true, kv, vv, .slice none 0 0] : Array Value)[1]? = some kv from rfl)
          go_simp
          refine hK.out _ _ trivial (fun hHeld => ?_)
          clear hK K
          try simp only [Act.put, List.setIfInBounds_toArray, List.set_cons_succ, List.set_cons_zero]
          clear hS
          have hS := hHeld
          clear hHeld
          clear dd
          refine wpAnyH_ready (rs := [4]) (by kernel_rfl) (by simp) ?_
          refine' (AllReadyH.cons ?hoc4g (fun K hK => ?stc4g) AllReadyH.nil)
          case hoc4g => (simp only [List.getElem?_toArray, List.getElem?_cons_succ, List.getElem?_cons_zero]; rfl)
          go_simp
          refine hK.out _ _ trivial (fun hHeld => ?_)
          clear hK K
          try simp only [Act.put, List.setIfInBounds_toArray, List.set_cons_succ, List.set_cons_zero]
          clear hS
          have hS := hHeld
          clear hHeld
          have HM1a := Lib.hid (HM1.out.alloc (.cells #[.int .u64 (keyA true p i)] 52))
          obtain ⟨kv2, W2, hr2, hM2⟩ := HM1a.out.appK E.out (heap_alloc_new W1 _) i256
          rw [KS1.out] at hM2
          obtain ⟨y2, z2, rfl⟩ := own_form hM2.own
          have HM2 := Lib.hid hM2
          have HR2 := Lib.hid hr2
          clear hr2 hM2
          refine wpAnyH_ready (rs := [5]) (by kernel_rfl) (by simp) ?_
          refine' (AllReadyH.cons ?hoc5h (fun K hK => ?stc5h) AllReadyH.nil)
          case hoc5h => (simp only [List.getElem?_toArray, List.getElem?_cons_succ, List.getElem?_cons_zero]; rfl)
          refine step_appT 22 rfl _ _ rfl rfl rfl rfl HR2.out ?_
          refine hK.out _ _ trivial (fun hHeld => ?_)
          clear hK K
          try simp only [Act.put, List.setIfInBounds_toArray, List.set_cons_succ, List.set_cons_zero]
          clear hS
          have hS := hHeld
          clear hHeld
          refine' wpAnyH_take (i := 6) ?h1x6h ?hsx6h ?hfx6h ?hrx6h ?hQx6h (Or.inl ⟨?hwx6h, ?hyx6h⟩) hS ?restx6h
          case h1x6h => (simp only [List.getElem?_toArray, List.getElem?_cons_succ, List.getElem?_cons_zero]; rfl)
          case hsx6h | hfx6h | hrx6h => kernel_rfl
          case hQx6h => exact fun _ _ _ h => h
          case hwx6h => rfl
          case hyx6h =>
            intro W hW
            go_simp
            try with_reducible rfl
          simp only [Act.put, List.setIfInBounds_toArray, List.set_cons_succ, List.set_cons_zero]
          refine wpAnyH_ready (rs := [7]) (by kernel_rfl) (by simp) ?_
          refine' (AllReadyH.cons ?hoc7h (fun K hK => ?stc7h) AllReadyH.nil)
          case hoc7h => (simp only [List.getElem?_toArray, List.getElem?_cons_succ, List.getElem?_cons_zero]; rfl)
          have c1 := (cell_row HM2.out.node 1).trans (show (#[Value.bool true, kv, vv, .slice none 0 0] : Array Value)[1]? = some kv from rfl)
          have f1 := oc.frozen_block HM2.out.node 1
          go_simp
          have hW3 : W2.setCell ⟨gn, 1, none⟩ (.slice y2 (i + 1) z2) = W2.setRow gn #[.bool true, .slice y2 (i + 1) z2, vv, .slice none 0 0] := setCell_eq_setRow W2 gn 1 _ _ _ _ HM2.out.node
          have HM3 := Lib.hid (HM2.out.store E.out (.slice y2 (i + 1) z2) vv)
          rw [hW3]
          clear hW3 c1 f1
          obtain ⟨W3, hW3⟩ : ∃ W3, W3 = W2.setRow gn #[.bool true, .slice y2 (i + 1) z2, vv, .slice none 0 0] := ⟨_, rfl⟩
          rw [← hW3] at HM3 ⊢
          clear hW3
          refine hK.out _ _ trivial (fun hHeld => ?_)
          clear hK K
          try simp only [Act.put, List.setIfInBounds_toArray, List.set_cons_succ, List.set_cons_zero]
          clear hS
          have hS := hHeld
          clear hHeld
          refine wpAnyH_done (by kernel_rfl) ?_ _
          clear HM1 HM1a HM2 HR2 hS HD
          have c0 := (cell_row HM3.out.node 0).trans (show (#[Value.bool true, .slice y2 (i + 1) z2, vv, .slice none 0 0] : Array Value)[0]? = some (.bool true) from rfl)
          have c2 := (cell_row HM3.out.node 2).trans (show (#[Value.bool true, .slice y2 (i + 1) z2, vv, .slice none 0 0] : Array Value)[2]? = some vv from rfl)
          have HM3a := Lib.hid (HM3.out.alloc (.cells ZR 54))
          obtain ⟨vv4, W4, hr4, hM4⟩ := HM3a.out.appV E.out (z := List.replicate 44 0) List.length_replicate (by rw [← HZR.out]; exact heap_alloc_new W3 _) i256
          obtain ⟨gv, z4, rfl⟩ := own_form2 hM4.row
          have HM4 := Lib.hid hM4
          have HR4 := Lib.hid hr4
          clear hr4 hM4
          have c2' := (cell_row HM4.out.node 2).trans (show (#[Value.bool true, .slice y2 (i + 1) z2, vv, .slice none 0 0] : Array Value)[2]? = some vv from rfl)
          have f2 := oc.frozen_block HM4.out.node 2
          go_wp2_with (refine wpList_b54 rfl rfl (B54.out _) ?_; refine wpList_bs23 rfl _ rfl rfl (BS23.out _) ?_; refine wpList_appT 23 rfl _ _ rfl rfl rfl rfl HR4.out ?_)
          have hW5 : W4.setCell ⟨gn, 2, none⟩ (.slice (some ⟨gv, 0, none⟩) (i + 1) z4) = W4.setRow gn #[.bool true, .slice y2 (i + 1) z2, .slice (some ⟨gv, 0, none⟩) (i + 1) z4, .slice none 0 0] := setCell_eq_setRow W4 gn 2 _ _ _ _ HM4.out.node
          have HM5 := Lib.hid (HM4.out.store E.out (.slice y2 (i + 1) z2) (.slice (some ⟨gv, 0, none⟩) (i + 1) z4))
          rw [hW5]
          obtain ⟨W5, hW5'⟩ : ∃ W5, W5 = W4.setRow gn #[.bool true, .slice y2 (i + 1) z2, .slice (some ⟨gv, 0, none⟩) (i + 1) z4, .slice none 0 0] := ⟨_, rfl⟩
          rw [← hW5'] at HM5 ⊢
          clear hW5 hW5'
          have HD5 := Lib.hid HM5.out.drew
          have IW : IntKind.i64.wrap (i : Int) = (i : Int) := by rw [IntKind.wrap_i64]; omega
          have IW0 : (0 : Int) ≤ (i : Int) := by omega
          have IW1 : (i : Int) < (i : Int) + 1 := by omega
          clear HM3 HM3a HM4 HR4 c0 c2 c2' f2
          refine wp_region_held_drew (S := fun W => W.heap[gn]? = some (.cells #[.bool true, .slice y2 (i + 1) z2, .slice (some ⟨gv, 0, none⟩) (i + 1) z4, .slice none 0 0] 26 (0, 0))) (by kernel_rfl) HD5.out.node (fun hS => ?_)
          refine' wpAnyH_take (i := 0) ?h1x0zh ?hsx0zh ?hfx0zh ?hrx0zh ?hQx0zh (Or.inl ⟨?hwx0zh, ?hyx0zh⟩) hS ?restx0zh
          case h1x0zh => (simp only [List.getElem?_toArray, List.getElem?_cons_zero]; rfl)
          case hsx0zh | hfx0zh | hrx0zh => kernel_rfl
          case hQx0zh => exact fun _ _ _ h => h
          case hwx0zh => rfl
          case hyx0zh =>
            intro W hW
            go_simp
            try with_reducible rfl
          simp only [Act.put, List.setIfInBounds_toArray, List.set_cons_succ, List.set_cons_zero]
          refine' wpAnyH_take (i := 1) ?h1x1zh ?hsx1zh ?hfx1zh ?hrx1zh ?hQx1zh (Or.inl ⟨?hwx1zh, ?hyx1zh⟩) hS ?restx1zh
          case h1x1zh => (simp only [List.getElem?_toArray, List.getElem?_cons_succ, List.getElem?_cons_zero]; rfl)
          case hsx1zh | hfx1zh | hrx1zh => kernel_rfl
          case hQx1zh => exact fun _ _ _ h => h
          case hwx1zh => rfl
          case hyx1zh =>
            intro W hW
            have dd := (cell_row hW 2).trans (show (#[Value.bool true, .slice y2 (i + 1) z2, .slice (some ⟨gv, 0, none⟩) (i + 1) z4, .slice none 0 0] : Array Value)[2]? = some (.slice (some ⟨gv, 0, none⟩) (i + 1) z4) from rfl)
            go_simp
            try with_reducible rfl
          simp only [Act.put, List.setIfInBounds_toArray, List.set_cons_succ, List.set_cons_zero]
          refine' wpAnyH_take (i := 2) ?h1x2zh ?hsx2zh ?hfx2zh ?hrx2zh ?hQx2zh (Or.inl ⟨?hwx2zh, ?hyx2zh⟩) hS ?restx2zh
          case h1x2zh => (simp only [List.getElem?_toArray, List.getElem?_cons_succ, List.getElem?_cons_zero]; rfl)
          case hsx2zh | hfx2zh | hrx2zh => kernel_rfl
          case hQx2zh => exact fun _ _ _ h => h
          case hwx2zh => rfl
          case hyx2zh =>
            intro W hW
            go_simp
            try with_reducible rfl
          simp only [Act.put, List.setIfInBounds_toArray, List.set_cons_succ, List.set_cons_zero]
          refine' wpAnyH_take (i := 3) ?h1x3zh ?hsx3zh ?hfx3zh ?hrx3zh ?hQx3zh (Or.inl ⟨?hwx3zh, ?hyx3zh⟩) hS ?restx3zh
          case h1x3zh => (simp only [List.getElem?_toArray, List.getElem?_cons_succ, List.getElem?_cons_zero]; rfl)
          case hsx3zh | hfx3zh | hrx3zh => kernel_rfl
          case hQx3zh => exact fun _ _ _ h => h
          case hwx3zh => rfl
          case hyx3zh =>
            intro W hW
            have dd := (cell_row hW 2).trans (show (#[Value.bool true, .slice y2 (i + 1) z2, .slice (some ⟨gv, 0, none⟩) (i + 1) z4, .slice none 0 0] : Array Value)[2]? = some (.slice (some ⟨gv, 0, none⟩) (i + 1) z4) from rfl)
            go_simp
            try with_reducible rfl
          simp only [Act.put, List.setIfInBounds_toArray, List.set_cons_succ, List.set_cons_zero]
          refine' wpAnyH_take (i := 4) ?h1x4zh ?hsx4zh ?hfx4zh ?hrx4zh ?hQx4zh (Or.inl ⟨?hwx4zh, ?hyx4zh⟩) hS ?restx4zh
          case h1x4zh => (simp only [List.getElem?_toArray, List.getElem?_cons_succ, List.getElem?_cons_zero]; rfl)
          case hsx4zh | hfx4zh | hrx4zh => kernel_rfl
          case hQx4zh => exact fun _ _ _ h => h
          case hwx4zh => rfl
          case hyx4zh =>
            intro W hW
            go_simp
            try with_reducible rfl
          simp only [Act.put, List.setIfInBounds_toArray, List.set_cons_succ, List.set_cons_zero]
          refine' wpAnyH_take (i := 5) ?h1x5zh ?hsx5zh ?hfx5zh ?hrx5zh ?hQx5zh (Or.inl ⟨?hwx5zh, ?hyx5zh⟩) hS ?restx5zh
          case h1x5zh => (simp only [List.getElem?_toArray, List.getElem?_cons_succ, List.getElem?_cons_zero]; rfl)
          case hsx5zh | hfx5zh | hrx5zh => kernel_rfl
          case hQx5zh => exact fun _ _ _ h => h
          case hwx5zh => rfl
          case hyx5zh =>
            intro W hW
            go_simp
            try with_reducible rfl
          simp only [Act.put, List.setIfInBounds_toArray, List.set_cons_succ, List.set_cons_zero]
          refine' wpAnyH_take (i := 6) ?h1x6zh ?hsx6zh ?hfx6zh ?hrx6zh ?hQx6zh (Or.inl ⟨?hwx6zh, ?hyx6zh⟩) hS ?restx6zh
          case h1x6zh => (simp only [List.getElem?_toArray, List.getElem?_cons_succ, List.getElem?_cons_zero]; rfl)
          case hsx6zh | hfx6zh | hrx6zh => kernel_rfl
          case hQx6zh => exact fun _ _ _ h => h
          case hwx6zh => rfl
          case hyx6zh =>
            intro W hW
            go_simp
            try with_reducible rfl
          simp only [Act.put, List.setIfInBounds_toArray, List.set_cons_succ, List.set_cons_zero]
          refine' wpAnyH_take (i := 7) ?h1x7zh ?hsx7zh ?hfx7zh ?hrx7zh ?hQx7zh (Or.inl ⟨?hwx7zh, ?hyx7zh⟩) hS ?restx7zh
          case h1x7zh => (simp only [List.getElem?_toArray, List.getElem?_cons_succ, List.getElem?_cons_zero]; rfl)
          case hsx7zh | hfx7zh | hrx7zh => kernel_rfl
          case hQx7zh => exact fun _ _ _ h => h
          case hwx7zh => rfl
          case hyx7zh =>
            intro W hW
            go_simp
            try with_reducible rfl
          simp only [Act.put, List.setIfInBounds_toArray, List.set_cons_succ, List.set_cons_zero]
          refine' wpAnyH_take (i := 8) ?h1x8zh ?hsx8zh ?hfx8zh ?hrx8zh ?hQx8zh (Or.inl ⟨?hwx8zh, ?hyx8zh⟩) hS ?restx8zh
          case h1x8zh => (simp only [List.getElem?_toArray, List.getElem?_cons_succ, List.getElem?_cons_zero]; rfl)
          case hsx8zh | hfx8zh | hrx8zh => kernel_rfl
          case hQx8zh => exact fun _ _ _ h => h
          case hwx8zh => rfl
          case hyx8zh =>
            intro W hW
            go_simp
            try with_reducible rfl
          simp only [Act.put, List.setIfInBounds_toArray, List.set_cons_succ, List.set_cons_zero]
          refine wpAnyH_ready (rs := [9]) (by kernel_rfl) (by simp) ?_
          refine' (AllReadyH.cons ?hoc9yh (fun K hK => ?stc9yh) AllReadyH.nil)
          case hoc9yh => (simp only [List.getElem?_toArray, List.getElem?_cons_succ, List.getElem?_cons_zero]; rfl)
          go_simp
          refine (ov.bytes_rd B g _ _ 44 LQ.out _ HD5.out.rd).mono ?_
          rintro e W6 ⟨q6, rfl, hs6, _, hr, hgr⟩
          have HM6 := Lib.hid (HD5.out.call E.out (q' := nxt (nxt (stA true p i) 8) 44) hr hgr)
          obtain ⟨gv', z4', W7, hVe, hr7, hM7⟩ := HM6.out.copyV E.out VL.out hs6 GL.out
          cases hVe
          rw [VE.out, VS1.out, ST1.out] at hM7
          have HM7 := Lib.hid hM7
          have HR7 := Lib.hid hr7
          clear hr7 hM7 hr hgr hs6
          go_wp2_with fail
          refine hK.out _ _ HM6.out.node (fun hHeld => ?_)
          clear hK K
          try simp only [Act.put, List.setIfInBounds_toArray, List.set_cons_succ, List.set_cons_zero]
          clear hS
          have hS := hHeld
          clear hHeld
          refine wpAnyH_ready (rs := [10]) (by kernel_rfl) (by simp) ?_
          refine' (AllReadyH.cons ?hoc10xh (fun K hK => ?stc10xh) AllReadyH.nil)
          case hoc10xh => (simp only [List.getElem?_toArray, List.getElem?_cons_succ, List.getElem?_cons_zero]; rfl)
          refine step_cpT rfl _ _ rfl rfl rfl rfl HR7.out ?_
          refine hK.out _ _ HM7.out.node (fun hHeld => ?_)
          clear hK K
          try simp only [Act.put, List.setIfInBounds_toArray, List.set_cons_succ, List.set_cons_zero]
          clear hS
          have hS := hHeld
          clear hHeld
          refine wpAnyH_done (by kernel_rfl) ?_ _
          clear HM5 HD5 HM6 HR7 hS
          go_wp2_with fail
          go_roundw
          case rel => exact ⟨i + 1, _, _, by omega, by go_num, HM7.out⟩
          case measure => simp [intOf]; omega
        case stc4f =>
          go_simp
          refine hK.out _ _ trivial (fun hHeld => ?_)
          clear hK K
          try simp only [Act.put, List.setIfInBounds_toArray, List.set_cons_succ, List.set_cons_zero]
          clear hS
          have hS := hHeld
          clear hHeld
          have HM1a := Lib.hid (HM1.out.alloc (.cells #[.int .u64 (keyA true p i)] 52))
          refine wpAnyH_ready (rs := [1]) (by kernel_rfl) (by simp) ?_
          refine' (AllReadyH.cons ?hoc1k (fun K hK => ?stc1k) AllReadyH.nil)
          case hoc1k => (simp only [List.getElem?_toArray, List.getElem?_cons_succ, List.getElem?_cons_zero]; rfl)
          have dd := (cell_row HM1a.out.node 1).trans (show (#[Value.bool true, kv, vv, .slice none 0 0] : Array Value)[1]? = some kv from rfl)
          go_simp
          refine hK.out _ _ trivial (fun hHeld => ?_)
          clear hK K
          try simp only [Act.put, List.setIfInBounds_toArray, List.set_cons_succ, List.set_cons_zero]
          clear hS
          have hS := hHeld
          clear hHeld
          clear dd
          obtain ⟨kv2, W2, hr2, hM2⟩ := HM1a.out.appK E.out (heap_alloc_new W1 _) i256
          rw [KS1.out] at hM2
          obtain ⟨y2, z2, rfl⟩ := own_form hM2.own
          have HM2 := Lib.hid hM2
          have HR2 := Lib.hid hr2
          clear hr2 hM2
          refine wpAnyH_ready (rs := [5]) (by kernel_rfl) (by simp) ?_
          refine' (AllReadyH.cons ?hoc5l (fun K hK => ?stc5l) AllReadyH.nil)
          case hoc5l => (simp only [List.getElem?_toArray, List.getElem?_cons_succ, List.getElem?_cons_zero]; rfl)
          refine step_appT 22 rfl _ _ rfl rfl rfl rfl HR2.out ?_
          refine hK.out _ _ trivial (fun hHeld => ?_)
          clear hK K
          try simp only [Act.put, List.setIfInBounds_toArray, List.set_cons_succ, List.set_cons_zero]
          clear hS
          have hS := hHeld
          clear hHeld
          refine' wpAnyH_take (i := 6) ?h1x6l ?hsx6l ?hfx6l ?hrx6l ?hQx6l (Or.inl ⟨?hwx6l, ?hyx6l⟩) hS ?restx6l
          case h1x6l => (simp only [List.getElem?_toArray, List.getElem?_cons_succ, List.getElem?_cons_zero]; rfl)
          case hsx6l | hfx6l | hrx6l => kernel_rfl
          case hQx6l => exact fun _ _ _ h => h
          case hwx6l => rfl
          case hyx6l =>
            intro W hW
            go_simp
            try with_reducible rfl
          simp only [Act.put, List.setIfInBounds_toArray, List.set_cons_succ, List.set_cons_zero]
          refine wpAnyH_ready (rs := [7]) (by kernel_rfl) (by simp) ?_
          refine' (AllReadyH.cons ?hoc7l (fun K hK => ?stc7l) AllReadyH.nil)
          case hoc7l => (simp only [List.getElem?_toArray, List.getElem?_cons_succ, List.getElem?_cons_zero]; rfl)
          have c1 := (cell_row HM2.out.node 1).trans (show (#[Value.bool true, kv, vv, .slice none 0 0] : Array Value)[1]? = some kv from rfl)
          have f1 := oc.frozen_block HM2.out.node 1
          go_simp
          have hW3 : W2.setCell ⟨gn, 1, none⟩ (.slice y2 (i + 1) z2) = W2.setRow gn #[.bool true, .slice y2 (i + 1) z2, vv, .slice none 0 0] := setCell_eq_setRow W2 gn 1 _ _ _ _ HM2.out.node
          have HM3 := Lib.hid (HM2.out.store E.out (.slice y2 (i + 1) z2) vv)
          rw [hW3]
          clear hW3 c1 f1
          obtain ⟨W3, hW3⟩ : ∃ W3, W3 = W2.setRow gn #[.bool true, .slice y2 (i + 1) z2, vv, .slice none 0 0] := ⟨_, rfl⟩
          rw [← hW3] at HM3 ⊢
          clear hW3
          refine hK.out _ _ trivial (fun hHeld => ?_)
          clear hK K
          try simp only [Act.put, List.setIfInBounds_toArray, List.set_cons_succ, List.set_cons_zero]
          clear hS
          have hS := hHeld
          clear hHeld
          refine wpAnyH_done (by kernel_rfl) ?_ _
          clear HM1 HM1a HM2 HR2 hS HD
          have c0 := (cell_row HM3.out.node 0).trans (show (#[Value.bool true, .slice y2 (i + 1) z2, vv, .slice none 0 0] : Array Value)[0]? = some (.bool true) from rfl)
          have c2 := (cell_row HM3.out.node 2).trans (show (#[Value.bool true, .slice y2 (i + 1) z2, vv, .slice none 0 0] : Array Value)[2]? = some vv from rfl)
          have HM3a := Lib.hid (HM3.out.alloc (.cells ZR 54))
          obtain ⟨vv4, W4, hr4, hM4⟩ := HM3a.out.appV E.out (z := List.replicate 44 0) List.length_replicate (by rw [← HZR.out]; exact heap_alloc_new W3 _) i256
          obtain ⟨gv, z4, rfl⟩ := own_form2 hM4.row
          have HM4 := Lib.hid hM4
          have HR4 := Lib.hid hr4
          clear hr4 hM4
          have c2' := (cell_row HM4.out.node 2).trans (show (#[Value.bool true, .slice y2 (i + 1) z2, vv, .slice none 0 0] : Array Value)[2]? = some vv from rfl)
          have f2 := oc.frozen_block HM4.out.node 2
          go_wp2_with (refine wpList_b54 rfl rfl (B54.out _) ?_; refine wpList_bs23 rfl _ rfl rfl (BS23.out _) ?_; refine wpList_appT 23 rfl _ _ rfl rfl rfl rfl HR4.out ?_)
          have hW5 : W4.setCell ⟨gn, 2, none⟩ (.slice (some ⟨gv, 0, none⟩) (i + 1) z4) = W4.setRow gn #[.bool true, .slice y2 (i + 1) z2, .slice (some ⟨gv, 0, none⟩) (i + 1) z4, .slice none 0 0] := setCell_eq_setRow W4 gn 2 _ _ _ _ HM4.out.node
          have HM5 := Lib.hid (HM4.out.store E.out (.slice y2 (i + 1) z2) (.slice (some ⟨gv, 0, none⟩) (i + 1) z4))
          rw [hW5]
          obtain ⟨W5, hW5'⟩ : ∃ W5, W5 = W4.setRow gn #[.bool true, .slice y2 (i + 1) z2, .slice (some ⟨gv, 0, none⟩) (i + 1) z4, .slice none 0 0] := ⟨_, rfl⟩
          rw [← hW5'] at HM5 ⊢
          clear hW5 hW5'
          have HD5 := Lib.hid HM5.out.drew
          have IW : IntKind.i64.wrap (i : Int) = (i : Int) := by rw [IntKind.wrap_i64]; omega
          have IW0 : (0 : Int) ≤ (i : Int) := by omega
          have IW1 : (i : Int) < (i : Int) + 1 := by omega
          clear HM3 HM3a HM4 HR4 c0 c2 c2' f2
          refine wp_region_held_drew (S := fun W => W.heap[gn]? = some (.cells #[.bool true, .slice y2 (i + 1) z2, .slice (some ⟨gv, 0, none⟩) (i + 1) z4, .slice none 0 0] 26 (0, 0))) (by kernel_rfl) HD5.out.node (fun hS => ?_)
          refine' wpAnyH_take (i := 0) ?h1x0zl ?hsx0zl ?hfx0zl ?hrx0zl ?hQx0zl (Or.inl ⟨?hwx0zl, ?hyx0zl⟩) hS ?restx0zl
          case h1x0zl => (simp only [List.getElem?_toArray, List.getElem?_cons_zero]; rfl)
          case hsx0zl | hfx0zl | hrx0zl => kernel_rfl
          case hQx0zl => exact fun _ _ _ h => h
          case hwx0zl => rfl
          case hyx0zl =>
            intro W hW
            go_simp
            try with_reducible rfl
          simp only [Act.put, List.setIfInBounds_toArray, List.set_cons_succ, List.set_cons_zero]
          refine' wpAnyH_take (i := 1) ?h1x1zl ?hsx1zl ?hfx1zl ?hrx1zl ?hQx1zl (Or.inl ⟨?hwx1zl, ?hyx1zl⟩) hS ?restx1zl
          case h1x1zl => (simp only [List.getElem?_toArray, List.getElem?_cons_succ, List.getElem?_cons_zero]; rfl)
          case hsx1zl | hfx1zl | hrx1zl => kernel_rfl
          case hQx1zl => exact fun _ _ _ h => h
          case hwx1zl => rfl
          case hyx1zl =>
            intro W hW
            have dd := (cell_row hW 2).trans (show (#[Value.bool true, .slice y2 (i + 1) z2, .slice (some ⟨gv, 0, none⟩) (i + 1) z4, .slice none 0 0] : Array Value)[2]? = some (.slice (some ⟨gv, 0, none⟩) (i + 1) z4) from rfl)
            go_simp
            try with_reducible rfl
          simp only [Act.put, List.setIfInBounds_toArray, List.set_cons_succ, List.set_cons_zero]
          refine' wpAnyH_take (i := 2) ?h1x2zl ?hsx2zl ?hfx2zl ?hrx2zl ?hQx2zl (Or.inl ⟨?hwx2zl, ?hyx2zl⟩) hS ?restx2zl
          case h1x2zl => (simp only [List.getElem?_toArray, List.getElem?_cons_succ, List.getElem?_cons_zero]; rfl)
          case hsx2zl | hfx2zl | hrx2zl => kernel_rfl
          case hQx2zl => exact fun _ _ _ h => h
          case hwx2zl => rfl
          case hyx2zl =>
            intro W hW
            go_simp
            try with_reducible rfl
          simp only [Act.put, List.setIfInBounds_toArray, List.set_cons_succ, List.set_cons_zero]
          refine' wpAnyH_take (i := 3) ?h1x3zl ?hsx3zl ?hfx3zl ?hrx3zl ?hQx3zl (Or.inl ⟨?hwx3zl, ?hyx3zl⟩) hS ?restx3zl
          case h1x3zl => (simp only [List.getElem?_toArray, List.getElem?_cons_succ, List.getElem?_cons_zero]; rfl)
          case hsx3zl | hfx3zl | hrx3zl => kernel_rfl
          case hQx3zl => exact fun _ _ _ h => h
          case hwx3zl => rfl
          case hyx3zl =>
            intro W hW
            have dd := (cell_row hW 2).trans (show (#[Value.bool true, .slice y2 (i + 1) z2, .slice (some ⟨gv, 0, none⟩) (i + 1) z4, .slice none 0 0] : Array Value)[2]? = some (.slice (some ⟨gv, 0, none⟩) (i + 1) z4) from rfl)
            go_simp
            try with_reducible rfl
          simp only [Act.put, List.setIfInBounds_toArray, List.set_cons_succ, List.set_cons_zero]
          refine' wpAnyH_take (i := 4) ?h1x4zl ?hsx4zl ?hfx4zl ?hrx4zl ?hQx4zl (Or.inl ⟨?hwx4zl, ?hyx4zl⟩) hS ?restx4zl
          case h1x4zl => (simp only [List.getElem?_toArray, List.getElem?_cons_succ, List.getElem?_cons_zero]; rfl)
          case hsx4zl | hfx4zl | hrx4zl => kernel_rfl
          case hQx4zl => exact fun _ _ _ h => h
          case hwx4zl => rfl
          case hyx4zl =>
            intro W hW
            go_simp
            try with_reducible rfl
          simp only [Act.put, List.setIfInBounds_toArray, List.set_cons_succ, List.set_cons_zero]
          refine' wpAnyH_take (i := 5) ?h1x5zl ?hsx5zl ?hfx5zl ?hrx5zl ?hQx5zl (Or.inl ⟨?hwx5zl, ?hyx5zl⟩) hS ?restx5zl
          case h1x5zl => (simp only [List.getElem?_toArray, List.getElem?_cons_succ, List.getElem?_cons_zero]; rfl)
          case hsx5zl | hfx5zl | hrx5zl => kernel_rfl
          case hQx5zl => exact fun _ _ _ h => h
          case hwx5zl => rfl
          case hyx5zl =>
            intro W hW
            go_simp
            try with_reducible rfl
          simp only [Act.put, List.setIfInBounds_toArray, List.set_cons_succ, List.set_cons_zero]
          refine' wpAnyH_take (i := 6) ?h1x6zl ?hsx6zl ?hfx6zl ?hrx6zl ?hQx6zl (Or.inl ⟨?hwx6zl, ?hyx6zl⟩) hS ?restx6zl
          case h1x6zl => (simp only [List.getElem?_toArray, List.getElem?_cons_succ, List.getElem?_cons_zero]; rfl)
          case hsx6zl | hfx6zl | hrx6zl => kernel_rfl
          case hQx6zl => exact fun _ _ _ h => h
          case hwx6zl => rfl
          case hyx6zl =>
            intro W hW
            go_simp
            try with_reducible rfl
          simp only [Act.put, List.setIfInBounds_toArray, List.set_cons_succ, List.set_cons_zero]
          refine' wpAnyH_take (i := 7) ?h1x7zl ?hsx7zl ?hfx7zl ?hrx7zl ?hQx7zl (Or.inl ⟨?hwx7zl, ?hyx7zl⟩) hS ?restx7zl
          case h1x7zl => (simp only [List.getElem?_toArray, List.getElem?_cons_succ, List.getElem?_cons_zero]; rfl)
          case hsx7zl | hfx7zl | hrx7zl => kernel_rfl
          case hQx7zl => exact fun _ _ _ h => h
          case hwx7zl => rfl
          case hyx7zl =>
            intro W hW
            go_simp
            try with_reducible rfl
          simp only [Act.put, List.setIfInBounds_toArray, List.set_cons_succ, List.set_cons_zero]
          refine' wpAnyH_take (i := 8) ?h1x8zl ?hsx8zl ?hfx8zl ?hrx8zl ?hQx8zl (Or.inl ⟨?hwx8zl, ?hyx8zl⟩) hS ?restx8zl
          case h1x8zl => (simp only [List.getElem?_toArray, List.getElem?_cons_succ, List.getElem?_cons_zero]; rfl)
          case hsx8zl | hfx8zl | hrx8zl => kernel_rfl
          case hQx8zl => exact fun _ _ _ h => h
          case hwx8zl => rfl
          case hyx8zl =>
            intro W hW
            go_simp
            try with_reducible rfl
          simp only [Act.put, List.setIfInBounds_toArray, List.set_cons_succ, List.set_cons_zero]
          refine wpAnyH_ready (rs := [9]) (by kernel_rfl) (by simp) ?_
          refine' (AllReadyH.cons ?hoc9yl (fun K hK => ?stc9yl) AllReadyH.nil)
          case hoc9yl => (simp only [List.getElem?_toArray, List.getElem?_cons_succ, List.getElem?_cons_zero]; rfl)
          go_simp
          refine (ov.bytes_rd B g _ _ 44 LQ.out _ HD5.out.rd).mono ?_
          rintro e W6 ⟨q6, rfl, hs6, _, hr, hgr⟩
          have HM6 := Lib.hid (HD5.out.call E.out (q' := nxt (nxt (stA true p i) 8) 44) hr hgr)
          obtain ⟨gv', z4', W7, hVe, hr7, hM7⟩ := HM6.out.copyV E.out VL.out hs6 GL.out
          cases hVe
          rw [VE.out, VS1.out, ST1.out] at hM7
          have HM7 := Lib.hid hM7
          have HR7 := Lib.hid hr7
          clear hr7 hM7 hr hgr hs6
          go_wp2_with fail
          refine hK.out _ _ HM6.out.node (fun hHeld => ?_)
          clear hK K
          try simp only [Act.put, List.setIfInBounds_toArray, List.set_cons_succ, List.set_cons_zero]
          clear hS
          have hS := hHeld
          clear hHeld
          refine wpAnyH_ready (rs := [10]) (by kernel_rfl) (by simp) ?_
          refine' (AllReadyH.cons ?hoc10xl (fun K hK => ?stc10xl) AllReadyH.nil)
          case hoc10xl => (simp only [List.getElem?_toArray, List.getElem?_cons_succ, List.getElem?_cons_zero]; rfl)
          refine step_cpT rfl _ _ rfl rfl rfl rfl HR7.out ?_
          refine hK.out _ _ HM7.out.node (fun hHeld => ?_)
          clear hK K
          try simp only [Act.put, List.setIfInBounds_toArray, List.set_cons_succ, List.set_cons_zero]
          clear hS
          have hS := hHeld
          clear hHeld
          refine wpAnyH_done (by kernel_rfl) ?_ _
          clear HM5 HD5 HM6 HR7 hS
          go_wp2_with fail
          go_roundw
          case rel => exact ⟨i + 1, _, _, by omega, by go_num, HM7.out⟩
          case measure => simp [intOf]; omega
    · obtain rfl : i = c := by omega
      obtain ⟨kx, kz, rfl⟩ := own_form HM.out.own
      obtain ⟨vx, vz, rfl⟩ := own_form HM.out.row
      have AL : Hid (w.heap.size < wa.heap.size) := (Array.getElem?_eq_some_iff.1 EA.out).1
      have AE : Hid (wr.heap[w.heap.size]? = some (.cells #[.bool false, .slice none 0 0, .slice none 0 0, .slice none 0 0] 26 (0, 0))) := (HM.out.below.block _ AL.out).trans EA.out
      have LT : w.heap.size < C := by have := E.out.hn; have := E.out.an; have := AL.out; omega
      obtain ⟨AR, hAR⟩ : ∃ AR : Array Value, AR = #[.bool true, .slice kx i kz, .slice vx i vz, .slice none 0 0] := ⟨_, rfl⟩
      have NR : Hid (wr.heap[gn]? = some (.cells AR 26 (0, 0))) := by show _ = _; rw [hAR]; exact HM.out.node
      have I26 : Hid ((Try.prog.info? 26).map (·.size) = some AR.size) := by show _ = _; rw [hAR]; exact size26' _ _ _ _
      have S26 : Hid ((#[.bool false, .slice none 0 0, .slice none 0 0, .slice none 0 0] : Array Value).size = AR.size) := by show _ = _; rw [hAR]; rfl
      have O26 : Hid (AR.all (·.oneCell') = true) := by show _ = _; rw [hAR]; simp [Value.oneCell']
      have WF : Hid (ReadNP w xs (.returned (.agg AR)) (wr.setRow w.heap.size AR)) := by
        rw [hAR]
        have f := read_fin (HM.out.own.kept (oc.grownBy_setRow wr w.heap.size #[.bool true, .slice kx i kz, .slice vx i vz, .slice none 0 0]) (.inr (own_ne HM.out.own LT))) (HM.out.row.kept (oc.grownBy_setRow wr w.heap.size #[.bool true, .slice kx i kz, .slice vx i vz, .slice none 0 0]) (.inr (own_ne HM.out.row LT))) HP.out HC.out hlf (by first | exact YB.out | (rw [HP.out]; exact YB.out)) hc9
        exact ⟨_, rfl, f.1, f.2, freshN_mk (fresh_own HM.out.own (Nat.le_of_lt LT)) (fresh_own HM.out.row (Nat.le_of_lt LT)) (fresh_nil _), (BA.out.trans (HM.out.below.mono BA.out.size)).grown (oc.grownBy_setRow _ _ _) (Nat.le_trans BA.out.size HM.out.below.size) (fun k e => by cases e; exact Nat.le_refl _)⟩
      have RW := Lib.hid (setRow_heap wr w.heap.size _ AR 26 _ AE.out)
      clear hAR
      go_wp2_with (first
        | (refine wpList_load_row rfl 26 (.tmp 4) rfl gn rfl 26 AR (0, 0) _ NR.out Try.underlying26 rfl I26.out ?_)
        | (refine wpList_store_row rfl 26 (.tmp 2) (.tmp 61) rfl w.heap.size AR rfl rfl 26 _ AE.out I26.out S26.out O26.out ?_))
      exact bodyPost_ret (v := .agg AR) (results_cell_row Try.results31 _ _ w.heap.size 26 _ (0, 0) _ rfl RW.out Try.underlying26 rfl I26.out) rfl WF.out
end Go.Proofs.Ytnifaldgofmciaa
