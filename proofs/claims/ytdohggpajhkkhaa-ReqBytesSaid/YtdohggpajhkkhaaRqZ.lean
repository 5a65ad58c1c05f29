/-
  Contracts of As, Copy, the document's Same. Condition: the values read as requests.
-/
import Derived.Test.YtdohggpajhkkhaaRqY
namespace Go.Proofs.Ytdohggpajhkkhaa
open Go.RowKit
theorem fold_set (off : Nat) : ∀ (xs : List Value) (k : Nat) (A : List Value), off + k + xs.length ≤ A.length →
    ((xs.zipIdx k).foldl (fun cs p => cs.setIfInBounds (off + p.2) p.1) A.toArray) = (A.take (off + k) ++ xs ++ A.drop (off + k + xs.length)).toArray
  | [], k, A, _ => by simp
  | x :: xs, k, A, h => by
    simp only [List.length_cons] at h
    rw [List.zipIdx_cons, List.foldl_cons]
    simp only [List.setIfInBounds_toArray]
    rw [fold_set off xs (k + 1) (A.set (off + k) x) (by rw [List.length_set]; omega)]
    congr 1
    rw [List.take_set, List.drop_set, if_pos (by omega), ← Nat.add_assoc, List.take_succ_eq_append_getElem (by omega)]
    rw [List.set_append_right _ _ (by simp; omega)]
    simp [Nat.min_eq_left (show off + k ≤ A.length by omega), show off + k + 1 + xs.length = off + k + (xs.length + 1) by omega]
theorem fill_cons (place : Nat → Option (Nat × Nat)) (A : List Value) (i off n : Nat) (v : Value) (rest : List (Nat × Value)) (hp : place i = some (off, n)) (hn : v.cells.size = n) (hf : off + n ≤ A.length) :
    Instr.fill place A.toArray ((i, v) :: rest) = Instr.fill place (A.take off ++ v.cells.toList ++ A.drop (off + n)).toArray rest := by
  have h := fold_set off v.cells.toList 0 A (by simpa [hn] using hf)
  simp only [Nat.add_zero, Array.length_toList, hn] at h
  have h2 : v.cells.zipIdx.foldl (fun cs (x : Value × Nat) => cs.setIfInBounds (off + x.2) x.1) A.toArray = (A.take off ++ v.cells.toList ++ A.drop (off + n)).toArray := by
    rw [← h, ← Array.foldl_toList, Array.toList_zipIdx]
  show (match place i with
    | none => none
    | some (off, size) => if v.cells.size ≠ size || off + v.cells.size > A.toArray.size then none else Instr.fill place (v.cells.zipIdx.foldl (fun cs (c, j) => cs.setIfInBounds (off + j) c) A.toArray) rest) = _
  rw [hp]
  simp only [hn]
  rw [if_neg (by simp; omega)]
  exact congrArg (fun x => Instr.fill place x rest) h2
theorem run_build_struct (t : TypeId) (zc : List Value) (places : List (Nat × Nat)) (hz : (Try.prog.info? t).map (·.zero) = some (some (.agg zc.toArray))) (hu : Try.prog.underlying t = some (.struct (Try.prog.fieldsOf t)))
    (hp : (Try.prog.fieldsOf t).toList.mapM (fun f => (Try.prog.info? f.type).map fun i => (f.offset, i.size)) = some places) (parts : Array (Nat × Value)) (cells : List Value) (hf : Instr.fill (places.toArray[·]?) zc.toArray parts.toList = some cells.toArray) (w : World) :
    (Instr.build t parts).run Try.prog w = .ok (.agg cells.toArray) w := by
  refine run_build w t parts _ ?_
  unfold Program.built
  cases hit : Try.prog.info? t with
  | none => simp [hit] at hz
  | some it =>
    have hz' : it.zero = some (.agg zc.toArray) := by simpa [hit] using hz
    simp only [hu, hz', hp]
    exact hf
theorem run_build_array (t : TypeId) (n e size : Nat) (zc : List Value) (hz : (Try.prog.info? t).map (·.zero) = some (some (.agg zc.toArray))) (hu : Try.prog.underlying t = some (.array n e)) (hs : (Try.prog.info? e).map (·.size) = some size)
    (parts : Array (Nat × Value)) (cells : List Value) (hf : Instr.fill (fun i => some (i * size, size)) zc.toArray parts.toList = some cells.toArray) (w : World) :
    (Instr.build t parts).run Try.prog w = .ok (.agg cells.toArray) w := by
  refine run_build w t parts _ ?_
  unfold Program.built
  cases hit : Try.prog.info? t with
  | none => simp [hit] at hz
  | some it =>
    have hz' : it.zero = some (.agg zc.toArray) := by simpa [hit] using hz
    cases hie : Try.prog.info? e with
    | none => simp [hie] at hs
    | some ie =>
      have hs' : ie.size = size := by simpa [hie] using hs
      subst hs'
      simp only [hu, hz', hie]
      exact hf
def c8 (p : Rq) : List Value := [.int .i64 p.s, .int .i64 p.t, .int .i64 p.v, .int .i64 p.b, .int .i64 p.c, .int .i64 p.n, .int .i64 p.r, .int .i64 p.q]
def c128 (p : Rq) : List Value := kb p.o ++ (kb p.f ++ (kb p.m ++ kb p.x))
theorem c128_len {p : Rq} (h : RQ p) : (c128 p).length = 128 := by simp [c128, kb_len, h.o.1, h.f.1, h.m.1, h.x.1]
theorem bld32 (p : Rq) (w : World) : (Instr.build 32 #[(0, .int .i64 p.s), (1, .int .i64 p.t), (2, .int .i64 p.v), (3, .int .i64 p.b), (4, .int .i64 p.c), (5, .int .i64 p.n), (6, .int .i64 p.r), (7, .int .i64 p.q)]).run Try.prog w = .ok (.agg (c8 p).toArray) w := by kernel_rfl
set_option maxRecDepth 100000 in
theorem bld33 {p : Rq} (h : RQ p) (w : World) : (Instr.build 33 #[(0, .agg (kb p.o).toArray), (1, .agg (kb p.f).toArray), (2, .agg (kb p.m).toArray), (3, .agg (kb p.x).toArray)]).run Try.prog w = .ok (.agg (c128 p).toArray) w := by
  have l1 := h.o.1
  have l2 := h.f.1
  have l3 := h.m.1
  have l4 := h.x.1
  have k1 : (kb p.o).length = 32 := by rw [kb_len, l1]
  have k2 : (kb p.f).length = 32 := by rw [kb_len, l2]
  have k3 : (kb p.m).length = 32 := by rw [kb_len, l3]
  have k4 : (kb p.x).length = 32 := by rw [kb_len, l4]
  refine run_build_array 33 4 22 32 (List.replicate 128 (Value.int .u8 0)) (by kernel_rfl) Try.underlying33 (by kernel_rfl) _ _ ?_ w
  unfold c128
  generalize kb p.o = A at *
  generalize kb p.f = B at *
  generalize kb p.m = C at *
  generalize kb p.x = D at *
  have hz : (List.replicate 128 (Value.int .u8 0)).length = 128 := List.length_replicate
  generalize List.replicate 128 (Value.int .u8 0) = Z at *
  rw [fill_cons _ _ 0 0 32 _ _ rfl (by simp [Value.cells, k1]) (by omega)]
  have s1 : ((Z.take 0 ++ (Value.agg A.toArray).cells.toList) ++ Z.drop (0 + 32)) = A ++ Z.drop 32 := by simp [Value.cells]
  rw [s1, fill_cons _ _ 1 32 32 _ _ rfl (by simp [Value.cells, k2]) (by simp [k1, hz])]
  have s2 : (((A ++ Z.drop 32).take 32 ++ (Value.agg B.toArray).cells.toList) ++ (A ++ Z.drop 32).drop (32 + 32)) = (A ++ B) ++ Z.drop 64 := by
    rw [List.take_left' k1, List.drop_append, k1, List.drop_of_length_le (by omega)]
    simp [Value.cells]
  rw [s2, fill_cons _ _ 2 64 32 _ _ rfl (by simp [Value.cells, k3]) (by simp [k1, k2, hz])]
  have k12 : (A ++ B).length = 64 := by simp [k1, k2]
  have s3 : ((((A ++ B) ++ Z.drop 64).take 64 ++ (Value.agg C.toArray).cells.toList) ++ ((A ++ B) ++ Z.drop 64).drop (64 + 32)) = ((A ++ B) ++ C) ++ Z.drop 96 := by
    rw [List.take_left' k12, List.drop_append, k12, List.drop_of_length_le (by omega)]
    simp [Value.cells]
  have k123 : ((A ++ B) ++ C).length = 96 := by simp [k1, k2, k3]
  rw [s3, fill_cons _ _ 3 96 32 _ _ rfl (by simp [Value.cells, k4]) (by simp [k1, k2, k3, hz])]
  have s4 : (((((A ++ B) ++ C) ++ Z.drop 96).take 96 ++ (Value.agg D.toArray).cells.toList) ++ (((A ++ B) ++ C) ++ Z.drop 96).drop (96 + 32)) = A ++ (B ++ (C ++ D)) := by
    rw [List.take_left' k123, List.drop_append, k123, List.drop_of_length_le (by omega)]
    simp [Value.cells, hz]
  rw [s4]
  rfl
theorem rc_c (p : Rq) (dv : Value) : rc p dv = Value.int .i64 p.k :: (c8 p ++ (c128 p ++ [dv])) := by simp [rc, h9, c8, c128]
set_option maxRecDepth 100000 in
theorem bld35 {p : Rq} (h : RQ p) (dv : Value) (hv : dv.cells = #[dv]) (w : World) : (Instr.build 35 #[(0, .int .i64 p.k), (1, .agg (c8 p).toArray), (2, .agg (c128 p).toArray), (3, dv)]).run Try.prog w = .ok (.agg (rc p dv).toArray) w := by
  have l8 : (c8 p).length = 8 := rfl
  have l128 := c128_len h
  refine run_build_struct 35 (rc (pz 0) (.slice none 0 0)) [(0, 1), (1, 8), (9, 128), (137, 1)] (by kernel_rfl) (by kernel_rfl) (by kernel_rfl) _ _ ?_ w
  have hz : (rc (pz 0) (.slice none 0 0)).length = 138 := rc_len pz0_ok _
  generalize rc (pz 0) (.slice none 0 0) = Z at *
  rw [rc_c]
  generalize c8 p = A at *
  generalize c128 p = B at *
  rw [fill_cons _ _ 0 0 1 _ _ rfl rfl (by omega)]
  have s1 : ((Z.take 0 ++ (Value.int IntKind.i64 p.k).cells.toList) ++ Z.drop (0 + 1)) = [Value.int .i64 p.k] ++ Z.drop 1 := by simp [Value.cells]
  rw [s1, fill_cons _ _ 1 1 8 _ _ rfl (by simp [Value.cells, l8]) (by simp [hz])]
  have s2 : ((([Value.int .i64 p.k] ++ Z.drop 1).take 1 ++ (Value.agg A.toArray).cells.toList) ++ ([Value.int .i64 p.k] ++ Z.drop 1).drop (1 + 8)) = ([Value.int .i64 p.k] ++ A) ++ Z.drop 9 := by simp [Value.cells]
  have k9 : ([Value.int .i64 p.k] ++ A).length = 9 := by simp [l8]
  rw [s2, fill_cons _ _ 2 9 128 _ _ rfl (by simp [Value.cells, l128]) (by simp [l8, hz])]
  have s3 : (((([Value.int .i64 p.k] ++ A) ++ Z.drop 9).take 9 ++ (Value.agg B.toArray).cells.toList) ++ (([Value.int .i64 p.k] ++ A) ++ Z.drop 9).drop (9 + 128)) = (([Value.int .i64 p.k] ++ A) ++ B) ++ Z.drop 137 := by
    rw [List.take_left' k9, List.drop_append, k9, List.drop_of_length_le (by omega)]
    simp [Value.cells]
  have k137 : (([Value.int .i64 p.k] ++ A) ++ B).length = 137 := by simp [l8, l128]
  rw [s3, fill_cons _ _ 3 137 1 _ _ rfl (by rw [hv]; rfl) (by simp [l8, l128, hz])]
  have s4 : (((([Value.int .i64 p.k] ++ A) ++ B) ++ Z.drop 137).take 137 ++ dv.cells.toList) ++ ((([Value.int .i64 p.k] ++ A) ++ B) ++ Z.drop 137).drop (137 + 1) = Value.int .i64 p.k :: (A ++ (B ++ [dv])) := by
    rw [List.take_left' k137, List.drop_append, k137, List.drop_of_length_le (by omega), hv]
    simp [hz]
  rw [s4]
  rfl
theorem z35 (w : World) : (zeroValue 35).run Try.prog w = .ok (.agg (rc (pz 0) (.slice none 0 0)).toArray) w := by kernel_rfl
theorem wpList_buildV {ops : Array Oper} {rest : List Oper} {o : Oper} {a : Act} {w : World} {Q : Exit → Act → World → Prop} (hgd : o.guard = none) (t : TypeId) (parts : List (Nat × Operand)) (ho : o.op = .build t parts.toArray)
    (vs : List (Nat × Value)) (hv : parts.map (fun p => (p.1, a.eval p.2)) = vs) {v : Value} (hr : (Instr.build t vs.toArray).run Try.prog w = .ok v w) (h : wpList Try.prog ops Q rest (a.put o.dst v) w) : wpList Try.prog ops Q (o :: rest) a w := by
  refine wpList_plain hgd fun K hK => ?_
  subst hv
  unfold Oper.wp execOp
  simp only [ho, Sem.run_bind, Sem.run_pure, List.map_toArray]
  rw [hr]
  exact hK _ _ h
def AsP (w : World) (p : Rq) (dv : Value) (e : Ending) (w' : World) : Prop := e = .returned (.agg (rc p dv).toArray) ∧ Below w.heap.size w w'
set_option maxRecDepth 100000 in
set_option maxHeartbeats 400000 in
theorem asC {p : Rq} (hp : RQ p) (dv : Value) (w : World) (hd : Sees w dv p.d) : Calls Try.prog 10 #[.agg (rc p dv).toArray] w (AsP w p dv) := by
  obtain ⟨xd, cd, rfl, _⟩ := hd.form
  obtain ⟨n, hn⟩ : ∃ n, n = p.d.length := ⟨_, rfl⟩
  rw [← hn]
  have ic := i26 hp (.slice xd n cd)
  have i5 := i35 hp (.slice xd n cd)
  obtain ⟨Z, hZ⟩ : ∃ Z, Z = (rc (pz 0) (.slice none 0 0)).toArray := ⟨_, rfl⟩
  have z := z35
  rw [← hZ] at z
  have iz : (Try.prog.info? 35).map (·.size) = some Z.size := by rw [hZ]; exact i35 pz0_ok _
  have BD := Lib.hid (bld35 hp (.slice xd n cd) rfl)
  have B3 := Lib.hid (bld33 hp)
  have B2 := Lib.hid (bld32 p)
  have OC := Lib.hid (rc_one (p := p) (dv := .slice xd n cd) rfl)
  obtain ⟨w1, hw1⟩ : ∃ w1, w1 = w.alloc (.cells (rc p (.slice xd n cd)).toArray 26) := ⟨_, rfl⟩
  obtain ⟨w2, hw2⟩ : ∃ w2, w2 = w1.alloc (.cells Z 35) := ⟨_, rfl⟩
  have z1 : w1.heap.size = w.heap.size + 1 := by rw [hw1]; simp
  have b1 : Below w.heap.size w w1 := by rw [hw1]; exact (Below.refl _ _).alloc (Nat.le_refl _) _
  have b2 : Below w1.heap.size w1 w2 := by rw [hw2]; exact (Below.refl _ _).alloc (Nat.le_refl _) _
  have g1 : w2.heap[w.heap.size]? = some (.cells (rc p (.slice xd n cd)).toArray 26 (0, 0)) := by rw [b2.block _ (by omega), hw1]; exact heap_alloc_new w _
  have g2 : w2.heap[w.heap.size + 1]? = some (.cells Z 35 (0, 0)) := by rw [hw2, ← z1]; exact heap_alloc_new w1 _
  have BE : Hid (Below w.heap.size w w2) := b1.trans (b2.mono (by omega))
  have num := fun l (hl : isN l = true) => row_num g1 hl
  have n1 : w2.cell? ⟨w.heap.size, 1, none⟩ = some (.int .i64 p.s) := num 115 rfl
  have n2 : w2.cell? ⟨w.heap.size, 2, none⟩ = some (.int .i64 p.t) := num 116 rfl
  have n3 : w2.cell? ⟨w.heap.size, 3, none⟩ = some (.int .i64 p.v) := num 118 rfl
  have n4 : w2.cell? ⟨w.heap.size, 4, none⟩ = some (.int .i64 p.b) := num 98 rfl
  have n5 : w2.cell? ⟨w.heap.size, 5, none⟩ = some (.int .i64 p.c) := num 99 rfl
  have n6 : w2.cell? ⟨w.heap.size, 6, none⟩ = some (.int .i64 p.n) := num 110 rfl
  have n7 : w2.cell? ⟨w.heap.size, 7, none⟩ = some (.int .i64 p.r) := num 114 rfl
  have n8 : w2.cell? ⟨w.heap.size, 8, none⟩ = some (.int .i64 p.q) := num 113 rfl
  have n0 : w2.cell? ⟨w.heap.size, 0, none⟩ = some (.int .i64 p.k) := by rw [cell_of_row w2 _ _ _ _ _ g1]; rfl
  have n9 : w2.cell? ⟨w.heap.size, 137, none⟩ = some (.slice xd n cd) := row_dat hp g1
  have key : ∀ l, isK l = true → w2.rangeAt w.heap.size (offL l) (kb (keyL p l)) := fun l hl => by
    obtain ⟨h1, h3⟩ := rc_key hl hp (.slice xd n cd)
    intro j v hj
    have hjl : j < (keyL p l).length := by
      have := (List.getElem?_eq_some_iff.1 hj).1
      rw [kb_len] at this; exact this
    rw [kb_at _ _ hjl] at hj
    rw [cell_of_row w2 _ _ _ _ _ g1, arr_at, h3 j (by rw [h1.1] at hjl; exact hjl)]
    exact hj
  have R1 : Hid (w2.rangeAt w.heap.size 9 (kb p.o)) := key 111 rfl
  have R2 : Hid (w2.rangeAt w.heap.size 41 (kb p.f)) := key 102 rfl
  have R3 : Hid (w2.rangeAt w.heap.size 73 (kb p.m)) := key 109 rfl
  have R4 : Hid (w2.rangeAt w.heap.size 105 (kb p.x)) := key 120 rfl
  have kl := fun l (h : k32 l) => (show (Try.prog.info? 23).map (·.size) = some (kb l).length by rw [kb_len, h.1]; kernel_rfl)
  have I1 := Lib.hid (kl p.o hp.o)
  have I2 := Lib.hid (kl p.f hp.f)
  have I3 := Lib.hid (kl p.m hp.m)
  have I4 : Hid ((Try.prog.info? 22).map (·.size) = some (kb p.x).length) := by show _ = _; rw [kb_len, hp.x.1]; kernel_rfl
  have G2 := Lib.hid g2
  have HW1 := Lib.hid hw1
  have HW2 := Lib.hid hw2
  have I5 := Lib.hid i5
  have IZ : Hid (Z.size = (rc p (.slice xd n cd)).toArray.size) := Option.some.inj (iz.symm.trans i5)
  unfold AsP
  clear hw1 hw2 z1 b1 b2 g1 g2 num key kl hZ hd hn ic i5 iz hp
  generalize (rc p (.slice xd n cd)).toArray = C at *
  generalize (c128 p).toArray = K128 at *
  generalize (c8 p).toArray = K8 at *
  generalize kb p.o = Ko at *
  generalize kb p.f = Kf at *
  generalize kb p.m = Km at *
  generalize kb p.x = Kx at *
  go_enter Try.func10, Try.ntmps10
  go_upto_region 1 with (fail)
  rw [← HW1.out, ← HW2.out]
  clear z
  go_wp2_with (first
    | (refine wpList_mid_met rfl 23 (.tmp 22) rfl w.heap.size 9 rfl Ko _ R1.out Try.underlying23 rfl I1.out ?_)
    | (refine wpList_mid_met rfl 23 (.tmp 24) rfl w.heap.size 41 rfl Kf _ R2.out Try.underlying23 rfl I2.out ?_)
    | (refine wpList_mid_met rfl 23 (.tmp 26) rfl w.heap.size 73 rfl Km _ R3.out Try.underlying23 rfl I3.out ?_)
    | (refine wpList_mid_met rfl 22 (.tmp 28) rfl w.heap.size 105 rfl Kx _ R4.out Try.underlying22 rfl I4.out ?_)
    | (refine wpList_buildV rfl 32 [(0, .tmp 6), (1, .tmp 8), (2, .tmp 10), (3, .tmp 12), (4, .tmp 14), (5, .tmp 16), (6, .tmp 18), (7, .tmp 20)] rfl [(0, .int .i64 p.s), (1, .int .i64 p.t), (2, .int .i64 p.v), (3, .int .i64 p.b), (4, .int .i64 p.c), (5, .int .i64 p.n), (6, .int .i64 p.r), (7, .int .i64 p.q)] rfl (B2.out _) ?_)
    | (refine wpList_buildV rfl 33 [(0, .tmp 23), (1, .tmp 25), (2, .tmp 27), (3, .tmp 29)] rfl [(0, .agg Ko.toArray), (1, .agg Kf.toArray), (2, .agg Km.toArray), (3, .agg Kx.toArray)] rfl (B3.out _) ?_)
    | (refine wpList_buildV rfl 35 [(0, .tmp 4), (1, .tmp 21), (2, .tmp 30), (3, .tmp 32)] rfl [(0, .int .i64 p.k), (1, .agg K8), (2, .agg K128), (3, .slice xd n cd)] rfl (BD.out _) ?_)
    | (refine wpList_store_row rfl 35 (.tmp 2) (.tmp 33) rfl (w.heap.size + 1) C rfl rfl 35 Z G2.out I5.out IZ.out OC.out ?_))
  have YZ : Hid (_ = some (Obj.cells C 35 (0, 0))) := setRow_heap _ (w.heap.size + 1) Z C _ _ G2.out
  exact bodyPost_ret (v := .agg C) (results_cell1 rfl _ _ (w.heap.size + 1) 35 C (0, 0) _ rfl YZ.out Try.underlying35 rfl I5.out) rfl ⟨rfl, BE.out.trans (below_row _ _ (by omega))⟩
set_option maxRecDepth 100000 in
theorem copyC (v : Value) (xs : List Int) (w : World) (h : Sees w v xs) (hl : xs.length ≤ 100000) : Calls Try.prog 11 #[v] w (OwnP w xs) := by
  obtain ⟨x, c, w', hr, ho, _, hb⟩ := app (own_nil w w.heap.size) h (by simp; omega) (Nat.le_refl _)
  have e : ([] : List Int).length + xs.length = xs.length := by simp
  rw [e] at hr ho
  have HR := Lib.hid hr
  have PP : Hid (OwnP w xs (.returned (.slice x xs.length c)) w') := ⟨x, c, rfl, by simpa using ho, hb⟩
  clear hr ho hb h
  go_enter Try.func11, Try.ntmps11
  go_wp2_with (at_builtin; refine wpList_app rfl (.tmp 4) (.tmp 5) rfl rfl rfl rfl HR.out ?_)
  go_ret
  exact PP.out
end Go.Proofs.Ytdohggpajhkkhaa
