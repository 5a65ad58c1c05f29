/-
  Contracts of the functions that the statements of package super go through: a head's bytes. Condition: the head's numbers fit their kinds, its sum is 32 bytes.
-/
import Derived.Test.YtplffbpnjnbolaaSuA
namespace Go.Proofs.Ytplffbpnjnbolaa
open Go.RowKit
/-- A head. -/
structure Hd where
  g : Int
  e : Int
  h : Bool
  s : Int
  z : List Int
def Hd.ok (H : Hd) : Prop := (0 ≤ H.g ∧ H.g ≤ 18446744073709551615) ∧ (0 ≤ H.e ∧ H.e ≤ 18446744073709551615) ∧ (0 ≤ H.s ∧ H.s ≤ 4294967295) ∧ Byt H.z ∧ H.z.length = 32
def hcells (H : Hd) : Array Value := #[.int .u64 H.g, .int .u64 H.e, .bool H.h, .int .u32 H.s] ++ bcells H.z
def rcells (s : Int) (z : List Int) : List Value := .int .u32 s :: z.map (Value.int .u8)
theorem hcells_size {H : Hd} (h : H.z.length = 32) : (hcells H).size = 36 := by simp [hcells, bcells_size, h]
theorem hcells_toList (H : Hd) : (hcells H).toList = [.int .u64 H.g, .int .u64 H.e, .bool H.h, .int .u32 H.s] ++ H.z.map (Value.int .u8) := by simp [hcells, bcells_toList]
theorem hcell0 {H : Hd} {W : World} {b : Nat} {t : TypeId} (h : W.heap[b]? = some (.cells (hcells H) t (0, 0))) : W.cell? ⟨b, 0, none⟩ = some (.int .u64 H.g) := by rw [cell_of_row _ _ _ _ _ _ h]; simp [hcells, Array.getElem?_append]
theorem hcell1 {H : Hd} {W : World} {b : Nat} {t : TypeId} (h : W.heap[b]? = some (.cells (hcells H) t (0, 0))) : W.cell? ⟨b, 1, none⟩ = some (.int .u64 H.e) := by rw [cell_of_row _ _ _ _ _ _ h]; simp [hcells, Array.getElem?_append]
theorem hcell2 {H : Hd} {W : World} {b : Nat} {t : TypeId} (h : W.heap[b]? = some (.cells (hcells H) t (0, 0))) : W.cell? ⟨b, 2, none⟩ = some (.bool H.h) := by rw [cell_of_row _ _ _ _ _ _ h]; simp [hcells, Array.getElem?_append]
theorem hcell3 {H : Hd} {W : World} {b : Nat} {t : TypeId} (h : W.heap[b]? = some (.cells (hcells H) t (0, 0))) : W.cell? ⟨b, 3, none⟩ = some (.int .u32 H.s) := by rw [cell_of_row _ _ _ _ _ _ h]; simp [hcells, Array.getElem?_append]
theorem hroot {H : Hd} {W : World} {b : Nat} {t : TypeId} (h : W.heap[b]? = some (.cells (hcells H) t (0, 0))) : W.rangeAt b 3 (rcells H.s H.z) := fun j v hv => by
  rw [cell_of_row _ _ _ _ _ _ h, ← hv, ← Array.getElem?_toList, hcells_toList]
  have : ([.int .u64 H.g, .int .u64 H.e, .bool H.h, .int .u32 H.s] ++ H.z.map (Value.int .u8) : List Value) = [.int .u64 H.g, .int .u64 H.e, .bool H.h] ++ rcells H.s H.z := by simp [rcells]
  rw [this, List.getElem?_append_right (by simp)]
  simp
theorem hsum {H : Hd} (hz : Byt H.z) (hl : H.z.length = 32) {W : World} {b : Nat} {t : TypeId} (h : W.heap[b]? = some (.cells (hcells H) t (0, 0))) : Sees W (.slice (some ⟨b, 4, none⟩) 32 32) H.z := by
  refine ⟨hz, .inr (.inr ⟨b, 4, 32, by rw [hl], fun e => by rw [e] at hl; simp at hl, by rw [hl]; exact Nat.le_refl _, by decide, fun i hi => ?_⟩)⟩
  rw [cell_of_row _ _ _ _ _ _ h, ← Array.getElem?_toList, hcells_toList, List.getElem?_append_right (by simp)]
  simp [nth, List.getD, hi]
/-- May the head be? Its bytes. -/
def b2i (h : Bool) : Int := if h = true then 1 else 0
def Hd.may (H : Hd) : Prop := H.h = true ∨ (H.s = 0 ∧ H.z = zs 32)
instance (H : Hd) : Decidable H.may := by unfold Hd.may; infer_instance
def hP (H : Hd) : List (List Int) := [fr8, be 8 H.g, be 8 H.e, be 8 (b2i H.h), be 4 H.s, H.z]
def hB (H : Hd) : List Int := (hP H).flatten
def hW (H : Hd) : List Int := hB H ++ zs 444
theorem hB_len {H : Hd} (h : H.z.length = 32) : (hB H).length = 68 := by simp [hB, hP, be_len, h, fr8]
theorem hB_byt {H : Hd} (h : Byt H.z) : Byt (hB H) := by
  unfold hB hP
  simp only [List.flatten_cons, List.flatten_nil, List.append_nil]
  exact (byt_of fr8 rfl).append ((be_byt _ _).append ((be_byt _ _).append ((be_byt _ _).append ((be_byt _ _).append h))))
theorem hW_len {H : Hd} (h : H.z.length = 32) : (hW H).length = 512 := by simp [hW, hB_len h, zs_len]
theorem hW_byt {H : Hd} (h : Byt H.z) : Byt (hW H) := (hB_byt h).append (zs_byt _)
def hE (H : Hd) : Int := if H.may then 0 else 3
def hV (H : Hd) : List Int := if H.may then hW H else []
def WriteHP (w : World) (H : Hd) (e : Ending) (w' : World) : Prop := ∃ v, e = .returned (.tuple #[v, .int .i64 (hE H)]) ∧ Sees w' v (hV H) ∧ Below w.heap.size w w'
theorem writeHP_no {H : Hd} {w w' : World} (h : ¬ H.may) (hb : Below w.heap.size w w') : WriteHP w H (.returned (.tuple #[.slice none 0 0, .int .i64 3])) w' := by
  unfold WriteHP hE hV
  rw [if_neg h, if_neg h]
  exact ⟨_, rfl, sees_nil _, hb⟩
theorem writeHP_yes {H : Hd} {w w' : World} {v : Value} (h : H.may) (hs : Sees w' v (hW H)) (hb : Below w.heap.size w w') : WriteHP w H (.returned (.tuple #[v, .int .i64 0])) w' := by
  unfold WriteHP hE hV
  rw [if_pos h, if_pos h]
  exact ⟨_, rfl, hs, hb⟩
set_option maxRecDepth 100000 in
theorem bld27 (w : World) : (Instr.build 27 #[]).run Try.prog w = .ok (.agg (rcells 0 (zs 32)).toArray) w := by kernel_rfl
/-- Two roots are compared as they read. -/
theorem part_int (t : TypeId) (k : IntKind) (hu : Try.prog.underlying t = some (.int k)) (X : Array Value) (o : Nat) (v : Value) (hx : X[o]? = some v) (w : World) : (part t X o).run Try.prog w = .ok v w := by
  simp [part, isAgg, run_underlying hu, hx]
theorem eqFields_int (d : Nat) (t : TypeId) (k : IntKind) (o : Nat) (hu : Try.prog.underlying t = some (.int k)) (X Y : Array Value) (a b : Int) (hx : X[o]? = some (.int k a)) (hy : Y[o]? = some (.int k b))
    (f : Field) (fs : List Field) (h1 : decide (f.name ≠ "_") = true) (h2 : f.type = t) (h3 : f.offset = o) (q : Bool) (w : World) (h : (Op.eqFields (d + 1) X Y fs).run Try.prog w = .ok q w) :
    (Op.eqFields (d + 1) X Y (f :: fs)).run Try.prog w = .ok (decide (a = b) && q) w := by
  have e1 := part_int t k hu X o _ hx w
  have e2 := part_int t k hu Y o _ hy w
  have e3 := run_equalIn_int (P := Try.prog) w d t k k a b hu
  have h1' : f.name ≠ "_" := of_decide_eq_true h1
  subst h2 h3
  simp only [Op.eqFields, Sem.run_ite, Sem.run_bind, e1, e2, e3, Result.andThen_ok]
  rw [if_pos h1']
  have hd : (a == b) = decide (a = b) := rfl
  rw [hd]
  cases decide (a = b) <;> simp [h]
theorem part_arr' (t : TypeId) (n : Nat) (ht : Try.prog.underlying t = some (.array n 5)) (hi : (Try.prog.info? t).map (·.size) = some n) (X : Array Value) (o : Nat) (ys : List Int) (hX : (X.toList.drop o).take n = ys.map (Value.int .u8)) (w : World) :
    (part t X o).run Try.prog w = .ok (.agg (bcells ys)) w := by
  have e : X.extract o (o + n) = bcells ys := by
    apply Array.ext'
    rw [bcells_toList, ← hX]
    simp
  cases hq : Try.prog.info? t with
  | none => simp [hq] at hi
  | some i =>
    have hs : i.size = n := by simpa [hq] using hi
    simp [part, isAgg, run_underlying ht, sizeOf, typeInfo, hq, hs, e]
theorem eqFields_arr' (d : Nat) (t : TypeId) (n o : Nat) (ht : Try.prog.underlying t = some (.array n 5)) (hi : (Try.prog.info? t).map (·.size) = some n) (X Y : Array Value) (xs ys : List Int) (hX : (X.toList.drop o).take n = xs.map (Value.int .u8)) (hY : (Y.toList.drop o).take n = ys.map (Value.int .u8))
    (hx : Byt xs) (hy : Byt ys) (lx : xs.length = n) (ly : ys.length = n)
    (f : Field) (fs : List Field) (h1 : decide (f.name ≠ "_") = true) (h2 : f.type = t) (h3 : f.offset = o) (q : Bool) (w : World) (h : (Op.eqFields (d + 2) X Y fs).run Try.prog w = .ok q w) :
    (Op.eqFields (d + 2) X Y (f :: fs)).run Try.prog w = .ok (decide (xs = ys) && q) w := by
  have e1 := part_arr' t n ht hi X o xs hX w
  have e2 := part_arr' t n ht hi Y o ys hY w
  have e3 := eqBytes d t n ht xs ys hx hy lx ly w
  have h1' : f.name ≠ "_" := of_decide_eq_true h1
  subst h2 h3
  simp only [Op.eqFields, Sem.run_ite, Sem.run_bind, e1, e2, e3, Result.andThen_ok]
  rw [if_pos h1']
  cases decide (xs = ys) <;> simp [h]
theorem rcells_drop (s : Int) (z : List Int) (hl : z.length = 32) : (((rcells s z).toArray).toList.drop 1).take 32 = z.map (Value.int .u8) := by
  simp [rcells, List.take_of_length_le, hl]
set_option maxRecDepth 100000 in
theorem eq27d (d : Nat) (s s' : Int) (z z' : List Int) (hz : Byt z) (hz' : Byt z') (lz : z.length = 32) (lz' : z'.length = 32) (w : World) :
    (Op.equalIn (d + 3) 27 (.agg (rcells s z).toArray) (.agg (rcells s' z').toArray)).run Try.prog w = .ok (decide (s = s' ∧ z = z')) w := by
  rw [run_equalIn_struct w (d + 2) 27 _ _ (by kernel_rfl) (by kernel_rfl)]
  have hf : (Try.prog.fieldsOf 27).toList.map (fun f => (decide (f.name ≠ "_"), f.type, f.offset)) = [(true, 23, 0), (true, 25, 1)] := by kernel_rfl
  obtain ⟨f1, r1, e1, a1, b1, c1, g1⟩ := fields_cons hf
  obtain ⟨f2, r2, e2, a2, b2, c2, g2⟩ := fields_cons g1
  have e4 : r2 = [] := by simpa using g2
  rw [e1, e2, e4]
  rw [eqFields_int (d + 1) 23 .u32 0 (by kernel_rfl) _ _ s s' (by simp [rcells]) (by simp [rcells]) f1 _ a1 b1 c1 _ w
    (eqFields_arr' d 25 32 1 (by kernel_rfl) (by kernel_rfl) _ _ z z' (rcells_drop s z lz) (rcells_drop s' z' lz') hz hz' lz lz' f2 _ a2 b2 c2 _ w (eqFields_nil _ _ _ _ w))]
  congr 1
  by_cases h1 : s = s'
  · by_cases h2 : z = z'
    · simp [h1, h2]
    · simp [h2]
  · simp [h1]
theorem wpList_mid_met {ops : Array Oper} {rest : List Oper} {o : Oper} {a : Act} {w : World} {Q : Exit → Act → World → Prop} (hw : Region.wanted o (yielded ops a.tmps) = true) (ty : TypeId) (x : Operand) (ho : o.op = .load ty x)
    (b k : Nat) (hx : a.eval x = .pointer (some ⟨b, k, none⟩)) (cs : List Value) (d : TypeDesc) (hc : w.rangeAt b k cs)
    (hu : Try.prog.underlying ty = some d) (hd : d.isRow = true) (hi : (Try.prog.info? ty).map (·.size) = some cs.length)
    (h : wpList Try.prog ops Q rest (a.put o.dst (.agg cs.toArray)) w) : wpList Try.prog ops Q (o :: rest) a w :=
  wpList_wanted hw fun _ hK => wp_load_mid ty x ho b k hx cs d hc hu hd hi (hK _ _ h)
theorem wpList_blank_met {ops : Array Oper} {rest : List Oper} {o : Oper} {a : Act} {w : World} {Q : Exit → Act → World → Prop} (hw : Region.wanted o (yielded ops a.tmps) = true) (t : TypeId)
    (ho : o.op = .build t #[]) {v : Value}
    (hr : (Instr.build t #[]).run Try.prog w = .ok v w) (h : wpList Try.prog ops Q rest (a.put o.dst v) w) : wpList Try.prog ops Q (o :: rest) a w := by
  refine wpList_wanted hw fun K hK => ?_
  unfold Oper.wp execOp
  simp only [ho, Sem.run_bind, Sem.run_pure, Result.andThen_ok, List.map_toArray, List.map_nil, hr]
  exact hK _ _ h
theorem rcells_len {s : Int} {z : List Int} (h : z.length = 32) : (Try.prog.info? 27).map (·.size) = some (rcells s z).length := by
  rw [show (rcells s z).length = 33 by simp [rcells, h]]; kernel_rfl
set_option maxRecDepth 100000 in
set_option maxHeartbeats 4000000 in
theorem writeH_no (H : Hd) (hk : H.ok) (hm : ¬ H.may) (w : World) : Calls Try.prog 12 #[.agg (hcells H)] w (WriteHP w H) := by
  obtain ⟨hg, he, hs, hz, hl⟩ := hk
  have hh : H.h = false := by
    cases h : H.h with
    | true => exact absurd (.inl h) hm
    | false => rfl
  have EQ : Hid (∀ W, (Op.equalIn 10000 27 (.agg (rcells H.s H.z).toArray) (.agg (rcells 0 (zs 32)).toArray)).run Try.prog W = .ok false W) := fun W => by
    rw [eq27d 9997 _ _ _ _ hz (zs_byt _) hl (zs_len _) W, decide_eq_false (fun h => hm (.inr h))]
  have B27 := Lib.hid bld27
  have IR := Lib.hid (rcells_len (s := H.s) hl)
  have G := heap_alloc_new w (.cells (hcells H) 29)
  have RT := Lib.hid (hroot G)
  have c2 := hcell2 G
  rw [hh] at c2
  have BE : Hid (Below w.heap.size w (w.alloc (.cells (hcells H) 29))) := (Below.refl _ _).alloc (Nat.le_refl _) _
  have NO := Lib.hid (writeHP_no (w := w) (w' := w.alloc (.cells (hcells H) 29)) hm BE.out)
  have eq := EQ.out
  generalize hcells H = C at *
  generalize rcells H.s H.z = R at *
  generalize rcells 0 (zs 32) = R0 at *
  clear hg he hs hz hl hm hh G EQ BE
  go_enter Try.func12, Try.ntmps12
  go_wp2_with (first
    | (refine wpList_mid_met rfl 27 (.tmp 10) rfl w.heap.size 3 rfl R _ RT.out Try.underlying27 rfl IR.out ?_)
    | (refine wpList_blank_met rfl 27 rfl (B27.out _) ?_))
  go_ret2
  exact NO.out
theorem hB_join (H : Hd) (hl : H.z.length = 32) : (hP H).flatten ++ (zs 512).drop (hP H).flatten.length = hW H := by
  show hB H ++ (zs 512).drop (hB H).length = _
  rw [hB_len hl, zs_drop]
  rfl
set_option maxRecDepth 100000 in
set_option maxHeartbeats 8000000 in
theorem writeH_yes (H : Hd) (hk : H.ok) (hm : H.may) (w : World) : Calls Try.prog 12 #[.agg (hcells H)] w (WriteHP w H) := by
  obtain ⟨hg, he, hs, hz, hl⟩ := hk
  have hzz := z512
  obtain ⟨W2, hW2⟩ : ∃ W2, W2 = (w.alloc (.cells (hcells H) 29)).alloc (.cells (bcells (zs 512)) 74) := ⟨_, rfl⟩
  have BE : Hid (Below w.heap.size w W2) := by rw [hW2]; exact ((Below.refl _ _).alloc (Nat.le_refl _) _).alloc (by simp) _
  have G1 : Hid (W2.heap[w.heap.size]? = some (.cells (hcells H) 29 (0, 0))) := by show _ = _; rw [hW2, Below.heap_alloc _ _ _ (by simp)]; exact heap_alloc_new w _
  have G5 : Hid (W2.heap[w.heap.size + 1]? = some (.cells (bcells (zs 512)) 74 (0, 0))) := by show _ = _; rw [hW2]; exact heap_alloc2_new w _ _
  have G0 := heap_alloc_new w (.cells (hcells H) 29)
  have c2 := hcell2 G0
  have RT := Lib.hid (hroot G0)
  have B27 := Lib.hid bld27
  have IR := Lib.hid (rcells_len (s := H.s) hl)
  have EQ : Hid (H.h = false → ∀ W, (Op.equalIn 10000 27 (.agg (rcells H.s H.z).toArray) (.agg (rcells 0 (zs 32)).toArray)).run Try.prog W = .ok true W) := fun hf W => by
    rw [eq27d 9997 _ _ _ _ hz (zs_byt _) hl (zs_len _) W, decide_eq_true]
    rcases hm with h | h
    · rw [hf] at h; cases h
    · exact h
  have PG : Hid (∀ W, Calls Try.prog 34 #[.int .u64 H.g] W (NewP W 8 (be 8 H.g))) := fun W => putb64 _ hg.1 hg.2 W
  have PE : Hid (∀ W, Calls Try.prog 34 #[.int .u64 H.e] W (NewP W 8 (be 8 H.e))) := fun W => putb64 _ he.1 he.2 W
  have PH : Hid (∀ W, Calls Try.prog 34 #[.int .u64 (b2i H.h)] W (NewP W 8 (be 8 (b2i H.h)))) := fun W => putb64 _ (by unfold b2i; split <;> decide) (by unfold b2i; split <;> decide) W
  have PR : Hid (∀ W, Calls Try.prog 35 #[.int .u32 H.s] W (NewP W 4 (be 4 H.s))) := fun W => putb32 _ hs.1 hs.2 W
  have FR := Lib.hid front
  have LZ := Lib.hid (zs_len 512)
  have PL : Hid ((hP H).flatten.length = 68) := hB_len hl
  have JO : Hid (∀ W pv, W.heap[w.heap.size + 1]? = some (.cells (bcells (zs 512)) 74 (0, 0)) → PS W pv (hP H) (w.heap.size + 1) →
      Calls Try.prog 32 #[.slice (some ⟨w.heap.size + 1, 0, none⟩) 512 512, pv] W fun e w' => (∃ r, e = .returned r) ∧ w' = W.setRow (w.heap.size + 1) (bcells (hW H))) := fun W pv hg hp => by
    have := join (w.heap.size + 1) 74 (zs 512) (hP H) pv (by rw [zs_len]; decide) (by rw [PL.out, zs_len]; decide) W hg hp
    unfold JoinP at this
    rw [hB_join H hl, zs_len] at this
    exact this
  have YES : Hid (∀ W, Below w.heap.size w W → W.heap[w.heap.size + 1]? = some (.cells (bcells (hW H)) 74 (0, 0)) → WriteHP w H (.returned (.tuple #[.slice (some ⟨w.heap.size + 1, 0, none⟩) 512 512, .int .i64 0])) W) := fun W hb hr =>
    writeHP_yes hm (sees_rowT W _ 74 _ (hW_byt hz) (by rw [hW_len hl]; decide) hr _ (hW_len hl).symm) hb
  have PSF : Hid (∀ (W : World) (gp : Nat) (v1 v2 v3 v4 v5 v6 : Value) (cs : Array Value), cs = #[v1, v2, v3, v4, v5, v6] → W.heap[gp]? = some (.cells cs 30 (0, 0)) → gp ≠ w.heap.size + 1 →
      (∀ v p, (v, p) ∈ [(v1, fr8), (v2, be 8 H.g), (v3, be 8 H.e), (v4, be 8 (b2i H.h)), (v5, be 4 H.s), (v6, H.z)] → Sees W v p ∧ v.ownBlock ≠ some (w.heap.size + 1)) →
      PS W (.slice (some ⟨gp, 0, none⟩) 6 6) (hP H) (w.heap.size + 1)) := fun W gp v1 v2 v3 v4 v5 v6 cs hcs hg hne hv => by
    subst hcs
    have key : ∀ (i : Nat) (v : Value) (p : List Int), (#[v1, v2, v3, v4, v5, v6] : Array Value)[i]? = some v → p ≠ [] → Sees W v p → v.ownBlock ≠ some (w.heap.size + 1) →
        ∃ bx ox c', W.cell? ⟨gp, 0 + i, none⟩ = some (.slice (some ⟨bx, ox, none⟩) p.length c') ∧ gp ≠ w.heap.size + 1 ∧ bx ≠ w.heap.size + 1 ∧ ∀ j, j < p.length → W.cell? ⟨bx, ox + j, none⟩ = some (.int .u8 (nth p j)) := fun i v p hi hp hs ho => by
      obtain ⟨_, ⟨_, h2⟩ | ⟨_, _, _, h2, _⟩ | ⟨bx, ox, c', rfl, _, _, _, hc⟩⟩ := hs
      · exact absurd h2 hp
      · exact absurd h2 hp
      · exact ⟨bx, ox, c', by rw [Nat.zero_add, cell_of_row _ _ _ _ _ _ hg, hi], hne, fun e => ho (by rw [← e]; rfl), hc⟩
    refine ⟨gp, 0, 6, rfl, by simp [hP], fun i p hp => ?_⟩
    match i, hp with
    | 0, hp => obtain rfl : fr8 = p := by simpa [hP] using hp
               exact key 0 v1 _ rfl (by decide) (hv v1 _ (by simp)).1 (hv v1 fr8 (by simp)).2
    | 1, hp => obtain rfl : be 8 H.g = p := by simpa [hP] using hp
               exact key 1 v2 _ rfl (fun e => by have := be_len 8 H.g; rw [e] at this; simp at this) (hv v2 _ (by simp)).1 (hv v2 (be 8 H.g) (by simp)).2
    | 2, hp => obtain rfl : be 8 H.e = p := by simpa [hP] using hp
               exact key 2 v3 _ rfl (fun e => by have := be_len 8 H.e; rw [e] at this; simp at this) (hv v3 _ (by simp)).1 (hv v3 (be 8 H.e) (by simp)).2
    | 3, hp => obtain rfl : be 8 (b2i H.h) = p := by simpa [hP] using hp
               exact key 3 v4 _ rfl (fun e => by have := be_len 8 (b2i H.h); rw [e] at this; simp at this) (hv v4 _ (by simp)).1 (hv v4 (be 8 (b2i H.h)) (by simp)).2
    | 4, hp => obtain rfl : be 4 H.s = p := by simpa [hP] using hp
               exact key 4 v5 _ rfl (fun e => by have := be_len 4 H.s; rw [e] at this; simp at this) (hv v5 _ (by simp)).1 (hv v5 (be 4 H.s) (by simp)).2
    | 5, hp => obtain rfl : H.z = p := by simpa [hP] using hp
               exact key 5 v6 _ rfl (fun e => by rw [e] at hl; simp at hl) (hv v6 _ (by simp)).1 (hv v6 H.z (by simp)).2
    | k + 6, hp => simp [hP] at hp
  have SM : Hid (Sees W2 (.slice (some ⟨w.heap.size, 4, none⟩) 32 32) H.z) := hsum hz hl G1.out
  have HW2 := Lib.hid hW2
  have HB2 : Hid (b2i true = 1 ∧ b2i false = 0) := ⟨rfl, rfl⟩
  clear hg he hs hz hl hm hW2 PL LZ
  cases hh : H.h with
  | true =>
    rw [hh] at c2 PH PSF
    clear EQ RT B27 IR G0
    rw [HB2.out.1] at PH PSF
    go_enter Try.func12, Try.ntmps12
    go_wp2_with fail
    rw [← HW2.out]
    refine wp_region_held_drew (S := fun W => Below w.heap.size w W ∧ W.heap[w.heap.size]? = some (.cells (hcells H) 29 (0, 0))) (by kernel_rfl) (⟨BE.out.drew, G1.out⟩) (fun hS => ?_)
    refine' wpAnyH_take (i := 0) ?h1x0a ?hsx0a ?hfx0a ?hrx0a ?hQx0a (Or.inl ⟨?hwx0a, ?hyx0a⟩) hS ?restx0a
    case h1x0a => (simp only [List.getElem?_toArray, List.getElem?_cons_zero]; rfl)
    case hsx0a => kernel_rfl
    case hfx0a => kernel_rfl
    case hrx0a => kernel_rfl
    case hQx0a => exact fun _ _ _ h => h
    case hwx0a => rfl
    case hyx0a =>
      intro W hW
      go_simp
      try with_reducible rfl
    simp only [Act.put, List.setIfInBounds_toArray, List.set_cons_succ, List.set_cons_zero]
    refine' wpAnyH_take (i := 2) ?h1x2a ?hsx2a ?hfx2a ?hrx2a ?hQx2a (Or.inl ⟨?hwx2a, ?hyx2a⟩) hS ?restx2a
    case h1x2a => (simp only [List.getElem?_toArray, List.getElem?_cons_succ, List.getElem?_cons_zero]; rfl)
    case hsx2a => kernel_rfl
    case hfx2a => kernel_rfl
    case hrx2a => kernel_rfl
    case hQx2a => exact fun _ _ _ h => h
    case hwx2a => rfl
    case hyx2a =>
      intro W hW
      go_simp
      try with_reducible rfl
    simp only [Act.put, List.setIfInBounds_toArray, List.set_cons_succ, List.set_cons_zero]
    refine' wpAnyH_take (i := 3) ?h1x3a ?hsx3a ?hfx3a ?hrx3a ?hQx3a (Or.inl ⟨?hwx3a, ?hyx3a⟩) hS ?restx3a
    case h1x3a => (simp only [List.getElem?_toArray, List.getElem?_cons_succ, List.getElem?_cons_zero]; rfl)
    case hsx3a => kernel_rfl
    case hfx3a => kernel_rfl
    case hrx3a => kernel_rfl
    case hQx3a => exact fun _ _ _ h => h
    case hwx3a => rfl
    case hyx3a =>
      intro W hW
      have dd := hcell0 hW.2
      go_simp
      try with_reducible rfl
    simp only [Act.put, List.setIfInBounds_toArray, List.set_cons_succ, List.set_cons_zero]
    refine' wpAnyH_take (i := 5) ?h1x5a ?hsx5a ?hfx5a ?hrx5a ?hQx5a (Or.inl ⟨?hwx5a, ?hyx5a⟩) hS ?restx5a
    case h1x5a => (simp only [List.getElem?_toArray, List.getElem?_cons_succ, List.getElem?_cons_zero]; rfl)
    case hsx5a => kernel_rfl
    case hfx5a => kernel_rfl
    case hrx5a => kernel_rfl
    case hQx5a => exact fun _ _ _ h => h
    case hwx5a => rfl
    case hyx5a =>
      intro W hW
      go_simp
      try with_reducible rfl
    simp only [Act.put, List.setIfInBounds_toArray, List.set_cons_succ, List.set_cons_zero]
    refine' wpAnyH_take (i := 6) ?h1x6a ?hsx6a ?hfx6a ?hrx6a ?hQx6a (Or.inl ⟨?hwx6a, ?hyx6a⟩) hS ?restx6a
    case h1x6a => (simp only [List.getElem?_toArray, List.getElem?_cons_succ, List.getElem?_cons_zero]; rfl)
    case hsx6a => kernel_rfl
    case hfx6a => kernel_rfl
    case hrx6a => kernel_rfl
    case hQx6a => exact fun _ _ _ h => h
    case hwx6a => rfl
    case hyx6a =>
      intro W hW
      have dd := hcell1 hW.2
      go_simp
      try with_reducible rfl
    simp only [Act.put, List.setIfInBounds_toArray, List.set_cons_succ, List.set_cons_zero]
    refine' wpAnyH_take (i := 8) ?h1x8a ?hsx8a ?hfx8a ?hrx8a ?hQx8a (Or.inl ⟨?hwx8a, ?hyx8a⟩) hS ?restx8a
    case h1x8a => (simp only [List.getElem?_toArray, List.getElem?_cons_succ, List.getElem?_cons_zero]; rfl)
    case hsx8a => kernel_rfl
    case hfx8a => kernel_rfl
    case hrx8a => kernel_rfl
    case hQx8a => exact fun _ _ _ h => h
    case hwx8a => rfl
    case hyx8a =>
      intro W hW
      go_simp
      try with_reducible rfl
    simp only [Act.put, List.setIfInBounds_toArray, List.set_cons_succ, List.set_cons_zero]
    refine' wpAnyH_take (i := 10) ?h1x10a ?hsx10a ?hfx10a ?hrx10a ?hQx10a (Or.inl ⟨?hwx10a, ?hyx10a⟩) hS ?restx10a
    case h1x10a => (simp only [List.getElem?_toArray, List.getElem?_cons_succ, List.getElem?_cons_zero]; rfl)
    case hsx10a => kernel_rfl
    case hfx10a => kernel_rfl
    case hrx10a => kernel_rfl
    case hQx10a => exact fun _ _ _ h => h
    case hwx10a => rfl
    case hyx10a =>
      intro W hW
      go_simp
      try with_reducible rfl
    simp only [Act.put, List.setIfInBounds_toArray, List.set_cons_succ, List.set_cons_zero]
    refine' wpAnyH_take (i := 11) ?h1x11a ?hsx11a ?hfx11a ?hrx11a ?hQx11a (Or.inl ⟨?hwx11a, ?hyx11a⟩) hS ?restx11a
    case h1x11a => (simp only [List.getElem?_toArray, List.getElem?_cons_succ, List.getElem?_cons_zero]; rfl)
    case hsx11a => kernel_rfl
    case hfx11a => kernel_rfl
    case hrx11a => kernel_rfl
    case hQx11a => exact fun _ _ _ h => h
    case hwx11a => rfl
    case hyx11a =>
      intro W hW
      go_simp
      try with_reducible rfl
    simp only [Act.put, List.setIfInBounds_toArray, List.set_cons_succ, List.set_cons_zero]
    refine' wpAnyH_take (i := 12) ?h1x12a ?hsx12a ?hfx12a ?hrx12a ?hQx12a (Or.inl ⟨?hwx12a, ?hyx12a⟩) hS ?restx12a
    case h1x12a => (simp only [List.getElem?_toArray, List.getElem?_cons_succ, List.getElem?_cons_zero]; rfl)
    case hsx12a => kernel_rfl
    case hfx12a => kernel_rfl
    case hrx12a => kernel_rfl
    case hQx12a => exact fun _ _ _ h => h
    case hwx12a => rfl
    case hyx12a =>
      intro W hW
      have dd := hcell3 hW.2
      go_simp
      try with_reducible rfl
    simp only [Act.put, List.setIfInBounds_toArray, List.set_cons_succ, List.set_cons_zero]
    refine' wpAnyH_take (i := 14) ?h1x14a ?hsx14a ?hfx14a ?hrx14a ?hQx14a (Or.inl ⟨?hwx14a, ?hyx14a⟩) hS ?restx14a
    case h1x14a => (simp only [List.getElem?_toArray, List.getElem?_cons_succ, List.getElem?_cons_zero]; rfl)
    case hsx14a => kernel_rfl
    case hfx14a => kernel_rfl
    case hrx14a => kernel_rfl
    case hQx14a => exact fun _ _ _ h => h
    case hwx14a => rfl
    case hyx14a =>
      intro W hW
      go_simp
      try with_reducible rfl
    simp only [Act.put, List.setIfInBounds_toArray, List.set_cons_succ, List.set_cons_zero]
    refine' wpAnyH_take (i := 15) ?h1x15a ?hsx15a ?hfx15a ?hrx15a ?hQx15a (Or.inl ⟨?hwx15a, ?hyx15a⟩) hS ?restx15a
    case h1x15a => (simp only [List.getElem?_toArray, List.getElem?_cons_succ, List.getElem?_cons_zero]; rfl)
    case hsx15a => kernel_rfl
    case hfx15a => kernel_rfl
    case hrx15a => kernel_rfl
    case hQx15a => exact fun _ _ _ h => h
    case hwx15a => rfl
    case hyx15a =>
      intro W hW
      go_simp
      try with_reducible rfl
    simp only [Act.put, List.setIfInBounds_toArray, List.set_cons_succ, List.set_cons_zero]
    refine' wpAnyH_take (i := 16) ?h1x16a ?hsx16a ?hfx16a ?hrx16a ?hQx16a (Or.inl ⟨?hwx16a, ?hyx16a⟩) hS ?restx16a
    case h1x16a => (simp only [List.getElem?_toArray, List.getElem?_cons_succ, List.getElem?_cons_zero]; rfl)
    case hsx16a => kernel_rfl
    case hfx16a => kernel_rfl
    case hrx16a => kernel_rfl
    case hQx16a => exact fun _ _ _ h => h
    case hwx16a => rfl
    case hyx16a =>
      intro W hW
      go_simp
      try with_reducible rfl
    simp only [Act.put, List.setIfInBounds_toArray, List.set_cons_succ, List.set_cons_zero]
    have SM : Hid (Sees W2.drew (.slice (some ⟨w.heap.size, 4, none⟩) 32 32) H.z) := SM.out
    have G5 : Hid (W2.drew.heap[w.heap.size + 1]? = some (.cells (bcells (zs 512)) 74 (0, 0))) := G5.out
    have SZ : w.heap.size + 1 < W2.drew.heap.size := blk_lt G5.out
    refine wpAnyH_ready (rs := [1]) (by kernel_rfl) (by simp) ?_
    refine' AllReadyH.cons ?hoc1a (fun K hK => ?stc1a) AllReadyH.nil
    case hoc1a => (simp only [List.getElem?_toArray, List.getElem?_cons_succ, List.getElem?_cons_zero]; rfl)
    go_simp
    refine (FR.out _).mono ?_
    rintro e wka1 ⟨ga, rfl, hs, hb, hn⟩
    go_wp2_with fail
    refine hK.out _ _ (⟨hS.1.trans (hb.mono hS.1.size), (hb.block _ (blk_lt hS.2)).trans hS.2⟩) (fun hHeld => ?_)
    clear hK K
    try simp only [Act.put, List.setIfInBounds_toArray, List.set_cons_succ, List.set_cons_zero]
    have Sa := Lib.hid hs
    have Na : ga ≠ w.heap.size + 1 := by omega
    clear hs hn
    have G5 := Lib.hid ((hb.block _ (blk_lt G5.out)).trans G5.out)
    have SM := Lib.hid (SM.out.below hb)
    have SZ := Nat.lt_of_lt_of_le SZ hb.size
    clear hS hb
    have hS := hHeld
    clear hHeld
    refine wpAnyH_ready (rs := [4]) (by kernel_rfl) (by simp) ?_
    refine' AllReadyH.cons ?hoc4a (fun K hK => ?stc4a) AllReadyH.nil
    case hoc4a => (simp only [List.getElem?_toArray, List.getElem?_cons_succ, List.getElem?_cons_zero]; rfl)
    go_simp
    refine (PG.out _).mono ?_
    rintro e wka2 ⟨gb, rfl, hs, hb, hn⟩
    go_wp2_with fail
    refine hK.out _ _ (⟨hS.1.trans (hb.mono hS.1.size), (hb.block _ (blk_lt hS.2)).trans hS.2⟩) (fun hHeld => ?_)
    clear hK K
    try simp only [Act.put, List.setIfInBounds_toArray, List.set_cons_succ, List.set_cons_zero]
    have Sb := Lib.hid hs
    have Nb : gb ≠ w.heap.size + 1 := by omega
    clear hs hn
    have G5 := Lib.hid ((hb.block _ (blk_lt G5.out)).trans G5.out)
    have SM := Lib.hid (SM.out.below hb)
    have SZ := Nat.lt_of_lt_of_le SZ hb.size
    have Sa := Lib.hid (Sa.out.below hb)
    clear hS hb
    have hS := hHeld
    clear hHeld
    refine wpAnyH_ready (rs := [7]) (by kernel_rfl) (by simp) ?_
    refine' AllReadyH.cons ?hoc7a (fun K hK => ?stc7a) AllReadyH.nil
    case hoc7a => (simp only [List.getElem?_toArray, List.getElem?_cons_succ, List.getElem?_cons_zero]; rfl)
    go_simp
    refine (PE.out _).mono ?_
    rintro e wka3 ⟨gc, rfl, hs, hb, hn⟩
    go_wp2_with fail
    refine hK.out _ _ (⟨hS.1.trans (hb.mono hS.1.size), (hb.block _ (blk_lt hS.2)).trans hS.2⟩) (fun hHeld => ?_)
    clear hK K
    try simp only [Act.put, List.setIfInBounds_toArray, List.set_cons_succ, List.set_cons_zero]
    have Sc := Lib.hid hs
    have Nc : gc ≠ w.heap.size + 1 := by omega
    clear hs hn
    have G5 := Lib.hid ((hb.block _ (blk_lt G5.out)).trans G5.out)
    have SM := Lib.hid (SM.out.below hb)
    have SZ := Nat.lt_of_lt_of_le SZ hb.size
    have Sa := Lib.hid (Sa.out.below hb)
    have Sb := Lib.hid (Sb.out.below hb)
    clear hS hb
    have hS := hHeld
    clear hHeld
    refine wpAnyH_ready (rs := [9]) (by kernel_rfl) (by simp) ?_
    refine' AllReadyH.cons ?hoc9a (fun K hK => ?stc9a) AllReadyH.nil
    case hoc9a => (simp only [List.getElem?_toArray, List.getElem?_cons_succ, List.getElem?_cons_zero]; rfl)
    go_simp
    refine (PH.out _).mono ?_
    rintro e wka4 ⟨gd, rfl, hs, hb, hn⟩
    go_wp2_with fail
    refine hK.out _ _ (⟨hS.1.trans (hb.mono hS.1.size), (hb.block _ (blk_lt hS.2)).trans hS.2⟩) (fun hHeld => ?_)
    clear hK K
    try simp only [Act.put, List.setIfInBounds_toArray, List.set_cons_succ, List.set_cons_zero]
    have Sd := Lib.hid hs
    have Nd : gd ≠ w.heap.size + 1 := by omega
    clear hs hn
    have G5 := Lib.hid ((hb.block _ (blk_lt G5.out)).trans G5.out)
    have SM := Lib.hid (SM.out.below hb)
    have SZ := Nat.lt_of_lt_of_le SZ hb.size
    have Sa := Lib.hid (Sa.out.below hb)
    have Sb := Lib.hid (Sb.out.below hb)
    have Sc := Lib.hid (Sc.out.below hb)
    clear hS hb
    have hS := hHeld
    clear hHeld
    refine wpAnyH_ready (rs := [13]) (by kernel_rfl) (by simp) ?_
    refine' AllReadyH.cons ?hoc13a (fun K hK => ?stc13a) AllReadyH.nil
    case hoc13a => (simp only [List.getElem?_toArray, List.getElem?_cons_succ, List.getElem?_cons_zero]; rfl)
    go_simp
    refine (PR.out _).mono ?_
    rintro e wka5 ⟨gf, rfl, hs, hb, hn⟩
    go_wp2_with fail
    refine hK.out _ _ (⟨hS.1.trans (hb.mono hS.1.size), (hb.block _ (blk_lt hS.2)).trans hS.2⟩) (fun hHeld => ?_)
    clear hK K
    try simp only [Act.put, List.setIfInBounds_toArray, List.set_cons_succ, List.set_cons_zero]
    have Sf := Lib.hid hs
    have Nf : gf ≠ w.heap.size + 1 := by omega
    clear hs hn
    have G5 := Lib.hid ((hb.block _ (blk_lt G5.out)).trans G5.out)
    have SM := Lib.hid (SM.out.below hb)
    have SZ := Nat.lt_of_lt_of_le SZ hb.size
    have Sa := Lib.hid (Sa.out.below hb)
    have Sb := Lib.hid (Sb.out.below hb)
    have Sc := Lib.hid (Sc.out.below hb)
    have Sd := Lib.hid (Sd.out.below hb)
    clear hS hb
    have hS := hHeld
    clear hHeld
    refine wpAnyH_ready (rs := [17]) (by kernel_rfl) (by simp) ?_
    refine' AllReadyH.cons ?hoc17a (fun K hK => ?stc17a) AllReadyH.nil
    case hoc17a => (simp only [List.getElem?_toArray, List.getElem?_cons_succ, List.getElem?_cons_zero]; rfl)
    go_simp
    have hb : Below wka5.heap.size wka5 (wka5.alloc (.cells #[.slice (some ⟨ga, 0, none⟩) 8 8, .slice (some ⟨gb, 0, none⟩) 8 8, .slice (some ⟨gc, 0, none⟩) 8 8, .slice (some ⟨gd, 0, none⟩) 8 8, .slice (some ⟨gf, 0, none⟩) 4 4, .slice (some ⟨w.heap.size, 4, none⟩) 32 32] 30)) := (Below.refl _ _).alloc (Nat.le_refl _) _
    refine hK.out _ _ (⟨hS.1.trans (hb.mono hS.1.size), (hb.block _ (blk_lt hS.2)).trans hS.2⟩) (fun hHeld => ?_)
    clear hK K
    try simp only [Act.put, List.setIfInBounds_toArray, List.set_cons_succ, List.set_cons_zero]
    have GP := Lib.hid (heap_alloc_new wka5 (.cells #[.slice (some ⟨ga, 0, none⟩) 8 8, .slice (some ⟨gb, 0, none⟩) 8 8, .slice (some ⟨gc, 0, none⟩) 8 8, .slice (some ⟨gd, 0, none⟩) 8 8, .slice (some ⟨gf, 0, none⟩) 4 4, .slice (some ⟨w.heap.size, 4, none⟩) 32 32] 30))
    have NP : wka5.heap.size ≠ w.heap.size + 1 := by omega
    have G5 := Lib.hid ((hb.block _ (blk_lt G5.out)).trans G5.out)
    have SM := Lib.hid (SM.out.below hb)
    have SZ := Nat.lt_of_lt_of_le SZ hb.size
    have Sa := Lib.hid (Sa.out.below hb)
    have Sb := Lib.hid (Sb.out.below hb)
    have Sc := Lib.hid (Sc.out.below hb)
    have Sd := Lib.hid (Sd.out.below hb)
    have Sf := Lib.hid (Sf.out.below hb)
    generalize wka5.alloc (.cells #[.slice (some ⟨ga, 0, none⟩) 8 8, .slice (some ⟨gb, 0, none⟩) 8 8, .slice (some ⟨gc, 0, none⟩) 8 8, .slice (some ⟨gd, 0, none⟩) 8 8, .slice (some ⟨gf, 0, none⟩) 4 4, .slice (some ⟨w.heap.size, 4, none⟩) 32 32] 30) = wka6 at *
    clear hS hb
    have hS := hHeld
    clear hHeld
    generalize wka5.heap.size = gwka6 at *
    have PX := Lib.hid (PSF.out _ _ _ _ _ _ _ _ _ rfl GP.out NP (fun v p hvp => by
      simp only [List.mem_cons, Prod.mk.injEq, List.not_mem_nil, or_false] at hvp
      rcases hvp with ⟨rfl, rfl⟩ | ⟨rfl, rfl⟩ | ⟨rfl, rfl⟩ | ⟨rfl, rfl⟩ | ⟨rfl, rfl⟩ | ⟨rfl, rfl⟩
      · exact ⟨Sa.out, by simpa [Value.ownBlock] using Na⟩
      · exact ⟨Sb.out, by simpa [Value.ownBlock] using Nb⟩
      · exact ⟨Sc.out, by simpa [Value.ownBlock] using Nc⟩
      · exact ⟨Sd.out, by simpa [Value.ownBlock] using Nd⟩
      · exact ⟨Sf.out, by simpa [Value.ownBlock] using Nf⟩
      · exact ⟨SM.out, by simp [Value.ownBlock]⟩))
    refine wpAnyH_ready (rs := [18]) (by kernel_rfl) (by simp) ?_
    refine' AllReadyH.cons ?hoc18a (fun K hK => ?stc18a) AllReadyH.nil
    case hoc18a => (simp only [List.getElem?_toArray, List.getElem?_cons_succ, List.getElem?_cons_zero]; rfl)
    go_simp
    refine (JO.out _ _ G5.out PX.out).mono ?_
    rintro e wl ⟨⟨r, rfl⟩, rfl⟩
    go_wp2_with fail
    refine hK.out _ _ ⟨hS.1.trans (below_row _ _ (by omega)), (setRow_other _ _ _ _ (by omega)).trans hS.2⟩ (fun hHeld => ?_)
    clear hK K
    try simp only [Act.put, List.setIfInBounds_toArray, List.set_cons_succ, List.set_cons_zero]
    have GE : Hid ((wka6.setRow (w.heap.size + 1) (bcells (hW H))).heap[w.heap.size + 1]? = some (.cells (bcells (hW H)) 74 (0, 0))) := setRow_heap _ _ _ _ _ _ G5.out
    clear hS
    have hS := hHeld
    clear hHeld
    refine wpAnyH_done (by kernel_rfl) ?_ _
    go_wp2_with fail
    go_ret2
    exact YES.out _ hS.1 GE.out
  | false =>
    rw [hh] at c2 PH PSF
    have eq := EQ.out hh
    rw [HB2.out.2] at PH PSF
    generalize rcells H.s H.z = R at *
    generalize rcells 0 (zs 32) = R0 at *
    clear EQ G0
    go_enter Try.func12, Try.ntmps12
    go_wp2_with (first
      | (refine wpList_mid_met rfl 27 (.tmp 10) rfl w.heap.size 3 rfl R _ RT.out Try.underlying27 rfl IR.out ?_)
      | (refine wpList_blank_met rfl 27 rfl (B27.out _) ?_))
    rw [← HW2.out]
    refine wp_region_held_drew (S := fun W => Below w.heap.size w W ∧ W.heap[w.heap.size]? = some (.cells (hcells H) 29 (0, 0))) (by kernel_rfl) (⟨BE.out.drew, G1.out⟩) (fun hS => ?_)
    refine' wpAnyH_take (i := 0) ?h1x0b ?hsx0b ?hfx0b ?hrx0b ?hQx0b (Or.inl ⟨?hwx0b, ?hyx0b⟩) hS ?restx0b
    case h1x0b => (simp only [List.getElem?_toArray, List.getElem?_cons_zero]; rfl)
    case hsx0b => kernel_rfl
    case hfx0b => kernel_rfl
    case hrx0b => kernel_rfl
    case hQx0b => exact fun _ _ _ h => h
    case hwx0b => rfl
    case hyx0b =>
      intro W hW
      go_simp
      try with_reducible rfl
    simp only [Act.put, List.setIfInBounds_toArray, List.set_cons_succ, List.set_cons_zero]
    refine' wpAnyH_take (i := 2) ?h1x2b ?hsx2b ?hfx2b ?hrx2b ?hQx2b (Or.inl ⟨?hwx2b, ?hyx2b⟩) hS ?restx2b
    case h1x2b => (simp only [List.getElem?_toArray, List.getElem?_cons_succ, List.getElem?_cons_zero]; rfl)
    case hsx2b => kernel_rfl
    case hfx2b => kernel_rfl
    case hrx2b => kernel_rfl
    case hQx2b => exact fun _ _ _ h => h
    case hwx2b => rfl
    case hyx2b =>
      intro W hW
      go_simp
      try with_reducible rfl
    simp only [Act.put, List.setIfInBounds_toArray, List.set_cons_succ, List.set_cons_zero]
    refine' wpAnyH_take (i := 3) ?h1x3b ?hsx3b ?hfx3b ?hrx3b ?hQx3b (Or.inl ⟨?hwx3b, ?hyx3b⟩) hS ?restx3b
    case h1x3b => (simp only [List.getElem?_toArray, List.getElem?_cons_succ, List.getElem?_cons_zero]; rfl)
    case hsx3b => kernel_rfl
    case hfx3b => kernel_rfl
    case hrx3b => kernel_rfl
    case hQx3b => exact fun _ _ _ h => h
    case hwx3b => rfl
    case hyx3b =>
      intro W hW
      have dd := hcell0 hW.2
      go_simp
      try with_reducible rfl
    simp only [Act.put, List.setIfInBounds_toArray, List.set_cons_succ, List.set_cons_zero]
    refine' wpAnyH_take (i := 5) ?h1x5b ?hsx5b ?hfx5b ?hrx5b ?hQx5b (Or.inl ⟨?hwx5b, ?hyx5b⟩) hS ?restx5b
    case h1x5b => (simp only [List.getElem?_toArray, List.getElem?_cons_succ, List.getElem?_cons_zero]; rfl)
    case hsx5b => kernel_rfl
    case hfx5b => kernel_rfl
    case hrx5b => kernel_rfl
    case hQx5b => exact fun _ _ _ h => h
    case hwx5b => rfl
    case hyx5b =>
      intro W hW
      go_simp
      try with_reducible rfl
    simp only [Act.put, List.setIfInBounds_toArray, List.set_cons_succ, List.set_cons_zero]
    refine' wpAnyH_take (i := 6) ?h1x6b ?hsx6b ?hfx6b ?hrx6b ?hQx6b (Or.inl ⟨?hwx6b, ?hyx6b⟩) hS ?restx6b
    case h1x6b => (simp only [List.getElem?_toArray, List.getElem?_cons_succ, List.getElem?_cons_zero]; rfl)
    case hsx6b => kernel_rfl
    case hfx6b => kernel_rfl
    case hrx6b => kernel_rfl
    case hQx6b => exact fun _ _ _ h => h
    case hwx6b => rfl
    case hyx6b =>
      intro W hW
      have dd := hcell1 hW.2
      go_simp
      try with_reducible rfl
    simp only [Act.put, List.setIfInBounds_toArray, List.set_cons_succ, List.set_cons_zero]
    refine' wpAnyH_take (i := 8) ?h1x8b ?hsx8b ?hfx8b ?hrx8b ?hQx8b (Or.inl ⟨?hwx8b, ?hyx8b⟩) hS ?restx8b
    case h1x8b => (simp only [List.getElem?_toArray, List.getElem?_cons_succ, List.getElem?_cons_zero]; rfl)
    case hsx8b => kernel_rfl
    case hfx8b => kernel_rfl
    case hrx8b => kernel_rfl
    case hQx8b => exact fun _ _ _ h => h
    case hwx8b => rfl
    case hyx8b =>
      intro W hW
      go_simp
      try with_reducible rfl
    simp only [Act.put, List.setIfInBounds_toArray, List.set_cons_succ, List.set_cons_zero]
    refine' wpAnyH_take (i := 10) ?h1x10b ?hsx10b ?hfx10b ?hrx10b ?hQx10b (Or.inl ⟨?hwx10b, ?hyx10b⟩) hS ?restx10b
    case h1x10b => (simp only [List.getElem?_toArray, List.getElem?_cons_succ, List.getElem?_cons_zero]; rfl)
    case hsx10b => kernel_rfl
    case hfx10b => kernel_rfl
    case hrx10b => kernel_rfl
    case hQx10b => exact fun _ _ _ h => h
    case hwx10b => rfl
    case hyx10b =>
      intro W hW
      go_simp
      try with_reducible rfl
    simp only [Act.put, List.setIfInBounds_toArray, List.set_cons_succ, List.set_cons_zero]
    refine' wpAnyH_take (i := 11) ?h1x11b ?hsx11b ?hfx11b ?hrx11b ?hQx11b (Or.inl ⟨?hwx11b, ?hyx11b⟩) hS ?restx11b
    case h1x11b => (simp only [List.getElem?_toArray, List.getElem?_cons_succ, List.getElem?_cons_zero]; rfl)
    case hsx11b => kernel_rfl
    case hfx11b => kernel_rfl
    case hrx11b => kernel_rfl
    case hQx11b => exact fun _ _ _ h => h
    case hwx11b => rfl
    case hyx11b =>
      intro W hW
      go_simp
      try with_reducible rfl
    simp only [Act.put, List.setIfInBounds_toArray, List.set_cons_succ, List.set_cons_zero]
    refine' wpAnyH_take (i := 12) ?h1x12b ?hsx12b ?hfx12b ?hrx12b ?hQx12b (Or.inl ⟨?hwx12b, ?hyx12b⟩) hS ?restx12b
    case h1x12b => (simp only [List.getElem?_toArray, List.getElem?_cons_succ, List.getElem?_cons_zero]; rfl)
    case hsx12b => kernel_rfl
    case hfx12b => kernel_rfl
    case hrx12b => kernel_rfl
    case hQx12b => exact fun _ _ _ h => h
    case hwx12b => rfl
    case hyx12b =>
      intro W hW
      have dd := hcell3 hW.2
      go_simp
      try with_reducible rfl
    simp only [Act.put, List.setIfInBounds_toArray, List.set_cons_succ, List.set_cons_zero]
    refine' wpAnyH_take (i := 14) ?h1x14b ?hsx14b ?hfx14b ?hrx14b ?hQx14b (Or.inl ⟨?hwx14b, ?hyx14b⟩) hS ?restx14b
    case h1x14b => (simp only [List.getElem?_toArray, List.getElem?_cons_succ, List.getElem?_cons_zero]; rfl)
    case hsx14b => kernel_rfl
    case hfx14b => kernel_rfl
    case hrx14b => kernel_rfl
    case hQx14b => exact fun _ _ _ h => h
    case hwx14b => rfl
    case hyx14b =>
      intro W hW
      go_simp
      try with_reducible rfl
    simp only [Act.put, List.setIfInBounds_toArray, List.set_cons_succ, List.set_cons_zero]
    refine' wpAnyH_take (i := 15) ?h1x15b ?hsx15b ?hfx15b ?hrx15b ?hQx15b (Or.inl ⟨?hwx15b, ?hyx15b⟩) hS ?restx15b
    case h1x15b => (simp only [List.getElem?_toArray, List.getElem?_cons_succ, List.getElem?_cons_zero]; rfl)
    case hsx15b => kernel_rfl
    case hfx15b => kernel_rfl
    case hrx15b => kernel_rfl
    case hQx15b => exact fun _ _ _ h => h
    case hwx15b => rfl
    case hyx15b =>
      intro W hW
      go_simp
      try with_reducible rfl
    simp only [Act.put, List.setIfInBounds_toArray, List.set_cons_succ, List.set_cons_zero]
    refine' wpAnyH_take (i := 16) ?h1x16b ?hsx16b ?hfx16b ?hrx16b ?hQx16b (Or.inl ⟨?hwx16b, ?hyx16b⟩) hS ?restx16b
    case h1x16b => (simp only [List.getElem?_toArray, List.getElem?_cons_succ, List.getElem?_cons_zero]; rfl)
    case hsx16b => kernel_rfl
    case hfx16b => kernel_rfl
    case hrx16b => kernel_rfl
    case hQx16b => exact fun _ _ _ h => h
    case hwx16b => rfl
    case hyx16b =>
      intro W hW
      go_simp
      try with_reducible rfl
    simp only [Act.put, List.setIfInBounds_toArray, List.set_cons_succ, List.set_cons_zero]
    have SM : Hid (Sees W2.drew (.slice (some ⟨w.heap.size, 4, none⟩) 32 32) H.z) := SM.out
    have G5 : Hid (W2.drew.heap[w.heap.size + 1]? = some (.cells (bcells (zs 512)) 74 (0, 0))) := G5.out
    have SZ : w.heap.size + 1 < W2.drew.heap.size := blk_lt G5.out
    refine wpAnyH_ready (rs := [1]) (by kernel_rfl) (by simp) ?_
    refine' AllReadyH.cons ?hoc1b (fun K hK => ?stc1b) AllReadyH.nil
    case hoc1b => (simp only [List.getElem?_toArray, List.getElem?_cons_succ, List.getElem?_cons_zero]; rfl)
    go_simp
    refine (FR.out _).mono ?_
    rintro e wkb1 ⟨ga, rfl, hs, hb, hn⟩
    go_wp2_with fail
    refine hK.out _ _ (⟨hS.1.trans (hb.mono hS.1.size), (hb.block _ (blk_lt hS.2)).trans hS.2⟩) (fun hHeld => ?_)
    clear hK K
    try simp only [Act.put, List.setIfInBounds_toArray, List.set_cons_succ, List.set_cons_zero]
    have Sa := Lib.hid hs
    have Na : ga ≠ w.heap.size + 1 := by omega
    clear hs hn
    have G5 := Lib.hid ((hb.block _ (blk_lt G5.out)).trans G5.out)
    have SM := Lib.hid (SM.out.below hb)
    have SZ := Nat.lt_of_lt_of_le SZ hb.size
    clear hS hb
    have hS := hHeld
    clear hHeld
    refine wpAnyH_ready (rs := [4]) (by kernel_rfl) (by simp) ?_
    refine' AllReadyH.cons ?hoc4b (fun K hK => ?stc4b) AllReadyH.nil
    case hoc4b => (simp only [List.getElem?_toArray, List.getElem?_cons_succ, List.getElem?_cons_zero]; rfl)
    go_simp
    refine (PG.out _).mono ?_
    rintro e wkb2 ⟨gb, rfl, hs, hb, hn⟩
    go_wp2_with fail
    refine hK.out _ _ (⟨hS.1.trans (hb.mono hS.1.size), (hb.block _ (blk_lt hS.2)).trans hS.2⟩) (fun hHeld => ?_)
    clear hK K
    try simp only [Act.put, List.setIfInBounds_toArray, List.set_cons_succ, List.set_cons_zero]
    have Sb := Lib.hid hs
    have Nb : gb ≠ w.heap.size + 1 := by omega
    clear hs hn
    have G5 := Lib.hid ((hb.block _ (blk_lt G5.out)).trans G5.out)
    have SM := Lib.hid (SM.out.below hb)
    have SZ := Nat.lt_of_lt_of_le SZ hb.size
    have Sa := Lib.hid (Sa.out.below hb)
    clear hS hb
    have hS := hHeld
    clear hHeld
    refine wpAnyH_ready (rs := [7]) (by kernel_rfl) (by simp) ?_
    refine' AllReadyH.cons ?hoc7b (fun K hK => ?stc7b) AllReadyH.nil
    case hoc7b => (simp only [List.getElem?_toArray, List.getElem?_cons_succ, List.getElem?_cons_zero]; rfl)
    go_simp
    refine (PE.out _).mono ?_
    rintro e wkb3 ⟨gc, rfl, hs, hb, hn⟩
    go_wp2_with fail
    refine hK.out _ _ (⟨hS.1.trans (hb.mono hS.1.size), (hb.block _ (blk_lt hS.2)).trans hS.2⟩) (fun hHeld => ?_)
    clear hK K
    try simp only [Act.put, List.setIfInBounds_toArray, List.set_cons_succ, List.set_cons_zero]
    have Sc := Lib.hid hs
    have Nc : gc ≠ w.heap.size + 1 := by omega
    clear hs hn
    have G5 := Lib.hid ((hb.block _ (blk_lt G5.out)).trans G5.out)
    have SM := Lib.hid (SM.out.below hb)
    have SZ := Nat.lt_of_lt_of_le SZ hb.size
    have Sa := Lib.hid (Sa.out.below hb)
    have Sb := Lib.hid (Sb.out.below hb)
    clear hS hb
    have hS := hHeld
    clear hHeld
    refine wpAnyH_ready (rs := [9]) (by kernel_rfl) (by simp) ?_
    refine' AllReadyH.cons ?hoc9b (fun K hK => ?stc9b) AllReadyH.nil
    case hoc9b => (simp only [List.getElem?_toArray, List.getElem?_cons_succ, List.getElem?_cons_zero]; rfl)
    go_simp
    refine (PH.out _).mono ?_
    rintro e wkb4 ⟨gd, rfl, hs, hb, hn⟩
    go_wp2_with fail
    refine hK.out _ _ (⟨hS.1.trans (hb.mono hS.1.size), (hb.block _ (blk_lt hS.2)).trans hS.2⟩) (fun hHeld => ?_)
    clear hK K
    try simp only [Act.put, List.setIfInBounds_toArray, List.set_cons_succ, List.set_cons_zero]
    have Sd := Lib.hid hs
    have Nd : gd ≠ w.heap.size + 1 := by omega
    clear hs hn
    have G5 := Lib.hid ((hb.block _ (blk_lt G5.out)).trans G5.out)
    have SM := Lib.hid (SM.out.below hb)
    have SZ := Nat.lt_of_lt_of_le SZ hb.size
    have Sa := Lib.hid (Sa.out.below hb)
    have Sb := Lib.hid (Sb.out.below hb)
    have Sc := Lib.hid (Sc.out.below hb)
    clear hS hb
    have hS := hHeld
    clear hHeld
    refine wpAnyH_ready (rs := [13]) (by kernel_rfl) (by simp) ?_
    refine' AllReadyH.cons ?hoc13b (fun K hK => ?stc13b) AllReadyH.nil
    case hoc13b => (simp only [List.getElem?_toArray, List.getElem?_cons_succ, List.getElem?_cons_zero]; rfl)
    go_simp
    refine (PR.out _).mono ?_
    rintro e wkb5 ⟨gf, rfl, hs, hb, hn⟩
    go_wp2_with fail
    refine hK.out _ _ (⟨hS.1.trans (hb.mono hS.1.size), (hb.block _ (blk_lt hS.2)).trans hS.2⟩) (fun hHeld => ?_)
    clear hK K
    try simp only [Act.put, List.setIfInBounds_toArray, List.set_cons_succ, List.set_cons_zero]
    have Sf := Lib.hid hs
    have Nf : gf ≠ w.heap.size + 1 := by omega
    clear hs hn
    have G5 := Lib.hid ((hb.block _ (blk_lt G5.out)).trans G5.out)
    have SM := Lib.hid (SM.out.below hb)
    have SZ := Nat.lt_of_lt_of_le SZ hb.size
    have Sa := Lib.hid (Sa.out.below hb)
    have Sb := Lib.hid (Sb.out.below hb)
    have Sc := Lib.hid (Sc.out.below hb)
    have Sd := Lib.hid (Sd.out.below hb)
    clear hS hb
    have hS := hHeld
    clear hHeld
    refine wpAnyH_ready (rs := [17]) (by kernel_rfl) (by simp) ?_
    refine' AllReadyH.cons ?hoc17b (fun K hK => ?stc17b) AllReadyH.nil
    case hoc17b => (simp only [List.getElem?_toArray, List.getElem?_cons_succ, List.getElem?_cons_zero]; rfl)
    go_simp
    have hb : Below wkb5.heap.size wkb5 (wkb5.alloc (.cells #[.slice (some ⟨ga, 0, none⟩) 8 8, .slice (some ⟨gb, 0, none⟩) 8 8, .slice (some ⟨gc, 0, none⟩) 8 8, .slice (some ⟨gd, 0, none⟩) 8 8, .slice (some ⟨gf, 0, none⟩) 4 4, .slice (some ⟨w.heap.size, 4, none⟩) 32 32] 30)) := (Below.refl _ _).alloc (Nat.le_refl _) _
    refine hK.out _ _ (⟨hS.1.trans (hb.mono hS.1.size), (hb.block _ (blk_lt hS.2)).trans hS.2⟩) (fun hHeld => ?_)
    clear hK K
    try simp only [Act.put, List.setIfInBounds_toArray, List.set_cons_succ, List.set_cons_zero]
    have GP := Lib.hid (heap_alloc_new wkb5 (.cells #[.slice (some ⟨ga, 0, none⟩) 8 8, .slice (some ⟨gb, 0, none⟩) 8 8, .slice (some ⟨gc, 0, none⟩) 8 8, .slice (some ⟨gd, 0, none⟩) 8 8, .slice (some ⟨gf, 0, none⟩) 4 4, .slice (some ⟨w.heap.size, 4, none⟩) 32 32] 30))
    have NP : wkb5.heap.size ≠ w.heap.size + 1 := by omega
    have G5 := Lib.hid ((hb.block _ (blk_lt G5.out)).trans G5.out)
    have SM := Lib.hid (SM.out.below hb)
    have SZ := Nat.lt_of_lt_of_le SZ hb.size
    have Sa := Lib.hid (Sa.out.below hb)
    have Sb := Lib.hid (Sb.out.below hb)
    have Sc := Lib.hid (Sc.out.below hb)
    have Sd := Lib.hid (Sd.out.below hb)
    have Sf := Lib.hid (Sf.out.below hb)
    generalize wkb5.alloc (.cells #[.slice (some ⟨ga, 0, none⟩) 8 8, .slice (some ⟨gb, 0, none⟩) 8 8, .slice (some ⟨gc, 0, none⟩) 8 8, .slice (some ⟨gd, 0, none⟩) 8 8, .slice (some ⟨gf, 0, none⟩) 4 4, .slice (some ⟨w.heap.size, 4, none⟩) 32 32] 30) = wkb6 at *
    clear hS hb
    have hS := hHeld
    clear hHeld
    generalize wkb5.heap.size = gwkb6 at *
    have PX := Lib.hid (PSF.out _ _ _ _ _ _ _ _ _ rfl GP.out NP (fun v p hvp => by
      simp only [List.mem_cons, Prod.mk.injEq, List.not_mem_nil, or_false] at hvp
      rcases hvp with ⟨rfl, rfl⟩ | ⟨rfl, rfl⟩ | ⟨rfl, rfl⟩ | ⟨rfl, rfl⟩ | ⟨rfl, rfl⟩ | ⟨rfl, rfl⟩
      · exact ⟨Sa.out, by simpa [Value.ownBlock] using Na⟩
      · exact ⟨Sb.out, by simpa [Value.ownBlock] using Nb⟩
      · exact ⟨Sc.out, by simpa [Value.ownBlock] using Nc⟩
      · exact ⟨Sd.out, by simpa [Value.ownBlock] using Nd⟩
      · exact ⟨Sf.out, by simpa [Value.ownBlock] using Nf⟩
      · exact ⟨SM.out, by simp [Value.ownBlock]⟩))
    refine wpAnyH_ready (rs := [18]) (by kernel_rfl) (by simp) ?_
    refine' AllReadyH.cons ?hoc18b (fun K hK => ?stc18b) AllReadyH.nil
    case hoc18b => (simp only [List.getElem?_toArray, List.getElem?_cons_succ, List.getElem?_cons_zero]; rfl)
    go_simp
    refine (JO.out _ _ G5.out PX.out).mono ?_
    rintro e wl ⟨⟨r, rfl⟩, rfl⟩
    go_wp2_with fail
    refine hK.out _ _ ⟨hS.1.trans (below_row _ _ (by omega)), (setRow_other _ _ _ _ (by omega)).trans hS.2⟩ (fun hHeld => ?_)
    clear hK K
    try simp only [Act.put, List.setIfInBounds_toArray, List.set_cons_succ, List.set_cons_zero]
    have GE : Hid ((wkb6.setRow (w.heap.size + 1) (bcells (hW H))).heap[w.heap.size + 1]? = some (.cells (bcells (hW H)) 74 (0, 0))) := setRow_heap _ _ _ _ _ _ G5.out
    clear hS
    have hS := hHeld
    clear hHeld
    refine wpAnyH_done (by kernel_rfl) ?_ _
    go_wp2_with fail
    go_ret2
    exact YES.out _ hS.1 GE.out
theorem writeH (H : Hd) (hk : H.ok) (w : World) : Calls Try.prog 12 #[.agg (hcells H)] w (WriteHP w H) := by
  by_cases hm : H.may
  · exact writeH_yes H hk hm w
  · exact writeH_no H hk hm w
end Go.Proofs.Ytplffbpnjnbolaa
