/-
  Words and plain lemmas of this seat: noughts; rows of bytes in memory; arrays and structs of bytes compared; operations whose run is known; parts of a row. No condition.
-/
import Derived.Test.YtabopcfhonkecaaReadsA
import Derived.Test.YtabopcfhonkecaaL
import Derived.Deep.RegionHeld3
import Derived.StillTailTactics
import Derived.OwnWalk
import Derived.Stop.BytesEq
import Derived.IntWalk
namespace Go.Proofs.Ytabopcfhonkecaa
open Go.ChangeShapes Go.WideShapes Go.ChangeAt Go.RowKit Go.Extern.Stop
/-- n noughts. -/
def zs (n : Nat) : List Int := List.replicate n 0
theorem zs_len (n : Nat) : (zs n).length = n := by simp [zs]
theorem zs_byt (n : Nat) : Byt (zs n) := fun x h => by rw [zs, List.mem_replicate] at h; omega
theorem zs_drop (n k : Nat) : (zs n).drop k = zs (n - k) := by simp [zs]
theorem zs_take (n k : Nat) (h : k ≤ n) : (zs n).take k = zs k := by simp [zs, List.take_replicate, Nat.min_eq_left h]
theorem zs_add (n k : Nat) : zs n ++ zs k = zs (n + k) := by simp [zs]
theorem alloc_setRowT (w : World) (o cs : Array Value) (t : TypeId) (g : Nat) (hg : w.heap.size = g) : (w.alloc (.cells o t)).setRow g cs = w.alloc (.cells cs t) := by
  subst hg
  cases w with
  | mk heap tape drawn os output =>
    simp only [World.setRow, World.alloc]
    congr 1
    apply Array.ext
    · simp
    · intro k h1 h2
      simp only [Array.getElem_modify, Array.getElem_push]
      split
      · rename_i hk; subst hk; simp
      · rename_i hk
        have : k < heap.size := by simp at h1; omega
        simp [this]
/-- A call of copy whose run is known, in a plain region. -/
theorem wpList_copy_run {ops : Array Oper} {rest : List Oper} {o : Oper} {a : Act} {w : World} {Q : Exit → Act → World → Prop} (hgd : o.guard = none) (s x : Operand)
    (ho : o.op = .call { callee := .builtin .copy, args := #[s, x], argTypes := #[23, 23] }) (hty : o.type = 3) {v u v' : Value} {w' : World} (hs : a.eval s = v) (hx : a.eval x = u)
    (hr : (Builtin.copy_ #[23, 23] 3 #[v, u]).run Try.prog w = .ok v' w') (h : wpList Try.prog ops Q rest (a.put o.dst v') w') : wpList Try.prog ops Q (o :: rest) a w := by
  refine wpList_plain hgd fun K hK => ?_
  unfold Oper.wp execOp
  simp only [ho, hty, resolve, invoke, builtin, Sem.run_bind, Sem.run_pure, Result.andThen_ok, List.map_toArray, List.map_cons, List.map_nil, hs, hx, hr]
  exact hK _ _ h
theorem blk_lt {w : World} {g : Nat} {o : Obj} (h : w.heap[g]? = some o) : g < w.heap.size := (Array.getElem?_eq_some_iff.1 h).1
theorem below_row {B g : Nat} (w : World) (cs : Array Value) (hg : B ≤ g) : Below B w (w.setRow g cs) :=
  ⟨rfl, rfl, rfl, by simp, fun k hk => setRow_other w g k cs (by omega)⟩
theorem bcells_append (xs ys : List Int) : bcells (xs ++ ys) = bcells xs ++ bcells ys := by simp [bcells]
theorem bcells_toList (xs : List Int) : (bcells xs).toList = xs.map (Value.int .u8) := by simp [bcells]
theorem bcells_size (xs : List Int) : (bcells xs).size = xs.length := by simp [bcells]
/-- A part of a row of bytes, copied to a place of the newest row. -/
theorem cpy (W1 : World) (t : TypeId) (L ys : List Int) (g o dl dc : Nat) (a : Addr) (sl sc : Nat) (hg : W1.heap.size = g) (hn : ys.length = Nat.min sl dl)
    (hsrc : ∀ j, j < ys.length → (W1.alloc (.cells (bcells L) t)).cell? (a.add j) = some (.int .u8 (nth ys j))) (hfit : o + ys.length ≤ L.length) :
    (Builtin.copy_ #[23, 23] 3 #[.slice (some ⟨g, o, none⟩) dl dc, .slice (some a) sl sc]).run Try.prog (W1.alloc (.cells (bcells L) t)) =
      .ok (.int .i64 ys.length) (W1.alloc (.cells (bcells (L.take o ++ ys ++ L.drop (o + ys.length))) t)) := by
  have hl : ((ys.map (Value.int .u8))).length = ys.length := by simp
  rw [run_copy_row Try.prog _ 23 23 3 5 g o dl dc a sl sc (bcells L) t (ys.map (Value.int .u8)) Try.underlying23 info5s (by subst hg; exact heap_alloc_new W1 _)
    (by rw [hl]; exact hn) (fun j u hj => by
      have hjl : j < ys.length := by
        rcases Nat.lt_or_ge j ys.length with h | h
        · exact h
        · simp [List.getElem?_eq_none (show (ys.map (Value.int .u8)).length ≤ j by simpa using h)] at hj
      rw [hsrc j hjl, ← hj]
      simp [nth, List.getD, hjl]) (by rw [hl, bcells_size]; exact hfit) (by simp [Value.oneCell'])]
  rw [alloc_setRowT _ _ _ _ _ hg]
  simp [bcells, goInt, List.map_take, List.map_drop]
theorem sees_rowT (w : World) (g : Nat) (t : TypeId) (xs : List Int) (hb : Byt xs) (hm : xs.length ≤ maxLen) (h : w.heap[g]? = some (.cells (bcells xs) t (0, 0))) (n : Nat) (hn : n = xs.length) : Sees w (.slice (some ⟨g, 0, none⟩) n n) xs := by
  subst hn
  refine ⟨hb, ?_⟩
  by_cases h0 : xs = []
  · subst h0; exact .inr (.inl ⟨_, _, rfl, rfl, by simp [maxLen]⟩)
  · refine .inr (.inr ⟨_, _, _, rfl, h0, Nat.le_refl _, hm, fun i hi => ?_⟩)
    rw [cell_of_row _ _ _ _ _ _ h]
    simp [bcells, nth, hi, List.getD]
/-- The cells of a part of a row of bytes. -/
theorem part_cell (W : World) (b : Nat) (t : TypeId) (xs : List Int) (hb : W.heap[b]? = some (.cells (bcells xs) t (0, 0))) (o n : Nat) (ho : o + n ≤ xs.length) (j : Nat) (hj : j < ((xs.drop o).take n).length) :
    W.cell? ((⟨b, o, none⟩ : Addr).add j) = some (.int .u8 (nth ((xs.drop o).take n) j)) := by
  have hplain : (⟨b, o, none⟩ : Addr).add j = ⟨b, o + j, none⟩ := by unfold Addr.add; split <;> simp_all
  have hjn : j < n := by simp at hj; omega
  have hlt : o + j < xs.length := by omega
  rw [hplain, cell_of_row _ _ _ _ _ _ hb]
  simp [bcells, nth, List.getD, List.getElem?_take_of_lt hjn, List.getElem?_drop, hlt]
theorem part_len (xs : List Int) (o n : Nat) (h : o + n ≤ xs.length) : ((xs.drop o).take n).length = n := by simp; omega
/-- A part of a row is put into place. -/
theorem put_at (a c d p : List Int) (o n : Nat) (ha : a.length = o) (hc : c.length = n) (hp : p.length = n) : (a ++ (c ++ d)).take o ++ p ++ (a ++ (c ++ d)).drop (o + n) = (a ++ p) ++ d := by
  subst ha hc
  rw [List.take_left, ← List.append_assoc a c d, List.drop_left' (by simp)]
theorem results_cell_tmp {P : Program} {fn : Func} {p q : Tmp} {ty : TypeId} (h : fn.results = #[.cell p ty, .tmp q]) (tmps : Array Value) (w : World) (g : Nat) (t : TypeId) (cs : Array Value) (fr : Nat × Nat) (d : TypeDesc)
    (hp : tmps.getD p undef = .pointer (some ⟨g, 0, none⟩)) (hg : w.heap[g]? = some (.cells cs t fr))
    (hu : P.underlying ty = some d) (hd : (match d with | .struct _ | .array _ _ => true | _ => false) = true) (hi : (P.info? ty).map (·.size) = some cs.size) :
    (results fn tmps).run P w = .ok (.tuple #[.agg cs, tmps.getD q undef]) w := by
  have hp' : tmps[p]?.getD undef = .pointer (some ⟨g, 0, none⟩) := by simpa using hp
  simp [results, h, hp', asAddr, run_loadVar_row w g t ty cs fr d hg hu hd hi]
theorem one_cells (xs : List Int) : (bcells xs).all (·.oneCell') = true := by simp [bcells, Value.oneCell']
theorem bcells_sz {xs ys : List Int} (h : xs.length = ys.length) : (bcells xs).size = (bcells ys).size := by rw [bcells_size, bcells_size, h]
/-- The cells of a part of a slice. -/
theorem part_sees (W : World) (b o : Nat) (xs : List Int) (hc : ∀ i, i < xs.length → W.cell? ⟨b, o + i, none⟩ = some (.int .u8 (nth xs i))) (p n : Nat) (ho : p + n ≤ xs.length) (j : Nat) (hj : j < ((xs.drop p).take n).length) :
    W.cell? ((⟨b, o + p, none⟩ : Addr).add j) = some (.int .u8 (nth ((xs.drop p).take n) j)) := by
  have hplain : (⟨b, o + p, none⟩ : Addr).add j = ⟨b, o + p + j, none⟩ := by unfold Addr.add; split <;> simp_all
  have hjn : j < n := by simp at hj; omega
  have hlt : p + j < xs.length := by omega
  rw [hplain, Nat.add_assoc, hc _ hlt]
  simp [nth, List.getD, List.getElem?_take_of_lt hjn, List.getElem?_drop]
theorem cells_tob (xs : List Int) (h : Byt xs) : bcells xs = ((tob xs).map Extern.Stop.cell).toArray := by
  unfold bcells tob
  rw [List.map_map]
  congr 1
  apply List.map_congr_left
  intro x hx
  have := h x hx
  simp only [Function.comp_def, Extern.Stop.cell]
  congr 1
  simp
  omega
theorem eqBytes (d : Nat) (t : TypeId) (n : Nat) (ht : Try.prog.underlying t = some (.array n 5)) (xs ys : List Int) (hx : Byt xs) (hy : Byt ys) (lx : xs.length = n) (ly : ys.length = n) (w : World) :
    (Op.equalIn (d + 2) t (.agg (bcells xs)) (.agg (bcells ys))).run Try.prog w = .ok (decide (xs = ys)) w := by
  have h := run_equalIn_bytes (P := Try.prog) w d t 5 n ht Try.underlying5 (fun _ => by kernel_rfl) (tob xs) (tob ys) (by simp [tob, lx]) (by simp [tob, ly])
  rw [← cells_tob xs hx, ← cells_tob ys hy] at h
  have hb : (tob xs == tob ys) = decide (xs = ys) := by
    by_cases e : xs = ys
    · subst e; simp
    · have : tob xs ≠ tob ys := fun h => e (tob_inj hx hy h)
      simp [e, this]
  rw [h, hb]
theorem part_arr (t : TypeId) (n : Nat) (ht : Try.prog.underlying t = some (.array n 5)) (hi : (Try.prog.info? t).map (·.size) = some n) (xs : List Int) (o : Nat) (w : World) :
    (part t (bcells xs) o).run Try.prog w = .ok (.agg (bcells ((xs.drop o).take n))) w := by
  cases hq : Try.prog.info? t with
  | none => simp [hq] at hi
  | some i =>
    have hs : i.size = n := by simpa [hq] using hi
    simp [part, isAgg, run_underlying ht, sizeOf, typeInfo, hq, hs, bcells, List.map_take, List.map_drop]
theorem fields_cons {l : List Field} {b : Bool} {ty off : Nat} {r : List (Bool × Nat × Nat)} (h : l.map (fun f => (decide (f.name ≠ "_"), f.type, f.offset)) = (b, ty, off) :: r) :
    ∃ f fs, l = f :: fs ∧ decide (f.name ≠ "_") = b ∧ f.type = ty ∧ f.offset = off ∧ fs.map (fun f => (decide (f.name ≠ "_"), f.type, f.offset)) = r := by
  cases l with
  | nil => simp at h
  | cons f fs =>
    simp only [List.map_cons, List.cons.injEq, Prod.mk.injEq] at h
    exact ⟨f, fs, rfl, h.1.1, h.1.2.1, h.1.2.2, h.2⟩
theorem eqFields_nil (P : Program) (d : Nat) (X Y : Array Value) (w : World) : (Op.eqFields d X Y []).run P w = .ok true w := rfl
theorem eqFields_arr (d : Nat) (t : TypeId) (n o : Nat) (ht : Try.prog.underlying t = some (.array n 5)) (hi : (Try.prog.info? t).map (·.size) = some n) (xs ys : List Int) (hx : Byt xs) (hy : Byt ys) (lx : o + n ≤ xs.length) (ly : o + n ≤ ys.length)
    (f : Field) (fs : List Field) (h1 : decide (f.name ≠ "_") = true) (h2 : f.type = t) (h3 : f.offset = o) (q : Bool) (w : World) (h : (Op.eqFields (d + 2) (bcells xs) (bcells ys) fs).run Try.prog w = .ok q w) :
    (Op.eqFields (d + 2) (bcells xs) (bcells ys) (f :: fs)).run Try.prog w = .ok (decide ((xs.drop o).take n = (ys.drop o).take n) && q) w := by
  have e1 := part_arr t n ht hi xs o w
  have e2 := part_arr t n ht hi ys o w
  have e3 := eqBytes d t n ht _ _ ((hx.drop o).take n) ((hy.drop o).take n) (part_len xs o n lx) (part_len ys o n ly) w
  have h1' : f.name ≠ "_" := of_decide_eq_true h1
  subst h2 h3
  simp only [Op.eqFields, Sem.run_ite, Sem.run_bind, e1, e2, e3, Result.andThen_ok]
  rw [if_pos h1']
  cases decide (List.take n (List.drop f.offset xs) = List.take n (List.drop f.offset ys)) <;> simp [h]
theorem yieldsIf_load_at {P : Program} {ops : Array Oper} {S : World → Prop} {op : Oper} {a : Act} (hw : Region.wanted op (yielded ops a.tmps) = true) (ty : TypeId) (x : Operand) (ho : op.op = .load ty x)
    (b o : Nat) (hx : a.eval x = .pointer (some ⟨b, o, none⟩)) (cs : Array Value) (d : TypeDesc) (hS : ∀ w, S w → w.rangeAt b o cs.toList)
    (hu : P.underlying ty = some d) (hd : d.isRow = true) (hi : (P.info? ty).map (·.size) = some cs.size) : YieldsIf P ops S op (.agg cs) a :=
  yieldsIf_load_mid hw ty x ho b o hx cs.toList d hS hu hd (by rw [Array.length_toList]; exact hi)
theorem range_row {W : World} {g : Nat} {c : Array Value} {t : TypeId} {fr : Nat × Nat} (h : W.heap[g]? = some (.cells c t fr)) : W.rangeAt g 0 c.toList := fun j v hv => by
  rw [Nat.zero_add, cell_of_row _ _ _ _ _ _ h, ← hv]; simp
theorem own_row (w : World) (base : Nat) (xs : List Int) (hb : Byt xs) (hm : xs.length ≤ maxLen) (hs : base ≤ w.heap.size) (n : Nat) (hn : n = xs.length) : Own (w.alloc (.cells (bcells xs) 5)) base (.slice (some ⟨w.heap.size, 0, none⟩) n n) xs := by
  subst hn
  exact ⟨hb, by simp, .inr ⟨w.heap.size, xs.length, bcells xs, rfl, hs, heap_alloc_new w _, Nat.le_refl _, hm, by simp [bcells], by rw [Nat.mul_one, bcells_toList, List.take_of_length_le (by simp)]⟩⟩
/-- A part of a row, as a slice. -/
theorem sees_part (W : World) (g : Nat) (t : TypeId) (xs : List Int) (hx : Byt xs) (hg : W.heap[g]? = some (.cells (bcells xs) t (0, 0))) (o n c : Nat) (ho : o + n ≤ xs.length) (hn : n ≠ 0) (hc : n ≤ c) (hm : c ≤ maxLen) :
    Sees W (.slice (some ⟨g, o, none⟩) n c) ((xs.drop o).take n) := by
  have hl := part_len xs o n ho
  refine ⟨(hx.drop o).take n, .inr (.inr ⟨g, o, c, by rw [hl], fun e => hn (by rw [← hl, e]; rfl), by rw [hl]; exact hc, hm, fun i hi => ?_⟩)⟩
  have := part_cell W g t xs hg o n ho i hi
  have hplain : (⟨g, o, none⟩ : Addr).add i = ⟨g, o + i, none⟩ := by unfold Addr.add; split <;> simp_all
  rwa [hplain] at this
theorem Sees.cell {w : World} {g o n c : Nat} {xs : List Int} (h : Sees w (.slice (some ⟨g, o, none⟩) n c) xs) (i : Nat) (hi : i < xs.length) : w.cell? ⟨g, o + i, none⟩ = some (.int .u8 (nth xs i)) := by
  obtain ⟨_, ⟨h1, _⟩ | ⟨a, c', h1, h2, _⟩ | ⟨b, o', c', h1, _, _, _, h2⟩⟩ := h
  · simp at h1
  · subst h2; simp at hi
  · simp only [Value.slice.injEq, Option.some.injEq, Addr.mk.injEq] at h1
    obtain ⟨⟨rfl, rfl, _⟩, _, rfl⟩ := h1
    exact h2 i hi
/-- A struct or an array that is built of known parts, in a plain region. -/
theorem wpList_build_run {ops : Array Oper} {rest : List Oper} {o : Oper} {a : Act} {w : World} {Q : Exit → Act → World → Prop} (hgd : o.guard = none) (t : TypeId) (i : Nat) (x : Operand)
    (ho : o.op = .build t #[(i, x)]) {u v : Value} (hx : a.eval x = u)
    (hr : (Instr.build t #[(i, u)]).run Try.prog w = .ok v w) (h : wpList Try.prog ops Q rest (a.put o.dst v) w) : wpList Try.prog ops Q (o :: rest) a w := by
  refine wpList_plain hgd fun K hK => ?_
  unfold Oper.wp execOp
  simp only [ho, Sem.run_bind, Sem.run_pure, Result.andThen_ok, List.map_toArray, List.map_cons, List.map_nil, hx, hr]
  exact hK _ _ h
/-- The same where a guard is met. -/
theorem wpList_wanted {ops : Array Oper} {rest : List Oper} {o : Oper} {a : Act} {w : World} {Q : Exit → Act → World → Prop} (hw : Region.wanted o (yielded ops a.tmps) = true)
    (h : ∀ K : Act → World → Prop, (∀ a w, wpList Try.prog ops Q rest a w → K a w) → o.wp Try.prog a w K Q) : wpList Try.prog ops Q (o :: rest) a w :=
  wpList_step fun K hK => by rw [if_pos hw]; exact h K hK
theorem wpList_load_met {ops : Array Oper} {rest : List Oper} {o : Oper} {a : Act} {w : World} {Q : Exit → Act → World → Prop} (hw : Region.wanted o (yielded ops a.tmps) = true) (ty : TypeId) (x : Operand) (ho : o.op = .load ty x)
    (g : Nat) (hx : a.eval x = .pointer (some ⟨g, 0, none⟩)) (t : TypeId) (cs : Array Value) (fr : Nat × Nat) (d : TypeDesc) (hg : w.heap[g]? = some (.cells cs t fr))
    (hu : Try.prog.underlying ty = some d) (hd : ∃ fs, d = .struct fs) (hi : (Try.prog.info? ty).map (·.size) = some cs.size)
    (h : wpList Try.prog ops Q rest (a.put o.dst (.agg cs)) w) : wpList Try.prog ops Q (o :: rest) a w := by
  obtain ⟨fs, rfl⟩ := hd
  exact wpList_wanted hw fun _ hK => wp_load_row ty x ho g hx t cs fr _ hg hu rfl hi (hK _ _ h)
theorem wpList_build_met {ops : Array Oper} {rest : List Oper} {o : Oper} {a : Act} {w : World} {Q : Exit → Act → World → Prop} (hw : Region.wanted o (yielded ops a.tmps) = true) (t : TypeId) (i : Nat) (x : Operand)
    (ho : o.op = .build t #[(i, x)]) {u v : Value} (hx : a.eval x = u)
    (hr : (Instr.build t #[(i, u)]).run Try.prog w = .ok v w) (h : wpList Try.prog ops Q rest (a.put o.dst v) w) : wpList Try.prog ops Q (o :: rest) a w := by
  refine wpList_wanted hw fun K hK => ?_
  unfold Oper.wp execOp
  simp only [ho, Sem.run_bind, Sem.run_pure, Result.andThen_ok, List.map_toArray, List.map_cons, List.map_nil, hx, hr]
  exact hK _ _ h
def numOf : Value → Int
  | .int _ z => z
  | _ => 0
theorem trod_bytes {H : Type} {enc : TypeId × Value → H} {w : World} {base : Nat} {t : TypeId} {n fuel : Nat} {cs : List Value} {x : DataW H × List MemPlace} (ht : Try.prog.underlying t = some (.array n 5)) (hn : Try.prog.cellsOf t = n)
    (h : DataW.trod enc Try.prog w base (fun _ => true) true fuel t cs = some x) : ∃ ys : List Int, Byt ys ∧ ys.length = n ∧ cs = ys.map (Value.int .u8) := by
  obtain ⟨xs, m, _, _, hl, hxl, hel⟩ := DataW.trod_array ht h
  rw [cells5] at hel
  rw [hn] at hl
  have hc : ∀ i (hi : i < cs.length), ∃ z : Int, (0 ≤ z ∧ z ≤ 255) ∧ cs[i] = .int .u8 z := fun i hi => by
    have h := hel i (by omega)
    have hx : xs[i]? = some xs[i] := List.getElem?_eq_getElem (by omega)
    rw [hx] at h
    obtain ⟨z, hz, _, hw⟩ := DataW.trod_int Try.underlying5 h
    refine ⟨z, bounds_u8 hw, ?_⟩
    rw [Nat.mul_one, List.drop_eq_getElem_cons hi, List.take_succ_cons, List.take_zero] at hz
    exact (List.cons.inj hz).1
  refine ⟨cs.map numOf, fun y hy => ?_, by simp [hl], ?_⟩
  · obtain ⟨v, hv, rfl⟩ := List.mem_map.1 hy
    obtain ⟨i, hi, rfl⟩ := List.getElem_of_mem hv
    obtain ⟨z, hz, e⟩ := hc i hi
    rw [e]; exact hz
  · apply List.ext_getElem
    · simp
    · intro i h1 h2
      obtain ⟨z, hz, e⟩ := hc i h1
      simp [e, numOf]
theorem wpAnyH_mono {P : Program} {ops : Array Oper} {Q : Exit → Act → World → Prop} {md : Region.Mode} {S S' : World → Prop} (hS : ∀ w, S' w → S w) : ∀ (fuel : Nat) (listed : Array Bool) (a : Act) (w : World), wpAnyH P md ops Q S' fuel listed a w → wpAnyH P md ops Q S fuel listed a w
  | 0, _, _, _, h => h
  | fuel + 1, _, _, _, h => ⟨h.1, fun i hi => wpOp_mono (fun a' w' h' => ⟨hS _ h'.1, wpAnyH_mono hS fuel _ a' w' h'.2⟩) (h.2 i hi)⟩
/-- A slice of slices of bytes in memory, apart from block g. -/
def PS (w : World) (pv : Value) (P : List (List Int)) (g : Nat) : Prop :=
  ∃ b o c, pv = .slice (some ⟨b, o, none⟩) P.length c ∧ P.length ≤ 100 ∧
    ∀ i p, P[i]? = some p → ∃ bx ox c', w.cell? ⟨b, o + i, none⟩ = some (.slice (some ⟨bx, ox, none⟩) p.length c') ∧ b ≠ g ∧ bx ≠ g ∧ ∀ j, j < p.length → w.cell? ⟨bx, ox + j, none⟩ = some (.int .u8 (nth p j))
/-- What stands in the row behind k parts. -/
def FP (P : List (List Int)) (k : Nat) : List Int := (P.take k).flatten
def JP (L : List Int) (P : List (List Int)) (k : Nat) : List Int := FP P k ++ L.drop (FP P k).length
theorem FP_succ (P : List (List Int)) (k : Nat) (p : List Int) (h : P[k]? = some p) : FP P (k + 1) = FP P k ++ p := by
  obtain ⟨hk, rfl⟩ := List.getElem?_eq_some_iff.1 h
  unfold FP
  rw [List.take_succ_eq_append_getElem hk, List.flatten_append]
  exact congrArg _ (by simp)
theorem FP_le (P : List (List Int)) (k : Nat) : (FP P k).length ≤ P.flatten.length := by
  have h : P.flatten = FP P k ++ (P.drop k).flatten := by
    unfold FP
    rw [← List.flatten_append, List.take_append_drop]
  rw [h, List.length_append]; omega
theorem FP_all (P : List (List Int)) : FP P P.length = P.flatten := by simp [FP]
theorem JP_step (L : List Int) (P : List (List Int)) (k : Nat) (p : List Int) (h : P[k]? = some p) :
    (JP L P k).take (FP P k).length ++ p ++ (JP L P k).drop ((FP P k).length + p.length) = JP L P (k + 1) := by
  unfold JP
  rw [FP_succ P k p h, List.take_left, ← List.drop_drop, List.drop_left, List.drop_drop, List.length_append]
theorem JP_len (L : List Int) (P : List (List Int)) (k : Nat) (h : (FP P k).length ≤ L.length) : (JP L P k).length = L.length := by
  unfold JP
  rw [List.length_append, List.length_drop]; omega
/-- Two roots are compared as they read. -/
theorem part_int (t : TypeId) (k : IntKind) (hu : Try.prog.underlying t = some (.int k)) (X : Array Value) (o : Nat) (v : Value) (hx : X[o]? = some v) (w : World) : (part t X o).run Try.prog w = .ok v w := by
  simp [part, isAgg, run_underlying hu, hx]
theorem eqFields_int (d : Nat) (t : TypeId) (k : IntKind) (o : Nat) (hu : Try.prog.underlying t = some (.int k)) (X Y : Array Value) (a b : Int) (hx : X[o]? = some (.int k a)) (hy : Y[o]? = some (.int k b))
    (f : Field) (fs : List Field) (h1 : decide (f.name ≠ "_") = true) (h2 : f.type = t) (h3 : f.offset = o) (q : Bool) (w : World) (h : (Op.eqFields (d + 1) X Y fs).run Try.prog w = .ok q w) :
    (Op.eqFields (d + 1) X Y (f :: fs)).run Try.prog w = .ok (decide (a = b) && q) w := by
  have e1 := part_int t k hu X o _ hx w
  have e2 := part_int t k hu Y o _ hy w
  have e3 := run_equalIn_int (P := Try.prog) w d t k k a b hu
  have h1' : f.name ≠ "_" := of_decide_eq_true h1
  subst h2 h3
  simp only [Op.eqFields, Sem.run_ite, Sem.run_bind, e1, e2, e3, Result.andThen_ok]
  rw [if_pos h1']
  have hd : (a == b) = decide (a = b) := rfl
  rw [hd]
  cases decide (a = b) <;> simp [h]
theorem part_arr' (t : TypeId) (n : Nat) (ht : Try.prog.underlying t = some (.array n 5)) (hi : (Try.prog.info? t).map (·.size) = some n) (X : Array Value) (o : Nat) (ys : List Int) (hX : (X.toList.drop o).take n = ys.map (Value.int .u8)) (w : World) :
    (part t X o).run Try.prog w = .ok (.agg (bcells ys)) w := by
  have e : X.extract o (o + n) = bcells ys := by
    apply Array.ext'
    rw [bcells_toList, ← hX]
    simp
  cases hq : Try.prog.info? t with
  | none => simp [hq] at hi
  | some i =>
    have hs : i.size = n := by simpa [hq] using hi
    simp [part, isAgg, run_underlying ht, sizeOf, typeInfo, hq, hs, e]
theorem eqFields_arr' (d : Nat) (t : TypeId) (n o : Nat) (ht : Try.prog.underlying t = some (.array n 5)) (hi : (Try.prog.info? t).map (·.size) = some n) (X Y : Array Value) (xs ys : List Int) (hX : (X.toList.drop o).take n = xs.map (Value.int .u8)) (hY : (Y.toList.drop o).take n = ys.map (Value.int .u8))
    (hx : Byt xs) (hy : Byt ys) (lx : xs.length = n) (ly : ys.length = n)
    (f : Field) (fs : List Field) (h1 : decide (f.name ≠ "_") = true) (h2 : f.type = t) (h3 : f.offset = o) (q : Bool) (w : World) (h : (Op.eqFields (d + 2) X Y fs).run Try.prog w = .ok q w) :
    (Op.eqFields (d + 2) X Y (f :: fs)).run Try.prog w = .ok (decide (xs = ys) && q) w := by
  have e1 := part_arr' t n ht hi X o xs hX w
  have e2 := part_arr' t n ht hi Y o ys hY w
  have e3 := eqBytes d t n ht xs ys hx hy lx ly w
  have h1' : f.name ≠ "_" := of_decide_eq_true h1
  subst h2 h3
  simp only [Op.eqFields, Sem.run_ite, Sem.run_bind, e1, e2, e3, Result.andThen_ok]
  rw [if_pos h1']
  cases decide (xs = ys) <;> simp [h]
theorem wpList_mid_met {ops : Array Oper} {rest : List Oper} {o : Oper} {a : Act} {w : World} {Q : Exit → Act → World → Prop} (hw : Region.wanted o (yielded ops a.tmps) = true) (ty : TypeId) (x : Operand) (ho : o.op = .load ty x)
    (b k : Nat) (hx : a.eval x = .pointer (some ⟨b, k, none⟩)) (cs : List Value) (d : TypeDesc) (hc : w.rangeAt b k cs)
    (hu : Try.prog.underlying ty = some d) (hd : d.isRow = true) (hi : (Try.prog.info? ty).map (·.size) = some cs.length)
    (h : wpList Try.prog ops Q rest (a.put o.dst (.agg cs.toArray)) w) : wpList Try.prog ops Q (o :: rest) a w :=
  wpList_wanted hw fun _ hK => wp_load_mid ty x ho b k hx cs d hc hu hd hi (hK _ _ h)
theorem wpList_blank_met {ops : Array Oper} {rest : List Oper} {o : Oper} {a : Act} {w : World} {Q : Exit → Act → World → Prop} (hw : Region.wanted o (yielded ops a.tmps) = true) (t : TypeId)
    (ho : o.op = .build t #[]) {v : Value}
    (hr : (Instr.build t #[]).run Try.prog w = .ok v w) (h : wpList Try.prog ops Q rest (a.put o.dst v) w) : wpList Try.prog ops Q (o :: rest) a w := by
  refine wpList_wanted hw fun K hK => ?_
  unfold Oper.wp execOp
  simp only [ho, Sem.run_bind, Sem.run_pure, Result.andThen_ok, List.map_toArray, List.map_nil, hr]
  exact hK _ _ h
def rcells (s : Int) (z : List Int) : List Value := .int .u32 s :: z.map (Value.int .u8)
theorem rcells_drop (s : Int) (z : List Int) (hl : z.length = 32) : (((rcells s z).toArray).toList.drop 1).take 32 = z.map (Value.int .u8) := by
  simp [rcells, List.take_of_length_le, hl]
theorem step_copy_run {P : Program} {ops : Array Oper} {o : Oper} {a : Act} {w : World} {K : Act → World → Prop} {Q : Exit → Act → World → Prop} {E : Prop} (hgd : o.guard = none) (d s : Operand) (dT sT : TypeId)
    (ho : o.op = .call { callee := .builtin .copy, args := #[d, s], argTypes := #[dT, sT] }) (hty : o.type = 3) {x y v : Value} {w' : World} (hd : a.eval d = x) (hs : a.eval s = y) (hr : (Builtin.copy_ #[dT, sT] 3 #[x, y]).run P w = .ok v w')
    (hK : K (a.put o.dst v) w') : if Region.wanted o (yielded ops a.tmps) = true then Oper.wp P o a w K Q else E := by
  have hw : Region.wanted o (yielded ops a.tmps) = true := by simp [Region.wanted, hgd]
  rw [if_pos hw]
  unfold Oper.wp
  simp [execOp, ho, hty, resolve, invoke, builtin, hd, hs, hr, Result.andThen]
  exact hK
theorem row_kept {W W' : World} {g k : Nat} {o : Obj} (hg : W.grownBy W' (some g)) (h : W.heap[k]? = some o) (hne : k ≠ g) : W'.heap[k]? = some o :=
  (hg.block k (blk_lt h) (fun e => hne (by cases e; rfl))).trans h
/-! ### The head that bytes are -/
def pt (xs : List Int) (o n : Nat) : List Int := (xs.drop o).take n
theorem pt_len (xs : List Int) (o n : Nat) (h : o + n ≤ xs.length) : (pt xs o n).length = n := part_len xs o n h
theorem pt_byt {xs : List Int} (h : Byt xs) (o n : Nat) : Byt (pt xs o n) := (h.drop o).take n
theorem num64 {p : List Int} (hp : Byt p) (hl : p.length = 8) : 0 ≤ numI p ∧ numI p ≤ 18446744073709551615 := by
  have := numI_bd 8 p hl hp
  have e : (256 : Int) ^ 8 = 18446744073709551616 := by decide
  omega
theorem num32 {p : List Int} (hp : Byt p) (hl : p.length = 4) : 0 ≤ numI p ∧ numI p ≤ 4294967295 := by
  have := numI_bd 4 p hl hp
  have e : (256 : Int) ^ 4 = 4294967296 := by decide
  omega
theorem wpList_build3_run {ops : Array Oper} {rest : List Oper} {o : Oper} {a : Act} {w : World} {Q : Exit → Act → World → Prop} (hgd : o.guard = none) (t : TypeId) (i j k : Nat) (x y z : Operand)
    (ho : o.op = .build t #[(i, x), (j, y), (k, z)]) {u1 u2 u3 v : Value} (hx : a.eval x = u1) (hy : a.eval y = u2) (hz : a.eval z = u3)
    (hr : (Instr.build t #[(i, u1), (j, u2), (k, u3)]).run Try.prog w = .ok v w) (h : wpList Try.prog ops Q rest (a.put o.dst v) w) : wpList Try.prog ops Q (o :: rest) a w := by
  refine wpList_plain hgd fun K hK => ?_
  unfold Oper.wp execOp
  simp only [ho, Sem.run_bind, Sem.run_pure, Result.andThen_ok, List.map_toArray, List.map_cons, List.map_nil, hx, hy, hz, hr]
  exact hK _ _ h
theorem pt_next (xs : List Int) (o n : Nat) : xs.drop o = pt xs o n ++ xs.drop (o + n) := by rw [← List.drop_drop]; exact (List.take_append_drop n (xs.drop o)).symm
theorem num8 {p : List Int} (hp : Byt p) (hl : p.length = 1) : 0 ≤ numI p ∧ numI p ≤ 255 := by
  have := numI_bd 1 p hl hp
  have e : (256 : Int) ^ 1 = 256 := by decide
  omega
theorem wpList_load_met' {ops : Array Oper} {rest : List Oper} {o : Oper} {a : Act} {w : World} {Q : Exit → Act → World → Prop} (hw : Region.wanted o (yielded ops a.tmps) = true) (ty : TypeId) (x : Operand) (ho : o.op = .load ty x)
    (g : Nat) (hx : a.eval x = .pointer (some ⟨g, 0, none⟩)) (t : TypeId) (cs : Array Value) (fr : Nat × Nat) (d : TypeDesc) (hg : w.heap[g]? = some (.cells cs t fr))
    (hu : Try.prog.underlying ty = some d) (hd : ∃ n e, d = .array n e) (hi : (Try.prog.info? ty).map (·.size) = some cs.size)
    (h : wpList Try.prog ops Q rest (a.put o.dst (.agg cs)) w) : wpList Try.prog ops Q (o :: rest) a w := by
  obtain ⟨n, e, rfl⟩ := hd
  exact wpList_wanted hw fun _ hK => wp_load_row ty x ho g hx t cs fr _ hg hu rfl hi (hK _ _ h)
theorem eqFields_one (d : Nat) (t : TypeId) (o : Nat) (X Y : Array Value) (a b : Value) (q1 : Bool) (w : World) (e1 : (part t X o).run Try.prog w = .ok a w) (e2 : (part t Y o).run Try.prog w = .ok b w) (e3 : (Op.equalIn d t a b).run Try.prog w = .ok q1 w)
    (f : Field) (fs : List Field) (h1 : decide (f.name ≠ "_") = true) (h2 : f.type = t) (h3 : f.offset = o) (q : Bool) (h : (Op.eqFields d X Y fs).run Try.prog w = .ok q w) :
    (Op.eqFields d X Y (f :: fs)).run Try.prog w = .ok (q1 && q) w := by
  have h1' : f.name ≠ "_" := of_decide_eq_true h1
  subst h2 h3
  simp only [Op.eqFields, Sem.run_ite, Sem.run_bind, e1, e2, e3, Result.andThen_ok]
  rw [if_pos h1']
  cases q1 <;> simp [h]
theorem part_bool (t : TypeId) (hu : Try.prog.underlying t = some .bool) (X : Array Value) (o : Nat) (v : Value) (hx : X[o]? = some v) (w : World) : (part t X o).run Try.prog w = .ok v w := by
  simp [part, isAgg, run_underlying hu, hx]
theorem part_struct (t : TypeId) (fs : Array Field) (n : Nat) (hu : Try.prog.underlying t = some (.struct fs)) (hi : (Try.prog.info? t).map (·.size) = some n) (X : Array Value) (o : Nat) (cs : List Value) (hX : (X.toList.drop o).take n = cs) (w : World) :
    (part t X o).run Try.prog w = .ok (.agg cs.toArray) w := by
  have e : X.extract o (o + n) = cs.toArray := by
    apply Array.ext'
    rw [← hX]
    simp
  cases hq : Try.prog.info? t with
  | none => simp [hq] at hi
  | some i =>
    have hs : i.size = n := by simpa [hq] using hi
    simp [part, isAgg, run_underlying hu, sizeOf, typeInfo, hq, hs, e]
theorem numI_be : ∀ (n : Nat) (v : Int), 0 ≤ v → v < 256 ^ n → numI (be n v) = v
  | 0, v, h0, h1 => by simp at h1; simp [be, numI]; omega
  | n + 1, v, h0, h1 => by
    rw [Int.pow_succ] at h1
    rw [be, numI_snoc, numI_be n (v / 256) (by omega) (by omega)]
    omega
theorem num_be8 {v : Int} (h : 0 ≤ v ∧ v ≤ 18446744073709551615) : numI (be 8 v) = v := by
  have e : (256 : Int) ^ 8 = 18446744073709551616 := by decide
  exact numI_be 8 v h.1 (by omega)
theorem num_be4 {v : Int} (h : 0 ≤ v ∧ v ≤ 4294967295) : numI (be 4 v) = v := by
  have e : (256 : Int) ^ 4 = 4294967296 := by decide
  exact numI_be 4 v h.1 (by omega)
theorem num_be1 {v : Int} (h : 0 ≤ v ∧ v ≤ 255) : numI (be 1 v) = v := by
  have e : (256 : Int) ^ 1 = 256 := by decide
  exact numI_be 1 v h.1 (by omega)
theorem pt_at (a b c : List Int) (o n : Nat) (ha : a.length = o) (hb : b.length = n) : pt (a ++ (b ++ c)) o n = b := by
  subst ha hb
  unfold pt
  rw [List.drop_left, List.take_left]
theorem wpList_build2_run {ops : Array Oper} {rest : List Oper} {o : Oper} {a : Act} {w : World} {Q : Exit → Act → World → Prop} (hgd : o.guard = none) (t : TypeId) (i j : Nat) (x y : Operand)
    (ho : o.op = .build t #[(i, x), (j, y)]) {u1 u2 v : Value} (hx : a.eval x = u1) (hy : a.eval y = u2)
    (hr : (Instr.build t #[(i, u1), (j, u2)]).run Try.prog w = .ok v w) (h : wpList Try.prog ops Q rest (a.put o.dst v) w) : wpList Try.prog ops Q (o :: rest) a w := by
  refine wpList_plain hgd fun K hK => ?_
  unfold Oper.wp execOp
  simp only [ho, Sem.run_bind, Sem.run_pure, Result.andThen_ok, List.map_toArray, List.map_cons, List.map_nil, hx, hy, hr]
  exact hK _ _ h
theorem fields_at {t : TypeId} {l : List (Bool × Nat × Nat)} (h : (Try.prog.fieldsOf t).toList.map (fun f => (decide (f.name ≠ "_"), f.type, f.offset)) = l) (i : Nat) (b : Bool) (ty o : Nat) (hi : l[i]? = some (b, ty, o)) :
    ∃ f, (Try.prog.fieldsOf t)[i]? = some f ∧ f.type = ty ∧ f.offset = o := by
  rw [← h, List.getElem?_map, Option.map_eq_some_iff] at hi
  obtain ⟨f, hf, he⟩ := hi
  rw [Array.getElem?_toList] at hf
  simp only [Prod.mk.injEq] at he
  exact ⟨f, hf, he.2.1, he.2.2⟩
theorem trod_field {H : Type} {enc : TypeId × Value → H} {w : World} {base : Nat} {t : TypeId} {fuel : Nat} {cs : List Value} {x : DataW H × List MemPlace} (ht : Try.prog.underlying t = some (.struct (Try.prog.fieldsOf t)))
    (h : DataW.trod enc Try.prog w base (fun _ => true) true fuel t cs = some x) {l : List (Bool × Nat × Nat)} (hl : (Try.prog.fieldsOf t).toList.map (fun f => (decide (f.name ≠ "_"), f.type, f.offset)) = l)
    (i : Nat) (b : Bool) (ty o : Nat) (hi : l[i]? = some (b, ty, o)) : ∃ m y, DataW.trod enc Try.prog w base (fun _ => true) true m ty ((cs.drop o).take (Try.prog.cellsOf ty)) = some y := by
  obtain ⟨xs, m, _, _, _, hxl, hfi⟩ := DataW.trod_struct ht h
  obtain ⟨f, hf, rfl, rfl⟩ := fields_at hl i b ty o hi
  have hlt : i < (Try.prog.fieldsOf t).size := (Array.getElem?_eq_some_iff.1 hf).1
  have := hfi i f hf
  rw [List.getElem?_eq_getElem (by omega)] at this
  exact ⟨m, _, this⟩
theorem take_split (cs : List Value) (n : Nat) : cs = cs.take n ++ cs.drop n := (List.take_append_drop n cs).symm
theorem nought_all {xs : List Int} (h : ∀ i, i < xs.length → nth xs i = 0) : xs = zs xs.length := by
  apply List.ext_getElem
  · simp [zs_len]
  · intro i h1 h2
    have := h i h1
    simp only [nth, List.getD, List.getElem?_eq_getElem h1, Option.getD_some] at this
    simp [zs, this]
theorem nought_no {xs : List Int} {i : Nat} (hi : i < xs.length) (h : nth xs i ≠ 0) : xs ≠ zs xs.length := fun e => by
  apply h
  rw [e]
  simp [nth, zs, List.getD, hi]
/-- In a drawn region: a struct of known parts is built; a row is stored. -/
theorem step_build_run {ops : Array Oper} {o : Oper} {a : Act} {w : World} {K : Act → World → Prop} {Q : Exit → Act → World → Prop} {E : Prop} (hgd : o.guard = none) (t : TypeId) (parts : Array (Nat × Operand)) (ho : o.op = .build t parts)
    (vs : Array (Nat × Value)) (hv : parts.map (fun (i, x) => (i, a.eval x)) = vs) {v : Value} (hr : (Instr.build t vs).run Try.prog w = .ok v w) (hK : K (a.put o.dst v) w) : if Region.wanted o (yielded ops a.tmps) = true then Oper.wp Try.prog o a w K Q else E := by
  have hw : Region.wanted o (yielded ops a.tmps) = true := by simp [Region.wanted, hgd]
  rw [if_pos hw]
  subst hv
  unfold Oper.wp execOp
  simp only [ho, Sem.run_bind, Sem.run_pure]
  rw [hr]
  exact hK
theorem step_store_row {ops : Array Oper} {o : Oper} {a : Act} {w : World} {K : Act → World → Prop} {Q : Exit → Act → World → Prop} {E : Prop} (hgd : o.guard = none) (ty : TypeId) (x y : Operand) (ho : o.op = .store ty x y)
    (g : Nat) (cells : Array Value) (hx : a.eval x = .pointer (some ⟨g, 0, none⟩)) (hy : a.eval y = .agg cells) (t : TypeId) (old : Array Value) (hg : w.heap[g]? = some (.cells old t (0, 0))) (hi : (Try.prog.info? ty).map (·.size) = some cells.size)
    (hold : old.size = cells.size) (h1 : cells.all (·.oneCell') = true) (hK : K (a.put o.dst undef) (w.setRow g cells)) : if Region.wanted o (yielded ops a.tmps) = true then Oper.wp Try.prog o a w K Q else E := by
  have hw : Region.wanted o (yielded ops a.tmps) = true := by simp [Region.wanted, hgd]
  rw [if_pos hw]
  exact wp_store_row ty x y ho g cells hx hy t old hg hi hold h1 hK
theorem step_alloc_run {P : Program} {ops : Array Oper} {o : Oper} {a : Act} {w : World} {K : Act → World → Prop} {Q : Exit → Act → World → Prop} {E : Prop} (hgd : o.guard = none) (t : TypeId) (ho : o.op = .alloc t) {cs : Array Value} (hz : (zeroValue t).run P w = .ok (.agg cs) w)
    (hK : K (a.put o.dst (.pointer (some ⟨w.heap.size, 0, none⟩))) (w.alloc (.cells cs t))) : if Region.wanted o (yielded ops a.tmps) = true then Oper.wp P o a w K Q else E := by
  have hw : Region.wanted o (yielded ops a.tmps) = true := by simp [Region.wanted, hgd]
  rw [if_pos hw]
  unfold Oper.wp
  simp [execOp, ho, Instr.alloc, hz, Result.andThen, Oper.upon]
  exact hK
end Go.Proofs.Ytabopcfhonkecaa
