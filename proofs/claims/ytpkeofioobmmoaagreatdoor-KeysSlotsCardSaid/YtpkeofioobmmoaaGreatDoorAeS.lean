/-
  Slices of bytes: how they read, what a call makes itself, what is appended, as strings. No condition.
-/
import Derived.Test.YtpkeofioobmmoaaGreatDoorAeR
import Derived.Test.YtpkeofioobmmoaaGreatDoorAeO
import Derived.Maps.AppendAt
import Derived.Laws.OwnMore
import Derived.Lib.SlBytesConst
namespace Go.Proofs.YtpkeofioobmmoaaGreatDoor.ae
open Go.RowKit
/-- Each is a byte. -/
def Byt (xs : List Nat) : Prop := ∀ x ∈ xs, x < 256
set_option maxRecDepth 100000 in
theorem Bts.byt {n : Nat} {l : List Nat} (h : Bts n l) : Byt l := h.2
set_option maxRecDepth 100000 in
theorem Byt.bts {l : List Nat} (h : Byt l) : Bts l.length l := ⟨rfl, h⟩
set_option maxRecDepth 100000 in
theorem Byt.at {l : List Nat} (h : Byt l) (i : Nat) : at_ l i < 256 := h.bts.at_lt i
set_option maxRecDepth 100000 in
theorem Byt.append {a b : List Nat} (ha : Byt a) (hb : Byt b) : Byt (a ++ b) := fun x h => by
  rcases List.mem_append.1 h with h | h
  · exact ha x h
  · exact hb x h
set_option maxRecDepth 100000 in
theorem Byt.take {a : List Nat} (n : Nat) (ha : Byt a) : Byt (a.take n) := fun x h => ha x (List.mem_of_mem_take h)
set_option maxRecDepth 100000 in
theorem Byt.drop {a : List Nat} (n : Nat) (ha : Byt a) : Byt (a.drop n) := fun x h => ha x (List.mem_of_mem_drop h)
set_option maxRecDepth 100000 in
theorem byt_nil : Byt [] := fun _ h => by simp at h
/-- The slice v reads, in w, as the bytes xs. -/
def Sees (w : World) (v : Value) (xs : List Nat) : Prop :=
  Byt xs ∧ ((v = .slice none 0 0 ∧ xs = []) ∨ (∃ a cap, v = .slice (some a) 0 cap ∧ xs = [] ∧ cap ≤ maxLen) ∨
    ∃ b o cap, v = .slice (some ⟨b, o, none⟩) xs.length cap ∧ xs ≠ [] ∧ xs.length ≤ cap ∧ cap ≤ maxLen ∧ ∀ i, i < xs.length → w.cell? ⟨b, o + i, none⟩ = some (.int .u8 (at_ xs i : Nat)))
set_option maxRecDepth 100000 in
theorem Sees.below {w w' : World} {v : Value} {xs : List Nat} (h : Sees w v xs) (hb : Below w.heap.size w w') : Sees w' v xs := by
  obtain ⟨h1, h2 | h2 | ⟨b, o, cap, rfl, h3, h4, h5, h6⟩⟩ := h
  · exact ⟨h1, .inl h2⟩
  · exact ⟨h1, .inr (.inl h2)⟩
  · refine ⟨h1, .inr (.inr ⟨b, o, cap, rfl, h3, h4, h5, fun i hi => ?_⟩)⟩
    have := h6 i hi
    rw [hb.cell (World.block_lt_of_cell? w _ this)]
    exact this
set_option maxRecDepth 100000 in
theorem Sees.grown {w w' : World} {v : Value} {xs : List Nat} {row : Option Nat} (h : Sees w v xs) (hg : w.grownBy w' row) (hne : ∀ k, row = some k → xs ≠ [] → v.ownBlock ≠ some k) : Sees w' v xs := by
  obtain ⟨h1, h2 | h2 | ⟨b, o, cap, rfl, h3, h4, h5, h6⟩⟩ := h
  · exact ⟨h1, .inl h2⟩
  · exact ⟨h1, .inr (.inl h2)⟩
  · refine ⟨h1, .inr (.inr ⟨b, o, cap, rfl, h3, h4, h5, fun i hi => ?_⟩)⟩
    exact hg.cell (h6 i hi) (fun e => hne b e.symm h3 (by simp [Value.ownBlock]))
set_option maxRecDepth 100000 in
theorem Sees.form {w : World} {v : Value} {xs : List Nat} (h : Sees w v xs) : ∃ x cap, v = .slice x xs.length cap ∧ xs.length ≤ 9223372036854775807 := by
  obtain ⟨h1, ⟨rfl, rfl⟩ | ⟨a, cap, rfl, rfl, _⟩ | ⟨b, o, cap, rfl, h3, h4, h5, h6⟩⟩ := h
  · exact ⟨_, _, rfl, by simp⟩
  · exact ⟨_, _, rfl, by simp⟩
  · unfold maxLen at h5
    exact ⟨_, _, rfl, by omega⟩
set_option maxRecDepth 100000 in
/-- Its cells, where it has some. -/
theorem Sees.cells {w : World} {x : Option Addr} {n cap : Nat} {xs : List Nat} (h : Sees w (.slice x n cap) xs) (h0 : xs ≠ []) :
    ∃ b o, x = some ⟨b, o, none⟩ ∧ n = xs.length ∧ n ≤ cap ∧ cap ≤ maxLen ∧ ∀ i, i < xs.length → w.cell? ⟨b, o + i, none⟩ = some (.int .u8 (at_ xs i : Nat)) := by
  obtain ⟨h1, ⟨hv, rfl⟩ | ⟨a, c, hv, rfl, _⟩ | ⟨b, o, c, hv, h3, h4, h5, h6⟩⟩ := h
  · exact absurd rfl h0
  · exact absurd rfl h0
  · simp only [Value.slice.injEq] at hv
    obtain ⟨rfl, rfl, rfl⟩ := hv
    exact ⟨b, o, rfl, rfl, h4, h5, h6⟩
set_option maxRecDepth 100000 in
theorem sees_nil (w : World) : Sees w (.slice none 0 0) [] := ⟨byt_nil, .inl ⟨rfl, rfl⟩⟩
set_option maxRecDepth 100000 in
theorem sees_front (w : World) (g : Nat) (xs zs : List Nat) (hb : Byt xs) {t : TypeId} {fr : Nat × Nat} (h : w.heap[g]? = some (.cells (ncells (xs ++ zs)) t fr)) (n cap : Nat) (hn : n = xs.length) (hc : n ≤ cap) (hm : cap ≤ maxLen) : Sees w (.slice (some ⟨g, 0, none⟩) n cap) xs := by
  subst hn
  refine ⟨hb, ?_⟩
  by_cases h0 : xs = []
  · subst h0; exact .inr (.inl ⟨_, _, rfl, rfl, hm⟩)
  · refine .inr (.inr ⟨_, _, _, rfl, h0, hc, hm, fun i hi => ?_⟩)
    have e : (ncells (xs ++ zs))[i]? = some (.int .u8 (xs[i] : Nat)) := by
      simp only [ncells, List.getElem?_toArray, List.map_append]
      rw [List.getElem?_append_left (by simpa using hi)]
      simp [hi]
    rw [cell_of_row _ _ _ _ _ _ h, Nat.zero_add, e]
    simp [at_, List.getD, hi]
set_option maxRecDepth 100000 in
theorem sees_row (w : World) (g : Nat) (xs : List Nat) (hb : Byt xs) (hm : xs.length ≤ maxLen) {t : TypeId} {fr : Nat × Nat} (h : w.heap[g]? = some (.cells (ncells xs) t fr)) (n : Nat) (hn : n = xs.length) : Sees w (.slice (some ⟨g, 0, none⟩) n n) xs :=
  sees_front w g xs [] hb (by rw [List.append_nil]; exact h) n n hn (Nat.le_refl _) (by rw [hn]; exact hm)
set_option maxRecDepth 100000 in
/-- A part of a row of cells. -/
theorem sees_part {w : World} {b o : Nat} {xs : List Nat} (hb : Byt xs) (hc : ∀ i, i < xs.length → w.cell? ⟨b, o + i, none⟩ = some (.int .u8 (at_ xs i : Nat))) (l n : Nat) (h : l + n ≤ xs.length) (hn : 0 < n) (cap : Nat) (hcap : n ≤ cap) (hcm : cap ≤ maxLen) :
    Sees w (.slice (some ⟨b, o + l, none⟩) n cap) ((xs.drop l).take n) := by
  have hl : ((xs.drop l).take n).length = n := by rw [List.length_take, List.length_drop]; omega
  refine ⟨(hb.drop l).take n, .inr (.inr ⟨b, o + l, cap, by rw [hl], fun e => ?_, by omega, hcm, fun i hi => ?_⟩)⟩
  · rw [e] at hl; simp at hl; omega
  · rw [hl] at hi
    rw [Nat.add_assoc, hc (l + i) (by omega)]
    simp [at_, List.getD, hi]
/-- As a string. -/
def zl (xs : List Nat) : List Int := xs.map fun n : Nat => (n : Int)
def strN (xs : List Nat) : ByteArray := strOfNums (zl xs)
set_option maxRecDepth 100000 in
theorem zl_len (xs : List Nat) : (zl xs).length = xs.length := by simp [zl]
set_option maxRecDepth 100000 in
theorem strN_toList (xs : List Nat) : (strN xs).toList = tobN xs := by
  rw [ByteArray.toList_eq]
  unfold strN
  rw [strOfNums_data]
  unfold zl tobN
  rw [List.map_map]
  apply List.map_congr_left
  intro x _
  simp
set_option maxRecDepth 100000 in
theorem strN_eq {xs ys : List Nat} (hx : Byt xs) (hy : Byt ys) : ((strN xs).toList == (strN ys).toList) = decide (xs = ys) := by
  rw [strN_toList, strN_toList]
  by_cases e : xs = ys
  · subst e; simp
  · have : tobN xs ≠ tobN ys := fun h => e (tobN_inj hx hy h)
    simp [e, this]
set_option maxRecDepth 100000 in
theorem Sees.str {w : World} {v : Value} {xs : List Nat} (h : Sees w v xs) : (convert 31 9 v).run Tryz.prog w = .ok (.string (strN xs)) w := by
  obtain ⟨h1, ⟨rfl, rfl⟩ | ⟨a, cap, rfl, rfl, _⟩ | ⟨b, o, cap, rfl, h3, h4, h5, h6⟩⟩ := h
  · exact run_convert_bytes_nil w 31 5 Tryz.underlying31 Tryz.underlying5 0 0 9 Tryz.underlying9
  · rw [run_convert_bytes_string w 31 9 5 _ _ _ Tryz.underlying31 Tryz.underlying5 Tryz.underlying9, run_bytesToString w a 0 cap [] (by simpa using run_loadCells_list (P := Tryz.prog) w a [] (by simp))]
    rfl
  · have := run_convert_bytes_arg w 31 5 Tryz.underlying31 Tryz.underlying5 b o xs.length cap (zl xs) (zl_len xs) (fun i hi => by
      rw [h6 i hi]
      simp [zl, at_, List.getD, hi]) 9 Tryz.underlying9
    exact this
set_option maxRecDepth 100000 in
theorem info5 : (Tryz.prog.info? 5).map (fun i => (i.zero, i.size, i.bytes)) = some (some (.int .u8 0), 1, 1) := by kernel_rfl
set_option maxRecDepth 100000 in
theorem made_bytes (n : Nat) : madeCells (Value.int .u8 0).cells n = ncells (zeros n) := by
  apply Array.ext
  · simp [size_madeCells, nsize, zeros_len]
  · intro i h1 h2
    simp [madeCells, ncells, zeros, Value.cells, Nat.mod_one]
set_option maxRecDepth 100000 in
theorem mkN (n : Nat) (hn : n ≤ 140737488355328) (w : World) : (Instr.makeSlice 31 (.int .i64 n) (.int .i64 n)).run Tryz.prog w =
    .ok (.slice (some ⟨w.heap.size, 0, none⟩) n n) (w.alloc (.cells (ncells (zeros n)) 5)) := by
  obtain ⟨i, hi, hz0, hz1, hz2⟩ := info_parts info5
  have h := run_make (P := Tryz.prog) w 31 5 i _ Tryz.underlying31 hi hz0 .i64 .i64 n n (by omega) (by omega) (by rw [hz2]; omega) (by omega)
  rw [h]
  simp only [Int.toNat_natCast, hz1, Nat.mul_one]
  rw [made_bytes]
set_option maxRecDepth 100000 in
theorem zeros_byt (n : Nat) : Byt (zeros n) := fun x h => by
  unfold zeros at h
  rw [List.mem_replicate] at h
  omega
/-- The call's own bytes, in a block from base on. -/
def Own (w : World) (base : Nat) (v : Value) (xs : List Nat) : Prop := Byt xs ∧ w.ownsRow base 5 1 v xs.length (xs.map fun n : Nat => Value.int .u8 (n : Int))
set_option maxRecDepth 100000 in
theorem own_nil (w : World) (base : Nat) : Own w base (.slice none 0 0) [] := ⟨byt_nil, World.ownsRow_nil w base 5 1⟩
set_option maxRecDepth 100000 in
theorem Own.sees {w : World} {base : Nat} {v : Value} {xs : List Nat} (h : Own w base v xs) : Sees w v xs := by
  obtain ⟨hb, hl, ⟨rfl, h0⟩ | ⟨g, cap, cur, rfl, _, hg, hn, hm, hs, ht⟩⟩ := h
  · exact ⟨hb, .inl ⟨rfl, List.length_eq_zero_iff.1 h0⟩⟩
  · refine ⟨hb, ?_⟩
    by_cases h0 : xs = []
    · subst h0
      exact .inr (.inl ⟨_, _, rfl, rfl, hm⟩)
    · refine .inr (.inr ⟨g, 0, cap, rfl, h0, hn, hm, fun i hi => ?_⟩)
      rw [cell_of_row _ _ _ _ _ _ hg, Nat.zero_add]
      have h1 : (xs.map fun n : Nat => Value.int .u8 (n : Int))[i]? = some (.int .u8 (at_ xs i : Nat)) := by simp [at_, List.getD, hi]
      rw [← ht, List.getElem?_take_of_lt (by omega)] at h1
      simpa using h1
set_option maxRecDepth 100000 in
theorem Own.grown {w w' : World} {base : Nat} {v : Value} {xs : List Nat} {row : Option Nat} (h : Own w base v xs) (hg : w.grownBy w' row) (hne : v.ownBlock = none ∨ v.ownBlock ≠ row) : Own w' base v xs := ⟨h.1, h.2.kept hg hne⟩
set_option maxRecDepth 100000 in
theorem Own.below {w w' : World} {base : Nat} {v : Value} {xs : List Nat} (h : Own w base v xs) (hb : Below w.heap.size w w') : Own w' base v xs :=
  h.grown (row := none) ⟨hb.os, hb.tape, hb.output, hb.size, fun k hk _ => hb.block k hk⟩ (by cases v.ownBlock <;> simp)
set_option maxRecDepth 100000 in
theorem Own.lift {w : World} {b1 b2 : Nat} {v : Value} {xs : List Nat} (h : Own w b1 v xs) (hb : b2 ≤ b1) : Own w b2 v xs := by
  obtain ⟨h1, hl, h⟩ := h
  refine ⟨h1, hl, ?_⟩
  rcases h with h | ⟨g, cap', cur, e1, e2, e3⟩
  · exact .inl h
  · exact .inr ⟨g, cap', cur, e1, Nat.le_trans hb e2, e3⟩
set_option maxRecDepth 100000 in
theorem app {w : World} {base : Nat} {v u : Value} {xs ys : List Nat} (h : Own w base v xs) (hs : Sees w u ys) (hn : xs.length + ys.length ≤ 1099511627776) (hbase : base ≤ w.heap.size) :
    ∃ x cap w', (Builtin.append_ #[31, 31] 31 #[v, u]).run Tryz.prog w = .ok (.slice x (xs.length + ys.length) cap) w' ∧ Own w' base (.slice x (xs.length + ys.length) cap) (xs ++ ys) ∧ w.grownBy w' v.ownBlock ∧ Below base w w' := by
  obtain ⟨i, hi, hz0, hz1, hz2⟩ := info_parts info5
  have fin : ∀ v' w', (Builtin.append_ #[31, 31] 31 #[v, u]).run Tryz.prog w = .ok v' w' → w'.ownsRow base 5 1 v' (xs.length + ys.length) ((xs.map fun n : Nat => Value.int .u8 (n : Int)) ++ (ys.map fun n : Nat => Value.int .u8 (n : Int))) → w.grownBy w' v.ownBlock →
      ∃ x cap w', (Builtin.append_ #[31, 31] 31 #[v, u]).run Tryz.prog w = .ok (.slice x (xs.length + ys.length) cap) w' ∧ Own w' base (.slice x (xs.length + ys.length) cap) (xs ++ ys) ∧ w.grownBy w' v.ownBlock ∧ Below base w w' := by
    intro v' w' hr ho hg
    have hbel : Below base w w' := (Below.refl _ _).grown hg hbase (fun k e => (h.2.lt k e).1)
    have ho' : Own w' base v' (xs ++ ys) := ⟨h.1.append hs.1, by simpa using ho⟩
    rcases ho.2 with ⟨rfl, h0⟩ | ⟨g, cap, cur, rfl, _⟩
    · exact ⟨none, 0, w', by rw [h0]; exact hr, by rw [h0]; exact ho', hg, hbel⟩
    · exact ⟨_, _, w', hr, ho', hg, hbel⟩
  have hm : xs.length + ys.length ≤ maxLen := by unfold maxLen; omega
  have key : ∀ (a : Addr) (cap : Nat), u = .slice (some a) ys.length cap → (∀ i, i < ys.length → w.cell? (a.add i) = some (.int .u8 (at_ ys i : Nat))) →
      ∃ x cap w', (Builtin.append_ #[31, 31] 31 #[v, u]).run Tryz.prog w = .ok (.slice x (xs.length + ys.length) cap) w' ∧ Own w' base (.slice x (xs.length + ys.length) cap) (xs ++ ys) ∧ w.grownBy w' v.ownBlock ∧ Below base w w' := by
    intro a cap hu hc
    obtain ⟨v', w', hr, ho, hg, _⟩ := run_append_own (P := Tryz.prog) w base 31 31 5 i _ 1 1 Tryz.underlying31 hi hz0 hz1 hz2 rfl (by decide) v xs.length _ h.2 a ys.length cap (ys.map fun n : Nat => Value.int .u8 (n : Int)) (by simp) (fun j u' hj => by
        have hjl : j < ys.length := by
          rcases Nat.lt_or_ge j ys.length with h | h
          · exact h
          · rw [List.getElem?_eq_none (by simpa using h)] at hj; cases hj
        rw [hc j hjl, ← hj]
        simp [at_, List.getD, hjl]) (by simp [Value.oneCell']) hm (by omega) hbase
    rw [← hu] at hr
    exact fin v' w' hr ho hg
  obtain ⟨h1, ⟨hu, rfl⟩ | ⟨a, cap, hu, rfl, _⟩ | ⟨b, o, cap, hu, h3, h4, h5, h6⟩⟩ := id hs
  · have hr := run_append_owned_none (P := Tryz.prog) (w := w) base 31 31 5 i 1 Tryz.underlying31 hi v xs.length _ h.2
    rw [← hu] at hr
    exact fin v w hr (by simpa using h.2) ⟨rfl, rfl, rfl, Nat.le_refl _, fun _ _ _ => rfl⟩
  · exact key a cap hu (by simp)
  · refine key _ cap hu fun i hi => ?_
    rw [addr_add]
    exact h6 i hi
set_option maxRecDepth 100000 in
theorem wpList_app {ops : Array Oper} {rest : List Oper} {o : Oper} {a : Act} {w : World} {Q : Exit → Act → World → Prop} (hgd : o.guard = none) (s x : Operand)
    (ho : o.op = .call { callee := .builtin .append, args := #[s, x], argTypes := #[31, 31] }) (hty : o.type = 31) {v u v' : Value} {w' : World} (hs : a.eval s = v) (hx : a.eval x = u)
    (hr : (Builtin.append_ #[31, 31] 31 #[v, u]).run Tryz.prog w = .ok v' w') (h : wpList Tryz.prog ops Q rest (a.put o.dst v') w') : wpList Tryz.prog ops Q (o :: rest) a w :=
  wpList_appK 31 hgd s x ho hty hs hx hr h
/-- A result of a call: its own new bytes. -/
def OwnP (w : World) (xs : List Nat) (e : Ending) (w' : World) : Prop :=
  ∃ x cap, e = .returned (.slice x xs.length cap) ∧ Own w' w.heap.size (.slice x xs.length cap) xs ∧ Below w.heap.size w w'
set_option maxRecDepth 100000 in
/-- The document's Copy. -/
theorem copy (v : Value) (xs : List Nat) (hl : xs.length ≤ 1099511627776) (w : World) (h : Sees w v xs) : Calls Tryz.prog 41 #[v] w (OwnP w xs) := by
  obtain ⟨x, cap, w', hr, ho, hg, hb⟩ := app (own_nil w w.heap.size) h (by simpa using hl) (Nat.le_refl _)
  simp only [List.length_nil, Nat.zero_add, List.nil_append] at hr ho
  have HR := Lib.hid hr
  have HO := Lib.hid ho
  have HB := Lib.hid hb
  clear ho hg hb h hl hr
  go_enter Tryz.func41, Tryz.ntmps41
  go_wp2_with (at_builtin; refine wpList_app rfl _ _ rfl rfl rfl rfl HR.out ?_)
  go_ret
  exact ⟨_, _, rfl, HO.out, HB.out⟩
set_option maxRecDepth 100000 in
/-- 'b[n:]' and 'b[:n]' of a slice of bytes. -/
theorem size5' (W : World) : (sizeOf (Tryz.prog.elem 31)).run Tryz.prog W = .ok 1 W := by kernel_rfl
set_option maxRecDepth 100000 in
theorem sl_from (b o l cap n : Nat) (hn : n ≤ l) (hc : n < cap) (W : World) : (Instr.slice 31 (.slice (some ⟨b, o, none⟩) l cap) (some (.int .i64 n)) none none).run Tryz.prog W =
    .ok (.slice (some ⟨b, o + n, none⟩) (l - n) (cap - n)) W := by
  rw [run_slice_l W 31 (some ⟨b, o, none⟩) l cap (by kernel_rfl) .i64 n (by omega) (by omega), size5']
  have e : ¬ cap = n := by omega
  simp [Result.andThen, sliced, e, addr_add]
end Go.Proofs.YtpkeofioobmmoaaGreatDoor.ae
