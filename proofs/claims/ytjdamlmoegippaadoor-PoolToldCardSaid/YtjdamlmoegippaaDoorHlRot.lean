/-
  Contracts of the functions that the statements of package sha go through: a number of 32 digits turned. Condition: the number fits its kind.
-/
import Derived.Test.YtjdamlmoegippaaDoorHlC
import Derived.Maps.AppendAt
import Derived.Laws.OwnMore
import Derived.OpenShut
namespace Go.Proofs.YtjdamlmoegippaaDoor.hl
open Go.RowKit

/-- A row of bytes. -/
def bcells (xs : List Int) : Array Value := (xs.map (Value.int .u8)).toArray

theorem info5 : (Tryd.prog.info? 5).map (fun i => (i.zero, i.size, i.bytes)) = some (some (.int .u8 0), 1, 1) := by kernel_rfl

theorem alloc_setRow (w : World) (o cs : Array Value) : (w.alloc (.cells o 5)).setRow w.heap.size cs = w.alloc (.cells cs 5) := by
  cases w with
  | mk heap tape drawn os output =>
    simp only [World.setRow, World.alloc]
    congr 1
    apply Array.ext
    · simp
    · intro k h1 h2
      simp only [Array.getElem_modify, Array.getElem_push]
      split
      · rename_i hk; subst hk; simp
      · rename_i hk
        have : k < heap.size := by simp at h1; omega
        simp [this]

theorem Sees.below {w w' : World} {v : Value} {xs : List Int} (h : Sees w v xs) (hb : Below w.heap.size w w') : Sees w' v xs := by
  obtain ⟨h1, h2 | h2 | ⟨b, o, cap, rfl, h3, h4, h5, h6⟩⟩ := h
  · exact ⟨h1, .inl h2⟩
  · exact ⟨h1, .inr (.inl h2)⟩
  · refine ⟨h1, .inr (.inr ⟨b, o, cap, rfl, h3, h4, h5, fun i hi => ?_⟩)⟩
    have := h6 i hi
    rw [hb.cell (World.block_lt_of_cell? w _ this)]
    exact this

theorem Sees.grown {w w' : World} {v : Value} {xs : List Int} {row : Option Nat} (h : Sees w v xs) (hg : w.grownBy w' row) (hne : ∀ k, row = some k → v.ownBlock ≠ some k) : Sees w' v xs := by
  obtain ⟨h1, h2 | h2 | ⟨b, o, cap, rfl, h3, h4, h5, h6⟩⟩ := h
  · exact ⟨h1, .inl h2⟩
  · exact ⟨h1, .inr (.inl h2)⟩
  · refine ⟨h1, .inr (.inr ⟨b, o, cap, rfl, h3, h4, h5, fun i hi => ?_⟩)⟩
    exact hg.cell (h6 i hi) (fun e => hne b e.symm (by simp [Value.ownBlock]))

/-- As a string. -/
theorem Sees.str {w : World} {v : Value} {xs : List Int} (h : Sees w v xs) : (convert 37 9 v).run Tryd.prog w = .ok (.string (strOfNums xs)) w := by
  obtain ⟨h1, ⟨rfl, rfl⟩ | ⟨a, cap, rfl, rfl, _⟩ | ⟨b, o, cap, rfl, h3, h4, h5, h6⟩⟩ := h
  · exact run_convert_bytes_nil w 37 5 Tryd.underlying37 Tryd.underlying5 0 0 9 Tryd.underlying9
  · rw [run_convert_bytes_string w 37 9 5 _ _ _ Tryd.underlying37 Tryd.underlying5 Tryd.underlying9, run_bytesToString w a 0 cap [] (by simpa using run_loadCells_list (P := Tryd.prog) w a [] (by simp))]
    rfl
  · exact run_convert_bytes_arg w 37 5 Tryd.underlying37 Tryd.underlying5 b o xs.length cap xs rfl h6 9 Tryd.underlying9

theorem Sees.form {w : World} {v : Value} {xs : List Int} (h : Sees w v xs) : ∃ x cap, v = .slice x xs.length cap ∧ xs.length ≤ 9223372036854775807 := by
  obtain ⟨h1, ⟨rfl, rfl⟩ | ⟨a, cap, rfl, rfl, _⟩ | ⟨b, o, cap, rfl, h3, h4, h5, h6⟩⟩ := h
  · exact ⟨_, _, rfl, by simp⟩
  · exact ⟨_, _, rfl, by simp⟩
  · unfold maxLen at h5
    exact ⟨_, _, rfl, by omega⟩

theorem info5s : (Tryd.prog.info? 5).map (·.size) = some 1 := by kernel_rfl

end Go.Proofs.YtjdamlmoegippaaDoor.hl
namespace Go.Proofs.YtjdamlmoegippaaDoor.hl
open Go.RowKit
theorem sees_row (w : World) (g : Nat) (xs : List Int) (hb : Byt xs) (hm : xs.length ≤ maxLen) (h : w.heap[g]? = some (.cells (bcells xs) 5 (0, 0))) (n : Nat) (hn : n = xs.length) : Sees w (.slice (some ⟨g, 0, none⟩) n n) xs := by
  subst hn
  refine ⟨hb, ?_⟩
  by_cases h0 : xs = []
  · subst h0; exact .inr (.inl ⟨_, _, rfl, rfl, by simp [maxLen]⟩)
  · refine .inr (.inr ⟨_, _, _, rfl, h0, Nat.le_refl _, hm, fun i hi => ?_⟩)
    rw [cell_of_row _ _ _ _ _ _ h]
    simp [bcells, nth, hi, List.getD]
theorem sees_new (w : World) (cs : Array Value) (xs : List Int) (hc : cs = bcells xs) (hb : Byt xs) (hm : xs.length ≤ maxLen) (g : Nat) (hg : w.heap.size = g) (n : Nat) (hn : n = xs.length) :
    Sees (w.alloc (.cells cs 5)) (.slice (some ⟨g, 0, none⟩) n n) xs := by
  subst hc hg
  exact sees_row _ _ xs hb hm (heap_alloc_new w _) n hn
/-- A call's new row of bytes. -/
def NewP (w : World) (n : Nat) (xs : List Int) (e : Ending) (w' : World) : Prop :=
  ∃ g, e = .returned (.slice (some ⟨g, 0, none⟩) n n) ∧ Sees w' (.slice (some ⟨g, 0, none⟩) n n) xs ∧ Below w.heap.size w w' ∧ w.heap.size ≤ g
end Go.Proofs.YtjdamlmoegippaaDoor.hl
namespace Go.Proofs.YtjdamlmoegippaaDoor.hl
open Go.RowKit
/-- A number's bytes, the greatest first. -/
def be : Nat → Int → List Int
  | 0, _ => []
  | n + 1, v => be n (v / 256) ++ [v % 256]
theorem be_len : ∀ n v, (be n v).length = n
  | 0, _ => rfl
  | n + 1, v => by simp [be, be_len n]
theorem be_byt : ∀ n v, Byt (be n v)
  | 0, _ => fun x h => by simp [be] at h
  | n + 1, v => (be_byt n _).append (fun x h => by simp at h; omega)
theorem be4 (v : Int) (h0 : 0 ≤ v) (h1 : v ≤ 4294967295) : bcells (be 4 v) = #[.int .u8 (v / 16777216), .int .u8 (v / 65536 % 256), .int .u8 (v / 256 % 256), .int .u8 (v % 256)] := by
  simp only [be, bcells, List.nil_append, List.cons_append, List.map_cons, List.map_nil]
  rw [show v / 256 / 256 / 256 % 256 = v / 16777216 by omega, show v / 256 / 256 % 256 = v / 65536 % 256 by omega]
theorem be8 (v : Int) (h0 : 0 ≤ v) (h1 : v ≤ 18446744073709551615) : bcells (be 8 v) = #[.int .u8 (v / 72057594037927936), .int .u8 (v / 281474976710656 % 256), .int .u8 (v / 1099511627776 % 256), .int .u8 (v / 4294967296 % 256), .int .u8 (v / 16777216 % 256), .int .u8 (v / 65536 % 256), .int .u8 (v / 256 % 256), .int .u8 (v % 256)] := by
  simp only [be, bcells, List.nil_append, List.cons_append, List.map_cons, List.map_nil]
  have e2 : v / 256 / 256 = v / 65536 := by omega
  have e3 : v / 65536 / 256 = v / 16777216 := by omega
  have e4 : v / 16777216 / 256 = v / 4294967296 := by omega
  have e5 : v / 4294967296 / 256 = v / 1099511627776 := by omega
  have e6 : v / 1099511627776 / 256 = v / 281474976710656 := by omega
  have e7 : v / 281474976710656 / 256 = v / 72057594037927936 := by omega
  rw [e2, e3, e4, e5, e6, e7, show v / 72057594037927936 % 256 = v / 72057594037927936 by omega]

theorem putb32 (v : Int) (h0 : 0 ≤ v) (h1 : v ≤ 4294967295) (w : World) : Calls Tryd.prog 69 #[.int .u32 v] w (NewP w 4 (be 4 v)) :=
  (put32 v h0 h1 w).mono fun e w' ⟨he, hw⟩ => by
    subst he hw
    exact ⟨_, rfl, sees_new _ _ (be 4 v) (be4 v h0 h1).symm (be_byt _ _) (by rw [be_len]; decide) _ rfl _ (be_len _ _).symm, (Below.refl _ _).alloc (Nat.le_refl _) _, Nat.le_refl _⟩
theorem putb64 (v : Int) (h0 : 0 ≤ v) (h1 : v ≤ 18446744073709551615) (w : World) : Calls Tryd.prog 68 #[.int .u64 v] w (NewP w 8 (be 8 v)) :=
  (put64 v h0 h1 w).mono fun e w' ⟨he, hw⟩ => by
    subst he hw
    exact ⟨_, rfl, sees_new _ _ (be 8 v) (be8 v h0 h1).symm (be_byt _ _) (by rw [be_len]; decide) _ rfl _ (be_len _ _).symm, (Below.refl _ _).alloc (Nat.le_refl _) _, Nat.le_refl _⟩

/-! ### The order of bytes -/
def tob (xs : List Int) : List UInt8 := xs.map fun n => UInt8.ofNat n.toNat
theorem strOfNums_toList (xs : List Int) : (strOfNums xs).toList = tob xs := by
  rw [ByteArray.toList_eq]; exact strOfNums_data xs

theorem ofNat_inj {x y : Int} (hx : 0 ≤ x ∧ x ≤ 255) (hy : 0 ≤ y ∧ y ≤ 255) (h : UInt8.ofNat x.toNat = UInt8.ofNat y.toNat) : x = y := by
  have := congrArg UInt8.toNat h
  simp at this
  omega
theorem tob_inj : ∀ {xs ys : List Int}, Byt xs → Byt ys → tob xs = tob ys → xs = ys
  | [], [], _, _, _ => rfl
  | [], _ :: _, _, _, h => by simp [tob] at h
  | _ :: _, [], _, _, h => by simp [tob] at h
  | x :: xs, y :: ys, hx, hy, h => by
    simp only [tob, List.map_cons, List.cons.injEq] at h
    rw [ofNat_inj (hx x (by simp)) (hy y (by simp)) h.1, tob_inj (xs := xs) (ys := ys) (fun z hz => hx z (by simp [hz])) (fun z hz => hy z (by simp [hz])) h.2]
end Go.Proofs.YtjdamlmoegippaaDoor.hl
namespace Go.Proofs.YtjdamlmoegippaaDoor.hl
open Go.RowKit

/-- The call's own bytes, in a block from base on. -/
def Own (w : World) (base : Nat) (v : Value) (xs : List Int) : Prop := Byt xs ∧ w.ownsRow base 5 1 v xs.length (xs.map (Value.int .u8))

theorem own_nil (w : World) (base : Nat) : Own w base (.slice none 0 0) [] := ⟨fun _ h => by simp at h, World.ownsRow_nil w base 5 1⟩

theorem Own.sees {w : World} {base : Nat} {v : Value} {xs : List Int} (h : Own w base v xs) : Sees w v xs := by
  obtain ⟨hb, hl, ⟨rfl, h0⟩ | ⟨g, cap, cur, rfl, _, hg, hn, hm, hs, ht⟩⟩ := h
  · exact ⟨hb, .inl ⟨rfl, List.length_eq_zero_iff.1 h0⟩⟩
  · refine ⟨hb, ?_⟩
    by_cases h0 : xs = []
    · subst h0
      exact .inr (.inl ⟨_, _, rfl, rfl, hm⟩)
    · refine .inr (.inr ⟨g, 0, cap, rfl, h0, hn, hm, fun i hi => ?_⟩)
      rw [cell_of_row _ _ _ _ _ _ hg, Nat.zero_add]
      have h1 : (xs.map (Value.int .u8))[i]? = some (.int .u8 (nth xs i)) := by simp [nth, List.getD, hi]
      rw [← ht, List.getElem?_take_of_lt (by omega)] at h1
      simpa using h1

theorem Own.grown {w w' : World} {base : Nat} {v : Value} {xs : List Int} {row : Option Nat} (h : Own w base v xs) (hg : w.grownBy w' row) (hne : v.ownBlock = none ∨ v.ownBlock ≠ row) : Own w' base v xs := ⟨h.1, h.2.kept hg hne⟩

theorem Own.below {w w' : World} {base : Nat} {v : Value} {xs : List Int} (h : Own w base v xs) (hb : Below w.heap.size w w') : Own w' base v xs :=
  h.grown (row := none) ⟨hb.os, hb.tape, hb.output, hb.size, fun k hk _ => hb.block k hk⟩ (by cases v.ownBlock <;> simp)

/-- An append whose run is known, in a plain region. -/
theorem wpList_app {ops : Array Oper} {rest : List Oper} {o : Oper} {a : Act} {w : World} {Q : Exit → Act → World → Prop} (hgd : o.guard = none) (s x : Operand)
    (ho : o.op = .call { callee := .builtin .append, args := #[s, x], argTypes := #[37, 37] }) (hty : o.type = 37) {v u v' : Value} {w' : World} (hs : a.eval s = v) (hx : a.eval x = u)
    (hr : (Builtin.append_ #[37, 37] 37 #[v, u]).run Tryd.prog w = .ok v' w') (h : wpList Tryd.prog ops Q rest (a.put o.dst v') w') : wpList Tryd.prog ops Q (o :: rest) a w := by
  refine wpList_plain hgd fun K hK => ?_
  unfold Oper.wp execOp
  simp only [ho, hty, resolve, invoke, builtin, Sem.run_bind, Sem.run_pure, Result.andThen_ok, List.map_toArray, List.map_cons, List.map_nil, hs, hx, hr]
  exact hK _ _ h

/-- What Pad tells: the error; the bytes. -/
def padE (l : Nat) (n : Int) : Int := if n < 0 ∨ 65536 < n then 1 else if n < l then 2 else 0
def padV (xs : List Int) (n : Int) : List Int := if padE xs.length n = 0 then xs ++ List.replicate (n.toNat - xs.length) 0 else []

def PadP (w : World) (xs : List Int) (n : Int) (e : Ending) (w' : World) : Prop :=
  ∃ v, e = .returned (.tuple #[v, .int .i64 (padE xs.length n)]) ∧ Sees w' v (padV xs n) ∧ Below w.heap.size w w'

theorem PadP.mk {w : World} {xs : List Int} {n k : Int} {v : Value} {w' : World} (hE : padE xs.length n = k) (hs : Sees w' v (padV xs n)) (hb : Below w.heap.size w w') : PadP w xs n (.returned (.tuple #[v, .int .i64 k])) w' := ⟨v, by rw [hE], hs, hb⟩

theorem byt_zero (k : Nat) : Byt (List.replicate k 0) := fun x h => by
  rw [List.mem_replicate] at h
  omega

end Go.Proofs.YtjdamlmoegippaaDoor.hl
namespace Go.Proofs.YtjdamlmoegippaaDoor.hl
open Go.RowKit

/-- Turned by n (0 < n < 32): as the program reckons it. -/
def rot (n : Nat) (x : Int) : Int := bits .or .u32 (x * 2 ^ (32 - n) % 4294967296) (x / 2 ^ n)
set_option maxRecDepth 10000 in
theorem rl2 (x : Int) (w : World) : Calls Tryd.prog 75 #[.int .u32 x, .int .i64 (-2)] w fun e w' => e = .returned (.int .u32 (rot 2 x)) ∧ w = w' := by
  have hw : IntKind.u64.wrap (-2) = 18446744073709551614 := by kernel_rfl
  have hb : bits .and .u64 18446744073709551614 31 = 30 := by kernel_rfl
  have HE : Hid (rot 2 x = bits BinOp.or .u32 (x * 1073741824 % 4294967296) (x / 4)) := rfl
  go_enter Tryd.func75, Tryd.ntmps75
  go_wp2
  go_ret
  exact ⟨by rw [HE.out]; rfl, rfl⟩
theorem turned2 (x : Int) (w : World) : Calls Tryd.prog 71 #[.int .u32 x, .int .i64 2] w fun e w' => e = .returned (.int .u32 (rot 2 x)) ∧ w = w' := by
  go_enter Tryd.func71, Tryd.ntmps71
  go_wp2_with (go_at_call 75; refine (rl2 x _).mono ?_; rintro e w' ⟨rfl, rfl⟩)
  go_ret
  exact ⟨rfl, rfl⟩
set_option maxRecDepth 10000 in
theorem rl6 (x : Int) (w : World) : Calls Tryd.prog 75 #[.int .u32 x, .int .i64 (-6)] w fun e w' => e = .returned (.int .u32 (rot 6 x)) ∧ w = w' := by
  have hw : IntKind.u64.wrap (-6) = 18446744073709551610 := by kernel_rfl
  have hb : bits .and .u64 18446744073709551610 31 = 26 := by kernel_rfl
  have HE : Hid (rot 6 x = bits BinOp.or .u32 (x * 67108864 % 4294967296) (x / 64)) := rfl
  go_enter Tryd.func75, Tryd.ntmps75
  go_wp2
  go_ret
  exact ⟨by rw [HE.out]; rfl, rfl⟩
theorem turned6 (x : Int) (w : World) : Calls Tryd.prog 71 #[.int .u32 x, .int .i64 6] w fun e w' => e = .returned (.int .u32 (rot 6 x)) ∧ w = w' := by
  go_enter Tryd.func71, Tryd.ntmps71
  go_wp2_with (go_at_call 75; refine (rl6 x _).mono ?_; rintro e w' ⟨rfl, rfl⟩)
  go_ret
  exact ⟨rfl, rfl⟩
set_option maxRecDepth 10000 in
theorem rl7 (x : Int) (w : World) : Calls Tryd.prog 75 #[.int .u32 x, .int .i64 (-7)] w fun e w' => e = .returned (.int .u32 (rot 7 x)) ∧ w = w' := by
  have hw : IntKind.u64.wrap (-7) = 18446744073709551609 := by kernel_rfl
  have hb : bits .and .u64 18446744073709551609 31 = 25 := by kernel_rfl
  have HE : Hid (rot 7 x = bits BinOp.or .u32 (x * 33554432 % 4294967296) (x / 128)) := rfl
  go_enter Tryd.func75, Tryd.ntmps75
  go_wp2
  go_ret
  exact ⟨by rw [HE.out]; rfl, rfl⟩
theorem turned7 (x : Int) (w : World) : Calls Tryd.prog 71 #[.int .u32 x, .int .i64 7] w fun e w' => e = .returned (.int .u32 (rot 7 x)) ∧ w = w' := by
  go_enter Tryd.func71, Tryd.ntmps71
  go_wp2_with (go_at_call 75; refine (rl7 x _).mono ?_; rintro e w' ⟨rfl, rfl⟩)
  go_ret
  exact ⟨rfl, rfl⟩
set_option maxRecDepth 10000 in
theorem rl11 (x : Int) (w : World) : Calls Tryd.prog 75 #[.int .u32 x, .int .i64 (-11)] w fun e w' => e = .returned (.int .u32 (rot 11 x)) ∧ w = w' := by
  have hw : IntKind.u64.wrap (-11) = 18446744073709551605 := by kernel_rfl
  have hb : bits .and .u64 18446744073709551605 31 = 21 := by kernel_rfl
  have HE : Hid (rot 11 x = bits BinOp.or .u32 (x * 2097152 % 4294967296) (x / 2048)) := rfl
  go_enter Tryd.func75, Tryd.ntmps75
  go_wp2
  go_ret
  exact ⟨by rw [HE.out]; rfl, rfl⟩
theorem turned11 (x : Int) (w : World) : Calls Tryd.prog 71 #[.int .u32 x, .int .i64 11] w fun e w' => e = .returned (.int .u32 (rot 11 x)) ∧ w = w' := by
  go_enter Tryd.func71, Tryd.ntmps71
  go_wp2_with (go_at_call 75; refine (rl11 x _).mono ?_; rintro e w' ⟨rfl, rfl⟩)
  go_ret
  exact ⟨rfl, rfl⟩
set_option maxRecDepth 10000 in
theorem rl13 (x : Int) (w : World) : Calls Tryd.prog 75 #[.int .u32 x, .int .i64 (-13)] w fun e w' => e = .returned (.int .u32 (rot 13 x)) ∧ w = w' := by
  have hw : IntKind.u64.wrap (-13) = 18446744073709551603 := by kernel_rfl
  have hb : bits .and .u64 18446744073709551603 31 = 19 := by kernel_rfl
  have HE : Hid (rot 13 x = bits BinOp.or .u32 (x * 524288 % 4294967296) (x / 8192)) := rfl
  go_enter Tryd.func75, Tryd.ntmps75
  go_wp2
  go_ret
  exact ⟨by rw [HE.out]; rfl, rfl⟩
theorem turned13 (x : Int) (w : World) : Calls Tryd.prog 71 #[.int .u32 x, .int .i64 13] w fun e w' => e = .returned (.int .u32 (rot 13 x)) ∧ w = w' := by
  go_enter Tryd.func71, Tryd.ntmps71
  go_wp2_with (go_at_call 75; refine (rl13 x _).mono ?_; rintro e w' ⟨rfl, rfl⟩)
  go_ret
  exact ⟨rfl, rfl⟩
set_option maxRecDepth 10000 in
theorem rl17 (x : Int) (w : World) : Calls Tryd.prog 75 #[.int .u32 x, .int .i64 (-17)] w fun e w' => e = .returned (.int .u32 (rot 17 x)) ∧ w = w' := by
  have hw : IntKind.u64.wrap (-17) = 18446744073709551599 := by kernel_rfl
  have hb : bits .and .u64 18446744073709551599 31 = 15 := by kernel_rfl
  have HE : Hid (rot 17 x = bits BinOp.or .u32 (x * 32768 % 4294967296) (x / 131072)) := rfl
  go_enter Tryd.func75, Tryd.ntmps75
  go_wp2
  go_ret
  exact ⟨by rw [HE.out]; rfl, rfl⟩
theorem turned17 (x : Int) (w : World) : Calls Tryd.prog 71 #[.int .u32 x, .int .i64 17] w fun e w' => e = .returned (.int .u32 (rot 17 x)) ∧ w = w' := by
  go_enter Tryd.func71, Tryd.ntmps71
  go_wp2_with (go_at_call 75; refine (rl17 x _).mono ?_; rintro e w' ⟨rfl, rfl⟩)
  go_ret
  exact ⟨rfl, rfl⟩
set_option maxRecDepth 10000 in
theorem rl18 (x : Int) (w : World) : Calls Tryd.prog 75 #[.int .u32 x, .int .i64 (-18)] w fun e w' => e = .returned (.int .u32 (rot 18 x)) ∧ w = w' := by
  have hw : IntKind.u64.wrap (-18) = 18446744073709551598 := by kernel_rfl
  have hb : bits .and .u64 18446744073709551598 31 = 14 := by kernel_rfl
  have HE : Hid (rot 18 x = bits BinOp.or .u32 (x * 16384 % 4294967296) (x / 262144)) := rfl
  go_enter Tryd.func75, Tryd.ntmps75
  go_wp2
  go_ret
  exact ⟨by rw [HE.out]; rfl, rfl⟩
theorem turned18 (x : Int) (w : World) : Calls Tryd.prog 71 #[.int .u32 x, .int .i64 18] w fun e w' => e = .returned (.int .u32 (rot 18 x)) ∧ w = w' := by
  go_enter Tryd.func71, Tryd.ntmps71
  go_wp2_with (go_at_call 75; refine (rl18 x _).mono ?_; rintro e w' ⟨rfl, rfl⟩)
  go_ret
  exact ⟨rfl, rfl⟩
set_option maxRecDepth 10000 in
theorem rl19 (x : Int) (w : World) : Calls Tryd.prog 75 #[.int .u32 x, .int .i64 (-19)] w fun e w' => e = .returned (.int .u32 (rot 19 x)) ∧ w = w' := by
  have hw : IntKind.u64.wrap (-19) = 18446744073709551597 := by kernel_rfl
  have hb : bits .and .u64 18446744073709551597 31 = 13 := by kernel_rfl
  have HE : Hid (rot 19 x = bits BinOp.or .u32 (x * 8192 % 4294967296) (x / 524288)) := rfl
  go_enter Tryd.func75, Tryd.ntmps75
  go_wp2
  go_ret
  exact ⟨by rw [HE.out]; rfl, rfl⟩
theorem turned19 (x : Int) (w : World) : Calls Tryd.prog 71 #[.int .u32 x, .int .i64 19] w fun e w' => e = .returned (.int .u32 (rot 19 x)) ∧ w = w' := by
  go_enter Tryd.func71, Tryd.ntmps71
  go_wp2_with (go_at_call 75; refine (rl19 x _).mono ?_; rintro e w' ⟨rfl, rfl⟩)
  go_ret
  exact ⟨rfl, rfl⟩
set_option maxRecDepth 10000 in
theorem rl22 (x : Int) (w : World) : Calls Tryd.prog 75 #[.int .u32 x, .int .i64 (-22)] w fun e w' => e = .returned (.int .u32 (rot 22 x)) ∧ w = w' := by
  have hw : IntKind.u64.wrap (-22) = 18446744073709551594 := by kernel_rfl
  have hb : bits .and .u64 18446744073709551594 31 = 10 := by kernel_rfl
  have HE : Hid (rot 22 x = bits BinOp.or .u32 (x * 1024 % 4294967296) (x / 4194304)) := rfl
  go_enter Tryd.func75, Tryd.ntmps75
  go_wp2
  go_ret
  exact ⟨by rw [HE.out]; rfl, rfl⟩
theorem turned22 (x : Int) (w : World) : Calls Tryd.prog 71 #[.int .u32 x, .int .i64 22] w fun e w' => e = .returned (.int .u32 (rot 22 x)) ∧ w = w' := by
  go_enter Tryd.func71, Tryd.ntmps71
  go_wp2_with (go_at_call 75; refine (rl22 x _).mono ?_; rintro e w' ⟨rfl, rfl⟩)
  go_ret
  exact ⟨rfl, rfl⟩
set_option maxRecDepth 10000 in
theorem rl25 (x : Int) (w : World) : Calls Tryd.prog 75 #[.int .u32 x, .int .i64 (-25)] w fun e w' => e = .returned (.int .u32 (rot 25 x)) ∧ w = w' := by
  have hw : IntKind.u64.wrap (-25) = 18446744073709551591 := by kernel_rfl
  have hb : bits .and .u64 18446744073709551591 31 = 7 := by kernel_rfl
  have HE : Hid (rot 25 x = bits BinOp.or .u32 (x * 128 % 4294967296) (x / 33554432)) := rfl
  go_enter Tryd.func75, Tryd.ntmps75
  go_wp2
  go_ret
  exact ⟨by rw [HE.out]; rfl, rfl⟩
theorem turned25 (x : Int) (w : World) : Calls Tryd.prog 71 #[.int .u32 x, .int .i64 25] w fun e w' => e = .returned (.int .u32 (rot 25 x)) ∧ w = w' := by
  go_enter Tryd.func71, Tryd.ntmps71
  go_wp2_with (go_at_call 75; refine (rl25 x _).mono ?_; rintro e w' ⟨rfl, rfl⟩)
  go_ret
  exact ⟨rfl, rfl⟩
theorem bits_u32 (op : BinOp) (x y : Int) : 0 ≤ bits op .u32 x y ∧ bits op .u32 x y ≤ 4294967295 := bounds_u32 (wf_bits op .u32 x y)
end Go.Proofs.YtjdamlmoegippaaDoor.hl
