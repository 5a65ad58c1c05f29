/-
  Contracts of the closures by which package req reads a request's fields. Condition: the reader is one that Read made.
-/
import Derived.Test.YtdohggpajhkkhaaRqC
namespace Go.Proofs.Ytdohggpajhkkhaa
open Go.RowKit
/-- Nothing that was there has turned, but blocks of S. -/
structure Mods (S : Nat → Prop) (w w' : World) : Prop where
  os : w'.os = w.os
  tape : w'.tape = w.tape
  output : w'.output = w.output
  size : w.heap.size ≤ w'.heap.size
  block : ∀ k, k < w.heap.size → ¬ S k → w'.heap[k]? = w.heap[k]?
section
variable {S T : Nat → Prop} {w w1 w2 w' : World}
theorem Mods.refl (S : Nat → Prop) (w : World) : Mods S w w := ⟨rfl, rfl, rfl, Nat.le_refl _, fun _ _ _ => rfl⟩
theorem Mods.trans (h : Mods S w w1) (k : Mods T w1 w2) (hT : ∀ b, T b → S b ∨ w.heap.size ≤ b) : Mods S w w2 :=
  ⟨k.os.trans h.os, k.tape.trans h.tape, k.output.trans h.output, Nat.le_trans h.size k.size, fun b hb hs =>
    (k.block b (Nat.lt_of_lt_of_le hb h.size) (fun ht => by rcases hT b ht with h1 | h1; exact hs h1; omega)).trans (h.block b hb hs)⟩
theorem Mods.mono (h : Mods S w w') (hS : ∀ b, S b → T b ∨ w.heap.size ≤ b) : Mods T w w' :=
  ⟨h.os, h.tape, h.output, h.size, fun b hb hs => h.block b hb (fun ht => by rcases hS b ht with h1 | h1; exact hs h1; omega)⟩
theorem Mods.of_below (h : Below w.heap.size w w') : Mods S w w' := ⟨h.os, h.tape, h.output, h.size, fun b hb _ => h.block b hb⟩
theorem Mods.of_grown {r : Option Nat} (h : w.grownBy w' r) : Mods (fun k => r = some k) w w' := ⟨h.os, h.tape, h.output, h.size, fun b hb hs => h.block b hb (fun e => hs e.symm)⟩
theorem Mods.row (w : World) (g : Nat) (cs : Array Value) : Mods (fun k => k = g) w (w.setRow g cs) := ⟨rfl, rfl, rfl, by rw [setRow_size]; exact Nat.le_refl _, fun b _ h => setRow_other w g b cs h⟩
end
theorem getV_got (xs : List Int) (s : Bool) (n : Nat) : getV (got xs s n) 0 n = numI (got xs s n) := by
  by_cases h : shrt xs.length s n = true
  · have e : got xs s n = [] := by simp [got, h]
    rw [e]
    unfold getV
    rw [if_neg (by omega)]
    split
    · rfl
    · simp
  · have e : got xs s n = xs.take n := by simp [got, h]
    have hl : n ≤ xs.length := by simp [shrt] at h; omega
    have hlen : (xs.take n).length = n := by simp [hl]
    rw [e]
    unfold getV
    rw [if_neg (by omega), if_neg (by rw [hlen]; omega)]
    simp [List.take_take]
theorem got_le (xs : List Int) (s : Bool) (n : Nat) : (got xs s n).length ≤ n := by
  unfold got
  split
  · simp
  · rw [List.length_take, Int.toNat_natCast]; omega
theorem got_byt {xs : List Int} (h : Byt xs) (s : Bool) (n : Int) : Byt (got xs s n) := by
  unfold got
  split
  · exact fun _ h => by simp at h
  · exact h.take _
theorem addr_add (g o n : Nat) : (⟨g, o, none⟩ : Addr).add n = ⟨g, o + n, none⟩ := by unfold Addr.add; split <;> simp_all
theorem numI_got (xs : List Int) (s : Bool) (n : Nat) (hb : Byt xs) : 0 ≤ numI (got xs s n) ∧ numI (got xs s n) < 256 ^ n := by
  have h := numI_bd _ (got xs s n) rfl (got_byt hb s n)
  have h2 : (256 : Int) ^ (got xs s n).length ≤ 256 ^ n := by
    have := Nat.pow_le_pow_right (n := 256) (by omega) (got_le xs s n)
    exact Int.ofNat_le.2 this |> fun h => by simpa using h
  omega
theorem rst_len (xs : List Int) (s : Bool) (n : Int) : (rst xs s n).length ≤ xs.length := by
  unfold rst
  split
  · omega
  · rw [List.length_drop]; omega
/-- Behind a field: the reader has gone on, block R has other cells; nothing else that was there has turned. -/
def FldP (W : World) (R g : Nat) (C : Array Value) (xs : List Int) (s : Bool) (n : Int) (e : Ending) (w' : World) : Prop :=
  e = .returned (.tuple #[]) ∧ w'.heap[R]? = some (.cells C 26 (0, 0)) ∧ rx.RD w' g (rst xs s n) (shrt xs.length s n) ∧ Mods (fun k => k = g ∨ k = R) W w'
theorem setCellRow (w : World) (g i : Nat) (cur : Array Value) (t : TypeId) (v : Value) (hg : w.heap[g]? = some (.cells cur t (0, 0))) : w.setCell ⟨g, i, none⟩ v = w.setRow g (cur.setIfInBounds i v) := by rw [setCell_eq_setRow w g i _ _ _ _ hg]
theorem fldS {W w1 : World} {R g : Nat} {C : Array Value} {xs ys : List Int} {s s' : Bool} {i : Nat} {v : Value} (hg : W.grownBy w1 (some g)) (hr : rx.RD w1 g ys s') (hR : w1.heap[R]? = some (.cells C 26 (0, 0))) (hgR : g < R) {n : Int} (e1 : ys = rst xs s n) (e2 : s' = shrt xs.length s n) :
    FldP W R g (C.setIfInBounds i v) xs s n (.returned (.tuple #[])) (w1.setCell ⟨R, i, none⟩ v) := by
  subst e1 e2
  rw [setCellRow w1 R i C 26 v hR]
  exact ⟨rfl, setRow_heap _ R _ _ _ _ hR, hr.setRow _ (by omega) (by omega), ((Mods.of_grown hg).mono (fun b hb => .inl (.inl (by cases hb; rfl)))).trans (Mods.row w1 R _) (fun b hb => .inl (.inr hb))⟩

set_option maxRecDepth 100000 in
set_option maxHeartbeats 2000000 in
theorem read1 (R off g P : Nat) (C : Array Value) (xs : List Int) (s : Bool) (W : World) (hr : rx.RD W g xs s) (hP : W.heap[P]? = some (.cells #[.pointer (some ⟨g, 0, none⟩)] 58 (0, 0))) (hR : W.heap[R]? = some (.cells C 26 (0, 0))) (hoff : off < C.size) (hgR : g < R) :
    Calls Try.prog 42 #[.pointer (some ⟨R, off, none⟩), .int .i64 1, .pointer (some ⟨P, 0, none⟩)] W (FldP W R g (C.setIfInBounds off (.int .i64 (numI (got xs s 1)))) xs s 1) := by
  have hb : 0 ≤ numI (got xs s 1) ∧ numI (got xs s 1) < 256 ^ 1 := numI_got xs s 1 hr.1
  have cp : W.cell? ⟨P, 0, none⟩ = some (.pointer (some ⟨g, 0, none⟩)) := by rw [cell_of_row W P 0 _ _ _ hP]; rfl
  have H := Lib.hid hr
  have HR := Lib.hid hR
  have HO := Lib.hid hoff
  have HG := Lib.hid hgR
  obtain ⟨u, hu⟩ : ∃ u, C[off]? = some u := ⟨_, Array.getElem?_eq_getElem hoff⟩
  have HU := Lib.hid hu
  have e := getV_got xs s 1
  have EV : Hid (getV (got xs s 1) 0 1 = numI (got xs s 1)) := e
  have b0 : 0 ≤ numI (got xs s 1) := hb.1
  have b1 : numI (got xs s 1) ≤ 255 := by have h2 := hb.2; have h3 : (256 : Int) ^ 1 = 256 := (by decide); omega
  clear hr hP hR hoff hgR hb hu e
  go_enter Try.func42, Try.ntmps42
  go_wp2_with fail
  refine (rx.u8 g xs s _ H.out).mono ?_
  rintro e w1 ⟨rfl, h1, h2⟩
  rw [EV.out]
  have R1 : w1.heap[R]? = some (.cells C 26 (0, 0)) := by rw [h2.block R (blk_lt HR.out) (fun e => by have := HG.out; cases e; omega)]; exact HR.out
  have HF := Lib.hid (fldS (i := off) (v := .int .i64 (numI (got xs s 1))) h2 h1 R1 HG.out rfl rfl)
  have cc : w1.cell? ⟨R, off, none⟩ = some u := by rw [cell_of_row w1 R off _ _ _ R1]; exact HU.out
  have ff : w1.frozen? ⟨R, off, none⟩ = false := frozen_block R1 off
  clear h1 h2 R1 H HR HU
  generalize numI (got xs s 1) = z at *
  go_wp2_with fail
  exact bodyPost_end (results_none rfl _ _ _) rfl HF.out

set_option maxRecDepth 100000 in
set_option maxHeartbeats 2000000 in
theorem read2 (R off g P : Nat) (C : Array Value) (xs : List Int) (s : Bool) (W : World) (hr : rx.RD W g xs s) (hP : W.heap[P]? = some (.cells #[.pointer (some ⟨g, 0, none⟩)] 58 (0, 0))) (hR : W.heap[R]? = some (.cells C 26 (0, 0))) (hoff : off < C.size) (hgR : g < R) :
    Calls Try.prog 42 #[.pointer (some ⟨R, off, none⟩), .int .i64 2, .pointer (some ⟨P, 0, none⟩)] W (FldP W R g (C.setIfInBounds off (.int .i64 (numI (got xs s 2)))) xs s 2) := by
  have hb : 0 ≤ numI (got xs s 2) ∧ numI (got xs s 2) < 256 ^ 2 := numI_got xs s 2 hr.1
  have cp : W.cell? ⟨P, 0, none⟩ = some (.pointer (some ⟨g, 0, none⟩)) := by rw [cell_of_row W P 0 _ _ _ hP]; rfl
  have H := Lib.hid hr
  have HR := Lib.hid hR
  have HO := Lib.hid hoff
  have HG := Lib.hid hgR
  obtain ⟨u, hu⟩ : ∃ u, C[off]? = some u := ⟨_, Array.getElem?_eq_getElem hoff⟩
  have HU := Lib.hid hu
  have e := getV_got xs s 2
  have EV : Hid (getV (got xs s 2) 0 2 = numI (got xs s 2)) := e
  have b0 : 0 ≤ numI (got xs s 2) := hb.1
  have b1 : numI (got xs s 2) ≤ 65535 := by have h2 := hb.2; have h3 : (256 : Int) ^ 2 = 65536 := (by decide); omega
  clear hr hP hR hoff hgR hb hu e
  go_enter Try.func42, Try.ntmps42
  go_wp2_with fail
  refine (rx.u16 g xs s _ H.out).mono ?_
  rintro e w1 ⟨rfl, h1, h2⟩
  rw [EV.out]
  have R1 : w1.heap[R]? = some (.cells C 26 (0, 0)) := by rw [h2.block R (blk_lt HR.out) (fun e => by have := HG.out; cases e; omega)]; exact HR.out
  have HF := Lib.hid (fldS (i := off) (v := .int .i64 (numI (got xs s 2))) h2 h1 R1 HG.out rfl rfl)
  have cc : w1.cell? ⟨R, off, none⟩ = some u := by rw [cell_of_row w1 R off _ _ _ R1]; exact HU.out
  have ff : w1.frozen? ⟨R, off, none⟩ = false := frozen_block R1 off
  clear h1 h2 R1 H HR HU
  generalize numI (got xs s 2) = z at *
  go_wp2_with fail
  exact bodyPost_end (results_none rfl _ _ _) rfl HF.out

theorem ownb {w : World} {q n c : Nat} {ys : List Int} (h : Sees w (.slice (some ⟨q, 0, none⟩) n c) ys) : n = ys.length := by
  obtain ⟨x, cap, e, _⟩ := h.form
  cases e; rfl
theorem copyRow {w1 : World} {R off q n c : Nat} {C : Array Value} {ys : List Int} (hR : w1.heap[R]? = some (.cells C 26 (0, 0))) (hs : Sees w1 (.slice (some ⟨q, 0, none⟩) n c) ys) (hn : n = ys.length) (hl : ys.length ≤ 32) (hfit : off + ys.length ≤ C.size) :
    (Builtin.copy_ #[24, 24] 3 #[.slice (some ⟨R, off, none⟩) 32 32, .slice (some ⟨q, 0, none⟩) n c]).run Try.prog w1 = .ok (.int .i64 ys.length) (w1.setRow R (C.toList.take off ++ kb ys ++ C.toList.drop (off + ys.length)).toArray) := by
  have e32 : ys.length = Nat.min n 32 := by rw [hn]; exact (Nat.min_eq_left hl).symm
  have hk : (kb ys).length = ys.length := kb_len ys
  have r := run_copy_row Try.prog w1 24 24 3 5 R off 32 32 ⟨q, 0, none⟩ n c C 26 (kb ys) Try.underlying24 info5s hR (by rw [hk]; exact e32) (fun j u hj => by
    have hjl : j < ys.length := by
      rcases Nat.lt_or_ge j ys.length with h | h
      · exact h
      · rw [List.getElem?_eq_none (by rw [hk]; exact h)] at hj; simp at hj
    have h0 := hs.cell j hjl
    rw [kb_at ys j hjl] at hj
    rw [addr_add, h0]
    exact hj) (by rw [hk]; exact hfit) (by intro v hv; simp only [kb, List.mem_map] at hv; obtain ⟨_, _, rfl⟩ := hv; rfl)
  rw [hk] at r
  rw [r]
  simp [goInt]
set_option maxRecDepth 100000 in
set_option maxHeartbeats 2000000 in
theorem readK (R off g P : Nat) (C : Array Value) (xs : List Int) (s : Bool) (hl : xs.length ≤ 1000000) (W : World) (hr : rx.RD W g xs s) (hP : W.heap[P]? = some (.cells #[.pointer (some ⟨g, 0, none⟩)] 58 (0, 0))) (hR : W.heap[R]? = some (.cells C 26 (0, 0))) (hoff : off + 32 ≤ C.size) (hgR : g < R) :
    Calls Try.prog 44 #[.slice (some ⟨R, off, none⟩) 32 32, .pointer (some ⟨P, 0, none⟩)] W (FldP W R g (C.toList.take off ++ kb (got xs s 32) ++ C.toList.drop (off + (got xs s 32).length)).toArray xs s 32) := by
  have cp : W.cell? ⟨P, 0, none⟩ = some (.pointer (some ⟨g, 0, none⟩)) := by rw [cell_of_row W P 0 _ _ _ hP]; rfl
  have H := Lib.hid hr
  have HR := Lib.hid hR
  have HO := Lib.hid hoff
  have HG := Lib.hid hgR
  have HL := Lib.hid hl
  have h32 : Hid ((got xs s 32).length ≤ 32) := got_le xs s 32
  obtain ⟨C2, hC2⟩ : ∃ x, x = (C.toList.take off ++ kb (got xs s 32) ++ C.toList.drop (off + (got xs s 32).length)).toArray := ⟨_, rfl⟩
  rw [← hC2]
  have HC2 := Lib.hid hC2
  clear hr hP hR hoff hgR hl hC2
  go_enter Try.func44, Try.ntmps44
  go_wp2_with fail
  refine (rx.bytes_rd g xs s 32 HL.out _ H.out).mono ?_
  rintro e w1 ⟨q, rfl, h1, h2, h3, h4⟩
  have R1 : w1.heap[R]? = some (.cells C 26 (0, 0)) := by rw [h4.block R (blk_lt HR.out) (fun e => by have := HG.out; cases e; omega)]; exact HR.out
  have hc := copyRow (off := off) R1 h1 rfl h32.out (by have := h32.out; have := HO.out; omega)
  rw [← HC2.out] at hc
  have HC := Lib.hid hc
  have HF : Hid (FldP W R g C2 xs s 32 (.returned (.tuple #[])) (w1.setRow R C2)) :=
    ⟨rfl, setRow_heap _ R _ _ _ _ R1, h3.setRow _ (by have := HG.out; omega) (by have := HG.out; omega), ((Mods.of_grown h4).mono (fun b hb => .inl (.inl (by cases hb; rfl)))).trans (Mods.row w1 R _) (fun b hb => .inl (.inr hb))⟩
  clear h1 h2 h3 h4 R1 H HR h32 hc HC2
  generalize (got xs s 32).length = n at HC ⊢
  go_wp2_with (refine wpList_copy_run rfl _ _ rfl rfl rfl rfl HC.out ?_)
  exact bodyPost_end (results_none rfl _ _ _) rfl HF.out
set_option maxRecDepth 100000 in
theorem rest_rd (g : Nat) (xs : List Int) (s : Bool) (hl : xs.length ≤ 1000000) (w : World) (h : rx.RD w g xs s) : Calls Try.prog 47 #[.pointer (some ⟨g, 0, none⟩)] w (rx.BytesP w g xs s xs.length) := by
  have H := Lib.hid h
  obtain ⟨_, b, o, cap, hg, _, _, _, _⟩ := h
  have c0 : w.cell? ⟨g, 0, none⟩ = some (.slice (some ⟨b, o, none⟩) xs.length cap) := by rw [cell_of_row w g 0 _ _ _ hg]; rfl
  clear hg
  go_enter Try.func47, Try.ntmps47
  go_wp2_with fail
  refine (rx.bytes_rd g xs s xs.length hl _ H.out).mono ?_
  rintro e w1 ⟨q, rfl, h1, h2, h3, h4⟩
  have H1 := Lib.hid h1
  have H3 := Lib.hid h3
  have H4 := Lib.hid h4
  clear h1 h3 h4
  go_wp2_with fail
  go_ret
  exact ⟨q, rfl, H1.out, h2, H3.out, H4.out⟩
/-- The data are new memory. -/
def DatP (W : World) (R g : Nat) (C : Array Value) (xs : List Int) (s : Bool) (e : Ending) (w' : World) : Prop :=
  ∃ q n, Sees w' (.slice (some ⟨q, 0, none⟩) n n) (got xs s xs.length) ∧ W.heap.size ≤ q ∧ FldP W R g (C.setIfInBounds 137 (.slice (some ⟨q, 0, none⟩) n n)) xs s xs.length e w'
theorem Sees.row {w : World} {q n c R : Nat} {ys : List Int} {cs : Array Value} (h : Sees w (.slice (some ⟨q, 0, none⟩) n c) ys) (hne : q ≠ R) : Sees (w.setRow R cs) (.slice (some ⟨q, 0, none⟩) n c) ys :=
  h.grown (grownBy_setRow w R cs) (fun k hk => by cases hk; intro e; simp [Value.ownBlock] at e; exact hne e)
set_option maxRecDepth 100000 in
set_option maxHeartbeats 2000000 in
theorem readD (R g P : Nat) (C : Array Value) (xs : List Int) (s : Bool) (hl : xs.length ≤ 1000000) (W : World) (hr : rx.RD W g xs s) (hP : W.heap[P]? = some (.cells #[.pointer (some ⟨g, 0, none⟩)] 58 (0, 0))) (hR : W.heap[R]? = some (.cells C 26 (0, 0))) (hoff : 137 < C.size) (hgR : g < R) :
    Calls Try.prog 46 #[.pointer (some ⟨R, 137, none⟩), .pointer (some ⟨P, 0, none⟩)] W (DatP W R g C xs s) := by
  have cp : W.cell? ⟨P, 0, none⟩ = some (.pointer (some ⟨g, 0, none⟩)) := by rw [cell_of_row W P 0 _ _ _ hP]; rfl
  have H := Lib.hid hr
  have HR := Lib.hid hR
  have HG := Lib.hid hgR
  have HL := Lib.hid hl
  obtain ⟨u, hu⟩ : ∃ u, C[137]? = some u := ⟨_, Array.getElem?_eq_getElem hoff⟩
  have HU := Lib.hid hu
  clear hr hP hR hoff hgR hu hl
  go_enter Try.func46, Try.ntmps46
  go_wp2_with fail
  refine (rest_rd g xs s HL.out _ H.out).mono ?_
  rintro e w1 ⟨q, rfl, h1, h2, h3, h4⟩
  have R1 : w1.heap[R]? = some (.cells C 26 (0, 0)) := by rw [h4.block R (blk_lt HR.out) (fun e => by have := HG.out; cases e; omega)]; exact HR.out
  have HF : Hid (DatP W R g C xs s (.returned (.tuple #[])) (w1.setCell ⟨R, 137, none⟩ (.slice (some ⟨q, 0, none⟩) (got xs s xs.length).length (got xs s xs.length).length))) := by
    refine ⟨q, _, ?_, h2, fldS (i := 137) h4 h3 R1 HG.out rfl rfl⟩
    rw [setCellRow w1 R 137 C 26 _ R1]
    exact h1.row (by have := blk_lt HR.out; omega)
  have cc : w1.cell? ⟨R, 137, none⟩ = some u := by rw [cell_of_row w1 R 137 _ _ _ R1]; exact HU.out
  have ff : w1.frozen? ⟨R, 137, none⟩ = false := frozen_block R1 137
  clear h1 h2 h3 h4 R1 H HR HU
  generalize (got xs s xs.length).length = n at HF ⊢
  go_wp2_with fail
  exact bodyPost_end (results_none rfl _ _ _) rfl HF.out
end Go.Proofs.Ytdohggpajhkkhaa
