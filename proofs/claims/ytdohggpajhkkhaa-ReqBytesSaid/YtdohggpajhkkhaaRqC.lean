/-
  Contracts of req.written and req.whole: the bytes of a request's fields. Condition: the request's keys are 32 bytes, its data read as said.
-/
import Derived.Test.YtdohggpajhkkhaaRqBW
import Derived.Test.YtdohggpajhkkhaaRqBA
namespace Go.Proofs.Ytdohggpajhkkhaa
open Go.RowKit
def kb (l : List Int) : List Value := l.map (Value.int .u8)
def h9 (p : Rq) : List Value := [.int .i64 p.k, .int .i64 p.s, .int .i64 p.t, .int .i64 p.v, .int .i64 p.b, .int .i64 p.c, .int .i64 p.n, .int .i64 p.r, .int .i64 p.q]
/-- A request's cells. -/
def rc (p : Rq) (dv : Value) : List Value := h9 p ++ (kb p.o ++ (kb p.f ++ (kb p.m ++ (kb p.x ++ [dv]))))
def i64 (n : Int) : Prop := -9223372036854775808 ≤ n ∧ n ≤ 9223372036854775807
def k32 (l : List Int) : Prop := l.length = 32 ∧ Byt l
structure RQ (p : Rq) : Prop where
  k : i64 p.k
  s : i64 p.s
  t : i64 p.t
  v : i64 p.v
  b : i64 p.b
  c : i64 p.c
  n : i64 p.n
  r : i64 p.r
  q : i64 p.q
  o : k32 p.o
  f : k32 p.f
  m : k32 p.m
  x : k32 p.x
  d : p.d.length ≤ 10000
theorem kb_len (l : List Int) : (kb l).length = l.length := by simp [kb]
theorem rc_len {p : Rq} (h : RQ p) (dv : Value) : (rc p dv).length = 138 := by
  simp only [rc, List.length_append, kb_len, h.o.1, h.f.1, h.m.1, h.x.1]
  simp [h9]
theorem i26 {p : Rq} (h : RQ p) (dv : Value) : (Try.prog.info? 26).map (·.size) = some (rc p dv).toArray.size := by
  rw [List.size_toArray, rc_len h]
  kernel_rfl
theorem rc_num {l : Nat} (hl : isN l = true) (p : Rq) (dv : Value) : (rc p dv)[offL l]? = some (.int .i64 (numL p l)) := by
  unfold isN at hl
  simp only [Bool.or_eq_true, beq_iff_eq] at hl
  rcases hl with (((((((rfl | rfl) | rfl) | rfl) | rfl) | rfl) | rfl) | rfl) <;> rfl
theorem mid (A B C : List Value) (n i : Nat) (hA : A.length = n) (hi : i < B.length) : (A ++ (B ++ C))[n + i]? = B[i]? := by
  subst hA
  rw [List.getElem?_append_right (by omega), Nat.add_sub_cancel_left, List.getElem?_append_left hi]
theorem kb_at (l : List Int) (i : Nat) (hi : i < l.length) : (kb l)[i]? = some (.int .u8 (nth l i)) := by simp [kb, nth, List.getD, hi]
theorem rc_key {l : Nat} (hl : isK l = true) {p : Rq} (h : RQ p) (dv : Value) : k32 (keyL p l) ∧ ∀ i, i < 32 → (rc p dv)[offL l + i]? = some (.int .u8 (nth (keyL p l) i)) := by
  have g9 : (h9 p).length = 9 := rfl
  unfold isK at hl
  simp only [Bool.or_eq_true, beq_iff_eq] at hl
  rcases hl with (((rfl | rfl) | rfl) | rfl)
  · refine ⟨h.o, fun i hi => ?_⟩
    rw [← kb_at (keyL p 111) i (by rw [show keyL p 111 = p.o from rfl, h.o.1]; exact hi)]
    exact mid _ _ _ 9 i g9 (by rw [kb_len, h.o.1]; exact hi)
  · refine ⟨h.f, fun i hi => ?_⟩
    rw [← kb_at (keyL p 102) i (by rw [show keyL p 102 = p.f from rfl, h.f.1]; exact hi), show rc p dv = (h9 p ++ kb p.o) ++ (kb p.f ++ (kb p.m ++ (kb p.x ++ [dv]))) by simp [rc]]
    exact mid _ _ _ 41 i (by simp [g9, kb_len, h.o.1]) (by rw [kb_len, h.f.1]; exact hi)
  · refine ⟨h.m, fun i hi => ?_⟩
    rw [← kb_at (keyL p 109) i (by rw [show keyL p 109 = p.m from rfl, h.m.1]; exact hi), show rc p dv = (h9 p ++ (kb p.o ++ kb p.f)) ++ (kb p.m ++ (kb p.x ++ [dv])) by simp [rc]]
    exact mid _ _ _ 73 i (by simp [g9, kb_len, h.o.1, h.f.1]) (by rw [kb_len, h.m.1]; exact hi)
  · refine ⟨h.x, fun i hi => ?_⟩
    rw [← kb_at (keyL p 120) i (by rw [show keyL p 120 = p.x from rfl, h.x.1]; exact hi), show rc p dv = (h9 p ++ (kb p.o ++ (kb p.f ++ kb p.m))) ++ (kb p.x ++ [dv]) by simp [rc]]
    exact mid _ _ _ 105 i (by simp [g9, kb_len, h.o.1, h.f.1, h.m.1]) (by rw [kb_len, h.x.1]; exact hi)
theorem rc_dat {p : Rq} (h : RQ p) (dv : Value) : (rc p dv)[137]? = some dv := by
  rw [show rc p dv = (h9 p ++ (kb p.o ++ (kb p.f ++ (kb p.m ++ kb p.x)))) ++ ([dv] ++ []) by simp [rc]]
  have g9 : (h9 p).length = 9 := rfl
  exact mid _ [dv] [] 137 0 (by simp [g9, kb_len, h.o.1, h.f.1, h.m.1, h.x.1]) (by simp)
theorem arr_at (l : List Value) (i : Nat) : l.toArray[i]? = l[i]? := by simp
theorem row_num {W : World} {R : Nat} {p : Rq} {dv : Value} (h : W.heap[R]? = some (.cells (rc p dv).toArray 26 (0, 0))) {l : Nat} (hl : isN l = true) : W.cell? ⟨R, offL l, none⟩ = some (.int .i64 (numL p l)) := by
  rw [cell_of_row W R _ _ _ _ h, arr_at, rc_num hl]
theorem row_dat {W : World} {R : Nat} {p : Rq} {dv : Value} (hp : RQ p) (h : W.heap[R]? = some (.cells (rc p dv).toArray 26 (0, 0))) : W.cell? ⟨R, 137, none⟩ = some dv := by
  rw [cell_of_row W R _ _ _ _ h, arr_at, rc_dat hp]
theorem row_key {W : World} {R : Nat} {p : Rq} {dv : Value} (hp : RQ p) (h : W.heap[R]? = some (.cells (rc p dv).toArray 26 (0, 0))) {l : Nat} (hl : isK l = true) : Sees W (.slice (some ⟨R, offL l, none⟩) 32 32) (keyL p l) := by
  obtain ⟨⟨h1, h2⟩, h3⟩ := rc_key hl hp dv
  refine ⟨h2, .inr (.inr ⟨R, offL l, 32, by rw [h1], fun e => by rw [e] at h1; simp at h1, by omega, by decide, fun i hi => ?_⟩)⟩
  rw [cell_of_row W R _ _ _ _ h, arr_at, h3 i (by omega)]
/-- The bytes of a field as it is written; and whole. -/
def fieldW (p : Rq) (l : Nat) : List Int := if isN l = true then be (widN l) (numL p l) else if isK l = true then keyL p l else p.d
def fieldA (p : Rq) (l : Nat) : List Int := if isN l = true then be 8 (numL p l) else if isK l = true then keyL p l else p.d
def joinL (F : Nat → List Int) (ls : List Nat) : List Int := ls.flatMap F
/-- A string's letters. -/
def lets (s : ByteArray) : List Nat := s.data.toList.map UInt8.toNat
theorem lets_len (s : ByteArray) : (lets s).length = s.size := by unfold lets; rw [List.length_map, Array.length_toList]; rfl
theorem lets_at (s : ByteArray) (k : Nat) (h : k < s.size) : (lets s)[k]? = some (s[k]'h).toNat := by
  unfold lets
  rw [List.getElem?_map, List.getElem?_eq_getElem (by rw [Array.length_toList]; exact h)]
  rfl
theorem join_succ (F : Nat → List Int) (s : ByteArray) (k l : Nat) (h : ∃ h : k < s.size, (s[k]'h).toNat = l) : joinL F ((lets s).take (k + 1)) = joinL F ((lets s).take k) ++ F l := by
  obtain ⟨h1, rfl⟩ := h
  rw [List.take_add_one, lets_at s k h1]
  simp [joinL]
theorem join_le (F : Nat → List Int) (s : ByteArray) (k : Nat) : (joinL F ((lets s).take k)).length ≤ (joinL F (lets s)).length := by
  have h := congrArg (fun l => (joinL F l).length) (List.take_append_drop k (lets s))
  simp only [joinL, List.flatMap_append, List.length_append] at h ⊢
  omega
theorem ownsRow_base {w : World} {b b' : Nat} {v : Value} {xs : List Int} (h : Own w b v xs) (hb : b' ≤ b) : Own w b' v xs := by
  obtain ⟨h1, h2, h3 | ⟨g, cap, cur, e1, e2, e3⟩⟩ := h
  · exact ⟨h1, h2, .inl h3⟩
  · exact ⟨h1, h2, .inr ⟨g, cap, cur, e1, by omega, e3⟩⟩
theorem Own.form {w : World} {b : Nat} {v : Value} {xs : List Int} (h : Own w b v xs) : ∃ x cap, v = .slice x xs.length cap := by
  obtain ⟨h1, h2, ⟨rfl, h3⟩ | ⟨g, cap, cur, e1, e2, e3⟩⟩ := h
  · exact ⟨none, 0, by rw [h3]⟩
  · exact ⟨_, _, e1⟩
theorem grownBy_iterAt (w : World) (k : Nat) (s : ByteArray) (p : Nat) : w.grownBy (w.iterAt k s p) (some k) :=
  ⟨rfl, rfl, rfl, by rw [Lib.iterAt_size]; exact Nat.le_refl _, fun i _ hi => Lib.iterAt_other w k i s p (fun e => hi (by rw [e]))⟩
/-- The world while a request's fields are written: the request, the bytes so far. -/
def SW (w : World) (p : Rq) (dv : Value) (F : Nat → List Int) (s : ByteArray) (k : Nat) (W : World) : Prop :=
  Below w.heap.size w W ∧ W.heap[w.heap.size]? = some (.cells (rc p dv).toArray 26 (0, 0)) ∧ w.heap.size + 3 ≤ W.heap.size ∧
    ∃ v, W.heap[w.heap.size + 1]? = some (.cells #[v] 24 (0, 0)) ∧ Own W (w.heap.size + 3) v (joinL F ((lets s).take k))
theorem SW.iter {w : World} {p : Rq} {dv : Value} {F : Nat → List Int} {s : ByteArray} {k : Nat} {W : World} (h : SW w p dv F s k W) (n : Nat) : SW w p dv F s k (W.iterAt (w.heap.size + 2) s n) := by
  obtain ⟨h1, h2, h3, v, h4, h5⟩ := h
  refine ⟨Lib.below_iterAt h1 (by omega) s n, ?_, by rw [Lib.iterAt_size]; exact h3, v, ?_, ?_⟩
  · rw [Lib.iterAt_other _ _ _ _ _ (by omega)]; exact h2
  · rw [Lib.iterAt_other _ _ _ _ _ (by omega)]; exact h4
  · exact h5.grown (grownBy_iterAt W _ s n) (ownblk h5 (by omega))
theorem SW.step {w : World} {p : Rq} {dv : Value} {F : Nat → List Int} {s : ByteArray} {k l : Nat} {W : World} (h : SW w p dv F s k W) (hl : ∃ h : k < s.size, (s[k]'h).toNat = l) {e : Ending} {w' : World}
    (hp : AppP W (w.heap.size + 1) (w.heap.size + 2) (w.heap.size + 3) (joinL F ((lets s).take k) ++ F l) e w') : Stp (SW w p dv F s) (w.heap.size + 2) k W e w' := by
  obtain ⟨h1, h2, h3, v, h4, h5⟩ := h
  obtain ⟨rfl, g1, g2, u, g3, g4, g5⟩ := hp
  refine ⟨rfl, ⟨h1.trans (g1.mono (by omega)), ?_, g5, u, g3, ?_⟩, g2⟩
  · rw [g1.block _ (by omega)]; exact h2
  · rw [join_succ F s k l hl]; exact g4

/-- All letters. -/
def allS : ByteArray := ⟨#[115, 116, 118, 98, 99, 110, 114, 113, 111, 102, 109, 120, 100]⟩
theorem allS_ok : ∀ i (h : i < allS.size), isL (allS[i]'h).toNat = true := by decide

set_option maxRecDepth 100000 in
set_option maxHeartbeats 4000000 in
theorem written {p : Rq} (hp : RQ p) (dv : Value) (s : ByteArray) (hs : ∀ i (h : i < s.size), isL (s[i]'h).toNat = true) (hlen : (joinL (fieldW p) (lets s)).length ≤ 1000000) (w : World) (hd : Sees w dv p.d) :
    Calls Try.prog 19 #[.agg (rc p dv).toArray, .string s] w (OwnP w (joinL (fieldW p) (lets s))) := by
  obtain ⟨w1, hw1⟩ : ∃ w1, w1 = w.alloc (.cells (rc p dv).toArray 26) := ⟨_, rfl⟩
  obtain ⟨w2, hw2⟩ : ∃ w2, w2 = w1.alloc (.cells #[.slice none 0 0] 24) := ⟨_, rfl⟩
  have z1 : w1.heap.size = w.heap.size + 1 := by rw [hw1]; simp
  have z2 : w2.heap.size = w.heap.size + 2 := by rw [hw2]; simp [z1]
  have b1 : Below w.heap.size w w1 := by rw [hw1]; exact (Below.refl _ _).alloc (Nat.le_refl _) _
  have b2 : Below w1.heap.size w1 w2 := by rw [hw2]; exact (Below.refl _ _).alloc (Nat.le_refl _) _
  have g1 : w2.heap[w.heap.size]? = some (.cells (rc p dv).toArray 26 (0, 0)) := by rw [b2.block _ (by omega), hw1]; exact heap_alloc_new w _
  have g2 : w2.heap[w.heap.size + 1]? = some (.cells #[.slice none 0 0] 24 (0, 0)) := by rw [hw2, ← z1]; exact heap_alloc_new w1 _
  have b3 : Below w2.heap.size w2 (w2.iter s 0) := (Below.refl _ _).alloc (Nat.le_refl _) _
  have zi : (w2.iter s 0).heap.size = w.heap.size + 3 := by simp [World.iter, z2]
  have S0 : SW w p dv (fieldW p) s 0 (w2.iter s 0) := by
    refine ⟨(b1.trans (b2.mono (by omega))).trans (b3.mono (by omega)), ?_, by omega, _, (b3.block _ (by omega)).trans g2, ?_⟩
    · rw [b3.block _ (by omega)]; exact g1
    · simpa [joinL] using own_nil (w2.iter s 0) (w.heap.size + 3)
  have EA := eachW w.heap.size (w.heap.size + 1) s hs w2 (SW w p dv (fieldW p) s) S0 (fun k n W h _ => by rw [z2]; exact h.iter _)
    (fun k W l h hl hn => by
      rw [z2]
      obtain ⟨h1, h2, h3, v, h4, h5⟩ := id h
      have hj := join_le (fieldW p) s k
      have e1 : fieldW p l = be (widN l) (numL p l) := if_pos hn
      have hw : widN l = 1 ∨ widN l = 2 := by unfold widN; split <;> (try split) <;> (try split) <;> simp
      rcases hw with hw | hw
      · rw [hw] at e1 ⊢
        refine (written1 w.heap.size _ (numL p l) (w.heap.size + 1) (w.heap.size + 2) (w.heap.size + 3) v _ W h4 (by omega) (by omega) (by omega) h3 h5 (by omega) (by omega) (row_num h2 hn)).mono fun e w' hh => h.step hl ?_
        rw [e1]
        exact hh
      · rw [hw] at e1 ⊢
        refine (written2 w.heap.size _ (numL p l) (w.heap.size + 1) (w.heap.size + 2) (w.heap.size + 3) v _ W h4 (by omega) (by omega) (by omega) h3 h5 (by omega) (by omega) (row_num h2 hn)).mono fun e w' hh => h.step hl ?_
        rw [e1]
        exact hh)
    (fun k W l h hl hn => by
      rw [z2]
      obtain ⟨h1, h2, h3, v, h4, h5⟩ := id h
      have hj := join_le (fieldW p) s k
      have e1 : fieldW p l = keyL p l := by
        unfold fieldW
        rw [if_neg (by unfold isK at hn; simp only [Bool.or_eq_true, beq_iff_eq] at hn; rcases hn with (((rfl | rfl) | rfl) | rfl) <;> decide), if_pos hn]
      refine (writtenK _ _ (by rw [(rc_key hn hp dv).1.1]; omega) (w.heap.size + 1) (w.heap.size + 2) (w.heap.size + 3) v _ W h4 (by omega) (by omega) (by omega) h3 h5 (by omega) (row_key hp h2 hn)).mono fun e w' hh => h.step hl ?_
      rw [e1]
      exact hh)
    (fun k W h hl => by
      rw [z2]
      obtain ⟨h1, h2, h3, v, h4, h5⟩ := id h
      have hj := join_le (fieldW p) s k
      have hdl := hp.d
      exact (writtenD w.heap.size 137 dv p.d (by omega) (w.heap.size + 1) (w.heap.size + 2) (w.heap.size + 3) v _ W h4 (by omega) (by omega) (by omega) h3 h5 (by omega) (hd.below h1) (by omega) (row_dat hp h2)).mono fun e w' hh => h.step hl hh)
  have EAH := Lib.hid EA
  have HW1 := Lib.hid hw1
  have HW2 := Lib.hid hw2
  clear EA S0 z1 z2 b1 b2 g1 g2 b3 zi hw1 hw2 hlen hd hs
  have QD : Hid (∀ W, SW w p dv (fieldW p) s s.size W → ∃ x cap, W.cell? ⟨w.heap.size + 1, 0, none⟩ = some (.slice x (joinL (fieldW p) (lets s)).length cap) ∧ OwnP w (joinL (fieldW p) (lets s)) (.returned (.slice x (joinL (fieldW p) (lets s)).length cap)) W) := fun W h => by
    obtain ⟨h1, h2, h3, v, h4, h5⟩ := h
    rw [List.take_of_length_le (by rw [lets_len]; exact Nat.le_refl _)] at h5
    obtain ⟨x, cap, rfl⟩ := h5.form
    exact ⟨x, cap, cell24 h4, x, cap, rfl, ownsRow_base h5 (by omega), h1⟩
  generalize joinL (fieldW p) (lets s) = J at QD ⊢
  generalize (rc p dv).toArray = C at HW1 ⊢
  go_enter Try.func19, Try.ntmps19
  go_wp2_with fail
  rw [← HW1.out, ← HW2.out]
  refine EAH.out.mono ?_
  rintro e W ⟨rfl, h⟩
  obtain ⟨x, cap, hc, hq⟩ := QD.out W h
  have HQ := Lib.hid hq
  clear h hq HW1 HW2 EAH QD
  go_wp2_with fail
  go_ret
  exact HQ.out

set_option maxRecDepth 100000 in
set_option maxHeartbeats 4000000 in
theorem whole {p : Rq} (hp : RQ p) (dv : Value) (hlen : (joinL (fieldA p) (lets allS)).length ≤ 1000000) (w : World) (hd : Sees w dv p.d) :
    Calls Try.prog 34 #[.agg (rc p dv).toArray] w (OwnP w (joinL (fieldA p) (lets allS))) := by
  obtain ⟨w1, hw1⟩ : ∃ w1, w1 = w.alloc (.cells (rc p dv).toArray 26) := ⟨_, rfl⟩
  obtain ⟨w2, hw2⟩ : ∃ w2, w2 = w1.alloc (.cells #[.slice none 0 0] 24) := ⟨_, rfl⟩
  have z1 : w1.heap.size = w.heap.size + 1 := by rw [hw1]; simp
  have z2 : w2.heap.size = w.heap.size + 2 := by rw [hw2]; simp [z1]
  have b1 : Below w.heap.size w w1 := by rw [hw1]; exact (Below.refl _ _).alloc (Nat.le_refl _) _
  have b2 : Below w1.heap.size w1 w2 := by rw [hw2]; exact (Below.refl _ _).alloc (Nat.le_refl _) _
  have g1 : w2.heap[w.heap.size]? = some (.cells (rc p dv).toArray 26 (0, 0)) := by rw [b2.block _ (by omega), hw1]; exact heap_alloc_new w _
  have g2 : w2.heap[w.heap.size + 1]? = some (.cells #[.slice none 0 0] 24 (0, 0)) := by rw [hw2, ← z1]; exact heap_alloc_new w1 _
  have b3 : Below w2.heap.size w2 (w2.iter allS 0) := (Below.refl _ _).alloc (Nat.le_refl _) _
  have zi : (w2.iter allS 0).heap.size = w.heap.size + 3 := by simp [World.iter, z2]
  have S0 : SW w p dv (fieldA p) allS 0 (w2.iter allS 0) := by
    refine ⟨(b1.trans (b2.mono (by omega))).trans (b3.mono (by omega)), ?_, by omega, _, (b3.block _ (by omega)).trans g2, ?_⟩
    · rw [b3.block _ (by omega)]; exact g1
    · simpa [joinL] using own_nil (w2.iter allS 0) (w.heap.size + 3)
  have EA := eachA w.heap.size (w.heap.size + 1) allS allS_ok w2 (SW w p dv (fieldA p) allS) S0 (fun k n W h _ => by rw [z2]; exact h.iter _)
    (fun k W l h hl hn => by
      rw [z2]
      obtain ⟨h1, h2, h3, v, h4, h5⟩ := id h
      have hj := join_le (fieldA p) allS k
      have e1 : fieldA p l = be 8 (numL p l) := if_pos hn
      refine (wholeN w.heap.size _ (numL p l) _ (w.heap.size + 1) (w.heap.size + 2) (w.heap.size + 3) v _ W h4 (by omega) (by omega) (by omega) h3 h5 (by omega) (by omega) (row_num h2 hn)).mono fun e w' hh => h.step hl ?_
      rw [e1]
      exact hh)
    (fun k W l h hl hn => by
      rw [z2]
      obtain ⟨h1, h2, h3, v, h4, h5⟩ := id h
      have hj := join_le (fieldA p) allS k
      have e1 : fieldA p l = keyL p l := by
        unfold fieldA
        rw [if_neg (by unfold isK at hn; simp only [Bool.or_eq_true, beq_iff_eq] at hn; rcases hn with (((rfl | rfl) | rfl) | rfl) <;> decide), if_pos hn]
      refine (wholeK _ _ (by rw [(rc_key hn hp dv).1.1]; omega) (w.heap.size + 1) (w.heap.size + 2) (w.heap.size + 3) v _ W h4 (by omega) (by omega) (by omega) h3 h5 (by omega) (row_key hp h2 hn)).mono fun e w' hh => h.step hl ?_
      rw [e1]
      exact hh)
    (fun k W h hl => by
      rw [z2]
      obtain ⟨h1, h2, h3, v, h4, h5⟩ := id h
      have hj := join_le (fieldA p) allS k
      have hdl := hp.d
      exact (wholeD w.heap.size 137 dv p.d (by omega) (w.heap.size + 1) (w.heap.size + 2) (w.heap.size + 3) v _ W h4 (by omega) (by omega) (by omega) h3 h5 (by omega) (hd.below h1) (by omega) (row_dat hp h2)).mono fun e w' hh => h.step hl hh)
  have EAH := Lib.hid EA
  have HW1 := Lib.hid hw1
  have HW2 := Lib.hid hw2
  clear EA S0 z1 z2 b1 b2 g1 g2 b3 zi hw1 hw2 hlen hd
  have QD : Hid (∀ W, SW w p dv (fieldA p) allS allS.size W → ∃ x cap, W.cell? ⟨w.heap.size + 1, 0, none⟩ = some (.slice x (joinL (fieldA p) (lets allS)).length cap) ∧ OwnP w (joinL (fieldA p) (lets allS)) (.returned (.slice x (joinL (fieldA p) (lets allS)).length cap)) W) := fun W h => by
    obtain ⟨h1, h2, h3, v, h4, h5⟩ := h
    rw [List.take_of_length_le (by rw [lets_len]; exact Nat.le_refl _)] at h5
    obtain ⟨x, cap, rfl⟩ := h5.form
    exact ⟨x, cap, cell24 h4, x, cap, rfl, ownsRow_base h5 (by omega), h1⟩
  generalize joinL (fieldA p) (lets allS) = J at QD ⊢
  generalize (rc p dv).toArray = C at HW1 ⊢
  go_enter Try.func34, Try.ntmps34
  go_wp2_with fail
  rw [← HW1.out, ← HW2.out]
  refine EAH.out.mono ?_
  rintro e W ⟨rfl, h⟩
  obtain ⟨x, cap, hc, hq⟩ := QD.out W h
  have HQ := Lib.hid hq
  clear h hq HW1 HW2 EAH QD
  go_wp2_with fail
  go_ret
  exact HQ.out
end Go.Proofs.Ytdohggpajhkkhaa
