/-
  Contracts of the functions that the statements of package hmac go through: Expand. Condition: the name reads as bytes, fewer than 2^48.
-/
import Derived.Test.YtmkaagiabafooaaDoorStr
namespace Go.Proofs.YtmkaagiabafooaaDoor
open Go.RowKit
theorem i48' (xs : List Int) (h : xs.length = 32) : (Tryd.prog.info? 48).map (·.size) = some (bcells xs).size := by rw [i48, bsize, h]
set_option maxRecDepth 100000 in
set_option maxHeartbeats 1000000 in
theorem expand_arg (C : Array Value) (x : Option Addr) (l c : Nat) (n : Int) (hn : n < 0) (w : World) :
    Calls Tryd.prog 26 #[.agg C, .slice x l c, .int .i64 n] w fun e w' => e = .returned (.tuple #[.slice none 0 0, .int .i64 1]) ∧ Below w.heap.size w w' := by
  go_enter Tryd.func26, Tryd.ntmps26
  go_wp2_with fail
  go_ret2
  exact ⟨rfl, (Below.refl _ _).alloc (Nat.le_refl _) _⟩
set_option maxRecDepth 100000 in
set_option maxHeartbeats 1000000 in
theorem expand_long (C : Array Value) (x : Option Addr) (l c : Nat) (n : Int) (hn : 8160 < n) (w : World) :
    Calls Tryd.prog 26 #[.agg C, .slice x l c, .int .i64 n] w fun e w' => e = .returned (.tuple #[.slice none 0 0, .int .i64 2]) ∧ Below w.heap.size w w' := by
  have h0 : ¬ n < 0 := by omega
  go_enter Tryd.func26, Tryd.ntmps26
  go_wp2_with fail
  go_ret2
  exact ⟨rfl, (Below.refl _ _).alloc (Nat.le_refl _) _⟩
def ExpandP (w : World) (key name : List Int) (n : Nat) (e : Ending) (w' : World) : Prop :=
  ∃ q cap, e = .returned (.tuple #[.slice q n cap, .int .i64 0]) ∧ Sees w' (.slice q n cap) (strm key name n) ∧ Below w.heap.size w w'
set_option maxRecDepth 100000 in
set_option maxHeartbeats 1000000 in
theorem expand_ok (key name : List Int) (vn : Value) (n : Nat) (hn : n ≤ 8160) (w : World) (hk : Byt key) (lk : key.length = 32) (hv : Sees w vn name) (ln : name.length ≤ 281474976710656) (hG : Glob w) :
    Calls Tryd.prog 26 #[.agg (bcells key), vn, .int .i64 n] w (ExpandP w key name n) := by
  obtain ⟨x, cx, rfl, _⟩ := id hv.form
  have h2 : 2 ≤ w.heap.size := by have := hG.lt; omega
  have hB0 : Below w.heap.size w (w.alloc (.cells (bcells key) 48)) := (Below.refl _ _).alloc (Nat.le_refl _) _
  have ST := Lib.hid (stream key name _ n hn (w.alloc (.cells (bcells key) 48)) hk lk (hv.below hB0) ln (hG.below hB0 h2))
  have G0 := Lib.hid (heap_alloc_new w (.cells (bcells key) 48))
  have I0 := Lib.hid (i48' key lk)
  have HB := Lib.hid hB0
  have a1 : ¬ (n : Int) < 0 := by omega
  have a2 : ¬ (8160 : Int) < n := by omega
  obtain ⟨CK, hCK⟩ : ∃ C, C = bcells key := ⟨_, rfl⟩
  rw [← hCK] at ST G0 I0 HB
  rw [← hCK]
  clear hk lk hv ln hG h2 hB0 hCK
  go_enter Tryd.func26, Tryd.ntmps26
  go_wp2_with (refine wpList_load_row rfl 48 (.tmp 3) rfl w.heap.size rfl 48 CK (0, 0) _ G0.out und48 rfl I0.out ?_)
  refine ST.out.mono ?_
  rintro e w1 ⟨q, cap, rfl, ho, hb⟩
  have HO := Lib.hid ho
  have HB1 := Lib.hid hb
  clear ho hb
  go_wp2_with fail
  go_ret2
  exact ⟨q, cap, rfl, HO.out.sees, HB.out.trans (HB1.out.mono HB.out.size)⟩
end Go.Proofs.YtmkaagiabafooaaDoor
