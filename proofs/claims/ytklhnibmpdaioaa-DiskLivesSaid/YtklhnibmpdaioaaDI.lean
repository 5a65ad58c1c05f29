/-
  Contracts: disk.Flush, disk.Crash, disk.Read, disk.Sure, disk.Fail; Write of a disk that goes down. Condition: the disk lies in memory as said.
-/
import Derived.Test.YtklhnibmpdaioaaDH
namespace Go.Proofs.Ytklhnibmpdaioaa
open Go.RowKit
theorem eg67 : ∀ (args : Array Value) (w : World), (callFunc 67 args).run Try.prog w = .ok (.enter 67 args) w := fun args w => by kernel_rfl
theorem eg68 : ∀ (args : Array Value) (w : World), (callFunc 68 args).run Try.prog w = .ok (.enter 68 args) w := fun args w => by kernel_rfl
theorem clos67 (v : Value) (w : World) : Calls Try.prog 67 #[v] w fun e w' => e = .returned (.bool true) ∧ w = w' := by
  go_enter Try.func67, Try.ntmps67
  go_wp2
  go_ret
  exact ⟨rfl, rfl⟩
/-- All writes are sure. -/
def allS (su : Nat → Option Nat) (ws : List (Nat × Nat)) : Nat → Option Nat := keepS (fun _ => true) su ws ws.length
section
variable {w w' : World} {g N sb hb : Nat} {wv : Value} {su : Nat → Option Nat} {ws : List (Nat × Nat)} {rg : List Value} {c p : Int} {d : Bool} {K : Nat}
theorem anew_none (w : World) (v : Value) : Anew w v (.slice none 0 0) := fun k hk => by simp [Value.ownBlock] at hk
set_option maxRecDepth 100000 in
set_option maxHeartbeats 1000000 in
theorem flushD_ok (h : DK w g N sb hb wv su ws rg c p false K) (hc : 0 ≤ c) (hc2 : c ≤ 1000000) (hp : p = -1 ∨ 1 ≤ p) (hp2 : p ≤ 9223372036854775807) :
    Calls Try.prog 28 #[.pointer (some ⟨g, 0, none⟩)] w (DkP w g N sb hb wv (allS su ws) [] rg (c + 1) (pl p) false K (.int .i64 0)) := by
  have A := Lib.hid (awakeD h)
  have M := Lib.hid (mayD_ok h hc hc2 hp hp2)
  clear h hc hc2 hp hp2
  go_enter Try.func28, Try.ntmps28
  go_wp2_with fail
  refine A.out.mono ?_
  rintro e w' ⟨rfl, rfl⟩
  go_wp2_with fail
  refine M.out.mono ?_
  rintro e w2 ⟨rfl, d2, m2⟩
  have ST := Lib.hid (settleD d2 67 #[] (fun _ => true) eg67 (fun i W _ _ => clos67 _ W))
  have M2 := Lib.hid m2
  clear d2 m2
  go_wp2_with fail
  refine ST.out.mono ?_
  rintro e w3 ⟨rfl, d3, m3⟩
  have D3 := Lib.hid d3
  have M3 := Lib.hid m3
  clear d3 m3
  go_wp2_with fail
  go_ret
  exact ⟨_, rfl, D3.out, (M2.out.mono (T := Dt g sb hb wv) (fun b hb' => .inl (.inl hb'))).trans M3.out (fun b hb => .inl hb), anew_none _ _⟩
theorem flushD_isdown (h : DK w g N sb hb wv su ws rg c p true K) : Calls Try.prog 28 #[.pointer (some ⟨g, 0, none⟩)] w fun e w' => e = .returned (.int .i64 30) ∧ w = w' := by
  have A := Lib.hid (awakeD h)
  clear h
  go_enter Try.func28, Try.ntmps28
  go_wp2_with fail
  refine A.out.mono ?_
  rintro e w' ⟨rfl, rfl⟩
  go_wp2_with fail
  go_ret
  exact ⟨rfl, rfl⟩
theorem anew_same (w : World) (v : Value) : Anew w v v := fun _ hk => .inl hk
set_option maxRecDepth 100000 in
theorem flushD_down (h : DK w g N sb hb wv su ws rg c 0 false K) : Calls Try.prog 28 #[.pointer (some ⟨g, 0, none⟩)] w (DkP w g N sb hb wv su ws rg c 0 true K (.int .i64 30)) := by
  have A := Lib.hid (awakeD h)
  have M := Lib.hid (mayD_no h)
  clear h
  go_enter Try.func28, Try.ntmps28
  go_wp2_with fail
  refine A.out.mono ?_
  rintro e w' ⟨rfl, rfl⟩
  go_wp2_with fail
  refine M.out.mono ?_
  rintro e w2 ⟨rfl, d2, m2⟩
  have D2 := Lib.hid d2
  have M2 := Lib.hid m2
  clear d2 m2
  go_wp2_with fail
  go_ret
  exact ⟨wv, rfl, D2.out, M2.out.mono (fun b hb' => .inl (.inl hb')), anew_same _ _⟩
set_option maxRecDepth 100000 in
set_option maxHeartbeats 1000000 in
theorem writeD_down (h : DK w g N sb hb wv su ws rg c 0 false K) (s : Nat) (x : Option Addr) (k : Nat) (hs : s < N) :
    Calls Try.prog 27 #[.pointer (some ⟨g, 0, none⟩), .int .u32 s, .slice x 512 k] w (DkP w g N sb hb wv su ws rg c 0 true K (.int .i64 30)) := by
  have A := Lib.hid (awakeD h)
  have Hs := Lib.hid (hasD h s)
  rw [if_pos hs] at Hs
  have F := Lib.hid (fitsD x 512 k (by omega) w)
  have O := Lib.hid (orD w.heap.size [0, 0, 0] (by simp) (w.alloc (.cells #[.int .i64 0, .int .i64 0, .int .i64 0] 25)) (fun j z hj => by
    rw [cell_of_row _ _ _ _ _ _ (heap_alloc_new w _)]; rcases j with _ | _ | _ | j <;> simp at hj <;> subst hj <;> rfl))
  obtain ⟨w1, hw1⟩ : ∃ w1, w1 = w.alloc (.cells #[.int .i64 0, .int .i64 0, .int .i64 0] 25) := ⟨_, rfl⟩
  have hbw1 : Below w.heap.size w w1 := by rw [hw1]; exact (Below.refl _ _).alloc (Nat.le_refl _) _
  have M := Lib.hid (mayD_no (h.below hbw1))
  have HB1 := Lib.hid hbw1
  rw [← hw1] at O
  have HW1 := Lib.hid hw1
  clear h hw1 hbw1
  go_enter Try.func27, Try.ntmps27
  go_wp2_with fail
  refine A.out.mono ?_
  rintro e w' ⟨rfl, rfl⟩
  go_wp2_with fail
  refine Hs.out.mono ?_
  rintro e w' ⟨rfl, rfl⟩
  go_wp2_with fail
  refine F.out.mono ?_
  rintro e w' ⟨rfl, rfl⟩
  go_wp2_with fail
  rw [← HW1.out]
  refine O.out.mono ?_
  rintro e w' ⟨rfl, rfl⟩
  go_wp2_with fail
  refine M.out.mono ?_
  rintro e w2 ⟨rfl, d2, m2⟩
  have D2 := Lib.hid d2
  have M2 := Lib.hid m2
  clear d2 m2
  go_wp2_with fail
  go_ret
  exact ⟨wv, rfl, D2.out, ((Mods.of_below HB1.out).trans M2.out (fun b hb => .inl hb)).mono (fun b hb' => .inl (.inl hb')), anew_same _ _⟩
/-- What a sector shows. -/
def shwn (su : Nat → Option Nat) (ws : List (Nat × Nat)) (s : Nat) : Option Nat := match lastW s ws with | some y => some y | none => su s
/-- Bytes handed out in a new block. -/
def OutP (w : World) (o : Option Nat) (e : Ending) (w' : World) : Prop :=
  ∃ b, e = .returned (.tuple #[.slice (some ⟨b, 0, none⟩) 512 512, .int .i64 0]) ∧ w'.heap[b]? = some (.cells (bcells (padT o)) 5 (0, 0)) ∧ w.heap.size ≤ b ∧ Below w.heap.size w w'
theorem DK.looks (h : DK w g N sb hb wv su ws rg c p d K) (s : Nat) (hs : s < 65536) :
    (∃ v, (Instr.lookup 48 (.map (some sb)) (.int .u32 s) false).run Try.prog w = .ok v w ∧ ((su s = none ∧ v = .slice none 0 0) ∨ ∃ y, su s = some y ∧ TX w v (tx y))) ∧
    (∃ v, (Instr.lookup 48 (.map (some hb)) (.int .u32 s) true).run Try.prog w = .ok (.tuple #[v, .bool (lastW s ws).isSome]) w ∧ ((lastW s ws = none ∧ v = .slice none 0 0) ∨ ∃ y, lastW s ws = some y ∧ TX w v (tx y))) := by
  obtain ⟨n1, f1, m1, _, s1⟩ := h.sure
  obtain ⟨n2, f2, m2, _, s2⟩ := h.shown
  have l1 := m1.look keyed23 Try.underlying48 (zero32 _) (key23 s (by omega))
  have l2 := m2.look_ok keyed23 Try.underlying48 (zero32 _) (key23 s (by omega))
  refine ⟨⟨_, l1, ?_⟩, ?_⟩
  · rcases s1 s with ⟨a, b⟩ | ⟨y, v, a, b, t, _⟩
    · exact .inl ⟨a, by rw [b]; rfl⟩
    · exact .inr ⟨y, a, by rw [b]; exact t⟩
  · rcases s2 s with ⟨a, b⟩ | ⟨y, v, a, b, t, _⟩
    · have a' : lastW s ws = none := a
      exact ⟨.slice none 0 0, by rw [l2, b, a']; rfl, .inl ⟨a', rfl⟩⟩
    · have a' : lastW s ws = some y := a
      exact ⟨v, by rw [l2, b, a']; rfl, .inr ⟨y, a', t⟩⟩
set_option maxRecDepth 100000 in
set_option maxHeartbeats 1000000 in
theorem readD_ok (h : DK w g N sb hb wv su ws rg c p false K) (s : Nat) (hs : s < N) : Calls Try.prog 26 #[.pointer (some ⟨g, 0, none⟩), .int .u32 s] w (OutP w (shwn su ws s)) := by
  have n2 := h.n2
  have A := Lib.hid (awakeD h)
  have Hs := Lib.hid (hasD h s)
  rw [if_pos hs] at Hs
  have O := Lib.hid (orD w.heap.size [0, 0] (by simp) (w.alloc (.cells #[.int .i64 0, .int .i64 0] 25)) (fun j z hj => by
    rw [cell_of_row _ _ _ _ _ _ (heap_alloc_new w _)]; rcases j with _ | _ | j <;> simp at hj <;> subst hj <;> rfl))
  obtain ⟨w1, hw1⟩ : ∃ w1, w1 = w.alloc (.cells #[.int .i64 0, .int .i64 0] 25) := ⟨_, rfl⟩
  have hbw1 : Below w.heap.size w w1 := by rw [hw1]; exact (Below.refl _ _).alloc (Nat.le_refl _) _
  have h1 := h.below hbw1
  have HB1 := Lib.hid hbw1
  rw [← hw1] at O
  have HW1 := Lib.hid hw1
  have e1 := h1.c1
  have e2 := h1.c2
  obtain ⟨⟨va, la, ra⟩, ⟨vb, lb, rb⟩⟩ := h1.looks s (by omega)
  have F : ∀ (o : Option Nat) (v : Value), ((o = none ∧ v = .slice none 0 0) ∨ ∃ y, o = some y ∧ TX w1 v (tx y)) → Calls Try.prog 58 #[v, .int .i64 512] w1 (OutP w o) := fun o v hv =>
    (padD hv).mono fun e w' ⟨a, b⟩ => ⟨_, a, by rw [b]; exact heap_alloc_new _ _, HB1.out.size, by rw [b]; exact HB1.out.alloc HB1.out.size _⟩
  have FF := Lib.hid F
  clear h h1 hw1 hbw1 F
  unfold shwn
  cases hl : lastW s ws with
  | none =>
    rw [hl] at lb
    have lb' : (Instr.lookup 48 (.map (some hb)) (.int .u32 s) true).run Try.prog w1 = .ok (.tuple #[vb, .bool false]) w1 := lb
    have FA := Lib.hid (FF.out (su s) va ra)
    clear lb hl ra rb
    go_enter Try.func26, Try.ntmps26
    go_wp2_with fail
    refine A.out.mono ?_
    rintro e w' ⟨rfl, rfl⟩
    go_wp2_with fail
    refine Hs.out.mono ?_
    rintro e w' ⟨rfl, rfl⟩
    go_wp2_with fail
    rw [← HW1.out]
    refine O.out.mono ?_
    rintro e w' ⟨rfl, rfl⟩
    go_wp2_with fail
    refine FA.out.mono ?_
    rintro e w2 ⟨b, rfl, k1, k2, k3⟩
    have R := Lib.hid (And.intro k1 (And.intro k2 k3))
    clear k1 k2 k3
    go_wp2_with fail
    go_ret2
    exact ⟨b, rfl, R.out⟩
  | some y =>
    rw [hl] at lb rb
    have lb' : (Instr.lookup 48 (.map (some hb)) (.int .u32 s) true).run Try.prog w1 = .ok (.tuple #[vb, .bool true]) w1 := lb
    have FA := Lib.hid (FF.out (some y) vb rb)
    clear lb hl ra rb
    go_enter Try.func26, Try.ntmps26
    go_wp2_with fail
    refine A.out.mono ?_
    rintro e w' ⟨rfl, rfl⟩
    go_wp2_with fail
    refine Hs.out.mono ?_
    rintro e w' ⟨rfl, rfl⟩
    go_wp2_with fail
    rw [← HW1.out]
    refine O.out.mono ?_
    rintro e w' ⟨rfl, rfl⟩
    go_wp2_with fail
    refine FA.out.mono ?_
    rintro e w2 ⟨b, rfl, k1, k2, k3⟩
    have R := Lib.hid (And.intro k1 (And.intro k2 k3))
    clear k1 k2 k3
    go_wp2_with fail
    go_ret2
    exact ⟨b, rfl, R.out⟩
end
end Go.Proofs.Ytklhnibmpdaioaa
