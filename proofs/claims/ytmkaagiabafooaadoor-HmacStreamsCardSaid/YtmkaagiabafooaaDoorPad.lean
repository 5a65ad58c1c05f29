/-
  Contracts of the functions that the statements of package hmac go through: the pads of a key. Condition: the key reads as bytes, fewer than 2^50.
-/
import Derived.Test.YtmkaagiabafooaaDoorAlive
import Derived.Test.YtmkaagiabafooaaDoorI
namespace Go.Proofs.YtmkaagiabafooaaDoor
open Go.RowKit
theorem wpList_copy_run {ops : Array Oper} {rest : List Oper} {o : Oper} {a : Act} {w : World} {Q : Exit → Act → World → Prop} (hgd : o.guard = none) (s x : Operand)
    (ho : o.op = .call { callee := .builtin .copy, args := #[s, x], argTypes := #[22, 22] }) (hty : o.type = 3) {v u v' : Value} {w' : World} (hs : a.eval s = v) (hx : a.eval x = u)
    (hr : (Builtin.copy_ #[22, 22] 3 #[v, u]).run Tryd.prog w = .ok v' w') (h : wpList Tryd.prog ops Q rest (a.put o.dst v') w') : wpList Tryd.prog ops Q (o :: rest) a w := by
  refine wpList_plain hgd fun K hK => ?_
  unfold Oper.wp execOp
  simp only [ho, hty, resolve, invoke, builtin, Sem.run_bind, Sem.run_pure, Result.andThen_ok, List.map_toArray, List.map_cons, List.map_nil, hs, hx, hr]
  exact hK _ _ h
/-- copy of what reads as bytes into a row of bytes, from its head on. -/
theorem copy_sees {W : World} {v : Value} {xs : List Int} (h : Sees W v xs) (g n : Nat) (row : List Int) (t : TypeId) (hg : W.heap[g]? = some (.cells (bcells row) t (0, 0))) (hrl : row.length = n) (hle : xs.length ≤ n) :
    (Builtin.copy_ #[22, 22] 3 #[.slice (some ⟨g, 0, none⟩) n n, v]).run Tryd.prog W = .ok (.int .i64 xs.length) (W.setRow g (bcells (xs ++ row.drop xs.length))) := by
  have key : ∀ (a : Addr) (cap : Nat), v = .slice (some a) xs.length cap → (∀ i, i < xs.length → W.cell? (a.add i) = some (.int .u8 (nth xs i))) →
      (Builtin.copy_ #[22, 22] 3 #[.slice (some ⟨g, 0, none⟩) n n, v]).run Tryd.prog W = .ok (.int .i64 xs.length) (W.setRow g (bcells (xs ++ row.drop xs.length))) := by
    intro a cap hv hc
    subst hv
    rw [run_copy_row Tryd.prog W 22 22 3 5 g 0 n n a xs.length cap (bcells row) t (xs.map (Value.int .u8)) Tryd.underlying22 info5s hg (by rw [List.length_map]; exact (Nat.min_eq_left hle).symm) (fun j u hj => by
      have hjl : j < xs.length := by
        rcases Nat.lt_or_ge j xs.length with h | h
        · exact h
        · rw [List.getElem?_eq_none (by rw [List.length_map]; exact h)] at hj; cases hj
      rw [hc j hjl, ← hj]
      simp [nth, List.getD, hjl]) (by rw [List.length_map, bsize, hrl]; omega) (fun z hz => by obtain ⟨_, _, rfl⟩ := List.mem_map.1 hz; rfl)]
    have e := bspl row 0 xs
    rw [List.length_map, e]
    simp [spl, goInt]
  obtain ⟨h1, ⟨rfl, rfl⟩ | ⟨a, cap, rfl, rfl, _⟩ | ⟨b, o, cap, rfl, h3, h4, h5, h6⟩⟩ := id h
  · rw [run_copy_nil Tryd.prog _ 22 22 3 5 _ n n Tryd.underlying22 (by rw [info5s]; rfl)]
    have e : W.setRow g (bcells ([] ++ row.drop ([] : List Int).length)) = W := by
      have := setRow_self W g (bcells row) t (0, 0) hg
      simpa using this
    rw [e]; simp [goInt]
  · exact key a cap rfl (by simp)
  · refine key _ cap rfl fun i hi => ?_
    rw [addr_add]
    exact h6 i hi
/-- The key, if need be its sum. -/
def short (k : List Int) : List Int := if 64 < k.length then sha k else k
/-- .. filled with bytes 0 to 64. -/
def fill (k : List Int) : List Int := short k ++ List.replicate (64 - (short k).length) 0
def xorb (c x : Int) : Int := bits .xor .u8 x c
def pad (k : List Int) (c : Int) : List Int := (fill k).map (xorb c)
theorem short_le (k : List Int) (h : Byt k) : (short k).length ≤ 64 := by
  unfold short
  by_cases e : 64 < k.length
  · rw [if_pos e, sha_len k h]; omega
  · rw [if_neg e]; omega
theorem short_byt (k : List Int) (h : Byt k) : Byt (short k) := by
  unfold short
  by_cases e : 64 < k.length
  · rw [if_pos e]; exact sha_byt k
  · rw [if_neg e]; exact h
theorem fill_len (k : List Int) (h : Byt k) : (fill k).length = 64 := by
  have := short_le k h
  unfold fill; rw [List.length_append, List.length_replicate]; omega
theorem fill_byt (k : List Int) (h : Byt k) : Byt (fill k) := (short_byt k h).append (byt_zero _)
theorem xorb_bd (c x : Int) (hc : 0 ≤ c ∧ c ≤ 255) (hx : 0 ≤ x ∧ x ≤ 255) : 0 ≤ xorb c x ∧ xorb c x ≤ 255 := ⟨(xor8_zero x c hx hc).2.1, (xor8_zero x c hx hc).2.2⟩
theorem pad_len (k : List Int) (c : Int) (h : Byt k) : (pad k c).length = 64 := by unfold pad; rw [List.length_map, fill_len k h]
theorem pad_byt (k : List Int) (c : Int) (hc : 0 ≤ c ∧ c ≤ 255) (h : Byt k) : Byt (pad k c) := fun x hx => by
  obtain ⟨y, hy, rfl⟩ := List.mem_map.1 hx
  exact xorb_bd c y hc (fill_byt k h y hy)
/-- The bytes when so many are turned. -/
def half (L : List Int) (c : Int) (i : Nat) : List Int := (L.take i).map (xorb c) ++ L.drop i
theorem half_len (L : List Int) (c : Int) (i : Nat) : (half L c i).length = L.length := by simp [half]; omega
theorem half_nth (L : List Int) (c : Int) (i : Nat) (h : i < L.length) : nth (half L c i) i = nth L i := by
  unfold half nth
  have hl : ((L.take i).map (xorb c)).length = i := by simp; omega
  simp only [List.getD]
  rw [List.getElem?_append_right (by omega), hl, Nat.sub_self, List.getElem?_drop, Nat.add_zero]
theorem half_set (L : List Int) (c : Int) (i : Nat) (h : i < L.length) : (half L c i).set i (xorb c (nth L i)) = half L c (i + 1) := by
  unfold half
  have hl : ((L.take i).map (xorb c)).length = i := by simp; omega
  rw [List.set_append_right _ _ (by omega), hl, Nat.sub_self, take_snoc L i h, List.map_append, List.append_assoc]
  congr 1
  rw [List.drop_eq_getElem_cons h]
  rfl
theorem bset (L : List Int) (i : Nat) (x : Int) : (bcells L).setIfInBounds i (.int .u8 x) = bcells (L.set i x) := by
  apply Array.toList_inj.1
  simp [bcells, List.map_set]
theorem bcell (L : List Int) (i : Nat) (h : i < L.length) : (bcells L)[i]? = some (.int .u8 (nth L i)) := by simp [bcells, nth, List.getD, h]
/-- 'a[:]' of an array of 64 bytes. -/
theorem arr_all (g : Nat) (W : World) : (Instr.sliceAt 41 (.pointer (some ⟨g, 0, none⟩)) none none none).run Tryd.prog W = .ok (.slice (some ⟨g, 0, none⟩) 64 64) W := by
  rw [run_sliceAt_array_all W 41 ⟨g, 0, none⟩ und41, size5]
  simp [Result.andThen, slicedAt, len41, addr_add]
/-- 'a[:]' of an array of 32 bytes. -/
theorem arr32_all (g : Nat) (W : World) : (Instr.sliceAt 27 (.pointer (some ⟨g, 0, none⟩)) none none none).run Tryd.prog W = .ok (.slice (some ⟨g, 0, none⟩) 32 32) W := by
  rw [run_sliceAt_array_all W 27 ⟨g, 0, none⟩ und27, size27]
  simp [Result.andThen, slicedAt, len27, addr_add]
theorem info41s : (Tryd.prog.info? 41).map (·.size) = some 64 := by kernel_rfl
set_option maxRecDepth 100000 in
set_option maxHeartbeats 4000000 in
theorem padc (F : Nat) (L : List Int) (c : Int) (hc : 0 ≤ c ∧ c ≤ 255) (hl : L.length = 64) (hb : Byt L) (w : World) (hF : w.heap[F]? = some (.cells (bcells L) 41 (0, 0))) :
    Calls Tryd.prog 54 #[.int .u8 c, .pointer (some ⟨F, 0, none⟩)] w fun e w' => ∃ g, e = .returned (.slice (some ⟨g, 0, none⟩) 64 64) ∧ w'.heap[g]? = some (.cells (bcells (L.map (xorb c))) 41 (0, 0)) ∧ w.heap.size ≤ g ∧ Below w.heap.size w w' := by
  have z41 := zv41
  obtain ⟨Z41, hZ41⟩ : ∃ Z, Z = bcells (List.replicate 64 0) := ⟨_, rfl⟩
  rw [← hZ41] at z41
  have IL := Lib.hid (show (Tryd.prog.info? 41).map (·.size) = some (bcells L).size by rw [info41s, bsize, hl])
  have ZL := Lib.hid (show Z41.size = (bcells L).size by rw [hZ41, bsize, bsize, hl, List.length_replicate])
  have OL := Lib.hid (bone L)
  have HF := Lib.hid hF
  have HB := Lib.hid hb
  have HL := Lib.hid hl
  obtain ⟨hc0, hc1⟩ := hc
  obtain ⟨CL, hCL⟩ : ∃ C, C = bcells L := ⟨_, rfl⟩
  rw [← hCL] at IL ZL OL HF
  have HCL := Lib.hid hCL
  have hsl := arr_all
  clear hZ41 hF hb hl hCL
  have b0 : Below w.heap.size w ((w.alloc (.cells Z41 41)).setRow w.heap.size CL) := ((Below.refl _ _).alloc (Nat.le_refl _) _).trans (below_row _ _ (Nat.le_refl _))
  have r0 : ((w.alloc (.cells Z41 41)).setRow w.heap.size CL).heap[w.heap.size]? = some (.cells CL 41 (0, 0)) := setRow_heap _ _ _ _ _ _ (heap_alloc_new w _)
  have B0 := Lib.hid b0
  have R0 := Lib.hid r0
  clear b0 r0
  go_enter Tryd.func54, Tryd.ntmps54
  go_wp2_with (first
    | (refine wpList_load_row rfl 41 (.tmp 1) rfl F rfl 41 CL (0, 0) _ HF.out Tryd.underlying41 rfl IL.out ?_)
    | (refine wpList_store_row rfl 41 (.tmp 4) (.tmp 6) rfl w.heap.size CL rfl rfl 41 Z41 (heap_alloc_new w _) IL.out ZL.out OL.out ?_))
  go_loopw [7] (fun vi wr => ∃ i : Nat, i ≤ 64 ∧ vi = .int .i64 i ∧ wr.heap[w.heap.size]? = some (.cells (bcells (half L c i)) 41 (0, 0)) ∧ Below w.heap.size w wr) (fun vi _ => 64 - (intOf vi).toNat)
  case atStart => exact ⟨0, by omega, rfl, by rw [R0.out, HCL.out]; rfl, B0.out⟩
  case round =>
    clear B0 R0
    obtain ⟨i, hi, rfl, hr, hbel⟩ := hrel
    by_cases hlt : i < 64
    · have hli : i < L.length := by rw [HL.out]; exact hlt
      have c1 := (cell_of_row _ _ i _ _ _ hr).trans (bcell _ i (by rw [half_len]; exact hli))
      rw [half_nth L c i hli] at c1
      have f1 := frozen_of_row wr w.heap.size i _ 41 hr
      have hx := HB.out.nth i
      have HS : Hid ((bcells (half L c i)).setIfInBounds i (.int .u8 (bits .xor .u8 (nth L i) c)) = bcells (half L c (i + 1))) := by
        show _ = _
        rw [bset, ← half_set L c i hli]; rfl
      have HR := Lib.hid hr
      have HBE := Lib.hid hbel
      generalize nth L i = x at c1 hx HS
      obtain ⟨hx0, hx1⟩ := hx
      clear hr hbel hli
      go_wp2_with fail
      go_roundw
      case rel => exact ⟨i + 1, by omega, by go_num, by rw [heap_setCell_same _ _ _ _ _ _ HR.out, HS.out], HBE.out.setCell (Nat.le_refl _) _⟩
      case measure => simp [intOf]; omega
    · obtain rfl : i = 64 := by omega
      have hend : half L c 64 = L.map (xorb c) := by
        unfold half
        rw [List.take_of_length_le (by rw [HL.out]; omega), List.drop_eq_nil_of_le (by rw [HL.out]; omega), List.append_nil]
      rw [hend] at hr
      have HR := Lib.hid hr
      have HBE := Lib.hid hbel
      clear hr hbel hend
      go_wp2_with fail
      go_ret
      exact ⟨_, rfl, HR.out, Nat.le_refl _, HBE.out⟩
end Go.Proofs.YtmkaagiabafooaaDoor
