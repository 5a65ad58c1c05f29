/-
  Contracts of package hmac. Conditions: texts are of bounded length.
-/
import Derived.Test.YtpkeofioobmmoaaGreatDoorShP
import Derived.Outline
import Derived.Deep.RegionWith
import Derived.Deep.LoopGhost
import Derived.WalkMore
namespace Go.Proofs.YtpkeofioobmmoaaGreatDoor.sh
open Go.RowKit
theorem wpList_copy_run {ops : Array Oper} {rest : List Oper} {o : Oper} {a : Act} {w : World} {Q : Exit → Act → World → Prop} (hgd : o.guard = none) (s x : Operand)
    (ho : o.op = .call { callee := .builtin .copy, args := #[s, x], argTypes := #[31, 31] }) (hty : o.type = 3) {v u v' : Value} {w' : World} (hs : a.eval s = v) (hx : a.eval x = u)
    (hr : (Builtin.copy_ #[31, 31] 3 #[v, u]).run Tryz.prog w = .ok v' w') (h : wpList Tryz.prog ops Q rest (a.put o.dst v') w') : wpList Tryz.prog ops Q (o :: rest) a w := by
  refine wpList_plain hgd fun K hK => ?_
  unfold Oper.wp execOp
  simp only [ho, hty, resolve, invoke, builtin, Sem.run_bind, Sem.run_pure, Result.andThen_ok, List.map_toArray, List.map_cons, List.map_nil, hs, hx, hr]
  exact hK _ _ h
/-- copy of what reads as bytes into a row of bytes, from its head on. -/
theorem copy_sees {W : World} {v : Value} {xs : List Int} (h : Sees W v xs) (g n : Nat) (row : List Int) (t : TypeId) (hg : W.heap[g]? = some (.cells (bcells row) t (0, 0))) (hrl : row.length = n) (hle : xs.length ≤ n) :
    (Builtin.copy_ #[31, 31] 3 #[.slice (some ⟨g, 0, none⟩) n n, v]).run Tryz.prog W = .ok (.int .i64 xs.length) (W.setRow g (bcells (xs ++ row.drop xs.length))) := by
  have key : ∀ (a : Addr) (cap : Nat), v = .slice (some a) xs.length cap → (∀ i, i < xs.length → W.cell? (a.add i) = some (.int .u8 (nth xs i))) →
      (Builtin.copy_ #[31, 31] 3 #[.slice (some ⟨g, 0, none⟩) n n, v]).run Tryz.prog W = .ok (.int .i64 xs.length) (W.setRow g (bcells (xs ++ row.drop xs.length))) := by
    intro a cap hv hc
    subst hv
    rw [run_copy_row Tryz.prog W 31 31 3 5 g 0 n n a xs.length cap (bcells row) t (xs.map (Value.int .u8)) Tryz.underlying31 info5s hg (by rw [List.length_map]; exact (Nat.min_eq_left hle).symm) (fun j u hj => by
      have hjl : j < xs.length := by
        rcases Nat.lt_or_ge j xs.length with h | h
        · exact h
        · rw [List.getElem?_eq_none (by rw [List.length_map]; exact h)] at hj; cases hj
      rw [hc j hjl, ← hj]
      simp [nth, List.getD, hjl]) (by rw [List.length_map, bsize, hrl]; omega) (fun z hz => by obtain ⟨_, _, rfl⟩ := List.mem_map.1 hz; rfl)]
    have e := bspl row 0 xs
    rw [List.length_map, e]
    simp [spl, goInt]
  obtain ⟨h1, ⟨rfl, rfl⟩ | ⟨a, cap, rfl, rfl, _⟩ | ⟨b, o, cap, rfl, h3, h4, h5, h6⟩⟩ := id h
  · rw [run_copy_nil Tryz.prog _ 31 31 3 5 _ n n Tryz.underlying31 (by rw [info5s]; rfl)]
    have e : W.setRow g (bcells ([] ++ row.drop ([] : List Int).length)) = W := by
      have := setRow_self W g (bcells row) t (0, 0) hg
      simpa using this
    rw [e]; simp [goInt]
  · exact key a cap rfl (by simp)
  · refine key _ cap rfl fun i hi => ?_
    rw [addr_add]
    exact h6 i hi
/-- The key, if need be its sum. -/
def short (k : List Int) : List Int := if 64 < k.length then sha k else k
/-- .. filled with bytes 0 to 64. -/
def fill (k : List Int) : List Int := short k ++ List.replicate (64 - (short k).length) 0
def xorb (c x : Int) : Int := bits .xor .u8 x c
def pad (k : List Int) (c : Int) : List Int := (fill k).map (xorb c)
theorem short_le (k : List Int) (h : Byt k) : (short k).length ≤ 64 := by
  unfold short
  by_cases e : 64 < k.length
  · rw [if_pos e, sha_len k h]; omega
  · rw [if_neg e]; omega
theorem short_byt (k : List Int) (h : Byt k) : Byt (short k) := by
  unfold short
  by_cases e : 64 < k.length
  · rw [if_pos e]; exact sha_byt k
  · rw [if_neg e]; exact h
theorem fill_len (k : List Int) (h : Byt k) : (fill k).length = 64 := by
  have := short_le k h
  unfold fill; rw [List.length_append, List.length_replicate]; omega
theorem fill_byt (k : List Int) (h : Byt k) : Byt (fill k) := (short_byt k h).append (byt_zero _)
theorem xorb_bd (c x : Int) (hc : 0 ≤ c ∧ c ≤ 255) (hx : 0 ≤ x ∧ x ≤ 255) : 0 ≤ xorb c x ∧ xorb c x ≤ 255 := ⟨(xor8_zero x c hx hc).2.1, (xor8_zero x c hx hc).2.2⟩
theorem pad_len (k : List Int) (c : Int) (h : Byt k) : (pad k c).length = 64 := by unfold pad; rw [List.length_map, fill_len k h]
theorem pad_byt (k : List Int) (c : Int) (hc : 0 ≤ c ∧ c ≤ 255) (h : Byt k) : Byt (pad k c) := fun x hx => by
  obtain ⟨y, hy, rfl⟩ := List.mem_map.1 hx
  exact xorb_bd c y hc (fill_byt k h y hy)
/-- The bytes when so many are turned. -/
def half (L : List Int) (c : Int) (i : Nat) : List Int := (L.take i).map (xorb c) ++ L.drop i
theorem half_len (L : List Int) (c : Int) (i : Nat) : (half L c i).length = L.length := by simp [half]; omega
theorem half_nth (L : List Int) (c : Int) (i : Nat) (h : i < L.length) : nth (half L c i) i = nth L i := by
  unfold half nth
  have hl : ((L.take i).map (xorb c)).length = i := by simp; omega
  simp only [List.getD]
  rw [List.getElem?_append_right (by omega), hl, Nat.sub_self, List.getElem?_drop, Nat.add_zero]
theorem half_set (L : List Int) (c : Int) (i : Nat) (h : i < L.length) : (half L c i).set i (xorb c (nth L i)) = half L c (i + 1) := by
  unfold half
  have hl : ((L.take i).map (xorb c)).length = i := by simp; omega
  rw [List.set_append_right _ _ (by omega), hl, Nat.sub_self, take_snoc L i h, List.map_append, List.append_assoc]
  congr 1
  rw [List.drop_eq_getElem_cons h]
  rfl
theorem bset (L : List Int) (i : Nat) (x : Int) : (bcells L).setIfInBounds i (.int .u8 x) = bcells (L.set i x) := by
  apply Array.toList_inj.1
  simp [bcells, List.map_set]
theorem bcell (L : List Int) (i : Nat) (h : i < L.length) : (bcells L)[i]? = some (.int .u8 (nth L i)) := by simp [bcells, nth, List.getD, h]
/-- 'a[:]' of an array of 64 bytes. -/
theorem arr_all (g : Nat) (W : World) : (Instr.sliceAt 113 (.pointer (some ⟨g, 0, none⟩)) none none none).run Tryz.prog W = .ok (.slice (some ⟨g, 0, none⟩) 64 64) W := by
  rw [run_sliceAt_array_all W 113 ⟨g, 0, none⟩ und41, size5]
  simp [Result.andThen, slicedAt, len41, addr_add]
/-- 'a[:]' of an array of 32 bytes. -/
theorem arr32_all (g : Nat) (W : World) : (Instr.sliceAt 74 (.pointer (some ⟨g, 0, none⟩)) none none none).run Tryz.prog W = .ok (.slice (some ⟨g, 0, none⟩) 32 32) W := by
  rw [run_sliceAt_array_all W 74 ⟨g, 0, none⟩ und27, size27]
  simp [Result.andThen, slicedAt, len27, addr_add]
theorem info41s : (Tryz.prog.info? 113).map (·.size) = some 64 := by kernel_rfl
set_option maxRecDepth 100000 in
set_option maxHeartbeats 4000000 in
theorem padc (F : Nat) (L : List Int) (c : Int) (hc : 0 ≤ c ∧ c ≤ 255) (hl : L.length = 64) (hb : Byt L) (w : World) (hF : w.heap[F]? = some (.cells (bcells L) 113 (0, 0))) :
    Calls Tryz.prog 80 #[.int .u8 c, .pointer (some ⟨F, 0, none⟩)] w fun e w' => ∃ g, e = .returned (.slice (some ⟨g, 0, none⟩) 64 64) ∧ w'.heap[g]? = some (.cells (bcells (L.map (xorb c))) 113 (0, 0)) ∧ w.heap.size ≤ g ∧ Below w.heap.size w w' := by
  have z41 := zv41
  obtain ⟨Z41, hZ41⟩ : ∃ Z, Z = bcells (List.replicate 64 0) := ⟨_, rfl⟩
  rw [← hZ41] at z41
  have IL := Lib.hid (show (Tryz.prog.info? 113).map (·.size) = some (bcells L).size by rw [info41s, bsize, hl])
  have ZL := Lib.hid (show Z41.size = (bcells L).size by rw [hZ41, bsize, bsize, hl, List.length_replicate])
  have OL := Lib.hid (bone L)
  have HF := Lib.hid hF
  have HB := Lib.hid hb
  have HL := Lib.hid hl
  obtain ⟨hc0, hc1⟩ := hc
  obtain ⟨CL, hCL⟩ : ∃ C, C = bcells L := ⟨_, rfl⟩
  rw [← hCL] at IL ZL OL HF
  have HCL := Lib.hid hCL
  have hsl := arr_all
  clear hZ41 hF hb hl hCL
  have b0 : Below w.heap.size w ((w.alloc (.cells Z41 113)).setRow w.heap.size CL) := ((Below.refl _ _).alloc (Nat.le_refl _) _).trans (below_row _ _ (Nat.le_refl _))
  have r0 : ((w.alloc (.cells Z41 113)).setRow w.heap.size CL).heap[w.heap.size]? = some (.cells CL 113 (0, 0)) := setRow_heap _ _ _ _ _ _ (heap_alloc_new w _)
  have B0 := Lib.hid b0
  have R0 := Lib.hid r0
  clear b0 r0
  go_enter Tryz.func80, Tryz.ntmps80
  go_wp2_with (first
    | (refine wpList_load_row rfl 113 (.tmp 1) rfl F rfl 113 CL (0, 0) _ HF.out Tryz.underlying113 rfl IL.out ?_)
    | (refine wpList_store_row rfl 113 (.tmp 4) (.tmp 6) rfl w.heap.size CL rfl rfl 113 Z41 (heap_alloc_new w _) IL.out ZL.out OL.out ?_))
  go_loopw [7] (fun vi wr => ∃ i : Nat, i ≤ 64 ∧ vi = .int .i64 i ∧ wr.heap[w.heap.size]? = some (.cells (bcells (half L c i)) 113 (0, 0)) ∧ Below w.heap.size w wr) (fun vi _ => 64 - (intOf vi).toNat)
  case atStart => exact ⟨0, by omega, rfl, by rw [R0.out, HCL.out]; rfl, B0.out⟩
  case round =>
    clear B0 R0
    obtain ⟨i, hi, rfl, hr, hbel⟩ := hrel
    by_cases hlt : i < 64
    · have hli : i < L.length := by rw [HL.out]; exact hlt
      have c1 := (cell_of_row _ _ i _ _ _ hr).trans (bcell _ i (by rw [half_len]; exact hli))
      rw [half_nth L c i hli] at c1
      have f1 := frozen_of_row wr w.heap.size i _ 113 hr
      have hx := HB.out.nth i
      have HS : Hid ((bcells (half L c i)).setIfInBounds i (.int .u8 (bits .xor .u8 (nth L i) c)) = bcells (half L c (i + 1))) := by
        show _ = _
        rw [bset, ← half_set L c i hli]; rfl
      have HR := Lib.hid hr
      have HBE := Lib.hid hbel
      generalize nth L i = x at c1 hx HS
      obtain ⟨hx0, hx1⟩ := hx
      clear hr hbel hli
      go_wp2_with fail
      go_roundw
      case rel => exact ⟨i + 1, by omega, by go_num, by rw [heap_setCell_same _ _ _ _ _ _ HR.out, HS.out], HBE.out.setCell (Nat.le_refl _) _⟩
      case measure => simp [intOf]; omega
    · obtain rfl : i = 64 := by omega
      have hend : half L c 64 = L.map (xorb c) := by
        unfold half
        rw [List.take_of_length_le (by rw [HL.out]; omega), List.drop_eq_nil_of_le (by rw [HL.out]; omega), List.append_nil]
      rw [hend] at hr
      have HR := Lib.hid hr
      have HBE := Lib.hid hbel
      clear hr hbel hend
      go_wp2_with fail
      go_ret
      exact ⟨_, rfl, HR.out, Nat.le_refl _, HBE.out⟩
open Go.RowKit
set_option maxRecDepth 100000 in
set_option maxHeartbeats 4000000 in
theorem pads (v : Value) (k : List Int) (w : World) (hv : Sees w v k) (hk : k.length ≤ 1125899906842624) (hG : Glob w) :
    Calls Tryz.prog 60 #[v] w fun e w' => e = .returned (.func (.func 80) #[] #[.pointer (some ⟨w.heap.size, 0, none⟩)]) ∧ w'.heap[w.heap.size]? = some (.cells (bcells (fill k)) 113 (0, 0)) ∧ Below w.heap.size w w' := by
  obtain ⟨x, cap, rfl, hl63⟩ := id hv.form
  have z41 := zv41
  have z27 := zv27
  obtain ⟨Z41, hZ41⟩ : ∃ Z, Z = bcells (List.replicate 64 0) := ⟨_, rfl⟩
  obtain ⟨Z27, hZ27⟩ : ∃ Z, Z = bcells (List.replicate 32 0) := ⟨_, rfl⟩
  rw [← hZ41] at z41
  rw [← hZ27] at z27
  have hsl := arr_all
  have hsl2 := arr32_all
  have hB0 : Below w.heap.size w (w.alloc (.cells Z41 113)) := (Below.refl _ _).alloc (Nat.le_refl _) _
  have hrow : (w.alloc (.cells Z41 113)).heap[w.heap.size]? = some (.cells (bcells (List.replicate 64 0)) 113 (0, 0)) := by rw [heap_alloc_new w _, hZ41]
  have h2 : 2 ≤ w.heap.size := by have := hG.lt; omega
  have hfill : fill k = short k ++ (List.replicate 64 0).drop (short k).length := by
    unfold fill; rw [List.drop_replicate]
  by_cases hbig : 64 < k.length
  · have t1 : (64 : Int) < k.length := by omega
    have hsh : short k = sha k := if_pos hbig
    have lA : (sha k).length = 32 := sha_len k hv.1
    have bA : Byt (sha k) := sha_byt k
    have SM := Lib.hid (sum1 _ k (w.alloc (.cells Z41 113)) (hv.below hB0) hk (hG.below hB0 h2))
    rw [hsh] at hfill
    obtain ⟨A, hA⟩ : ∃ A, A = sha k := ⟨_, rfl⟩
    rw [← hA] at SM lA bA hfill
    have IA := Lib.hid (show (Tryz.prog.info? 74).map (·.size) = some (bcells A).size by rw [i27, bsize, lA])
    have ZA := Lib.hid (show Z27.size = (bcells A).size by rw [hZ27, bsize, bsize, lA, List.length_replicate])
    have OA := Lib.hid (bone A)
    have HF := Lib.hid hfill
    have HB0 := Lib.hid hB0
    have HROW := Lib.hid hrow
    have LA := Lib.hid lA
    have BA := Lib.hid bA
    clear hA hfill hB0 hrow lA bA hsh hv hG hZ41 hZ27
    go_enter Tryz.func60, Tryz.ntmps60
    go_wp2_with fail
    refine SM.out.mono ?_
    rintro e w1 ⟨rfl, hb⟩
    have b1 : Below w.heap.size w w1 := HB0.out.trans (hb.mono HB0.out.size)
    have b2 : Below w.heap.size w ((w1.alloc (.cells Z27 74)).setRow w1.heap.size (bcells A)) := (b1.alloc b1.size _).trans (below_row _ _ b1.size)
    have k1 : w1.heap[w.heap.size]? = some (.cells (bcells (List.replicate 64 0)) 113 (0, 0)) := by rw [hb.block _ (blk_lt HROW.out)]; exact HROW.out
    have hlt : w.heap.size < w1.heap.size := blk_lt k1
    have k2 : ((w1.alloc (.cells Z27 74)).setRow w1.heap.size (bcells A)).heap[w.heap.size]? = some (.cells (bcells (List.replicate 64 0)) 113 (0, 0)) := by
      rw [setRow_other _ _ _ _ (by omega), Below.heap_alloc _ _ _ hlt]; exact k1
    have r2 : Row27 ((w1.alloc (.cells Z27 74)).setRow w1.heap.size (bcells A)) w1.heap.size A := setRow_heap _ _ _ _ _ _ (heap_alloc_new w1 _)
    have s2 : Sees ((w1.alloc (.cells Z27 74)).setRow w1.heap.size (bcells A)) (.slice (some ⟨w1.heap.size, 0, none⟩) 32 32) A := by
      refine ⟨BA.out, .inr (.inr ⟨_, _, _, by rw [LA.out], by intro e; have := LA.out; rw [e] at this; simp at this, by rw [LA.out]; omega, by decide, fun i hi => ?_⟩)⟩
      rw [Nat.zero_add]; exact r2.cell i hi
    have hcp := copy_sees s2 w.heap.size 64 (List.replicate 64 0) 113 k2 List.length_replicate (by rw [LA.out]; omega)
    rw [← HF.out] at hcp
    have HCP := Lib.hid hcp
    have B2 := Lib.hid b2
    have K2 := Lib.hid k2
    clear hb b1 b2 k1 hlt k2 r2 s2 hcp
    go_wp2_with (first
      | (refine wpList_store_row rfl 74 (.tmp 4) (.tmp 9) rfl w1.heap.size (bcells A) rfl rfl 74 Z27 (heap_alloc_new w1 _) IA.out ZA.out OA.out ?_)
      | (refine wpList_copy_run rfl (.tmp 11) (.tmp 12) rfl rfl rfl rfl HCP.out ?_))
    go_ret
    exact ⟨rfl, setRow_heap _ _ _ _ _ _ K2.out, B2.out.trans (below_row _ _ (Nat.le_refl _))⟩
  · have t1 : ¬ (64 : Int) < k.length := by omega
    have hsh : short k = k := if_neg hbig
    rw [hsh] at hfill
    have hcp := copy_sees (hv.below hB0) w.heap.size 64 (List.replicate 64 0) 113 hrow List.length_replicate (by omega)
    rw [← hfill] at hcp
    have HCP := Lib.hid hcp
    have HB0 := Lib.hid hB0
    have HROW := Lib.hid hrow
    clear hfill hB0 hrow hsh hv hG hZ41 hZ27 hcp
    go_enter Tryz.func60, Tryz.ntmps60
    go_wp2_with (refine wpList_copy_run rfl (.tmp 11) (.tmp 12) rfl rfl rfl rfl HCP.out ?_)
    go_ret
    exact ⟨rfl, setRow_heap _ _ _ _ _ _ HROW.out, HB0.out.trans (below_row _ _ (Nat.le_refl _))⟩
open Go.RowKit
/-- The mark of a text. -/
def mac (k b : List Int) : List Int := sha (pad k 92 ++ sha (pad k 54 ++ b))
theorem mac_len (k b : List Int) (hk : Byt k) : (mac k b).length = 32 := sha_len _ ((pad_byt k 92 (by omega) hk).append (sha_byt _))
theorem mac_byt (k b : List Int) : Byt (mac k b) := sha_byt _
/-- An append of texts whose run is known, in a plain region. -/
theorem wpList_appL {ops : Array Oper} {rest : List Oper} {o : Oper} {a : Act} {w : World} {Q : Exit → Act → World → Prop} (hgd : o.guard = none) (s x : Operand)
    (ho : o.op = .call { callee := .builtin .append, args := #[s, x], argTypes := #[63, 63] }) (hty : o.type = 63) {v u v' : Value} {w' : World} (hs : a.eval s = v) (hx : a.eval x = u)
    (hr : (Builtin.append_ #[63, 63] 63 #[v, u]).run Tryz.prog w = .ok v' w') (h : wpList Tryz.prog ops Q rest (a.put o.dst v') w') : wpList Tryz.prog ops Q (o :: rest) a w := by
  refine wpList_plain hgd fun K hK => ?_
  unfold Oper.wp execOp
  simp only [ho, hty, resolve, invoke, builtin, Sem.run_bind, Sem.run_pure, Result.andThen_ok, List.map_toArray, List.map_cons, List.map_nil, hs, hx, hr]
  exact hK _ _ h
theorem info22 : (Tryz.prog.info? 31).map (fun i => (i.zero, i.size, i.bytes)) = some (some (.slice none 0 0), 1, 24) := by kernel_rfl
/-- Block g holds slices that read as texts. -/
def LitL (w : World) (g : Nat) (vs : List Value) (yss : List (List Int)) : Prop :=
  w.heap[g]? = some (.cells vs.toArray 31 (0, 0)) ∧ vs.length = yss.length ∧ ∀ i, i < vs.length → Sees w (vs.getD i undef) (yss.getD i [])
theorem LitL.below {w w' : World} {g : Nat} {vs : List Value} {yss : List (List Int)} (h : LitL w g vs yss) (hb : Below w.heap.size w w') : LitL w' g vs yss :=
  ⟨by rw [hb.block _ (blk_lt h.1)]; exact h.1, h.2.1, fun i hi => (h.2.2 i hi).below hb⟩
theorem sees_one {w : World} {v : Value} {xs : List Int} (h : Sees w v xs) : v.oneCell' = true := by
  obtain ⟨x, c, rfl, _⟩ := h.form; rfl
/-- A text ahead of others. -/
theorem app_texts {w : World} {v : Value} {xs : List Int} {g : Nat} {vs : List Value} {yss : List (List Int)} (hx : Sees w v xs) (hy : LitL w g vs yss) (hn : vs.length ≤ 8) (c : Nat) :
    ∃ x cap w', (Builtin.append_ #[63, 63] 63 #[.slice (some ⟨w.heap.size, 0, none⟩) 1 1, .slice (some ⟨g, 0, none⟩) vs.length c]).run Tryz.prog (w.alloc (.cells #[v] 31)) = .ok (.slice x (1 + vs.length) cap) w' ∧
      SeesL w' (.slice x (1 + vs.length) cap) (xs :: yss) ∧ Below w.heap.size w w' := by
  obtain ⟨i, hi, hz0, hz1, hz2⟩ := info_parts info22
  have hB0 : Below w.heap.size w (w.alloc (.cells #[v] 31)) := (Below.refl _ _).alloc (Nat.le_refl _) _
  have hown : (w.alloc (.cells #[v] 31)).ownsRow w.heap.size 31 1 (.slice (some ⟨w.heap.size, 0, none⟩) 1 1) 1 [v] :=
    ⟨rfl, .inr ⟨w.heap.size, 1, #[v], rfl, Nat.le_refl _, heap_alloc_new w _, Nat.le_refl _, by decide, rfl, rfl⟩⟩
  have hy1 := hy.below hB0
  have hm : 1 + vs.length ≤ maxLen := by unfold maxLen; omega
  obtain ⟨v', w', hr, ho, hg, _⟩ := run_append_own (P := Tryz.prog) (w.alloc (.cells #[v] 31)) w.heap.size 63 63 31 i _ 1 24 Tryz.underlying63 hi hz0 hz1 hz2 rfl (by decide) _ 1 _ hown ⟨g, 0, none⟩ vs.length c vs (by simp) (fun j u hj => by
      rw [addr_add, Nat.zero_add, cell_of_row _ _ _ _ _ _ hy1.1]; simpa using hj) (fun u hu => by
      obtain ⟨j, hj, rfl⟩ := List.mem_iff_getElem.1 hu
      have := hy.2.2 j hj
      simp only [List.getD, List.getElem?_eq_getElem hj, Option.getD_some] at this
      exact sees_one this) hm (by omega) (by simp)
  have hbel : Below w.heap.size w w' := hB0.grown hg (by simp) (fun k e => by simp [Value.ownBlock] at e; omega)
  obtain ⟨hlen, ⟨rfl, h0⟩ | ⟨g', cap, cur, rfl, hbg, hg', hn', hm', hs', ht'⟩⟩ := ho
  · omega
  · refine ⟨_, cap, w', hr, .inr ⟨g', 0, cap, by simp [hy.2.1, Nat.add_comm], by simp [← hy.2.1]; omega, fun j hj => ?_⟩, hbel⟩
    have hj1 : j < 1 + vs.length := by simp [← hy.2.1] at hj; omega
    have hcell : w'.cell? ⟨g', 0 + j, none⟩ = (v :: vs)[j]? := by
      rw [cell_of_row _ _ _ _ _ _ hg', Nat.zero_add]
      have : (cur.toList.take ((1 + vs.length) * 1))[j]? = (v :: vs)[j]? := by rw [ht']; rfl
      rw [List.getElem?_take_of_lt (by omega)] at this
      simpa using this
    cases j with
    | zero => exact ⟨v, by rw [hcell]; rfl, hx.below hbel⟩
    | succ j =>
      have hjv : j < vs.length := by omega
      refine ⟨vs[j], by rw [hcell]; simp [hjv], ?_⟩
      have := (hy.2.2 j hjv).below hbel
      simp only [List.getD, List.getElem?_eq_getElem hjv, Option.getD_some] at this
      simpa [List.getD] using this
set_option maxRecDepth 100000 in
set_option maxHeartbeats 4000000 in
theorem mark (v : Value) (k : List Int) (g c : Nat) (vs : List Value) (yss : List (List Int)) (w : World) (hv : Sees w v k) (hk : k.length ≤ 562949953421312) (hy : LitL w g vs yss) (hn : vs.length ≤ 8) (hfl : yss.flatten.length ≤ 562949953421312) (hG : Glob w) :
    Calls Tryz.prog 42 #[v, .slice (some ⟨g, 0, none⟩) vs.length c] w fun e w' => e = .returned (.agg (bcells (mac k yss.flatten))) ∧ Below w.heap.size w w' := by
  obtain ⟨x, cap, rfl, hl63⟩ := id hv.form
  have z27 := zv27
  obtain ⟨Z27, hZ27⟩ : ∃ Z, Z = bcells (List.replicate 32 0) := ⟨_, rfl⟩
  rw [← hZ27] at z27
  have h2 : 2 ≤ w.heap.size := by have := hG.lt; omega
  have hB0 : Below w.heap.size w (w.alloc (.cells Z27 74)) := (Below.refl _ _).alloc (Nat.le_refl _) _
  have PD := Lib.hid (pads _ k (w.alloc (.cells Z27 74)) (hv.below hB0) (by omega) (hG.below hB0 h2))
  have hkb := hv.1
  have hfl64 := fill_len k hkb
  have hfb := fill_byt k hkb
  have p54 := pad_len k 54 hkb
  have p92 := pad_len k 92 hkb
  have b54 := pad_byt k 54 (by omega) hkb
  have b92 := pad_byt k 92 (by omega) hkb
  have hyb : Byt yss.flatten := fun z hz => by
    obtain ⟨l, hl, hzl⟩ := List.mem_flatten.1 hz
    obtain ⟨j, hj, rfl⟩ := List.mem_iff_getElem.1 hl
    have := (hy.2.2 j (by rw [hy.2.1]; exact hj)).1
    simp only [List.getD, List.getElem?_eq_getElem hj, Option.getD_some] at this
    exact this z hzl
  obtain ⟨I, hI⟩ : ∃ I, I = sha (pad k 54 ++ yss.flatten) := ⟨_, rfl⟩
  obtain ⟨M, hM⟩ : ∃ M, M = mac k yss.flatten := ⟨_, rfl⟩
  have lI : I.length = 32 := by rw [hI]; exact sha_len _ (b54.append hyb)
  have bI : Byt I := by rw [hI]; exact sha_byt _
  have lM : M.length = 32 := by rw [hM]; exact mac_len k _ hkb
  have II := Lib.hid (show (Tryz.prog.info? 74).map (·.size) = some (bcells I).size by rw [i27, bsize, lI])
  have ZI := Lib.hid (show Z27.size = (bcells I).size by rw [hZ27, bsize, bsize, lI, List.length_replicate])
  have OI := Lib.hid (bone I)
  have IM := Lib.hid (show (Tryz.prog.info? 74).map (·.size) = some (bcells M).size by rw [i27, bsize, lM])
  have ZM := Lib.hid (show Z27.size = (bcells M).size by rw [hZ27, bsize, bsize, lM, List.length_replicate])
  have OM := Lib.hid (bone M)
  have BT1 : Hid (∀ W u, Glob W → SeesL W u (pad k 54 :: yss) → Calls Tryz.prog 61 #[u] W fun e w' => e = .returned (.agg (bcells I)) ∧ Below W.heap.size W w') := fun W u hg hu => by
    have h := both u _ W hu (by rw [List.flatten_cons, List.length_append, p54]; omega) hg
    rw [List.flatten_cons, ← hI] at h; exact h
  have BT2 : Hid (∀ W u, Glob W → SeesL W u [pad k 92, I] → Calls Tryz.prog 61 #[u] W fun e w' => e = .returned (.agg (bcells M)) ∧ Below W.heap.size W w') := fun W u hg hu => by
    have h := both u _ W hu (by simp [p92, lI]) hg
    rw [show [pad k 92, I].flatten = pad k 92 ++ I by simp, hI, show sha (pad k 92 ++ sha (pad k 54 ++ yss.flatten)) = M from hM.symm] at h; exact h
  have HB0 := Lib.hid hB0
  have HF64 := Lib.hid hfl64
  have HFB := Lib.hid hfb
  have P54 := Lib.hid p54
  have P92 := Lib.hid p92
  have B54 := Lib.hid b54
  have B92 := Lib.hid b92
  have LI := Lib.hid lI
  have BI := Lib.hid bI
  have HY := Lib.hid hy
  have HGL := Lib.hid hG
  have H2 := Lib.hid h2
  have HN := Lib.hid hn
  have HM := Lib.hid hM
  have K0 := Lib.hid (show (w.alloc (.cells Z27 74)).heap[w.heap.size]? = some (.cells Z27 74 (0, 0)) from heap_alloc_new w _)
  have hsl2 := arr32_all
  clear hZ27 hB0 hkb hfl64 hfb p54 p92 b54 b92 hyb hI hM lI bI lM hv hy hG h2 hn hk hfl
  go_enter Tryz.func42, Tryz.ntmps42
  go_wp2_with fail
  refine PD.out.mono ?_
  rintro e w1 ⟨rfl, hF, hb⟩
  have B1 : Hid (Below w.heap.size w w1) := HB0.out.trans (hb.mono HB0.out.size)
  have hgs : (w.alloc (.cells Z27 74)).heap.size = w.heap.size + 1 := by simp
  rw [hgs] at hF
  have K1 : Hid (w1.heap[w.heap.size]? = some (.cells Z27 74 (0, 0))) := by
    show _ = _
    rw [hb.block _ (blk_lt K0.out)]; exact K0.out
  have HF := Lib.hid hF
  clear hb hF hgs
  go_wp2_with fail
  refine (padc (w.heap.size + 1) (fill k) 54 (by omega) HF64.out HFB.out w1 HF.out).mono ?_
  rintro e w2 ⟨G, rfl, hrow, hGs, hb⟩
  have B2 : Hid (Below w.heap.size w w2) := B1.out.trans (hb.mono B1.out.size)
  have K2 : Hid (w2.heap[w.heap.size]? = some (.cells Z27 74 (0, 0))) := by
    show _ = _
    rw [hb.block _ (blk_lt K1.out)]; exact K1.out
  have HF2 : Hid (w2.heap[w.heap.size + 1]? = some (.cells (bcells (fill k)) 113 (0, 0))) := by
    show _ = _
    rw [hb.block _ (blk_lt HF.out)]; exact HF.out
  have hsp : Sees w2 (.slice (some ⟨G, 0, none⟩) 64 64) (pad k 54) := sees_arr P54.out B54.out hrow
  obtain ⟨y, cp, w3, hr, hL, hb3⟩ := app_texts hsp (HY.out.below B2.out) HN.out c
  have R3 := Lib.hid hr
  have L3 := Lib.hid hL
  have B3 : Hid (Below w.heap.size w w3) := B2.out.trans (hb3.mono B2.out.size)
  have K3 : Hid (w3.heap[w.heap.size]? = some (.cells Z27 74 (0, 0))) := by
    show _ = _
    rw [hb3.block _ (blk_lt K2.out)]; exact K2.out
  have HF3 : Hid (w3.heap[w.heap.size + 1]? = some (.cells (bcells (fill k)) 113 (0, 0))) := by
    show _ = _
    rw [hb3.block _ (blk_lt HF2.out)]; exact HF2.out
  clear hrow hGs hb hsp hr hL hb3 HF K1 HF2 K2
  go_wp2_with (at_builtin; refine wpList_appL rfl (.tmp 11) (.tmp 12) rfl rfl rfl rfl R3.out ?_)
  refine (BT1.out _ _ (HGL.out.below B3.out H2.out) L3.out).mono ?_
  rintro e w4 ⟨rfl, hb⟩
  have q5 : Below w4.heap.size w4 ((w4.alloc (.cells Z27 74)).setRow w4.heap.size (bcells I)) := ((Below.refl _ _).alloc (Nat.le_refl _) _).trans (below_row _ _ (Nat.le_refl _))
  have b4 : Below w.heap.size w w4 := B3.out.trans (hb.mono B3.out.size)
  have B5 : Hid (Below w.heap.size w ((w4.alloc (.cells Z27 74)).setRow w4.heap.size (bcells I))) := b4.trans (q5.mono b4.size)
  have K5 : Hid (((w4.alloc (.cells Z27 74)).setRow w4.heap.size (bcells I)).heap[w.heap.size]? = some (.cells Z27 74 (0, 0))) := by
    have h4 : w4.heap[w.heap.size]? = some (.cells Z27 74 (0, 0)) := by rw [hb.block _ (blk_lt K3.out)]; exact K3.out
    show _ = _
    rw [q5.block _ (blk_lt h4)]; exact h4
  have HF5 : Hid (((w4.alloc (.cells Z27 74)).setRow w4.heap.size (bcells I)).heap[w.heap.size + 1]? = some (.cells (bcells (fill k)) 113 (0, 0))) := by
    have h4 : w4.heap[w.heap.size + 1]? = some (.cells (bcells (fill k)) 113 (0, 0)) := by rw [hb.block _ (blk_lt HF3.out)]; exact HF3.out
    show _ = _
    rw [q5.block _ (blk_lt h4)]; exact h4
  have R5 : Hid (Row27 ((w4.alloc (.cells Z27 74)).setRow w4.heap.size (bcells I)) w4.heap.size I) := setRow_heap _ _ _ _ _ _ (heap_alloc_new w4 _)
  clear hb q5 b4 K3 HF3
  go_wp2_with (refine wpList_store_row rfl 74 (.tmp 6) (.tmp 14) rfl w4.heap.size (bcells I) rfl rfl 74 Z27 (heap_alloc_new w4 _) II.out ZI.out OI.out ?_)
  generalize hI6 : w4.heap.size = I6 at *
  generalize (w4.alloc (.cells Z27 74)).setRow I6 (bcells I) = w5 at *
  refine wp_region_any (by kernel_rfl) ?_
  change wpAny _ _ _ _ _ _ _ (World.drew _)
  refine' wpAny_take (i := 0) ?h1x0 ?hsx0 ?hfx0 ?hrx0 ?hQx0 (Or.inl ⟨?hwx0, ?hyx0⟩) ?restx0
  case h1x0 => (simp only [List.getElem?_toArray, List.getElem?_cons_zero]; rfl)
  case hsx0 | hfx0 | hrx0 => kernel_rfl
  case hQx0 => exact fun _ _ _ h => h
  case hwx0 => rfl
  case hyx0 =>
    intro W
    go_simp
    try with_reducible rfl
  simp only [Act.put, List.setIfInBounds_toArray, List.set_cons_succ, List.set_cons_zero]
  refine' wpAny_take (i := 2) ?h1x2 ?hsx2 ?hfx2 ?hrx2 ?hQx2 (Or.inl ⟨?hwx2, ?hyx2⟩) ?restx2
  case h1x2 => (simp only [List.getElem?_toArray, List.getElem?_cons_succ, List.getElem?_cons_zero]; rfl)
  case hsx2 | hfx2 | hrx2 => kernel_rfl
  case hQx2 => exact fun _ _ _ h => h
  case hwx2 => rfl
  case hyx2 =>
    intro W
    go_simp
    try with_reducible rfl
  simp only [Act.put, List.setIfInBounds_toArray, List.set_cons_succ, List.set_cons_zero]
  refine wpAny_ready (rs := [1]) (by kernel_rfl) (by simp) ?_
  refine' AllReady.cons ?hoc1 (fun K hK => ?stc1) AllReady.nil
  case hoc1 => (simp only [List.getElem?_toArray, List.getElem?_cons_succ, List.getElem?_cons_zero]; rfl)
  go_simp
  refine (padc (w.heap.size + 1) (fill k) 92 (by omega) HF64.out HFB.out w5.drew HF5.out).mono ?_
  rintro e w6 ⟨G2, rfl, hrow, hGs, hb⟩
  have b6 : Below w.heap.size w w6 := B5.out.drew.trans (hb.mono B5.out.size)
  have hsp : Sees w6 (.slice (some ⟨G2, 0, none⟩) 64 64) (pad k 92) := sees_arr P92.out B92.out hrow
  have hrI : Row27 w6 I6 I := by
    unfold Row27
    rw [hb.block _ (blk_lt R5.out)]; exact R5.out
  have hsI : Sees w6 (.slice (some ⟨I6, 0, none⟩) 32 32) I := by
    refine ⟨BI.out, .inr (.inr ⟨_, _, _, by rw [LI.out], by intro e; have := LI.out; rw [e] at this; simp at this, by rw [LI.out]; omega, by decide, fun i hi => ?_⟩)⟩
    rw [Nat.zero_add]; exact hrI.cell i hi
  have k6 : w6.heap[w.heap.size]? = some (.cells Z27 74 (0, 0)) := by rw [hb.block _ (blk_lt K5.out)]; exact K5.out
  have hL : SeesL (w6.alloc (.cells #[.slice (some ⟨G2, 0, none⟩) 64 64, .slice (some ⟨I6, 0, none⟩) 32 32] 31)) (.slice (some ⟨w6.heap.size, 0, none⟩) 2 2) [pad k 92, I] := by
    have hq : Below w6.heap.size w6 (w6.alloc (.cells #[.slice (some ⟨G2, 0, none⟩) 64 64, .slice (some ⟨I6, 0, none⟩) 32 32] 31)) := (Below.refl _ _).alloc (Nat.le_refl _) _
    refine .inr ⟨w6.heap.size, 0, 2, rfl, by simp, fun i hi => ?_⟩
    have hi2 : i = 0 ∨ i = 1 := by simp at hi; omega
    rcases hi2 with rfl | rfl
    · exact ⟨_, by rw [cell_of_row _ _ _ _ _ _ (heap_alloc_new w6 _)]; rfl, hsp.below hq⟩
    · exact ⟨_, by rw [cell_of_row _ _ _ _ _ _ (heap_alloc_new w6 _)]; rfl, hsI.below hq⟩
  have b7 : Below w.heap.size w (w6.alloc (.cells #[.slice (some ⟨G2, 0, none⟩) 64 64, .slice (some ⟨I6, 0, none⟩) 32 32] 31)) := b6.alloc b6.size _
  have k7 : (w6.alloc (.cells #[.slice (some ⟨G2, 0, none⟩) 64 64, .slice (some ⟨I6, 0, none⟩) 32 32] 31)).heap[w.heap.size]? = some (.cells Z27 74 (0, 0)) := by rw [Below.heap_alloc _ _ _ (blk_lt k6)]; exact k6
  have HL7 := Lib.hid hL
  have B7 := Lib.hid b7
  have K7 := Lib.hid k7
  clear hrow hGs hb b6 hsp hrI hsI k6 hL b7 k7
  go_wp2_with fail
  try simp only [Act.put, List.setIfInBounds_toArray, List.set_cons_zero, List.set_cons_succ]
  refine wpAny_ready (rs := [3]) (by kernel_rfl) (by simp) ?_
  refine' AllReady.cons ?hoc3 (fun K hK => ?stc3) AllReady.nil
  case hoc3 => (simp only [List.getElem?_toArray, List.getElem?_cons_succ, List.getElem?_cons_zero]; rfl)
  go_simp
  refine hK _ _ ?_
  clear hK K
  try simp only [Act.put, List.setIfInBounds_toArray, List.set_cons_zero, List.set_cons_succ]
  refine wpAny_ready (rs := [4]) (by kernel_rfl) (by simp) ?_
  refine' AllReady.cons ?hoc4 (fun K hK => ?stc4) AllReady.nil
  case hoc4 => (simp only [List.getElem?_toArray, List.getElem?_cons_succ, List.getElem?_cons_zero]; rfl)
  go_simp
  refine (BT2.out _ _ (HGL.out.below B7.out H2.out) HL7.out).mono ?_
  rintro e w8 ⟨rfl, hb⟩
  have B8 : Hid (Below w.heap.size w w8) := B7.out.trans (hb.mono B7.out.size)
  have k8 : w8.heap[w.heap.size]? = some (.cells Z27 74 (0, 0)) := by rw [hb.block _ (blk_lt K7.out)]; exact K7.out
  clear hb K7
  go_wp2_with fail
  try simp only [Act.put, List.setIfInBounds_toArray, List.set_cons_zero, List.set_cons_succ]
  refine wpAny_ready (rs := [5]) (by kernel_rfl) (by simp) ?_
  refine' AllReady.cons ?hoc5 (fun K hK => ?stc5) AllReady.nil
  case hoc5 => (simp only [List.getElem?_toArray, List.getElem?_cons_succ, List.getElem?_cons_zero]; rfl)
  rw [if_pos (by rfl)]
  refine wp_store_row 74 (.tmp 4) (.tmp 19) rfl w.heap.size (bcells M) rfl rfl 74 Z27 k8 IM.out ZM.out OM.out ?_
  refine hK _ _ ?_
  clear hK K
  simp only [Act.put]
  refine wpAny_done (by kernel_rfl) ?_ _
  go_wp2_with fail
  refine bodyPost_ret (v := .agg (bcells M)) (results_cell_row Tryz.results42 _ _ w.heap.size 74 _ (0, 0) _ rfl (setRow_heap _ _ _ _ _ _ k8) Tryz.underlying74 rfl IM.out) rfl ⟨by rw [HM.out], ?_⟩
  exact B8.out.trans (below_row _ _ (Nat.le_refl _))
open Go.RowKit
theorem same_len (x y : Option Addr) (l m c d : Nat) (h : ¬ l = m) (w : World) :
    Calls Tryz.prog 13 #[.slice x l c, .slice y m d] w fun e w' => e = .returned (.bool false) ∧ w = w' := by
  go_enter Tryz.func13, Tryz.ntmps13
  go_wp2
  go_ret
  exact ⟨rfl, rfl⟩
theorem same_plain (b o cap b2 o2 cap2 : Nat) (xs ys : List Int) (hx : Byt xs) (hy : Byt ys) (hl : ys.length = xs.length) (hm : xs.length ≤ 9223372036854775807) (w : World)
    (hc : ∀ i, i < xs.length → w.cell? ⟨b, o + i, none⟩ = some (.int .u8 (nth xs i))) (hd : ∀ i, i < xs.length → w.cell? ⟨b2, o2 + i, none⟩ = some (.int .u8 (nth ys i))) :
    Calls Tryz.prog 13 #[.slice (some ⟨b, o, none⟩) xs.length cap, .slice (some ⟨b2, o2, none⟩) xs.length cap2] w fun e w' => e = .returned (.bool (decide (xs = ys))) ∧ w = w' := by
  go_enter Tryz.func13, Tryz.ntmps13
  go_wp2
  go_loop [5, 15] (fun u i => ∃ (k : Nat) (z : Int), k ≤ xs.length ∧ i = .int .i64 k ∧ u = .int .u8 z ∧ 0 ≤ z ∧ z ≤ 255 ∧ (z = 0 ↔ xs.take k = ys.take k)) (fun _ i => xs.length - (intOf i).toNat)
  case atStart => exact ⟨0, 0, by omega, rfl, rfl, by omega, by omega, by simp⟩
  case round =>
    obtain ⟨k, z, hk, rfl, rfl, h0, h1, hz⟩ := hrel
    have HZ := Lib.hid hz
    clear hz
    by_cases hlt : k < xs.length
    · have c1 := hc k hlt
      have c2 := hd k hlt
      have g1 := hx.nth k
      have g2 := hy.nth k
      have T1 := Lib.hid (take_snoc xs k hlt)
      have T2 := Lib.hid (take_snoc ys k (by omega))
      have X := Lib.hid (xor8_zero (nth xs k) (nth ys k) g1 g2)
      have O := Lib.hid (or8_zero z (bits .xor .u8 (nth xs k) (nth ys k)) ⟨h0, h1⟩ X.out.2)
      have p1 := g1.1
      have p2 := g1.2
      have p3 := g2.1
      have p4 := g2.2
      clear hc hd g1 g2
      go_wp2
      go_round
      case rel =>
        refine ⟨k + 1, _, by omega, by go_num, rfl, O.out.2.1, O.out.2.2, ?_⟩
        rw [O.out.1, X.out.1, HZ.out, T1.out, T2.out]
        constructor
        · rintro ⟨e1, e2⟩
          rw [e1, e2]
        · intro e
          have := List.append_inj e (by simp; omega)
          exact ⟨this.1, by simpa using this.2⟩
      case measure => simp [intOf]; omega
    · obtain rfl : k = xs.length := by omega
      have e1 : xs.take xs.length = xs := List.take_length
      have e2 : ys.take xs.length = ys := by rw [← hl]; exact List.take_length
      have HE : Hid ((z == 0) = decide (xs = ys)) := by
        show (z == 0) = decide (xs = ys)
        have := HZ.out
        rw [e1, e2] at this
        rw [Bool.eq_iff_iff]
        simp [this]
      clear hc hd e1 e2
      go_wp2
      go_ret
      refine ⟨?_, rfl⟩
      rw [← HE.out]
      rfl
theorem same_zero (x y : Option Addr) (c d : Nat) (w : World) : Calls Tryz.prog 13 #[.slice x 0 c, .slice y 0 d] w fun e w' => e = .returned (.bool true) ∧ w = w' := by
  go_enter Tryz.func13, Tryz.ntmps13
  go_wp2
  go_loop [5, 15] (fun u i => u = .int .u8 0 ∧ i = .int .i64 0) (fun _ _ => 0)
  case atStart => exact ⟨rfl, rfl⟩
  case round =>
    obtain ⟨rfl, rfl⟩ := hrel
    go_wp2
    go_ret
    exact ⟨rfl, rfl⟩
theorem same (v u : Value) (xs ys : List Int) (w : World) (h : Sees w v xs) (k : Sees w u ys) : Calls Tryz.prog 13 #[v, u] w fun e w' => e = .returned (.bool (decide (xs = ys))) ∧ w = w' := by
  by_cases hl : xs.length = ys.length
  · by_cases h0 : xs = []
    · subst h0
      obtain rfl := List.length_eq_zero_iff.1 hl.symm
      obtain ⟨x, c, rfl, _⟩ := h.form
      obtain ⟨y, d, rfl, _⟩ := k.form
      exact same_zero x y c d w
    · have h1 : ys ≠ [] := fun e => h0 (List.length_eq_zero_iff.1 (by rw [hl, e]; rfl))
      obtain ⟨hb, ⟨_, h2⟩ | ⟨_, _, _, h2, _⟩ | ⟨b, o, cap, rfl, _, _, hm, hc⟩⟩ := h
      · exact (h0 h2).elim
      · exact (h0 h2).elim
      obtain ⟨hb2, ⟨_, h2⟩ | ⟨_, _, _, h2, _⟩ | ⟨b2, o2, cap2, rfl, _, _, _, hd⟩⟩ := k
      · exact (h1 h2).elim
      · exact (h1 h2).elim
      rw [← hl] at hd ⊢
      unfold maxLen at hm
      exact same_plain b o cap b2 o2 cap2 xs ys hb hb2 hl.symm (by omega) w hc hd
  · obtain ⟨x, c, rfl, _⟩ := h.form
    obtain ⟨y, d, rfl, _⟩ := k.form
    rw [show decide (xs = ys) = false from decide_eq_false (fun e => hl (by rw [e]))]
    exact same_len x y _ _ c d hl w

theorem lit1 (w : World) (v : Value) (xs : List Int) (h : Sees w v xs) : LitL (w.alloc (.cells #[v] 31)) w.heap.size [v] [xs] :=
  ⟨heap_alloc_new w _, rfl, fun i hi => by
    obtain rfl : i = 0 := by simpa using hi
    exact h.below ((Below.refl _ _).alloc (Nat.le_refl _) _)⟩
/-- A row of 32 bytes, sliced. -/
theorem Row27.sees {w : World} {g : Nat} {xs : List Int} (h : Row27 w g xs) (hl : xs.length = 32) (hb : Byt xs) : Sees w (.slice (some ⟨g, 0, none⟩) 32 32) xs := by
  refine ⟨hb, .inr (.inr ⟨_, _, _, by rw [hl], by intro e; rw [e] at hl; simp at hl, by rw [hl]; omega, by decide, fun i hi => ?_⟩)⟩
  rw [Nat.zero_add]; exact h.cell i hi
open Go.RowKit
/-- The parts of a stream. -/
def tpart (key name : List Int) : Nat → List Int
  | 0 => []
  | i + 1 => mac key (tpart key name i ++ name ++ [((i + 1 : Nat) : Int)])
/-- .. one behind the other. -/
def tstr (key name : List Int) : Nat → List Int
  | 0 => []
  | i + 1 => tstr key name i ++ tpart key name (i + 1)
/-- The first n bytes of the stream. -/
def strm (key name : List Int) (n : Nat) : List Int := (tstr key name 255).take n
theorem tpart_len (key name : List Int) (hk : Byt key) (i : Nat) : (tpart key name (i + 1)).length = 32 := mac_len _ _ hk
theorem tpart_byt (key name : List Int) : ∀ i, Byt (tpart key name i)
  | 0 => fun _ h => by simp [tpart] at h
  | i + 1 => mac_byt _ _
theorem tstr_len (key name : List Int) (hk : Byt key) : ∀ i, (tstr key name i).length = 32 * i
  | 0 => rfl
  | i + 1 => by rw [tstr, List.length_append, tstr_len key name hk i, tpart_len key name hk]; omega
theorem tstr_byt (key name : List Int) : ∀ i, Byt (tstr key name i)
  | 0 => fun _ h => by simp [tstr] at h
  | i + 1 => (tstr_byt key name i).append (tpart_byt key name (i + 1))
theorem tstr_more (key name : List Int) (i : Nat) : ∀ k, ∃ r, tstr key name (i + k) = tstr key name i ++ r
  | 0 => ⟨[], by simp⟩
  | k + 1 => by
    obtain ⟨r, hr⟩ := tstr_more key name i k
    exact ⟨r ++ tpart key name (i + k + 1), by rw [← Nat.add_assoc, tstr, hr, List.append_assoc]⟩
theorem strm_at (key name : List Int) (hk : Byt key) (i j : Nat) (hi : i ≤ 254) (hj : j ≤ 32) : strm key name (32 * i + j) = tstr key name i ++ (tpart key name (i + 1)).take j := by
  obtain ⟨r, hr⟩ := tstr_more key name (i + 1) (254 - i)
  have e : i + 1 + (254 - i) = 255 := by omega
  rw [e] at hr
  unfold strm
  rw [hr, tstr, List.append_assoc]
  have hl := tstr_len key name hk i
  have hp := tpart_len key name hk i
  rw [List.take_append, hl, List.take_of_length_le (by omega), Nat.add_sub_cancel_left, List.take_append_of_le_length (by omega)]
theorem strm_len (key name : List Int) (hk : Byt key) (n : Nat) (h : n ≤ 8160) : (strm key name n).length = n := by
  unfold strm; rw [List.length_take, tstr_len key name hk]; omega
theorem strm_byt (key name : List Int) (n : Nat) : Byt (strm key name n) := (tstr_byt key name 255).take n
theorem Own.base {w : World} {b b' : Nat} {v : Value} {xs : List Int} (h : Own w b v xs) (hb : b' ≤ b) : Own w b' v xs := by
  obtain ⟨h1, h2, h3 | ⟨g, cap, cur, e, hg, r⟩⟩ := h
  · exact ⟨h1, h2, .inl h3⟩
  · exact ⟨h1, h2, .inr ⟨g, cap, cur, e, Nat.le_trans hb hg, r⟩⟩
theorem len48 : Tryz.prog.arrayLen 23 = 32 := by kernel_rfl
theorem und48 : Tryz.prog.underlying 23 = some (.array (Tryz.prog.arrayLen 23) (Tryz.prog.elem 23)) := by kernel_rfl
theorem size48 (W : World) : (sizeOf (Tryz.prog.elem 23)).run Tryz.prog W = .ok 1 W := by kernel_rfl
theorem i48 : (Tryz.prog.info? 23).map (·.size) = some 32 := by kernel_rfl
/-- 'a[:]' of a key. -/
theorem key_all (g : Nat) (W : World) : (Instr.sliceAt 23 (.pointer (some ⟨g, 0, none⟩)) none none none).run Tryz.prog W = .ok (.slice (some ⟨g, 0, none⟩) 32 32) W := by
  rw [run_sliceAt_array_all W 23 ⟨g, 0, none⟩ und48, size48]
  simp [Result.andThen, slicedAt, len48, addr_add]
theorem row_sees {w : World} {g : Nat} {xs : List Int} {t : TypeId} (h : w.heap[g]? = some (.cells (bcells xs) t (0, 0))) (hl : xs.length = 32) (hb : Byt xs) : Sees w (.slice (some ⟨g, 0, none⟩) 32 32) xs := by
  refine ⟨hb, .inr (.inr ⟨_, _, _, by rw [hl], by intro e; rw [e] at hl; simp at hl, by rw [hl]; omega, by decide, fun i hi => ?_⟩)⟩
  rw [cell_of_row _ _ _ _ _ _ h, Nat.zero_add]
  simp [bcells, nth, List.getD, hi]
theorem mkCap (n : Nat) (hn : n ≤ 8160) (w : World) : (Instr.makeSlice 31 (.int .i64 0) (.int .i64 n)).run Tryz.prog w =
    .ok (.slice (some ⟨w.heap.size, 0, none⟩) 0 n) (w.alloc (.cells (bcells (List.replicate n 0)) 5)) := by
  obtain ⟨i, hi, hz0, hz1, hz2⟩ := info_parts info5
  have h := run_make (P := Tryz.prog) w 31 5 i _ Tryz.underlying31 hi hz0 .i64 .i64 0 n (by omega) (by omega) (by rw [hz2]; omega) (by omega)
  rw [h]
  simp only [Int.toNat_natCast, hz1, Nat.mul_one]
  rw [made_bytes]
  rfl
def StreamP (w : World) (key name : List Int) (n : Nat) (e : Ending) (w' : World) : Prop :=
  ∃ q cap, e = .returned (.slice q n cap) ∧ Own w' w.heap.size (.slice q n cap) (strm key name n) ∧ Below w.heap.size w w'
/-- The stream's state within part i + 1, j bytes of it written. -/
structure SI (w wr : World) (key name : List Int) (i j gp : Nat) (q : Option Addr) (cap : Nat) : Prop where
  own : Own wr (w.heap.size + 1) (.slice q (32 * i + j) cap) (tstr key name i ++ (tpart key name (i + 1)).take j)
  row : Row27 wr gp (tpart key name (i + 1))
  krow : wr.heap[w.heap.size]? = some (.cells (bcells key) 23 (0, 0))
  bel : Below w.heap.size w wr
theorem byt_one (x : Int) (h : 0 ≤ x ∧ x ≤ 255) : Byt [x] := fun y hy => by
  rw [List.mem_singleton] at hy; rw [hy]; exact h
theorem five_sees (x : Int) (w : World) (h : 0 ≤ x ∧ x ≤ 255) : Sees (w.alloc (.cells #[.int .u8 x] 5)) (.slice (some ⟨w.heap.size, 0, none⟩) 1 1) [x] := by
  refine ⟨byt_one x h, .inr (.inr ⟨_, _, _, rfl, by simp, by simp, by decide, fun i hi => ?_⟩)⟩
  obtain rfl : i = 0 := by simpa using hi
  rw [cell_of_row _ _ _ _ _ _ (heap_alloc_new w _)]
  rfl
theorem Own.not27 {w : World} {base : Nat} {v : Value} {xs ys : List Int} {g : Nat} (h : Own w base v xs) (hr : Row27 w g ys) : ∀ k, v.ownBlock = some k → g ≠ k := by
  intro k hk e
  subst e
  obtain ⟨_, _, ⟨rfl, _⟩ | ⟨g', cap, cur, rfl, _, hg, _⟩⟩ := h
  · simp [Value.ownBlock] at hk
  · have : g' = g := by simpa [Value.ownBlock] using hk
    subst this
    unfold Row27 at hr
    rw [hr] at hg
    simp at hg
theorem SI.grow {w wr : World} {key name : List Int} {i j gp : Nat} {q : Option Addr} {cap : Nat} (h : SI w wr key name i j gp q cap) (hk : Byt key) (hj : j < 32) (hi : i ≤ 254) :
    ∃ q' cap' w', (Builtin.append_ #[31, 31] 31 #[.slice q (32 * i + j) cap, .slice (some ⟨wr.heap.size, 0, none⟩) 1 1]).run Tryz.prog (wr.alloc (.cells #[.int .u8 (nth (tpart key name (i + 1)) j)] 5)) = .ok (.slice q' (32 * i + (j + 1)) cap') w' ∧ SI w w' key name i (j + 1) gp q' cap' := by
  obtain ⟨ho, hr, hkr, hb⟩ := h
  have hp := tpart_len key name hk i
  have hl : (tstr key name i ++ (tpart key name (i + 1)).take j).length = 32 * i + j := by
    rw [List.length_append, tstr_len key name hk, List.length_take, hp]; omega
  have hB : Below wr.heap.size wr (wr.alloc (.cells #[.int .u8 (nth (tpart key name (i + 1)) j)] 5)) := (Below.refl _ _).alloc (Nat.le_refl _) _
  have hx := (tpart_byt key name (i + 1)).nth j
  have hlt := blk_lt hkr
  obtain ⟨q', cap', w', h1, h2, h3, h4⟩ := app (ho.below hB) (five_sees _ wr hx) (by rw [hl]; simp; omega) (by have := hB.size; omega)
  rw [hl] at h1 h2
  simp only [List.length_singleton, Nat.add_assoc] at h1 h2
  refine ⟨q', cap', w', h1, ⟨?_, ?_, ?_, ?_⟩⟩
  · rw [List.append_assoc, ← take_snoc _ _ (by omega)] at h2
    exact h2
  · have hr2 := hr.below hB
    cases hv : (Value.slice q (32 * i + j) cap).ownBlock with
    | none =>
      rw [hv] at h3
      unfold Row27
      rw [h3.block _ (blk_lt hr2) (by simp)]
      exact hr2
    | some k =>
      rw [hv] at h3
      exact hr2.grown h3 (ho.not27 hr k hv)
  · rw [h4.block _ (Nat.lt_succ_self _), Below.heap_alloc _ _ _ hlt]; exact hkr
  · exact (hb.alloc hb.size _).trans (h4.mono (Nat.le_succ _))
/-- The call of mark for a part. -/
theorem part_call (key name : List Int) (vn vp : Value) (i g : Nat) (w : World) (hk : Byt key) (lk : key.length = 32) (hn : Sees w vn name) (ln : name.length ≤ 281474976710656) (hp : Sees w vp (tpart key name i)) (hi : i ≤ 254) (hg : w.heap[g]? = some (.cells (bcells key) 23 (0, 0))) (hG : Glob w) :
    Calls Tryz.prog 42 #[.slice (some ⟨g, 0, none⟩) 32 32, .slice (some ⟨w.heap.size + 1, 0, none⟩) 3 3] ((w.alloc (.cells #[.int .u8 ((i + 1 : Nat) : Int)] 5)).alloc (.cells #[vp, vn, .slice (some ⟨w.heap.size, 0, none⟩) 1 1] 31)) fun e w' => e = .returned (.agg (bcells (tpart key name (i + 1)))) ∧ Below (w.heap.size + 2) ((w.alloc (.cells #[.int .u8 ((i + 1 : Nat) : Int)] 5)).alloc (.cells #[vp, vn, .slice (some ⟨w.heap.size, 0, none⟩) 1 1] 31)) w' := by
  have h2 : 2 ≤ w.heap.size := by have := hG.lt; omega
  have hx : 0 ≤ ((i + 1 : Nat) : Int) ∧ ((i + 1 : Nat) : Int) ≤ 255 := by omega
  have hs0 : (w.alloc (.cells #[.int .u8 ((i + 1 : Nat) : Int)] 5)).heap.size = w.heap.size + 1 := by simp
  have hB0 : Below w.heap.size w (w.alloc (.cells #[.int .u8 ((i + 1 : Nat) : Int)] 5)) := (Below.refl _ _).alloc (Nat.le_refl _) _
  have hB1 : Below (w.heap.size + 1) (w.alloc (.cells #[.int .u8 ((i + 1 : Nat) : Int)] 5)) ((w.alloc (.cells #[.int .u8 ((i + 1 : Nat) : Int)] 5)).alloc (.cells #[vp, vn, .slice (some ⟨w.heap.size, 0, none⟩) 1 1] 31)) := (Below.refl _ _).alloc (by rw [hs0]; exact Nat.le_refl _) _
  have hB2 := hB0.trans (hB1.mono (Nat.le_succ _))
  have hlp : (tpart key name i).length ≤ 32 := by
    cases i with
    | zero => simp [tpart]
    | succ i => rw [tpart_len key name hk]; exact Nat.le_refl _
  have hL : LitL ((w.alloc (.cells #[.int .u8 ((i + 1 : Nat) : Int)] 5)).alloc (.cells #[vp, vn, .slice (some ⟨w.heap.size, 0, none⟩) 1 1] 31)) (w.heap.size + 1) [vp, vn, .slice (some ⟨w.heap.size, 0, none⟩) 1 1] [tpart key name i, name, [((i + 1 : Nat) : Int)]] := by
    refine ⟨?_, rfl, fun k hk => ?_⟩
    · rw [← hs0]; exact heap_alloc_new _ _
    · match k, hk with
      | 0, _ => exact hp.below hB2
      | 1, _ => exact hn.below hB2
      | 2, _ => exact (five_sees _ w hx).below (by rw [hs0]; exact hB1)
  have hK : Sees w (.slice (some ⟨g, 0, none⟩) 32 32) key := row_sees hg lk hk
  have e : ([tpart key name i, name, [((i + 1 : Nat) : Int)]] : List (List Int)).flatten = tpart key name i ++ name ++ [((i + 1 : Nat) : Int)] := by simp
  have hM := mark _ key (w.heap.size + 1) 3 _ _ _ (hK.below hB2) (by omega) hL (by simp) (by rw [e]; simp; omega) (hG.below hB2 h2)
  rw [e] at hM
  have hsz : ((w.alloc (.cells #[.int .u8 ((i + 1 : Nat) : Int)] 5)).alloc (.cells #[vp, vn, .slice (some ⟨w.heap.size, 0, none⟩) 1 1] 31)).heap.size = w.heap.size + 2 := by simp
  rw [hsz] at hM
  exact hM
/-- The mark's row, behind the call. -/
theorem SI.begin {w wr w1 : World} {key name : List Int} {i : Nat} {q : Option Addr} {cap : Nat} (X Y : Array Value) (Z : Array Value) (ho : Own wr (w.heap.size + 1) (.slice q (32 * i) cap) (tstr key name i)) (hkr : wr.heap[w.heap.size]? = some (.cells (bcells key) 23 (0, 0))) (hb : Below w.heap.size w wr)
    (h1 : Below (wr.heap.size + 2) ((wr.alloc (.cells X 5)).alloc (.cells Y 31)) w1) : SI w ((w1.alloc (.cells Z 74)).setRow w1.heap.size (bcells (tpart key name (i + 1)))) key name i 0 w1.heap.size q cap := by
  have hB : Below wr.heap.size wr ((wr.alloc (.cells X 5)).alloc (.cells Y 31)) := ((Below.refl _ _).alloc (Nat.le_refl _) _).alloc (by simp) _
  have hB1 : Below wr.heap.size wr w1 := hB.trans (h1.mono (by omega))
  have hB2 : Below wr.heap.size wr ((w1.alloc (.cells Z 74)).setRow w1.heap.size (bcells (tpart key name (i + 1)))) := (hB1.alloc hB1.size _).trans (below_row _ _ hB1.size)
  refine ⟨?_, setRow_heap _ _ _ _ _ _ (heap_alloc_new w1 _), ?_, hb.trans (hB2.mono hb.size)⟩
  · rw [List.take_zero, List.append_nil, Nat.add_zero]
    exact ho.below hB2
  · rw [hB2.block _ (blk_lt hkr)]; exact hkr
set_option maxRecDepth 100000 in
set_option maxHeartbeats 4000000 in
theorem stream (key name : List Int) (vn : Value) (n : Nat) (hn : n ≤ 8160) (w : World) (hk : Byt key) (lk : key.length = 32) (hv : Sees w vn name) (ln : name.length ≤ 281474976710656) (hG : Glob w) :
    Calls Tryz.prog 37 #[.agg (bcells key), vn, .int .i64 n] w (StreamP w key name n) := by
  obtain ⟨x, cx, rfl, _⟩ := id hv.form
  by_cases h0 : n = 0
  · subst h0
    have hst : strm key name 0 = [] := by simp [strm]
    have HST := Lib.hid hst
    clear hst hv hG
    obtain ⟨CK, hCK⟩ : ∃ C, C = bcells key := ⟨_, rfl⟩
    rw [← hCK]
    have HCK := Lib.hid hCK
    clear hCK
    go_enter Tryz.func37, Tryz.ntmps37
    go_wp2_with fail
    go_step3
    go_wp2_with fail
    rw [Exit.noGoto_ret]
    go_ret
    refine ⟨_, _, rfl, ?_, ?_⟩
    · rw [HST.out]
      exact ⟨(fun _ h => by simp at h), by simp, .inl ⟨rfl, rfl⟩⟩
    · exact (Below.refl _ _).alloc (Nat.le_refl _) _
  · have h2 : 2 ≤ w.heap.size := by have := hG.lt; omega
    have MC := mkCap n hn (w.alloc (.cells (bcells key) 23))
    have OW0 : Own ((w.alloc (.cells (bcells key) 23)).alloc (.cells (bcells (List.replicate n 0)) 5)) (w.heap.size + 1) (.slice (some ⟨w.heap.size + 1, 0, none⟩) 0 n) [] := ⟨(fun _ h => by simp at h), by simp, .inr ⟨_, _, _, rfl, Nat.le_refl _, by
      have := heap_alloc_new (w.alloc (.cells (bcells key) 23)) (.cells (bcells (List.replicate n 0)) 5)
      simpa using this, Nat.zero_le _, by unfold maxLen; omega, by simp [bcells], by simp⟩⟩
    have B0 : Below w.heap.size w ((w.alloc (.cells (bcells key) 23)).alloc (.cells (bcells (List.replicate n 0)) 5)) := ((Below.refl _ _).alloc (Nat.le_refl _) _).alloc (by simp) _
    have K0 : ((w.alloc (.cells (bcells key) 23)).alloc (.cells (bcells (List.replicate n 0)) 5)).heap[w.heap.size]? = some (.cells (bcells key) 23 (0, 0)) := by
      rw [Below.heap_alloc _ _ _ (by simp)]; exact heap_alloc_new w _
    have LO := Lib.hid (show Own ((w.alloc (.cells (bcells key) 23)).alloc (.cells (bcells (List.replicate n 0)) 5)) (w.heap.size + 1) (.slice (some ⟨w.heap.size + 1, 0, none⟩) 0 n) [] ∧ Below w.heap.size w ((w.alloc (.cells (bcells key) 23)).alloc (.cells (bcells (List.replicate n 0)) 5)) ∧ ((w.alloc (.cells (bcells key) 23)).alloc (.cells (bcells (List.replicate n 0)) 5)).heap[w.heap.size]? = some (.cells (bcells key) 23 (0, 0)) from ⟨OW0, B0, K0⟩)
    clear OW0 B0 K0
    have hsz : (w.alloc (.cells (bcells key) 23)).heap.size = w.heap.size + 1 := by simp
    rw [hsz] at MC
    clear hsz
    have HN := Lib.hid h0
    have HV := Lib.hid hv
    have HK := Lib.hid hk
    have LK := Lib.hid lk
    have LN := Lib.hid ln
    have HG := Lib.hid hG
    have H2 := Lib.hid h2
    have z27 := zv27
    obtain ⟨Z27, hZ27⟩ : ∃ Z, Z = bcells (List.replicate 32 0) := ⟨_, rfl⟩
    rw [← hZ27] at z27
    have LZ := Lib.hid (show Z27.size = 32 by rw [hZ27, bsize, List.length_replicate])
    obtain ⟨CK, hCK⟩ : ∃ C, C = bcells key := ⟨_, rfl⟩
    obtain ⟨CN, hCN⟩ : ∃ C, C = bcells (List.replicate n 0) := ⟨_, rfl⟩
    rw [← hCK, ← hCN] at MC
    rw [← hCK, ← hCN] at LO
    rw [← hCK]
    have HCK := Lib.hid hCK
    have ka := key_all
    have aa := arr32_all
    have b0 : ((n : Int) == 0) = false := by rw [beq_eq_false_iff_ne]; omega
    clear hv hk lk ln hG h2 hZ27 hCK hCN h0
    go_enter Tryz.func37, Tryz.ntmps37
    go_wp2_with fail
    go_step3
    go_wp2_with fail
    go_step3
    go_wp2_with fail
    go_loopg [7, 8, 9] n (fun k vo vp vi wr => ∃ (i : Nat) (q : Option Addr) (cap : Nat), k + 32 * i = n ∧ 32 * i < n ∧ vi = .int .u8 ((i + 1 : Nat) : Int) ∧ vo = .slice q (32 * i) cap ∧ (∃ xp cp, vp = .slice xp (tpart key name i).length cp) ∧ Own wr (w.heap.size + 1) (.slice q (32 * i) cap) (tstr key name i) ∧ Sees wr vp (tpart key name i) ∧ wr.heap[w.heap.size]? = some (.cells (bcells key) 23 (0, 0)) ∧ Below w.heap.size w wr)
    case atStart =>
      have HL := LO.out
      have hN := HN.out
      exact ⟨0, some ⟨w.heap.size + 1, 0, none⟩, n, by omega, by omega, rfl, rfl, ⟨none, 0, rfl⟩, HL.1, ⟨(fun _ h => by simp [tpart] at h), .inl ⟨rfl, rfl⟩⟩, by rw [← HCK.out]; exact HL.2.2, HL.2.1⟩
    case round =>
      obtain ⟨i, q, cap, hk1, hk2, rfl, rfl, ⟨xp, cp, rfl⟩, hO, hP, hR, hB⟩ := hrel
      have i254 : i ≤ 254 := by omega
      have HV' := Lib.hid (HV.out.below hB)
      have hlt := blk_lt hR
      have PC := Lib.hid (part_call key name _ _ i w.heap.size wr HK.out LK.out (HV.out.below (hB.mono (Nat.le_refl _))) LN.out hP i254 hR (HG.out.below hB H2.out))
      have lP := tpart_len key name HK.out i
      have IM := Lib.hid (show (Tryz.prog.info? 74).map (·.size) = some (bcells (tpart key name (i + 1))).size by rw [i27, bsize, lP])
      have ZM := Lib.hid (show Z27.size = (bcells (tpart key name (i + 1))).size by rw [LZ.out, bsize, lP])
      have OM := Lib.hid (bone (tpart key name (i + 1)))
      have GB : Hid (∀ w1 X Y, Below (wr.heap.size + 2) ((wr.alloc (.cells X 5)).alloc (.cells Y 31)) w1 → SI w ((w1.alloc (.cells Z27 74)).setRow w1.heap.size (bcells (tpart key name (i + 1)))) key name i 0 w1.heap.size q cap) := Lib.hid (fun w1 X Y h1 => SI.begin X Y Z27 hO hR hB h1)
      have HI := Lib.hid (show gk + 32 * i = n ∧ 32 * i < n ∧ i ≤ 254 from ⟨hk1, hk2, i254⟩)
      clear hO hP hR hB hk1 hk2 i254 hlt lP LO
      go_wp2_with fail
      refine PC.out.mono ?_
      rintro e w1 ⟨rfl, hb⟩
      have SB := Lib.hid (GB.out w1 _ _ hb)
      clear hb GB PC
      go_wp2_with (refine wpList_store_row rfl 74 _ _ rfl w1.heap.size (bcells (tpart key name (i + 1))) rfl rfl 74 Z27 (heap_alloc_new w1 _) IM.out ZM.out OM.out ?_)
      go_loopg [7, 29] 32 (fun k vo vi wr' => ∃ (j : Nat) (q' : Option Addr) (cap' : Nat), k + j = 32 ∧ 32 * i + j < n ∧ vi = .int .i64 j ∧ vo = .slice q' (32 * i + j) cap' ∧ SI w wr' key name i j w1.heap.size q' cap')
      case atStart => exact ⟨0, q, cap, by omega, by have := HI.out; omega, rfl, rfl, SB.out⟩
      case round =>
        obtain ⟨j, q', cap', hj1, hj2, rfl, rfl, hSI⟩ := hrel
        by_cases hlt : j < 32
        · have hc := hSI.row.cell j (by rw [tpart_len key name HK.out i]; exact hlt)
          obtain ⟨q2, cap2, w2, h1, h2⟩ := hSI.grow HK.out hlt HI.out.2.2
          have HR := Lib.hid h1
          have HS := Lib.hid h2
          have HJ := Lib.hid hj1
          clear h1 h2 hSI hj1
          by_cases hend : 32 * i + (j + 1) = n
          · have hE := Lib.hid hend
            have c1 : (32 * (i : Int) + ((j : Int) + 1)) = (n : Int) := by omega
            clear hend
            go_wp2_with (at_builtin; refine wpList_app rfl _ _ rfl rfl rfl rfl HR.out ?_)
            rw [Exit.noGoto_ret]
            go_ret
            have hs := HS.out
            have e := hE.out
            have hst := strm_at key name HK.out i (j + 1) HI.out.2.2 (by omega)
            rw [e] at hst
            have ho := hs.own
            rw [← hst, e] at ho
            refine ⟨q2, cap2, by rw [← e]; rfl, ho.base (Nat.le_succ _), hs.bel⟩
          · have c1 : ¬ (32 * (i : Int) + ((j : Int) + 1)) = (n : Int) := by omega
            have hE := Lib.hid hend
            clear hend
            go_wp2_with (at_builtin; refine wpList_app rfl _ _ rfl rfl rfl rfl HR.out ?_)
            go_roundg (32 - (j + 1))
            case rel =>
              have h1 := hE.out
              exact ⟨j + 1, q2, cap2, by omega, by omega, by go_num, rfl, HS.out⟩
            case measure =>
              have h1 := HJ.out
              omega
        · obtain rfl : j = 32 := by omega
          have HS := Lib.hid hSI
          clear hSI
          go_wp2_with fail
          go_roundg (n - 32 * (i + 1))
          case rel =>
            have hs := HS.out
            have ho := hs.own
            rw [List.take_of_length_le (by rw [tpart_len key name HK.out i]; exact Nat.le_refl _)] at ho
            have h1 := HI.out
            refine ⟨i + 1, q', cap', by omega, by omega, by go_num, rfl, ⟨_, _, by rw [tpart_len key name HK.out i]⟩, ho, hs.row.sees (tpart_len key name HK.out i) (tpart_byt key name _), hs.krow, hs.bel⟩
          case measure =>
            have h1 := HI.out
            omega
open Go.RowKit
theorem i48' (xs : List Int) (h : xs.length = 32) : (Tryz.prog.info? 23).map (·.size) = some (bcells xs).size := by rw [i48, bsize, h]
open Go.RowKit
end Go.Proofs.YtpkeofioobmmoaaGreatDoor.sh
