/-
  The contract of alive of package casematelaw21. Condition: none.
-/
import Derived.Test.YtpkeofioobmmoaaGreatDoorKO
import Derived.Test.YtpkeofioobmmoaaGreatDoorK2
import Derived.Test.YtpkeofioobmmoaaGreatDoorK1
namespace Go.Proofs.YtpkeofioobmmoaaGreatDoor
open Go.RowKit Go.Proofs.YtpkeofioobmmoaaGreatDoor.ae
theorem opens_made {outer master salt : List Nat} (hs : ae.Bts 32 salt) (hm : ae.Bts 32 master) : opV outer salt (chk outer salt) (wrp (wrk outer salt) master 4) = master ∧ opE outer salt (chk outer salt) (wrp (wrk outer salt) master 4) = 0 := by
  have bw := wrk_bts (outer := outer) hs.2
  have e : unw (wrk outer salt) (wrp (wrk outer salt) master 4) 4 = fr8 ++ master :=
    bt_tn (fun x hx => enc_bts bw hx) (fun x hx => dec_enc bw hx) (by omega) (by rw [List.length_append, fr8_len, hm.1]) (fr8_byt.append hm.2) 24 (by omega)
  have e1 : (fr8 ++ master).take 8 = fr8 := by rw [← fr8_len, List.take_left]
  have e2 : (fr8 ++ master).drop 8 = master := by rw [← fr8_len, List.drop_left]
  unfold opV opE
  rw [if_pos rfl, if_pos rfl, e, e1, e2, if_pos rfl, if_pos rfl]
  exact ⟨rfl, rfl⟩
theorem not_opened {outer A B C : List Nat} (h : chk outer A ≠ B) : opV outer A B C = zeros 32 ∧ opE outer A B C = 50 := by
  unfold opV opE
  rw [if_neg h, if_neg h]
  exact ⟨rfl, rfl⟩
def xs3 : List Nat := 3 :: zeros 31
set_option maxRecDepth 100000 in
theorem xs3_bts : ae.Bts 32 xs3 := ⟨by decide, by decide⟩
theorem build37c : ∀ w, (Instr.build 22 #[(0, .int .u8 3)]).run Tryz.prog w = .ok (.agg (ncells xs3)) w := fun _ => by kernel_rfl
theorem chk_k1 : toN (sh.tstr (zl (macN xs3 xk1)) (zl nCheck ++ sh.be 8 0) 1) = [127, 135, 39, 62, 80, 171, 113, 244, 35, 159, 24, 140, 21, 135, 64, 166, 112, 253, 132, 2, 221, 125, 218, 198, 178, 232, 134, 210, 202, 242, 178, 228] := by decide +kernel
theorem chk_k2 : toN (sh.tstr (zl (macN xs3 xk2)) (zl nCheck ++ sh.be 8 0) 1) = [207, 2, 208, 186, 219, 31, 143, 39, 222, 87, 152, 127, 19, 29, 237, 99, 42, 96, 197, 73, 208, 134, 139, 231, 209, 236, 165, 216, 110, 68, 73, 240] := by decide +kernel
theorem chk_unlike : chk xk2 xs3 ≠ chk xk1 xs3 := by
  have h1 := derN_one (macN xs3 xk1) nCheck 0 (macN_bts _ xs3_bts.2).2
  have h2 := derN_one (macN xs3 xk2) nCheck 0 (macN_bts _ xs3_bts.2).2
  unfold chk
  rw [h1, h2]
  intro e
  have e2 := chk_k2.symm.trans (e.trans chk_k1)
  exact absurd e2 (by decide)
theorem tob_len (l : List Nat) : (tobN l).length = l.length := by simp [tobN]
theorem cells_tobN {l : List Nat} (h : ae.Byt l) : ncells l = ((tobN l).map Extern.Stop.cell).toArray := by
  unfold ncells tobN
  rw [List.map_map]
  congr 1
  apply List.map_congr_left
  intro x hx
  have := h x hx
  simp only [Function.comp_def, Extern.Stop.cell]
  congr 1
  simp
  omega
set_option maxRecDepth 100000 in
/-- Keys are compared. -/
theorem eq38 {x y : List Nat} (hx : ae.Bts 32 x) (hy : ae.Bts 32 y) (w : World) : (Op.equalIn 10000 23 (.agg (ncells x)) (.agg (ncells y))).run Tryz.prog w = .ok (decide (x = y)) w := by
  have h := run_equalIn_bytes (P := Tryz.prog) w 9998 23 5 32 (by kernel_rfl) Tryz.underlying5 (fun _ => by kernel_rfl) (tobN x) (tobN y) (by rw [tob_len, hx.1]) (by rw [tob_len, hy.1])
  rw [← cells_tobN hx.2, ← cells_tobN hy.2] at h
  rw [h]
  congr 1
  by_cases e : x = y
  · subst e; simp
  · have : tobN x ≠ tobN y := fun h => e (tobN_inj hx.2 hy.2 h)
    simp [e, this]
set_option maxRecDepth 100000 in
set_option maxHeartbeats 8000000 in
theorem alive21 (w : World) (hG : sh.Glob w) : Calls Tryz.prog 10 #[] w fun e w' => e = .returned (.bool true) ∧ Below w.heap.size w w' := by
  have z41 := zero41
  have hZ : (#[.int .u8 0, .int .u8 0, .int .u8 0, .int .u8 0, .int .u8 0, .int .u8 0, .int .u8 0, .int .u8 0, .int .u8 0, .int .u8 0, .int .u8 0, .int .u8 0, .int .u8 0, .int .u8 0, .int .u8 0, .int .u8 0, .int .u8 0, .int .u8 0, .int .u8 0, .int .u8 0, .int .u8 0, .int .u8 0, .int .u8 0, .int .u8 0, .int .u8 0, .int .u8 0, .int .u8 0, .int .u8 0, .int .u8 0, .int .u8 0, .int .u8 0, .int .u8 0] : Array Value) = ncells (zeros 32) := by kernel_rfl
  obtain ⟨ZS, hZS⟩ : ∃ ZS, ZS = ncells (zeros 104) := ⟨_, rfl⟩
  rw [← hZS] at z41
  have b1 := build23a
  have b2 := build23b
  have b3 := build37c
  have bc := chk_bts (outer := xk1) xs3_bts.2
  have bp := wrp_bts (wrk_bts (outer := xk1) xs3_bts.2) xk2_bts
  have lS : (slotN xk1 xk2 xs3).length = 104 := by unfold slotN; rw [List.length_append, List.length_append, xs3_bts.1, bc.1, bp.1]
  have MK : Hid (∀ W : World, sh.Glob W → Calls Tryz.prog 8 #[.agg (ncells xk1), .agg (ncells xk2), .agg (ncells xs3)] W fun e w' => e = .returned (.agg (ncells (slotN xk1 xk2 xs3))) ∧ Below W.heap.size W w') := fun W hg => makeK xk1 xk2 xs3 xk1_bts xk2_bts xs3_bts W hg
  have O1 : Hid (∀ W : World, sh.Glob W → Calls Tryz.prog 4 #[.agg (ncells xk1), .agg (ncells (slotN xk1 xk2 xs3))] W fun e w' => e = .returned (.tuple #[.agg (ncells xk2), .int .i64 0]) ∧ Below W.heap.size W w') := fun W hg => by
    have := openK xk1 xs3 _ _ xk1_bts xs3_bts bc bp W hg
    rw [(opens_made xs3_bts xk2_bts).1, (opens_made xs3_bts xk2_bts).2] at this
    exact this
  have O2 : Hid (∀ W : World, sh.Glob W → Calls Tryz.prog 4 #[.agg (ncells xk2), .agg (ncells (slotN xk1 xk2 xs3))] W fun e w' => e = .returned (.tuple #[.agg (#[.int .u8 0, .int .u8 0, .int .u8 0, .int .u8 0, .int .u8 0, .int .u8 0, .int .u8 0, .int .u8 0, .int .u8 0, .int .u8 0, .int .u8 0, .int .u8 0, .int .u8 0, .int .u8 0, .int .u8 0, .int .u8 0, .int .u8 0, .int .u8 0, .int .u8 0, .int .u8 0, .int .u8 0, .int .u8 0, .int .u8 0, .int .u8 0, .int .u8 0, .int .u8 0, .int .u8 0, .int .u8 0, .int .u8 0, .int .u8 0, .int .u8 0, .int .u8 0] : Array Value), .int .i64 50]) ∧ Below W.heap.size W w') := fun W hg => by
    have := openK xk2 xs3 _ _ xk2_bts xs3_bts bc bp W hg
    rw [(not_opened chk_unlike).1, (not_opened chk_unlike).2, ← hZ] at this
    exact this
  have ST : Hid (∀ W : World, Calls Tryz.prog 21 #[.int .u64 1, .int .u64 2] W fun x w' => x = .returned (.tuple #[.int .u64 1099511627778, .int .i64 0]) ∧ W = w') := fun W => stampOK 1 2 (by omega) (by omega) W
  have CN : Hid (∀ W : World, Calls Tryz.prog 22 #[.int .u64 1] W fun x w' => x = .returned (.tuple #[.pointer (some ⟨W.heap.size, 0, none⟩), .int .i64 0]) ∧ CT w' W.heap.size 1 0 ∧ Below W.heap.size W w') := fun W => countOK 1 (by omega) W
  have NX : Hid (∀ (W : World) (g : Nat), CT W g 1 0 → Calls Tryz.prog 23 #[.pointer (some ⟨g, 0, none⟩)] W fun x w' => x = .returned (.tuple #[.int .u64 1099511627777, .int .i64 0]) ∧ Elsewhere g W w') := fun W g h => (nextC g 1 0 (by omega) (by omega) W h).mono fun x w' ⟨h1, _, h3⟩ => ⟨h1, h3⟩
  have EQ : Hid (∀ W : World, (Op.equalIn 10000 23 (.agg (ncells xk2)) (.agg (#[.int .u8 2, .int .u8 0, .int .u8 0, .int .u8 0, .int .u8 0, .int .u8 0, .int .u8 0, .int .u8 0, .int .u8 0, .int .u8 0, .int .u8 0, .int .u8 0, .int .u8 0, .int .u8 0, .int .u8 0, .int .u8 0, .int .u8 0, .int .u8 0, .int .u8 0, .int .u8 0, .int .u8 0, .int .u8 0, .int .u8 0, .int .u8 0, .int .u8 0, .int .u8 0, .int .u8 0, .int .u8 0, .int .u8 0, .int .u8 0, .int .u8 0, .int .u8 0] : Array Value))).run Tryz.prog W = .ok true W) := fun W => by
    have := eq38 xk2_bts xk2_bts W
    rw [decide_eq_true rfl] at this
    exact this
  have IS := Lib.hid (i41 lS)
  have ZJ : Hid (ZS.size = (ncells (slotN xk1 xk2 xs3)).size) := by show _ = _; rw [hZS, nsize, nsize, zeros_len, lS]
  have I2 := Lib.hid (i23 xk2_bts.1)
  have Z2 : Hid ((#[.int .u8 0, .int .u8 0, .int .u8 0, .int .u8 0, .int .u8 0, .int .u8 0, .int .u8 0, .int .u8 0, .int .u8 0, .int .u8 0, .int .u8 0, .int .u8 0, .int .u8 0, .int .u8 0, .int .u8 0, .int .u8 0, .int .u8 0, .int .u8 0, .int .u8 0, .int .u8 0, .int .u8 0, .int .u8 0, .int .u8 0, .int .u8 0, .int .u8 0, .int .u8 0, .int .u8 0, .int .u8 0, .int .u8 0, .int .u8 0, .int .u8 0, .int .u8 0] : Array Value).size = (ncells xk2).size) := by show _ = _; rw [hZ]; exact z23 xk2_bts.1
  have IZ : Hid ((Tryz.prog.info? 23).map (·.size) = some (#[.int .u8 0, .int .u8 0, .int .u8 0, .int .u8 0, .int .u8 0, .int .u8 0, .int .u8 0, .int .u8 0, .int .u8 0, .int .u8 0, .int .u8 0, .int .u8 0, .int .u8 0, .int .u8 0, .int .u8 0, .int .u8 0, .int .u8 0, .int .u8 0, .int .u8 0, .int .u8 0, .int .u8 0, .int .u8 0, .int .u8 0, .int .u8 0, .int .u8 0, .int .u8 0, .int .u8 0, .int .u8 0, .int .u8 0, .int .u8 0, .int .u8 0, .int .u8 0] : Array Value).size) := by show _ = _; rw [hZ]; exact i23 (zeros_len 32)
  have OZ : Hid ((#[.int .u8 0, .int .u8 0, .int .u8 0, .int .u8 0, .int .u8 0, .int .u8 0, .int .u8 0, .int .u8 0, .int .u8 0, .int .u8 0, .int .u8 0, .int .u8 0, .int .u8 0, .int .u8 0, .int .u8 0, .int .u8 0, .int .u8 0, .int .u8 0, .int .u8 0, .int .u8 0, .int .u8 0, .int .u8 0, .int .u8 0, .int .u8 0, .int .u8 0, .int .u8 0, .int .u8 0, .int .u8 0, .int .u8 0, .int .u8 0, .int .u8 0, .int .u8 0] : Array Value).all (·.oneCell') = true) := by show _ = _; rw [hZ]; exact none_ _
  have HG := Lib.hid hG
  have HB : Hid (Below w.heap.size w w) := Below.refl _ _
  clear hG hZ hZS bc bp lS
  generalize slotN xk1 xk2 xs3 = SL at MK O1 O2 IS ZJ
  go_enter Tryz.func10, Tryz.ntmps10
  go_wp2_with fail
  refine (MK.out _ HG.out).mono ?_
  rintro e w1 ⟨rfl, hb⟩
  have HB := Lib.hid (HB.out.trans (hb.mono HB.out.size))
  have HG := Lib.hid (HG.out.below hb HG.out.lt)
  have A1 := Lib.hid (heap_alloc_new w1 (.cells ZS 26))
  have bs : Below w1.heap.size w1 ((w1.alloc (.cells ZS 26)).setRow w1.heap.size (ncells SL)) := ((Below.refl _ _).alloc (Nat.le_refl _) _).trans (below_row _ _ (Nat.le_refl _))
  have hbb := HB.out.trans (bs.mono HB.out.size)
  have hgg := HG.out.below bs HG.out.lt
  have hrs := setRow_heap _ w1.heap.size _ (ncells SL) _ _ A1.out
  have RS := Lib.hid hrs
  have HB2 := Lib.hid hbb
  have HG2 := Lib.hid hgg
  clear hb bs hbb hgg hrs HB HG
  go_upto_region 2 with (refine wpList_store_row rfl 26 (.tmp 1) (.tmp 15) rfl w1.heap.size (ncells SL) rfl rfl 26 ZS A1.out IS.out ZJ.out (none_ _) ?_)
  have rs := RS.out
  have hb := HB2.out
  have hg := HG2.out
  clear RS HB2 HG2 A1
  generalize (w1.alloc (.cells ZS 26)).setRow w1.heap.size (ncells SL) = w2 at rs hb hg ⊢
  generalize w1.heap.size = gs at rs ⊢
  have RS := Lib.hid rs
  have HB := Lib.hid hb
  have HG := Lib.hid hg
  clear rs hb hg
  go_wp2_with (refine wpList_load_row rfl 26 (.tmp 1) rfl gs rfl 26 (ncells SL) (0, 0) _ RS.out Tryz.underlying26 rfl IS.out ?_)
  refine (O1.out _ HG.out).mono ?_
  rintro e w3 ⟨rfl, hb⟩
  have A1 := Lib.hid (heap_alloc_new w3 (.cells (#[.int .u8 0, .int .u8 0, .int .u8 0, .int .u8 0, .int .u8 0, .int .u8 0, .int .u8 0, .int .u8 0, .int .u8 0, .int .u8 0, .int .u8 0, .int .u8 0, .int .u8 0, .int .u8 0, .int .u8 0, .int .u8 0, .int .u8 0, .int .u8 0, .int .u8 0, .int .u8 0, .int .u8 0, .int .u8 0, .int .u8 0, .int .u8 0, .int .u8 0, .int .u8 0, .int .u8 0, .int .u8 0, .int .u8 0, .int .u8 0, .int .u8 0, .int .u8 0] : Array Value) 23))
  have bs : Below w2.heap.size w2 ((w3.alloc (.cells (#[.int .u8 0, .int .u8 0, .int .u8 0, .int .u8 0, .int .u8 0, .int .u8 0, .int .u8 0, .int .u8 0, .int .u8 0, .int .u8 0, .int .u8 0, .int .u8 0, .int .u8 0, .int .u8 0, .int .u8 0, .int .u8 0, .int .u8 0, .int .u8 0, .int .u8 0, .int .u8 0, .int .u8 0, .int .u8 0, .int .u8 0, .int .u8 0, .int .u8 0, .int .u8 0, .int .u8 0, .int .u8 0, .int .u8 0, .int .u8 0, .int .u8 0, .int .u8 0] : Array Value) 23)).setRow w3.heap.size (ncells xk2)) := (hb.alloc hb.size _).trans (below_row _ _ hb.size)
  have hrs := setRow_heap _ w3.heap.size _ (ncells xk2) _ _ A1.out
  have rs := (bs.block _ (blk_lt RS.out)).trans RS.out
  have hbb := HB.out.trans (bs.mono HB.out.size)
  have hgg := HG.out.below bs HG.out.lt
  have RK := Lib.hid hrs
  have RS := Lib.hid rs
  have HB := Lib.hid hbb
  have HG := Lib.hid hgg
  clear hb bs hrs rs hbb hgg
  go_upto_region 3 with (refine wpList_store_row rfl 23 (.tmp 2) (.tmp 20) rfl w3.heap.size (ncells xk2) rfl rfl 23 (#[.int .u8 0, .int .u8 0, .int .u8 0, .int .u8 0, .int .u8 0, .int .u8 0, .int .u8 0, .int .u8 0, .int .u8 0, .int .u8 0, .int .u8 0, .int .u8 0, .int .u8 0, .int .u8 0, .int .u8 0, .int .u8 0, .int .u8 0, .int .u8 0, .int .u8 0, .int .u8 0, .int .u8 0, .int .u8 0, .int .u8 0, .int .u8 0, .int .u8 0, .int .u8 0, .int .u8 0, .int .u8 0, .int .u8 0, .int .u8 0, .int .u8 0, .int .u8 0] : Array Value) A1.out I2.out Z2.out (none_ _) ?_)
  have rs := RS.out
  have rk := RK.out
  have hb := HB.out
  have hg := HG.out
  clear RS RK HB HG A1
  generalize (w3.alloc (.cells (#[.int .u8 0, .int .u8 0, .int .u8 0, .int .u8 0, .int .u8 0, .int .u8 0, .int .u8 0, .int .u8 0, .int .u8 0, .int .u8 0, .int .u8 0, .int .u8 0, .int .u8 0, .int .u8 0, .int .u8 0, .int .u8 0, .int .u8 0, .int .u8 0, .int .u8 0, .int .u8 0, .int .u8 0, .int .u8 0, .int .u8 0, .int .u8 0, .int .u8 0, .int .u8 0, .int .u8 0, .int .u8 0, .int .u8 0, .int .u8 0, .int .u8 0, .int .u8 0] : Array Value) 23)).setRow w3.heap.size (ncells xk2) = w4 at rs rk hb hg ⊢
  generalize w3.heap.size = gk at rk ⊢
  have RS := Lib.hid rs
  have RK := Lib.hid rk
  have HB := Lib.hid hb
  have HG := Lib.hid hg
  clear rs rk hb hg
  go_wp2_with (refine wpList_load_row rfl 26 (.tmp 1) rfl gs rfl 26 (ncells SL) (0, 0) _ RS.out Tryz.underlying26 rfl IS.out ?_)
  refine (O2.out _ HG.out).mono ?_
  rintro e w5 ⟨rfl, hb⟩
  have A1 := Lib.hid (heap_alloc_new w5 (.cells (#[.int .u8 0, .int .u8 0, .int .u8 0, .int .u8 0, .int .u8 0, .int .u8 0, .int .u8 0, .int .u8 0, .int .u8 0, .int .u8 0, .int .u8 0, .int .u8 0, .int .u8 0, .int .u8 0, .int .u8 0, .int .u8 0, .int .u8 0, .int .u8 0, .int .u8 0, .int .u8 0, .int .u8 0, .int .u8 0, .int .u8 0, .int .u8 0, .int .u8 0, .int .u8 0, .int .u8 0, .int .u8 0, .int .u8 0, .int .u8 0, .int .u8 0, .int .u8 0] : Array Value) 23))
  have bs : Below w4.heap.size w4 ((w5.alloc (.cells (#[.int .u8 0, .int .u8 0, .int .u8 0, .int .u8 0, .int .u8 0, .int .u8 0, .int .u8 0, .int .u8 0, .int .u8 0, .int .u8 0, .int .u8 0, .int .u8 0, .int .u8 0, .int .u8 0, .int .u8 0, .int .u8 0, .int .u8 0, .int .u8 0, .int .u8 0, .int .u8 0, .int .u8 0, .int .u8 0, .int .u8 0, .int .u8 0, .int .u8 0, .int .u8 0, .int .u8 0, .int .u8 0, .int .u8 0, .int .u8 0, .int .u8 0, .int .u8 0] : Array Value) 23)).setRow w5.heap.size (#[.int .u8 0, .int .u8 0, .int .u8 0, .int .u8 0, .int .u8 0, .int .u8 0, .int .u8 0, .int .u8 0, .int .u8 0, .int .u8 0, .int .u8 0, .int .u8 0, .int .u8 0, .int .u8 0, .int .u8 0, .int .u8 0, .int .u8 0, .int .u8 0, .int .u8 0, .int .u8 0, .int .u8 0, .int .u8 0, .int .u8 0, .int .u8 0, .int .u8 0, .int .u8 0, .int .u8 0, .int .u8 0, .int .u8 0, .int .u8 0, .int .u8 0, .int .u8 0] : Array Value)) := (hb.alloc hb.size _).trans (below_row _ _ hb.size)
  have rk := (bs.block _ (blk_lt RK.out)).trans RK.out
  have hbb := HB.out.trans (bs.mono HB.out.size)
  have RK := Lib.hid rk
  have HB := Lib.hid hbb
  clear hb bs rk hbb RS HG
  go_upto_region 4 with (refine wpList_store_row rfl 23 (.tmp 4) (.tmp 26) rfl w5.heap.size (#[.int .u8 0, .int .u8 0, .int .u8 0, .int .u8 0, .int .u8 0, .int .u8 0, .int .u8 0, .int .u8 0, .int .u8 0, .int .u8 0, .int .u8 0, .int .u8 0, .int .u8 0, .int .u8 0, .int .u8 0, .int .u8 0, .int .u8 0, .int .u8 0, .int .u8 0, .int .u8 0, .int .u8 0, .int .u8 0, .int .u8 0, .int .u8 0, .int .u8 0, .int .u8 0, .int .u8 0, .int .u8 0, .int .u8 0, .int .u8 0, .int .u8 0, .int .u8 0] : Array Value) rfl rfl 23 (#[.int .u8 0, .int .u8 0, .int .u8 0, .int .u8 0, .int .u8 0, .int .u8 0, .int .u8 0, .int .u8 0, .int .u8 0, .int .u8 0, .int .u8 0, .int .u8 0, .int .u8 0, .int .u8 0, .int .u8 0, .int .u8 0, .int .u8 0, .int .u8 0, .int .u8 0, .int .u8 0, .int .u8 0, .int .u8 0, .int .u8 0, .int .u8 0, .int .u8 0, .int .u8 0, .int .u8 0, .int .u8 0, .int .u8 0, .int .u8 0, .int .u8 0, .int .u8 0] : Array Value) A1.out IZ.out rfl OZ.out ?_)
  have rk := RK.out
  have hb := HB.out
  clear RK HB A1
  generalize (w5.alloc (.cells (#[.int .u8 0, .int .u8 0, .int .u8 0, .int .u8 0, .int .u8 0, .int .u8 0, .int .u8 0, .int .u8 0, .int .u8 0, .int .u8 0, .int .u8 0, .int .u8 0, .int .u8 0, .int .u8 0, .int .u8 0, .int .u8 0, .int .u8 0, .int .u8 0, .int .u8 0, .int .u8 0, .int .u8 0, .int .u8 0, .int .u8 0, .int .u8 0, .int .u8 0, .int .u8 0, .int .u8 0, .int .u8 0, .int .u8 0, .int .u8 0, .int .u8 0, .int .u8 0] : Array Value) 23)).setRow w5.heap.size (#[.int .u8 0, .int .u8 0, .int .u8 0, .int .u8 0, .int .u8 0, .int .u8 0, .int .u8 0, .int .u8 0, .int .u8 0, .int .u8 0, .int .u8 0, .int .u8 0, .int .u8 0, .int .u8 0, .int .u8 0, .int .u8 0, .int .u8 0, .int .u8 0, .int .u8 0, .int .u8 0, .int .u8 0, .int .u8 0, .int .u8 0, .int .u8 0, .int .u8 0, .int .u8 0, .int .u8 0, .int .u8 0, .int .u8 0, .int .u8 0, .int .u8 0, .int .u8 0] : Array Value) = w6 at rk hb ⊢
  have RK := Lib.hid rk
  have HB := Lib.hid hb
  clear rk hb
  go_wp2_with fail
  refine (ST.out _).mono ?_
  rintro e w7 ⟨rfl, rfl⟩
  go_wp2_with fail
  refine (CN.out _).mono ?_
  rintro e w8 ⟨rfl, hct, hb⟩
  have RK6 := RK
  have RK := Lib.hid ((hb.block _ (blk_lt RK.out)).trans RK.out)
  have hne : Hid (gk ≠ w6.heap.size) := by have := blk_lt RK6.out; show _ ≠ _; omega
  have HBS := Lib.hid HB.out.size
  have HB := Lib.hid (HB.out.trans (hb.mono HB.out.size))
  have CTN := Lib.hid hct
  clear hct hb
  go_wp2_with fail
  refine (NX.out _ _ CTN.out).mono ?_
  rintro e w9 ⟨rfl, he⟩
  have RK := Lib.hid ((he.1 _ (blk_lt RK.out) hne.out).trans RK.out)
  have HB := Lib.hid (he.2.1 _ _ HBS.out HB.out.size HB.out)
  have eq := EQ.out
  clear he
  go_wp2_with (refine wpList_load_row rfl 23 (.tmp 2) rfl gk rfl 23 (ncells xk2) (0, 0) _ RK.out Tryz.underlying23 rfl I2.out ?_)
  go_ret
  exact ⟨rfl, HB.out⟩
end Go.Proofs.YtpkeofioobmmoaaGreatDoor
