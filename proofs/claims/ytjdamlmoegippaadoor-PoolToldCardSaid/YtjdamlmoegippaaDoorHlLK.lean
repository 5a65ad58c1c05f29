/-
  Contract of hashlog.keep, walked. Condition: the log lies in memory as a list of texts.
-/
import Derived.Test.YtjdamlmoegippaaDoorHlLC
import Derived.Deep.RegionHeld3
import Derived.Outline
namespace Go.Proofs.YtjdamlmoegippaaDoor.hl
open Go.RowKit
set_option maxRecDepth 100000 in
set_option maxHeartbeats 4000000 in
theorem keepOld (S : Nat → Prop) (g mb s : Nat) (T : List (List Int)) (f : Lit → Option Value) (C b : List Int) (v : Value) (w : World) (h : LGs S w g T mb s f C) (hb : Byt b) (hv : Sees w v b) (hT : T.length ≤ 999999) (hold : b ∈ T) :
    Calls Tryd.prog 48 #[.pointer (some ⟨g, 0, none⟩), .agg (bcells (sha b)), v] w fun e w' => e = .returned (.tuple #[]) ∧ Below w.heap.size w w' := by
  obtain ⟨k, hk⟩ : ∃ k, k = sha b := ⟨_, rfl⟩
  have bk : Byt k := by rw [hk]; exact sha_byt b
  have lk : k.length = 32 := by rw [hk]; exact sha_len b hb
  obtain ⟨W1, hW1⟩ : ∃ W1, W1 = w.alloc (.cells (bcells k) 24) := ⟨_, rfl⟩
  have b1 : Below w.heap.size w W1 := by rw [hW1]; exact (Below.refl _ _).alloc (Nat.le_refl _) _
  have G1 : Hid (W1.heap[w.heap.size]? = some (.cells (bcells k) 24 (0, 0))) := by show _ = _; rw [hW1]; exact heap_alloc_new w _
  have h1 : LGs S W1 g T mb s f C := h.same (fun b hb => b1.block b (h.own b hb).2) b1.size
  have ST := Lib.hid (stands S g mb s T f C k b v W1 h1 bk lk (hv.below b1) (by omega))
  have mem_k : b ∈ ofSum sha T k ↔ b ∈ T := by rw [mem_ofSum]; exact ⟨fun h => h.1, fun h => ⟨h, hk.symm⟩⟩
  have IK : Hid ((Tryd.prog.info? 24).map (·.size) = some (bcells k).size) := by show _ = _; rw [i27, bsize, lk]
  have HW1 := Lib.hid hW1
  have B1 := Lib.hid b1
  rw [← hk]
  rw [show decide (b ∈ ofSum sha T k) = true from decide_eq_true (mem_k.2 hold)] at ST
  clear h h1 hv hold mem_k hk bk lk b1 hW1 hT hb
  go_enter Tryd.func48, Tryd.ntmps48
  go_wp2_with (refine wpList_load_row rfl 24 (.tmp 4) rfl w.heap.size rfl 24 (bcells k) (0, 0) _ (by rw [← HW1.out]; exact G1.out) Tryd.underlying24 rfl IK.out ?_)
  rw [← HW1.out]
  refine ST.out.mono ?_
  rintro e w2 ⟨rfl, hb2⟩
  have B2 := Lib.hid (B1.out.trans (hb2.mono B1.out.size))
  clear hb2
  go_wp2_with fail
  exact bodyPost_ret (v := .tuple #[]) (by simp [results, Tryd.results48, go_sem]) rfl ⟨rfl, B2.out⟩
theorem lset2 (mb n : Nat) (cl d : Bool) (C : List Int) : (lcells mb n cl C).setIfInBounds 2 (.bool d) = lcells mb n d C := by
  unfold lcells
  rw [List.setIfInBounds_toArray]
  simp
theorem lspl (mb n : Nat) (cl : Bool) (C k : List Int) (lc : C.length = 32) (lk : k.length = 32) :
    ((lcells mb n cl C).toList.take (3 + 0) ++ (bcells k).toList ++ (lcells mb n cl C).toList.drop (3 + 0 + (bcells k).toList.length)).toArray = lcells mb n cl k := by
  unfold lcells bcells
  simp [lc, lk]
set_option maxRecDepth 100000 in
set_option maxHeartbeats 8000000 in
theorem keepA (S : Nat → Prop) (g mb s : Nat) (T : List (List Int)) (f : Lit → Option Value) (C b : List Int) (v : Value) (w : World) (h : LGs S w g T mb s f C) (hb : Byt b) (hlen : b.length ≤ 140737488351232) (hv : Sees w v b) (hvS : ∀ q, b ≠ [] → v.ownBlock = some q → ¬ S q) (hT : T.length ≤ 999999) (hnew : b ∉ T) (c : List Int) (hcl : clk sha T = some c) :
    Calls Tryd.prog 48 #[.pointer (some ⟨g, 0, none⟩), .agg (bcells (sha b)), v] w (KeepP S w g T b) := by
  obtain ⟨k, hk⟩ : ∃ k, k = sha b := ⟨_, rfl⟩
  have bk : Byt k := by rw [hk]; exact sha_byt b
  have lk : k.length = 32 := by rw [hk]; exact sha_len b hb
  obtain ⟨W1, hW1⟩ : ∃ W1, W1 = w.alloc (.cells (bcells k) 24) := ⟨_, rfl⟩
  have b1 : Below w.heap.size w W1 := by rw [hW1]; exact (Below.refl _ _).alloc (Nat.le_refl _) _
  have G1 : Hid (W1.heap[w.heap.size]? = some (.cells (bcells k) 24 (0, 0))) := by show _ = _; rw [hW1]; exact heap_alloc_new w _
  have h1 : LGs S W1 g T mb s f C := h.same (fun b hb => b1.block b (h.own b hb).2) b1.size
  have ST := Lib.hid (stands S g mb s T f C k b v W1 h1 bk lk (hv.below b1) (by omega))
  have mem_k : b ∈ ofSum sha T k ↔ b ∈ T := by rw [mem_ofSum]; exact ⟨fun h => h.1, fun h => ⟨h, hk.symm⟩⟩
  have IK : Hid ((Tryd.prog.info? 24).map (·.size) = some (bcells k).size) := by show _ = _; rw [i27, bsize, lk]
  have HW1 := Lib.hid hW1
  have B1 := Lib.hid b1
  rw [← hk]
  rw [show decide (b ∈ ofSum sha T k) = false from decide_eq_false (fun e => hnew (mem_k.1 e))] at ST
  obtain ⟨V0, xs, hV0, ⟨x0, c0, hVf⟩, hrow, hVS, hxs⟩ := h.row bk lk
  have gm : g ≠ mb := fun e => by
    obtain ⟨es, c, e1⟩ := h.map.isMap
    rw [← e, h.head] at e1
    cases e1
  have vg : V0.ownBlock ≠ some g := fun e => by
    have hr := h.rows k bk lk
    rw [(hVS g e).1] at hr
    obtain ⟨_, cs, e1⟩ := hr.block e
    rw [h.head] at e1
    simp at e1
  have hgl := blk_lt h.head
  have HCL : Hid ((clk sha (T ++ [b])).isSome = true) := by show _ = _; rw [clk_snoc, hcl]; rfl
  have HCC : Hid (∀ c', clk sha (T ++ [b]) = some c' → C = c') := fun c' e => by
    rw [clk_snoc, hcl] at e
    simp only [Option.some.injEq] at e
    rw [← e]
    exact h.clash c hcl
  have HCB := Lib.hid h.clen
  have hcs : (clk sha T).isSome = true := by rw [hcl]; rfl
  have HKF : Hid (∀ (X : World) (v' : Value) (q : Value × World), Mods (fun q => q = g) w X → True) := fun _ _ _ _ => trivial
  clear HKF
  have KEY : Hid (∀ (X : World), Mods (fun q => q = g) w X → X.heap[g]? = some (.cells (lcells mb T.length true C) 108 (0, 0)) → ∀ (v' u : Value) (W8 : World), Fin X mb s (ofSum sha T k).length f k b V0 u xs v' W8 → KeepP S w g T b (.returned (.tuple #[])) (W8.setCell ⟨g, 1, none⟩ (.int .i64 ((T.length : Int) + 1)))) := fun X h1 h2 v' u W8 hF =>
    keep_fin h hk hb hlen hnew hVS hrow hxs h1 (by rw [HCL.out]; exact h2) HCC.out HCB.out hF
  have RX0 : Hid (∀ X : World, Mods (fun q => q = g) w X → X.ownsRow 0 37 1 V0 (ofSum sha T k).length xs) := fun X hX => ownsRow_same hrow (fun q e => hX.block q (h.own q (hVS q e).2).2 (fun e2 => by have e2' : q = g := e2; exact vg (by rw [e, e2'])))
  have MX0 : Hid (∀ X W : World, Mods (fun q => q = g) w X → Mods (fun j => j = mb) X W → W.heap[mb]? = X.heap[mb]? → MapV Tryd.prog 24 W mb s f) := fun X W hX hW e => h.map.same (e.trans (hX.block mb h.map.lt (fun e2 => gm (by have e2' : mb = g := e2; exact e2'.symm))))
  have XM0 : Hid (∀ X : World, Mods (fun q => q = g) w X → ∃ es c, X.heap[mb]? = some (.map es c)) := fun X hX => by
    obtain ⟨es, c, e1⟩ := h.map.isMap
    exact ⟨es, c, (hX.block mb h.map.lt (fun e2 => gm (by have e2' : mb = g := e2; exact e2'.symm))).trans e1⟩
  have HVG : Hid (∀ X W : World, Mods (fun q => q = g) w X → Mods (fun j => j = mb) X W → Sees W v b) := fun X W hX hW => (hv.mods hX (fun q n e e2 => hvS q n e (by have e2' : q = g := e2; rw [e2']; exact h.sg))).mods hW (fun q n e e2 => hvS q n e (by have e2' : q = mb := e2; rw [e2']; exact h.sm))
  have HGM := Lib.hid gm
  have HGL := Lib.hid hgl
  have HVQ : Hid (V0.ownBlock ≠ some g ∧ ∀ q, V0.ownBlock = some q → q < w.heap.size) := ⟨vg, fun q e => (h.own q (hVS q e).2).2⟩
  have HML := Lib.hid h.map.lt
  have HSM : Hid (s < maxLen) := by have := h.small; show s < maxLen; unfold maxLen; omega
  have HN0 : Hid ((ofSum sha T k).length ≤ 1000000) := Nat.le_trans (List.length_filter_le _ _) (by omega)
  have HKL := Lib.hid (kl_is k bk lk)
  have HLB : Hid (b.length ≤ 140737488355328) := by show _ ≤ _; omega
  have HZS : Hid (∀ u : World, (zeroValue 55).run Tryd.prog u = .ok (.slice none 0 0) u) := fun W => by kernel_rfl
  have HV0 := Lib.hid hV0
  have hTi : (T.length : Int) ≤ 999999 := by omega
  have HH0 := h1.head
  rw [hcs] at HH0
  have HH := Lib.hid HH0
  have HMAP := Lib.hid h1.map
  obtain ⟨n, hn⟩ : ∃ n, n = T.length := ⟨_, rfl⟩
  rw [← hn] at KEY HH hTi
  clear hn
  have HVF := Lib.hid hVf
  clear HH0 hcs hcl
  clear h h1 hv hnew mem_k hk bk lk b1 hW1 hT hb hvS hrow hxs hVS hV0 gm vg hgl hlen hVf
  go_enter Tryd.func48, Tryd.ntmps48
  go_wp2_with (refine wpList_load_row rfl 24 (.tmp 4) rfl w.heap.size rfl 24 (bcells k) (0, 0) _ (by rw [← HW1.out]; exact G1.out) Tryd.underlying24 rfl IK.out ?_)
  rw [← HW1.out]
  refine ST.out.mono ?_
  rintro e w2 ⟨rfl, hb2⟩
  have B2 := Lib.hid (B1.out.trans (hb2.mono B1.out.size))
  have HH2 := Lib.hid ((hb2.block g (blk_lt HH.out)).trans HH.out)
  have GB2 := Lib.hid ((hb2.block _ (blk_lt G1.out)).trans G1.out)
  have HM2 := Lib.hid (HMAP.out.same (hb2.block _ HMAP.out.lt))
  clear hb2 HH G1 HMAP
  have c2 := (cell_of_row w2 g 2 _ _ _ HH2.out).trans (lc2 _ _ _ _)
  go_wp2_with fail
  go_quiet (fail)
  obtain ⟨X, hX⟩ : ∃ X, X = w2.drewN nq := ⟨_, rfl⟩
  have HMX : Hid (Mods (fun q => q = g) w X) := by rw [hX]; exact Mods.of_below (B2.out.trans ⟨rfl, rfl, rfl, Nat.le_refl _, fun _ _ => rfl⟩)
  have HXg : Hid (X.heap[g]? = some (.cells (lcells mb n true C) 108 (0, 0))) := by rw [hX]; exact HH2.out
  have HXb : Hid (X.heap[w.heap.size]? = some (.cells (bcells k) 24 (0, 0))) := by rw [hX]; exact GB2.out
  have HMP0 : Hid (MapV Tryd.prog 24 X mb s f) := by rw [hX]; exact HM2.out.same rfl
  rw [← hX]
  clear c2 hX
  have MX := Lib.hid HMX.out
  have HSO : Hid (∀ W : World, Mods (fun j => j = mb) X W → W.heap[g]? = X.heap[g]? ∧ W.heap[w.heap.size]? = X.heap[w.heap.size]?) := fun W hW => ⟨hW.block g (blk_lt HXg.out) (fun e => HGM.out e), hW.block _ (blk_lt HXb.out) (fun e => by have e' : w.heap.size = mb := e; have := HML.out; omega)⟩
  have HRX := Lib.hid (RX0.out X MX.out)
  have HXM := Lib.hid (XM0.out X MX.out)
  have HVF := Lib.hid (fun W hW => HVG.out X W MX.out hW)
  have HC0 : Hid (∀ W : World, (W.heap[g]? = X.heap[g]? ∧ W.heap[w.heap.size]? = X.heap[w.heap.size]?) → W.cell? ⟨g, 0, none⟩ = some (.map (some mb))) := fun W hW => (cell_of_row W g 0 _ _ _ (hW.1.trans HXg.out)).trans (lc0 _ _ _ _)
  have HS7 : Hid (∀ W W7 : World, Mods (fun j => j = mb) X W → (W.heap[g]? = X.heap[g]? ∧ W.heap[w.heap.size]? = X.heap[w.heap.size]?) → (∀ j, V0.ownBlock ≠ some j → j < W.heap.size → W7.heap[j]? = W.heap[j]?) → W7.heap[g]? = X.heap[g]? ∧ W7.heap[w.heap.size]? = X.heap[w.heap.size]?) := fun W W7 hY hS h7 =>
    ⟨(h7 g HVQ.out.1 (Nat.lt_of_lt_of_le (blk_lt HXg.out) hY.size)).trans hS.1, (h7 _ (fun e => by have := HVQ.out.2 _ e; omega) (Nat.lt_of_lt_of_le (blk_lt HXb.out) hY.size)).trans hS.2⟩
  have HS8 : Hid (∀ W7 W8 : World, (W7.heap[g]? = X.heap[g]? ∧ W7.heap[w.heap.size]? = X.heap[w.heap.size]?) → Mods (fun j => j = mb) W7 W8 → W8.heap[g]? = X.heap[g]? ∧ W8.heap[w.heap.size]? = X.heap[w.heap.size]?) := fun W7 W8 hS hm =>
    ⟨(hm.block g (blk_lt (hS.1.trans HXg.out)) (fun e => HGM.out e)).trans hS.1, (hm.block _ (blk_lt (hS.2.trans HXb.out)) (fun e => by have e' : w.heap.size = mb := e; have := HML.out; omega)).trans hS.2⟩
  have HKF := Lib.hid (KEY.out X MX.out HXg.out)
  have HG8 : Hid (∀ W8 : World, (W8.heap[g]? = X.heap[g]? ∧ W8.heap[w.heap.size]? = X.heap[w.heap.size]?) → W8.heap[g]? = some (.cells (lcells mb n true C) 108 (0, 0))) := fun W8 hS => hS.1.trans HXg.out
  clear KEY RX0 MX0 XM0 HVG
  go_wp2_with fail
  refine wp_region_held_drew (S := fun W => W.heap[g]? = X.heap[g]? ∧ W.heap[w.heap.size]? = X.heap[w.heap.size]?) (by kernel_rfl) (HSO.out _ (Mods.of_below (Below.refl _ _).drew)) (fun hS => ?_)
  have hY : Mods (fun j => j = mb) X X.drew := Mods.of_below (Below.refl _ _).drew
  have hxm : X.drew.heap[mb]? = X.heap[mb]? := rfl
  refine' wpAnyH_take (i := 0) ?h1x0t ?hsx0t ?hfx0t ?hrx0t ?hQx0t (Or.inl ⟨?hwx0t, ?hyx0t⟩) hS ?restx0t
  case h1x0t => (simp only [List.getElem?_toArray, List.getElem?_cons_zero]; rfl)
  case hsx0t | hfx0t | hrx0t => kernel_rfl
  case hQx0t => exact fun _ _ _ h => h
  case hwx0t => rfl
  case hyx0t =>
    intro W hW
    go_simp
    try with_reducible rfl
  simp only [Act.put, List.setIfInBounds_toArray, List.set_cons_succ, List.set_cons_zero]
  refine' wpAnyH_take (i := 1) ?h1x1t ?hsx1t ?hfx1t ?hrx1t ?hQx1t (Or.inl ⟨?hwx1t, ?hyx1t⟩) hS ?restx1t
  case h1x1t => (simp only [List.getElem?_toArray, List.getElem?_cons_succ, List.getElem?_cons_zero]; rfl)
  case hsx1t | hfx1t | hrx1t => kernel_rfl
  case hQx1t => exact fun _ _ _ h => h
  case hwx1t => rfl
  case hyx1t =>
    intro W hW
    go_simp
    try with_reducible rfl
  simp only [Act.put, List.setIfInBounds_toArray, List.set_cons_succ, List.set_cons_zero]
  refine' wpAnyH_take (i := 2) ?h1x2t ?hsx2t ?hfx2t ?hrx2t ?hQx2t (Or.inl ⟨?hwx2t, ?hyx2t⟩) hS ?restx2t
  case h1x2t => (simp only [List.getElem?_toArray, List.getElem?_cons_succ, List.getElem?_cons_zero]; rfl)
  case hsx2t | hfx2t | hrx2t => kernel_rfl
  case hQx2t => exact fun _ _ _ h => h
  case hwx2t => rfl
  case hyx2t =>
    intro W hW
    go_simp
    try with_reducible rfl
  simp only [Act.put, List.setIfInBounds_toArray, List.set_cons_succ, List.set_cons_zero]
  refine' wpAnyH_take (i := 3) ?h1x3t ?hsx3t ?hfx3t ?hrx3t ?hQx3t (Or.inl ⟨?hwx3t, ?hyx3t⟩) hS ?restx3t
  case h1x3t => (simp only [List.getElem?_toArray, List.getElem?_cons_succ, List.getElem?_cons_zero]; rfl)
  case hsx3t | hfx3t | hrx3t => kernel_rfl
  case hQx3t => exact fun _ _ _ h => h
  case hwx3t => rfl
  case hyx3t =>
    intro W hW
    have c0 := HC0.out _ hW
    go_simp
    try with_reducible rfl
  simp only [Act.put, List.setIfInBounds_toArray, List.set_cons_succ, List.set_cons_zero]
  refine' wpAnyH_take (i := 4) ?h1x4t ?hsx4t ?hfx4t ?hrx4t ?hQx4t (yieldsIf_load_at ?hwx4t 24 (.tmp 4) ?hopx4t w.heap.size 0 rfl (bcells k) _ (fun W hW => range_row (hW.2.trans HXb.out)) Tryd.underlying24 rfl ?hix4t) hS ?restx4t
  case h1x4t => (simp only [List.getElem?_toArray, List.getElem?_cons_succ, List.getElem?_cons_zero]; rfl)
  case hopx4t => rfl
  case hsx4t | hfx4t | hrx4t => kernel_rfl
  case hQx4t => exact fun _ _ _ h => h
  case hwx4t => rfl
  case hix4t => exact IK.out
  simp only [Act.put, List.setIfInBounds_toArray, List.set_cons_succ, List.set_cons_zero]
  refine' wpAnyH_take (i := 5) ?h1x5t ?hsx5t ?hfx5t ?hrx5t ?hQx5t (Or.inl ⟨?hwx5t, ?hyx5t⟩) hS ?restx5t
  case h1x5t => (simp only [List.getElem?_toArray, List.getElem?_cons_succ, List.getElem?_cons_zero]; rfl)
  case hsx5t | hfx5t | hrx5t => kernel_rfl
  case hQx5t => exact fun _ _ _ h => h
  case hwx5t => rfl
  case hyx5t =>
    intro W hW
    go_simp
    try with_reducible rfl
  simp only [Act.put, List.setIfInBounds_toArray, List.set_cons_succ, List.set_cons_zero]
  refine wpAnyH_ready (rs := [6]) (by kernel_rfl) (by simp) ?_
  refine' AllReadyH.cons ?hoc6w1 (fun K hK => ?stc6w1) AllReadyH.nil
  case hoc6w1 => (simp only [List.getElem?_toArray, List.getElem?_cons_succ, List.getElem?_cons_zero]; rfl)
  go_simp
  refine (cloneB v b HLB.out _ (HVF.out _ hY)).mono ?_
  rintro e Wc ⟨u0, rfl, ⟨xu, cu, rfl⟩, ho, hb⟩
  have hYc := hY.trans (Mods.of_below (S := fun j => j = mb) hb) (fun j e => .inl e)
  have hou : OU X.heap.size Wc (.slice xu b.length cu) b := ou_own ho hY.size
  have hxmc : Wc.heap[mb]? = X.heap[mb]? := (hb.block mb (blk_lt (hxm.trans HXM.out.choose_spec.choose_spec))).trans hxm
  go_wp2_with fail
  refine hK.out _ _ (HSO.out _ hYc) (fun hHeld => ?_)
  clear hK K
  try simp only [Act.put, List.setIfInBounds_toArray, List.set_cons_succ, List.set_cons_zero]
  clear hS
  have hS := hHeld
  clear hHeld
  clear hY hxm
  have hY := hYc
  have hxm := hxmc
  clear hYc ho hb hxmc
  refine wpAnyH_ready (rs := [7]) (by kernel_rfl) (by simp) ?_
  refine' AllReadyH.cons ?hoc7w1 (fun K hK => ?stc7w1) AllReadyH.nil
  case hoc7w1 => (simp only [List.getElem?_toArray, List.getElem?_cons_succ, List.getElem?_cons_zero]; rfl)
  go_simp
  have bal : Below Wc.heap.size Wc (Wc.alloc (.cells #[(.slice xu b.length cu)] 37)) := (Below.refl _ _).alloc (Nat.le_refl _) _
  have hYb := hY.trans (Mods.of_below (S := fun j => j = mb) bal) (fun j e => .inl e)
  have hbq : (Wc.alloc (.cells #[(.slice xu b.length cu)] 37)).heap[Wc.heap.size]? = some (.cells #[(.slice xu b.length cu)] 37 (0, 0)) := heap_alloc_new Wc _
  have hxmb : (Wc.alloc (.cells #[(.slice xu b.length cu)] 37)).heap[mb]? = X.heap[mb]? := (bal.block mb (blk_lt (hxm.trans HXM.out.choose_spec.choose_spec))).trans hxm
  have hou2 : OU X.heap.size (Wc.alloc (.cells #[(.slice xu b.length cu)] 37)) (.slice xu b.length cu) b := hou.step (fun q cs t e _ => bal.block q (blk_lt e)) bal.size
  obtain ⟨Wb, hWb⟩ : ∃ Wb, Wb = (Wc.alloc (.cells #[(.slice xu b.length cu)] 37)) := ⟨_, rfl⟩
  refine hK.out _ _ (HSO.out _ hYb) (fun hHeld => ?_)
  clear hK K
  try simp only [Act.put, List.setIfInBounds_toArray, List.set_cons_succ, List.set_cons_zero]
  clear hS
  have hS := hHeld
  clear hHeld
  rw [← hWb] at hYb hbq hou2 hS hxmb ⊢
  clear hY hou bal hWb hxm
  have hY := hYb
  have hou := hou2
  have hxm := hxmb
  obtain ⟨q0, hq0⟩ : ∃ q0, q0 = Wc.heap.size := ⟨_, rfl⟩
  rw [← hq0] at hbq ⊢
  clear hYb hou2 hq0 hxmb
  refine wpAnyH_ready (rs := [8]) (by kernel_rfl) (by simp) ?_
  refine' AllReadyH.cons ?hoc8w1 (fun K hK => ?stc8w1) AllReadyH.nil
  case hoc8w1 => (simp only [List.getElem?_toArray, List.getElem?_cons_succ, List.getElem?_cons_zero]; rfl)
  obtain ⟨st, We, hre, hme, hse, hmw, hen⟩ := (HMP0.out.same hxm).entry law31 Tryd.underlying106 HSM.out HZS.out HKL.out
  rw [← HV0.out] at hre
  have hYe := hY.trans hme (fun j e => .inl e)
  have hnm : ∀ (q : Nat) (cs : Array Value) (t : TypeId), Wb.heap[q]? = some (.cells cs t (0, 0)) → ¬ q = mb := fun q cs t e e2 => by
    obtain ⟨es, c, e3⟩ := HXM.out
    rw [← hxm, ← e2, e] at e3
    cases e3
  have hou2 : OU X.heap.size We (.slice xu b.length cu) b := hou.step (fun q cs t e _ => hme.block q (blk_lt e) (hnm q cs t e)) (Nat.le_of_eq hse.symm)
  have hbq2 : We.heap[q0]? = some (.cells #[(.slice xu b.length cu)] 37 (0, 0)) := (hme.block q0 (blk_lt hbq) (hnm q0 _ _ hbq)).trans hbq
  refine step_entry rfl 106 (.tmp 35) (.tmp 36) rfl rfl rfl hre ?_
  refine hK.out _ _ (HSO.out _ hYe) (fun hHeld => ?_)
  clear hK K
  try simp only [Act.put, List.setIfInBounds_toArray, List.set_cons_succ, List.set_cons_zero]
  clear hS
  have hS := hHeld
  clear hHeld
  clear hY
  have hY := hYe
  clear hYe hre hme hse hnm hxm
  have hen' : EN mb s f k st We := hen
  clear hen
  have hen := hen'
  clear hen'
  clear hou
  have hou := hou2
  clear hou2
  clear hbq
  have hbq := hbq2
  clear hbq2
  refine' wpAnyH_take (i := 9) ?h1x9w1 ?hsx9w1 ?hfx9w1 ?hrx9w1 ?hQx9w1 (Or.inl ⟨?hwx9w1, ?hyx9w1⟩) hS ?restx9w1
  case h1x9w1 => (simp only [List.getElem?_toArray, List.getElem?_cons_succ, List.getElem?_cons_zero]; rfl)
  case hsx9w1 | hfx9w1 | hrx9w1 => kernel_rfl
  case hQx9w1 => exact fun _ _ _ h => h
  case hwx9w1 => rfl
  case hyx9w1 =>
    intro W hW
    go_simp
    try with_reducible rfl
  simp only [Act.put, List.setIfInBounds_toArray, List.set_cons_succ, List.set_cons_zero]
  refine' wpAnyH_take (i := 11) ?h1x11w1 ?hsx11w1 ?hfx11w1 ?hrx11w1 ?hQx11w1 (Or.inl ⟨?hwx11w1, ?hyx11w1⟩) hS ?restx11w1
  case h1x11w1 => (simp only [List.getElem?_toArray, List.getElem?_cons_succ, List.getElem?_cons_zero]; rfl)
  case hsx11w1 | hfx11w1 | hrx11w1 => kernel_rfl
  case hQx11w1 => exact fun _ _ _ h => h
  case hwx11w1 => rfl
  case hyx11w1 =>
    intro W hW
    go_simp
    try with_reducible rfl
  simp only [Act.put, List.setIfInBounds_toArray, List.set_cons_succ, List.set_cons_zero]
  refine wpAnyH_ready (rs := [10]) (by kernel_rfl) (by simp) ?_
  refine' AllReadyH.cons ?hoc10w1a (fun K hK => ?stc10w1a) AllReadyH.nil
  case hoc10w1a => (simp only [List.getElem?_toArray, List.getElem?_cons_succ, List.getElem?_cons_zero]; rfl)
  obtain ⟨v', W7, hra, h7, W8, hrs, hm8, hfin⟩ := tail_fin hY HRX.out HXM.out HN0.out hmw hou ⟨_, _, _, rfl⟩ hbq hen
  refine step_appR rfl 55 (.tmp 37) (.tmp 40) rfl rfl rfl rfl hra ?_
  refine hK.out _ _ (HS7.out _ _ hY hS h7) (fun hHeld => ?_)
  clear hK K
  try simp only [Act.put, List.setIfInBounds_toArray, List.set_cons_succ, List.set_cons_zero]
  clear hS
  have hS := hHeld
  clear hHeld
  refine wpAnyH_ready (rs := [12]) (by kernel_rfl) (by simp) ?_
  refine' AllReadyH.cons ?hoc12w1b (fun K hK => ?stc12w1b) AllReadyH.nil
  case hoc12w1b => (simp only [List.getElem?_toArray, List.getElem?_cons_succ, List.getElem?_cons_zero]; rfl)
  refine step_estore rfl 106 (.tmp 35) (.tmp 43) (.tmp 42) rfl rfl rfl rfl hrs ?_
  refine hK.out _ _ (HS8.out _ _ hS hm8) (fun hHeld => ?_)
  clear hK K
  try simp only [Act.put]
  clear hS
  have hS := hHeld
  clear hHeld
  refine wpAnyH_done (by kernel_rfl) ?_ _
  have FIN := Lib.hid hfin
  have HS8F := Lib.hid hS
  clear hY hen hmw hou hbq hra hrs hm8 hfin hS h7
  have KF := Lib.hid (HKF.out _ _ _ FIN.out)
  have g8 := HG8.out _ HS8F.out
  have c1 := (cell_of_row W8 g 1 _ _ _ g8).trans (lc1 _ _ _ _)
  have fz := frozen_of_row W8 g 1 _ 108 g8
  clear g8
  go_wp2_with fail
  go_end0
  exact KF.out
set_option maxRecDepth 100000 in
set_option maxHeartbeats 8000000 in
theorem keepB (S : Nat → Prop) (g mb s : Nat) (T : List (List Int)) (f : Lit → Option Value) (C b : List Int) (v : Value) (w : World) (h : LGs S w g T mb s f C) (hb : Byt b) (hlen : b.length ≤ 140737488351232) (hv : Sees w v b) (hvS : ∀ q, b ≠ [] → v.ownBlock = some q → ¬ S q) (hT : T.length ≤ 999999) (hnew : b ∉ T) (hcl : clk sha T = none) (hR0 : ofSum sha T (sha b) = []) :
    Calls Tryd.prog 48 #[.pointer (some ⟨g, 0, none⟩), .agg (bcells (sha b)), v] w (KeepP S w g T b) := by
  obtain ⟨k, hk⟩ : ∃ k, k = sha b := ⟨_, rfl⟩
  have bk : Byt k := by rw [hk]; exact sha_byt b
  have lk : k.length = 32 := by rw [hk]; exact sha_len b hb
  obtain ⟨W1, hW1⟩ : ∃ W1, W1 = w.alloc (.cells (bcells k) 24) := ⟨_, rfl⟩
  have b1 : Below w.heap.size w W1 := by rw [hW1]; exact (Below.refl _ _).alloc (Nat.le_refl _) _
  have G1 : Hid (W1.heap[w.heap.size]? = some (.cells (bcells k) 24 (0, 0))) := by show _ = _; rw [hW1]; exact heap_alloc_new w _
  have h1 : LGs S W1 g T mb s f C := h.same (fun b hb => b1.block b (h.own b hb).2) b1.size
  have ST := Lib.hid (stands S g mb s T f C k b v W1 h1 bk lk (hv.below b1) (by omega))
  have mem_k : b ∈ ofSum sha T k ↔ b ∈ T := by rw [mem_ofSum]; exact ⟨fun h => h.1, fun h => ⟨h, hk.symm⟩⟩
  have IK : Hid ((Tryd.prog.info? 24).map (·.size) = some (bcells k).size) := by show _ = _; rw [i27, bsize, lk]
  have HW1 := Lib.hid hW1
  have B1 := Lib.hid b1
  rw [← hk]
  rw [show decide (b ∈ ofSum sha T k) = false from decide_eq_false (fun e => hnew (mem_k.1 e))] at ST
  obtain ⟨V0, xs, hV0, ⟨x0, c0, hVf⟩, hrow, hVS, hxs⟩ := h.row bk lk
  have gm : g ≠ mb := fun e => by
    obtain ⟨es, c, e1⟩ := h.map.isMap
    rw [← e, h.head] at e1
    cases e1
  have vg : V0.ownBlock ≠ some g := fun e => by
    have hr := h.rows k bk lk
    rw [(hVS g e).1] at hr
    obtain ⟨_, cs, e1⟩ := hr.block e
    rw [h.head] at e1
    simp at e1
  have hgl := blk_lt h.head
  have hR : ofSum sha T k = [] := by rw [hk]; exact hR0
  have hany : (T.any fun u => sha u == sha b) = false := by rw [any_ofSum, ← hk, hR]; rfl
  have HCL : Hid ((clk sha (T ++ [b])).isSome = false) := by show _ = _; rw [clk_snoc, hcl]; simp only; rw [hany]; rfl
  have HCC : Hid (∀ c', clk sha (T ++ [b]) = some c' → C = c') := fun c' e => by
    rw [clk_snoc, hcl] at e
    simp only at e
    rw [hany] at e
    cases e
  have HCB := Lib.hid h.clen
  have hcs : (clk sha T).isSome = false := by rw [hcl]; rfl
  have HKF : Hid (∀ (X : World) (v' : Value) (q : Value × World), Mods (fun q => q = g) w X → True) := fun _ _ _ _ => trivial
  clear HKF
  have KEY : Hid (∀ (X : World), Mods (fun q => q = g) w X → X.heap[g]? = some (.cells (lcells mb T.length false C) 108 (0, 0)) → ∀ (v' u : Value) (W8 : World), Fin X mb s (ofSum sha T k).length f k b V0 u xs v' W8 → KeepP S w g T b (.returned (.tuple #[])) (W8.setCell ⟨g, 1, none⟩ (.int .i64 ((T.length : Int) + 1)))) := fun X h1 h2 v' u W8 hF =>
    keep_fin h hk hb hlen hnew hVS hrow hxs h1 (by rw [HCL.out]; exact h2) HCC.out HCB.out hF
  have RX0 : Hid (∀ X : World, Mods (fun q => q = g) w X → X.ownsRow 0 37 1 V0 (ofSum sha T k).length xs) := fun X hX => ownsRow_same hrow (fun q e => hX.block q (h.own q (hVS q e).2).2 (fun e2 => by have e2' : q = g := e2; exact vg (by rw [e, e2'])))
  have MX0 : Hid (∀ X W : World, Mods (fun q => q = g) w X → Mods (fun j => j = mb) X W → W.heap[mb]? = X.heap[mb]? → MapV Tryd.prog 24 W mb s f) := fun X W hX hW e => h.map.same (e.trans (hX.block mb h.map.lt (fun e2 => gm (by have e2' : mb = g := e2; exact e2'.symm))))
  have XM0 : Hid (∀ X : World, Mods (fun q => q = g) w X → ∃ es c, X.heap[mb]? = some (.map es c)) := fun X hX => by
    obtain ⟨es, c, e1⟩ := h.map.isMap
    exact ⟨es, c, (hX.block mb h.map.lt (fun e2 => gm (by have e2' : mb = g := e2; exact e2'.symm))).trans e1⟩
  have HVG : Hid (∀ X W : World, Mods (fun q => q = g) w X → Mods (fun j => j = mb) X W → Sees W v b) := fun X W hX hW => (hv.mods hX (fun q n e e2 => hvS q n e (by have e2' : q = g := e2; rw [e2']; exact h.sg))).mods hW (fun q n e e2 => hvS q n e (by have e2' : q = mb := e2; rw [e2']; exact h.sm))
  have HGM := Lib.hid gm
  have HGL := Lib.hid hgl
  have HVQ : Hid (V0.ownBlock ≠ some g ∧ ∀ q, V0.ownBlock = some q → q < w.heap.size) := ⟨vg, fun q e => (h.own q (hVS q e).2).2⟩
  have HML := Lib.hid h.map.lt
  have HSM : Hid (s < maxLen) := by have := h.small; show s < maxLen; unfold maxLen; omega
  have HN0 : Hid ((ofSum sha T k).length ≤ 1000000) := Nat.le_trans (List.length_filter_le _ _) (by omega)
  have HKL := Lib.hid (kl_is k bk lk)
  have HLB : Hid (b.length ≤ 140737488355328) := by show _ ≤ _; omega
  have HZS : Hid (∀ u : World, (zeroValue 55).run Tryd.prog u = .ok (.slice none 0 0) u) := fun W => by kernel_rfl
  have HV0 := Lib.hid hV0
  have hTi : (T.length : Int) ≤ 999999 := by omega
  have HH0 := h1.head
  rw [hcs] at HH0
  have HH := Lib.hid HH0
  have HMAP := Lib.hid h1.map
  obtain ⟨n, hn⟩ : ∃ n, n = T.length := ⟨_, rfl⟩
  rw [← hn] at KEY HH hTi
  clear hn
  rw [hR] at hVf
  have HVF : Hid (V0 = .slice x0 0 c0) := hVf
  clear hany hR hR0
  clear HH0 hcs hcl
  clear h h1 hv hnew mem_k hk bk lk b1 hW1 hT hb hvS hrow hxs hVS hV0 gm vg hgl hlen hVf
  go_enter Tryd.func48, Tryd.ntmps48
  go_wp2_with (refine wpList_load_row rfl 24 (.tmp 4) rfl w.heap.size rfl 24 (bcells k) (0, 0) _ (by rw [← HW1.out]; exact G1.out) Tryd.underlying24 rfl IK.out ?_)
  rw [← HW1.out]
  refine ST.out.mono ?_
  rintro e w2 ⟨rfl, hb2⟩
  have B2 := Lib.hid (B1.out.trans (hb2.mono B1.out.size))
  have HH2 := Lib.hid ((hb2.block g (blk_lt HH.out)).trans HH.out)
  have GB2 := Lib.hid ((hb2.block _ (blk_lt G1.out)).trans G1.out)
  have HM2 := Lib.hid (HMAP.out.same (hb2.block _ HMAP.out.lt))
  clear hb2 HH G1 HMAP
  go_wp2_with fail
  have HLK : Hid (∀ W : World, Below w2.heap.size w2 W → (Instr.lookup 106 (.map (some mb)) (.agg (bcells k)) false).run Tryd.prog W = .ok V0 W) := fun W hW => by
    rw [HV0.out]
    exact (HM2.out.same (hW.block _ HM2.out.lt)).look keyed31 Tryd.underlying106 (HZS.out W) HKL.out
  rw [HVF.out] at HLK
  refine wp_region_held_drew (S := fun W => Below w2.heap.size w2 W) (by kernel_rfl) (Below.refl _ _).drew (fun hS => ?_)
  refine' wpAnyH_take (i := 0) ?h1x0r ?hsx0r ?hfx0r ?hrx0r ?hQx0r (Or.inl ⟨?hwx0r, ?hyx0r⟩) hS ?restx0r
  case h1x0r => (simp only [List.getElem?_toArray, List.getElem?_cons_zero]; rfl)
  case hsx0r | hfx0r | hrx0r => kernel_rfl
  case hQx0r => exact fun _ _ _ h => h
  case hwx0r => rfl
  case hyx0r =>
    intro W hW
    go_simp
    try with_reducible rfl
  simp only [Act.put, List.setIfInBounds_toArray, List.set_cons_succ, List.set_cons_zero]
  refine' wpAnyH_take (i := 1) ?h1x1r ?hsx1r ?hfx1r ?hrx1r ?hQx1r (Or.inl ⟨?hwx1r, ?hyx1r⟩) hS ?restx1r
  case h1x1r => (simp only [List.getElem?_toArray, List.getElem?_cons_succ, List.getElem?_cons_zero]; rfl)
  case hsx1r | hfx1r | hrx1r => kernel_rfl
  case hQx1r => exact fun _ _ _ h => h
  case hwx1r => rfl
  case hyx1r =>
    intro W hW
    go_simp
    try with_reducible rfl
  simp only [Act.put, List.setIfInBounds_toArray, List.set_cons_succ, List.set_cons_zero]
  refine' wpAnyH_take (i := 2) ?h1x2r ?hsx2r ?hfx2r ?hrx2r ?hQx2r (Or.inl ⟨?hwx2r, ?hyx2r⟩) hS ?restx2r
  case h1x2r => (simp only [List.getElem?_toArray, List.getElem?_cons_succ, List.getElem?_cons_zero]; rfl)
  case hsx2r | hfx2r | hrx2r => kernel_rfl
  case hQx2r => exact fun _ _ _ h => h
  case hwx2r => rfl
  case hyx2r =>
    intro W hW
    go_simp
    try with_reducible rfl
  simp only [Act.put, List.setIfInBounds_toArray, List.set_cons_succ, List.set_cons_zero]
  refine' wpAnyH_take (i := 3) ?h1x3r ?hsx3r ?hfx3r ?hrx3r ?hQx3r (Or.inl ⟨?hwx3r, ?hyx3r⟩) hS ?restx3r
  case h1x3r => (simp only [List.getElem?_toArray, List.getElem?_cons_succ, List.getElem?_cons_zero]; rfl)
  case hsx3r | hfx3r | hrx3r => kernel_rfl
  case hQx3r => exact fun _ _ _ h => h
  case hwx3r => rfl
  case hyx3r =>
    intro W hW
    have c2 := (hW.cell (p := ⟨g, 2, none⟩) (blk_lt HH2.out)).trans ((cell_of_row w2 g 2 _ _ _ HH2.out).trans (lc2 _ _ _ _))
    go_simp
    try with_reducible rfl
  simp only [Act.put, List.setIfInBounds_toArray, List.set_cons_succ, List.set_cons_zero]
  refine' wpAnyH_take (i := 4) ?h1x4r ?hsx4r ?hfx4r ?hrx4r ?hQx4r (Or.inl ⟨?hwx4r, ?hyx4r⟩) hS ?restx4r
  case h1x4r => (simp only [List.getElem?_toArray, List.getElem?_cons_succ, List.getElem?_cons_zero]; rfl)
  case hsx4r | hfx4r | hrx4r => kernel_rfl
  case hQx4r => exact fun _ _ _ h => h
  case hwx4r => rfl
  case hyx4r =>
    intro W hW
    go_simp
    try with_reducible rfl
  simp only [Act.put, List.setIfInBounds_toArray, List.set_cons_succ, List.set_cons_zero]
  refine' wpAnyH_take (i := 5) ?h1x5r ?hsx5r ?hfx5r ?hrx5r ?hQx5r (Or.inl ⟨?hwx5r, ?hyx5r⟩) hS ?restx5r
  case h1x5r => (simp only [List.getElem?_toArray, List.getElem?_cons_succ, List.getElem?_cons_zero]; rfl)
  case hsx5r | hfx5r | hrx5r => kernel_rfl
  case hQx5r => exact fun _ _ _ h => h
  case hwx5r => rfl
  case hyx5r =>
    intro W hW
    go_simp
    try with_reducible rfl
  simp only [Act.put, List.setIfInBounds_toArray, List.set_cons_succ, List.set_cons_zero]
  refine' wpAnyH_take (i := 6) ?h1x6r ?hsx6r ?hfx6r ?hrx6r ?hQx6r (Or.inl ⟨?hwx6r, ?hyx6r⟩) hS ?restx6r
  case h1x6r => (simp only [List.getElem?_toArray, List.getElem?_cons_succ, List.getElem?_cons_zero]; rfl)
  case hsx6r | hfx6r | hrx6r => kernel_rfl
  case hQx6r => exact fun _ _ _ h => h
  case hwx6r => rfl
  case hyx6r =>
    intro W hW
    go_simp
    try with_reducible rfl
  simp only [Act.put, List.setIfInBounds_toArray, List.set_cons_succ, List.set_cons_zero]
  refine' wpAnyH_take (i := 7) ?h1x7r ?hsx7r ?hfx7r ?hrx7r ?hQx7r (Or.inl ⟨?hwx7r, ?hyx7r⟩) hS ?restx7r
  case h1x7r => (simp only [List.getElem?_toArray, List.getElem?_cons_succ, List.getElem?_cons_zero]; rfl)
  case hsx7r | hfx7r | hrx7r => kernel_rfl
  case hQx7r => exact fun _ _ _ h => h
  case hwx7r => rfl
  case hyx7r =>
    intro W hW
    go_simp
    try with_reducible rfl
  simp only [Act.put, List.setIfInBounds_toArray, List.set_cons_succ, List.set_cons_zero]
  refine' wpAnyH_take (i := 8) ?h1x8r ?hsx8r ?hfx8r ?hrx8r ?hQx8r (Or.inl ⟨?hwx8r, ?hyx8r⟩) hS ?restx8r
  case h1x8r => (simp only [List.getElem?_toArray, List.getElem?_cons_succ, List.getElem?_cons_zero]; rfl)
  case hsx8r | hfx8r | hrx8r => kernel_rfl
  case hQx8r => exact fun _ _ _ h => h
  case hwx8r => rfl
  case hyx8r =>
    intro W hW
    go_simp
    try with_reducible rfl
  simp only [Act.put, List.setIfInBounds_toArray, List.set_cons_succ, List.set_cons_zero]
  refine' wpAnyH_take (i := 9) ?h1x9r ?hsx9r ?hfx9r ?hrx9r ?hQx9r (Or.inl ⟨?hwx9r, ?hyx9r⟩) hS ?restx9r
  case h1x9r => (simp only [List.getElem?_toArray, List.getElem?_cons_succ, List.getElem?_cons_zero]; rfl)
  case hsx9r | hfx9r | hrx9r => kernel_rfl
  case hQx9r => exact fun _ _ _ h => h
  case hwx9r => rfl
  case hyx9r =>
    intro W hW
    have c0 := (hW.cell (p := ⟨g, 0, none⟩) (blk_lt HH2.out)).trans ((cell_of_row w2 g 0 _ _ _ HH2.out).trans (lc0 _ _ _ _))
    go_simp
    try with_reducible rfl
  simp only [Act.put, List.setIfInBounds_toArray, List.set_cons_succ, List.set_cons_zero]
  refine' wpAnyH_take (i := 10) ?h1x10r ?hsx10r ?hfx10r ?hrx10r ?hQx10r (yieldsIf_load_at ?hwx10r 24 (.tmp 4) ?hopx10r w.heap.size 0 rfl (bcells k) _ (fun W hW => range_row ((hW.block _ (blk_lt GB2.out)).trans GB2.out)) Tryd.underlying24 rfl ?hix10r) hS ?restx10r
  case h1x10r => (simp only [List.getElem?_toArray, List.getElem?_cons_succ, List.getElem?_cons_zero]; rfl)
  case hopx10r => rfl
  case hsx10r | hfx10r | hrx10r => kernel_rfl
  case hQx10r => exact fun _ _ _ h => h
  case hwx10r => rfl
  case hix10r => exact IK.out
  simp only [Act.put, List.setIfInBounds_toArray, List.set_cons_succ, List.set_cons_zero]
  refine' wpAnyH_take (i := 11) ?h1x11r ?hsx11r ?hfx11r ?hrx11r ?hQx11r (Or.inl ⟨?hwx11r, ?hyx11r⟩) hS ?restx11r
  case h1x11r => (simp only [List.getElem?_toArray, List.getElem?_cons_succ, List.getElem?_cons_zero]; rfl)
  case hsx11r | hfx11r | hrx11r => kernel_rfl
  case hQx11r => exact fun _ _ _ h => h
  case hwx11r => rfl
  case hyx11r =>
    intro W hW
    have lk := HLK.out W hW
    go_simp
    try with_reducible rfl
  simp only [Act.put, List.setIfInBounds_toArray, List.set_cons_succ, List.set_cons_zero]
  refine' wpAnyH_take (i := 12) ?h1x12r ?hsx12r ?hfx12r ?hrx12r ?hQx12r (Or.inl ⟨?hwx12r, ?hyx12r⟩) hS ?restx12r
  case h1x12r => (simp only [List.getElem?_toArray, List.getElem?_cons_succ, List.getElem?_cons_zero]; rfl)
  case hsx12r | hfx12r | hrx12r => kernel_rfl
  case hQx12r => exact fun _ _ _ h => h
  case hwx12r => rfl
  case hyx12r =>
    intro W hW
    go_simp
    try with_reducible rfl
  simp only [Act.put, List.setIfInBounds_toArray, List.set_cons_succ, List.set_cons_zero]
  refine' wpAnyH_take (i := 13) ?h1x13r ?hsx13r ?hfx13r ?hrx13r ?hQx13r (Or.inl ⟨?hwx13r, ?hyx13r⟩) hS ?restx13r
  case h1x13r => (simp only [List.getElem?_toArray, List.getElem?_cons_succ, List.getElem?_cons_zero]; rfl)
  case hsx13r | hfx13r | hrx13r => kernel_rfl
  case hQx13r => exact fun _ _ _ h => h
  case hwx13r => rfl
  case hyx13r =>
    intro W hW
    go_simp
    try with_reducible rfl
  simp only [Act.put, List.setIfInBounds_toArray, List.set_cons_succ, List.set_cons_zero]
  refine' wpAnyH_take (i := 14) ?h1x14r ?hsx14r ?hfx14r ?hrx14r ?hQx14r (Or.inl ⟨?hwx14r, ?hyx14r⟩) hS ?restx14r
  case h1x14r => (simp only [List.getElem?_toArray, List.getElem?_cons_succ, List.getElem?_cons_zero]; rfl)
  case hsx14r | hfx14r | hrx14r => kernel_rfl
  case hQx14r => exact fun _ _ _ h => h
  case hwx14r => rfl
  case hyx14r =>
    intro W hW
    go_simp
    try with_reducible rfl
  simp only [Act.put, List.setIfInBounds_toArray, List.set_cons_succ, List.set_cons_zero]
  refine wpAnyH_done (by kernel_rfl) ?_ _
  clear hS
  obtain ⟨X, hX⟩ : ∃ X, X = w2.drew := ⟨_, rfl⟩
  have HMX : Hid (Mods (fun q => q = g) w X) := by rw [hX]; exact Mods.of_below B2.out.drew
  have HXg : Hid (X.heap[g]? = some (.cells (lcells mb n false C) 108 (0, 0))) := by rw [hX]; exact HH2.out
  have HXb : Hid (X.heap[w.heap.size]? = some (.cells (bcells k) 24 (0, 0))) := by rw [hX]; exact GB2.out
  have HMP0 : Hid (MapV Tryd.prog 24 X mb s f) := by rw [hX]; exact HM2.out.same rfl
  rw [← hX]
  clear hX
  have MX := Lib.hid HMX.out
  have HSO : Hid (∀ W : World, Mods (fun j => j = mb) X W → W.heap[g]? = X.heap[g]? ∧ W.heap[w.heap.size]? = X.heap[w.heap.size]?) := fun W hW => ⟨hW.block g (blk_lt HXg.out) (fun e => HGM.out e), hW.block _ (blk_lt HXb.out) (fun e => by have e' : w.heap.size = mb := e; have := HML.out; omega)⟩
  have HRX := Lib.hid (RX0.out X MX.out)
  have HXM := Lib.hid (XM0.out X MX.out)
  have HVF := Lib.hid (fun W hW => HVG.out X W MX.out hW)
  have HC0 : Hid (∀ W : World, (W.heap[g]? = X.heap[g]? ∧ W.heap[w.heap.size]? = X.heap[w.heap.size]?) → W.cell? ⟨g, 0, none⟩ = some (.map (some mb))) := fun W hW => (cell_of_row W g 0 _ _ _ (hW.1.trans HXg.out)).trans (lc0 _ _ _ _)
  have HS7 : Hid (∀ W W7 : World, Mods (fun j => j = mb) X W → (W.heap[g]? = X.heap[g]? ∧ W.heap[w.heap.size]? = X.heap[w.heap.size]?) → (∀ j, V0.ownBlock ≠ some j → j < W.heap.size → W7.heap[j]? = W.heap[j]?) → W7.heap[g]? = X.heap[g]? ∧ W7.heap[w.heap.size]? = X.heap[w.heap.size]?) := fun W W7 hY hS h7 =>
    ⟨(h7 g HVQ.out.1 (Nat.lt_of_lt_of_le (blk_lt HXg.out) hY.size)).trans hS.1, (h7 _ (fun e => by have := HVQ.out.2 _ e; omega) (Nat.lt_of_lt_of_le (blk_lt HXb.out) hY.size)).trans hS.2⟩
  have HS8 : Hid (∀ W7 W8 : World, (W7.heap[g]? = X.heap[g]? ∧ W7.heap[w.heap.size]? = X.heap[w.heap.size]?) → Mods (fun j => j = mb) W7 W8 → W8.heap[g]? = X.heap[g]? ∧ W8.heap[w.heap.size]? = X.heap[w.heap.size]?) := fun W7 W8 hS hm =>
    ⟨(hm.block g (blk_lt (hS.1.trans HXg.out)) (fun e => HGM.out e)).trans hS.1, (hm.block _ (blk_lt (hS.2.trans HXb.out)) (fun e => by have e' : w.heap.size = mb := e; have := HML.out; omega)).trans hS.2⟩
  have HKF := Lib.hid (KEY.out X MX.out HXg.out)
  have HG8 : Hid (∀ W8 : World, (W8.heap[g]? = X.heap[g]? ∧ W8.heap[w.heap.size]? = X.heap[w.heap.size]?) → W8.heap[g]? = some (.cells (lcells mb n false C) 108 (0, 0))) := fun W8 hS => hS.1.trans HXg.out
  clear KEY RX0 MX0 XM0 HVG
  go_wp2_with fail
  refine wp_region_held_drew (S := fun W => W.heap[g]? = X.heap[g]? ∧ W.heap[w.heap.size]? = X.heap[w.heap.size]?) (by kernel_rfl) (HSO.out _ (Mods.of_below (Below.refl _ _).drew)) (fun hS => ?_)
  have hY : Mods (fun j => j = mb) X X.drew := Mods.of_below (Below.refl _ _).drew
  have hxm : X.drew.heap[mb]? = X.heap[mb]? := rfl
  refine' wpAnyH_take (i := 0) ?h1x0t ?hsx0t ?hfx0t ?hrx0t ?hQx0t (Or.inl ⟨?hwx0t, ?hyx0t⟩) hS ?restx0t
  case h1x0t => (simp only [List.getElem?_toArray, List.getElem?_cons_zero]; rfl)
  case hsx0t | hfx0t | hrx0t => kernel_rfl
  case hQx0t => exact fun _ _ _ h => h
  case hwx0t => rfl
  case hyx0t =>
    intro W hW
    go_simp
    try with_reducible rfl
  simp only [Act.put, List.setIfInBounds_toArray, List.set_cons_succ, List.set_cons_zero]
  refine' wpAnyH_take (i := 1) ?h1x1t ?hsx1t ?hfx1t ?hrx1t ?hQx1t (Or.inl ⟨?hwx1t, ?hyx1t⟩) hS ?restx1t
  case h1x1t => (simp only [List.getElem?_toArray, List.getElem?_cons_succ, List.getElem?_cons_zero]; rfl)
  case hsx1t | hfx1t | hrx1t => kernel_rfl
  case hQx1t => exact fun _ _ _ h => h
  case hwx1t => rfl
  case hyx1t =>
    intro W hW
    go_simp
    try with_reducible rfl
  simp only [Act.put, List.setIfInBounds_toArray, List.set_cons_succ, List.set_cons_zero]
  refine' wpAnyH_take (i := 2) ?h1x2t ?hsx2t ?hfx2t ?hrx2t ?hQx2t (Or.inl ⟨?hwx2t, ?hyx2t⟩) hS ?restx2t
  case h1x2t => (simp only [List.getElem?_toArray, List.getElem?_cons_succ, List.getElem?_cons_zero]; rfl)
  case hsx2t | hfx2t | hrx2t => kernel_rfl
  case hQx2t => exact fun _ _ _ h => h
  case hwx2t => rfl
  case hyx2t =>
    intro W hW
    go_simp
    try with_reducible rfl
  simp only [Act.put, List.setIfInBounds_toArray, List.set_cons_succ, List.set_cons_zero]
  refine' wpAnyH_take (i := 3) ?h1x3t ?hsx3t ?hfx3t ?hrx3t ?hQx3t (Or.inl ⟨?hwx3t, ?hyx3t⟩) hS ?restx3t
  case h1x3t => (simp only [List.getElem?_toArray, List.getElem?_cons_succ, List.getElem?_cons_zero]; rfl)
  case hsx3t | hfx3t | hrx3t => kernel_rfl
  case hQx3t => exact fun _ _ _ h => h
  case hwx3t => rfl
  case hyx3t =>
    intro W hW
    have c0 := HC0.out _ hW
    go_simp
    try with_reducible rfl
  simp only [Act.put, List.setIfInBounds_toArray, List.set_cons_succ, List.set_cons_zero]
  refine' wpAnyH_take (i := 4) ?h1x4t ?hsx4t ?hfx4t ?hrx4t ?hQx4t (yieldsIf_load_at ?hwx4t 24 (.tmp 4) ?hopx4t w.heap.size 0 rfl (bcells k) _ (fun W hW => range_row (hW.2.trans HXb.out)) Tryd.underlying24 rfl ?hix4t) hS ?restx4t
  case h1x4t => (simp only [List.getElem?_toArray, List.getElem?_cons_succ, List.getElem?_cons_zero]; rfl)
  case hopx4t => rfl
  case hsx4t | hfx4t | hrx4t => kernel_rfl
  case hQx4t => exact fun _ _ _ h => h
  case hwx4t => rfl
  case hix4t => exact IK.out
  simp only [Act.put, List.setIfInBounds_toArray, List.set_cons_succ, List.set_cons_zero]
  refine' wpAnyH_take (i := 5) ?h1x5t ?hsx5t ?hfx5t ?hrx5t ?hQx5t (Or.inl ⟨?hwx5t, ?hyx5t⟩) hS ?restx5t
  case h1x5t => (simp only [List.getElem?_toArray, List.getElem?_cons_succ, List.getElem?_cons_zero]; rfl)
  case hsx5t | hfx5t | hrx5t => kernel_rfl
  case hQx5t => exact fun _ _ _ h => h
  case hwx5t => rfl
  case hyx5t =>
    intro W hW
    go_simp
    try with_reducible rfl
  simp only [Act.put, List.setIfInBounds_toArray, List.set_cons_succ, List.set_cons_zero]
  refine wpAnyH_ready (rs := [6]) (by kernel_rfl) (by simp) ?_
  refine' AllReadyH.cons ?hoc6w1 (fun K hK => ?stc6w1) AllReadyH.nil
  case hoc6w1 => (simp only [List.getElem?_toArray, List.getElem?_cons_succ, List.getElem?_cons_zero]; rfl)
  go_simp
  refine (cloneB v b HLB.out _ (HVF.out _ hY)).mono ?_
  rintro e Wc ⟨u0, rfl, ⟨xu, cu, rfl⟩, ho, hb⟩
  have hYc := hY.trans (Mods.of_below (S := fun j => j = mb) hb) (fun j e => .inl e)
  have hou : OU X.heap.size Wc (.slice xu b.length cu) b := ou_own ho hY.size
  have hxmc : Wc.heap[mb]? = X.heap[mb]? := (hb.block mb (blk_lt (hxm.trans HXM.out.choose_spec.choose_spec))).trans hxm
  go_wp2_with fail
  refine hK.out _ _ (HSO.out _ hYc) (fun hHeld => ?_)
  clear hK K
  try simp only [Act.put, List.setIfInBounds_toArray, List.set_cons_succ, List.set_cons_zero]
  clear hS
  have hS := hHeld
  clear hHeld
  clear hY hxm
  have hY := hYc
  have hxm := hxmc
  clear hYc ho hb hxmc
  refine wpAnyH_ready (rs := [7]) (by kernel_rfl) (by simp) ?_
  refine' AllReadyH.cons ?hoc7w1 (fun K hK => ?stc7w1) AllReadyH.nil
  case hoc7w1 => (simp only [List.getElem?_toArray, List.getElem?_cons_succ, List.getElem?_cons_zero]; rfl)
  go_simp
  have bal : Below Wc.heap.size Wc (Wc.alloc (.cells #[(.slice xu b.length cu)] 37)) := (Below.refl _ _).alloc (Nat.le_refl _) _
  have hYb := hY.trans (Mods.of_below (S := fun j => j = mb) bal) (fun j e => .inl e)
  have hbq : (Wc.alloc (.cells #[(.slice xu b.length cu)] 37)).heap[Wc.heap.size]? = some (.cells #[(.slice xu b.length cu)] 37 (0, 0)) := heap_alloc_new Wc _
  have hxmb : (Wc.alloc (.cells #[(.slice xu b.length cu)] 37)).heap[mb]? = X.heap[mb]? := (bal.block mb (blk_lt (hxm.trans HXM.out.choose_spec.choose_spec))).trans hxm
  have hou2 : OU X.heap.size (Wc.alloc (.cells #[(.slice xu b.length cu)] 37)) (.slice xu b.length cu) b := hou.step (fun q cs t e _ => bal.block q (blk_lt e)) bal.size
  obtain ⟨Wb, hWb⟩ : ∃ Wb, Wb = (Wc.alloc (.cells #[(.slice xu b.length cu)] 37)) := ⟨_, rfl⟩
  refine hK.out _ _ (HSO.out _ hYb) (fun hHeld => ?_)
  clear hK K
  try simp only [Act.put, List.setIfInBounds_toArray, List.set_cons_succ, List.set_cons_zero]
  clear hS
  have hS := hHeld
  clear hHeld
  rw [← hWb] at hYb hbq hou2 hS hxmb ⊢
  clear hY hou bal hWb hxm
  have hY := hYb
  have hou := hou2
  have hxm := hxmb
  obtain ⟨q0, hq0⟩ : ∃ q0, q0 = Wc.heap.size := ⟨_, rfl⟩
  rw [← hq0] at hbq ⊢
  clear hYb hou2 hq0 hxmb
  refine wpAnyH_ready (rs := [8]) (by kernel_rfl) (by simp) ?_
  refine' AllReadyH.cons ?hoc8w1 (fun K hK => ?stc8w1) AllReadyH.nil
  case hoc8w1 => (simp only [List.getElem?_toArray, List.getElem?_cons_succ, List.getElem?_cons_zero]; rfl)
  obtain ⟨st, We, hre, hme, hse, hmw, hen⟩ := (HMP0.out.same hxm).entry law31 Tryd.underlying106 HSM.out HZS.out HKL.out
  rw [← HV0.out] at hre
  have hYe := hY.trans hme (fun j e => .inl e)
  have hnm : ∀ (q : Nat) (cs : Array Value) (t : TypeId), Wb.heap[q]? = some (.cells cs t (0, 0)) → ¬ q = mb := fun q cs t e e2 => by
    obtain ⟨es, c, e3⟩ := HXM.out
    rw [← hxm, ← e2, e] at e3
    cases e3
  have hou2 : OU X.heap.size We (.slice xu b.length cu) b := hou.step (fun q cs t e _ => hme.block q (blk_lt e) (hnm q cs t e)) (Nat.le_of_eq hse.symm)
  have hbq2 : We.heap[q0]? = some (.cells #[(.slice xu b.length cu)] 37 (0, 0)) := (hme.block q0 (blk_lt hbq) (hnm q0 _ _ hbq)).trans hbq
  refine step_entry rfl 106 (.tmp 35) (.tmp 36) rfl rfl rfl hre ?_
  refine hK.out _ _ (HSO.out _ hYe) (fun hHeld => ?_)
  clear hK K
  try simp only [Act.put, List.setIfInBounds_toArray, List.set_cons_succ, List.set_cons_zero]
  clear hS
  have hS := hHeld
  clear hHeld
  clear hY
  have hY := hYe
  clear hYe hre hme hse hnm hxm
  have hen' : EN mb s f k st We := hen
  clear hen
  have hen := hen'
  clear hen'
  clear hou
  have hou := hou2
  clear hou2
  clear hbq
  have hbq := hbq2
  clear hbq2
  refine' wpAnyH_take (i := 9) ?h1x9w1 ?hsx9w1 ?hfx9w1 ?hrx9w1 ?hQx9w1 (Or.inl ⟨?hwx9w1, ?hyx9w1⟩) hS ?restx9w1
  case h1x9w1 => (simp only [List.getElem?_toArray, List.getElem?_cons_succ, List.getElem?_cons_zero]; rfl)
  case hsx9w1 | hfx9w1 | hrx9w1 => kernel_rfl
  case hQx9w1 => exact fun _ _ _ h => h
  case hwx9w1 => rfl
  case hyx9w1 =>
    intro W hW
    go_simp
    try with_reducible rfl
  simp only [Act.put, List.setIfInBounds_toArray, List.set_cons_succ, List.set_cons_zero]
  refine' wpAnyH_take (i := 11) ?h1x11w1 ?hsx11w1 ?hfx11w1 ?hrx11w1 ?hQx11w1 (Or.inl ⟨?hwx11w1, ?hyx11w1⟩) hS ?restx11w1
  case h1x11w1 => (simp only [List.getElem?_toArray, List.getElem?_cons_succ, List.getElem?_cons_zero]; rfl)
  case hsx11w1 | hfx11w1 | hrx11w1 => kernel_rfl
  case hQx11w1 => exact fun _ _ _ h => h
  case hwx11w1 => rfl
  case hyx11w1 =>
    intro W hW
    go_simp
    try with_reducible rfl
  simp only [Act.put, List.setIfInBounds_toArray, List.set_cons_succ, List.set_cons_zero]
  refine wpAnyH_ready (rs := [10]) (by kernel_rfl) (by simp) ?_
  refine' AllReadyH.cons ?hoc10w1a (fun K hK => ?stc10w1a) AllReadyH.nil
  case hoc10w1a => (simp only [List.getElem?_toArray, List.getElem?_cons_succ, List.getElem?_cons_zero]; rfl)
  obtain ⟨v', W7, hra, h7, W8, hrs, hm8, hfin⟩ := tail_fin hY HRX.out HXM.out HN0.out hmw hou ⟨_, _, _, rfl⟩ hbq hen
  refine step_appR rfl 55 (.tmp 37) (.tmp 40) rfl rfl rfl rfl hra ?_
  refine hK.out _ _ (HS7.out _ _ hY hS h7) (fun hHeld => ?_)
  clear hK K
  try simp only [Act.put, List.setIfInBounds_toArray, List.set_cons_succ, List.set_cons_zero]
  clear hS
  have hS := hHeld
  clear hHeld
  refine wpAnyH_ready (rs := [12]) (by kernel_rfl) (by simp) ?_
  refine' AllReadyH.cons ?hoc12w1b (fun K hK => ?stc12w1b) AllReadyH.nil
  case hoc12w1b => (simp only [List.getElem?_toArray, List.getElem?_cons_succ, List.getElem?_cons_zero]; rfl)
  refine step_estore rfl 106 (.tmp 35) (.tmp 43) (.tmp 42) rfl rfl rfl rfl hrs ?_
  refine hK.out _ _ (HS8.out _ _ hS hm8) (fun hHeld => ?_)
  clear hK K
  try simp only [Act.put]
  clear hS
  have hS := hHeld
  clear hHeld
  refine wpAnyH_done (by kernel_rfl) ?_ _
  have FIN := Lib.hid hfin
  have HS8F := Lib.hid hS
  clear hY hen hmw hou hbq hra hrs hm8 hfin hS h7
  have KF := Lib.hid (HKF.out _ _ _ FIN.out)
  have g8 := HG8.out _ HS8F.out
  have c1 := (cell_of_row W8 g 1 _ _ _ g8).trans (lc1 _ _ _ _)
  have fz := frozen_of_row W8 g 1 _ 108 g8
  clear g8
  go_wp2_with fail
  go_end0
  exact KF.out
set_option maxRecDepth 100000 in
set_option maxHeartbeats 8000000 in
theorem keepC (S : Nat → Prop) (g mb s : Nat) (T : List (List Int)) (f : Lit → Option Value) (C b : List Int) (v : Value) (w : World) (h : LGs S w g T mb s f C) (hb : Byt b) (hlen : b.length ≤ 140737488351232) (hv : Sees w v b) (hvS : ∀ q, b ≠ [] → v.ownBlock = some q → ¬ S q) (hT : T.length ≤ 999999) (hnew : b ∉ T) (hcl : clk sha T = none) (hR0 : 0 < (ofSum sha T (sha b)).length) :
    Calls Tryd.prog 48 #[.pointer (some ⟨g, 0, none⟩), .agg (bcells (sha b)), v] w (KeepP S w g T b) := by
  obtain ⟨k, hk⟩ : ∃ k, k = sha b := ⟨_, rfl⟩
  have bk : Byt k := by rw [hk]; exact sha_byt b
  have lk : k.length = 32 := by rw [hk]; exact sha_len b hb
  obtain ⟨W1, hW1⟩ : ∃ W1, W1 = w.alloc (.cells (bcells k) 24) := ⟨_, rfl⟩
  have b1 : Below w.heap.size w W1 := by rw [hW1]; exact (Below.refl _ _).alloc (Nat.le_refl _) _
  have G1 : Hid (W1.heap[w.heap.size]? = some (.cells (bcells k) 24 (0, 0))) := by show _ = _; rw [hW1]; exact heap_alloc_new w _
  have h1 : LGs S W1 g T mb s f C := h.same (fun b hb => b1.block b (h.own b hb).2) b1.size
  have ST := Lib.hid (stands S g mb s T f C k b v W1 h1 bk lk (hv.below b1) (by omega))
  have mem_k : b ∈ ofSum sha T k ↔ b ∈ T := by rw [mem_ofSum]; exact ⟨fun h => h.1, fun h => ⟨h, hk.symm⟩⟩
  have IK : Hid ((Tryd.prog.info? 24).map (·.size) = some (bcells k).size) := by show _ = _; rw [i27, bsize, lk]
  have HW1 := Lib.hid hW1
  have B1 := Lib.hid b1
  rw [← hk]
  rw [show decide (b ∈ ofSum sha T k) = false from decide_eq_false (fun e => hnew (mem_k.1 e))] at ST
  obtain ⟨V0, xs, hV0, ⟨x0, c0, hVf⟩, hrow, hVS, hxs⟩ := h.row bk lk
  have gm : g ≠ mb := fun e => by
    obtain ⟨es, c, e1⟩ := h.map.isMap
    rw [← e, h.head] at e1
    cases e1
  have vg : V0.ownBlock ≠ some g := fun e => by
    have hr := h.rows k bk lk
    rw [(hVS g e).1] at hr
    obtain ⟨_, cs, e1⟩ := hr.block e
    rw [h.head] at e1
    simp at e1
  have hgl := blk_lt h.head
  have hR : 0 < (ofSum sha T k).length := by rw [hk]; exact hR0
  have hany : (T.any fun u => sha u == sha b) = true := by rw [any_ofSum, ← hk]; exact decide_eq_true hR
  have hck : clk sha (T ++ [b]) = some k := by rw [clk_snoc, hcl]; simp only; rw [hany, hk]; rfl
  have HCL : Hid ((clk sha (T ++ [b])).isSome = true) := by show _ = _; rw [hck]; rfl
  have HCC : Hid (∀ c', clk sha (T ++ [b]) = some c' → k = c') := fun c' e => by
    rw [hck] at e
    exact Option.some.inj e
  have HCB : Hid (k.length = 32 ∧ Byt k) := ⟨lk, bk⟩
  have hcs : (clk sha T).isSome = false := by rw [hcl]; rfl
  have HN0P : Hid ((0 : Int) < ((ofSum sha T k).length : Int)) := by show _ < _; omega
  have HFIT : Hid (3 + (bcells k).size ≤ (lcells mb T.length true C).size) := by
    show _ ≤ _
    rw [bsize, lk, lcsize, h.clen.1]
    exact Nat.le_refl _
  have HONE : Hid (∀ v ∈ (bcells k).toList, v.oneCell' = true) := fun v hv => by
    simp only [bcells, List.mem_map] at hv
    obtain ⟨x, _, rfl⟩ := hv
    rfl
  have HSPL := Lib.hid (lspl mb T.length true C k h.clen.1 lk)
  have HKF : Hid (∀ (X : World) (v' : Value) (q : Value × World), Mods (fun q => q = g) w X → True) := fun _ _ _ _ => trivial
  clear HKF
  have KEY : Hid (∀ (X : World), Mods (fun q => q = g) w X → X.heap[g]? = some (.cells (lcells mb T.length true k) 108 (0, 0)) → ∀ (v' u : Value) (W8 : World), Fin X mb s (ofSum sha T k).length f k b V0 u xs v' W8 → KeepP S w g T b (.returned (.tuple #[])) (W8.setCell ⟨g, 1, none⟩ (.int .i64 ((T.length : Int) + 1)))) := fun X h1 h2 v' u W8 hF =>
    keep_fin h hk hb hlen hnew hVS hrow hxs h1 (by rw [HCL.out]; exact h2) HCC.out HCB.out hF
  have RX0 : Hid (∀ X : World, Mods (fun q => q = g) w X → X.ownsRow 0 37 1 V0 (ofSum sha T k).length xs) := fun X hX => ownsRow_same hrow (fun q e => hX.block q (h.own q (hVS q e).2).2 (fun e2 => by have e2' : q = g := e2; exact vg (by rw [e, e2'])))
  have MX0 : Hid (∀ X W : World, Mods (fun q => q = g) w X → Mods (fun j => j = mb) X W → W.heap[mb]? = X.heap[mb]? → MapV Tryd.prog 24 W mb s f) := fun X W hX hW e => h.map.same (e.trans (hX.block mb h.map.lt (fun e2 => gm (by have e2' : mb = g := e2; exact e2'.symm))))
  have XM0 : Hid (∀ X : World, Mods (fun q => q = g) w X → ∃ es c, X.heap[mb]? = some (.map es c)) := fun X hX => by
    obtain ⟨es, c, e1⟩ := h.map.isMap
    exact ⟨es, c, (hX.block mb h.map.lt (fun e2 => gm (by have e2' : mb = g := e2; exact e2'.symm))).trans e1⟩
  have HVG : Hid (∀ X W : World, Mods (fun q => q = g) w X → Mods (fun j => j = mb) X W → Sees W v b) := fun X W hX hW => (hv.mods hX (fun q n e e2 => hvS q n e (by have e2' : q = g := e2; rw [e2']; exact h.sg))).mods hW (fun q n e e2 => hvS q n e (by have e2' : q = mb := e2; rw [e2']; exact h.sm))
  have HGM := Lib.hid gm
  have HGL := Lib.hid hgl
  have HVQ : Hid (V0.ownBlock ≠ some g ∧ ∀ q, V0.ownBlock = some q → q < w.heap.size) := ⟨vg, fun q e => (h.own q (hVS q e).2).2⟩
  have HML := Lib.hid h.map.lt
  have HSM : Hid (s < maxLen) := by have := h.small; show s < maxLen; unfold maxLen; omega
  have HN0 : Hid ((ofSum sha T k).length ≤ 1000000) := Nat.le_trans (List.length_filter_le _ _) (by omega)
  have HKL := Lib.hid (kl_is k bk lk)
  have HLB : Hid (b.length ≤ 140737488355328) := by show _ ≤ _; omega
  have HZS : Hid (∀ u : World, (zeroValue 55).run Tryd.prog u = .ok (.slice none 0 0) u) := fun W => by kernel_rfl
  have HV0 := Lib.hid hV0
  have hTi : (T.length : Int) ≤ 999999 := by omega
  have HH0 := h1.head
  rw [hcs] at HH0
  have HH := Lib.hid HH0
  have HMAP := Lib.hid h1.map
  obtain ⟨n, hn⟩ : ∃ n, n = T.length := ⟨_, rfl⟩
  rw [← hn] at KEY HH hTi HFIT HSPL
  clear hn
  have HVF := Lib.hid hVf
  clear hany hck hR hR0
  clear HH0 hcs hcl
  clear h h1 hv hnew mem_k hk bk lk b1 hW1 hT hb hvS hrow hxs hVS hV0 gm vg hgl hlen hVf
  go_enter Tryd.func48, Tryd.ntmps48
  go_wp2_with (refine wpList_load_row rfl 24 (.tmp 4) rfl w.heap.size rfl 24 (bcells k) (0, 0) _ (by rw [← HW1.out]; exact G1.out) Tryd.underlying24 rfl IK.out ?_)
  rw [← HW1.out]
  refine ST.out.mono ?_
  rintro e w2 ⟨rfl, hb2⟩
  have B2 := Lib.hid (B1.out.trans (hb2.mono B1.out.size))
  have HH2 := Lib.hid ((hb2.block g (blk_lt HH.out)).trans HH.out)
  have GB2 := Lib.hid ((hb2.block _ (blk_lt G1.out)).trans G1.out)
  have HM2 := Lib.hid (HMAP.out.same (hb2.block _ HMAP.out.lt))
  clear hb2 HH G1 HMAP
  go_wp2_with fail
  have HLK : Hid (∀ W : World, Below w2.heap.size w2 W → (Instr.lookup 106 (.map (some mb)) (.agg (bcells k)) false).run Tryd.prog W = .ok V0 W) := fun W hW => by
    rw [HV0.out]
    exact (HM2.out.same (hW.block _ HM2.out.lt)).look keyed31 Tryd.underlying106 (HZS.out W) HKL.out
  rw [HVF.out] at HLK
  refine wp_region_held_drew (S := fun W => Below w2.heap.size w2 W) (by kernel_rfl) (Below.refl _ _).drew (fun hS => ?_)
  refine' wpAnyH_take (i := 0) ?h1x0r ?hsx0r ?hfx0r ?hrx0r ?hQx0r (Or.inl ⟨?hwx0r, ?hyx0r⟩) hS ?restx0r
  case h1x0r => (simp only [List.getElem?_toArray, List.getElem?_cons_zero]; rfl)
  case hsx0r | hfx0r | hrx0r => kernel_rfl
  case hQx0r => exact fun _ _ _ h => h
  case hwx0r => rfl
  case hyx0r =>
    intro W hW
    go_simp
    try with_reducible rfl
  simp only [Act.put, List.setIfInBounds_toArray, List.set_cons_succ, List.set_cons_zero]
  refine' wpAnyH_take (i := 1) ?h1x1r ?hsx1r ?hfx1r ?hrx1r ?hQx1r (Or.inl ⟨?hwx1r, ?hyx1r⟩) hS ?restx1r
  case h1x1r => (simp only [List.getElem?_toArray, List.getElem?_cons_succ, List.getElem?_cons_zero]; rfl)
  case hsx1r | hfx1r | hrx1r => kernel_rfl
  case hQx1r => exact fun _ _ _ h => h
  case hwx1r => rfl
  case hyx1r =>
    intro W hW
    go_simp
    try with_reducible rfl
  simp only [Act.put, List.setIfInBounds_toArray, List.set_cons_succ, List.set_cons_zero]
  refine' wpAnyH_take (i := 2) ?h1x2r ?hsx2r ?hfx2r ?hrx2r ?hQx2r (Or.inl ⟨?hwx2r, ?hyx2r⟩) hS ?restx2r
  case h1x2r => (simp only [List.getElem?_toArray, List.getElem?_cons_succ, List.getElem?_cons_zero]; rfl)
  case hsx2r | hfx2r | hrx2r => kernel_rfl
  case hQx2r => exact fun _ _ _ h => h
  case hwx2r => rfl
  case hyx2r =>
    intro W hW
    go_simp
    try with_reducible rfl
  simp only [Act.put, List.setIfInBounds_toArray, List.set_cons_succ, List.set_cons_zero]
  refine' wpAnyH_take (i := 3) ?h1x3r ?hsx3r ?hfx3r ?hrx3r ?hQx3r (Or.inl ⟨?hwx3r, ?hyx3r⟩) hS ?restx3r
  case h1x3r => (simp only [List.getElem?_toArray, List.getElem?_cons_succ, List.getElem?_cons_zero]; rfl)
  case hsx3r | hfx3r | hrx3r => kernel_rfl
  case hQx3r => exact fun _ _ _ h => h
  case hwx3r => rfl
  case hyx3r =>
    intro W hW
    have c2 := (hW.cell (p := ⟨g, 2, none⟩) (blk_lt HH2.out)).trans ((cell_of_row w2 g 2 _ _ _ HH2.out).trans (lc2 _ _ _ _))
    go_simp
    try with_reducible rfl
  simp only [Act.put, List.setIfInBounds_toArray, List.set_cons_succ, List.set_cons_zero]
  refine' wpAnyH_take (i := 4) ?h1x4r ?hsx4r ?hfx4r ?hrx4r ?hQx4r (Or.inl ⟨?hwx4r, ?hyx4r⟩) hS ?restx4r
  case h1x4r => (simp only [List.getElem?_toArray, List.getElem?_cons_succ, List.getElem?_cons_zero]; rfl)
  case hsx4r | hfx4r | hrx4r => kernel_rfl
  case hQx4r => exact fun _ _ _ h => h
  case hwx4r => rfl
  case hyx4r =>
    intro W hW
    go_simp
    try with_reducible rfl
  simp only [Act.put, List.setIfInBounds_toArray, List.set_cons_succ, List.set_cons_zero]
  refine' wpAnyH_take (i := 5) ?h1x5r ?hsx5r ?hfx5r ?hrx5r ?hQx5r (Or.inl ⟨?hwx5r, ?hyx5r⟩) hS ?restx5r
  case h1x5r => (simp only [List.getElem?_toArray, List.getElem?_cons_succ, List.getElem?_cons_zero]; rfl)
  case hsx5r | hfx5r | hrx5r => kernel_rfl
  case hQx5r => exact fun _ _ _ h => h
  case hwx5r => rfl
  case hyx5r =>
    intro W hW
    go_simp
    try with_reducible rfl
  simp only [Act.put, List.setIfInBounds_toArray, List.set_cons_succ, List.set_cons_zero]
  refine' wpAnyH_take (i := 6) ?h1x6r ?hsx6r ?hfx6r ?hrx6r ?hQx6r (Or.inl ⟨?hwx6r, ?hyx6r⟩) hS ?restx6r
  case h1x6r => (simp only [List.getElem?_toArray, List.getElem?_cons_succ, List.getElem?_cons_zero]; rfl)
  case hsx6r | hfx6r | hrx6r => kernel_rfl
  case hQx6r => exact fun _ _ _ h => h
  case hwx6r => rfl
  case hyx6r =>
    intro W hW
    go_simp
    try with_reducible rfl
  simp only [Act.put, List.setIfInBounds_toArray, List.set_cons_succ, List.set_cons_zero]
  refine' wpAnyH_take (i := 7) ?h1x7r ?hsx7r ?hfx7r ?hrx7r ?hQx7r (Or.inl ⟨?hwx7r, ?hyx7r⟩) hS ?restx7r
  case h1x7r => (simp only [List.getElem?_toArray, List.getElem?_cons_succ, List.getElem?_cons_zero]; rfl)
  case hsx7r | hfx7r | hrx7r => kernel_rfl
  case hQx7r => exact fun _ _ _ h => h
  case hwx7r => rfl
  case hyx7r =>
    intro W hW
    go_simp
    try with_reducible rfl
  simp only [Act.put, List.setIfInBounds_toArray, List.set_cons_succ, List.set_cons_zero]
  refine' wpAnyH_take (i := 8) ?h1x8r ?hsx8r ?hfx8r ?hrx8r ?hQx8r (Or.inl ⟨?hwx8r, ?hyx8r⟩) hS ?restx8r
  case h1x8r => (simp only [List.getElem?_toArray, List.getElem?_cons_succ, List.getElem?_cons_zero]; rfl)
  case hsx8r | hfx8r | hrx8r => kernel_rfl
  case hQx8r => exact fun _ _ _ h => h
  case hwx8r => rfl
  case hyx8r =>
    intro W hW
    go_simp
    try with_reducible rfl
  simp only [Act.put, List.setIfInBounds_toArray, List.set_cons_succ, List.set_cons_zero]
  refine' wpAnyH_take (i := 9) ?h1x9r ?hsx9r ?hfx9r ?hrx9r ?hQx9r (Or.inl ⟨?hwx9r, ?hyx9r⟩) hS ?restx9r
  case h1x9r => (simp only [List.getElem?_toArray, List.getElem?_cons_succ, List.getElem?_cons_zero]; rfl)
  case hsx9r | hfx9r | hrx9r => kernel_rfl
  case hQx9r => exact fun _ _ _ h => h
  case hwx9r => rfl
  case hyx9r =>
    intro W hW
    have c0 := (hW.cell (p := ⟨g, 0, none⟩) (blk_lt HH2.out)).trans ((cell_of_row w2 g 0 _ _ _ HH2.out).trans (lc0 _ _ _ _))
    go_simp
    try with_reducible rfl
  simp only [Act.put, List.setIfInBounds_toArray, List.set_cons_succ, List.set_cons_zero]
  refine' wpAnyH_take (i := 10) ?h1x10r ?hsx10r ?hfx10r ?hrx10r ?hQx10r (yieldsIf_load_at ?hwx10r 24 (.tmp 4) ?hopx10r w.heap.size 0 rfl (bcells k) _ (fun W hW => range_row ((hW.block _ (blk_lt GB2.out)).trans GB2.out)) Tryd.underlying24 rfl ?hix10r) hS ?restx10r
  case h1x10r => (simp only [List.getElem?_toArray, List.getElem?_cons_succ, List.getElem?_cons_zero]; rfl)
  case hopx10r => rfl
  case hsx10r | hfx10r | hrx10r => kernel_rfl
  case hQx10r => exact fun _ _ _ h => h
  case hwx10r => rfl
  case hix10r => exact IK.out
  simp only [Act.put, List.setIfInBounds_toArray, List.set_cons_succ, List.set_cons_zero]
  refine' wpAnyH_take (i := 11) ?h1x11r ?hsx11r ?hfx11r ?hrx11r ?hQx11r (Or.inl ⟨?hwx11r, ?hyx11r⟩) hS ?restx11r
  case h1x11r => (simp only [List.getElem?_toArray, List.getElem?_cons_succ, List.getElem?_cons_zero]; rfl)
  case hsx11r | hfx11r | hrx11r => kernel_rfl
  case hQx11r => exact fun _ _ _ h => h
  case hwx11r => rfl
  case hyx11r =>
    intro W hW
    have lk := HLK.out W hW
    go_simp
    try with_reducible rfl
  simp only [Act.put, List.setIfInBounds_toArray, List.set_cons_succ, List.set_cons_zero]
  refine' wpAnyH_take (i := 12) ?h1x12r ?hsx12r ?hfx12r ?hrx12r ?hQx12r (Or.inl ⟨?hwx12r, ?hyx12r⟩) hS ?restx12r
  case h1x12r => (simp only [List.getElem?_toArray, List.getElem?_cons_succ, List.getElem?_cons_zero]; rfl)
  case hsx12r | hfx12r | hrx12r => kernel_rfl
  case hQx12r => exact fun _ _ _ h => h
  case hwx12r => rfl
  case hyx12r =>
    intro W hW
    go_simp
    try with_reducible rfl
  simp only [Act.put, List.setIfInBounds_toArray, List.set_cons_succ, List.set_cons_zero]
  refine' wpAnyH_take (i := 13) ?h1x13r ?hsx13r ?hfx13r ?hrx13r ?hQx13r (Or.inl ⟨?hwx13r, ?hyx13r⟩) hS ?restx13r
  case h1x13r => (simp only [List.getElem?_toArray, List.getElem?_cons_succ, List.getElem?_cons_zero]; rfl)
  case hsx13r | hfx13r | hrx13r => kernel_rfl
  case hQx13r => exact fun _ _ _ h => h
  case hwx13r => rfl
  case hyx13r =>
    intro W hW
    have hn0 := HN0P.out
    go_simp
    try with_reducible rfl
  simp only [Act.put, List.setIfInBounds_toArray, List.set_cons_succ, List.set_cons_zero]
  refine' wpAnyH_take (i := 14) ?h1x14r ?hsx14r ?hfx14r ?hrx14r ?hQx14r (Or.inl ⟨?hwx14r, ?hyx14r⟩) hS ?restx14r
  case h1x14r => (simp only [List.getElem?_toArray, List.getElem?_cons_succ, List.getElem?_cons_zero]; rfl)
  case hsx14r | hfx14r | hrx14r => kernel_rfl
  case hQx14r => exact fun _ _ _ h => h
  case hwx14r => rfl
  case hyx14r =>
    intro W hW
    go_simp
    try with_reducible rfl
  simp only [Act.put, List.setIfInBounds_toArray, List.set_cons_succ, List.set_cons_zero]
  refine wpAnyH_done (by kernel_rfl) ?_ _
  clear hS
  obtain ⟨Y, hYd⟩ : ∃ Y, Y = w2.drew := ⟨_, rfl⟩
  have BY : Hid (Below w.heap.size w Y) := by rw [hYd]; exact B2.out.drew
  have HHY : Hid (Y.heap[g]? = some (.cells (lcells mb n false C) 108 (0, 0))) := by rw [hYd]; exact HH2.out
  have GBY : Hid (Y.heap[w.heap.size]? = some (.cells (bcells k) 24 (0, 0))) := by rw [hYd]; exact GB2.out
  have HMY : Hid (MapV Tryd.prog 24 Y mb s f) := by rw [hYd]; exact HM2.out.same rfl
  rw [← hYd]
  clear hYd
  have WNG : Hid (w.heap.size ≠ g) := by have := HGL.out; show _ ≠ _; omega
  have WBO : Hid (∀ u : Value, (Y.setCell ⟨g, 2, none⟩ u).drew.heap[w.heap.size]? = Y.heap[w.heap.size]?) := fun u => heap_setCell_other _ _ _ _ (by simpa using WNG.out)
  have HG5 : Hid ((Y.setCell ⟨g, 2, none⟩ (.bool true)).drew.heap[g]? = some (.cells (lcells mb n true C) 108 (0, 0))) := (heap_setCell_same _ _ _ _ _ _ HHY.out).trans (by rw [lset2])
  have WB8 : Hid (((Y.setCell ⟨g, 2, none⟩ (.bool true)).drew.setRow g (lcells mb n true k)).heap[w.heap.size]? = Y.heap[w.heap.size]?) := (setRow_other _ g _ _ WNG.out).trans (WBO.out _)
  have HG8' : Hid (((Y.setCell ⟨g, 2, none⟩ (.bool true)).drew.setRow g (lcells mb n true k)).heap[g]? = some (.cells (lcells mb n true k) 108 (0, 0))) := setRow_heap _ _ _ _ _ _ HG5.out
  have hn0 := HN0P.out
  go_wp2_with fail
  clear hn0
  refine wp_region_held_drew (S := fun W => W.heap[w.heap.size]? = Y.heap[w.heap.size]?) (by kernel_rfl) rfl (fun hS => ?_)
  refine' wpAnyH_take (i := 0) ?h1x0q ?hsx0q ?hfx0q ?hrx0q ?hQx0q (Or.inl ⟨?hwx0q, ?hyx0q⟩) hS ?restx0q
  case h1x0q => (simp only [List.getElem?_toArray, List.getElem?_cons_zero]; rfl)
  case hsx0q | hfx0q | hrx0q => kernel_rfl
  case hQx0q => exact fun _ _ _ h => h
  case hwx0q => rfl
  case hyx0q =>
    intro W hW
    go_simp
    try with_reducible rfl
  simp only [Act.put, List.setIfInBounds_toArray, List.set_cons_succ, List.set_cons_zero]
  refine' wpAnyH_take (i := 1) ?h1x1q ?hsx1q ?hfx1q ?hrx1q ?hQx1q (Or.inl ⟨?hwx1q, ?hyx1q⟩) hS ?restx1q
  case h1x1q => (simp only [List.getElem?_toArray, List.getElem?_cons_succ, List.getElem?_cons_zero]; rfl)
  case hsx1q | hfx1q | hrx1q => kernel_rfl
  case hQx1q => exact fun _ _ _ h => h
  case hwx1q => rfl
  case hyx1q =>
    intro W hW
    go_simp
    try with_reducible rfl
  simp only [Act.put, List.setIfInBounds_toArray, List.set_cons_succ, List.set_cons_zero]
  refine' wpAnyH_take (i := 2) ?h1x2q ?hsx2q ?hfx2q ?hrx2q ?hQx2q (yieldsIf_load_at ?hwx2q 24 (.tmp 4) ?hopx2q w.heap.size 0 rfl (bcells k) _ (fun W hW => range_row (hW.trans GBY.out)) Tryd.underlying24 rfl ?hix2q) hS ?restx2q
  case h1x2q => (simp only [List.getElem?_toArray, List.getElem?_cons_succ, List.getElem?_cons_zero]; rfl)
  case hopx2q => rfl
  case hsx2q | hfx2q | hrx2q => kernel_rfl
  case hQx2q => exact fun _ _ _ h => h
  case hwx2q => rfl
  case hix2q => exact IK.out
  simp only [Act.put, List.setIfInBounds_toArray, List.set_cons_succ, List.set_cons_zero]
  refine' wpAnyH_take (i := 3) ?h1x3q ?hsx3q ?hfx3q ?hrx3q ?hQx3q (Or.inl ⟨?hwx3q, ?hyx3q⟩) hS ?restx3q
  case h1x3q => (simp only [List.getElem?_toArray, List.getElem?_cons_succ, List.getElem?_cons_zero]; rfl)
  case hsx3q | hfx3q | hrx3q => kernel_rfl
  case hQx3q => exact fun _ _ _ h => h
  case hwx3q => rfl
  case hyx3q =>
    intro W hW
    go_simp
    try with_reducible rfl
  simp only [Act.put, List.setIfInBounds_toArray, List.set_cons_succ, List.set_cons_zero]
  refine' wpAnyH_take (i := 4) ?h1x4q ?hsx4q ?hfx4q ?hrx4q ?hQx4q (Or.inl ⟨?hwx4q, ?hyx4q⟩) hS ?restx4q
  case h1x4q => (simp only [List.getElem?_toArray, List.getElem?_cons_succ, List.getElem?_cons_zero]; rfl)
  case hsx4q | hfx4q | hrx4q => kernel_rfl
  case hQx4q => exact fun _ _ _ h => h
  case hwx4q => rfl
  case hyx4q =>
    intro W hW
    go_simp
    try with_reducible rfl
  simp only [Act.put, List.setIfInBounds_toArray, List.set_cons_succ, List.set_cons_zero]
  refine wpAnyH_ready (rs := [5]) (by kernel_rfl) (by simp) ?_
  refine' AllReadyH.cons ?hoc5q (fun K hK => ?stc5q) AllReadyH.nil
  case hoc5q => (simp only [List.getElem?_toArray, List.getElem?_cons_succ, List.getElem?_cons_zero]; rfl)
  have c2 : Y.drew.cell? ⟨g, 2, none⟩ = some (.bool false) := (cell_of_row Y.drew g 2 _ _ _ HHY.out).trans (lc2 _ _ _ _)
  have fz := frozen_of_row Y.drew g 2 _ 108 HHY.out
  go_simp
  refine hK.out _ _ (WBO.out _) (fun hHeld => ?_)
  clear hK K
  try simp only [Act.put]
  clear hS
  have hS := hHeld
  clear hHeld
  clear c2 fz
  refine' wpAnyH_take (i := 6) ?h1x6q ?hsx6q ?hfx6q ?hrx6q ?hQx6q (Or.inl ⟨?hwx6q, ?hyx6q⟩) hS ?restx6q
  case h1x6q => (simp only [List.getElem?_toArray, List.getElem?_cons_succ, List.getElem?_cons_zero]; rfl)
  case hsx6q | hfx6q | hrx6q => kernel_rfl
  case hQx6q => exact fun _ _ _ h => h
  case hwx6q => rfl
  case hyx6q =>
    intro W hW
    go_simp
    try with_reducible rfl
  simp only [Act.put, List.setIfInBounds_toArray, List.set_cons_succ, List.set_cons_zero]
  refine' wpAnyH_take (i := 7) ?h1x7q ?hsx7q ?hfx7q ?hrx7q ?hQx7q (Or.inl ⟨?hwx7q, ?hyx7q⟩) hS ?restx7q
  case h1x7q => (simp only [List.getElem?_toArray, List.getElem?_cons_succ, List.getElem?_cons_zero]; rfl)
  case hsx7q | hfx7q | hrx7q => kernel_rfl
  case hQx7q => exact fun _ _ _ h => h
  case hwx7q => rfl
  case hyx7q =>
    intro W hW
    go_simp
    try with_reducible rfl
  simp only [Act.put, List.setIfInBounds_toArray, List.set_cons_succ, List.set_cons_zero]
  refine wpAnyH_ready (rs := [8]) (by kernel_rfl) (by simp) ?_
  refine' AllReadyH.cons ?hoc8q (fun K hK => ?stc8q) AllReadyH.nil
  case hoc8q => (simp only [List.getElem?_toArray, List.getElem?_cons_succ, List.getElem?_cons_zero]; rfl)
  rw [if_pos (by rfl)]
  refine wp_store_at 24 (.tmp 31) (.tmp 27) rfl g 3 (bcells k) rfl rfl 108 (lcells mb n true C) HG5.out IK.out HFIT.out HONE.out ?_
  rw [HSPL.out]
  refine hK.out _ _ WB8.out (fun hHeld => ?_)
  clear hK K
  try simp only [Act.put]
  clear hS
  have hS := hHeld
  clear hHeld
  refine wpAnyH_done (by kernel_rfl) ?_ _
  clear hS
  obtain ⟨X, hX⟩ : ∃ X, X = ((Y.setCell ⟨g, 2, none⟩ (.bool true)).drew.setRow g (lcells mb n true k)) := ⟨_, rfl⟩
  have MYX : Mods (fun q => q = g) Y X := by
    rw [hX]
    exact ⟨rfl, rfl, rfl, by simp, fun j _ hj => by
      have hj' : j ≠ g := hj
      rw [setRow_other _ g j _ hj']
      exact heap_setCell_other _ _ _ _ (by simpa using hj')⟩
  have HMX : Hid (Mods (fun q => q = g) w X) := (Mods.of_below (S := fun q => q = g) BY.out).trans MYX (fun q e => .inl e)
  have HXg : Hid (X.heap[g]? = some (.cells (lcells mb n true k) 108 (0, 0))) := by rw [hX]; exact HG8'.out
  have HXb : Hid (X.heap[w.heap.size]? = some (.cells (bcells k) 24 (0, 0))) := by rw [hX]; exact WB8.out.trans GBY.out
  have HMP0 : Hid (MapV Tryd.prog 24 X mb s f) := HMY.out.same (MYX.block mb HMY.out.lt (fun e => HGM.out (by have e' : mb = g := e; exact e'.symm)))
  rw [← hX]
  clear hX MYX
  have MX := Lib.hid HMX.out
  have HSO : Hid (∀ W : World, Mods (fun j => j = mb) X W → W.heap[g]? = X.heap[g]? ∧ W.heap[w.heap.size]? = X.heap[w.heap.size]?) := fun W hW => ⟨hW.block g (blk_lt HXg.out) (fun e => HGM.out e), hW.block _ (blk_lt HXb.out) (fun e => by have e' : w.heap.size = mb := e; have := HML.out; omega)⟩
  have HRX := Lib.hid (RX0.out X MX.out)
  have HXM := Lib.hid (XM0.out X MX.out)
  have HVF := Lib.hid (fun W hW => HVG.out X W MX.out hW)
  have HC0 : Hid (∀ W : World, (W.heap[g]? = X.heap[g]? ∧ W.heap[w.heap.size]? = X.heap[w.heap.size]?) → W.cell? ⟨g, 0, none⟩ = some (.map (some mb))) := fun W hW => (cell_of_row W g 0 _ _ _ (hW.1.trans HXg.out)).trans (lc0 _ _ _ _)
  have HS7 : Hid (∀ W W7 : World, Mods (fun j => j = mb) X W → (W.heap[g]? = X.heap[g]? ∧ W.heap[w.heap.size]? = X.heap[w.heap.size]?) → (∀ j, V0.ownBlock ≠ some j → j < W.heap.size → W7.heap[j]? = W.heap[j]?) → W7.heap[g]? = X.heap[g]? ∧ W7.heap[w.heap.size]? = X.heap[w.heap.size]?) := fun W W7 hY hS h7 =>
    ⟨(h7 g HVQ.out.1 (Nat.lt_of_lt_of_le (blk_lt HXg.out) hY.size)).trans hS.1, (h7 _ (fun e => by have := HVQ.out.2 _ e; omega) (Nat.lt_of_lt_of_le (blk_lt HXb.out) hY.size)).trans hS.2⟩
  have HS8 : Hid (∀ W7 W8 : World, (W7.heap[g]? = X.heap[g]? ∧ W7.heap[w.heap.size]? = X.heap[w.heap.size]?) → Mods (fun j => j = mb) W7 W8 → W8.heap[g]? = X.heap[g]? ∧ W8.heap[w.heap.size]? = X.heap[w.heap.size]?) := fun W7 W8 hS hm =>
    ⟨(hm.block g (blk_lt (hS.1.trans HXg.out)) (fun e => HGM.out e)).trans hS.1, (hm.block _ (blk_lt (hS.2.trans HXb.out)) (fun e => by have e' : w.heap.size = mb := e; have := HML.out; omega)).trans hS.2⟩
  have HKF := Lib.hid (KEY.out X MX.out HXg.out)
  have HG8 : Hid (∀ W8 : World, (W8.heap[g]? = X.heap[g]? ∧ W8.heap[w.heap.size]? = X.heap[w.heap.size]?) → W8.heap[g]? = some (.cells (lcells mb n true k) 108 (0, 0))) := fun W8 hS => hS.1.trans HXg.out
  clear KEY RX0 MX0 XM0 HVG
  go_wp2_with fail
  refine wp_region_held_drew (S := fun W => W.heap[g]? = X.heap[g]? ∧ W.heap[w.heap.size]? = X.heap[w.heap.size]?) (by kernel_rfl) (HSO.out _ (Mods.of_below (Below.refl _ _).drew)) (fun hS => ?_)
  have hY : Mods (fun j => j = mb) X X.drew := Mods.of_below (Below.refl _ _).drew
  have hxm : X.drew.heap[mb]? = X.heap[mb]? := rfl
  refine' wpAnyH_take (i := 0) ?h1x0t ?hsx0t ?hfx0t ?hrx0t ?hQx0t (Or.inl ⟨?hwx0t, ?hyx0t⟩) hS ?restx0t
  case h1x0t => (simp only [List.getElem?_toArray, List.getElem?_cons_zero]; rfl)
  case hsx0t | hfx0t | hrx0t => kernel_rfl
  case hQx0t => exact fun _ _ _ h => h
  case hwx0t => rfl
  case hyx0t =>
    intro W hW
    go_simp
    try with_reducible rfl
  simp only [Act.put, List.setIfInBounds_toArray, List.set_cons_succ, List.set_cons_zero]
  refine' wpAnyH_take (i := 1) ?h1x1t ?hsx1t ?hfx1t ?hrx1t ?hQx1t (Or.inl ⟨?hwx1t, ?hyx1t⟩) hS ?restx1t
  case h1x1t => (simp only [List.getElem?_toArray, List.getElem?_cons_succ, List.getElem?_cons_zero]; rfl)
  case hsx1t | hfx1t | hrx1t => kernel_rfl
  case hQx1t => exact fun _ _ _ h => h
  case hwx1t => rfl
  case hyx1t =>
    intro W hW
    go_simp
    try with_reducible rfl
  simp only [Act.put, List.setIfInBounds_toArray, List.set_cons_succ, List.set_cons_zero]
  refine' wpAnyH_take (i := 2) ?h1x2t ?hsx2t ?hfx2t ?hrx2t ?hQx2t (Or.inl ⟨?hwx2t, ?hyx2t⟩) hS ?restx2t
  case h1x2t => (simp only [List.getElem?_toArray, List.getElem?_cons_succ, List.getElem?_cons_zero]; rfl)
  case hsx2t | hfx2t | hrx2t => kernel_rfl
  case hQx2t => exact fun _ _ _ h => h
  case hwx2t => rfl
  case hyx2t =>
    intro W hW
    go_simp
    try with_reducible rfl
  simp only [Act.put, List.setIfInBounds_toArray, List.set_cons_succ, List.set_cons_zero]
  refine' wpAnyH_take (i := 3) ?h1x3t ?hsx3t ?hfx3t ?hrx3t ?hQx3t (Or.inl ⟨?hwx3t, ?hyx3t⟩) hS ?restx3t
  case h1x3t => (simp only [List.getElem?_toArray, List.getElem?_cons_succ, List.getElem?_cons_zero]; rfl)
  case hsx3t | hfx3t | hrx3t => kernel_rfl
  case hQx3t => exact fun _ _ _ h => h
  case hwx3t => rfl
  case hyx3t =>
    intro W hW
    have c0 := HC0.out _ hW
    go_simp
    try with_reducible rfl
  simp only [Act.put, List.setIfInBounds_toArray, List.set_cons_succ, List.set_cons_zero]
  refine' wpAnyH_take (i := 4) ?h1x4t ?hsx4t ?hfx4t ?hrx4t ?hQx4t (yieldsIf_load_at ?hwx4t 24 (.tmp 4) ?hopx4t w.heap.size 0 rfl (bcells k) _ (fun W hW => range_row (hW.2.trans HXb.out)) Tryd.underlying24 rfl ?hix4t) hS ?restx4t
  case h1x4t => (simp only [List.getElem?_toArray, List.getElem?_cons_succ, List.getElem?_cons_zero]; rfl)
  case hopx4t => rfl
  case hsx4t | hfx4t | hrx4t => kernel_rfl
  case hQx4t => exact fun _ _ _ h => h
  case hwx4t => rfl
  case hix4t => exact IK.out
  simp only [Act.put, List.setIfInBounds_toArray, List.set_cons_succ, List.set_cons_zero]
  refine' wpAnyH_take (i := 5) ?h1x5t ?hsx5t ?hfx5t ?hrx5t ?hQx5t (Or.inl ⟨?hwx5t, ?hyx5t⟩) hS ?restx5t
  case h1x5t => (simp only [List.getElem?_toArray, List.getElem?_cons_succ, List.getElem?_cons_zero]; rfl)
  case hsx5t | hfx5t | hrx5t => kernel_rfl
  case hQx5t => exact fun _ _ _ h => h
  case hwx5t => rfl
  case hyx5t =>
    intro W hW
    go_simp
    try with_reducible rfl
  simp only [Act.put, List.setIfInBounds_toArray, List.set_cons_succ, List.set_cons_zero]
  refine wpAnyH_ready (rs := [6]) (by kernel_rfl) (by simp) ?_
  refine' AllReadyH.cons ?hoc6w1 (fun K hK => ?stc6w1) AllReadyH.nil
  case hoc6w1 => (simp only [List.getElem?_toArray, List.getElem?_cons_succ, List.getElem?_cons_zero]; rfl)
  go_simp
  refine (cloneB v b HLB.out _ (HVF.out _ hY)).mono ?_
  rintro e Wc ⟨u0, rfl, ⟨xu, cu, rfl⟩, ho, hb⟩
  have hYc := hY.trans (Mods.of_below (S := fun j => j = mb) hb) (fun j e => .inl e)
  have hou : OU X.heap.size Wc (.slice xu b.length cu) b := ou_own ho hY.size
  have hxmc : Wc.heap[mb]? = X.heap[mb]? := (hb.block mb (blk_lt (hxm.trans HXM.out.choose_spec.choose_spec))).trans hxm
  go_wp2_with fail
  refine hK.out _ _ (HSO.out _ hYc) (fun hHeld => ?_)
  clear hK K
  try simp only [Act.put, List.setIfInBounds_toArray, List.set_cons_succ, List.set_cons_zero]
  clear hS
  have hS := hHeld
  clear hHeld
  clear hY hxm
  have hY := hYc
  have hxm := hxmc
  clear hYc ho hb hxmc
  refine wpAnyH_ready (rs := [7]) (by kernel_rfl) (by simp) ?_
  refine' AllReadyH.cons ?hoc7w1 (fun K hK => ?stc7w1) AllReadyH.nil
  case hoc7w1 => (simp only [List.getElem?_toArray, List.getElem?_cons_succ, List.getElem?_cons_zero]; rfl)
  go_simp
  have bal : Below Wc.heap.size Wc (Wc.alloc (.cells #[(.slice xu b.length cu)] 37)) := (Below.refl _ _).alloc (Nat.le_refl _) _
  have hYb := hY.trans (Mods.of_below (S := fun j => j = mb) bal) (fun j e => .inl e)
  have hbq : (Wc.alloc (.cells #[(.slice xu b.length cu)] 37)).heap[Wc.heap.size]? = some (.cells #[(.slice xu b.length cu)] 37 (0, 0)) := heap_alloc_new Wc _
  have hxmb : (Wc.alloc (.cells #[(.slice xu b.length cu)] 37)).heap[mb]? = X.heap[mb]? := (bal.block mb (blk_lt (hxm.trans HXM.out.choose_spec.choose_spec))).trans hxm
  have hou2 : OU X.heap.size (Wc.alloc (.cells #[(.slice xu b.length cu)] 37)) (.slice xu b.length cu) b := hou.step (fun q cs t e _ => bal.block q (blk_lt e)) bal.size
  obtain ⟨Wb, hWb⟩ : ∃ Wb, Wb = (Wc.alloc (.cells #[(.slice xu b.length cu)] 37)) := ⟨_, rfl⟩
  refine hK.out _ _ (HSO.out _ hYb) (fun hHeld => ?_)
  clear hK K
  try simp only [Act.put, List.setIfInBounds_toArray, List.set_cons_succ, List.set_cons_zero]
  clear hS
  have hS := hHeld
  clear hHeld
  rw [← hWb] at hYb hbq hou2 hS hxmb ⊢
  clear hY hou bal hWb hxm
  have hY := hYb
  have hou := hou2
  have hxm := hxmb
  obtain ⟨q0, hq0⟩ : ∃ q0, q0 = Wc.heap.size := ⟨_, rfl⟩
  rw [← hq0] at hbq ⊢
  clear hYb hou2 hq0 hxmb
  refine wpAnyH_ready (rs := [8]) (by kernel_rfl) (by simp) ?_
  refine' AllReadyH.cons ?hoc8w1 (fun K hK => ?stc8w1) AllReadyH.nil
  case hoc8w1 => (simp only [List.getElem?_toArray, List.getElem?_cons_succ, List.getElem?_cons_zero]; rfl)
  obtain ⟨st, We, hre, hme, hse, hmw, hen⟩ := (HMP0.out.same hxm).entry law31 Tryd.underlying106 HSM.out HZS.out HKL.out
  rw [← HV0.out] at hre
  have hYe := hY.trans hme (fun j e => .inl e)
  have hnm : ∀ (q : Nat) (cs : Array Value) (t : TypeId), Wb.heap[q]? = some (.cells cs t (0, 0)) → ¬ q = mb := fun q cs t e e2 => by
    obtain ⟨es, c, e3⟩ := HXM.out
    rw [← hxm, ← e2, e] at e3
    cases e3
  have hou2 : OU X.heap.size We (.slice xu b.length cu) b := hou.step (fun q cs t e _ => hme.block q (blk_lt e) (hnm q cs t e)) (Nat.le_of_eq hse.symm)
  have hbq2 : We.heap[q0]? = some (.cells #[(.slice xu b.length cu)] 37 (0, 0)) := (hme.block q0 (blk_lt hbq) (hnm q0 _ _ hbq)).trans hbq
  refine step_entry rfl 106 (.tmp 35) (.tmp 36) rfl rfl rfl hre ?_
  refine hK.out _ _ (HSO.out _ hYe) (fun hHeld => ?_)
  clear hK K
  try simp only [Act.put, List.setIfInBounds_toArray, List.set_cons_succ, List.set_cons_zero]
  clear hS
  have hS := hHeld
  clear hHeld
  clear hY
  have hY := hYe
  clear hYe hre hme hse hnm hxm
  have hen' : EN mb s f k st We := hen
  clear hen
  have hen := hen'
  clear hen'
  clear hou
  have hou := hou2
  clear hou2
  clear hbq
  have hbq := hbq2
  clear hbq2
  refine' wpAnyH_take (i := 9) ?h1x9w1 ?hsx9w1 ?hfx9w1 ?hrx9w1 ?hQx9w1 (Or.inl ⟨?hwx9w1, ?hyx9w1⟩) hS ?restx9w1
  case h1x9w1 => (simp only [List.getElem?_toArray, List.getElem?_cons_succ, List.getElem?_cons_zero]; rfl)
  case hsx9w1 | hfx9w1 | hrx9w1 => kernel_rfl
  case hQx9w1 => exact fun _ _ _ h => h
  case hwx9w1 => rfl
  case hyx9w1 =>
    intro W hW
    go_simp
    try with_reducible rfl
  simp only [Act.put, List.setIfInBounds_toArray, List.set_cons_succ, List.set_cons_zero]
  refine' wpAnyH_take (i := 11) ?h1x11w1 ?hsx11w1 ?hfx11w1 ?hrx11w1 ?hQx11w1 (Or.inl ⟨?hwx11w1, ?hyx11w1⟩) hS ?restx11w1
  case h1x11w1 => (simp only [List.getElem?_toArray, List.getElem?_cons_succ, List.getElem?_cons_zero]; rfl)
  case hsx11w1 | hfx11w1 | hrx11w1 => kernel_rfl
  case hQx11w1 => exact fun _ _ _ h => h
  case hwx11w1 => rfl
  case hyx11w1 =>
    intro W hW
    go_simp
    try with_reducible rfl
  simp only [Act.put, List.setIfInBounds_toArray, List.set_cons_succ, List.set_cons_zero]
  refine wpAnyH_ready (rs := [10]) (by kernel_rfl) (by simp) ?_
  refine' AllReadyH.cons ?hoc10w1a (fun K hK => ?stc10w1a) AllReadyH.nil
  case hoc10w1a => (simp only [List.getElem?_toArray, List.getElem?_cons_succ, List.getElem?_cons_zero]; rfl)
  obtain ⟨v', W7, hra, h7, W8, hrs, hm8, hfin⟩ := tail_fin hY HRX.out HXM.out HN0.out hmw hou ⟨_, _, _, rfl⟩ hbq hen
  refine step_appR rfl 55 (.tmp 37) (.tmp 40) rfl rfl rfl rfl hra ?_
  refine hK.out _ _ (HS7.out _ _ hY hS h7) (fun hHeld => ?_)
  clear hK K
  try simp only [Act.put, List.setIfInBounds_toArray, List.set_cons_succ, List.set_cons_zero]
  clear hS
  have hS := hHeld
  clear hHeld
  refine wpAnyH_ready (rs := [12]) (by kernel_rfl) (by simp) ?_
  refine' AllReadyH.cons ?hoc12w1b (fun K hK => ?stc12w1b) AllReadyH.nil
  case hoc12w1b => (simp only [List.getElem?_toArray, List.getElem?_cons_succ, List.getElem?_cons_zero]; rfl)
  refine step_estore rfl 106 (.tmp 35) (.tmp 43) (.tmp 42) rfl rfl rfl rfl hrs ?_
  refine hK.out _ _ (HS8.out _ _ hS hm8) (fun hHeld => ?_)
  clear hK K
  try simp only [Act.put]
  clear hS
  have hS := hHeld
  clear hHeld
  refine wpAnyH_done (by kernel_rfl) ?_ _
  have FIN := Lib.hid hfin
  have HS8F := Lib.hid hS
  clear hY hen hmw hou hbq hra hrs hm8 hfin hS h7
  have KF := Lib.hid (HKF.out _ _ _ FIN.out)
  have g8 := HG8.out _ HS8F.out
  have c1 := (cell_of_row W8 g 1 _ _ _ g8).trans (lc1 _ _ _ _)
  have fz := frozen_of_row W8 g 1 _ 108 g8
  clear g8
  go_wp2_with fail
  go_end0
  exact KF.out
theorem keep (S : Nat → Prop) (g : Nat) (T : List (List Int)) (b : List Int) (v : Value) (w : World) (h : LG S w g T) (hb : Byt b) (hlen : b.length ≤ 140737488351232) (hv : Sees w v b) (hvS : ∀ q, b ≠ [] → v.ownBlock = some q → ¬ S q) (hT : T.length ≤ 999999) :
    Calls Tryd.prog 48 #[.pointer (some ⟨g, 0, none⟩), .agg (bcells (sha b)), v] w (KeepP S w g T b) := by
  obtain ⟨mb, s, f, C, h⟩ := h
  by_cases hm : b ∈ T
  · refine (keepOld S g mb s T f C b v w h hb hv hT hm).mono fun e w' ⟨he, hbw⟩ => ⟨he, ?_, Mods.of_below hbw⟩
    have ad : addT T b = T := by unfold addT; rw [if_pos hm]
    rw [ad]
    exact ⟨mb, s, f, C, (h.same (fun q hq => hbw.block q (h.own q hq).2) hbw.size).wider (fun q hq => .inl hq) (fun q hq => by
      rcases hq with hq | hq
      · have := h.own q hq
        have := hbw.size
        omega
      · have := h.own g h.sg
        omega)⟩
  · cases hc : clk sha T with
    | some c => exact keepA S g mb s T f C b v w h hb hlen hv hvS hT hm c hc
    | none =>
      by_cases hR : ofSum sha T (sha b) = []
      · exact keepB S g mb s T f C b v w h hb hlen hv hvS hT hm hc hR
      · exact keepC S g mb s T f C b v w h hb hlen hv hvS hT hm hc (List.length_pos_iff.2 hR)
end Go.Proofs.YtjdamlmoegippaaDoor.hl
