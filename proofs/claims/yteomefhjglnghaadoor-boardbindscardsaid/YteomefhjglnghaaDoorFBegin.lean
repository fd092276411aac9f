/- The walk of begin: a folder for a text behind a key. -/
import Derived.Test.YteomefhjglnghaaDoorFEnd
set_option linter.unusedSimpArgs false
set_option linter.unusedVariables false
set_option maxRecDepth 100000
namespace Go.Proofs.YteomefhjglnghaaDoor.F
open Go.RowKit

def zeroF : Fol := ⟨List.replicate 8 0, List.replicate 64 0, 0, 0⟩
def startF : Fol := ⟨staL, List.replicate 64 0, 0, 0⟩
/-- The words that a key's length begins with. -/
def hK (n : Nat) : List UInt32 := staL.set 0 (uxor 1779033703 (UInt32.ofNat (16842784 + 256 * n)))
theorem hK_length (n : Nat) : (hK n).length = 8 := by simp [hK, staL]
def beginF (key : List UInt8) : Fol := if key.length = 0 then ⟨hK 0, List.replicate 64 0, 0, 0⟩ else ⟨hK key.length, pad64 key, 64, 64⟩
theorem zeroF_ok : zeroF.ok := ⟨by decide, by decide, by decide, by decide⟩
theorem startF_ok : startF.ok := ⟨by decide, by decide, by decide, by decide⟩
theorem size59 : (Tryd.prog.info? 84).map (·.size) = some 74 := by kernel_rfl
theorem folC_one (f : Fol) : (folC f).toArray.all (·.oneCell') = true := all_oneCell_toArray (fun v hv => by
  simp only [folC, List.mem_append, List.mem_map, List.mem_cons, List.not_mem_nil, or_false] at hv
  rcases hv with ⟨x, _, rfl⟩ | ⟨x, _, rfl⟩ | rfl | rfl <;> rfl)
theorem FAt.new (w : World) (f : Fol) : FAt (w.alloc (.cells (folC f).toArray 84)) w.heap.size f := by
  show (w.heap.push _)[w.heap.size]? = _
  simp
theorem FAt.all {w : World} {b : Nat} {f : Fol} (h : FAt w b f) : w.rangeAt b 0 (folC f) := by
  intro j v hv
  rw [Nat.zero_add, h.cell]; exact hv
theorem FAt.setAll {w : World} {b : Nat} {f : Fol} (h : FAt w b f) (ok : f.ok) (g : Fol) (okg : g.ok) : FAt (w.setCells b 0 (folC g)) b g := by
  have := block_setCells (w := w) (folC g) 0 (folC f) w h (by rw [folC_length okg, folC_length ok]; omega)
  unfold FAt
  rw [this]
  congr 3
  rw [List.take_zero, List.nil_append, List.drop_of_length_le (by rw [folC_length okg, folC_length ok]; omega), List.append_nil]
theorem FAt.setWord {w : World} {b : Nat} {f : Fol} (h : FAt w b f) (ok : f.ok) (i : Nat) (hi : i < 8) (x : UInt32) : FAt (w.setCell ⟨b, i, none⟩ (U x)) b { f with h := f.h.set i x } := by
  have l1 : (f.h.map U).length = 8 := by simp [ok.1]
  unfold FAt at *
  simp only [World.setCell, Array.getElem?_modify, if_true, h, Option.map_some]
  congr 2
  simp only [folC, List.setIfInBounds_toArray, Option.isSome_none, Bool.false_eq_true, if_false]
  rw [List.set_append, if_pos (by omega), List.map_set]
theorem zeroValue59 (w : World) : (Go.zeroValue 84).run Tryd.prog w = .ok (.agg (folC zeroF).toArray) w := by
  have h : (Tryd.prog.info? 84).map (·.zero) = some (some (.agg (folC zeroF).toArray)) := by kernel_rfl
  cases hq : Tryd.prog.info? 84 with
  | none => simp [hq] at h
  | some i =>
    have : i.zero = some (.agg (folC zeroF).toArray) := by simpa [hq] using h
    simp [zeroValue, typeInfo, hq, this]
theorem beginF_ok (key : List UInt8) (h : key.length ≤ 64) : (beginF key).ok := by
  unfold beginF
  split
  · exact ⟨hK_length 0, by simp, by simp, by simp⟩
  · exact ⟨hK_length _, pad64_length _ h, by simp, by simp⟩

theorem fold59 : Array.foldl (fun cs (x : Value × Nat) => cs.setIfInBounds x.snd x.fst) (folC zeroF).toArray (arr staL).zipIdx 0 8 = (folC startF).toArray := by kernel_rfl
theorem FAt.thereAll {w : World} {b : Nat} {f : Fol} (h : FAt w b f) (ok : f.ok) : w.there b 0 74 := h.there ok 0 74 (by omega)

set_option maxRecDepth 100000 in
set_option maxHeartbeats 1000000 in
theorem begin_any (key : ByteArray) (hk : key.size ≤ 64) (w : World) (hT : Tabs w) (hS : Starts w) :
    Calls Tryd.prog 44 #[.string key] w fun e w' => e = .returned (.agg (folC (beginF key.data.toList)).toArray) ∧ Below w.heap.size w w' := by
  have hz59 := zeroValue59
  have i59 : (Tryd.prog.info? 84).map (·.size) = some (folC startF).toArray.size := by rw [size59]; rfl
  have i27 : (Tryd.prog.info? 72).map (·.size) = some (arr staL).toList.length := by rw [size27]; rfl
  have s8 : (arr staL).size = 8 := rfl
  have z74 : (folC zeroF).length = 74 := rfl
  have hf59 := fold59
  have o59 := folC_one startF
  have u0 := FAt.new w zeroF
  have u1 := FAt.new (w.alloc (Obj.cells (folC zeroF).toArray 84)) zeroF
  rw [World.size_alloc] at u1
  have t59 : ((w.alloc (Obj.cells (folC zeroF).toArray 84)).alloc (Obj.cells (folC zeroF).toArray 84)).there (w.heap.size + 1) 0 (folC startF).toArray.size := u1.thereAll zeroF_ok
  obtain ⟨X, hX⟩ : ∃ X, X = ((w.alloc (Obj.cells (folC zeroF).toArray 84)).alloc (Obj.cells (folC zeroF).toArray 84)).setCells (w.heap.size + 1) 0 (folC startF).toArray.toList := ⟨_, rfl⟩
  have x1 : FAt X (w.heap.size + 1) startF := by rw [hX]; exact u1.setAll zeroF_ok startF startF_ok
  have x0 : Hid (FAt X w.heap.size zeroF) := by
    show FAt _ _ _
    rw [hX]
    have hb : But (w.heap.size + 1) ((w.alloc (Obj.cells (folC zeroF).toArray 84)).alloc (Obj.cells (folC zeroF).toArray 84)) (((w.alloc (Obj.cells (folC zeroF).toArray 84)).alloc (Obj.cells (folC zeroF).toArray 84)).setCells (w.heap.size + 1) 0 (folC startF).toArray.toList) := But.setOwn _ _ _ (But.refl _ _)
    exact (u0.alloc _).of_but hb (by omega)
  have xb : Hid (Below w.heap.size w X) := by
    show Below _ _ _
    rw [hX]
    exact Below.setNews (by omega) _ _ _ (((Below.refl _ w).alloc (Nat.le_refl _) _).alloc (by simp) _)
  have hr : (w.alloc (Obj.cells (folC zeroF).toArray 84)).rangeAt 0 0 (arr staL).toList := by
    intro j v hv
    have hj : j < 8 := (List.getElem?_eq_some_iff.1 hv).1
    rw [Nat.zero_add, Below.cell ((Below.refl w.heap.size w).alloc (Nat.le_refl _) _) (show 0 < w.heap.size by have := hT.size; omega), hS.sta j hj]
    have e : (arr staL).toList[j]? = some (U (staL.getD j 0)) := by simp [arr, show j < staL.length from hj]
    rw [← hv, e]
  have c0 : X.cell? ⟨w.heap.size + 1, 0, none⟩ = some (U 1779033703) := x1.word startF_ok 0 (by omega)
  have f0 := x1.frozen 0
  clear u0 u1
  have kx : bits .xor .u32 1779033703 (16842784 + 256 * (key.size : Int)) = ((uxor 1779033703 (UInt32.ofNat (16842784 + 256 * key.size))).toNat : Int) := by
    have h1 := xor_u 1779033703 (UInt32.ofNat (16842784 + 256 * key.size))
    rw [UInt32.toNat_ofNat', Nat.mod_eq_of_lt (by omega)] at h1
    exact h1
  have hhK : Hid (hK key.size = startF.h.set 0 (uxor 1779033703 (UInt32.ofNat (16842784 + 256 * key.size)))) := rfl
  generalize uxor 1779033703 (UInt32.ofNat (16842784 + 256 * key.size)) = NW at *
  have y1 := x1.setWord startF_ok 0 (by omega) NW
  have y0 : FAt (X.setCell ⟨w.heap.size + 1, 0, none⟩ (U NW)) w.heap.size zeroF := x0.out.of_but ((But.refl (w.heap.size + 1) X).setCell _ _) (by omega)
  have yb : Hid (Below w.heap.size w (X.setCell ⟨w.heap.size + 1, 0, none⟩ (U NW))) := Below.own xb.out (by omega) _ _
  have okY : Fol.ok { startF with h := startF.h.set 0 NW } := ⟨by simp [startF, staL], startF_ok.2⟩
  by_cases hs : key.size = 0
  · have hse : key.toList.isEmpty = true := by
      rw [Lib.toList_data]
      have : key.data.toList.length = 0 := by rw [← Lib.size_eq]; exact hs
      rw [List.length_eq_zero_iff.1 this]; rfl
    obtain ⟨G, hG⟩ : ∃ G, G = { startF with h := startF.h.set 0 NW } := ⟨_, rfl⟩
    have HG : Hid (beginF key.data.toList = G) := by
      show _ = _
      rw [hG, beginF, if_pos (by rw [← Lib.size_eq]; exact hs), ← hhK.out, hs]; rfl
    rw [← hG] at y1 okY
    have rG := y1.all
    have iG : (Tryd.prog.info? 84).map (·.size) = some (folC G).length := by rw [size59, folC_length okY]
    have iG' : (Tryd.prog.info? 84).map (·.size) = some (folC G).toArray.size := by rw [size59, List.size_toArray, folC_length okY]
    have tG : (X.setCell ⟨w.heap.size + 1, 0, none⟩ (U NW)).there w.heap.size 0 (folC G).toArray.size := by
      have e74 : (folC G).toArray.size = 74 := by rw [List.size_toArray, folC_length okY]
      rw [e74]; exact y0.thereAll zeroF_ok
    have oG := folC_one G
    have zG := y0.setAll zeroF_ok G okY
    have ze : Hid ((((X.setCell ⟨w.heap.size + 1, 0, none⟩ (U NW)).setCells w.heap.size 0 (folC G)).rangeAt w.heap.size 0 (folC G))) := zG.all
    clear hG y1 okY zG x1 x0 y0 hs
    generalize hCG : folC G = CG at *
    have HCG : Hid (folC G = CG) := hCG
    clear hCG
    generalize arr staL = AS at *
    generalize folC zeroF = CZ at *
    generalize folC startF = CS at *
    go_enter Tryd.func44, Tryd.ntmps44
    go_wp2_with (first
    | (refine wpList_load_mid rfl 72 (.global 0) rfl 0 0 rfl AS.toList _ hr Tryd.underlying72 rfl i27 ?_)
    | (refine wpList_store_mid rfl 84 (.tmp 3) (.tmp 5) rfl (w.heap.size + 1) 0 CS.toArray rfl rfl t59 i59 o59 ?_; rw [← hX]; clear hX)
    | (refine wpList_load_mid rfl 84 (.tmp 3) rfl (w.heap.size + 1) 0 rfl CG _ rG Tryd.underlying84 rfl iG ?_)
    | (refine wpList_store_mid rfl 84 (.tmp 2) (.tmp 25) rfl w.heap.size 0 CG.toArray rfl rfl tG iG' oG ?_))
    refine bodyPost_ret (v := .agg CG.toArray) (results_cell Tryd.results44 _ _ w.heap.size 0 CG _ rfl ze.out Tryd.underlying84 rfl iG) rfl ⟨by rw [HG.out, HCG.out], ?_⟩
    exact Below.setNews (Nat.le_refl _) _ _ _ yb.out
  · have hse : key.toList.isEmpty = false := by
      rw [Lib.toList_data]
      cases hq : key.data.toList with
      | nil => exfalso; apply hs; rw [Lib.size_eq, hq]; rfl
      | cons _ _ => rfl
    have hkl : key.data.toList.length = key.size := (Lib.size_eq key).symm
    have hth := y1.there okY 8 key.size (by omega)
    have hcp := run_copy_some (X.setCell ⟨w.heap.size + 1, 0, none⟩ (U NW)) 68 9 3 5 (w.heap.size + 1) 8 64 64 key.size key Tryd.underlying68 sizeOf5 (Nat.min_eq_left hk).symm hth
    rw [List.take_of_length_le (by omega)] at hcp
    have hsl := fun w' => slice57_all (w.heap.size + 1) 8 w'
    have hZ := y1.setPart okY 0 key.data.toList (by omega)
    have hpad : startF.p.take 0 ++ key.data.toList ++ startF.p.drop (0 + key.data.toList.length) = pad64 key.data.toList := by
      show (List.replicate 64 0).take 0 ++ key.data.toList ++ (List.replicate 64 0).drop (0 + key.data.toList.length) = _
      rw [pad64, List.drop_replicate, List.take_zero, List.nil_append, Nat.zero_add]
    have hZ' : FAt ((X.setCell ⟨w.heap.size + 1, 0, none⟩ (U NW)).setCells (w.heap.size + 1) 8 (key.data.toList.map Y)) (w.heap.size + 1) ⟨startF.h.set 0 NW, pad64 key.data.toList, 0, 0⟩ := by
      rw [← hpad]; exact hZ
    have zb : Below w.heap.size w ((X.setCell ⟨w.heap.size + 1, 0, none⟩ (U NW)).setCells (w.heap.size + 1) 8 (key.data.toList.map Y)) := Below.setNews (by omega) _ _ _ yb.out
    have z0 : FAt ((X.setCell ⟨w.heap.size + 1, 0, none⟩ (U NW)).setCells (w.heap.size + 1) 8 (key.data.toList.map Y)) w.heap.size zeroF := y0.of_but (But.setOwn _ _ _ (But.refl _ _)) (by omega)
    clear hZ hth y1 y0 yb hpad
    generalize (X.setCell ⟨w.heap.size + 1, 0, none⟩ (U NW)).setCells (w.heap.size + 1) 8 (key.data.toList.map Y) = Z at *
    have pl : (pad64 key.data.toList).length = 64 := pad64_length _ (by omega)
    have HB : Hid (beginF key.data.toList = ⟨startF.h.set 0 NW, pad64 key.data.toList, 64, 64⟩) := by
      show _ = _
      rw [beginF, if_neg (by omega), hkl, hhK.out]
    generalize pad64 key.data.toList = PD at *
    have hl : (startF.h.set 0 NW).length = 8 := by simp [startF, staL]
    generalize startF.h.set 0 NW = HW at *
    have ok1 : Fol.ok ⟨HW, PD, 0, 0⟩ := ⟨hl, pl, by simp, by simp⟩
    have ok2 : Fol.ok ⟨HW, PD, 64, 0⟩ := ⟨hl, pl, by simp, by simp⟩
    have ok3 : Fol.ok ⟨HW, PD, 64, 64⟩ := ⟨hl, pl, by simp, by simp⟩
    have c72 : Z.cell? ⟨w.heap.size + 1, 72, none⟩ = some (.int .i64 0) := hZ'.held ok1
    have f72 := hZ'.frozen 72
    have hZ2 : FAt (Z.setCell ⟨w.heap.size + 1, 72, none⟩ (.int .i64 64)) (w.heap.size + 1) ⟨HW, PD, 64, 0⟩ := hZ'.setHeld ok1 64
    have c73 : (Z.setCell ⟨w.heap.size + 1, 72, none⟩ (.int .i64 64)).cell? ⟨w.heap.size + 1, 73, none⟩ = some (.int .u64 0) := hZ2.n ok2
    have f73 := hZ2.frozen 73
    have hZ3 : FAt ((Z.setCell ⟨w.heap.size + 1, 72, none⟩ (.int .i64 64)).setCell ⟨w.heap.size + 1, 73, none⟩ (.int .u64 64)) (w.heap.size + 1) ⟨HW, PD, 64, 64⟩ := hZ2.setN ok2 64
    have v0 : FAt ((Z.setCell ⟨w.heap.size + 1, 72, none⟩ (.int .i64 64)).setCell ⟨w.heap.size + 1, 73, none⟩ (.int .u64 64)) w.heap.size zeroF := z0.of_but (((But.refl (w.heap.size + 1) Z).setCell _ _).setCell _ _) (by omega)
    have vb : Hid (Below w.heap.size w ((Z.setCell ⟨w.heap.size + 1, 72, none⟩ (.int .i64 64)).setCell ⟨w.heap.size + 1, 73, none⟩ (.int .u64 64))) := Below.own (Below.own zb (by omega) _ _) (by omega) _ _
    obtain ⟨G, hG⟩ : ∃ G, G = (⟨HW, PD, 64, 64⟩ : Fol) := ⟨_, rfl⟩
    have HG : Hid (beginF key.data.toList = G) := by show _ = _; rw [hG]; exact HB.out
    rw [← hG] at hZ3 ok3
    have rG := hZ3.all
    have iG : (Tryd.prog.info? 84).map (·.size) = some (folC G).length := by rw [size59, folC_length ok3]
    have iG' : (Tryd.prog.info? 84).map (·.size) = some (folC G).toArray.size := by rw [size59, List.size_toArray, folC_length ok3]
    have tG : ((Z.setCell ⟨w.heap.size + 1, 72, none⟩ (.int .i64 64)).setCell ⟨w.heap.size + 1, 73, none⟩ (.int .u64 64)).there w.heap.size 0 (folC G).toArray.size := by
      have e74 : (folC G).toArray.size = 74 := by rw [List.size_toArray, folC_length ok3]
      rw [e74]; exact v0.thereAll zeroF_ok
    have oG := folC_one G
    have zG := v0.setAll zeroF_ok G ok3
    have ze : Hid ((((Z.setCell ⟨w.heap.size + 1, 72, none⟩ (.int .i64 64)).setCell ⟨w.heap.size + 1, 73, none⟩ (.int .u64 64)).setCells w.heap.size 0 (folC G)).rangeAt w.heap.size 0 (folC G)) := zG.all
    clear hG zG x1 x0 hs hkl hZ' hZ2 hZ3 v0 z0 zb pl hl HB hhK okY
    generalize hCG : folC G = CG at *
    have HCG : Hid (folC G = CG) := hCG
    clear hCG
    generalize arr staL = AS at *
    generalize folC zeroF = CZ at *
    generalize folC startF = CS at *
    go_enter Tryd.func44, Tryd.ntmps44
    go_wp2_with (first
    | (refine wpList_load_mid rfl 72 (.global 0) rfl 0 0 rfl AS.toList _ hr Tryd.underlying72 rfl i27 ?_)
    | (refine wpList_store_mid rfl 84 (.tmp 3) (.tmp 5) rfl (w.heap.size + 1) 0 CS.toArray rfl rfl t59 i59 o59 ?_; rw [← hX]; clear hX)
    | (refine wpList_load_mid rfl 84 (.tmp 3) rfl (w.heap.size + 1) 0 rfl CG _ rG Tryd.underlying84 rfl iG ?_)
    | (refine wpList_store_mid rfl 84 (.tmp 2) (.tmp 25) rfl w.heap.size 0 CG.toArray rfl rfl tG iG' oG ?_))
    refine bodyPost_ret (v := .agg CG.toArray) (results_cell Tryd.results44 _ _ w.heap.size 0 CG _ rfl ze.out Tryd.underlying84 rfl iG) rfl ⟨by rw [HG.out, HCG.out], ?_⟩
    exact Below.setNews (Nat.le_refl _) _ _ _ vb.out
theorem pad64_full (l : List UInt8) (h : l.length = 64) : pad64 l = l := by simp [pad64, h]
/-- The text that begin has taken in. -/
def keyT (key : List UInt8) : List UInt8 := if key.length = 0 then [] else pad64 key
theorem beginF_rep (key : List UInt8) (hk : key.length ≤ 64) : Rep (hK key.length) (keyT key) (beginF key) := by
  unfold keyT beginF
  by_cases h : key.length = 0
  · rw [if_pos h, if_pos h, h]
    exact ⟨rfl, rfl, rfl, rfl⟩
  · rw [if_neg h, if_neg h]
    have hl := pad64_length key hk
    refine ⟨?_, ?_, ?_, ?_⟩
    · rw [hl]; rfl
    · rw [hl]
      show pad64 key = pad64 (((pad64 key).drop (64 * 0)).take 64)
      rw [Nat.mul_zero, List.drop_zero, List.take_of_length_le (by omega), pad64_full _ hl]
    · rw [hl]
    · rw [hl]
end Go.Proofs.YteomefhjglnghaaDoor.F
