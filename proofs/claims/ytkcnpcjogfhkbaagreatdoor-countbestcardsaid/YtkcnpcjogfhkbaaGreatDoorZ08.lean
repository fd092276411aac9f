/- The walk of begin: a folder for a text behind a key. Plain: the bytes of a piece gathered into words one by one; the digest of a text. No Go text is walked here. The walks of Digest and Keyed. The walks of the reference's small functions: right, four, digit, rows. The walk of the reference's power: 256 to the i. The walk of the reference's steps: all 640 of them, in their order, in a slice of the call's own. The walk of the reference's Stir: step by step, the same words as ten rounds give. -/
import Derived.Test.YtkcnpcjogfhkbaaGreatDoorZ07
import Derived.Test.YtkcnpcjogfhkbaaGreatDoorZ04
import Derived.Test.YtkcnpcjogfhkbaaGreatDoorZ02
import Derived.Deep.LoopGhost
import Derived.PlainAid
import Derived.BigQuiet
import Derived.Deep.QuietTactic
import Derived.OwnWalk
import Derived.StillTailTactics
set_option linter.unusedSimpArgs false
set_option linter.unusedVariables false
set_option maxRecDepth 100000
namespace Go.Proofs.YtkcnpcjogfhkbaaGreatDoor.F
open Go.RowKit

def zeroF : Fol := ⟨List.replicate 8 0, List.replicate 64 0, 0, 0⟩
def startF : Fol := ⟨staL, List.replicate 64 0, 0, 0⟩
/-- The words that a key's length begins with. -/
def hK (n : Nat) : List UInt32 := staL.set 0 (uxor 1779033703 (UInt32.ofNat (16842784 + 256 * n)))
theorem hK_length (n : Nat) : (hK n).length = 8 := by simp [hK, staL]
def beginF (key : List UInt8) : Fol := if key.length = 0 then ⟨hK 0, List.replicate 64 0, 0, 0⟩ else ⟨hK key.length, pad64 key, 64, 64⟩
theorem zeroF_ok : zeroF.ok := ⟨by decide, by decide, by decide, by decide⟩
theorem startF_ok : startF.ok := ⟨by decide, by decide, by decide, by decide⟩
theorem size59 : (Tryz.prog.info? 137).map (·.size) = some 74 := by kernel_rfl
theorem folC_one (f : Fol) : (folC f).toArray.all (·.oneCell') = true := all_oneCell_toArray (fun v hv => by
  simp only [folC, List.mem_append, List.mem_map, List.mem_cons, List.not_mem_nil, or_false] at hv
  rcases hv with ⟨x, _, rfl⟩ | ⟨x, _, rfl⟩ | rfl | rfl <;> rfl)
theorem FAt.new (w : World) (f : Fol) : FAt (w.alloc (.cells (folC f).toArray 137)) w.heap.size f := by
  show (w.heap.push _)[w.heap.size]? = _
  simp
theorem FAt.all {w : World} {b : Nat} {f : Fol} (h : FAt w b f) : w.rangeAt b 0 (folC f) := by
  intro j v hv
  rw [Nat.zero_add, h.cell]; exact hv
theorem FAt.setAll {w : World} {b : Nat} {f : Fol} (h : FAt w b f) (ok : f.ok) (g : Fol) (okg : g.ok) : FAt (w.setCells b 0 (folC g)) b g := by
  have := block_setCells (w := w) (folC g) 0 (folC f) w h (by rw [folC_length okg, folC_length ok]; omega)
  unfold FAt
  rw [this]
  congr 3
  rw [List.take_zero, List.nil_append, List.drop_of_length_le (by rw [folC_length okg, folC_length ok]; omega), List.append_nil]
theorem FAt.setWord {w : World} {b : Nat} {f : Fol} (h : FAt w b f) (ok : f.ok) (i : Nat) (hi : i < 8) (x : UInt32) : FAt (w.setCell ⟨b, i, none⟩ (U x)) b { f with h := f.h.set i x } := by
  have l1 : (f.h.map U).length = 8 := by simp [ok.1]
  unfold FAt at *
  simp only [World.setCell, Array.getElem?_modify, if_true, h, Option.map_some]
  congr 2
  simp only [folC, List.setIfInBounds_toArray, Option.isSome_none, Bool.false_eq_true, if_false]
  rw [List.set_append, if_pos (by omega), List.map_set]
theorem zeroValue59 (w : World) : (Go.zeroValue 137).run Tryz.prog w = .ok (.agg (folC zeroF).toArray) w := by
  have h : (Tryz.prog.info? 137).map (·.zero) = some (some (.agg (folC zeroF).toArray)) := by kernel_rfl
  cases hq : Tryz.prog.info? 137 with
  | none => simp [hq] at h
  | some i =>
    have : i.zero = some (.agg (folC zeroF).toArray) := by simpa [hq] using h
    simp [zeroValue, typeInfo, hq, this]
theorem beginF_ok (key : List UInt8) (h : key.length ≤ 64) : (beginF key).ok := by
  unfold beginF
  split
  · exact ⟨hK_length 0, by simp, by simp, by simp⟩
  · exact ⟨hK_length _, pad64_length _ h, by simp, by simp⟩

theorem fold59 : Array.foldl (fun cs (x : Value × Nat) => cs.setIfInBounds x.snd x.fst) (folC zeroF).toArray (arr staL).zipIdx 0 8 = (folC startF).toArray := by kernel_rfl
theorem FAt.thereAll {w : World} {b : Nat} {f : Fol} (h : FAt w b f) (ok : f.ok) : w.there b 0 74 := h.there ok 0 74 (by omega)

set_option maxRecDepth 100000 in
set_option maxHeartbeats 1000000 in
theorem begin_any (key : ByteArray) (hk : key.size ≤ 64) (w : World) (hT : Tabs w) (hS : Starts w) :
    Calls Tryz.prog 92 #[.string key] w fun e w' => e = .returned (.agg (folC (beginF key.data.toList)).toArray) ∧ Below w.heap.size w w' := by
  have hz59 := zeroValue59
  have i59 : (Tryz.prog.info? 137).map (·.size) = some (folC startF).toArray.size := by rw [size59]; rfl
  have i27 : (Tryz.prog.info? 133).map (·.size) = some (arr staL).toList.length := by rw [size27]; rfl
  have s8 : (arr staL).size = 8 := rfl
  have z74 : (folC zeroF).length = 74 := rfl
  have hf59 := fold59
  have o59 := folC_one startF
  have u0 := FAt.new w zeroF
  have u1 := FAt.new (w.alloc (Obj.cells (folC zeroF).toArray 137)) zeroF
  rw [World.size_alloc] at u1
  have t59 : ((w.alloc (Obj.cells (folC zeroF).toArray 137)).alloc (Obj.cells (folC zeroF).toArray 137)).there (w.heap.size + 1) 0 (folC startF).toArray.size := u1.thereAll zeroF_ok
  obtain ⟨X, hX⟩ : ∃ X, X = ((w.alloc (Obj.cells (folC zeroF).toArray 137)).alloc (Obj.cells (folC zeroF).toArray 137)).setCells (w.heap.size + 1) 0 (folC startF).toArray.toList := ⟨_, rfl⟩
  have x1 : FAt X (w.heap.size + 1) startF := by rw [hX]; exact u1.setAll zeroF_ok startF startF_ok
  have x0 : Hid (FAt X w.heap.size zeroF) := by
    show FAt _ _ _
    rw [hX]
    have hb : But (w.heap.size + 1) ((w.alloc (Obj.cells (folC zeroF).toArray 137)).alloc (Obj.cells (folC zeroF).toArray 137)) (((w.alloc (Obj.cells (folC zeroF).toArray 137)).alloc (Obj.cells (folC zeroF).toArray 137)).setCells (w.heap.size + 1) 0 (folC startF).toArray.toList) := But.setOwn _ _ _ (But.refl _ _)
    exact (u0.alloc _).of_but hb (by omega)
  have xb : Hid (Below w.heap.size w X) := by
    show Below _ _ _
    rw [hX]
    exact Below.setNews (by omega) _ _ _ (((Below.refl _ w).alloc (Nat.le_refl _) _).alloc (by simp) _)
  have hr : (w.alloc (Obj.cells (folC zeroF).toArray 137)).rangeAt 0 0 (arr staL).toList := by
    intro j v hv
    have hj : j < 8 := (List.getElem?_eq_some_iff.1 hv).1
    rw [Nat.zero_add, Below.cell ((Below.refl w.heap.size w).alloc (Nat.le_refl _) _) (show 0 < w.heap.size by have := hT.size; omega), hS.sta j hj]
    have e : (arr staL).toList[j]? = some (U (staL.getD j 0)) := by simp [arr, show j < staL.length from hj]
    rw [← hv, e]
  have c0 : X.cell? ⟨w.heap.size + 1, 0, none⟩ = some (U 1779033703) := x1.word startF_ok 0 (by omega)
  have f0 := x1.frozen 0
  clear u0 u1
  have kx : bits .xor .u32 1779033703 (16842784 + 256 * (key.size : Int)) = ((uxor 1779033703 (UInt32.ofNat (16842784 + 256 * key.size))).toNat : Int) := by
    have h1 := xor_u 1779033703 (UInt32.ofNat (16842784 + 256 * key.size))
    rw [UInt32.toNat_ofNat', Nat.mod_eq_of_lt (by omega)] at h1
    exact h1
  have hhK : Hid (hK key.size = startF.h.set 0 (uxor 1779033703 (UInt32.ofNat (16842784 + 256 * key.size)))) := rfl
  generalize uxor 1779033703 (UInt32.ofNat (16842784 + 256 * key.size)) = NW at *
  have y1 := x1.setWord startF_ok 0 (by omega) NW
  have y0 : FAt (X.setCell ⟨w.heap.size + 1, 0, none⟩ (U NW)) w.heap.size zeroF := x0.out.of_but ((But.refl (w.heap.size + 1) X).setCell _ _) (by omega)
  have yb : Hid (Below w.heap.size w (X.setCell ⟨w.heap.size + 1, 0, none⟩ (U NW))) := Below.own xb.out (by omega) _ _
  have okY : Fol.ok { startF with h := startF.h.set 0 NW } := ⟨by simp [startF, staL], startF_ok.2⟩
  by_cases hs : key.size = 0
  · have hse : key.toList.isEmpty = true := by
      rw [Lib.toList_data]
      have : key.data.toList.length = 0 := by rw [← Lib.size_eq]; exact hs
      rw [List.length_eq_zero_iff.1 this]; rfl
    obtain ⟨G, hG⟩ : ∃ G, G = { startF with h := startF.h.set 0 NW } := ⟨_, rfl⟩
    have HG : Hid (beginF key.data.toList = G) := by
      show _ = _
      rw [hG, beginF, if_pos (by rw [← Lib.size_eq]; exact hs), ← hhK.out, hs]; rfl
    rw [← hG] at y1 okY
    have rG := y1.all
    have iG : (Tryz.prog.info? 137).map (·.size) = some (folC G).length := by rw [size59, folC_length okY]
    have iG' : (Tryz.prog.info? 137).map (·.size) = some (folC G).toArray.size := by rw [size59, List.size_toArray, folC_length okY]
    have tG : (X.setCell ⟨w.heap.size + 1, 0, none⟩ (U NW)).there w.heap.size 0 (folC G).toArray.size := by
      have e74 : (folC G).toArray.size = 74 := by rw [List.size_toArray, folC_length okY]
      rw [e74]; exact y0.thereAll zeroF_ok
    have oG := folC_one G
    have zG := y0.setAll zeroF_ok G okY
    have ze : Hid ((((X.setCell ⟨w.heap.size + 1, 0, none⟩ (U NW)).setCells w.heap.size 0 (folC G)).rangeAt w.heap.size 0 (folC G))) := zG.all
    clear hG y1 okY zG x1 x0 y0 hs
    generalize hCG : folC G = CG at *
    have HCG : Hid (folC G = CG) := hCG
    clear hCG
    generalize arr staL = AS at *
    generalize folC zeroF = CZ at *
    generalize folC startF = CS at *
    go_enter Tryz.func92, Tryz.ntmps92
    go_wp2_with (first
    | (refine wpList_load_mid rfl 133 (.global 0) rfl 0 0 rfl AS.toList _ hr Tryz.underlying133 rfl i27 ?_)
    | (refine wpList_store_mid rfl 137 (.tmp 3) (.tmp 5) rfl (w.heap.size + 1) 0 CS.toArray rfl rfl t59 i59 o59 ?_; rw [← hX]; clear hX)
    | (refine wpList_load_mid rfl 137 (.tmp 3) rfl (w.heap.size + 1) 0 rfl CG _ rG Tryz.underlying137 rfl iG ?_)
    | (refine wpList_store_mid rfl 137 (.tmp 2) (.tmp 25) rfl w.heap.size 0 CG.toArray rfl rfl tG iG' oG ?_))
    refine bodyPost_ret (v := .agg CG.toArray) (results_cell Tryz.results92 _ _ w.heap.size 0 CG _ rfl ze.out Tryz.underlying137 rfl iG) rfl ⟨by rw [HG.out, HCG.out], ?_⟩
    exact Below.setNews (Nat.le_refl _) _ _ _ yb.out
  · have hse : key.toList.isEmpty = false := by
      rw [Lib.toList_data]
      cases hq : key.data.toList with
      | nil => exfalso; apply hs; rw [Lib.size_eq, hq]; rfl
      | cons _ _ => rfl
    have hkl : key.data.toList.length = key.size := (Lib.size_eq key).symm
    have hth := y1.there okY 8 key.size (by omega)
    have hcp := run_copy_some (X.setCell ⟨w.heap.size + 1, 0, none⟩ (U NW)) 127 9 3 5 (w.heap.size + 1) 8 64 64 key.size key Tryz.underlying127 sizeOf5 (Nat.min_eq_left hk).symm hth
    rw [List.take_of_length_le (by omega)] at hcp
    have hsl := fun w' => slice57_all (w.heap.size + 1) 8 w'
    have hZ := y1.setPart okY 0 key.data.toList (by omega)
    have hpad : startF.p.take 0 ++ key.data.toList ++ startF.p.drop (0 + key.data.toList.length) = pad64 key.data.toList := by
      show (List.replicate 64 0).take 0 ++ key.data.toList ++ (List.replicate 64 0).drop (0 + key.data.toList.length) = _
      rw [pad64, List.drop_replicate, List.take_zero, List.nil_append, Nat.zero_add]
    have hZ' : FAt ((X.setCell ⟨w.heap.size + 1, 0, none⟩ (U NW)).setCells (w.heap.size + 1) 8 (key.data.toList.map Y)) (w.heap.size + 1) ⟨startF.h.set 0 NW, pad64 key.data.toList, 0, 0⟩ := by
      rw [← hpad]; exact hZ
    have zb : Below w.heap.size w ((X.setCell ⟨w.heap.size + 1, 0, none⟩ (U NW)).setCells (w.heap.size + 1) 8 (key.data.toList.map Y)) := Below.setNews (by omega) _ _ _ yb.out
    have z0 : FAt ((X.setCell ⟨w.heap.size + 1, 0, none⟩ (U NW)).setCells (w.heap.size + 1) 8 (key.data.toList.map Y)) w.heap.size zeroF := y0.of_but (But.setOwn _ _ _ (But.refl _ _)) (by omega)
    clear hZ hth y1 y0 yb hpad
    generalize (X.setCell ⟨w.heap.size + 1, 0, none⟩ (U NW)).setCells (w.heap.size + 1) 8 (key.data.toList.map Y) = Z at *
    have pl : (pad64 key.data.toList).length = 64 := pad64_length _ (by omega)
    have HB : Hid (beginF key.data.toList = ⟨startF.h.set 0 NW, pad64 key.data.toList, 64, 64⟩) := by
      show _ = _
      rw [beginF, if_neg (by omega), hkl, hhK.out]
    generalize pad64 key.data.toList = PD at *
    have hl : (startF.h.set 0 NW).length = 8 := by simp [startF, staL]
    generalize startF.h.set 0 NW = HW at *
    have ok1 : Fol.ok ⟨HW, PD, 0, 0⟩ := ⟨hl, pl, by simp, by simp⟩
    have ok2 : Fol.ok ⟨HW, PD, 64, 0⟩ := ⟨hl, pl, by simp, by simp⟩
    have ok3 : Fol.ok ⟨HW, PD, 64, 64⟩ := ⟨hl, pl, by simp, by simp⟩
    have c72 : Z.cell? ⟨w.heap.size + 1, 72, none⟩ = some (.int .i64 0) := hZ'.held ok1
    have f72 := hZ'.frozen 72
    have hZ2 : FAt (Z.setCell ⟨w.heap.size + 1, 72, none⟩ (.int .i64 64)) (w.heap.size + 1) ⟨HW, PD, 64, 0⟩ := hZ'.setHeld ok1 64
    have c73 : (Z.setCell ⟨w.heap.size + 1, 72, none⟩ (.int .i64 64)).cell? ⟨w.heap.size + 1, 73, none⟩ = some (.int .u64 0) := hZ2.n ok2
    have f73 := hZ2.frozen 73
    have hZ3 : FAt ((Z.setCell ⟨w.heap.size + 1, 72, none⟩ (.int .i64 64)).setCell ⟨w.heap.size + 1, 73, none⟩ (.int .u64 64)) (w.heap.size + 1) ⟨HW, PD, 64, 64⟩ := hZ2.setN ok2 64
    have v0 : FAt ((Z.setCell ⟨w.heap.size + 1, 72, none⟩ (.int .i64 64)).setCell ⟨w.heap.size + 1, 73, none⟩ (.int .u64 64)) w.heap.size zeroF := z0.of_but (((But.refl (w.heap.size + 1) Z).setCell _ _).setCell _ _) (by omega)
    have vb : Hid (Below w.heap.size w ((Z.setCell ⟨w.heap.size + 1, 72, none⟩ (.int .i64 64)).setCell ⟨w.heap.size + 1, 73, none⟩ (.int .u64 64))) := Below.own (Below.own zb (by omega) _ _) (by omega) _ _
    obtain ⟨G, hG⟩ : ∃ G, G = (⟨HW, PD, 64, 64⟩ : Fol) := ⟨_, rfl⟩
    have HG : Hid (beginF key.data.toList = G) := by show _ = _; rw [hG]; exact HB.out
    rw [← hG] at hZ3 ok3
    have rG := hZ3.all
    have iG : (Tryz.prog.info? 137).map (·.size) = some (folC G).length := by rw [size59, folC_length ok3]
    have iG' : (Tryz.prog.info? 137).map (·.size) = some (folC G).toArray.size := by rw [size59, List.size_toArray, folC_length ok3]
    have tG : ((Z.setCell ⟨w.heap.size + 1, 72, none⟩ (.int .i64 64)).setCell ⟨w.heap.size + 1, 73, none⟩ (.int .u64 64)).there w.heap.size 0 (folC G).toArray.size := by
      have e74 : (folC G).toArray.size = 74 := by rw [List.size_toArray, folC_length ok3]
      rw [e74]; exact v0.thereAll zeroF_ok
    have oG := folC_one G
    have zG := v0.setAll zeroF_ok G ok3
    have ze : Hid ((((Z.setCell ⟨w.heap.size + 1, 72, none⟩ (.int .i64 64)).setCell ⟨w.heap.size + 1, 73, none⟩ (.int .u64 64)).setCells w.heap.size 0 (folC G)).rangeAt w.heap.size 0 (folC G)) := zG.all
    clear hG zG x1 x0 hs hkl hZ' hZ2 hZ3 v0 z0 zb pl hl HB hhK okY
    generalize hCG : folC G = CG at *
    have HCG : Hid (folC G = CG) := hCG
    clear hCG
    generalize arr staL = AS at *
    generalize folC zeroF = CZ at *
    generalize folC startF = CS at *
    go_enter Tryz.func92, Tryz.ntmps92
    go_wp2_with (first
    | (refine wpList_load_mid rfl 133 (.global 0) rfl 0 0 rfl AS.toList _ hr Tryz.underlying133 rfl i27 ?_)
    | (refine wpList_store_mid rfl 137 (.tmp 3) (.tmp 5) rfl (w.heap.size + 1) 0 CS.toArray rfl rfl t59 i59 o59 ?_; rw [← hX]; clear hX)
    | (refine wpList_load_mid rfl 137 (.tmp 3) rfl (w.heap.size + 1) 0 rfl CG _ rG Tryz.underlying137 rfl iG ?_)
    | (refine wpList_store_mid rfl 137 (.tmp 2) (.tmp 25) rfl w.heap.size 0 CG.toArray rfl rfl tG iG' oG ?_))
    refine bodyPost_ret (v := .agg CG.toArray) (results_cell Tryz.results92 _ _ w.heap.size 0 CG _ rfl ze.out Tryz.underlying137 rfl iG) rfl ⟨by rw [HG.out, HCG.out], ?_⟩
    exact Below.setNews (Nat.le_refl _) _ _ _ vb.out
theorem pad64_full (l : List UInt8) (h : l.length = 64) : pad64 l = l := by simp [pad64, h]
/-- The text that begin has taken in. -/
def keyT (key : List UInt8) : List UInt8 := if key.length = 0 then [] else pad64 key
theorem beginF_rep (key : List UInt8) (hk : key.length ≤ 64) : Rep (hK key.length) (keyT key) (beginF key) := by
  unfold keyT beginF
  by_cases h : key.length = 0
  · rw [if_pos h, if_pos h, h]
    exact ⟨rfl, rfl, rfl, rfl⟩
  · rw [if_neg h, if_neg h]
    have hl := pad64_length key hk
    refine ⟨?_, ?_, ?_, ?_⟩
    · rw [hl]; rfl
    · rw [hl]
      show pad64 key = pad64 (((pad64 key).drop (64 * 0)).take 64)
      rw [Nat.mul_zero, List.drop_zero, List.take_of_length_le (by omega), pad64_full _ hl]
    · rw [hl]
    · rw [hl]
end Go.Proofs.YtkcnpcjogfhkbaaGreatDoor.F
namespace Go.Proofs.YtkcnpcjogfhkbaaGreatDoor.F
open Go.RowKit

/-- The first i bytes gathered into words. -/
def accTo (p : List UInt8) : Nat → List UInt32
  | 0 => List.replicate 16 0
  | i + 1 => (accTo p i).set (i / 4) (UInt32.ofNat (((accTo p i).getD (i / 4) 0).toNat + (p.getD i 0).toNat * 256 ^ (i % 4)))
theorem accTo_length (p : List UInt8) (i : Nat) : (accTo p i).length = 16 := by
  induction i with
  | zero => rfl
  | succ i ih => simp [accTo, ih]
theorem getD_take (p : List UInt8) (i j : Nat) : (p.take i).getD j 0 = if j < i then p.getD j 0 else 0 := by
  simp only [List.getD_eq_getElem?_getD, List.getElem?_take]
  split <;> rfl
def wordN (p : List UInt8) (j : Nat) : UInt32 := w4 (p.getD (4 * j) 0) (p.getD (4 * j + 1) 0) (p.getD (4 * j + 2) 0) (p.getD (4 * j + 3) 0)
theorem wordsL_get (p : List UInt8) (j : Nat) (hj : j < 16) : (wordsL p)[j]? = some (wordN p j) := by simp [wordsL, wordN, hj]
theorem wordN_other (p : List UInt8) (i j : Nat) (h : j ≠ i / 4) : wordN (p.take (i + 1)) j = wordN (p.take i) j := by
  simp only [wordN, getD_take]
  have e : ∀ k, k < 4 → (if 4 * j + k < i + 1 then p.getD (4 * j + k) 0 else 0) = (if 4 * j + k < i then p.getD (4 * j + k) 0 else 0) := by
    intro k hk
    by_cases h1 : 4 * j + k < i
    · rw [if_pos h1, if_pos (by omega)]
    · rw [if_neg h1, if_neg (by omega)]
  have e0 := e 0 (by omega)
  rw [Nat.add_zero] at e0
  rw [e0, e 1 (by omega), e 2 (by omega), e 3 (by omega)]
theorem wordN_same (p : List UInt8) (i : Nat) : wordN (p.take (i + 1)) (i / 4) = UInt32.ofNat ((wordN (p.take i) (i / 4)).toNat + (p.getD i 0).toNat * 256 ^ (i % 4)) := by
  have hlt : i % 4 < 4 := Nat.mod_lt _ (by omega)
  have hi : i = 4 * (i / 4) + i % 4 := by omega
  generalize hq : i / 4 = q at *
  generalize hr : i % 4 = r at *
  subst hi
  clear hq hr
  simp only [wordN, getD_take]
  obtain rfl | rfl | rfl | rfl : r = 0 ∨ r = 1 ∨ r = 2 ∨ r = 3 := by omega
  · rw [if_pos (by omega), if_neg (by omega), if_neg (by omega), if_neg (by omega), if_neg (by omega), if_neg (by omega), if_neg (by omega), if_neg (by omega), w4_toNat, w4]
    congr 1; simp
  · rw [if_pos (by omega), if_pos (by omega), if_neg (by omega), if_neg (by omega), if_pos (by omega), if_neg (by omega), if_neg (by omega), if_neg (by omega), w4_toNat, w4]
    congr 1; simp; omega
  · rw [if_pos (by omega), if_pos (by omega), if_pos (by omega), if_neg (by omega), if_pos (by omega), if_pos (by omega), if_neg (by omega), if_neg (by omega), w4_toNat, w4]
    congr 1; simp; omega
  · rw [if_pos (by omega), if_pos (by omega), if_pos (by omega), if_pos (by omega), if_pos (by omega), if_pos (by omega), if_pos (by omega), if_neg (by omega), w4_toNat, w4]
    congr 1; simp; omega
theorem accTo_words (p : List UInt8) (hp : p.length ≤ 64) : ∀ i, i ≤ p.length → accTo p i = wordsL (p.take i)
  | 0, _ => by rw [accTo, List.take_zero]; decide
  | i + 1, hi => by
    rw [accTo, accTo_words p hp i (by omega)]
    apply List.ext_getElem?
    intro j
    rw [List.getElem?_set, wordsL_length]
    by_cases hj : j < 16
    · by_cases h : i / 4 = j
      · subst h
        rw [if_pos rfl, if_pos hj, wordsL_get _ _ hj, wordN_same, List.getD_eq_getElem?_getD, wordsL_get _ _ hj]; rfl
      · rw [if_neg h, wordsL_get _ _ hj, wordsL_get _ _ hj, wordN_other p i j (by omega)]
    · rw [if_neg (by omega), List.getElem?_eq_none (by rw [wordsL_length]; omega), List.getElem?_eq_none (by rw [wordsL_length]; omega)]
theorem wordsL_pad (p : List UInt8) : wordsL (pad64 p) = wordsL p := by
  have e : ∀ k, (pad64 p).getD k 0 = p.getD k 0 := by
    intro k
    simp only [pad64, List.getD_eq_getElem?_getD, List.getElem?_append]
    by_cases h : k < p.length
    · rw [if_pos h]
    · rw [if_neg h, List.getElem?_eq_none (l := p) (by omega), List.getElem?_replicate]
      split <;> rfl
  simp only [wordsL, e]
/-- How many bytes of a text lie in its piece k. -/
theorem acc_piece (T : List UInt8) (k : Nat) : accTo ((T.drop (64 * k)).take 64) ((T.drop (64 * k)).take 64).length = wordsL (pieceAt T k) := by
  rw [accTo_words _ (by simp; omega) _ (Nat.le_refl _), List.take_length, pieceAt, wordsL_pad]

/-- The digest of a text, by the words that it begins with. -/
def digL (h0 : List UInt32) (T : List UInt8) : List UInt8 := outL (pressL (hashTo h0 T ((T.length - 1) / 64)) (wordsL (pieceAt T ((T.length - 1) / 64))) T.length true)
theorem digL_length (h0 : List UInt32) (T : List UInt8) : (digL h0 T).length = 32 := outL_length _
theorem Rep.dig {h0 : List UInt32} {T : List UInt8} {f : Fol} (r : Rep h0 T f) : outL (pressL f.h (wordsL f.p) f.n true) = digL h0 T := by
  rw [r.h, r.p, r.n]; rfl
/-- The reference's words behind k pieces of P. -/
def refH (h0 : List UInt32) (T : List UInt8) (P : Nat) : Nat → List UInt32
  | 0 => h0
  | k + 1 => pressL (refH h0 T P k) (wordsL (pieceAt T k)) (min (64 * k + 64) T.length) (decide (k + 1 = P))
theorem refH_length (h0 : List UInt32) (hh : h0.length = 8) (T : List UInt8) (P : Nat) : ∀ k, (refH h0 T P k).length = 8
  | 0 => hh
  | k + 1 => by rw [refH, pressL_length, refH_length h0 hh T P k]
theorem refH_eq (h0 : List UInt32) (T : List UInt8) (P : Nat) (hP : P = (T.length - 1) / 64 + 1) : ∀ k, k + 1 ≤ P → refH h0 T P k = hashTo h0 T k
  | 0, _ => rfl
  | k + 1, h => by
    rw [refH, refH_eq h0 T P hP k (by omega), hashTo, Nat.min_eq_left (by omega), show decide (k + 1 = P) = false from decide_eq_false (by omega), show 64 * k + 64 = 64 * (k + 1) by omega]
theorem refH_all (h0 : List UInt32) (T : List UInt8) (P : Nat) (hP : P = (T.length - 1) / 64 + 1) : outL (refH h0 T P P) = digL h0 T := by
  obtain ⟨k, rfl⟩ : ∃ k, P = k + 1 := ⟨(T.length - 1) / 64, hP⟩
  have hk : k = (T.length - 1) / 64 := by omega
  rw [refH, refH_eq h0 T (k + 1) hP k (Nat.le_refl _), Nat.min_eq_right (by omega), show decide (k + 1 = k + 1) = true from decide_eq_true rfl, digL, hk]
end Go.Proofs.YtkcnpcjogfhkbaaGreatDoor.F
namespace Go.Proofs.YtkcnpcjogfhkbaaGreatDoor.F
open Go.RowKit

end Go.Proofs.YtkcnpcjogfhkbaaGreatDoor.F
namespace Go.Proofs.YtkcnpcjogfhkbaaGreatDoor.F
open Go.RowKit

abbrev plc32 : List Value := [.int .i64 0, .int .i64 4, .int .i64 8, .int .i64 12, .int .i64 1, .int .i64 5, .int .i64 9, .int .i64 13, .int .i64 2, .int .i64 6, .int .i64 10, .int .i64 14, .int .i64 3, .int .i64 7, .int .i64 11, .int .i64 15, .int .i64 0, .int .i64 5, .int .i64 10, .int .i64 15, .int .i64 1, .int .i64 6, .int .i64 11, .int .i64 12, .int .i64 2, .int .i64 7, .int .i64 8, .int .i64 13, .int .i64 3, .int .i64 4, .int .i64 9, .int .i64 14]
theorem plc32_eq : plc32 = plcL.map fun (n : Nat) => Value.int .i64 (n : Int) := rfl
theorem plc32_get (i j : Nat) (hi : i < 8) (hj : j < 4) : plc32[i * 4 + j]? = some (.int .i64 (plcN i j : Int)) := by
  have hlen : plcL.length = 32 := by decide +kernel
  rw [plc32_eq, List.getElem?_map, List.getElem?_eq_getElem (show i * 4 + j < plcL.length by omega)]
  simp [plcN, show i * 4 + j < plcL.length by omega]
/-- The four places of stir i, as cells. -/
def plcRow (i : Nat) : List Value := [.int .i64 (plcN i 0 : Int), .int .i64 (plcN i 1 : Int), .int .i64 (plcN i 2 : Int), .int .i64 (plcN i 3 : Int)]
theorem plcRow_get (i j : Nat) (v : Value) (h : (plcRow i)[j]? = some v) (hi : i < 8) : plc32[i * 4 + j]? = some v := by
  have hj : j < 4 := (List.getElem?_eq_some_iff.1 h).1
  rw [plc32_get i j hi hj, ← h]
  obtain rfl | rfl | rfl | rfl : j = 0 ∨ j = 1 ∨ j = 2 ∨ j = 3 := by omega
  all_goals rfl
abbrev z4 : Array Value := #[.int .i64 0, .int .i64 0, .int .i64 0, .int .i64 0]
theorem z4_get : ∀ j, j < 4 → (z4[j]?).isSome = true := by decide
abbrev z32 : Array Value := #[.int .i64 0, .int .i64 0, .int .i64 0, .int .i64 0, .int .i64 0, .int .i64 0, .int .i64 0, .int .i64 0, .int .i64 0, .int .i64 0, .int .i64 0, .int .i64 0, .int .i64 0, .int .i64 0, .int .i64 0, .int .i64 0, .int .i64 0, .int .i64 0, .int .i64 0, .int .i64 0, .int .i64 0, .int .i64 0, .int .i64 0, .int .i64 0, .int .i64 0, .int .i64 0, .int .i64 0, .int .i64 0, .int .i64 0, .int .i64 0, .int .i64 0, .int .i64 0]
theorem z32_get : ∀ j, j < 32 → (z32[j]?).isSome = true := by decide
theorem plc32_one : plc32.toArray.all (·.oneCell') = true := all_oneCell_toArray (fun v hv => by rw [plc32_eq] at hv; obtain ⟨x, _, rfl⟩ := List.mem_map.1 hv; rfl)
theorem plcRow_one (i : Nat) : (plcRow i).toArray.all (·.oneCell') = true := all_oneCell_toArray (fun v hv => by
  simp only [plcRow, List.mem_cons, List.not_mem_nil, or_false] at hv
  rcases hv with rfl | rfl | rfl | rfl <;> rfl)

theorem there_new (w : World) (C : Array Value) (t : TypeId) (b n : Nat) (hb : b = w.heap.size) (hn : n ≤ C.size) : (w.alloc (.cells C t)).there b 0 n := by
  subst hb
  intro j hj
  rw [Nat.zero_add, World.cell?_alloc_new, World.frozen?_alloc_new]
  exact ⟨by simp [Array.getElem?_eq_getElem (show j < C.size by omega)], rfl⟩
theorem there_far {w : World} {b b' o n : Nat} (h : w.there b o n) (vs : List Value) : (w.setCells b' 0 vs).there b o n := World.there_setCells h _ _ _

abbrev hexS : ByteArray := ⟨#[48, 49, 50, 51, 52, 53, 54, 55, 56, 57, 97, 98, 99, 100, 101, 102]⟩
/-- The sign of a digit. -/
def hexB (d : Nat) : Int := PlainAid.bt hexS d
theorem hexB_inj : ∀ i, i < 16 → ∀ j, j < 16 → i ≠ j → (hexB i == hexB j) = false := by decide

end Go.Proofs.YtkcnpcjogfhkbaaGreatDoor.F
namespace Go.Proofs.YtkcnpcjogfhkbaaGreatDoor.F
open Go.RowKit

theorem pow_lt (j : Nat) (h : j < 4) : 256 ^ j < 4294967296 := by
  obtain rfl | rfl | rfl | rfl : j = 0 ∨ j = 1 ∨ j = 2 ∨ j = 3 := by omega
  all_goals decide
end Go.Proofs.YtkcnpcjogfhkbaaGreatDoor.F
namespace Go.Proofs.YtkcnpcjogfhkbaaGreatDoor.F
open Go.RowKit

def rowSs : List ByteArray := [⟨#[48, 49, 50, 51, 52, 53, 54, 55, 56, 57, 97, 98, 99, 100, 101, 102]⟩, ⟨#[101, 97, 52, 56, 57, 102, 100, 54, 49, 99, 48, 50, 98, 55, 53, 51]⟩, ⟨#[98, 56, 99, 48, 53, 50, 102, 100, 97, 101, 51, 54, 55, 49, 57, 52]⟩, ⟨#[55, 57, 51, 49, 100, 99, 98, 101, 50, 54, 53, 97, 52, 48, 102, 56]⟩, ⟨#[57, 48, 53, 55, 50, 52, 97, 102, 101, 49, 98, 99, 54, 56, 51, 100]⟩, ⟨#[50, 99, 54, 97, 48, 98, 56, 51, 52, 100, 55, 53, 102, 101, 49, 57]⟩, ⟨#[99, 53, 49, 102, 101, 100, 52, 97, 48, 55, 54, 51, 57, 50, 56, 98]⟩, ⟨#[100, 98, 55, 101, 99, 49, 51, 57, 53, 48, 102, 52, 56, 54, 50, 97]⟩, ⟨#[54, 102, 101, 57, 98, 51, 48, 56, 99, 50, 100, 55, 49, 52, 97, 53]⟩, ⟨#[97, 50, 56, 52, 55, 54, 49, 53, 102, 98, 57, 101, 51, 99, 100, 48]⟩]
def rowS (r : Nat) : ByteArray := rowSs.getD r ByteArray.empty
theorem rowS_size : ∀ r, r < 10 → (rowS r).size = 16 := by decide
theorem rowS_bt : ∀ r, r < 10 → ∀ j, j < 16 → PlainAid.bt (rowS r) j = hexB (ordN r j) := by decide +kernel

theorem ownsRow_lt {w : World} {base n g : Nat} {e : TypeId} {size : Nat} {v : Value} {xs : List Value} (h : w.ownsRow base e size v n xs) (hg : v.ownBlock = some g) : g < w.heap.size := by
  rcases h.2 with ⟨rfl, _⟩ | ⟨g', cap, cur, rfl, _, hc, _⟩
  · cases hg
  · simp [Value.ownBlock] at hg
    subst hg
    exact (Array.getElem?_eq_some_iff.1 hc).1
theorem ownsRow_keep {w w' : World} {base n : Nat} {e : TypeId} {size : Nat} {v : Value} {xs : List Value} (h : w.ownsRow base e size v n xs) (hb : ∀ k, k < w.heap.size → w'.heap[k]? = w.heap[k]?) : w'.ownsRow base e size v n xs := by
  refine ⟨h.1, ?_⟩
  rcases h.2 with hn | ⟨g, cap, cur, hv, hbg, hc, rest⟩
  · exact .inl hn
  · exact .inr ⟨g, cap, cur, hv, hbg, by rw [hb g (Array.getElem?_eq_some_iff.1 hc).1]; exact hc, rest⟩

theorem grown_below {B : Nat} {u w w' : World} {row : Option Nat} (h : Below B u w) (hg : w.grownBy w' row) (hr : ∀ k, row = some k → B ≤ k) (hB : B ≤ w.heap.size) : Below B u w' := h.grown hg hB hr
theorem ownsRow_ge {w : World} {base n g : Nat} {e : TypeId} {size : Nat} {v : Value} {xs : List Value} (h : w.ownsRow base e size v n xs) (hg : v.ownBlock = some g) : base ≤ g := by
  rcases h.2 with ⟨rfl, _⟩ | ⟨g', cap, cur, rfl, hb, hc, _⟩
  · cases hg
  · simp [Value.ownBlock] at hg
    subst hg
    exact hb

end Go.Proofs.YtkcnpcjogfhkbaaGreatDoor.F
namespace Go.Proofs.YtkcnpcjogfhkbaaGreatDoor.F
open Go.RowKit

theorem mixed : Tryz.prog.follows .mixedOrders = true := by kernel_rfl

end Go.Proofs.YtkcnpcjogfhkbaaGreatDoor.F
