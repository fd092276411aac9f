/- The walk of a folder's press. -/
import Derived.Test.YteomefhjglnghaaDoorFFol
set_option linter.unusedSimpArgs false
set_option linter.unusedVariables false
set_option maxRecDepth 100000
namespace Go.Proofs.YteomefhjglnghaaDoor.F
open Go.RowKit

set_option maxRecDepth 100000 in
set_option maxHeartbeats 1000000 in
theorem folPress_any (b : Nat) (f : Fol) (ok : f.ok) (last : Bool) (w : World) (hF : FAt w b f) (hb2 : 2 < b) (hT : Tabs w) (hS : Starts w) :
    Calls Tryd.prog 51 #[.pointer (some ⟨b, 0, none⟩), .bool last] w fun e w' => e = .returned (.tuple #[]) ∧ FAt w' b (pressF f last) ∧ But b w w' := by
  have hT0 : Hid (2 < w.heap.size) := hT.size
  have hu27 := Tryd.underlying72
  have hu57 := Tryd.underlying82
  have i27 : (Tryd.prog.info? 72).map (·.size) = some (arr f.h).toList.length := by rw [size27, Array.length_toList, arr_size, ok.1]
  have i57 : (Tryd.prog.info? 82).map (·.size) = some (barr f.p).toList.length := by rw [size57, Array.length_toList, barr_size, ok.2.1]
  go_enter Tryd.func51, Tryd.ntmps51
  go_wp2_with fail
  have HS : Hid (∀ w', Below w.heap.size w w' → (w'.rangeAt b 8 (barr f.p).toList ∧ w'.cell? ⟨b, 73, none⟩ = some (.int .u64 (f.n : Int)))) := fun w' h => ⟨(hF.of_below h hF.lt).piece ok, (hF.of_below h hF.lt).n ok⟩
  have HW : Hid (∀ w', Below w.heap.size w w' → w'.rangeAt b 0 (arr f.h).toList) := fun w' h => (hF.of_below h hF.lt).words ok
  have b0 : Hid (Below w.heap.size w w.drew) := (Below.refl _ _).drew
  refine wp_region_held_drew (S := fun w' => w'.rangeAt b 8 (barr f.p).toList ∧ w'.cell? ⟨b, 73, none⟩ = some (.int .u64 (f.n : Int))) (by kernel_rfl) (HS.out _ b0.out) (fun hHeld => ?_)
  refine wpAnyH_take (i := 0) (v := .pointer (some ⟨b, 0, none⟩)) rfl (by kernel_rfl) (by kernel_rfl) (by kernel_rfl) (fun _ _ _ h => h) (Or.inl ⟨by rfl, ?_⟩) hHeld ?_
  · intro w _; go_simp
  simp only [Act.put, List.getElem_toArray, List.getElem_cons_succ, List.getElem_cons_zero, List.setIfInBounds_toArray, List.set_cons_zero, List.set_cons_succ, Array.toArray_toList]
  refine wpAnyH_take (i := 1) (v := .pointer (some ⟨b, 0, none⟩)) rfl (by kernel_rfl) (by kernel_rfl) (by kernel_rfl) (fun _ _ _ h => h) (Or.inl ⟨by rfl, ?_⟩) hHeld ?_
  · intro w _; go_simp
  simp only [Act.put, List.getElem_toArray, List.getElem_cons_succ, List.getElem_cons_zero, List.setIfInBounds_toArray, List.set_cons_zero, List.set_cons_succ, Array.toArray_toList]
  refine wpAnyH_take (i := 2) (v := .pointer (some ⟨b, 0, none⟩)) rfl (by kernel_rfl) (by kernel_rfl) (by kernel_rfl) (fun _ _ _ h => h) (Or.inl ⟨by rfl, ?_⟩) hHeld ?_
  · intro w _; go_simp
  simp only [Act.put, List.getElem_toArray, List.getElem_cons_succ, List.getElem_cons_zero, List.setIfInBounds_toArray, List.set_cons_zero, List.set_cons_succ, Array.toArray_toList]
  refine wpAnyH_take (i := 3) (v := .pointer (some ⟨b, 0, none⟩)) rfl (by kernel_rfl) (by kernel_rfl) (by kernel_rfl) (fun _ _ _ h => h) (Or.inl ⟨by rfl, ?_⟩) hHeld ?_
  · intro w _; go_simp
  simp only [Act.put, List.getElem_toArray, List.getElem_cons_succ, List.getElem_cons_zero, List.setIfInBounds_toArray, List.set_cons_zero, List.set_cons_succ, Array.toArray_toList]
  refine wpAnyH_take (i := 5) (v := .pointer (some ⟨b, 0, none⟩)) rfl (by kernel_rfl) (by kernel_rfl) (by kernel_rfl) (fun _ _ _ h => h) (Or.inl ⟨by rfl, ?_⟩) hHeld ?_
  · intro w _; go_simp
  simp only [Act.put, List.getElem_toArray, List.getElem_cons_succ, List.getElem_cons_zero, List.setIfInBounds_toArray, List.set_cons_zero, List.set_cons_succ, Array.toArray_toList]
  refine wpAnyH_take (i := 6) (v := .pointer (some ⟨b, 0, none⟩)) rfl (by kernel_rfl) (by kernel_rfl) (by kernel_rfl) (fun _ _ _ h => h) (Or.inl ⟨by rfl, ?_⟩) hHeld ?_
  · intro w _; go_simp
  simp only [Act.put, List.getElem_toArray, List.getElem_cons_succ, List.getElem_cons_zero, List.setIfInBounds_toArray, List.set_cons_zero, List.set_cons_succ, Array.toArray_toList]
  refine wpAnyH_take (i := 7) (v := .pointer (some ⟨b, 8, none⟩)) rfl (by kernel_rfl) (by kernel_rfl) (by kernel_rfl) (fun _ _ _ h => h) (Or.inl ⟨by rfl, ?_⟩) hHeld ?_
  · intro w _; go_simp
  simp only [Act.put, List.getElem_toArray, List.getElem_cons_succ, List.getElem_cons_zero, List.setIfInBounds_toArray, List.set_cons_zero, List.set_cons_succ, Array.toArray_toList]
  refine wpAnyH_take (i := 10) (v := .pointer (some ⟨b, 0, none⟩)) rfl (by kernel_rfl) (by kernel_rfl) (by kernel_rfl) (fun _ _ _ h => h) (Or.inl ⟨by rfl, ?_⟩) hHeld ?_
  · intro w _; go_simp
  simp only [Act.put, List.getElem_toArray, List.getElem_cons_succ, List.getElem_cons_zero, List.setIfInBounds_toArray, List.set_cons_zero, List.set_cons_succ, Array.toArray_toList]
  refine wpAnyH_take (i := 11) (v := .pointer (some ⟨b, 0, none⟩)) rfl (by kernel_rfl) (by kernel_rfl) (by kernel_rfl) (fun _ _ _ h => h) (Or.inl ⟨by rfl, ?_⟩) hHeld ?_
  · intro w _; go_simp
  simp only [Act.put, List.getElem_toArray, List.getElem_cons_succ, List.getElem_cons_zero, List.setIfInBounds_toArray, List.set_cons_zero, List.set_cons_succ, Array.toArray_toList]
  refine wpAnyH_take (i := 12) (v := .pointer (some ⟨b, 73, none⟩)) rfl (by kernel_rfl) (by kernel_rfl) (by kernel_rfl) (fun _ _ _ h => h) (Or.inl ⟨by rfl, ?_⟩) hHeld ?_
  · intro w _; go_simp
  simp only [Act.put, List.getElem_toArray, List.getElem_cons_succ, List.getElem_cons_zero, List.setIfInBounds_toArray, List.set_cons_zero, List.set_cons_succ, Array.toArray_toList]
  refine wpAnyH_take (i := 14) (v := .bool last) rfl (by kernel_rfl) (by kernel_rfl) (by kernel_rfl) (fun _ _ _ h => h) (Or.inl ⟨by rfl, ?_⟩) hHeld ?_
  · intro w _; go_simp
  simp only [Act.put, List.getElem_toArray, List.getElem_cons_succ, List.getElem_cons_zero, List.setIfInBounds_toArray, List.set_cons_zero, List.set_cons_succ, Array.toArray_toList]
  refine wpAnyH_take (i := 8) rfl (by kernel_rfl) (by kernel_rfl) (by kernel_rfl) (fun _ _ _ h => h) (yieldsIf_load_mid (by rfl) 82 (.tmp 11) rfl _ 8 rfl (barr f.p).toList _ (fun _ h => h.1) hu57 rfl i57) hHeld ?_
  simp only [Act.put, List.getElem_toArray, List.getElem_cons_succ, List.getElem_cons_zero, List.setIfInBounds_toArray, List.set_cons_zero, List.set_cons_succ, Array.toArray_toList]
  refine wpAnyH_take (i := 13) (v := .int .u64 (f.n : Int)) rfl (by kernel_rfl) (by kernel_rfl) (by kernel_rfl) (fun _ _ _ h => h) (Or.inl ⟨by rfl, ?_⟩) hHeld ?_
  · intro w' hS'; obtain ⟨_, hc⟩ := hS'; go_simp
  simp only [Act.put, List.getElem_toArray, List.getElem_cons_succ, List.getElem_cons_zero, List.setIfInBounds_toArray, List.set_cons_zero, List.set_cons_succ, Array.toArray_toList]
  refine wpAnyH_ready (rs := [4, 9]) (by kernel_rfl) (by simp) ?_
  refine AllReadyH.cons rfl (fun K hK => ?_) (AllReadyH.cons rfl (fun K hK => ?_) AllReadyH.nil)
  · rw [if_pos (by rfl)]
    refine wp_load_mid 72 (.tmp 7) rfl b 0 rfl (arr f.h).toList _ (HW.out _ b0.out) hu27 rfl i27 ?_
    simp only [Act.put, List.getElem_toArray, List.getElem_cons_succ, List.getElem_cons_zero, List.setIfInBounds_toArray, List.set_cons_zero, List.set_cons_succ, Array.toArray_toList]
    refine hK.out _ _ (HS.out _ b0.out) (fun hHeld2 => ?_)
    clear hK K
    try simp only [Act.put, List.getElem_toArray, List.getElem_cons_succ, List.getElem_cons_zero, List.setIfInBounds_toArray, List.set_cons_zero, List.set_cons_succ, Array.toArray_toList]
    refine wpAnyH_ready (rs := [9]) (by kernel_rfl) (by simp) ?_
    refine AllReadyH.cons rfl (fun K hK => ?_) AllReadyH.nil
    go_simp
    refine (words_any f.p ok.2.1 _).mono ?_
    rintro e wa ⟨rfl, hbx⟩
    have b1 : Hid (Below w.heap.size w wa) := b0.out.trans (hbx.mono b0.out.size)
    clear hbx
    go_wp2_with fail
    refine hK.out _ _ (HS.out _ b1.out) (fun hHeld3 => ?_)
    clear hK K
    try simp only [Act.put, List.getElem_toArray, List.getElem_cons_succ, List.getElem_cons_zero, List.setIfInBounds_toArray, List.set_cons_zero, List.set_cons_succ, Array.toArray_toList]
    refine wpAnyH_ready (rs := [15]) (by kernel_rfl) (by simp) ?_
    refine AllReadyH.cons rfl (fun K hK => ?_) AllReadyH.nil
    go_simp
    refine (press_any f.h (wordsL f.p) ok.1 (wordsL_length _) f.n ok.2.2.2 last _ (hT.of_below b1.out hT0.out) (hS.of_below b1.out hT0.out)).mono ?_
    rintro e wp ⟨rfl, hbx⟩
    have b9 : Hid (Below w.heap.size w wp) := b1.out.trans (hbx.mono b1.out.size)
    clear hbx
    go_wp2_with fail
    refine hK.out _ _ (HS.out _ b9.out) (fun hHeld9 => ?_)
    clear hK K
    try simp only [Act.put, List.getElem_toArray, List.getElem_cons_succ, List.getElem_cons_zero, List.setIfInBounds_toArray, List.set_cons_zero, List.set_cons_succ, Array.toArray_toList]
    have hP : (pressL f.h (wordsL f.p) f.n last).length = 8 := by rw [pressL_length, ok.1]
    have hPe : Hid (pressF f last = { h := pressL f.h (wordsL f.p) f.n last, p := List.replicate 64 0, held := 0, n := f.n }) := rfl
    have hF9 := hF.of_below b9.out hF.lt
    generalize pressL f.h (wordsL f.p) f.n last = H' at *
    refine wpAnyH_take (i := 16) (v := .pointer (some ⟨b, 0, none⟩)) rfl (by kernel_rfl) (by kernel_rfl) (by kernel_rfl) (fun _ _ _ h => h) (Or.inl ⟨by rfl, ?_⟩) hHeld9 ?_
    · intro w _; go_simp
    simp only [Act.put, List.getElem_toArray, List.getElem_cons_succ, List.getElem_cons_zero, List.setIfInBounds_toArray, List.set_cons_zero, List.set_cons_succ, Array.toArray_toList]
    refine wpAnyH_take (i := 17) (v := .pointer (some ⟨b, 0, none⟩)) rfl (by kernel_rfl) (by kernel_rfl) (by kernel_rfl) (fun _ _ _ h => h) (Or.inl ⟨by rfl, ?_⟩) hHeld9 ?_
    · intro w _; go_simp
    simp only [Act.put, List.getElem_toArray, List.getElem_cons_succ, List.getElem_cons_zero, List.setIfInBounds_toArray, List.set_cons_zero, List.set_cons_succ, Array.toArray_toList]
    have t9 : wp.there b 0 (arr H').size := by rw [arr_size, hP]; exact hF9.there ok 0 8 (by omega)
    have i9 : (Tryd.prog.info? 72).map (·.size) = some (arr H').size := by rw [size27, arr_size, hP]
    have ok1 : Fol.ok { f with h := H' } := ⟨hP, ok.2.1, ok.2.2.1, ok.2.2.2⟩
    have hF10 := hF9.setWords ok H' hP
    refine wpAnyH_ready (rs := [18]) (by kernel_rfl) (by simp) ?_
    refine AllReadyH.cons rfl (fun K hK => ?_) AllReadyH.nil
    rw [if_pos (by rfl)]
    refine wp_store_mid 72 (.tmp 21) (.tmp 19) rfl b 0 (arr H') rfl rfl t9 i9 (arr_one H') ?_
    try simp only [Act.put, List.getElem_toArray, List.getElem_cons_succ, List.getElem_cons_zero, List.setIfInBounds_toArray, List.set_cons_zero, List.set_cons_succ, Array.toArray_toList]
    refine hK.out _ _ ⟨hF10.piece ok1, hF10.n ok1⟩ (fun hHeld10 => ?_)
    clear hK K
    try simp only [Act.put, List.getElem_toArray, List.getElem_cons_succ, List.getElem_cons_zero, List.setIfInBounds_toArray, List.set_cons_zero, List.set_cons_succ, Array.toArray_toList]
    refine wpAnyH_done (by kernel_rfl) ?_ _
    have bX : Hid (But b w (wp.setCells b 0 (arr H').toList)) := But.setOwn _ _ _ ⟨b9.out.os, b9.out.tape, b9.out.output, b9.out.size, fun k hk _ => b9.out.block k hk⟩
    clear hHeld10 hHeld9 t9
    generalize wp.setCells b 0 (arr H').toList = X at *
    have t57 : X.there b 8 (barr (List.replicate 64 0)).size := hF10.there ok1 8 64 (by omega)
    have ok2 : Fol.ok { h := H', p := List.replicate 64 0, held := f.held, n := f.n } := ⟨hP, by simp, ok.2.2.1, ok.2.2.2⟩
    have HZ : Hid (∀ Z, X.setCells b 8 (barr (List.replicate 64 0)).toList = Z → FAt Z b { h := H', p := List.replicate 64 0, held := f.held, n := f.n } ∧ But b w Z) := fun Z hZ => by rw [← hZ]; exact ⟨hF10.setPiece ok1 _ (by simp), But.setOwn _ _ _ bX.out⟩
    have i57' : (Tryd.prog.info? 82).map (·.size) = some (barr (List.replicate 64 0)).size := by rw [size57, barr_size]; simp
    have o57 := barr_one (List.replicate 64 0)
    go_wp2_with (refine wpList_store_mid rfl 82 (.tmp 25) (.tmp 23) rfl b 8 (barr (List.replicate 64 0)) rfl rfl t57 i57' o57 ?_; generalize hZ : X.setCells b 8 (barr (List.replicate 64 0)).toList = Z; have hFZ := HZ.out _ hZ; have c72 := hFZ.1.held ok2; have f72 := hFZ.1.frozen 72; clear hZ)
    go_end0
    refine ⟨rfl, ?_, hFZ.2.setCell _ _⟩
    rw [hPe.out]
    exact hFZ.1.setHeld ok2 0
  · go_simp
    refine (words_any f.p ok.2.1 _).mono ?_
    rintro e wa ⟨rfl, hbx⟩
    have b1 : Hid (Below w.heap.size w wa) := b0.out.trans (hbx.mono b0.out.size)
    clear hbx
    go_wp2_with fail
    refine hK.out _ _ (HS.out _ b1.out) (fun hHeld2 => ?_)
    clear hK K
    try simp only [Act.put, List.getElem_toArray, List.getElem_cons_succ, List.getElem_cons_zero, List.setIfInBounds_toArray, List.set_cons_zero, List.set_cons_succ, Array.toArray_toList]
    refine wpAnyH_ready (rs := [4]) (by kernel_rfl) (by simp) ?_
    refine AllReadyH.cons rfl (fun K hK => ?_) AllReadyH.nil
    rw [if_pos (by rfl)]
    refine wp_load_mid 72 (.tmp 7) rfl b 0 rfl (arr f.h).toList _ (HW.out _ b1.out) hu27 rfl i27 ?_
    simp only [Act.put, List.getElem_toArray, List.getElem_cons_succ, List.getElem_cons_zero, List.setIfInBounds_toArray, List.set_cons_zero, List.set_cons_succ, Array.toArray_toList]
    refine hK.out _ _ (HS.out _ b1.out) (fun hHeld3 => ?_)
    clear hK K
    try simp only [Act.put, List.getElem_toArray, List.getElem_cons_succ, List.getElem_cons_zero, List.setIfInBounds_toArray, List.set_cons_zero, List.set_cons_succ, Array.toArray_toList]
    refine wpAnyH_ready (rs := [15]) (by kernel_rfl) (by simp) ?_
    refine AllReadyH.cons rfl (fun K hK => ?_) AllReadyH.nil
    go_simp
    refine (press_any f.h (wordsL f.p) ok.1 (wordsL_length _) f.n ok.2.2.2 last _ (hT.of_below b1.out hT0.out) (hS.of_below b1.out hT0.out)).mono ?_
    rintro e wp ⟨rfl, hbx⟩
    have b9 : Hid (Below w.heap.size w wp) := b1.out.trans (hbx.mono b1.out.size)
    clear hbx
    go_wp2_with fail
    refine hK.out _ _ (HS.out _ b9.out) (fun hHeld9 => ?_)
    clear hK K
    try simp only [Act.put, List.getElem_toArray, List.getElem_cons_succ, List.getElem_cons_zero, List.setIfInBounds_toArray, List.set_cons_zero, List.set_cons_succ, Array.toArray_toList]
    have hP : (pressL f.h (wordsL f.p) f.n last).length = 8 := by rw [pressL_length, ok.1]
    have hPe : Hid (pressF f last = { h := pressL f.h (wordsL f.p) f.n last, p := List.replicate 64 0, held := 0, n := f.n }) := rfl
    have hF9 := hF.of_below b9.out hF.lt
    generalize pressL f.h (wordsL f.p) f.n last = H' at *
    refine wpAnyH_take (i := 16) (v := .pointer (some ⟨b, 0, none⟩)) rfl (by kernel_rfl) (by kernel_rfl) (by kernel_rfl) (fun _ _ _ h => h) (Or.inl ⟨by rfl, ?_⟩) hHeld9 ?_
    · intro w _; go_simp
    simp only [Act.put, List.getElem_toArray, List.getElem_cons_succ, List.getElem_cons_zero, List.setIfInBounds_toArray, List.set_cons_zero, List.set_cons_succ, Array.toArray_toList]
    refine wpAnyH_take (i := 17) (v := .pointer (some ⟨b, 0, none⟩)) rfl (by kernel_rfl) (by kernel_rfl) (by kernel_rfl) (fun _ _ _ h => h) (Or.inl ⟨by rfl, ?_⟩) hHeld9 ?_
    · intro w _; go_simp
    simp only [Act.put, List.getElem_toArray, List.getElem_cons_succ, List.getElem_cons_zero, List.setIfInBounds_toArray, List.set_cons_zero, List.set_cons_succ, Array.toArray_toList]
    have t9 : wp.there b 0 (arr H').size := by rw [arr_size, hP]; exact hF9.there ok 0 8 (by omega)
    have i9 : (Tryd.prog.info? 72).map (·.size) = some (arr H').size := by rw [size27, arr_size, hP]
    have ok1 : Fol.ok { f with h := H' } := ⟨hP, ok.2.1, ok.2.2.1, ok.2.2.2⟩
    have hF10 := hF9.setWords ok H' hP
    refine wpAnyH_ready (rs := [18]) (by kernel_rfl) (by simp) ?_
    refine AllReadyH.cons rfl (fun K hK => ?_) AllReadyH.nil
    rw [if_pos (by rfl)]
    refine wp_store_mid 72 (.tmp 21) (.tmp 19) rfl b 0 (arr H') rfl rfl t9 i9 (arr_one H') ?_
    try simp only [Act.put, List.getElem_toArray, List.getElem_cons_succ, List.getElem_cons_zero, List.setIfInBounds_toArray, List.set_cons_zero, List.set_cons_succ, Array.toArray_toList]
    refine hK.out _ _ ⟨hF10.piece ok1, hF10.n ok1⟩ (fun hHeld10 => ?_)
    clear hK K
    try simp only [Act.put, List.getElem_toArray, List.getElem_cons_succ, List.getElem_cons_zero, List.setIfInBounds_toArray, List.set_cons_zero, List.set_cons_succ, Array.toArray_toList]
    refine wpAnyH_done (by kernel_rfl) ?_ _
    have bX : Hid (But b w (wp.setCells b 0 (arr H').toList)) := But.setOwn _ _ _ ⟨b9.out.os, b9.out.tape, b9.out.output, b9.out.size, fun k hk _ => b9.out.block k hk⟩
    clear hHeld10 hHeld9 t9
    generalize wp.setCells b 0 (arr H').toList = X at *
    have t57 : X.there b 8 (barr (List.replicate 64 0)).size := hF10.there ok1 8 64 (by omega)
    have ok2 : Fol.ok { h := H', p := List.replicate 64 0, held := f.held, n := f.n } := ⟨hP, by simp, ok.2.2.1, ok.2.2.2⟩
    have HZ : Hid (∀ Z, X.setCells b 8 (barr (List.replicate 64 0)).toList = Z → FAt Z b { h := H', p := List.replicate 64 0, held := f.held, n := f.n } ∧ But b w Z) := fun Z hZ => by rw [← hZ]; exact ⟨hF10.setPiece ok1 _ (by simp), But.setOwn _ _ _ bX.out⟩
    have i57' : (Tryd.prog.info? 82).map (·.size) = some (barr (List.replicate 64 0)).size := by rw [size57, barr_size]; simp
    have o57 := barr_one (List.replicate 64 0)
    go_wp2_with (refine wpList_store_mid rfl 82 (.tmp 25) (.tmp 23) rfl b 8 (barr (List.replicate 64 0)) rfl rfl t57 i57' o57 ?_; generalize hZ : X.setCells b 8 (barr (List.replicate 64 0)).toList = Z; have hFZ := HZ.out _ hZ; have c72 := hFZ.1.held ok2; have f72 := hFZ.1.frozen 72; clear hZ)
    go_end0
    refine ⟨rfl, ?_, hFZ.2.setCell _ _⟩
    rw [hPe.out]
    exact hFZ.1.setHeld ok2 0
end Go.Proofs.YteomefhjglnghaaDoor.F
