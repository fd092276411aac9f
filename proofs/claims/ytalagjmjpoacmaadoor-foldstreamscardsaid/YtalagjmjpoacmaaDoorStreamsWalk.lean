/- The walks of the reference's Stream and of the law FoldStreams. -/
import Derived.Test.YtalagjmjpoacmaaDoorStream
set_option linter.unusedSimpArgs false
set_option linter.unusedVariables false
namespace Go.Proofs.YtalagjmjpoacmaaDoor
open Go.RowKit

set_option maxHeartbeats 400000 in
theorem refStream_bad (seed label : ByteArray) (n : Int) (hn : n < 0 ∨ 65536 < n) (w : World) :
    Calls Tryd.prog 22 #[.string seed, .string label, .int .i64 n] w fun e w' => e = .returned (.tuple #[.string ⟨#[]⟩, .bool false]) ∧ w' = w := by
  go_enter Tryd.func22, Tryd.ntmps22
  rcases hn with h | h
  · go_wp2_with fail
    go_ret2
    exact ⟨rfl, rfl⟩
  · have h0 : 0 ≤ n := by omega
    go_wp2_with fail
    go_ret2
    exact ⟨rfl, rfl⟩

theorem ext_take (s : ByteArray) (n : Nat) : s.extract 0 n = ⟨(s.data.toList.take n).toArray⟩ := by
  apply ByteArray.ext
  rw [ByteArray.data_extract]
  apply Array.toList_inj.1
  simp [Array.toList_extract, List.extract_eq_take_drop]

set_option maxRecDepth 100000 in
set_option maxHeartbeats 1000000 in
theorem refStream_any (seed label : ByteArray) (n : Nat) (hn : n ≤ 65536) (hs : seed.size < 1125899906842624) (hl : label.size < 1125899906842624) (w : World) :
    Calls Tryd.prog 22 #[.string seed, .string label, .int .i64 (n : Int)] w fun e w' => e = .returned (.tuple #[.string ⟨((streamL (blockL seed label) (blocksOf n)).take n).toArray⟩, .bool true]) ∧ Below w.heap.size w w' := by
  have hBl : Hid (∀ k, (blockL seed label k).length = 32) := blockL_length seed label
  have hBd : Hid (∀ k, blockL seed label k = digL (hK 0) (partsL (streamB :: [seed, label, fourB k]))) := fun k => rfl
  generalize hB0 : blockL seed label = B at *
  have HB0 : Hid (blockL seed label = B) := hB0
  clear hB0
  obtain ⟨M, hM⟩ : ∃ M, M = blocksOf n := ⟨_, rfl⟩
  have HM : Hid (M = (n + 31) / 32) := hM
  have HMb : Hid (blocksOf n = M) := hM.symm
  clear hM
  go_enter Tryd.func22, Tryd.ntmps22
  go_wp2_with fail
  go_loopg [8, 9] M (fun gk v8 v9 wr => ∃ (i : Nat) (S : ByteArray), i + gk = M ∧ v9 = .int .i64 i ∧ v8 = .string S ∧ S.data.toList = streamL B i ∧ Below w.heap.size w wr)
  case atStart => exact ⟨0, ⟨#[]⟩, by omega, rfl, rfl, rfl, Below.refl _ _⟩
  case round =>
    obtain ⟨i, S, hi, rfl, rfl, hS, h3⟩ := hrel
    have hsz : S.size = 32 * i := by rw [Lib.size_eq, hS, streamL_length hBl.out]
    have HS : Hid (S.data.toList = streamL B i) := hS
    have H3 : Hid (Below w.heap.size w wr) := h3
    have hM := HM.out
    clear hS h3
    by_cases hlM : i < M
    · have hlt : (S.size : Int) < (n : Int) := by omega
      have hi5 : i < 65536 := by omega
      have hs5 : S.size < 2097152 := by omega
      clear hsz hM
      go_wp2_with fail
      refine (refFourB_any i (by omega) wr).mono ?_
      rintro e V ⟨rfl, hbV⟩
      have HV : Hid (Below w.heap.size w V) := H3.out.trans (hbV.mono H3.out.size)
      have hfb : (⟨(fourL i).toArray⟩ : ByteArray) = fourB i := rfl
      rw [hfb]
      have hnx : Hid (streamL B (i + 1) = streamL B i ++ digL (hK 0) (partsL (streamB :: [seed, label, fourB i]))) := by show _ = _; rw [← hBd.out]; rfl
      have hf4 := fourB_size i
      generalize fourB i = FB at *
      clear hfb hbV
      go_wp2_with fail
      have sl : SAt (V.alloc (Obj.cells #[Value.string seed, Value.string label, Value.string FB] 9)) (some ⟨V.heap.size, 0, none⟩) [seed, label, FB] := SAt.new V [seed, label, FB] 9
      have HV2 : Hid (Below w.heap.size w (V.alloc (Obj.cells #[Value.string seed, Value.string label, Value.string FB] 9))) := HV.out.alloc HV.out.size _
      generalize V.alloc (Obj.cells #[Value.string seed, Value.string label, Value.string FB] 9) = V2 at *
      refine (refTag_any streamB (some ⟨V.heap.size, 0, none⟩) 3 [seed, label, FB] V2 sl (by simp) (by decide) (by
        intro j hj
        have hj' : j < 3 := hj
        obtain rfl | rfl | rfl : j = 0 ∨ j = 1 ∨ j = 2 := by omega
        · show seed.size < _; omega
        · show label.size < _; omega
        · show FB.size < _; omega) (by
        rw [parts4_length]
        have : streamB.size = 6 := rfl
        omega)).mono ?_
      rintro e V3 ⟨rfl, hb3⟩
      have HV3 : Hid (Below w.heap.size w V3) := HV2.out.trans (hb3.mono HV2.out.size)
      have hdl := digL_length (hK 0) (partsL (streamB :: [seed, label, FB]))
      generalize digL (hK 0) (partsL (streamB :: [seed, label, FB])) = D at *
      clear sl hb3
      go_wp2_with fail
      go_roundg (gk - 1)
      case measure => omega
      case rel => exact ⟨i + 1, _, by omega, by go_num, rfl, by rw [bytes_append, HS.out, hnx.out], HV3.out⟩
    · obtain rfl : i = M := by omega
      have hge : (n : Int) ≤ (S.size : Int) := by omega
      clear hsz hM
      go_wp2_with fail
      go_ret2
      exact ⟨by rw [HMb.out, ← HS.out, ← ext_take]; rfl, H3.out⟩

set_option maxRecDepth 100000 in
set_option maxHeartbeats 400000 in
theorem foldStreams_walk (seed label : ByteArray) (n : Int) (hs : seed.size < 1125899906842624) (hl : label.size < 1125899906842624) (w : World) (hT : Tabs w) (hS : Starts w) :
    Calls Tryd.prog 8 #[.string seed, .string label, .int .i64 n] w fun e w' => e = .returned (.bool true) ∧ Below w.heap.size w w' := by
  go_enter Tryd.func8, Tryd.ntmps8
  by_cases hn : 0 ≤ n ∧ n ≤ 65536
  · obtain ⟨m, rfl⟩ := Int.eq_ofNat_of_zero_le hn.1
    go_wp2_with fail
    refine (stream_any seed label m (by omega) (by omega) (by omega) w hT hS).mono ?_
    rintro e X ⟨rfl, hbX⟩
    have HB : Hid (Below w.heap.size w X) := hbX
    have HR : Hid (Calls Tryd.prog 22 #[.string seed, .string label, .int .i64 (m : Int)] X fun e w' => e = .returned (.tuple #[.string ⟨((streamL (blockL seed label) (blocksOf m)).take m).toArray⟩, .bool true]) ∧ Below X.heap.size X w') := refStream_any seed label m (by omega) hs hl X
    clear hbX
    generalize (streamL (blockL seed label) (blocksOf m)).take m = D at *
    go_wp2_with fail
    refine HR.out.mono ?_
    rintro e Z ⟨rfl, hbZ⟩
    have HZ : Hid (Below w.heap.size w Z) := HB.out.trans (hbZ.mono HB.out.size)
    clear hbZ
    go_wp2_with fail
    go_ret
    exact ⟨by simp, HZ.out⟩
  · have hn' : n < 0 ∨ 65536 < n := by omega
    go_wp2_with fail
    refine (stream_bad seed label n hn' w).mono ?_
    rintro e X ⟨rfl, rfl⟩
    go_wp2_with fail
    refine (refStream_bad seed label n hn' X).mono ?_
    rintro e Z ⟨rfl, rfl⟩
    go_wp2_with fail
    go_ret
    exact ⟨by simp, Below.refl _ _⟩
end Go.Proofs.YtalagjmjpoacmaaDoor
