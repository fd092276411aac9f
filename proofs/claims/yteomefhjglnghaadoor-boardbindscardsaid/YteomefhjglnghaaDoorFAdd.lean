/- The walk of add: a text goes into a folder. -/
import Derived.Test.YteomefhjglnghaaDoorFFolPress
import Derived.Test.YteomefhjglnghaaDoorFAddPlain
import Derived.Lib.LazyBuf
set_option linter.unusedSimpArgs false
set_option linter.unusedVariables false
set_option maxRecDepth 100000
namespace Go.Proofs.YteomefhjglnghaaDoor.F
open Go.RowKit

/-- 'copy' from a string of whatever length. -/
theorem run_copy_some (w : World) (dT sT ty elem : TypeId) (b o dLen dCap n : Nat) (t : ByteArray)
    (hu : Tryd.prog.underlying dT = some (.slice elem)) (hz : ∀ w, (Go.sizeOf elem).run Tryd.prog w = .ok 1 w) (hn : n = Nat.min t.size dLen)
    (ht : w.there b o n) :
    (Builtin.copy_ #[dT, sT] ty #[.slice (some ⟨b, o, none⟩) dLen dCap, .string t]).run Tryd.prog w = .ok (goInt n) (w.setCells b o ((t.data.toList.take n).map Y)) := by
  have hle : n ≤ t.size := by rw [hn]; exact Nat.min_le_left _ _
  have hl : ((t.data.toList.take n).map Y).length = n := by
    rw [List.length_map, List.length_take, ← Lib.size_eq]; omega
  have hst := run_storeCells_cells (P := Tryd.prog) b o ((t.data.toList.take n).map Y) 0 w (by rw [hl]; intro j hj; simpa using (ht j hj).1) (by rw [hl]; intro j hj; simpa using (ht j hj).2) (by
    intro v hv
    obtain ⟨x, _, rfl⟩ := List.mem_map.1 hv
    rfl)
  simp [Builtin.copy_, run_underlying hu, Builtin.lenOf, Builtin.firstCells, hz, ← hn]
  rw [← List.map_take, hst]
  rfl
theorem ext_end (s : ByteArray) (a : Nat) : (s.extract a s.size).data.toList = s.data.toList.drop a := by
  have h1 : s.data.toList.length = s.size := rfl
  simp only [ByteArray.data_extract, Array.toList_extract, List.extract_eq_take_drop]
  rw [List.take_of_length_le (by rw [List.length_drop, h1]; exact Nat.le_refl _)]
theorem Starts.of_but {w w' : World} {b : Nat} (h : Starts w) (hb : But b w w') (h2 : 2 < b) (hs : 2 < w.heap.size) : Starts w' :=
  ⟨fun i hi => by rw [hb.cell (by omega) (by omega)]; exact h.sta i hi⟩
theorem put_cells (A P C c : List Value) (o : Nat) (hA : A.length = 8) (hP : P.length = 64) (ho : o + c.length ≤ 64) :
    (A ++ (P ++ C)).take (8 + o) ++ c ++ (A ++ (P ++ C)).drop (8 + o + c.length) = A ++ ((P.take o ++ c ++ P.drop (o + c.length)) ++ C) := by
  have e1 : (A ++ (P ++ C)).take (8 + o) = A ++ P.take o := by
    rw [← hA, List.take_length_add_append, List.take_append_of_le_length (by omega)]
  have e2 : (A ++ (P ++ C)).drop (8 + o + c.length) = P.drop (o + c.length) ++ C := by
    rw [Nat.add_assoc, ← hA, List.drop_length_add_append, List.drop_append_of_le_length (by omega)]
  rw [e1, e2]; simp
/-- Some bytes of the piece are set. -/
theorem FAt.setPart {w : World} {b : Nat} {f : Fol} (h : FAt w b f) (ok : f.ok) (o : Nat) (c : List UInt8) (hc : o + c.length ≤ 64) : FAt (w.setCells b (8 + o) (c.map Y)) b { f with p := f.p.take o ++ c ++ f.p.drop (o + c.length) } := by
  have l1 : (f.h.map U).length = 8 := by simp [ok.1]
  have l2 : (f.p.map Y).length = 64 := by simp [ok.2.1]
  have := block_setCells (w := w) (c.map Y) (8 + o) (folC f) w h (by rw [folC_length ok]; simp; omega)
  unfold FAt
  rw [this]
  congr 2
  simp only [folC]
  rw [put_cells _ _ _ _ _ l1 l2 (by simpa using hc)]
  simp

set_option maxRecDepth 100000 in
set_option maxHeartbeats 1000000 in
theorem add_any (b : Nat) (h0 : List UInt32) (hh : h0.length = 8) (T : List UInt8) (f : Fol) (r : Rep h0 T f) (t : ByteArray) (hn : T.length + t.size < 18446744073709551616)
    (w : World) (hF : FAt w b f) (hb2 : 2 < b) (hT : Tabs w) (hS : Starts w) :
    Calls Tryd.prog 49 #[.pointer (some ⟨b, 0, none⟩), .string t] w fun e w' => e = .returned (.tuple #[]) ∧ (∃ f', Rep h0 (T ++ t.data.toList) f' ∧ FAt w' b f') ∧ But b w w' := by
  go_enter Tryd.func49, Tryd.ntmps49
  go_wp2_with fail
  go_loopg [1] t.size (fun k v wr => ∃ (s : ByteArray) (T' : List UInt8) (f' : Fol), s.size = k ∧ v = .string s ∧ T' ++ s.data.toList = T ++ t.data.toList ∧ Rep h0 T' f' ∧ FAt wr b f' ∧ But b w wr)
  case atStart => exact ⟨t, T, f, rfl, rfl, rfl, r, hF, But.refl _ _⟩
  case round =>
    obtain ⟨s, T', f', hk, rfl, hcat, r', hF', hb⟩ := hrel
    have HC : Hid (T' ++ s.data.toList = T ++ t.data.toList) := hcat
    have hlen : T'.length + s.size = T.length + t.size := by
      have := congrArg List.length hcat
      simpa [← Lib.size_eq] using this
    clear hcat
    have ok' : f'.ok := r'.ok hh (by omega)
    have HT : Hid (Tabs wr) := hT.of_but hb hb2
    have HS : Hid (Starts wr) := hS.of_but hb hb2 hT.size
    by_cases hs : s = ByteArray.mk #[]
    · subst hs
      go_wp2_with fail
      go_end0
      refine ⟨rfl, ⟨f', ?_, hF'⟩, hb⟩
      have := HC.out
      simp at this
      rw [← this]; exact r'
    · have hpos : 0 < s.size := by
        refine Nat.pos_of_ne_zero fun h => hs ?_
        exact ByteArray.ext (Array.eq_empty_of_size_eq_zero h)
      have hse : s.toList.isEmpty = false := by
        rw [Lib.toList_data]
        cases hq : s.data.toList with
        | nil => rw [Lib.size_eq, hq] at hpos; simp at hpos
        | cons _ _ => rfl
      clear hs
      have hnn := r'.n
      have c72 := hF'.held ok'
      by_cases hheld : f'.held = 64
      · have e64 : (f'.held : Int) = 64 := by omega
        go_wp2_with fail
        refine (folPress_any b f' ok' false wr hF' hb2 HT.out HS.out).mono ?_
        rintro e X ⟨rfl, HF, hbX⟩
        have okF := pressF_ok ok' false
        have HB : Hid (But b w X) := hb.trans hbX
        have HP : Hid (∀ c : List UInt8, 0 < c.length → (pressF f' false).held + c.length ≤ 64 → Rep h0 (T' ++ c) (putF (pressF f' false) c)) := fun c h1 h2 => r'.full c hheld (by simpa [pressF] using h2) h1
        have hlt : (pressF f' false).held < 64 := by simp [pressF]
        have hFn : (pressF f' false).n = T'.length := hnn
        clear c72 e64 hheld hnn hbX
        generalize pressF f' false = F at *
        go_wp2_with fail
        obtain ⟨m, hm⟩ : ∃ m, m = Nat.min s.size (64 - F.held) := ⟨_, rfl⟩
        have hm1 : m ≤ s.size := by rw [hm]; exact Nat.min_le_left _ _
        have hm2 : m ≤ 64 - F.held := by rw [hm]; exact Nat.min_le_right _ _
        have hm3 : 0 < m := by rw [hm]; exact Nat.lt_min.2 ⟨by omega, by omega⟩
        have hth : X.drew.there b (8 + F.held) m := (show FAt X.drew b F from HF).there okF _ _ (by omega)
        have hcp := run_copy_some X.drew 68 9 3 5 b (8 + F.held) (64 - F.held) (64 - F.held) m s Tryd.underlying68 sizeOf5 hm hth
        have hsl := fun w' => slice57_from b 8 (F.held : Int) F.held rfl hlt w'
        have c72 := HF.held okF
        have hcl : Hid ((s.data.toList.take m).length = m) := by show _ = _; rw [List.length_take, ← Lib.size_eq]; omega
        have HR : Hid (Rep h0 (T' ++ s.data.toList.take m) (putF F (s.data.toList.take m))) := HP.out _ (by rw [hcl.out]; exact hm3) (by rw [hcl.out]; omega)
        have HZ : Hid (FAt (X.drew.setCells b (8 + F.held) ((s.data.toList.take m).map Y)) b { F with p := (putF F (s.data.toList.take m)).p } ∧ But b w (X.drew.setCells b (8 + F.held) ((s.data.toList.take m).map Y))) := ⟨(show FAt X.drew b F from HF).setPart okF _ _ (by rw [hcl.out]; omega), But.setOwn _ _ _ HB.out.drew⟩
        have hpl : (putF F (s.data.toList.take m)).p.length = 64 := putF_length okF _ (by rw [hcl.out]; omega)
        have hpe : Hid (putF F (s.data.toList.take m) = { h := F.h, p := (putF F (s.data.toList.take m)).p, held := F.held + m, n := F.n + m }) := by show _ = _; simp only [putF, hcl.out]
        clear hm hth
        generalize X.drew.setCells b (8 + F.held) ((s.data.toList.take m).map Y) = Z at *
        generalize (putF F (s.data.toList.take m)).p = p' at *
        refine wp_region_still_tail 9 mixedW (by kernel_rfl) ?_
        simp only [List.take_succ_cons, List.take_zero, List.drop_succ_cons, List.drop_zero]
        show wpStill _ _ X.drew _ _ _
        repeat still_step
        refine wpStill_nil ?_
        clear c72
        have okZ : Fol.ok { F with p := p' } := ⟨okF.1, hpl, okF.2.2⟩
        have okZ2 : Fol.ok { F with p := p', held := F.held + m } := ⟨okF.1, hpl, by show F.held + m ≤ 64; omega, okF.2.2.2⟩
        have hF1 := HZ.out.1
        have hF2 : FAt (Z.setCell ⟨b, 72, none⟩ (.int .i64 ((F.held : Int) + (m : Int)))) b { F with p := p', held := F.held + m } := by have := hF1.setHeld okZ (F.held + m); rwa [Int.natCast_add] at this
        have c72 : Z.cell? ⟨b, 72, none⟩ = some (.int .i64 (F.held : Int)) := hF1.held okZ
        have f72 := hF1.frozen 72
        have k72 : IntKind.i64.wrap ((F.held : Int) + (m : Int)) = ((F.held : Int) + (m : Int)) := IntWalk.i64_in _ ⟨by omega, by omega⟩
        have c73 : (Z.setCell ⟨b, 72, none⟩ (.int .i64 ((F.held : Int) + (m : Int)))).cell? ⟨b, 73, none⟩ = some (.int .u64 (F.n : Int)) := hF2.n okZ2
        have f73 := hF2.frozen 73
        have n0 : F.n + m < 18446744073709551616 := by omega
        have k73 : IntKind.u64.wrap ((F.n : Int) + (m : Int)) = ((F.n : Int) + (m : Int)) := IntWalk.u64_in _ ⟨by omega, by omega⟩
        have k74 : IntKind.u64.wrap (m : Int) = (m : Int) := IntWalk.u64_in _ ⟨by omega, by omega⟩
        have HF3 : Hid (FAt ((Z.setCell ⟨b, 72, none⟩ (.int .i64 ((F.held : Int) + (m : Int)))).setCell ⟨b, 73, none⟩ (.int .u64 ((F.n : Int) + (m : Int)))) b { h := F.h, p := p', held := F.held + m, n := F.n + m }) := by have := hF2.setN okZ2 (F.n + m); rw [Int.natCast_add] at this; exact this
        have b0 : (0 : Int) ≤ (m : Int) := by omega
        have b1 : (m : Int) ≤ (s.size : Int) := by omega
        go_wp2_with fail
        go_roundg (s.size - m)
        case measure => omega
        case rel =>
          refine ⟨s.extract m s.size, T' ++ s.data.toList.take m, _, ?_, ?_, ?_, HR.out, ?_, (HZ.out.2.setCell _ _).setCell _ _⟩
          · rw [ByteArray.size_extract]; omega
          · rw [hk]
          · rw [ext_end, List.append_assoc, List.take_append_drop]; exact HC.out
          · rw [hpe.out, ← hFn]; exact HF3.out
      · have e64 : ¬ ((f'.held : Int) = 64) := by omega
        go_wp2_with fail
        have hlt : f'.held < 64 := by have := ok'.2.2.1; omega
        have HB : Hid (But b w wr) := hb
        have HP : Hid (∀ c : List UInt8, 0 < c.length → f'.held + c.length ≤ 64 → Rep h0 (T' ++ c) (putF f' c)) := fun c h1 h2 => r'.put c hlt h2
        have HF := hF'
        have okF := ok'
        have hFn := hnn
        clear c72 e64 hheld hnn
        generalize f' = F at *
        obtain ⟨m, hm⟩ : ∃ m, m = Nat.min s.size (64 - F.held) := ⟨_, rfl⟩
        have hm1 : m ≤ s.size := by rw [hm]; exact Nat.min_le_left _ _
        have hm2 : m ≤ 64 - F.held := by rw [hm]; exact Nat.min_le_right _ _
        have hm3 : 0 < m := by rw [hm]; exact Nat.lt_min.2 ⟨by omega, by omega⟩
        have hth : wr.drew.there b (8 + F.held) m := (show FAt wr.drew b F from HF).there okF _ _ (by omega)
        have hcp := run_copy_some wr.drew 68 9 3 5 b (8 + F.held) (64 - F.held) (64 - F.held) m s Tryd.underlying68 sizeOf5 hm hth
        have hsl := fun w' => slice57_from b 8 (F.held : Int) F.held rfl hlt w'
        have c72 := HF.held okF
        have hcl : Hid ((s.data.toList.take m).length = m) := by show _ = _; rw [List.length_take, ← Lib.size_eq]; omega
        have HR : Hid (Rep h0 (T' ++ s.data.toList.take m) (putF F (s.data.toList.take m))) := HP.out _ (by rw [hcl.out]; exact hm3) (by rw [hcl.out]; omega)
        have HZ : Hid (FAt (wr.drew.setCells b (8 + F.held) ((s.data.toList.take m).map Y)) b { F with p := (putF F (s.data.toList.take m)).p } ∧ But b w (wr.drew.setCells b (8 + F.held) ((s.data.toList.take m).map Y))) := ⟨(show FAt wr.drew b F from HF).setPart okF _ _ (by rw [hcl.out]; omega), But.setOwn _ _ _ HB.out.drew⟩
        have hpl : (putF F (s.data.toList.take m)).p.length = 64 := putF_length okF _ (by rw [hcl.out]; omega)
        have hpe : Hid (putF F (s.data.toList.take m) = { h := F.h, p := (putF F (s.data.toList.take m)).p, held := F.held + m, n := F.n + m }) := by show _ = _; simp only [putF, hcl.out]
        clear hm hth
        generalize wr.drew.setCells b (8 + F.held) ((s.data.toList.take m).map Y) = Z at *
        generalize (putF F (s.data.toList.take m)).p = p' at *
        refine wp_region_still_tail 9 mixedW (by kernel_rfl) ?_
        simp only [List.take_succ_cons, List.take_zero, List.drop_succ_cons, List.drop_zero]
        show wpStill _ _ wr.drew _ _ _
        repeat still_step
        refine wpStill_nil ?_
        clear c72
        have okZ : Fol.ok { F with p := p' } := ⟨okF.1, hpl, okF.2.2⟩
        have okZ2 : Fol.ok { F with p := p', held := F.held + m } := ⟨okF.1, hpl, by show F.held + m ≤ 64; omega, okF.2.2.2⟩
        have hF1 := HZ.out.1
        have hF2 : FAt (Z.setCell ⟨b, 72, none⟩ (.int .i64 ((F.held : Int) + (m : Int)))) b { F with p := p', held := F.held + m } := by have := hF1.setHeld okZ (F.held + m); rwa [Int.natCast_add] at this
        have c72 : Z.cell? ⟨b, 72, none⟩ = some (.int .i64 (F.held : Int)) := hF1.held okZ
        have f72 := hF1.frozen 72
        have k72 : IntKind.i64.wrap ((F.held : Int) + (m : Int)) = ((F.held : Int) + (m : Int)) := IntWalk.i64_in _ ⟨by omega, by omega⟩
        have c73 : (Z.setCell ⟨b, 72, none⟩ (.int .i64 ((F.held : Int) + (m : Int)))).cell? ⟨b, 73, none⟩ = some (.int .u64 (F.n : Int)) := hF2.n okZ2
        have f73 := hF2.frozen 73
        have n0 : F.n + m < 18446744073709551616 := by omega
        have k73 : IntKind.u64.wrap ((F.n : Int) + (m : Int)) = ((F.n : Int) + (m : Int)) := IntWalk.u64_in _ ⟨by omega, by omega⟩
        have k74 : IntKind.u64.wrap (m : Int) = (m : Int) := IntWalk.u64_in _ ⟨by omega, by omega⟩
        have HF3 : Hid (FAt ((Z.setCell ⟨b, 72, none⟩ (.int .i64 ((F.held : Int) + (m : Int)))).setCell ⟨b, 73, none⟩ (.int .u64 ((F.n : Int) + (m : Int)))) b { h := F.h, p := p', held := F.held + m, n := F.n + m }) := by have := hF2.setN okZ2 (F.n + m); rw [Int.natCast_add] at this; exact this
        have b0 : (0 : Int) ≤ (m : Int) := by omega
        have b1 : (m : Int) ≤ (s.size : Int) := by omega
        go_wp2_with fail
        go_roundg (s.size - m)
        case measure => omega
        case rel =>
          refine ⟨s.extract m s.size, T' ++ s.data.toList.take m, _, ?_, ?_, ?_, HR.out, ?_, (HZ.out.2.setCell _ _).setCell _ _⟩
          · rw [ByteArray.size_extract]; omega
          · rw [hk]
          · rw [ext_end, List.append_assoc, List.take_append_drop]; exact HC.out
          · rw [hpe.out, ← hFn]; exact HF3.out
end Go.Proofs.YteomefhjglnghaaDoor.F
