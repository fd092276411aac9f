/- The walk of add: a text goes into a folder. The walk of end. The walk of begin: a folder for a text behind a key. Plain: the bytes of a piece gathered into words one by one; the digest of a text. No Go text is walked here. The walks of Digest and Keyed. The walks of the reference's small functions: right, four, digit, rows. The walk of the reference's power: 256 to the i. The walk of the reference's steps: all 640 of them, in their order, in a slice of the call's own. The walk of the reference's Stir: step by step, the same words as ten rounds give. The walk of the reference's Press: the same words. The walk of the reference's Keyed: the digest of the same text. The walks of four and of the reference's Four: a number as four bytes. The walks of addParts, tag, and of the reference's Joined and Tag: texts, each behind its length. -/
import Derived.Test.YtmpiipcllgjhdaaGreatDoorY15
import Derived.Lib.LazyBuf
import Derived.Test.YtmpiipcllgjhdaaGreatDoorY14
import Derived.Test.YtmpiipcllgjhdaaGreatDoorY01
import Derived.Deep.LoopGhost
import Derived.PlainAid
import Derived.BigQuiet
import Derived.Deep.QuietTactic
import Derived.OwnWalk
import Derived.StillTailTactics
import Derived.Deep.CutBlock
import Derived.Deep.DeepCutAuto
set_option linter.unusedSimpArgs false
set_option linter.unusedVariables false
set_option maxRecDepth 100000
namespace Go.Proofs.YtmpiipcllgjhdaaGreatDoor.F
open Go.RowKit

/-- 'copy' from a string of whatever length. -/
theorem run_copy_some (w : World) (dT sT ty elem : TypeId) (b o dLen dCap n : Nat) (t : ByteArray)
    (hu : Tryz.prog.underlying dT = some (.slice elem)) (hz : ∀ w, (Go.sizeOf elem).run Tryz.prog w = .ok 1 w) (hn : n = Nat.min t.size dLen)
    (ht : w.there b o n) :
    (Builtin.copy_ #[dT, sT] ty #[.slice (some ⟨b, o, none⟩) dLen dCap, .string t]).run Tryz.prog w = .ok (goInt n) (w.setCells b o ((t.data.toList.take n).map Y)) := by
  have hle : n ≤ t.size := by rw [hn]; exact Nat.min_le_left _ _
  have hl : ((t.data.toList.take n).map Y).length = n := by
    rw [List.length_map, List.length_take, ← Lib.size_eq]; omega
  have hst := run_storeCells_cells (P := Tryz.prog) b o ((t.data.toList.take n).map Y) 0 w (by rw [hl]; intro j hj; simpa using (ht j hj).1) (by rw [hl]; intro j hj; simpa using (ht j hj).2) (by
    intro v hv
    obtain ⟨x, _, rfl⟩ := List.mem_map.1 hv
    rfl)
  simp [Builtin.copy_, run_underlying hu, Builtin.lenOf, Builtin.firstCells, hz, ← hn]
  rw [← List.map_take, hst]
  rfl
theorem ext_end (s : ByteArray) (a : Nat) : (s.extract a s.size).data.toList = s.data.toList.drop a := by
  have h1 : s.data.toList.length = s.size := rfl
  simp only [ByteArray.data_extract, Array.toList_extract, List.extract_eq_take_drop]
  rw [List.take_of_length_le (by rw [List.length_drop, h1]; exact Nat.le_refl _)]
theorem Starts.of_but {w w' : World} {b : Nat} (h : Starts w) (hb : But b w w') (h2 : 3 < b) (hs : 3 < w.heap.size) : Starts w' :=
  ⟨fun i hi => by rw [hb.cell (by omega) (by omega)]; exact h.sta i hi⟩
theorem put_cells (A P C c : List Value) (o : Nat) (hA : A.length = 8) (hP : P.length = 64) (ho : o + c.length ≤ 64) :
    (A ++ (P ++ C)).take (8 + o) ++ c ++ (A ++ (P ++ C)).drop (8 + o + c.length) = A ++ ((P.take o ++ c ++ P.drop (o + c.length)) ++ C) := by
  have e1 : (A ++ (P ++ C)).take (8 + o) = A ++ P.take o := by
    rw [← hA, List.take_length_add_append, List.take_append_of_le_length (by omega)]
  have e2 : (A ++ (P ++ C)).drop (8 + o + c.length) = P.drop (o + c.length) ++ C := by
    rw [Nat.add_assoc, ← hA, List.drop_length_add_append, List.drop_append_of_le_length (by omega)]
  rw [e1, e2]; simp
/-- Some bytes of the piece are set. -/
theorem FAt.setPart {w : World} {b : Nat} {f : Fol} (h : FAt w b f) (ok : f.ok) (o : Nat) (c : List UInt8) (hc : o + c.length ≤ 64) : FAt (w.setCells b (8 + o) (c.map Y)) b { f with p := f.p.take o ++ c ++ f.p.drop (o + c.length) } := by
  have l1 : (f.h.map U).length = 8 := by simp [ok.1]
  have l2 : (f.p.map Y).length = 64 := by simp [ok.2.1]
  have := block_setCells (w := w) (c.map Y) (8 + o) (folC f) w h (by rw [folC_length ok]; simp; omega)
  unfold FAt
  rw [this]
  congr 2
  simp only [folC]
  rw [put_cells _ _ _ _ _ l1 l2 (by simpa using hc)]
  simp

set_option maxRecDepth 100000 in
set_option maxHeartbeats 1000000 in
theorem add_any (b : Nat) (h0 : List UInt32) (hh : h0.length = 8) (T : List UInt8) (f : Fol) (r : Rep h0 T f) (t : ByteArray) (hn : T.length + t.size < 18446744073709551616)
    (w : World) (hF : FAt w b f) (hb2 : 3 < b) (hT : Tabs w) (hS : Starts w) :
    Calls Tryz.prog 145 #[.pointer (some ⟨b, 0, none⟩), .string t] w fun e w' => e = .returned (.tuple #[]) ∧ (∃ f', Rep h0 (T ++ t.data.toList) f' ∧ FAt w' b f') ∧ But b w w' := by
  go_enter Tryz.func145, Tryz.ntmps145
  go_wp2_with fail
  go_loopg [1] t.size (fun k v wr => ∃ (s : ByteArray) (T' : List UInt8) (f' : Fol), s.size = k ∧ v = .string s ∧ T' ++ s.data.toList = T ++ t.data.toList ∧ Rep h0 T' f' ∧ FAt wr b f' ∧ But b w wr)
  case atStart => exact ⟨t, T, f, rfl, rfl, rfl, r, hF, But.refl _ _⟩
  case round =>
    obtain ⟨s, T', f', hk, rfl, hcat, r', hF', hb⟩ := hrel
    have HC : Hid (T' ++ s.data.toList = T ++ t.data.toList) := hcat
    have hlen : T'.length + s.size = T.length + t.size := by
      have := congrArg List.length hcat
      simpa [← Lib.size_eq] using this
    clear hcat
    have ok' : f'.ok := r'.ok hh (by omega)
    have HT : Hid (Tabs wr) := hT.of_but hb hb2
    have HS : Hid (Starts wr) := hS.of_but hb hb2 hT.size
    by_cases hs : s = ByteArray.mk #[]
    · subst hs
      go_wp2_with fail
      go_end0
      refine ⟨rfl, ⟨f', ?_, hF'⟩, hb⟩
      have := HC.out
      simp at this
      rw [← this]; exact r'
    · have hpos : 0 < s.size := by
        refine Nat.pos_of_ne_zero fun h => hs ?_
        exact ByteArray.ext (Array.eq_empty_of_size_eq_zero h)
      have hse : s.toList.isEmpty = false := by
        rw [Lib.toList_data]
        cases hq : s.data.toList with
        | nil => rw [Lib.size_eq, hq] at hpos; simp at hpos
        | cons _ _ => rfl
      clear hs
      have hnn := r'.n
      have c72 := hF'.held ok'
      by_cases hheld : f'.held = 64
      · have e64 : (f'.held : Int) = 64 := by omega
        go_wp2_with fail
        refine (folPress_any b f' ok' false wr hF' hb2 HT.out HS.out).mono ?_
        rintro e X ⟨rfl, HF, hbX⟩
        have okF := pressF_ok ok' false
        have HB : Hid (But b w X) := hb.trans hbX
        have HP : Hid (∀ c : List UInt8, 0 < c.length → (pressF f' false).held + c.length ≤ 64 → Rep h0 (T' ++ c) (putF (pressF f' false) c)) := fun c h1 h2 => r'.full c hheld (by simpa [pressF] using h2) h1
        have hlt : (pressF f' false).held < 64 := by simp [pressF]
        have hFn : (pressF f' false).n = T'.length := hnn
        clear c72 e64 hheld hnn hbX
        generalize pressF f' false = F at *
        go_wp2_with fail
        obtain ⟨m, hm⟩ : ∃ m, m = Nat.min s.size (64 - F.held) := ⟨_, rfl⟩
        have hm1 : m ≤ s.size := by rw [hm]; exact Nat.min_le_left _ _
        have hm2 : m ≤ 64 - F.held := by rw [hm]; exact Nat.min_le_right _ _
        have hm3 : 0 < m := by rw [hm]; exact Nat.lt_min.2 ⟨by omega, by omega⟩
        have hth : X.drew.there b (8 + F.held) m := (show FAt X.drew b F from HF).there okF _ _ (by omega)
        have hcp := run_copy_some X.drew 143 9 3 5 b (8 + F.held) (64 - F.held) (64 - F.held) m s Tryz.underlying143 sizeOf5 hm hth
        have hsl := fun w' => slice57_from b 8 (F.held : Int) F.held rfl hlt w'
        have c72 := HF.held okF
        have hcl : Hid ((s.data.toList.take m).length = m) := by show _ = _; rw [List.length_take, ← Lib.size_eq]; omega
        have HR : Hid (Rep h0 (T' ++ s.data.toList.take m) (putF F (s.data.toList.take m))) := HP.out _ (by rw [hcl.out]; exact hm3) (by rw [hcl.out]; omega)
        have HZ : Hid (FAt (X.drew.setCells b (8 + F.held) ((s.data.toList.take m).map Y)) b { F with p := (putF F (s.data.toList.take m)).p } ∧ But b w (X.drew.setCells b (8 + F.held) ((s.data.toList.take m).map Y))) := ⟨(show FAt X.drew b F from HF).setPart okF _ _ (by rw [hcl.out]; omega), But.setOwn _ _ _ HB.out.drew⟩
        have hpl : (putF F (s.data.toList.take m)).p.length = 64 := putF_length okF _ (by rw [hcl.out]; omega)
        have hpe : Hid (putF F (s.data.toList.take m) = { h := F.h, p := (putF F (s.data.toList.take m)).p, held := F.held + m, n := F.n + m }) := by show _ = _; simp only [putF, hcl.out]
        clear hm hth
        generalize X.drew.setCells b (8 + F.held) ((s.data.toList.take m).map Y) = Z at *
        generalize (putF F (s.data.toList.take m)).p = p' at *
        refine wp_region_still_tail 9 mixedW (by kernel_rfl) ?_
        simp only [List.take_succ_cons, List.take_zero, List.drop_succ_cons, List.drop_zero]
        show wpStill _ _ X.drew _ _ _
        repeat still_step
        refine wpStill_nil ?_
        clear c72
        have okZ : Fol.ok { F with p := p' } := ⟨okF.1, hpl, okF.2.2⟩
        have okZ2 : Fol.ok { F with p := p', held := F.held + m } := ⟨okF.1, hpl, by show F.held + m ≤ 64; omega, okF.2.2.2⟩
        have hF1 := HZ.out.1
        have hF2 : FAt (Z.setCell ⟨b, 72, none⟩ (.int .i64 ((F.held : Int) + (m : Int)))) b { F with p := p', held := F.held + m } := by have := hF1.setHeld okZ (F.held + m); rwa [Int.natCast_add] at this
        have c72 : Z.cell? ⟨b, 72, none⟩ = some (.int .i64 (F.held : Int)) := hF1.held okZ
        have f72 := hF1.frozen 72
        have k72 : IntKind.i64.wrap ((F.held : Int) + (m : Int)) = ((F.held : Int) + (m : Int)) := IntWalk.i64_in _ ⟨by omega, by omega⟩
        have c73 : (Z.setCell ⟨b, 72, none⟩ (.int .i64 ((F.held : Int) + (m : Int)))).cell? ⟨b, 73, none⟩ = some (.int .u64 (F.n : Int)) := hF2.n okZ2
        have f73 := hF2.frozen 73
        have n0 : F.n + m < 18446744073709551616 := by omega
        have k73 : IntKind.u64.wrap ((F.n : Int) + (m : Int)) = ((F.n : Int) + (m : Int)) := IntWalk.u64_in _ ⟨by omega, by omega⟩
        have k74 : IntKind.u64.wrap (m : Int) = (m : Int) := IntWalk.u64_in _ ⟨by omega, by omega⟩
        have HF3 : Hid (FAt ((Z.setCell ⟨b, 72, none⟩ (.int .i64 ((F.held : Int) + (m : Int)))).setCell ⟨b, 73, none⟩ (.int .u64 ((F.n : Int) + (m : Int)))) b { h := F.h, p := p', held := F.held + m, n := F.n + m }) := by have := hF2.setN okZ2 (F.n + m); rw [Int.natCast_add] at this; exact this
        have b0 : (0 : Int) ≤ (m : Int) := by omega
        have b1 : (m : Int) ≤ (s.size : Int) := by omega
        go_wp2_with fail
        go_roundg (s.size - m)
        case measure => omega
        case rel =>
          refine ⟨s.extract m s.size, T' ++ s.data.toList.take m, _, ?_, ?_, ?_, HR.out, ?_, (HZ.out.2.setCell _ _).setCell _ _⟩
          · rw [ByteArray.size_extract]; omega
          · rw [hk]
          · rw [ext_end, List.append_assoc, List.take_append_drop]; exact HC.out
          · rw [hpe.out, ← hFn]; exact HF3.out
      · have e64 : ¬ ((f'.held : Int) = 64) := by omega
        go_wp2_with fail
        have hlt : f'.held < 64 := by have := ok'.2.2.1; omega
        have HB : Hid (But b w wr) := hb
        have HP : Hid (∀ c : List UInt8, 0 < c.length → f'.held + c.length ≤ 64 → Rep h0 (T' ++ c) (putF f' c)) := fun c h1 h2 => r'.put c hlt h2
        have HF := hF'
        have okF := ok'
        have hFn := hnn
        clear c72 e64 hheld hnn
        generalize f' = F at *
        obtain ⟨m, hm⟩ : ∃ m, m = Nat.min s.size (64 - F.held) := ⟨_, rfl⟩
        have hm1 : m ≤ s.size := by rw [hm]; exact Nat.min_le_left _ _
        have hm2 : m ≤ 64 - F.held := by rw [hm]; exact Nat.min_le_right _ _
        have hm3 : 0 < m := by rw [hm]; exact Nat.lt_min.2 ⟨by omega, by omega⟩
        have hth : wr.drew.there b (8 + F.held) m := (show FAt wr.drew b F from HF).there okF _ _ (by omega)
        have hcp := run_copy_some wr.drew 143 9 3 5 b (8 + F.held) (64 - F.held) (64 - F.held) m s Tryz.underlying143 sizeOf5 hm hth
        have hsl := fun w' => slice57_from b 8 (F.held : Int) F.held rfl hlt w'
        have c72 := HF.held okF
        have hcl : Hid ((s.data.toList.take m).length = m) := by show _ = _; rw [List.length_take, ← Lib.size_eq]; omega
        have HR : Hid (Rep h0 (T' ++ s.data.toList.take m) (putF F (s.data.toList.take m))) := HP.out _ (by rw [hcl.out]; exact hm3) (by rw [hcl.out]; omega)
        have HZ : Hid (FAt (wr.drew.setCells b (8 + F.held) ((s.data.toList.take m).map Y)) b { F with p := (putF F (s.data.toList.take m)).p } ∧ But b w (wr.drew.setCells b (8 + F.held) ((s.data.toList.take m).map Y))) := ⟨(show FAt wr.drew b F from HF).setPart okF _ _ (by rw [hcl.out]; omega), But.setOwn _ _ _ HB.out.drew⟩
        have hpl : (putF F (s.data.toList.take m)).p.length = 64 := putF_length okF _ (by rw [hcl.out]; omega)
        have hpe : Hid (putF F (s.data.toList.take m) = { h := F.h, p := (putF F (s.data.toList.take m)).p, held := F.held + m, n := F.n + m }) := by show _ = _; simp only [putF, hcl.out]
        clear hm hth
        generalize wr.drew.setCells b (8 + F.held) ((s.data.toList.take m).map Y) = Z at *
        generalize (putF F (s.data.toList.take m)).p = p' at *
        refine wp_region_still_tail 9 mixedW (by kernel_rfl) ?_
        simp only [List.take_succ_cons, List.take_zero, List.drop_succ_cons, List.drop_zero]
        show wpStill _ _ wr.drew _ _ _
        repeat still_step
        refine wpStill_nil ?_
        clear c72
        have okZ : Fol.ok { F with p := p' } := ⟨okF.1, hpl, okF.2.2⟩
        have okZ2 : Fol.ok { F with p := p', held := F.held + m } := ⟨okF.1, hpl, by show F.held + m ≤ 64; omega, okF.2.2.2⟩
        have hF1 := HZ.out.1
        have hF2 : FAt (Z.setCell ⟨b, 72, none⟩ (.int .i64 ((F.held : Int) + (m : Int)))) b { F with p := p', held := F.held + m } := by have := hF1.setHeld okZ (F.held + m); rwa [Int.natCast_add] at this
        have c72 : Z.cell? ⟨b, 72, none⟩ = some (.int .i64 (F.held : Int)) := hF1.held okZ
        have f72 := hF1.frozen 72
        have k72 : IntKind.i64.wrap ((F.held : Int) + (m : Int)) = ((F.held : Int) + (m : Int)) := IntWalk.i64_in _ ⟨by omega, by omega⟩
        have c73 : (Z.setCell ⟨b, 72, none⟩ (.int .i64 ((F.held : Int) + (m : Int)))).cell? ⟨b, 73, none⟩ = some (.int .u64 (F.n : Int)) := hF2.n okZ2
        have f73 := hF2.frozen 73
        have n0 : F.n + m < 18446744073709551616 := by omega
        have k73 : IntKind.u64.wrap ((F.n : Int) + (m : Int)) = ((F.n : Int) + (m : Int)) := IntWalk.u64_in _ ⟨by omega, by omega⟩
        have k74 : IntKind.u64.wrap (m : Int) = (m : Int) := IntWalk.u64_in _ ⟨by omega, by omega⟩
        have HF3 : Hid (FAt ((Z.setCell ⟨b, 72, none⟩ (.int .i64 ((F.held : Int) + (m : Int)))).setCell ⟨b, 73, none⟩ (.int .u64 ((F.n : Int) + (m : Int)))) b { h := F.h, p := p', held := F.held + m, n := F.n + m }) := by have := hF2.setN okZ2 (F.n + m); rw [Int.natCast_add] at this; exact this
        have b0 : (0 : Int) ≤ (m : Int) := by omega
        have b1 : (m : Int) ≤ (s.size : Int) := by omega
        go_wp2_with fail
        go_roundg (s.size - m)
        case measure => omega
        case rel =>
          refine ⟨s.extract m s.size, T' ++ s.data.toList.take m, _, ?_, ?_, ?_, HR.out, ?_, (HZ.out.2.setCell _ _).setCell _ _⟩
          · rw [ByteArray.size_extract]; omega
          · rw [hk]
          · rw [ext_end, List.append_assoc, List.take_append_drop]; exact HC.out
          · rw [hpe.out, ← hFn]; exact HF3.out
end Go.Proofs.YtmpiipcllgjhdaaGreatDoor.F
namespace Go.Proofs.YtmpiipcllgjhdaaGreatDoor.F
open Go.RowKit

/-- One byte of a word, the lowest first; eight words as bytes. -/
def byteOf (x : UInt32) (j : Nat) : UInt8 := UInt8.ofNat (x.toNat / 2 ^ (8 * j))
def outL (h : List UInt32) : List UInt8 := (List.range 32).map fun i => byteOf (h.getD (i / 4) 0) (i % 4)
def outTo (h : List UInt32) : Nat → List UInt8
  | 0 => List.replicate 32 0
  | i + 1 => (outTo h i).set i (byteOf (h.getD (i / 4) 0) (i % 4))
theorem outTo_length (h : List UInt32) (i : Nat) : (outTo h i).length = 32 := by
  induction i with
  | zero => rfl
  | succ i ih => simp [outTo, ih]
theorem outTo_get (h : List UInt32) : ∀ (i : Nat), i ≤ 32 → ∀ j, j < 32 → (outTo h i)[j]? = some (if j < i then byteOf (h.getD (j / 4) 0) (j % 4) else 0)
  | 0, _, j, hj => by rw [outTo, List.getElem?_replicate, if_pos hj, if_neg (by omega)]
  | i + 1, hi, j, hj => by
    rw [outTo, List.getElem?_set]
    by_cases h' : i = j
    · subst h'
      simp [outTo_length, hj]
    · rw [if_neg h', outTo_get h i (by omega) j hj]
      by_cases h2 : j < i
      · rw [if_pos h2, if_pos (by omega)]
      · rw [if_neg h2, if_neg (by omega)]
theorem outL_length (h : List UInt32) : (outL h).length = 32 := by simp [outL]
theorem outTo_all (h : List UInt32) : outTo h 32 = outL h := by
  apply List.ext_getElem?
  intro j
  by_cases hj : j < 32
  · rw [outTo_get h 32 (by omega) j hj, if_pos hj]
    simp [outL, hj]
  · rw [List.getElem?_eq_none (by rw [outTo_length]; omega), List.getElem?_eq_none (by rw [outL_length]; omega)]
theorem BHolds.frozen {w : World} {b : Nat} {t : TypeId} {l : List UInt8} (h : BHolds w b t l) (i : Nat) : w.frozen? ⟨b, i, none⟩ = false := by
  unfold BHolds at h
  simp [World.frozen?, h]
theorem BHolds.set {w : World} {b : Nat} {t : TypeId} {l : List UInt8} (h : BHolds w b t l) (i : Nat) (x : UInt8) : BHolds (w.setCell ⟨b, i, none⟩ (Y x)) b t (l.set i x) := by
  unfold BHolds at *
  simp [World.setCell, Array.getElem?_modify, h, barr, List.map_set]
theorem BHolds.new (w : World) (t : TypeId) (l : List UInt8) : BHolds (w.alloc (.cells (barr l) t)) w.heap.size t l := by
  show (w.heap.push _)[w.heap.size]? = _
  simp
theorem FAt.of_but {w w' : World} {b g : Nat} {f : Fol} (h : FAt w b f) (hb : But g w w') (hg : b ≠ g) : FAt w' b f := by
  unfold FAt; rw [hb.block b h.lt hg]; exact h
theorem FAt.word {w : World} {b : Nat} {f : Fol} (h : FAt w b f) (ok : f.ok) (i : Nat) (hi : i < 8) : w.cell? ⟨b, i, none⟩ = some (U (f.h.getD i 0)) := by
  have := h.words ok i (U (f.h.getD i 0)) (by simp [arr, ok.1, hi])
  simpa using this
theorem But.join {b g : Nat} {u v w : World} (h : But b u v) (k : But g v w) (hg : u.heap.size ≤ g) : But b u w :=
  ⟨k.os.trans h.os, k.tape.trans h.tape, k.output.trans h.output, Nat.le_trans h.size k.size, fun i hi hb => (k.block i (Nat.lt_of_lt_of_le hi h.size) (by omega)).trans (h.block i hi hb)⟩
theorem byte_val (x : UInt32) (j : Nat) : Value.int .u8 ((x.toNat : Int) / 2 ^ (j * 8) % 256) = Y (byteOf x j) := by
  unfold Y byteOf
  congr 1
  rw [UInt8.toNat_ofNat', Nat.mul_comm 8 j, Int.natCast_emod, Int.natCast_ediv, Int.natCast_pow]
  rfl
theorem alen76 : Tryz.prog.arrayLen 192 = 32 := by kernel_rfl
theorem elem76 : Tryz.prog.elem 192 = 5 := by kernel_rfl
theorem slice76_all (b o : Nat) (w : World) :
    (Instr.sliceAt 192 (.pointer (some ⟨b, o, none⟩)) none none none).run Tryz.prog w = .ok (.slice (some ⟨b, o, none⟩) 32 32) w := by
  rw [run_sliceAt_array_all w 192 ⟨b, o, none⟩ (by rw [alen76, elem76]; exact Tryz.underlying192)]
  rw [elem76, sizeOf5, alen76]
  simp only [Result.andThen_ok, slicedAt, Nat.zero_mul, Nat.sub_zero]
  rw [if_neg (by omega), Addr.add_mid]; rfl

set_option maxRecDepth 100000 in
set_option maxHeartbeats 1000000 in
theorem end_any (b : Nat) (f : Fol) (ok : f.ok) (w : World) (hF : FAt w b f) (hb2 : 3 < b) (hT : Tabs w) (hS : Starts w) :
    Calls Tryz.prog 128 #[.pointer (some ⟨b, 0, none⟩)] w fun e w' => e = .returned (.string ⟨(outL (pressL f.h (wordsL f.p) f.n true)).toArray⟩) ∧ But b w w' := by
  go_enter Tryz.func128, Tryz.ntmps128
  go_wp2_with fail
  refine (folPress_any b f ok true w hF hb2 hT hS).mono ?_
  rintro e X ⟨rfl, HF, hbX⟩
  have okF := pressF_ok ok true
  have HR : Hid ((pressF f true).h = pressL f.h (wordsL f.p) f.n true) := rfl
  generalize pressF f true = F at *
  go_wp2_with fail
  have a3 := BHolds.new X 192 (List.replicate 32 0)
  have hbl := HF.lt
  obtain ⟨X1, hX1⟩ : ∃ X1, X1 = X.alloc (Obj.cells (barr (List.replicate 32 0)) 192) := ⟨_, rfl⟩
  have HF1 : FAt X1 b F := by rw [hX1]; exact HF.alloc _
  have HB1 : Hid (But b w X1) := by show But _ _ _; rw [hX1]; exact hbX.alloc _
  have hsz : Hid (w.heap.size ≤ X.heap.size) := hbX.size
  rw [← hX1] at a3
  change Code.wp _ _ _ _ (X.alloc (Obj.cells (barr (List.replicate 32 0)) 192))
  rw [← hX1]
  generalize X.heap.size = g at *
  clear hX1 HF hbX
  go_loopg [7] 32 (fun k v wr => ∃ i : Nat, i + k = 32 ∧ v = .int .i64 i ∧ BHolds wr g 192 (outTo F.h i) ∧ But g X1 wr)
  case atStart => exact ⟨0, rfl, rfl, a3, But.refl _ _⟩
  case round =>
    obtain ⟨i, hi, rfl, hv, hb⟩ := hrel
    have hl := outTo_length F.h i
    have hFr := HF1.of_but hb (by omega)
    by_cases hlt : i < 32
    · have i32 : (i : Int) < 32 := by omega
      have hnx : Hid (outTo F.h (i + 1) = (outTo F.h i).set i (byteOf (F.h.getD (i / 4) 0) (i % 4))) := rfl
      have c0 := hFr.word okF (i / 4) (by omega)
      have d0 := hv.cell i (by omega)
      have f0 := hv.frozen i
      go_wp2_with fail
      go_roundg (gk - 1)
      case measure => omega
      case rel =>
        refine ⟨i + 1, by omega, by go_num, ?_, hb.setCell _ _⟩
        rw [hnx.out, byte_val (F.h[i / 4]?.getD 0) (i % 4)]
        exact hv.set _ _
    · have hid : Hid (i = 32) := by show i = 32; omega
      have hfin : Hid (outTo F.h i = outL F.h) := by show _ = _; rw [hid.out]; exact outTo_all F.h
      have hsl := fun w' => slice76_all g 0 w'
      generalize outTo F.h i = L at *
      have hcv := run_convert_bytes_arg (P := Tryz.prog) wr 143 5 Tryz.underlying143 Tryz.underlying5 g 0 32 32 (L.map fun x => (x.toNat : Int)) (by simpa using hl) (fun j hj => by rw [Nat.zero_add, hv.cell j (by omega)]; simp [hl, hj]) 9 Tryz.underlying9
      rw [Lib.Lz.strOfNums_map] at hcv
      go_wp2_with fail
      go_ret
      exact ⟨by rw [← HR.out, ← hfin.out]; rfl, HB1.out.join hb hsz.out⟩
end Go.Proofs.YtmpiipcllgjhdaaGreatDoor.F
namespace Go.Proofs.YtmpiipcllgjhdaaGreatDoor.F
open Go.RowKit

def zeroF : Fol := ⟨List.replicate 8 0, List.replicate 64 0, 0, 0⟩
def startF : Fol := ⟨staL, List.replicate 64 0, 0, 0⟩
/-- The words that a key's length begins with. -/
def hK (n : Nat) : List UInt32 := staL.set 0 (uxor 1779033703 (UInt32.ofNat (16842784 + 256 * n)))
theorem hK_length (n : Nat) : (hK n).length = 8 := by simp [hK, staL]
def beginF (key : List UInt8) : Fol := if key.length = 0 then ⟨hK 0, List.replicate 64 0, 0, 0⟩ else ⟨hK key.length, pad64 key, 64, 64⟩
theorem zeroF_ok : zeroF.ok := ⟨by decide, by decide, by decide, by decide⟩
theorem startF_ok : startF.ok := ⟨by decide, by decide, by decide, by decide⟩
theorem size59 : (Tryz.prog.info? 176).map (·.size) = some 74 := by kernel_rfl
theorem folC_one (f : Fol) : (folC f).toArray.all (·.oneCell') = true := all_oneCell_toArray (fun v hv => by
  simp only [folC, List.mem_append, List.mem_map, List.mem_cons, List.not_mem_nil, or_false] at hv
  rcases hv with ⟨x, _, rfl⟩ | ⟨x, _, rfl⟩ | rfl | rfl <;> rfl)
theorem FAt.new (w : World) (f : Fol) : FAt (w.alloc (.cells (folC f).toArray 176)) w.heap.size f := by
  show (w.heap.push _)[w.heap.size]? = _
  simp
theorem FAt.all {w : World} {b : Nat} {f : Fol} (h : FAt w b f) : w.rangeAt b 0 (folC f) := by
  intro j v hv
  rw [Nat.zero_add, h.cell]; exact hv
theorem FAt.setAll {w : World} {b : Nat} {f : Fol} (h : FAt w b f) (ok : f.ok) (g : Fol) (okg : g.ok) : FAt (w.setCells b 0 (folC g)) b g := by
  have := block_setCells (w := w) (folC g) 0 (folC f) w h (by rw [folC_length okg, folC_length ok]; omega)
  unfold FAt
  rw [this]
  congr 3
  rw [List.take_zero, List.nil_append, List.drop_of_length_le (by rw [folC_length okg, folC_length ok]; omega), List.append_nil]
theorem FAt.setWord {w : World} {b : Nat} {f : Fol} (h : FAt w b f) (ok : f.ok) (i : Nat) (hi : i < 8) (x : UInt32) : FAt (w.setCell ⟨b, i, none⟩ (U x)) b { f with h := f.h.set i x } := by
  have l1 : (f.h.map U).length = 8 := by simp [ok.1]
  unfold FAt at *
  simp only [World.setCell, Array.getElem?_modify, if_true, h, Option.map_some]
  congr 2
  simp only [folC, List.setIfInBounds_toArray, Option.isSome_none, Bool.false_eq_true, if_false]
  rw [List.set_append, if_pos (by omega), List.map_set]
theorem zeroValue59 (w : World) : (Go.zeroValue 176).run Tryz.prog w = .ok (.agg (folC zeroF).toArray) w := by
  have h : (Tryz.prog.info? 176).map (·.zero) = some (some (.agg (folC zeroF).toArray)) := by kernel_rfl
  cases hq : Tryz.prog.info? 176 with
  | none => simp [hq] at h
  | some i =>
    have : i.zero = some (.agg (folC zeroF).toArray) := by simpa [hq] using h
    simp [zeroValue, typeInfo, hq, this]
theorem beginF_ok (key : List UInt8) (h : key.length ≤ 64) : (beginF key).ok := by
  unfold beginF
  split
  · exact ⟨hK_length 0, by simp, by simp, by simp⟩
  · exact ⟨hK_length _, pad64_length _ h, by simp, by simp⟩

theorem fold59 : Array.foldl (fun cs (x : Value × Nat) => cs.setIfInBounds x.snd x.fst) (folC zeroF).toArray (arr staL).zipIdx 0 8 = (folC startF).toArray := by kernel_rfl
theorem FAt.thereAll {w : World} {b : Nat} {f : Fol} (h : FAt w b f) (ok : f.ok) : w.there b 0 74 := h.there ok 0 74 (by omega)

set_option maxRecDepth 100000 in
set_option maxHeartbeats 1000000 in
theorem begin_any (key : ByteArray) (hk : key.size ≤ 64) (w : World) (hT : Tabs w) (hS : Starts w) :
    Calls Tryz.prog 126 #[.string key] w fun e w' => e = .returned (.agg (folC (beginF key.data.toList)).toArray) ∧ Below w.heap.size w w' := by
  have hz59 := zeroValue59
  have i59 : (Tryz.prog.info? 176).map (·.size) = some (folC startF).toArray.size := by rw [size59]; rfl
  have i27 : (Tryz.prog.info? 173).map (·.size) = some (arr staL).toList.length := by rw [size27]; rfl
  have s8 : (arr staL).size = 8 := rfl
  have z74 : (folC zeroF).length = 74 := rfl
  have hf59 := fold59
  have o59 := folC_one startF
  have u0 := FAt.new w zeroF
  have u1 := FAt.new (w.alloc (Obj.cells (folC zeroF).toArray 176)) zeroF
  rw [World.size_alloc] at u1
  have t59 : ((w.alloc (Obj.cells (folC zeroF).toArray 176)).alloc (Obj.cells (folC zeroF).toArray 176)).there (w.heap.size + 1) 0 (folC startF).toArray.size := u1.thereAll zeroF_ok
  obtain ⟨X, hX⟩ : ∃ X, X = ((w.alloc (Obj.cells (folC zeroF).toArray 176)).alloc (Obj.cells (folC zeroF).toArray 176)).setCells (w.heap.size + 1) 0 (folC startF).toArray.toList := ⟨_, rfl⟩
  have x1 : FAt X (w.heap.size + 1) startF := by rw [hX]; exact u1.setAll zeroF_ok startF startF_ok
  have x0 : Hid (FAt X w.heap.size zeroF) := by
    show FAt _ _ _
    rw [hX]
    have hb : But (w.heap.size + 1) ((w.alloc (Obj.cells (folC zeroF).toArray 176)).alloc (Obj.cells (folC zeroF).toArray 176)) (((w.alloc (Obj.cells (folC zeroF).toArray 176)).alloc (Obj.cells (folC zeroF).toArray 176)).setCells (w.heap.size + 1) 0 (folC startF).toArray.toList) := But.setOwn _ _ _ (But.refl _ _)
    exact (u0.alloc _).of_but hb (by omega)
  have xb : Hid (Below w.heap.size w X) := by
    show Below _ _ _
    rw [hX]
    exact Below.setNews (by omega) _ _ _ (((Below.refl _ w).alloc (Nat.le_refl _) _).alloc (by simp) _)
  have hr : (w.alloc (Obj.cells (folC zeroF).toArray 176)).rangeAt 0 0 (arr staL).toList := by
    intro j v hv
    have hj : j < 8 := (List.getElem?_eq_some_iff.1 hv).1
    rw [Nat.zero_add, Below.cell ((Below.refl w.heap.size w).alloc (Nat.le_refl _) _) (show 0 < w.heap.size by have := hT.size; omega), hS.sta j hj]
    have e : (arr staL).toList[j]? = some (U (staL.getD j 0)) := by simp [arr, show j < staL.length from hj]
    rw [← hv, e]
  have c0 : X.cell? ⟨w.heap.size + 1, 0, none⟩ = some (U 1779033703) := x1.word startF_ok 0 (by omega)
  have f0 := x1.frozen 0
  clear u0 u1
  have kx : bits .xor .u32 1779033703 (16842784 + 256 * (key.size : Int)) = ((uxor 1779033703 (UInt32.ofNat (16842784 + 256 * key.size))).toNat : Int) := by
    have h1 := xor_u 1779033703 (UInt32.ofNat (16842784 + 256 * key.size))
    rw [UInt32.toNat_ofNat', Nat.mod_eq_of_lt (by omega)] at h1
    exact h1
  have hhK : Hid (hK key.size = startF.h.set 0 (uxor 1779033703 (UInt32.ofNat (16842784 + 256 * key.size)))) := rfl
  generalize uxor 1779033703 (UInt32.ofNat (16842784 + 256 * key.size)) = NW at *
  have y1 := x1.setWord startF_ok 0 (by omega) NW
  have y0 : FAt (X.setCell ⟨w.heap.size + 1, 0, none⟩ (U NW)) w.heap.size zeroF := x0.out.of_but ((But.refl (w.heap.size + 1) X).setCell _ _) (by omega)
  have yb : Hid (Below w.heap.size w (X.setCell ⟨w.heap.size + 1, 0, none⟩ (U NW))) := Below.own xb.out (by omega) _ _
  have okY : Fol.ok { startF with h := startF.h.set 0 NW } := ⟨by simp [startF, staL], startF_ok.2⟩
  by_cases hs : key.size = 0
  · have hse : key.toList.isEmpty = true := by
      rw [Lib.toList_data]
      have : key.data.toList.length = 0 := by rw [← Lib.size_eq]; exact hs
      rw [List.length_eq_zero_iff.1 this]; rfl
    obtain ⟨G, hG⟩ : ∃ G, G = { startF with h := startF.h.set 0 NW } := ⟨_, rfl⟩
    have HG : Hid (beginF key.data.toList = G) := by
      show _ = _
      rw [hG, beginF, if_pos (by rw [← Lib.size_eq]; exact hs), ← hhK.out, hs]; rfl
    rw [← hG] at y1 okY
    have rG := y1.all
    have iG : (Tryz.prog.info? 176).map (·.size) = some (folC G).length := by rw [size59, folC_length okY]
    have iG' : (Tryz.prog.info? 176).map (·.size) = some (folC G).toArray.size := by rw [size59, List.size_toArray, folC_length okY]
    have tG : (X.setCell ⟨w.heap.size + 1, 0, none⟩ (U NW)).there w.heap.size 0 (folC G).toArray.size := by
      have e74 : (folC G).toArray.size = 74 := by rw [List.size_toArray, folC_length okY]
      rw [e74]; exact y0.thereAll zeroF_ok
    have oG := folC_one G
    have zG := y0.setAll zeroF_ok G okY
    have ze : Hid ((((X.setCell ⟨w.heap.size + 1, 0, none⟩ (U NW)).setCells w.heap.size 0 (folC G)).rangeAt w.heap.size 0 (folC G))) := zG.all
    clear hG y1 okY zG x1 x0 y0 hs
    generalize hCG : folC G = CG at *
    have HCG : Hid (folC G = CG) := hCG
    clear hCG
    generalize arr staL = AS at *
    generalize folC zeroF = CZ at *
    generalize folC startF = CS at *
    go_enter Tryz.func126, Tryz.ntmps126
    go_wp2_with (first
    | (refine wpList_load_mid rfl 173 (.global 0) rfl 0 0 rfl AS.toList _ hr Tryz.underlying173 rfl i27 ?_)
    | (refine wpList_store_mid rfl 176 (.tmp 3) (.tmp 5) rfl (w.heap.size + 1) 0 CS.toArray rfl rfl t59 i59 o59 ?_; rw [← hX]; clear hX)
    | (refine wpList_load_mid rfl 176 (.tmp 3) rfl (w.heap.size + 1) 0 rfl CG _ rG Tryz.underlying176 rfl iG ?_)
    | (refine wpList_store_mid rfl 176 (.tmp 2) (.tmp 25) rfl w.heap.size 0 CG.toArray rfl rfl tG iG' oG ?_))
    refine bodyPost_ret (v := .agg CG.toArray) (results_cell Tryz.results126 _ _ w.heap.size 0 CG _ rfl ze.out Tryz.underlying176 rfl iG) rfl ⟨by rw [HG.out, HCG.out], ?_⟩
    exact Below.setNews (Nat.le_refl _) _ _ _ yb.out
  · have hse : key.toList.isEmpty = false := by
      rw [Lib.toList_data]
      cases hq : key.data.toList with
      | nil => exfalso; apply hs; rw [Lib.size_eq, hq]; rfl
      | cons _ _ => rfl
    have hkl : key.data.toList.length = key.size := (Lib.size_eq key).symm
    have hth := y1.there okY 8 key.size (by omega)
    have hcp := run_copy_some (X.setCell ⟨w.heap.size + 1, 0, none⟩ (U NW)) 143 9 3 5 (w.heap.size + 1) 8 64 64 key.size key Tryz.underlying143 sizeOf5 (Nat.min_eq_left hk).symm hth
    rw [List.take_of_length_le (by omega)] at hcp
    have hsl := fun w' => slice57_all (w.heap.size + 1) 8 w'
    have hZ := y1.setPart okY 0 key.data.toList (by omega)
    have hpad : startF.p.take 0 ++ key.data.toList ++ startF.p.drop (0 + key.data.toList.length) = pad64 key.data.toList := by
      show (List.replicate 64 0).take 0 ++ key.data.toList ++ (List.replicate 64 0).drop (0 + key.data.toList.length) = _
      rw [pad64, List.drop_replicate, List.take_zero, List.nil_append, Nat.zero_add]
    have hZ' : FAt ((X.setCell ⟨w.heap.size + 1, 0, none⟩ (U NW)).setCells (w.heap.size + 1) 8 (key.data.toList.map Y)) (w.heap.size + 1) ⟨startF.h.set 0 NW, pad64 key.data.toList, 0, 0⟩ := by
      rw [← hpad]; exact hZ
    have zb : Below w.heap.size w ((X.setCell ⟨w.heap.size + 1, 0, none⟩ (U NW)).setCells (w.heap.size + 1) 8 (key.data.toList.map Y)) := Below.setNews (by omega) _ _ _ yb.out
    have z0 : FAt ((X.setCell ⟨w.heap.size + 1, 0, none⟩ (U NW)).setCells (w.heap.size + 1) 8 (key.data.toList.map Y)) w.heap.size zeroF := y0.of_but (But.setOwn _ _ _ (But.refl _ _)) (by omega)
    clear hZ hth y1 y0 yb hpad
    generalize (X.setCell ⟨w.heap.size + 1, 0, none⟩ (U NW)).setCells (w.heap.size + 1) 8 (key.data.toList.map Y) = Z at *
    have pl : (pad64 key.data.toList).length = 64 := pad64_length _ (by omega)
    have HB : Hid (beginF key.data.toList = ⟨startF.h.set 0 NW, pad64 key.data.toList, 64, 64⟩) := by
      show _ = _
      rw [beginF, if_neg (by omega), hkl, hhK.out]
    generalize pad64 key.data.toList = PD at *
    have hl : (startF.h.set 0 NW).length = 8 := by simp [startF, staL]
    generalize startF.h.set 0 NW = HW at *
    have ok1 : Fol.ok ⟨HW, PD, 0, 0⟩ := ⟨hl, pl, by simp, by simp⟩
    have ok2 : Fol.ok ⟨HW, PD, 64, 0⟩ := ⟨hl, pl, by simp, by simp⟩
    have ok3 : Fol.ok ⟨HW, PD, 64, 64⟩ := ⟨hl, pl, by simp, by simp⟩
    have c72 : Z.cell? ⟨w.heap.size + 1, 72, none⟩ = some (.int .i64 0) := hZ'.held ok1
    have f72 := hZ'.frozen 72
    have hZ2 : FAt (Z.setCell ⟨w.heap.size + 1, 72, none⟩ (.int .i64 64)) (w.heap.size + 1) ⟨HW, PD, 64, 0⟩ := hZ'.setHeld ok1 64
    have c73 : (Z.setCell ⟨w.heap.size + 1, 72, none⟩ (.int .i64 64)).cell? ⟨w.heap.size + 1, 73, none⟩ = some (.int .u64 0) := hZ2.n ok2
    have f73 := hZ2.frozen 73
    have hZ3 : FAt ((Z.setCell ⟨w.heap.size + 1, 72, none⟩ (.int .i64 64)).setCell ⟨w.heap.size + 1, 73, none⟩ (.int .u64 64)) (w.heap.size + 1) ⟨HW, PD, 64, 64⟩ := hZ2.setN ok2 64
    have v0 : FAt ((Z.setCell ⟨w.heap.size + 1, 72, none⟩ (.int .i64 64)).setCell ⟨w.heap.size + 1, 73, none⟩ (.int .u64 64)) w.heap.size zeroF := z0.of_but (((But.refl (w.heap.size + 1) Z).setCell _ _).setCell _ _) (by omega)
    have vb : Hid (Below w.heap.size w ((Z.setCell ⟨w.heap.size + 1, 72, none⟩ (.int .i64 64)).setCell ⟨w.heap.size + 1, 73, none⟩ (.int .u64 64))) := Below.own (Below.own zb (by omega) _ _) (by omega) _ _
    obtain ⟨G, hG⟩ : ∃ G, G = (⟨HW, PD, 64, 64⟩ : Fol) := ⟨_, rfl⟩
    have HG : Hid (beginF key.data.toList = G) := by show _ = _; rw [hG]; exact HB.out
    rw [← hG] at hZ3 ok3
    have rG := hZ3.all
    have iG : (Tryz.prog.info? 176).map (·.size) = some (folC G).length := by rw [size59, folC_length ok3]
    have iG' : (Tryz.prog.info? 176).map (·.size) = some (folC G).toArray.size := by rw [size59, List.size_toArray, folC_length ok3]
    have tG : ((Z.setCell ⟨w.heap.size + 1, 72, none⟩ (.int .i64 64)).setCell ⟨w.heap.size + 1, 73, none⟩ (.int .u64 64)).there w.heap.size 0 (folC G).toArray.size := by
      have e74 : (folC G).toArray.size = 74 := by rw [List.size_toArray, folC_length ok3]
      rw [e74]; exact v0.thereAll zeroF_ok
    have oG := folC_one G
    have zG := v0.setAll zeroF_ok G ok3
    have ze : Hid ((((Z.setCell ⟨w.heap.size + 1, 72, none⟩ (.int .i64 64)).setCell ⟨w.heap.size + 1, 73, none⟩ (.int .u64 64)).setCells w.heap.size 0 (folC G)).rangeAt w.heap.size 0 (folC G)) := zG.all
    clear hG zG x1 x0 hs hkl hZ' hZ2 hZ3 v0 z0 zb pl hl HB hhK okY
    generalize hCG : folC G = CG at *
    have HCG : Hid (folC G = CG) := hCG
    clear hCG
    generalize arr staL = AS at *
    generalize folC zeroF = CZ at *
    generalize folC startF = CS at *
    go_enter Tryz.func126, Tryz.ntmps126
    go_wp2_with (first
    | (refine wpList_load_mid rfl 173 (.global 0) rfl 0 0 rfl AS.toList _ hr Tryz.underlying173 rfl i27 ?_)
    | (refine wpList_store_mid rfl 176 (.tmp 3) (.tmp 5) rfl (w.heap.size + 1) 0 CS.toArray rfl rfl t59 i59 o59 ?_; rw [← hX]; clear hX)
    | (refine wpList_load_mid rfl 176 (.tmp 3) rfl (w.heap.size + 1) 0 rfl CG _ rG Tryz.underlying176 rfl iG ?_)
    | (refine wpList_store_mid rfl 176 (.tmp 2) (.tmp 25) rfl w.heap.size 0 CG.toArray rfl rfl tG iG' oG ?_))
    refine bodyPost_ret (v := .agg CG.toArray) (results_cell Tryz.results126 _ _ w.heap.size 0 CG _ rfl ze.out Tryz.underlying176 rfl iG) rfl ⟨by rw [HG.out, HCG.out], ?_⟩
    exact Below.setNews (Nat.le_refl _) _ _ _ vb.out
theorem pad64_full (l : List UInt8) (h : l.length = 64) : pad64 l = l := by simp [pad64, h]
/-- The text that begin has taken in. -/
def keyT (key : List UInt8) : List UInt8 := if key.length = 0 then [] else pad64 key
theorem beginF_rep (key : List UInt8) (hk : key.length ≤ 64) : Rep (hK key.length) (keyT key) (beginF key) := by
  unfold keyT beginF
  by_cases h : key.length = 0
  · rw [if_pos h, if_pos h, h]
    exact ⟨rfl, rfl, rfl, rfl⟩
  · rw [if_neg h, if_neg h]
    have hl := pad64_length key hk
    refine ⟨?_, ?_, ?_, ?_⟩
    · rw [hl]; rfl
    · rw [hl]
      show pad64 key = pad64 (((pad64 key).drop (64 * 0)).take 64)
      rw [Nat.mul_zero, List.drop_zero, List.take_of_length_le (by omega), pad64_full _ hl]
    · rw [hl]
    · rw [hl]
end Go.Proofs.YtmpiipcllgjhdaaGreatDoor.F
namespace Go.Proofs.YtmpiipcllgjhdaaGreatDoor.F
open Go.RowKit

/-- The digest of a text, by the words that it begins with. -/
def digL (h0 : List UInt32) (T : List UInt8) : List UInt8 := outL (pressL (hashTo h0 T ((T.length - 1) / 64)) (wordsL (pieceAt T ((T.length - 1) / 64))) T.length true)
theorem digL_length (h0 : List UInt32) (T : List UInt8) : (digL h0 T).length = 32 := outL_length _
theorem Rep.dig {h0 : List UInt32} {T : List UInt8} {f : Fol} (r : Rep h0 T f) : outL (pressL f.h (wordsL f.p) f.n true) = digL h0 T := by
  rw [r.h, r.p, r.n]; rfl
end Go.Proofs.YtmpiipcllgjhdaaGreatDoor.F
namespace Go.Proofs.YtmpiipcllgjhdaaGreatDoor.F
open Go.RowKit

end Go.Proofs.YtmpiipcllgjhdaaGreatDoor.F
namespace Go.Proofs.YtmpiipcllgjhdaaGreatDoor.F
open Go.RowKit

end Go.Proofs.YtmpiipcllgjhdaaGreatDoor.F
namespace Go.Proofs.YtmpiipcllgjhdaaGreatDoor.F
open Go.RowKit

end Go.Proofs.YtmpiipcllgjhdaaGreatDoor.F
namespace Go.Proofs.YtmpiipcllgjhdaaGreatDoor.F
open Go.RowKit

end Go.Proofs.YtmpiipcllgjhdaaGreatDoor.F
namespace Go.Proofs.YtmpiipcllgjhdaaGreatDoor.F
open Go.RowKit

end Go.Proofs.YtmpiipcllgjhdaaGreatDoor.F
namespace Go.Proofs.YtmpiipcllgjhdaaGreatDoor.F
open Go.RowKit

end Go.Proofs.YtmpiipcllgjhdaaGreatDoor.F
namespace Go.Proofs.YtmpiipcllgjhdaaGreatDoor.F
open Go.RowKit

theorem bytes_append (a b : ByteArray) : (a ++ b).data.toList = a.data.toList ++ b.data.toList := by simp
theorem Holds.of_but {w w' : World} {b g : Nat} {t : TypeId} {l : List UInt32} (h : Holds w b t l) (hb : But g w w') (hg : b ≠ g) : Holds w' b t l := by
  unfold Holds; rw [hb.block b h.lt hg]; exact h
theorem info5 : (Tryz.prog.info? 5).map (fun i => (i.zero, i.size, i.bytes)) = some (some (.int .u8 0), 1, 1) := by kernel_rfl
end Go.Proofs.YtmpiipcllgjhdaaGreatDoor.F
namespace Go.Proofs.YtmpiipcllgjhdaaGreatDoor.F
open Go.RowKit

def fourL (n : Nat) : List UInt8 := [UInt8.ofNat (n / 16777216), UInt8.ofNat (n / 65536), UInt8.ofNat (n / 256), UInt8.ofNat n]
theorem fourL_length (n : Nat) : (fourL n).length = 4 := rfl

theorem four_cells (n : Nat) : #[Value.int .u8 ((n : Int) / 16777216 % 256), Value.int .u8 ((n : Int) / 65536 % 256), Value.int .u8 ((n : Int) / 256 % 256), Value.int .u8 ((n : Int) % 256)] = barr (fourL n) := by
  have e : ∀ m : Nat, Value.int .u8 ((m : Int) % 256) = Y (UInt8.ofNat m) := fun m => by rw [Y, UInt8.toNat_ofNat']; rfl
  have e1 := e (n / 16777216)
  have e2 := e (n / 65536)
  have e3 := e (n / 256)
  rw [Int.natCast_ediv] at e1 e2 e3
  simp only [barr, fourL, List.map_cons, List.map_nil]
  rw [← e1, ← e2, ← e3, ← e n]
  rfl
theorem four_convert (n : Nat) (w : World) :
    (convert 143 9 (.slice (some ⟨w.heap.size, 0, none⟩) 4 4)).run Tryz.prog (w.alloc (.cells #[Value.int .u8 ((n : Int) / 16777216 % 256), Value.int .u8 ((n : Int) / 65536 % 256), Value.int .u8 ((n : Int) / 256 % 256), Value.int .u8 ((n : Int) % 256)] 5)) =
      .ok (.string ⟨(fourL n).toArray⟩) (w.alloc (.cells #[Value.int .u8 ((n : Int) / 16777216 % 256), Value.int .u8 ((n : Int) / 65536 % 256), Value.int .u8 ((n : Int) / 256 % 256), Value.int .u8 ((n : Int) % 256)] 5)) := by
  rw [four_cells]
  have hv := BHolds.new w 5 (fourL n)
  have hcv := run_convert_bytes_arg (P := Tryz.prog) (w.alloc (.cells (barr (fourL n)) 5)) 143 5 Tryz.underlying143 Tryz.underlying5 w.heap.size 0 4 4 ((fourL n).map fun x => (x.toNat : Int)) (by simp [fourL]) (fun j hj => by rw [Nat.zero_add, hv.cell j hj]; simp [List.getElem?_eq_getElem (show j < (fourL n).length from hj)]) 9 Tryz.underlying9
  rw [Lib.Lz.strOfNums_map] at hcv
  exact hcv
set_option maxRecDepth 100000 in
set_option maxHeartbeats 400000 in
theorem fourB_any (n : Nat) (hn : n < 9223372036854775808) (w : World) :
    Calls Tryz.prog 146 #[.int .i64 (n : Int)] w fun e w' => e = .returned (.string ⟨(fourL n).toArray⟩) ∧ Below w.heap.size w w' := by
  have hcv := four_convert n w
  have HB : Hid (Below w.heap.size w (w.alloc (.cells #[Value.int .u8 ((n : Int) / 16777216 % 256), Value.int .u8 ((n : Int) / 65536 % 256), Value.int .u8 ((n : Int) / 256 % 256), Value.int .u8 ((n : Int) % 256)] 5))) := (Below.refl _ w).alloc (Nat.le_refl _) _
  generalize fourL n = F4 at *
  go_enter Tryz.func146, Tryz.ntmps146
  go_wp2_with fail
  go_ret
  exact ⟨rfl, HB.out⟩
end Go.Proofs.YtmpiipcllgjhdaaGreatDoor.F
namespace Go.Proofs.YtmpiipcllgjhdaaGreatDoor.F
open Go.RowKit

/-- Texts, each behind its length. -/
def partsL (ps : List ByteArray) : List UInt8 := ps.flatMap fun p => fourL p.size ++ p.data.toList
theorem partsL_nil : partsL [] = [] := rfl
theorem partsL_cons (p : ByteArray) (ps : List ByteArray) : partsL (p :: ps) = fourL p.size ++ p.data.toList ++ partsL ps := rfl
theorem partsL_append (a b : List ByteArray) : partsL (a ++ b) = partsL a ++ partsL b := by simp [partsL]
theorem partsL_one (p : ByteArray) : partsL [p] = fourL p.size ++ p.data.toList := by simp [partsL]
theorem partsL_take (ps : List ByteArray) (i : Nat) (h : i < ps.length) : partsL (ps.take (i + 1)) = partsL (ps.take i) ++ fourL ps[i].size ++ ps[i].data.toList := by
  rw [List.take_succ_eq_append_getElem h, partsL_append, partsL_one, List.append_assoc]
theorem partsL_le (ps : List ByteArray) (i : Nat) : (partsL (ps.take i)).length ≤ (partsL ps).length := by
  have h : partsL ps = partsL (ps.take i) ++ partsL (ps.drop i) := by rw [← partsL_append, List.take_append_drop]
  rw [h, List.length_append]; omega
theorem But.of_below {b : Nat} {u v w : World} (h : But b u v) (k : Below v.heap.size v w) : But b u w :=
  ⟨k.os.trans h.os, k.tape.trans h.tape, k.output.trans h.output, Nat.le_trans h.size k.size, fun i hi hb => (k.block i (Nat.lt_of_lt_of_le hi h.size)).trans (h.block i hi hb)⟩

set_option maxRecDepth 100000 in
set_option maxHeartbeats 1000000 in
theorem addParts_any (fb : Nat) (h0 : List UInt32) (hh : h0.length = 8) (T : List UInt8) (f : Fol) (r : Rep h0 T f) (a : Option Addr) (cap : Nat) (ps : List ByteArray) (w : World)
    (hps : ∀ i (h : i < ps.length), ∃ b o, a = some ⟨b, o, none⟩ ∧ b ≠ fb ∧ w.cell? ⟨b, o + i, none⟩ = some (.string ps[i])) (hl : ps.length < 4611686018427387904)
    (hsz : ∀ i (h : i < ps.length), ps[i].size < 4611686018427387904) (hn : T.length + (partsL ps).length < 18446744073709551616)
    (hF : FAt w fb f) (hb2 : 3 < fb) (hT : Tabs w) (hS : Starts w) :
    Calls Tryz.prog 127 #[.pointer (some ⟨fb, 0, none⟩), .slice a ps.length cap] w fun e w' => e = .returned (.tuple #[]) ∧ (∃ f', Rep h0 (T ++ partsL ps) f' ∧ FAt w' fb f') ∧ But fb w w' := by
  have HPS : Hid (∀ i (h : i < ps.length), ∃ b o, a = some ⟨b, o, none⟩ ∧ b ≠ fb ∧ w.cell? ⟨b, o + i, none⟩ = some (.string ps[i])) := hps
  have HSZ : Hid (∀ i (h : i < ps.length), ps[i].size < 4611686018427387904) := hsz
  clear hps hsz
  go_enter Tryz.func127, Tryz.ntmps127
  go_wp2_with fail
  go_loopg [8] ps.length (fun gk v8 wr => ∃ (i : Nat) (f' : Fol), i + gk = ps.length ∧ v8 = .int .i64 i ∧ Rep h0 (T ++ partsL (ps.take i)) f' ∧ FAt wr fb f' ∧ But fb w wr)
  case atStart => exact ⟨0, f, by omega, rfl, by rw [List.take_zero, partsL_nil, List.append_nil]; exact r, hF, But.refl _ _⟩
  case round =>
    obtain ⟨i, f', hi, rfl, r', hF', hb⟩ := hrel
    by_cases hlt : i < ps.length
    · obtain ⟨b, o, rfl, hne, hc⟩ := HPS.out i hlt
      have hps := HSZ.out i hlt
      have hnx : Hid (T ++ partsL (ps.take (i + 1)) = T ++ partsL (ps.take i) ++ fourL ps[i].size ++ ps[i].data.toList) := by
        show _ = _
        rw [partsL_take ps i hlt]; simp only [List.append_assoc]
      have hln : (T ++ partsL (ps.take i)).length + 4 + ps[i].size < 18446744073709551616 := by
        have h1 := congrArg List.length hnx.out
        have h2 := partsL_le ps (i + 1)
        simp only [List.length_append, fourL_length, ← Lib.size_eq] at h1 ⊢
        omega
      have c0 : wr.cell? ⟨b, o + i, none⟩ = some (.string ps[i]) := by rw [hb.cell (World.block_lt_of_cell? _ _ hc) hne]; exact hc
      have il : (i : Int) < (ps.length : Int) := by omega
      generalize T ++ partsL (ps.take i) = T1 at *
      generalize ps[i] = p at *
      have HB : Hid (But fb w wr) := hb
      clear hc hb
      go_wp2_with fail
      refine (fourB_any p.size (by omega) wr).mono ?_
      rintro e X ⟨rfl, hbX⟩
      have HBX : Hid (But fb w X) := HB.out.of_below hbX
      have FX : Hid (FAt X fb f') := hF'.of_below hbX hF'.lt
      have hf4 := fourL_length p.size
      generalize fourL p.size = F4 at *
      clear hF' HB hbX c0
      go_wp2_with fail
      have hs4 : (⟨F4.toArray⟩ : ByteArray).size = 4 := by show F4.toArray.size = 4; simpa using hf4
      refine (add_any fb h0 hh T1 f' r' ⟨F4.toArray⟩ (by rw [hs4]; omega) X FX.out hb2 (hT.of_but HBX.out hb2) (hS.of_but HBX.out hb2 hT.size)).mono ?_
      rintro e Z ⟨rfl, ⟨f2, r2, F2⟩, hbZ⟩
      have HBZ : Hid (But fb w Z) := HBX.out.trans hbZ
      have FZ : Hid (FAt Z fb f2) := F2
      clear FX HBX hbZ F2
      go_wp2_with fail
      refine (add_any fb h0 hh _ f2 r2 p (by simp; omega) Z FZ.out hb2 (hT.of_but HBZ.out hb2) (hS.of_but HBZ.out hb2 hT.size)).mono ?_
      rintro e V ⟨rfl, ⟨f3, r3, F3⟩, hbV⟩
      have HBV : Hid (But fb w V) := HBZ.out.trans hbV
      clear HBZ FZ hbV
      go_wp2_with fail
      go_roundg (gk - 1)
      case measure => omega
      case rel => exact ⟨i + 1, f3, by omega, by go_num, by rw [hnx.out]; simpa using r3, F3, HBV.out⟩
    · obtain rfl : i = ps.length := by omega
      go_wp2_with fail
      go_end0
      rw [List.take_length] at r'
      exact ⟨rfl, ⟨f', r', hF'⟩, hb⟩

/-- What a slice of texts reads as. -/
def SAt (w : World) (a : Option Addr) (ps : List ByteArray) : Prop := ∀ i (h : i < ps.length), ∃ b o, a = some ⟨b, o, none⟩ ∧ w.cell? ⟨b, o + i, none⟩ = some (.string ps[i])
theorem SAt.of_below {w w' : World} {a : Option Addr} {ps : List ByteArray} {B : Nat} (h : SAt w a ps) (hb : Below B w w') (hB : ∀ b o, a = some ⟨b, o, none⟩ → 0 < ps.length → b < B) : SAt w' a ps := by
  intro i hi
  obtain ⟨b, o, ha, hc⟩ := h i hi
  exact ⟨b, o, ha, by rw [hb.cell (by exact hB b o ha (by omega))]; exact hc⟩
theorem SAt.lt {w : World} {a : Option Addr} {ps : List ByteArray} (h : SAt w a ps) : ∀ b o, a = some ⟨b, o, none⟩ → 0 < ps.length → b < w.heap.size := by
  intro b o ha hp
  obtain ⟨b', o', ha', hc⟩ := h 0 hp
  have e : some (⟨b, o, none⟩ : Addr) = some ⟨b', o', none⟩ := ha.symm.trans ha'
  obtain rfl : b = b' := by injection e with e; injection e
  exact World.block_lt_of_cell? _ _ hc
theorem SAt.apart {w : World} {a : Option Addr} {ps : List ByteArray} {fb : Nat} (h : SAt w a ps) (hne : ∀ b o, a = some ⟨b, o, none⟩ → 0 < ps.length → b ≠ fb) :
    ∀ i (hi : i < ps.length), ∃ b o, a = some ⟨b, o, none⟩ ∧ b ≠ fb ∧ w.cell? ⟨b, o + i, none⟩ = some (.string ps[i]) := by
  intro i hi
  obtain ⟨b, o, ha, hc⟩ := h i hi
  exact ⟨b, o, ha, hne b o ha (by omega), hc⟩
theorem SAt.new (w : World) (ps : List ByteArray) (t : TypeId) : SAt (w.alloc (.cells (ps.map Value.string).toArray t)) (some ⟨w.heap.size, 0, none⟩) ps := by
  intro i hi
  exact ⟨w.heap.size, 0, rfl, by rw [Nat.zero_add, World.cell?_alloc_new]; simp [hi]⟩

set_option maxRecDepth 100000 in
set_option maxHeartbeats 1000000 in
theorem tag_any (label : ByteArray) (a : Option Addr) (cap : Nat) (ps : List ByteArray) (w : World) (hps : SAt w a ps) (hl : ps.length < 4611686018427387904)
    (hll : label.size < 4611686018427387904) (hsz : ∀ i (h : i < ps.length), ps[i].size < 4611686018427387904) (hn : (partsL (label :: ps)).length < 18446744073709551616) (hT : Tabs w) (hS : Starts w) :
    Calls Tryz.prog 98 #[.string label, .slice a ps.length cap] w fun e w' => e = .returned (.string ⟨(digL (hK 0) (partsL (label :: ps))).toArray⟩) ∧ Below w.heap.size w w' := by
  have hz59 := zeroValue59
  have hT0 : Hid (3 < w.heap.size) := hT.size
  go_enter Tryz.func98, Tryz.ntmps98
  go_wp2_with fail
  refine (begin_any ⟨#[]⟩ (by decide) w hT hS).mono ?_
  rintro e X ⟨rfl, hbX⟩
  have r0 : Hid (Rep (hK 0) [] (beginF (⟨#[]⟩ : ByteArray).data.toList)) := beginF_rep (⟨#[]⟩ : ByteArray).data.toList (by decide)
  have ok0 := beginF_ok (⟨#[]⟩ : ByteArray).data.toList (by decide)
  generalize beginF (⟨#[]⟩ : ByteArray).data.toList = F at *
  have hg2 : Hid (3 < X.heap.size) := Nat.lt_of_lt_of_le hT0.out hbX.size
  have hgw : Hid (w.heap.size ≤ X.heap.size) := hbX.size
  have u1 := FAt.new X zeroF
  have t59 : (X.alloc (Obj.cells (folC zeroF).toArray 176)).there X.heap.size 0 (folC F).toArray.size := by
    have e74 : (folC F).toArray.size = 74 := by rw [List.size_toArray, folC_length ok0]
    rw [e74]; exact u1.thereAll zeroF_ok
  have i59 : (Tryz.prog.info? 176).map (·.size) = some (folC F).toArray.size := by rw [size59, List.size_toArray, folC_length ok0]
  have o59 := folC_one F
  obtain ⟨X1, hX1⟩ : ∃ X1, X1 = (X.alloc (Obj.cells (folC zeroF).toArray 176)).setCells X.heap.size 0 (folC F).toArray.toList := ⟨_, rfl⟩
  have x1 : Hid (FAt X1 X.heap.size F) := by show FAt _ _ _; rw [hX1]; exact u1.setAll zeroF_ok F ok0
  have xb : Hid (Below w.heap.size w X1) := by show Below _ _ _; rw [hX1]; exact Below.setNews hgw.out _ _ _ (hbX.alloc hbX.size _)
  have xs : Hid (X.heap.size < X1.heap.size) := x1.out.lt
  clear u1
  generalize folC zeroF = CZ at *
  generalize folC F = CF at *
  go_wp2_with (refine wpList_store_mid rfl 176 (.tmp 5) (.tmp 6) rfl X.heap.size 0 CF.toArray rfl rfl t59 i59 o59 ?_; rw [← hX1]; clear hX1)
  have hln : Hid ((partsL [label]).length + (partsL ps).length < 18446744073709551616) := by
    have : partsL (label :: ps) = partsL [label] ++ partsL ps := partsL_append [label] ps
    rw [this, List.length_append] at hn; exact hn
  have sl : SAt (X1.alloc (Obj.cells #[Value.string label] 9)) (some ⟨X1.heap.size, 0, none⟩) [label] := SAt.new X1 [label] 9
  have yb : Hid (Below w.heap.size w (X1.alloc (Obj.cells #[Value.string label] 9))) := xb.out.alloc xb.out.size _
  have yf : FAt (X1.alloc (Obj.cells #[Value.string label] 9)) X.heap.size F := x1.out.alloc _
  have yne : X1.heap.size ≠ X.heap.size := by have := xs.out; omega
  generalize X1.alloc (Obj.cells #[Value.string label] 9) = Y1 at *
  have hTY : Hid (Tabs Y1) := hT.of_below yb.out hT0.out
  have hSY : Hid (Starts Y1) := hS.of_below yb.out hT0.out
  refine (addParts_any X.heap.size (hK 0) (hK_length 0) [] F r0.out (some ⟨X1.heap.size, 0, none⟩) 1 [label] Y1 (sl.apart (fun b o hb _ => by injection hb with hb; injection hb with h1 _; rw [← h1]; exact yne)) (by simp) (by
    intro i hi
    obtain rfl : i = 0 := by simpa using hi
    exact hll) (by have := hln.out; simp only [List.length_nil]; omega) yf hg2.out hTY.out hSY.out).mono ?_
  rintro e X2 ⟨rfl, ⟨F2, r2, hF2⟩, hb2⟩
  rw [List.nil_append] at r2
  have HF2 : Hid (FAt X2 X.heap.size F2) := hF2
  have zb : Hid (Below w.heap.size w X2) := yb.out.trans (hb2.below yb.out.size hgw.out)
  have hT2 : Hid (Tabs X2) := hTY.out.of_but hb2 hg2.out
  have hS2 : Hid (Starts X2) := hSY.out.of_but hb2 hg2.out hTY.out.size
  clear hF2 sl yf hb2
  go_wp2_with fail
  refine (addParts_any X.heap.size (hK 0) (hK_length 0) _ F2 r2 a cap ps X2 ((hps.of_below zb.out hps.lt).apart (fun b o hb hp => by have := hps.lt b o hb hp; have := hgw.out; omega)) hl hsz hln.out HF2.out hg2.out hT2.out hS2.out).mono ?_
  rintro e X3 ⟨rfl, ⟨F3, r3, hF3⟩, hb3⟩
  rw [← partsL_append] at r3
  have r4 : Rep (hK 0) (partsL (label :: ps)) F3 := r3
  have ok3 := r4.ok (hK_length 0) hn
  have vb : Hid (Below w.heap.size w X3) := zb.out.trans (hb3.below zb.out.size hgw.out)
  have hT3 := hT2.out.of_but hb3 hg2.out
  have hS3 := hS2.out.of_but hb3 hg2.out hT2.out.size
  go_wp2_with fail
  refine (end_any X.heap.size F3 ok3 X3 hF3 hg2.out hT3 hS3).mono ?_
  rintro e X4 ⟨rfl, hb4⟩
  rw [r4.dig]
  have wb : Hid (Below w.heap.size w X4) := vb.out.trans (hb4.below vb.out.size hgw.out)
  generalize hD : digL (hK 0) (partsL (label :: ps)) = D at *
  have HD : Hid (digL (hK 0) (partsL (label :: ps)) = D) := hD
  clear hD
  go_wp2_with fail
  go_ret
  exact ⟨by rw [HD.out]; rfl, wb.out⟩

end Go.Proofs.YtmpiipcllgjhdaaGreatDoor.F
