/- A folder and the text that has gone into it. The walk of add: a text goes into a folder. The walk of end. -/
import Derived.Test.YtkcnpcjogfhkbaaGreatDoorZ06
import Derived.Lib.LazyBuf
set_option linter.unusedSimpArgs false
set_option linter.unusedVariables false
set_option maxRecDepth 100000
namespace Go.Proofs.YtkcnpcjogfhkbaaGreatDoor.F
open Go.RowKit

/-- Bytes with zeros behind, 64 in all. -/
def pad64 (l : List UInt8) : List UInt8 := l ++ List.replicate (64 - l.length) 0
theorem pad64_length (l : List UInt8) (h : l.length ≤ 64) : (pad64 l).length = 64 := by simp [pad64]; omega
/-- The piece of a text with number k. -/
def pieceAt (T : List UInt8) (k : Nat) : List UInt8 := pad64 ((T.drop (64 * k)).take 64)
theorem pieceAt_length (T : List UInt8) (k : Nat) : (pieceAt T k).length = 64 := pad64_length _ (by simp; omega)
/-- The words behind k full pieces. -/
def hashTo (h0 : List UInt32) (T : List UInt8) : Nat → List UInt32
  | 0 => h0
  | k + 1 => pressL (hashTo h0 T k) (wordsL (pieceAt T k)) (64 * (k + 1)) false
theorem hashTo_length (h0 : List UInt32) (hh : h0.length = 8) (T : List UInt8) : ∀ k, (hashTo h0 T k).length = 8
  | 0 => hh
  | k + 1 => by rw [hashTo, pressL_length, hashTo_length h0 hh T k]
theorem pieceAt_more (T b : List UInt8) (k : Nat) (h : 64 * (k + 1) ≤ T.length) : pieceAt (T ++ b) k = pieceAt T k := by
  unfold pieceAt
  rw [List.drop_append_of_le_length (by omega), List.take_append_of_le_length (by simp; omega)]
theorem hashTo_more (h0 : List UInt32) (T b : List UInt8) : ∀ k, 64 * k ≤ T.length → hashTo h0 (T ++ b) k = hashTo h0 T k
  | 0, _ => rfl
  | k + 1, h => by rw [hashTo, hashTo, hashTo_more h0 T b k (by omega), pieceAt_more T b k h]
/-- A folder holds a text. -/
structure Rep (h0 : List UInt32) (T : List UInt8) (f : Fol) : Prop where
  h : f.h = hashTo h0 T ((T.length - 1) / 64)
  p : f.p = pieceAt T ((T.length - 1) / 64)
  held : f.held = T.length - 64 * ((T.length - 1) / 64)
  n : f.n = T.length
theorem Rep.ok {h0 : List UInt32} {T : List UInt8} {f : Fol} (r : Rep h0 T f) (hh : h0.length = 8) (hn : T.length < 18446744073709551616) : f.ok :=
  ⟨by rw [r.h]; exact hashTo_length h0 hh T _, by rw [r.p]; exact pieceAt_length _ _, by rw [r.held]; omega, by rw [r.n]; exact hn⟩
/-- What comes into the piece. -/
def putF (f : Fol) (c : List UInt8) : Fol := { h := f.h, p := f.p.take f.held ++ c ++ f.p.drop (f.held + c.length), held := f.held + c.length, n := f.n + c.length }
theorem putF_length {f : Fol} (ok : f.ok) (c : List UInt8) (hc : f.held + c.length ≤ 64) : (putF f c).p.length = 64 := by
  have := ok.2.1
  have := ok.2.2.1
  simp [putF]; omega
theorem pad_put (l c : List UInt8) (h : l.length + c.length ≤ 64) : (pad64 l).take l.length ++ c ++ (pad64 l).drop (l.length + c.length) = pad64 (l ++ c) := by
  unfold pad64
  rw [List.take_left' rfl, List.drop_append, List.drop_of_length_le (by omega)]
  simp
  omega
theorem Rep.put {h0 : List UInt32} {T : List UInt8} {f : Fol} (r : Rep h0 T f) (c : List UInt8) (hl : f.held < 64) (hc : f.held + c.length ≤ 64) : Rep h0 (T ++ c) (putF f c) := by
  have e1 := r.held
  have hk : ((T ++ c).length - 1) / 64 = (T.length - 1) / 64 := by simp; omega
  generalize hK : (T.length - 1) / 64 = k at *
  have hT : 64 * k ≤ T.length := by omega
  refine ⟨?_, ?_, ?_, ?_⟩
  · rw [hk]; show f.h = _; rw [r.h, hK, hashTo_more h0 T c k hT]
  · rw [hk]
    show f.p.take f.held ++ c ++ f.p.drop (f.held + c.length) = _
    have e2 : (T.drop (64 * k)).take 64 = T.drop (64 * k) := List.take_of_length_le (by simp; omega)
    have e3 : f.held = (T.drop (64 * k)).length := by rw [e1, List.length_drop]
    rw [r.p, hK, pieceAt, e2, e3, pad_put _ _ (by rw [← e3]; exact hc), pieceAt, List.drop_append_of_le_length hT, List.take_of_length_le (by simp; omega)]
  · rw [hk]; show f.held + c.length = _; rw [e1]; simp; omega
  · show f.n + c.length = _; rw [r.n]; simp
theorem Rep.full {h0 : List UInt32} {T : List UInt8} {f : Fol} (r : Rep h0 T f) (c : List UInt8) (hl : f.held = 64) (hc : c.length ≤ 64) (hp : 0 < c.length) : Rep h0 (T ++ c) (putF (pressF f false) c) := by
  have e1 := r.held
  have e4 := r.n
  have hk : ((T ++ c).length - 1) / 64 = (T.length - 1) / 64 + 1 := by simp; omega
  generalize hK : (T.length - 1) / 64 = k at *
  have hT : T.length = 64 * (k + 1) := by omega
  refine ⟨?_, ?_, ?_, ?_⟩
  · rw [hk, hashTo_more h0 T c (k + 1) (by omega)]
    show pressL f.h (wordsL f.p) f.n false = pressL (hashTo h0 T k) (wordsL (pieceAt T k)) (64 * (k + 1)) false
    rw [r.h, r.p, hK, e4, hT]
  · rw [hk]
    show (List.replicate 64 0).take 0 ++ c ++ (List.replicate 64 0).drop (0 + c.length) = _
    have e5 : (T ++ c).drop (64 * (k + 1)) = c := by rw [← hT]; exact List.drop_left' rfl
    rw [pieceAt, e5, List.take_of_length_le hc, pad64, List.drop_replicate, List.take_zero, List.nil_append, Nat.zero_add]
  · rw [hk]; show 0 + c.length = _; simp [hT]
  · show f.n + c.length = _; rw [e4]; simp
end Go.Proofs.YtkcnpcjogfhkbaaGreatDoor.F
namespace Go.Proofs.YtkcnpcjogfhkbaaGreatDoor.F
open Go.RowKit

/-- 'copy' from a string of whatever length. -/
theorem run_copy_some (w : World) (dT sT ty elem : TypeId) (b o dLen dCap n : Nat) (t : ByteArray)
    (hu : Tryz.prog.underlying dT = some (.slice elem)) (hz : ∀ w, (Go.sizeOf elem).run Tryz.prog w = .ok 1 w) (hn : n = Nat.min t.size dLen)
    (ht : w.there b o n) :
    (Builtin.copy_ #[dT, sT] ty #[.slice (some ⟨b, o, none⟩) dLen dCap, .string t]).run Tryz.prog w = .ok (goInt n) (w.setCells b o ((t.data.toList.take n).map Y)) := by
  have hle : n ≤ t.size := by rw [hn]; exact Nat.min_le_left _ _
  have hl : ((t.data.toList.take n).map Y).length = n := by
    rw [List.length_map, List.length_take, ← Lib.size_eq]; omega
  have hst := run_storeCells_cells (P := Tryz.prog) b o ((t.data.toList.take n).map Y) 0 w (by rw [hl]; intro j hj; simpa using (ht j hj).1) (by rw [hl]; intro j hj; simpa using (ht j hj).2) (by
    intro v hv
    obtain ⟨x, _, rfl⟩ := List.mem_map.1 hv
    rfl)
  simp [Builtin.copy_, run_underlying hu, Builtin.lenOf, Builtin.firstCells, hz, ← hn]
  rw [← List.map_take, hst]
  rfl
theorem ext_end (s : ByteArray) (a : Nat) : (s.extract a s.size).data.toList = s.data.toList.drop a := by
  have h1 : s.data.toList.length = s.size := rfl
  simp only [ByteArray.data_extract, Array.toList_extract, List.extract_eq_take_drop]
  rw [List.take_of_length_le (by rw [List.length_drop, h1]; exact Nat.le_refl _)]
theorem Starts.of_but {w w' : World} {b : Nat} (h : Starts w) (hb : But b w w') (h2 : 4 < b) (hs : 4 < w.heap.size) : Starts w' :=
  ⟨fun i hi => by rw [hb.cell (by omega) (by omega)]; exact h.sta i hi⟩
theorem put_cells (A P C c : List Value) (o : Nat) (hA : A.length = 8) (hP : P.length = 64) (ho : o + c.length ≤ 64) :
    (A ++ (P ++ C)).take (8 + o) ++ c ++ (A ++ (P ++ C)).drop (8 + o + c.length) = A ++ ((P.take o ++ c ++ P.drop (o + c.length)) ++ C) := by
  have e1 : (A ++ (P ++ C)).take (8 + o) = A ++ P.take o := by
    rw [← hA, List.take_length_add_append, List.take_append_of_le_length (by omega)]
  have e2 : (A ++ (P ++ C)).drop (8 + o + c.length) = P.drop (o + c.length) ++ C := by
    rw [Nat.add_assoc, ← hA, List.drop_length_add_append, List.drop_append_of_le_length (by omega)]
  rw [e1, e2]; simp
/-- Some bytes of the piece are set. -/
theorem FAt.setPart {w : World} {b : Nat} {f : Fol} (h : FAt w b f) (ok : f.ok) (o : Nat) (c : List UInt8) (hc : o + c.length ≤ 64) : FAt (w.setCells b (8 + o) (c.map Y)) b { f with p := f.p.take o ++ c ++ f.p.drop (o + c.length) } := by
  have l1 : (f.h.map U).length = 8 := by simp [ok.1]
  have l2 : (f.p.map Y).length = 64 := by simp [ok.2.1]
  have := block_setCells (w := w) (c.map Y) (8 + o) (folC f) w h (by rw [folC_length ok]; simp; omega)
  unfold FAt
  rw [this]
  congr 2
  simp only [folC]
  rw [put_cells _ _ _ _ _ l1 l2 (by simpa using hc)]
  simp

set_option maxRecDepth 100000 in
set_option maxHeartbeats 1000000 in
theorem add_any (b : Nat) (h0 : List UInt32) (hh : h0.length = 8) (T : List UInt8) (f : Fol) (r : Rep h0 T f) (t : ByteArray) (hn : T.length + t.size < 18446744073709551616)
    (w : World) (hF : FAt w b f) (hb2 : 4 < b) (hT : Tabs w) (hS : Starts w) :
    Calls Tryz.prog 114 #[.pointer (some ⟨b, 0, none⟩), .string t] w fun e w' => e = .returned (.tuple #[]) ∧ (∃ f', Rep h0 (T ++ t.data.toList) f' ∧ FAt w' b f') ∧ But b w w' := by
  go_enter Tryz.func114, Tryz.ntmps114
  go_wp2_with fail
  go_loopg [1] t.size (fun k v wr => ∃ (s : ByteArray) (T' : List UInt8) (f' : Fol), s.size = k ∧ v = .string s ∧ T' ++ s.data.toList = T ++ t.data.toList ∧ Rep h0 T' f' ∧ FAt wr b f' ∧ But b w wr)
  case atStart => exact ⟨t, T, f, rfl, rfl, rfl, r, hF, But.refl _ _⟩
  case round =>
    obtain ⟨s, T', f', hk, rfl, hcat, r', hF', hb⟩ := hrel
    have HC : Hid (T' ++ s.data.toList = T ++ t.data.toList) := hcat
    have hlen : T'.length + s.size = T.length + t.size := by
      have := congrArg List.length hcat
      simpa [← Lib.size_eq] using this
    clear hcat
    have ok' : f'.ok := r'.ok hh (by omega)
    have HT : Hid (Tabs wr) := hT.of_but hb hb2
    have HS : Hid (Starts wr) := hS.of_but hb hb2 hT.size
    by_cases hs : s = ByteArray.mk #[]
    · subst hs
      go_wp2_with fail
      go_end0
      refine ⟨rfl, ⟨f', ?_, hF'⟩, hb⟩
      have := HC.out
      simp at this
      rw [← this]; exact r'
    · have hpos : 0 < s.size := by
        refine Nat.pos_of_ne_zero fun h => hs ?_
        exact ByteArray.ext (Array.eq_empty_of_size_eq_zero h)
      have hse : s.toList.isEmpty = false := by
        rw [Lib.toList_data]
        cases hq : s.data.toList with
        | nil => rw [Lib.size_eq, hq] at hpos; simp at hpos
        | cons _ _ => rfl
      clear hs
      have hnn := r'.n
      have c72 := hF'.held ok'
      by_cases hheld : f'.held = 64
      · have e64 : (f'.held : Int) = 64 := by omega
        go_wp2_with fail
        refine (folPress_any b f' ok' false wr hF' hb2 HT.out HS.out).mono ?_
        rintro e X ⟨rfl, HF, hbX⟩
        have okF := pressF_ok ok' false
        have HB : Hid (But b w X) := hb.trans hbX
        have HP : Hid (∀ c : List UInt8, 0 < c.length → (pressF f' false).held + c.length ≤ 64 → Rep h0 (T' ++ c) (putF (pressF f' false) c)) := fun c h1 h2 => r'.full c hheld (by simpa [pressF] using h2) h1
        have hlt : (pressF f' false).held < 64 := by simp [pressF]
        have hFn : (pressF f' false).n = T'.length := hnn
        clear c72 e64 hheld hnn hbX
        generalize pressF f' false = F at *
        go_wp2_with fail
        obtain ⟨m, hm⟩ : ∃ m, m = Nat.min s.size (64 - F.held) := ⟨_, rfl⟩
        have hm1 : m ≤ s.size := by rw [hm]; exact Nat.min_le_left _ _
        have hm2 : m ≤ 64 - F.held := by rw [hm]; exact Nat.min_le_right _ _
        have hm3 : 0 < m := by rw [hm]; exact Nat.lt_min.2 ⟨by omega, by omega⟩
        have hth : X.drew.there b (8 + F.held) m := (show FAt X.drew b F from HF).there okF _ _ (by omega)
        have hcp := run_copy_some X.drew 127 9 3 5 b (8 + F.held) (64 - F.held) (64 - F.held) m s Tryz.underlying127 sizeOf5 hm hth
        have hsl := fun w' => slice57_from b 8 (F.held : Int) F.held rfl hlt w'
        have c72 := HF.held okF
        have hcl : Hid ((s.data.toList.take m).length = m) := by show _ = _; rw [List.length_take, ← Lib.size_eq]; omega
        have HR : Hid (Rep h0 (T' ++ s.data.toList.take m) (putF F (s.data.toList.take m))) := HP.out _ (by rw [hcl.out]; exact hm3) (by rw [hcl.out]; omega)
        have HZ : Hid (FAt (X.drew.setCells b (8 + F.held) ((s.data.toList.take m).map Y)) b { F with p := (putF F (s.data.toList.take m)).p } ∧ But b w (X.drew.setCells b (8 + F.held) ((s.data.toList.take m).map Y))) := ⟨(show FAt X.drew b F from HF).setPart okF _ _ (by rw [hcl.out]; omega), But.setOwn _ _ _ HB.out.drew⟩
        have hpl : (putF F (s.data.toList.take m)).p.length = 64 := putF_length okF _ (by rw [hcl.out]; omega)
        have hpe : Hid (putF F (s.data.toList.take m) = { h := F.h, p := (putF F (s.data.toList.take m)).p, held := F.held + m, n := F.n + m }) := by show _ = _; simp only [putF, hcl.out]
        clear hm hth
        generalize X.drew.setCells b (8 + F.held) ((s.data.toList.take m).map Y) = Z at *
        generalize (putF F (s.data.toList.take m)).p = p' at *
        refine wp_region_still_tail 9 mixedW (by kernel_rfl) ?_
        simp only [List.take_succ_cons, List.take_zero, List.drop_succ_cons, List.drop_zero]
        show wpStill _ _ X.drew _ _ _
        repeat still_step
        refine wpStill_nil ?_
        clear c72
        have okZ : Fol.ok { F with p := p' } := ⟨okF.1, hpl, okF.2.2⟩
        have okZ2 : Fol.ok { F with p := p', held := F.held + m } := ⟨okF.1, hpl, by show F.held + m ≤ 64; omega, okF.2.2.2⟩
        have hF1 := HZ.out.1
        have hF2 : FAt (Z.setCell ⟨b, 72, none⟩ (.int .i64 ((F.held : Int) + (m : Int)))) b { F with p := p', held := F.held + m } := by have := hF1.setHeld okZ (F.held + m); rwa [Int.natCast_add] at this
        have c72 : Z.cell? ⟨b, 72, none⟩ = some (.int .i64 (F.held : Int)) := hF1.held okZ
        have f72 := hF1.frozen 72
        have k72 : IntKind.i64.wrap ((F.held : Int) + (m : Int)) = ((F.held : Int) + (m : Int)) := IntWalk.i64_in _ ⟨by omega, by omega⟩
        have c73 : (Z.setCell ⟨b, 72, none⟩ (.int .i64 ((F.held : Int) + (m : Int)))).cell? ⟨b, 73, none⟩ = some (.int .u64 (F.n : Int)) := hF2.n okZ2
        have f73 := hF2.frozen 73
        have n0 : F.n + m < 18446744073709551616 := by omega
        have k73 : IntKind.u64.wrap ((F.n : Int) + (m : Int)) = ((F.n : Int) + (m : Int)) := IntWalk.u64_in _ ⟨by omega, by omega⟩
        have k74 : IntKind.u64.wrap (m : Int) = (m : Int) := IntWalk.u64_in _ ⟨by omega, by omega⟩
        have HF3 : Hid (FAt ((Z.setCell ⟨b, 72, none⟩ (.int .i64 ((F.held : Int) + (m : Int)))).setCell ⟨b, 73, none⟩ (.int .u64 ((F.n : Int) + (m : Int)))) b { h := F.h, p := p', held := F.held + m, n := F.n + m }) := by have := hF2.setN okZ2 (F.n + m); rw [Int.natCast_add] at this; exact this
        have b0 : (0 : Int) ≤ (m : Int) := by omega
        have b1 : (m : Int) ≤ (s.size : Int) := by omega
        go_wp2_with fail
        go_roundg (s.size - m)
        case measure => omega
        case rel =>
          refine ⟨s.extract m s.size, T' ++ s.data.toList.take m, _, ?_, ?_, ?_, HR.out, ?_, (HZ.out.2.setCell _ _).setCell _ _⟩
          · rw [ByteArray.size_extract]; omega
          · rw [hk]
          · rw [ext_end, List.append_assoc, List.take_append_drop]; exact HC.out
          · rw [hpe.out, ← hFn]; exact HF3.out
      · have e64 : ¬ ((f'.held : Int) = 64) := by omega
        go_wp2_with fail
        have hlt : f'.held < 64 := by have := ok'.2.2.1; omega
        have HB : Hid (But b w wr) := hb
        have HP : Hid (∀ c : List UInt8, 0 < c.length → f'.held + c.length ≤ 64 → Rep h0 (T' ++ c) (putF f' c)) := fun c h1 h2 => r'.put c hlt h2
        have HF := hF'
        have okF := ok'
        have hFn := hnn
        clear c72 e64 hheld hnn
        generalize f' = F at *
        obtain ⟨m, hm⟩ : ∃ m, m = Nat.min s.size (64 - F.held) := ⟨_, rfl⟩
        have hm1 : m ≤ s.size := by rw [hm]; exact Nat.min_le_left _ _
        have hm2 : m ≤ 64 - F.held := by rw [hm]; exact Nat.min_le_right _ _
        have hm3 : 0 < m := by rw [hm]; exact Nat.lt_min.2 ⟨by omega, by omega⟩
        have hth : wr.drew.there b (8 + F.held) m := (show FAt wr.drew b F from HF).there okF _ _ (by omega)
        have hcp := run_copy_some wr.drew 127 9 3 5 b (8 + F.held) (64 - F.held) (64 - F.held) m s Tryz.underlying127 sizeOf5 hm hth
        have hsl := fun w' => slice57_from b 8 (F.held : Int) F.held rfl hlt w'
        have c72 := HF.held okF
        have hcl : Hid ((s.data.toList.take m).length = m) := by show _ = _; rw [List.length_take, ← Lib.size_eq]; omega
        have HR : Hid (Rep h0 (T' ++ s.data.toList.take m) (putF F (s.data.toList.take m))) := HP.out _ (by rw [hcl.out]; exact hm3) (by rw [hcl.out]; omega)
        have HZ : Hid (FAt (wr.drew.setCells b (8 + F.held) ((s.data.toList.take m).map Y)) b { F with p := (putF F (s.data.toList.take m)).p } ∧ But b w (wr.drew.setCells b (8 + F.held) ((s.data.toList.take m).map Y))) := ⟨(show FAt wr.drew b F from HF).setPart okF _ _ (by rw [hcl.out]; omega), But.setOwn _ _ _ HB.out.drew⟩
        have hpl : (putF F (s.data.toList.take m)).p.length = 64 := putF_length okF _ (by rw [hcl.out]; omega)
        have hpe : Hid (putF F (s.data.toList.take m) = { h := F.h, p := (putF F (s.data.toList.take m)).p, held := F.held + m, n := F.n + m }) := by show _ = _; simp only [putF, hcl.out]
        clear hm hth
        generalize wr.drew.setCells b (8 + F.held) ((s.data.toList.take m).map Y) = Z at *
        generalize (putF F (s.data.toList.take m)).p = p' at *
        refine wp_region_still_tail 9 mixedW (by kernel_rfl) ?_
        simp only [List.take_succ_cons, List.take_zero, List.drop_succ_cons, List.drop_zero]
        show wpStill _ _ wr.drew _ _ _
        repeat still_step
        refine wpStill_nil ?_
        clear c72
        have okZ : Fol.ok { F with p := p' } := ⟨okF.1, hpl, okF.2.2⟩
        have okZ2 : Fol.ok { F with p := p', held := F.held + m } := ⟨okF.1, hpl, by show F.held + m ≤ 64; omega, okF.2.2.2⟩
        have hF1 := HZ.out.1
        have hF2 : FAt (Z.setCell ⟨b, 72, none⟩ (.int .i64 ((F.held : Int) + (m : Int)))) b { F with p := p', held := F.held + m } := by have := hF1.setHeld okZ (F.held + m); rwa [Int.natCast_add] at this
        have c72 : Z.cell? ⟨b, 72, none⟩ = some (.int .i64 (F.held : Int)) := hF1.held okZ
        have f72 := hF1.frozen 72
        have k72 : IntKind.i64.wrap ((F.held : Int) + (m : Int)) = ((F.held : Int) + (m : Int)) := IntWalk.i64_in _ ⟨by omega, by omega⟩
        have c73 : (Z.setCell ⟨b, 72, none⟩ (.int .i64 ((F.held : Int) + (m : Int)))).cell? ⟨b, 73, none⟩ = some (.int .u64 (F.n : Int)) := hF2.n okZ2
        have f73 := hF2.frozen 73
        have n0 : F.n + m < 18446744073709551616 := by omega
        have k73 : IntKind.u64.wrap ((F.n : Int) + (m : Int)) = ((F.n : Int) + (m : Int)) := IntWalk.u64_in _ ⟨by omega, by omega⟩
        have k74 : IntKind.u64.wrap (m : Int) = (m : Int) := IntWalk.u64_in _ ⟨by omega, by omega⟩
        have HF3 : Hid (FAt ((Z.setCell ⟨b, 72, none⟩ (.int .i64 ((F.held : Int) + (m : Int)))).setCell ⟨b, 73, none⟩ (.int .u64 ((F.n : Int) + (m : Int)))) b { h := F.h, p := p', held := F.held + m, n := F.n + m }) := by have := hF2.setN okZ2 (F.n + m); rw [Int.natCast_add] at this; exact this
        have b0 : (0 : Int) ≤ (m : Int) := by omega
        have b1 : (m : Int) ≤ (s.size : Int) := by omega
        go_wp2_with fail
        go_roundg (s.size - m)
        case measure => omega
        case rel =>
          refine ⟨s.extract m s.size, T' ++ s.data.toList.take m, _, ?_, ?_, ?_, HR.out, ?_, (HZ.out.2.setCell _ _).setCell _ _⟩
          · rw [ByteArray.size_extract]; omega
          · rw [hk]
          · rw [ext_end, List.append_assoc, List.take_append_drop]; exact HC.out
          · rw [hpe.out, ← hFn]; exact HF3.out
end Go.Proofs.YtkcnpcjogfhkbaaGreatDoor.F
namespace Go.Proofs.YtkcnpcjogfhkbaaGreatDoor.F
open Go.RowKit

/-- One byte of a word, the lowest first; eight words as bytes. -/
def byteOf (x : UInt32) (j : Nat) : UInt8 := UInt8.ofNat (x.toNat / 2 ^ (8 * j))
def outL (h : List UInt32) : List UInt8 := (List.range 32).map fun i => byteOf (h.getD (i / 4) 0) (i % 4)
def outTo (h : List UInt32) : Nat → List UInt8
  | 0 => List.replicate 32 0
  | i + 1 => (outTo h i).set i (byteOf (h.getD (i / 4) 0) (i % 4))
theorem outTo_length (h : List UInt32) (i : Nat) : (outTo h i).length = 32 := by
  induction i with
  | zero => rfl
  | succ i ih => simp [outTo, ih]
theorem outTo_get (h : List UInt32) : ∀ (i : Nat), i ≤ 32 → ∀ j, j < 32 → (outTo h i)[j]? = some (if j < i then byteOf (h.getD (j / 4) 0) (j % 4) else 0)
  | 0, _, j, hj => by rw [outTo, List.getElem?_replicate, if_pos hj, if_neg (by omega)]
  | i + 1, hi, j, hj => by
    rw [outTo, List.getElem?_set]
    by_cases h' : i = j
    · subst h'
      simp [outTo_length, hj]
    · rw [if_neg h', outTo_get h i (by omega) j hj]
      by_cases h2 : j < i
      · rw [if_pos h2, if_pos (by omega)]
      · rw [if_neg h2, if_neg (by omega)]
theorem outL_length (h : List UInt32) : (outL h).length = 32 := by simp [outL]
theorem outTo_all (h : List UInt32) : outTo h 32 = outL h := by
  apply List.ext_getElem?
  intro j
  by_cases hj : j < 32
  · rw [outTo_get h 32 (by omega) j hj, if_pos hj]
    simp [outL, hj]
  · rw [List.getElem?_eq_none (by rw [outTo_length]; omega), List.getElem?_eq_none (by rw [outL_length]; omega)]
theorem BHolds.frozen {w : World} {b : Nat} {t : TypeId} {l : List UInt8} (h : BHolds w b t l) (i : Nat) : w.frozen? ⟨b, i, none⟩ = false := by
  unfold BHolds at h
  simp [World.frozen?, h]
theorem BHolds.set {w : World} {b : Nat} {t : TypeId} {l : List UInt8} (h : BHolds w b t l) (i : Nat) (x : UInt8) : BHolds (w.setCell ⟨b, i, none⟩ (Y x)) b t (l.set i x) := by
  unfold BHolds at *
  simp [World.setCell, Array.getElem?_modify, h, barr, List.map_set]
theorem BHolds.new (w : World) (t : TypeId) (l : List UInt8) : BHolds (w.alloc (.cells (barr l) t)) w.heap.size t l := by
  show (w.heap.push _)[w.heap.size]? = _
  simp
theorem FAt.of_but {w w' : World} {b g : Nat} {f : Fol} (h : FAt w b f) (hb : But g w w') (hg : b ≠ g) : FAt w' b f := by
  unfold FAt; rw [hb.block b h.lt hg]; exact h
theorem FAt.word {w : World} {b : Nat} {f : Fol} (h : FAt w b f) (ok : f.ok) (i : Nat) (hi : i < 8) : w.cell? ⟨b, i, none⟩ = some (U (f.h.getD i 0)) := by
  have := h.words ok i (U (f.h.getD i 0)) (by simp [arr, ok.1, hi])
  simpa using this
theorem But.join {b g : Nat} {u v w : World} (h : But b u v) (k : But g v w) (hg : u.heap.size ≤ g) : But b u w :=
  ⟨k.os.trans h.os, k.tape.trans h.tape, k.output.trans h.output, Nat.le_trans h.size k.size, fun i hi hb => (k.block i (Nat.lt_of_lt_of_le hi h.size) (by omega)).trans (h.block i hi hb)⟩
theorem byte_val (x : UInt32) (j : Nat) : Value.int .u8 ((x.toNat : Int) / 2 ^ (j * 8) % 256) = Y (byteOf x j) := by
  unfold Y byteOf
  congr 1
  rw [UInt8.toNat_ofNat', Nat.mul_comm 8 j, Int.natCast_emod, Int.natCast_ediv, Int.natCast_pow]
  rfl
theorem alen76 : Tryz.prog.arrayLen 167 = 32 := by kernel_rfl
theorem elem76 : Tryz.prog.elem 167 = 5 := by kernel_rfl
theorem slice76_all (b o : Nat) (w : World) :
    (Instr.sliceAt 167 (.pointer (some ⟨b, o, none⟩)) none none none).run Tryz.prog w = .ok (.slice (some ⟨b, o, none⟩) 32 32) w := by
  rw [run_sliceAt_array_all w 167 ⟨b, o, none⟩ (by rw [alen76, elem76]; exact Tryz.underlying167)]
  rw [elem76, sizeOf5, alen76]
  simp only [Result.andThen_ok, slicedAt, Nat.zero_mul, Nat.sub_zero]
  rw [if_neg (by omega), Addr.add_mid]; rfl

set_option maxRecDepth 100000 in
set_option maxHeartbeats 1000000 in
theorem end_any (b : Nat) (f : Fol) (ok : f.ok) (w : World) (hF : FAt w b f) (hb2 : 4 < b) (hT : Tabs w) (hS : Starts w) :
    Calls Tryz.prog 94 #[.pointer (some ⟨b, 0, none⟩)] w fun e w' => e = .returned (.string ⟨(outL (pressL f.h (wordsL f.p) f.n true)).toArray⟩) ∧ But b w w' := by
  go_enter Tryz.func94, Tryz.ntmps94
  go_wp2_with fail
  refine (folPress_any b f ok true w hF hb2 hT hS).mono ?_
  rintro e X ⟨rfl, HF, hbX⟩
  have okF := pressF_ok ok true
  have HR : Hid ((pressF f true).h = pressL f.h (wordsL f.p) f.n true) := rfl
  generalize pressF f true = F at *
  go_wp2_with fail
  have a3 := BHolds.new X 167 (List.replicate 32 0)
  have hbl := HF.lt
  obtain ⟨X1, hX1⟩ : ∃ X1, X1 = X.alloc (Obj.cells (barr (List.replicate 32 0)) 167) := ⟨_, rfl⟩
  have HF1 : FAt X1 b F := by rw [hX1]; exact HF.alloc _
  have HB1 : Hid (But b w X1) := by show But _ _ _; rw [hX1]; exact hbX.alloc _
  have hsz : Hid (w.heap.size ≤ X.heap.size) := hbX.size
  rw [← hX1] at a3
  change Code.wp _ _ _ _ (X.alloc (Obj.cells (barr (List.replicate 32 0)) 167))
  rw [← hX1]
  generalize X.heap.size = g at *
  clear hX1 HF hbX
  go_loopg [7] 32 (fun k v wr => ∃ i : Nat, i + k = 32 ∧ v = .int .i64 i ∧ BHolds wr g 167 (outTo F.h i) ∧ But g X1 wr)
  case atStart => exact ⟨0, rfl, rfl, a3, But.refl _ _⟩
  case round =>
    obtain ⟨i, hi, rfl, hv, hb⟩ := hrel
    have hl := outTo_length F.h i
    have hFr := HF1.of_but hb (by omega)
    by_cases hlt : i < 32
    · have i32 : (i : Int) < 32 := by omega
      have hnx : Hid (outTo F.h (i + 1) = (outTo F.h i).set i (byteOf (F.h.getD (i / 4) 0) (i % 4))) := rfl
      have c0 := hFr.word okF (i / 4) (by omega)
      have d0 := hv.cell i (by omega)
      have f0 := hv.frozen i
      go_wp2_with fail
      go_roundg (gk - 1)
      case measure => omega
      case rel =>
        refine ⟨i + 1, by omega, by go_num, ?_, hb.setCell _ _⟩
        rw [hnx.out, byte_val (F.h[i / 4]?.getD 0) (i % 4)]
        exact hv.set _ _
    · have hid : Hid (i = 32) := by show i = 32; omega
      have hfin : Hid (outTo F.h i = outL F.h) := by show _ = _; rw [hid.out]; exact outTo_all F.h
      have hsl := fun w' => slice76_all g 0 w'
      generalize outTo F.h i = L at *
      have hcv := run_convert_bytes_arg (P := Tryz.prog) wr 127 5 Tryz.underlying127 Tryz.underlying5 g 0 32 32 (L.map fun x => (x.toNat : Int)) (by simpa using hl) (fun j hj => by rw [Nat.zero_add, hv.cell j (by omega)]; simp [hl, hj]) 9 Tryz.underlying9
      rw [Lib.Lz.strOfNums_map] at hcv
      go_wp2_with fail
      go_ret
      exact ⟨by rw [← HR.out, ← hfin.out]; rfl, HB1.out.join hb hsz.out⟩
end Go.Proofs.YtkcnpcjogfhkbaaGreatDoor.F
