/- Who goes second: a round. -/
import Derived.Test.YtelfcapjegncfaaSe
set_option linter.unusedSimpArgs false
set_option linter.unusedVariables false
set_option maxRecDepth 100000
namespace Go.Proofs.Ytelfcapjegncfaa
open Go.RowKit Go.Shelf Go.PlainAid

attribute [local go_sem] Oper.semAt_some

def bd24 : Code := Go.Code.block 3 (Go.Code.block 4 (((Go.Code.region 10 #[{ dst := some 36, op := Go.Op.load 22 (Go.Operand.tmp 7), type := 22, pos := "route.go:53", after := #[], guard := none }, { dst := some 37, op := Go.Op.move (Go.Operand.tmp 9), type := 3, pos := "route.go:53", after := #[], guard := none }, { dst := some 38, op := Go.Op.indexAddr 22 (Go.Operand.tmp 36) (Go.Operand.tmp 37), type := 0, pos := "route.go:53", after := #[{ on := 0, ground := Go.Ground.data }, { on := 1, ground := Go.Ground.data }], guard := none }, { dst := some 39, op := Go.Op.load 4 (Go.Operand.tmp 38), type := 4, pos := "route.go:53", after := #[{ on := 2, ground := Go.Ground.data }], guard := none }, { dst := some 40, op := Go.Op.unOp Go.UnOp.not 4 (Go.Operand.tmp 39), type := 4, pos := "route.go:53", after := #[{ on := 3, ground := Go.Ground.data }], guard := none }] false).seq (Go.Code.cond (Go.Operand.tmp 40) Go.Code.skip (Go.Code.exit 4))).seq (Go.Code.block 5 ((Go.Code.region 11 #[{ dst := some 41, op := Go.Op.load 22 (Go.Operand.tmp 6), type := 22, pos := "route.go:54", after := #[], guard := none }, { dst := some 42, op := Go.Op.move (Go.Operand.tmp 9), type := 3, pos := "route.go:54", after := #[], guard := none }, { dst := some 43, op := Go.Op.load 22 (Go.Operand.tmp 7), type := 22, pos := "route.go:54", after := #[{ on := 5, ground := Go.Ground.gcOnly Go.Departure.lateStores }], guard := none }, { dst := some 44, op := Go.Op.move (Go.Operand.tmp 9), type := 3, pos := "route.go:54", after := #[{ on := 5, ground := Go.Ground.gcOnly Go.Departure.lateStores }], guard := none }, { dst := some 45, op := Go.Op.indexAddr 22 (Go.Operand.tmp 41) (Go.Operand.tmp 42), type := 0, pos := "route.go:54", after := #[{ on := 0, ground := Go.Ground.data }, { on := 1, ground := Go.Ground.data }, { on := 0, ground := Go.Ground.phase }, { on := 1, ground := Go.Ground.phase }, { on := 2, ground := Go.Ground.textOnly Go.Departure.lateStores }, { on := 3, ground := Go.Ground.textOnly Go.Departure.lateStores }], guard := none }, { dst := none, op := Go.Op.store 4 (Go.Operand.tmp 45) (Go.Operand.const (Go.Value.bool true)), type := 0, pos := "route.go:54", after := #[{ on := 4, ground := Go.Ground.data }, { on := 0, ground := Go.Ground.phase }, { on := 1, ground := Go.Ground.phase }, { on := 2, ground := Go.Ground.textOnly Go.Departure.lateStores }, { on := 3, ground := Go.Ground.textOnly Go.Departure.lateStores }], guard := none }, { dst := some 46, op := Go.Op.indexAddr 22 (Go.Operand.tmp 43) (Go.Operand.tmp 44), type := 0, pos := "route.go:54", after := #[{ on := 2, ground := Go.Ground.data }, { on := 3, ground := Go.Ground.data }, { on := 0, ground := Go.Ground.phase }, { on := 1, ground := Go.Ground.phase }, { on := 2, ground := Go.Ground.phase }, { on := 3, ground := Go.Ground.phase }, { on := 4, ground := Go.Ground.phase }, { on := 5, ground := Go.Ground.phase }], guard := none }, { dst := none, op := Go.Op.store 4 (Go.Operand.tmp 46) (Go.Operand.const (Go.Value.bool true)), type := 0, pos := "route.go:54", after := #[{ on := 6, ground := Go.Ground.data }, { on := 5, ground := Go.Ground.chain }, { on := 0, ground := Go.Ground.phase }, { on := 1, ground := Go.Ground.phase }, { on := 2, ground := Go.Ground.phase }, { on := 3, ground := Go.Ground.phase }, { on := 4, ground := Go.Ground.phase }, { on := 5, ground := Go.Ground.phase }], guard := none }] true).seq ((Go.Code.region 12 #[{ dst := some 47, op := Go.Op.move (Go.Operand.tmp 9), type := 3, pos := "route.go:55", after := #[], guard := none }, { dst := some 48, op := Go.Op.binOp Go.BinOp.xor 3 (Go.Operand.tmp 47) (Go.Operand.const (Go.Value.int Go.IntKind.i64 1)) 3, type := 3, pos := "route.go:55", after := #[{ on := 0, ground := Go.Ground.data }], guard := none }, { dst := some 10, op := Go.Op.assign (Go.Operand.tmp 48), type := 3, pos := "route.go:55", after := #[{ on := 1, ground := Go.Ground.data }, { on := 0, ground := Go.Ground.phase }, { on := 1, ground := Go.Ground.phase }], guard := none }] false).seq (((Go.Code.region 13 #[{ dst := some 49, op := Go.Op.move (Go.Operand.tmp 10), type := 3, pos := "route.go:56", after := #[], guard := none }, { dst := some 50, op := Go.Op.load 29 (Go.Operand.tmp 1), type := 29, pos := "route.go:56", after := #[], guard := none }, { dst := some 51, op := Go.Op.call { callee := Go.Callee.builtin Go.Builtin.len, args := #[Go.Operand.tmp 50], argTypes := #[29] }, type := 3, pos := "route.go:56", after := #[{ on := 1, ground := Go.Ground.data }], guard := none }, { dst := some 52, op := Go.Op.binOp Go.BinOp.eql 3 (Go.Operand.tmp 49) (Go.Operand.tmp 51) 3, type := 4, pos := "route.go:56", after := #[{ on := 0, ground := Go.Ground.data }, { on := 2, ground := Go.Ground.data }], guard := none }] false).seq (Go.Code.cond (Go.Operand.tmp 52) (Go.Code.exit 4) Go.Code.skip)).seq ((Go.Code.region 14 #[{ dst := some 53, op := Go.Op.load 22 (Go.Operand.tmp 7), type := 22, pos := "route.go:59", after := #[], guard := none }, { dst := some 54, op := Go.Op.move (Go.Operand.tmp 10), type := 3, pos := "route.go:59", after := #[], guard := none }, { dst := some 55, op := Go.Op.indexAddr 22 (Go.Operand.tmp 53) (Go.Operand.tmp 54), type := 0, pos := "route.go:59", after := #[{ on := 0, ground := Go.Ground.data }, { on := 1, ground := Go.Ground.data }, { on := 0, ground := Go.Ground.phase }, { on := 1, ground := Go.Ground.phase }], guard := none }, { dst := none, op := Go.Op.store 4 (Go.Operand.tmp 55) (Go.Operand.const (Go.Value.bool true)), type := 0, pos := "route.go:59", after := #[{ on := 2, ground := Go.Ground.data }, { on := 0, ground := Go.Ground.phase }, { on := 1, ground := Go.Ground.phase }], guard := none }] false).seq (Go.Code.region 15 #[{ dst := some 56, op := Go.Op.load 29 (Go.Operand.tmp 1), type := 29, pos := "route.go:60", after := #[], guard := none }, { dst := some 57, op := Go.Op.load 29 (Go.Operand.tmp 3), type := 29, pos := "route.go:60", after := #[], guard := none }, { dst := some 58, op := Go.Op.move (Go.Operand.tmp 10), type := 3, pos := "route.go:60", after := #[], guard := none }, { dst := some 59, op := Go.Op.indexAddr 29 (Go.Operand.tmp 57) (Go.Operand.tmp 58), type := 0, pos := "route.go:60", after := #[{ on := 1, ground := Go.Ground.data }, { on := 2, ground := Go.Ground.data }], guard := none }, { dst := some 60, op := Go.Op.load 3 (Go.Operand.tmp 59), type := 3, pos := "route.go:60", after := #[{ on := 3, ground := Go.Ground.data }], guard := none }, { dst := some 61, op := Go.Op.binOp Go.BinOp.xor 3 (Go.Operand.tmp 60) (Go.Operand.const (Go.Value.int Go.IntKind.i64 1)) 3, type := 3, pos := "route.go:60", after := #[{ on := 4, ground := Go.Ground.data }], guard := none }, { dst := some 62, op := Go.Op.indexAddr 29 (Go.Operand.tmp 56) (Go.Operand.tmp 61), type := 0, pos := "route.go:60", after := #[{ on := 0, ground := Go.Ground.data }, { on := 5, ground := Go.Ground.data }], guard := none }, { dst := some 63, op := Go.Op.load 3 (Go.Operand.tmp 62), type := 3, pos := "route.go:60", after := #[{ on := 6, ground := Go.Ground.data }], guard := none }, { dst := some 9, op := Go.Op.assign (Go.Operand.tmp 63), type := 3, pos := "route.go:60", after := #[{ on := 7, ground := Go.Ground.data }, { on := 0, ground := Go.Ground.phase }, { on := 1, ground := Go.Ground.phase }, { on := 2, ground := Go.Ground.phase }, { on := 3, ground := Go.Ground.phase }, { on := 4, ground := Go.Ground.phase }, { on := 5, ground := Go.Ground.phase }, { on := 6, ground := Go.Ground.phase }, { on := 7, ground := Go.Ground.phase }], guard := none }] true))))))).loop)
set_option maxHeartbeats 2000000 in
theorem bd24_in {l n : Nat} {w V : World} {L : List Nat} {a : Option Addr} {c B1 B3 B2 B6 B7 Bs Bp B8 : Nat} {p s : Nat → Bool} {r0 : Nat} (hL : L.length ≤ 256) (hp : PM L) (h0 : r0 < L.length) (X : SS w V L a c B1 B3 B2 B6 B7 Bs Bp B8 p s) (hO : Out L p s) (he : r0 = oo L (L.length - 1) ∨ p (oo L (L.length - 1)) = true) (s0 s2 s4 s5 s8 s10 s11 s12 s13 s14 s15 s16 s17 s18 s19 s20 s21 s22 s23 s24 s25 s26 s27 s28 s29 s30 s31 s32 s33 s34 s35 s36 s37 s38 s39 s40 s41 s42 s43 s44 s45 s46 s47 s48 s49 s50 s51 s52 s53 s54 s55 s56 s57 s58 s59 s60 s61 s62 s63 s64 : Value) :
    bd24.wpIn (Fence.wide.inRound l) n Try.prog (fun e _ V' => e = .normal ∧ KeepsFrom 0 V V' ∧ ∃ p' s', SS w V' L a c B1 B3 B2 B6 B7 Bs Bp B8 p' s' ∧ Out L p' s' ∧ p' r0 = true ∧ ∀ x, p x = true → p' x = true) { tmps := #[s0, .pointer (some ⟨B1, 0, none⟩), s2, .pointer (some ⟨B3, 0, none⟩), s4, s5, .pointer (some ⟨B6, 0, none⟩), .pointer (some ⟨B7, 0, none⟩), s8, (.int .i64 (r0 : Int)), s10, s11, s12, s13, s14, s15, s16, s17, s18, s19, s20, s21, s22, s23, s24, s25, s26, s27, s28, s29, s30, s31, s32, s33, s34, s35, s36, s37, s38, s39, s40, s41, s42, s43, s44, s45, s46, s47, s48, s49, s50, s51, s52, s53, s54, s55, s56, s57, s58, s59, s60, s61, s62, s63, s64], defers := [] } V := by
  unfold bd24
  have X0 : Hid (SS w V L a c B1 B3 B2 B6 B7 Bs Bp B8 p s) := X
  have N0 : Hid (Inn L p s r0 r0) := hO.inn h0 he
  clear X hO he
  gi_wp2
  gi_loopw [9] (fun v9 wr => ∃ p' s' r, v9 = .int .i64 ((r : Nat) : Int) ∧ SS w wr L a c B1 B3 B2 B6 B7 Bs Bp B8 p' s' ∧ Inn L p' s' r0 r ∧ KeepsFrom 0 V wr ∧ ∀ x, p x = true → p' x = true) (fun _ wr => openV Bp wr)
  case atStart => exact ⟨p, s, r0, rfl, X0.out, N0.out, KeepsFrom.refl _ _, fun _ h => h⟩
  case round =>
    obtain ⟨p', s', r, rfl, hX, hN, hK, hM⟩ := hrel
    have X : Hid (SS w wr L a c B1 B3 B2 B6 B7 Bs Bp B8 p' s') := hX
    have NN : Hid (Inn L p' s' r0 r) := hN
    have KK : Hid (KeepsFrom 0 V wr) := hK
    have MM : Hid (∀ x, p x = true → p' x = true) := hM
    have hr : r < L.length := hN.rn
    have hrl : (r : Int) < (L.length : Int) := by omega
    have c7 := hX.x7.cell 0 (by simp)
    have cp := hX.xp.cell r (by rw [tf_len]; exact hr)
    rw [tf_at] at cp
    clear hX hN hK hM X0 N0
    cases hpr : p' r with
    | true =>
      rw [hpr] at cp
      obtain ⟨hO, hP⟩ := NN.out.fin hp hpr
      have HO : Hid (Out L p' s') := hO
      have HP : Hid (p' r0 = true) := hP
      clear hO hP hpr
      gi_wp2
      exact ⟨KK.out, p', s', X.out, HO.out, HP.out, MM.out⟩
    | false =>
      rw [hpr] at cp
      have HPR : Hid (p' r = false) := hpr
      clear hpr
      gi_wp2
      refine wpIn_mono (Q := fun e aa ww => match e with | .normal => (?R : Act → World → Prop) aa ww | _ => False) ?here ?next
      case next =>
        intro ex aa ww hh
        cases ex with
        | normal => exact hh
        | _ => exact hh.elim
      case here =>
        refine rg11_in hr X.out _ _ _ _ _ _ _ _ _ _ _ _ _ _ _ _ _ _ _ _ _ _ _ _ _ _ _ _ _ _ _ _ _ _ _ _ _ _ _ _ _ _ _ _ _ _ _ _ _ _ _ _ _ _ _ _ _ _ _ _ ?_
        intro V1 hX1 hK1
        have X1 : Hid (SS w V1 L a c B1 B3 B2 B6 B7 Bs Bp B8 (upd p' r) (upd s' r)) := hX1
        have K1 : Hid (KeepsFrom 0 V V1) := KK.out.trans hK1
        have d1 := hX1.x1.cell 0 (by simp)
        have d7 := hX1.x7.cell 0 (by simp)
        clear hX1 hK1 c7 cp
        have hx : bits BinOp.xor IntKind.i64 (r : Int) 1 = (fl r : Int) := bits_fl (by omega)
        by_cases hf : fl r < L.length
        · obtain ⟨hw2, hN2⟩ := NN.out.next hp HPR.out hf
          have N2 : Hid (Inn L (upd (upd p' r) (fl r)) (upd s' r) r0 (gg L (fl r))) := hN2
          have W2 : Hid (fl (wo L (fl r)) < L.length) := hw2
          have W1 : Hid (wo L (fl r) < L.length) := hp.w_lt hf
          have X2 : Hid (SS w (V1.setCell ⟨Bp, fl r, none⟩ (.bool true)) L a c B1 B3 B2 B6 B7 Bs Bp B8 (upd (upd p' r) (fl r)) (upd s' r)) := X1.out.setP (fl r)
          have K2 : Hid (KeepsFrom 0 V (V1.setCell ⟨Bp, fl r, none⟩ (.bool true))) := K1.out.trans ((KeepsOthers.setCell _ _ _).from _)
          have e2 : ((fl r : Int) == (L.length : Int)) = false := by simp; omega
          have hfl : (fl r : Int) < (L.length : Int) := by omega
          have dp := X1.out.xp.cell (fl r) (by rw [tf_len]; exact hf)
          have df := X1.out.xp.frozen (fl r)
          have OP : Hid (openN (upd (upd p' r) (fl r)) L.length < openN p' L.length) := Nat.lt_of_le_of_lt (openN_upd_le _ _ _) (openN_upd_lt hr HPR.out)
          have OV : Hid (openV Bp wr = openN p' L.length) := openV_eq X.out.xp
          clear hw2 hN2
          generalize fl r = F at *
          generalize (tf (upd p' r) L.length)[F]'(by rw [tf_len]; exact hf) = old at *
          gi_wp2
          refine wpIn_mono (Q := fun e aa ww => match e with | .normal => (?R2 : Act → World → Prop) aa ww | _ => False) ?here2 ?next2
          case next2 =>
            intro ex aa ww hh
            cases ex with
            | normal => exact hh
            | _ => exact hh.elim
          case here2 =>
            refine rg15_in hL hf W1.out W2.out X2.out _ _ _ _ _ _ _ _ _ _ _ _ _ _ _ _ _ _ _ _ _ _ _ _ _ _ _ _ _ _ _ _ _ _ _ _ _ _ _ _ _ _ _ _ _ _ _ _ _ _ _ _ _ _ _ _ _ _ _ _ ?_
            intro V3 b3 o3 hX3 hK3
            have X3 : Hid (SS w V3 L a c B1 B3 B2 B6 B7 Bs Bp B8 (upd (upd p' r) F) (upd s' r)) := hX3
            have K3 : Hid (KeepsFrom 0 V V3) := K2.out.trans hK3
            clear hX3 hK3
            gi_wp2
            go_roundw
            case rel => exact ⟨_, _, _, rfl, X3.out, N2.out, K3.out, fun x hx => upd_of (upd_of (MM.out x hx))⟩
            case measure => rw [openV_eq X3.out.xp, OV.out]; exact OP.out
        · obtain ⟨hO, hP⟩ := NN.out.brk hp HPR.out hf
          have HO : Hid (Out L (upd p' r) (upd s' r)) := hO
          have HP : Hid (upd p' r r0 = true) := hP
          have eF : fl r = L.length := by unfold fl at hf ⊢; split at hf <;> split <;> omega
          rw [eF] at hx
          have e2 : ((L.length : Int) == (L.length : Int)) = true := beq_self_eq_true _
          clear hO hP hf eF
          gi_wp2
          exact ⟨K1.out, _, _, X1.out, HO.out, HP.out, fun x hx => upd_of (MM.out x hx)⟩
end Go.Proofs.Ytelfcapjegncfaa

