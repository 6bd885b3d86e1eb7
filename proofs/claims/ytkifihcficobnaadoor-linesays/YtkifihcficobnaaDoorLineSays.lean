/- For every []byte, []string and int the call of gangsawlaw.LineSays returns true and leaves its arguments as they were; the library's two tables hold what the program's text lays (the card ties them). -/
import Derived.Test.YtkifihcficobnaaDoorCards
import Derived.Test.YtkifihcficobnaaDoorTie
import Derived.Test.YtkifihcficobnaaDoorSaysA
import Derived.Test.YtkifihcficobnaaDoorSaysB
import Derived.Test.YtkifihcficobnaaDoorSaysC
import Derived.Test.YtkifihcficobnaaDoorOpen
import Derived.ShutString
import Derived.ChangeOld
import Derived.Below
import Derived.Deep.DeepHandedRow
import Derived.Lib.LaidTab
namespace Go.Proofs.YtkifihcficobnaaDoor.lineSays
open Go.ChangeShapes Go.WideShapes Go.ChangeAt Go.RowKit Go.Gs
set_option linter.unusedVariables false

theorem own : ownKnob Tryd.prog.godebug = none := by kernel_rfl
theorem laidOut : laidOutB Tryd.prog = true := by kernel_rfl

theorem walk (ab al : Option Addr) (cb cl : Nat) (bs : List UInt8) (ls : List (List UInt8)) (p : Int) (w : World) (hb : Reads w (.slice ab bs.length cb) bs.length (bs.map U)) (hl : Reads w (.slice al ls.length cl) ls.length (ls.map S)) (hsz : ∀ s ∈ ls, s.length ≤ 9223372036854775807) (hsh : w.ShapedOpen Tryd.prog) :
    Calls Tryd.prog 3 #[.slice ab bs.length cb, .slice al ls.length cl, .int .i64 p] w fun e w' => e = .returned (.bool true) ∧ Below w.heap.size w w' := by
  have hbm : bs.length ≤ 9223372036854775807 := by
    obtain ⟨_, _, cap, _, h2, h3, _⟩ := hb
    unfold maxLen at h3
    omega
  have hLm : ls.length ≤ 9223372036854775807 := by
    obtain ⟨_, _, cap, _, h2, h3, _⟩ := hl
    unfold maxLen at h3
    omega
  rcases bad_cases ls 4000 with HB | HB | HB
  · by_cases hn : bs.length ≤ 4000
    · by_cases hp : p < 1
      · exact says_Bl0 ab al cb cl bs ls p w hb hl hsz hsh hLm hbm hn hp HB
      · by_cases hp2 : 5 < p
        · exact says_Bg0 ab al cb cl bs ls p w hb hl hsz hsh hLm hbm hn hp2 HB
        · obtain ⟨q, rfl⟩ := Int.eq_ofNat_of_zero_le (show 0 ≤ p by omega)
          exact says_C0 ab al cb cl bs ls q w hb hl hsz hsh hLm hbm hn (by omega) (by omega) HB
    · exact says_A0 ab al cb cl bs ls p w hb hl hsz hsh hLm hbm (by omega) HB
  · by_cases hn : bs.length ≤ 4000
    · by_cases hp : p < 1
      · exact says_Bl2 ab al cb cl bs ls p w hb hl hsz hsh hLm hbm hn hp HB
      · by_cases hp2 : 5 < p
        · exact says_Bg2 ab al cb cl bs ls p w hb hl hsz hsh hLm hbm hn hp2 HB
        · obtain ⟨q, rfl⟩ := Int.eq_ofNat_of_zero_le (show 0 ≤ p by omega)
          exact says_C2 ab al cb cl bs ls q w hb hl hsz hsh hLm hbm hn (by omega) (by omega) HB
    · exact says_A2 ab al cb cl bs ls p w hb hl hsz hsh hLm hbm (by omega) HB
  · by_cases hn : bs.length ≤ 4000
    · by_cases hp : p < 1
      · exact says_Bl4 ab al cb cl bs ls p w hb hl hsz hsh hLm hbm hn hp HB
      · by_cases hp2 : 5 < p
        · exact says_Bg4 ab al cb cl bs ls p w hb hl hsz hsh hLm hbm hn hp2 HB
        · obtain ⟨q, rfl⟩ := Int.eq_ofNat_of_zero_le (show 0 ≤ p by omega)
          exact says_C4 ab al cb cl bs ls q w hb hl hsz hsh hLm hbm hn (by omega) (by omega) HB
    · exact says_A4 ab al cb cl bs ls p w hb hl hsz hsh hLm hbm (by omega) HB

set_option maxRecDepth 100000 in
theorem contract (H : Type) (enc : TypeId × Value → H) (W : World) (base : Nat) (args : Array Value) (ds gs : List (DataW H)) (before : List MemPlace)
    (hval0 : ∀ (j : Nat) t v, Tryd.f3.params[j]? = some t → args[j]? = some v → Value.okWide Tryd.prog W .any base t v)
    (hW : DataW.Whole enc Tryd.prog Tryd.f3.params.toList Rows.lineSaysSpec.vars false W args.toList ds gs before) (hsh : W.ShapedOpen Tryd.prog) :
    Calls Tryd.prog 3 args W fun e W' => ∃ v, e = .returned v ∧ Rows.lineSaysSpec.post enc Tryd.prog Tryd.f3 false true false false W args v W' := by
  have hval := hval0
  have hW' := hW
  obtain ⟨p, q, hA0, hV, rfl, hfz, hnd⟩ := hW
  have hA : DataW.TrodAll enc Tryd.prog W 0 (fun _ => true) true Tryd.f3.params.toList args.toList ds p := hA0
  rw [Tryd.params3] at hA hval
  obtain ⟨v0, v1, v2, d0, d1, d2, p0, p1, p2, hargs, rfl, rfl, h0, h1, h2⟩ := trodAll_three hA
  obtain rfl : args = #[v0, v1, v2] := by cases args; simp_all
  obtain ⟨rfl, rfl⟩ := trodVars_none hV
  obtain ⟨a0, len0, cap0, rfl⟩ := okWide_slice Tryd.underlying22 (hval 0 22 v0 rfl rfl)
  obtain ⟨a1, len1, cap1, rfl⟩ := okWide_slice Tryd.underlying23 (hval 1 23 v1 rfl rfl)
  have k0 := h0
  have k1 := h1
  have lt0 : ∀ x ∈ p0, x.block < W.heap.size := by obtain ⟨m, hm⟩ := k0; exact DataW.trod_lt m _ _ _ hm
  have lt1 : ∀ x ∈ p1, x.block < W.heap.size := by obtain ⟨m, hm⟩ := k1; exact DataW.trod_lt m _ _ _ hm
  obtain ⟨bs, hbl, hb⟩ : ∃ bs : List UInt8, bs.length = len0 ∧ Reads W (.slice a0 len0 cap0) bs.length (bs.map U) := by
    obtain ⟨fuel, hf⟩ := h0
    exact bytes_of_open Tryd.underlying22 Tryd.underlying5 (by kernel_rfl) hf
  obtain ⟨ls, hll, hl, hsz⟩ : ∃ ls : List (List UInt8), ls.length = len1 ∧ Reads W (.slice a1 len1 cap1) ls.length (ls.map S) ∧ ∀ s ∈ ls, s.length ≤ 9223372036854775807 := by
    obtain ⟨fuel, hf⟩ := h1
    exact strs_of_open Tryd.underlying23 Tryd.underlying9 (by kernel_rfl) hf
  obtain ⟨x2, rfl, rfl, rfl, w2⟩ := open_int Tryd.underlying3 (hval 2 3 v2 rfl rfl) h2
  subst hbl
  subst hll
  clear hA0 hval0
  refine (walk _ _ _ _ bs ls x2 W hb hl hsz hsh).mono fun e W' ⟨he, bel⟩ => ?_
  subst he
  exact ⟨_, rfl, _, _, _, [], _, [], hW', trodAll_mk1 (shut_bool Tryd.underlying4 _), (trodAll_cons_mk (Below.trod laidOut (by kernel_rfl) (of_decide_eq_true (by kernel_rfl)) k0 bel lt0) (trodAll_cons_mk (Below.trod laidOut (by kernel_rfl) (of_decide_eq_true (by kernel_rfl)) k1 bel lt1) (trodAll_cons_mk (shut_int Tryd.underlying3 w2) trodAll_mk0))), rfl, bel.frame _, fun h => by cases h⟩

def relay (cs : Array Value) : Obj → Obj
  | .cells _ t frozen => .cells cs t frozen
  | o => o
def firstCells : Array Value := (Go.Pinned.utf8FirstZ.map (fun (n : Nat) => Value.int .u8 (n : Int))).toArray
def rangeCells : Array Value := #[.int .u8 128, .int .u8 191, .int .u8 160, .int .u8 191, .int .u8 128, .int .u8 159, .int .u8 144, .int .u8 191, .int .u8 128, .int .u8 143, .int .u8 0, .int .u8 0, .int .u8 0, .int .u8 0, .int .u8 0, .int .u8 0, .int .u8 0, .int .u8 0, .int .u8 0, .int .u8 0, .int .u8 0, .int .u8 0, .int .u8 0, .int .u8 0, .int .u8 0, .int .u8 0, .int .u8 0, .int .u8 0, .int .u8 0, .int .u8 0, .int .u8 0, .int .u8 0]

set_option maxRecDepth 100000 in
theorem laid_met (os : Os) : laidMet Tryd.prog Rows.lineSaysRow.laid (({ World.holding Tryd.prog os ⟨#[], #[], []⟩ with heap := ((World.holding Tryd.prog os ⟨#[], #[], []⟩).heap.modify 2 (relay firstCells)).modify 3 (relay rangeCells) } : World).forCall (fun _ _ => 0) ⟨#[], #[.slice none 0 0, .slice none 0 0, .int .i64 0], []⟩).memory :=
  laidMet_of_run' 8 (by kernel_rfl) (by kernel_rfl)
set_option maxRecDepth 100000 in
theorem reads (os : Os) {H : Type} (enc : TypeId × Value → H) : ∃ places, DataW.whole enc Tryd.prog (({ World.holding Tryd.prog os ⟨#[], #[], []⟩ with heap := ((World.holding Tryd.prog os ⟨#[], #[], []⟩).heap.modify 2 (relay firstCells)).modify 3 (relay rangeCells) } : World).forCall (fun _ _ => 0) ⟨#[], #[.slice none 0 0, .slice none 0 0, .int .i64 0], []⟩).memory Tryd.f3.params.toList Rows.lineSaysSpec.vars false #[Value.slice none 0 0, .slice none 0 0, .int .i64 0].toList 8 = some ([.nil, .nil, .lit (.int .i64 0)], [], places) :=
  ⟨[], by kernel_rfl⟩

set_option maxRecDepth 100000 in
theorem lifted (os : Os) (started : os.Started) (H : Type) (enc : TypeId × Value → H) (F' : Stop.Interp) :
    ReturnsInHanded {} Tryd.checked os 3 .any ((OpenSpec.ofChange Rows.lineSaysSpec).preRow enc Tryd.prog Tryd.f3 Rows.lineSaysRow.domain false Rows.lineSaysRow.laid) (((OpenSpec.ofChange Rows.lineSaysSpec).at F').post enc Tryd.prog Tryd.f3 false true false false) := by
  obtain ⟨places, hx⟩ := reads os enc
  refine returnsInHanded_of_row (C := Tryd.checked) (s := OpenSpec.ofChange Rows.lineSaysSpec) own started (by kernel_rfl) Tryd.func3
    (witness_row_at (enc := enc) (C := Tryd.checked) false ({ World.holding Tryd.prog os ⟨#[], #[], []⟩ with heap := ((World.holding Tryd.prog os ⟨#[], #[], []⟩).heap.modify 2 (relay firstCells)).modify 3 (relay rangeCells) } : World) #[.slice none 0 0, .slice none 0 0, .int .i64 0] rfl (by kernel_rfl) (by kernel_rfl) (by kernel_rfl)
      (OpenSpec.preRow_of_cond 8 hx (by kernel_rfl) (fun k hk => by cases hk) (by kernel_rfl) (laid_met os))) ?_
  intro W base args ds gs before hval hW _ _ _ hL hsh _
  exact contract H enc W base args ds gs before hval hW hsh

set_option maxRecDepth 100000 in
theorem said : Rows.LineSaysSaid :=
  OpenClaim.holds_of_cond 3 Tryd.f3 rfl rfl rfl rfl rfl rfl rfl ⟨rfl, rfl, rfl, rfl, rfl⟩ rfl rfl rfl rfl rfl (by kernel_rfl) Tryd.func3 (by kernel_rfl)
    (of_decide_eq_true (by kernel_rfl)) (by unfold Func.isWrapper; first | (rw [if_pos (by decide +kernel)]; kernel_rfl) | (rw [if_neg (by decide +kernel)]; exact ⟨rfl, rfl⟩))
    (fun os started H enc _ F' => by rw [OpenClaim.pre_eq_preRow]; exact lifted os started H enc F')

set_option maxRecDepth 100000 in
theorem plain (f : FuncId) (fn : Func) (hf : Tryd.pinned.checked.prog.funcNamed Rows.lineSaysRow.func = some f) (hfn : Tryd.pinned.checked.prog.funcs[f]? = some fn) :
    true = Tryd.pinned.checked.prog.looks [] ∧ ∀ (j : Nat) t, fn.params[j]? = some t → Tryd.pinned.checked.prog.wantsStandIn t = false := by
  obtain rfl : f = 3 := Option.some.inj ((show Tryd.prog.funcNamed Rows.lineSaysRow.func = some 3 by kernel_rfl).symm.trans hf) |>.symm
  obtain rfl : fn = Tryd.f3 := (Option.some.inj (Tryd.func3.symm.trans hfn)).symm
  refine ⟨by kernel_rfl, fun j t ht => ?_⟩
  rw [Tryd.params3] at ht
  have hm := Array.mem_of_getElem? ht
  simp at hm
  rcases hm with rfl | rfl | rfl
  · exact (show Tryd.prog.wantsStandIn 22 = false by kernel_rfl)
  · exact (show Tryd.prog.wantsStandIn 23 = false by kernel_rfl)
  · exact (show Tryd.prog.wantsStandIn 3 = false by kernel_rfl)

set_option maxRecDepth 100000 in
theorem card : Rows.LineSaysCardSaid :=
  Claim7.holds_tied_plain_at .later [] _ _ _ _ said (fun _ h => by cases h) (by kernel_rfl) (fun _ h => by cases h) lineSays_row_tie rfl ⟨rfl, rfl⟩ (by kernel_rfl) rfl plain (by kernel_rfl)
#print axioms card
end Go.Proofs.YtkifihcficobnaaDoor.lineSays
