/- Pipes, plainly: their form, what is written, read, closed, shut: no walk. -/
import Derived.Test.YtobaeafhdgolmabPlain
namespace Go.Gs
open Go.RowKit
set_option linter.unusedVariables false

structure SPipe where
  b : List UInt8
  room : Int
  closed : Bool
  shut : Bool

def zeroP : SPipe := ⟨[], 0, false, false⟩
/-- How many bytes a pipe has at most. -/
def plim (room : Int) : Int := if room = 0 then 40000 else room
/-- What is wrong with a pipe of so many bytes. -/
def pck (n : Nat) (room : Int) (shut : Bool) : Int :=
  if room < 0 ∨ 1000 < room then 3 else if plim room < (n : Int) then 2 else if shut = true ∧ 0 < n then 4 else 0
def pchk (p : SPipe) : Int := pck p.b.length p.room p.shut
def pnew (room : Int) : SPipe × Int := if room < 0 ∨ 1000 < room then (zeroP, 3) else (⟨[], room, false, false⟩, 0)
/-- How many of so many bytes go behind so many. -/
def pfit (m n : Nat) (room : Int) : Nat := min m (plim room - (n : Int)).toNat
def pwrite (p : SPipe) (cs : List UInt8) : SPipe × Nat × Int :=
  if pchk p ≠ 0 then (zeroP, 0, pchk p) else if p.closed = true then (zeroP, 0, 7) else if p.shut = true then (⟨[], p.room, p.closed, p.shut⟩, cs.length, 0)
  else (⟨p.b ++ cs.take (pfit cs.length p.b.length p.room), p.room, p.closed, p.shut⟩, pfit cs.length p.b.length p.room, 0)
def pread (p : SPipe) (most : Int) : SPipe × List UInt8 × Int :=
  if pchk p ≠ 0 then (zeroP, [], pchk p) else if most < 0 ∨ 4000 < most then (zeroP, [], 3)
  else (⟨p.b.drop (min most.toNat p.b.length), p.room, p.closed, p.shut⟩, p.b.take (min most.toNat p.b.length), 0)
def pclose (p : SPipe) : SPipe × Int :=
  if pchk p ≠ 0 then (zeroP, pchk p) else if p.closed = true then (zeroP, 7) else (⟨p.b, p.room, true, p.shut⟩, 0)
def pshut (p : SPipe) : SPipe × Int :=
  if pchk p ≠ 0 then (zeroP, pchk p) else (⟨[], p.room, p.closed, true⟩, 0)

theorem pck_cases (n : Nat) (room : Int) (sh : Bool) : pck n room sh = 0 ∨ pck n room sh = 2 ∨ pck n room sh = 3 ∨ pck n room sh = 4 := by
  unfold pck
  split
  · simp
  · split
    · simp
    · split <;> simp
theorem pck_ok {n : Nat} {room : Int} {sh : Bool} (h : pck n room sh = 0) : 0 ≤ room ∧ room ≤ 1000 ∧ (n : Int) ≤ plim room ∧ (sh = true → n = 0) := by
  unfold pck at h
  split at h
  · cases h
  · split at h
    · cases h
    · split at h
      · cases h
      · refine ⟨by omega, by omega, by omega, fun hs => ?_⟩
        simp [hs] at *
        omega
theorem plim_le {room : Int} (h : room ≤ 1000) : plim room ≤ 40000 := by unfold plim; split <;> omega
theorem pfit_le {m n : Nat} {room : Int} : pfit m n room ≤ m := Nat.min_le_left _ _
theorem pfit_sum {m n : Nat} {room : Int} (h1 : room ≤ 1000) (h2 : (n : Int) ≤ plim room) : n + pfit m n room ≤ 40000 ∧ ((n + pfit m n room : Nat) : Int) ≤ plim room := by
  have := plim_le h1
  have : pfit m n room ≤ (plim room - (n : Int)).toNat := Nat.min_le_right _ _
  omega
theorem pfit_int {m n : Nat} {room : Int} (h2 : (n : Int) ≤ plim room) : (pfit m n room : Int) = if (m : Int) ≤ plim room - n then (m : Int) else plim room - n := by
  unfold pfit
  split <;> omega
/-- The pipe as a value. -/
def pipeV (p : SPipe) (ab : Option Addr) (cap : Nat) : Value := .agg #[.slice ab p.b.length cap, .int .i64 p.room, .bool p.closed, .bool p.shut]
/-- Bytes that can be read, in new memory. -/
def PB (w w' : World) (ar : Option Addr) (cr : Nat) (bs : List UInt8) : Prop := Reads w' (.slice ar bs.length cr) bs.length (bs.map U) ∧ (∀ a, ar = some a → w.heap.size ≤ a.block) ∧ (ar = none → cr = 0)
theorem PB.none (w w' : World) : PB w w' none 0 [] := ⟨⟨rfl, Option.none, 0, rfl, Nat.le_refl _, by simp [maxLen], fun h => absurd rfl h⟩, (fun a h => by cases h), fun _ => rfl⟩
end Go.Gs
