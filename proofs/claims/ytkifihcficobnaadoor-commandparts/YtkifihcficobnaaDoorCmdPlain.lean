/- Commands, plainly: no walk. -/
import Derived.Test.YtkifihcficobnaaDoorPlain
namespace Go.Gs
open Go.RowKit

structure Cmd where
  kind : Int
  word : List UInt8
  n : Int

def Cmd.v (c : Cmd) : Value := .agg #[.int .i64 c.kind, .string ⟨c.word.toArray⟩, .int .i64 c.n]

def wordByte (c : UInt8) : Bool := (97 ≤ c.toNat && c.toNat ≤ 122) || (48 ≤ c.toNat && c.toNat ≤ 57)
def isWord (s : List UInt8) : Bool := decide (0 < s.length) && decide (s.length ≤ 12) && s.all wordByte

/-- Which part of a command its kind uses: 0: it is none; 1: the word; 2: the number; 3: neither. -/
def uses (k : Int) : Nat := if 1 ≤ k ∧ k ≤ 3 then 1 else if k = 4 ∨ k = 9 ∨ k = 10 then 2 else if 5 ≤ k ∧ k ≤ 8 then 3 else 0

/-- What Check answers: 0 OK, 1 ErrText, 3 ErrRange, 4 ErrForm. -/
def chk (c : Cmd) : Int :=
  if uses c.kind = 0 then 4
  else if (uses c.kind ≠ 1 ∧ c.word ≠ []) ∨ (uses c.kind ≠ 2 ∧ c.n ≠ 0) then 4
  else if uses c.kind = 2 ∧ (c.n < 1 ∨ 1000 < c.n) then 3
  else if uses c.kind = 1 ∧ (isWord c.word = false ∨ (c.kind = 3 ∧ c.word.length ≠ 2)) then 1
  else 0

def isEach (k : Int) : Bool := decide (1 ≤ k ∧ k ≤ 5)

end Go.Gs
