/- Plain facts on countries and forms. Nothing of the program is imported. -/
import Derived.Lib.BitFns
namespace Go.Proofs.Ytjanhgekocpobaa.Vat
open Go
set_option maxRecDepth 100000

abbrev T := List UInt8
def letter (b : Nat) : Bool := decide (65 ≤ b) && decide (b ≤ 90)
def digit (b : Nat) : Bool := decide (48 ≤ b) && decide (b ≤ 57)
def country : T → Bool
  | [a, b] => letter a.toNat && letter b.toNat
  | _ => false
/-- a form's mark stands for a byte -/
def stands (f b : Nat) : Bool :=
  if f = 57 then digit b else if f = 65 then letter b else if f = 88 then letter b || digit b
  else if f = 43 then letter b || digit b || decide (b = 43) || decide (b = 42) else decide (b = f)
def fitT : T → T → Bool
  | [], [] => true
  | f :: l, b :: m => stands f.toNat b.toNat && fitT l m
  | _, _ => false
end Go.Proofs.Ytjanhgekocpobaa.Vat
