/-
  Plain functions on numbers and lists of bytes: what package scan computes, without any program.
-/
namespace Go.Proofs.YtfdcklekjnihjaaDoor.Sc

def low (c : Int) : Int := if 65 ≤ c ∧ c ≤ 90 then c + 32 else c
def sgn (c : Int) : Int :=
  if c = 45 ∨ c = 46 then 88 else if c = 33 ∨ c = 126 ∨ c = 42 ∨ c = 95 ∨ c = 39 then 24
  else if c = 37 ∨ c = 43 ∨ c = 96 then 8 else if c = 40 ∨ c = 41 then 16 else if c = 32 ∨ c = 9 then 32 else 0
def cls (c : Int) : Int :=
  if 48 ≤ c ∧ c ≤ 57 then 93 else if 97 ≤ low c ∧ low c ≤ 102 then 94 else if 103 ≤ low c ∧ low c ≤ 122 then 90 else sgn c

theorem low_bd {c : Int} (h0 : 0 ≤ c) (h1 : c ≤ 255) : 0 ≤ low c ∧ low c ≤ 255 := by
  unfold low; split <;> omega

def barB (c : Int) : Bool := decide (c = 0 ∨ c = 10 ∨ c = 13)
def bareB (c : Int) : Bool := decide (c = 9 ∨ 32 ≤ c ∧ c ≠ 34 ∧ c ≠ 92 ∧ c ≠ 127)

end Go.Proofs.YtfdcklekjnihjaaDoor.Sc
