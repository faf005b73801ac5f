/-
  What the functions answer that draw the arguments of the laws on hosts. Condition: the code is at most 2^20 bytes.
-/
import Derived.Test.YtmaocmgnkdieeabHoGen
namespace Go.Proofs.Ytmaocmgnkdieeab
open Go.RowKit Hos

def HoD0 (w : World) (e : Ending) (w' : World) : Prop := ∃ A c l, e = .returned (.slice A (List.length l) c) ∧ DH w w' A c l
def HoD1 (w : World) (e : Ending) (w' : World) : Prop := ∃ A c l, ∃ i : Int, e = .returned (.tuple #[.slice A (List.length l) c, .int .i64 i]) ∧ DH w w' A c l ∧ -1 ≤ i ∧ i ≤ 1001
def HoD2 (w : World) (e : Ending) (w' : World) : Prop := ∃ A c l, ∃ i j : Int, e = .returned (.tuple #[.slice A (List.length l) c, .int .i64 i, .int .i64 j]) ∧ DH w w' A c l ∧ -1 ≤ i ∧ i ≤ 5 ∧ -3 ≤ j ∧ j ≤ 101
end Go.Proofs.Ytmaocmgnkdieeab
