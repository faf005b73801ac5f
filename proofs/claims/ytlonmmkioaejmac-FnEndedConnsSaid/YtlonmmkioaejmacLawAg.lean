/-
  Words for the walks of the drawn laws on ages: contracts at a length of another name; a list of one age that the law writes down. Condition: the lists lie in memory.
-/
import Derived.Test.YtlonmmkioaejmacAgB
import Derived.Test.YtlonmmkioaejmacAgC
import Derived.Test.YtlonmmkioaejmacAgGen
namespace Go.Proofs.Ytlonmmkioaejmac
open Go.RowKit Age

theorem sees_one {w w' : World} {A : Option Addr} {c : Nat} {l : List Ag} (_ : DA w w' A c l) {x : Ag} : Sees (w'.alloc (.cells #[.int .i64 x.b, .int .i64 x.u] 31)) (w'.alloc (.cells #[.int .i64 x.b, .int .i64 x.u] 31)).heap.size (some ⟨w'.heap.size, 0, none⟩) (strip acells [x]) := by
  intro _
  refine ⟨w'.heap.size, 0, rfl, by simp, fun j u hu => ?_⟩
  rw [Nat.zero_add, (At.new w' 31 _).cell]
  simpa [strip, acells] using hu
theorem iValidAges_len {A : Option Addr} {n c : Nat} {l : List Ag} {w : World} (hl : l.length = n) (h : Sees w w.heap.size A (strip acells l)) (hn : l.length ≤ 4194304) :
    Calls Try.prog 18 #[.slice A n c] w fun e w' => e = .returned (.bool (agesB l)) ∧ Below w.heap.size w w' := by
  subst hl; exact iValidAges_any A c l w h hn
theorem iNextEnd_len {A : Option Addr} {n c : Nat} {l : List Ag} {life rest : Int} {w : World} (hl : l.length = n) (h : Sees w w.heap.size A (strip acells l)) (hn : l.length ≤ 4194304) :
    Calls Try.prog 19 #[.slice A n c, .int .i64 life, .int .i64 rest] w fun e w' => e = .returned (.int .i64 (Age.next l life rest)) ∧ Below w.heap.size w w' := by
  subst hl; exact iNextEnd_any A c l life rest w h hn
end Go.Proofs.Ytlonmmkioaejmac
