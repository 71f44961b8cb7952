/- Plain mathematics of limb lists: what a list of limbs means, and that a list without leading zeros is settled by its number. · Plain mathematics: one round of each of the loops over limbs. · Plain mathematics of 32 bit words: the borrow of a subtraction as the library works it out of the words' highest bits. · Plain mathematics: limbs moved up or down by some bits. · Plain mathematics of one limb of a quotient: the guess from the highest limbs is never too low. · Plain mathematics of the long division, limb by limb from the highest one on. · Plain mathematics: a number's bits, from the highest one on, as the document's answers go through them. -/
import Derived.Below
import Derived.Laws.Bits64
import Derived.WalkKit
import Derived.Laws.Bits64b
namespace Go.Proofs.YtmocnoiieiakhaaGreatDoor
namespace LM

def Lm (xs : List Nat) : Prop := ∀ x ∈ xs, x < 4294967296

end LM
end Go.Proofs.YtmocnoiieiakhaaGreatDoor

namespace Go.Proofs.YtmocnoiieiakhaaGreatDoor
namespace LM

end LM
end Go.Proofs.YtmocnoiieiakhaaGreatDoor

namespace Go.Proofs.YtmocnoiieiakhaaGreatDoor
open Go
namespace LM

end LM
end Go.Proofs.YtmocnoiieiakhaaGreatDoor

namespace Go.Proofs.YtmocnoiieiakhaaGreatDoor
open Go
namespace LM

end LM
end Go.Proofs.YtmocnoiieiakhaaGreatDoor

namespace Go.Proofs.YtmocnoiieiakhaaGreatDoor
open Go
namespace LM

end LM
end Go.Proofs.YtmocnoiieiakhaaGreatDoor

namespace Go.Proofs.YtmocnoiieiakhaaGreatDoor
namespace LM

end LM
end Go.Proofs.YtmocnoiieiakhaaGreatDoor

namespace Go.Proofs.YtmocnoiieiakhaaGreatDoor
namespace LM

end LM
end Go.Proofs.YtmocnoiieiakhaaGreatDoor
