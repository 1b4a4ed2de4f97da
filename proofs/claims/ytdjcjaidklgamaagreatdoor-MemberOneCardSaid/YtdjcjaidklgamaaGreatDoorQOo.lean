import Derived.Test.YtdjcjaidklgamaaGreatDoorQBa
set_option linter.unusedSimpArgs false
set_option linter.unusedVariables false
section
namespace Go.Proofs.YtdjcjaidklgamaaGreatDoor
open Go.RowKit Go.Joins
end Go.Proofs.YtdjcjaidklgamaaGreatDoor
end
