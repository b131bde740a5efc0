/- The reader's words, and numbers near to or just outside of a range. -/
import Derived.Test.YtllbojcjdpelnaaGreatDa
namespace Go.Proofs.YtllbojcjdpelnaaGreat
open Go.RowKit Go.BigFrame

end Go.Proofs.YtllbojcjdpelnaaGreat
