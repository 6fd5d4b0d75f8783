/- The walks of IsSpecial, of the model's and of the program's, and of the law over both. -/
import Derived.Test.YtjopjddhgaiddaaNums
namespace Go.Proofs.Ytjopjddhgaiddaa
open Go.RowKit

def special (c : Int) : Bool := inR c 2000001 2000014






end Go.Proofs.Ytjopjddhgaiddaa
