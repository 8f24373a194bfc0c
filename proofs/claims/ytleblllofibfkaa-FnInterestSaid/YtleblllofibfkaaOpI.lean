/- OpOk of the program answers whether an op is right. No conditions. -/
import Derived.Test.YtleblllofibfkaaOps
namespace Go.Proofs.Ytleblllofibfkaa
open Go.RowKit
set_option maxRecDepth 8000

end Go.Proofs.Ytleblllofibfkaa
