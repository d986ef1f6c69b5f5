/- Plans that are trees (made by program; what they say is checked where they are used). -/
import Derived.Test.YtpfdmjgojpngjaaTree
set_option maxRecDepth 4000
namespace Go.Proofs.Ytpfdmjgojpngjaa
namespace ldadds
def tree5 : Run.Tree := .node (.alt 0 (.light 1 (.light 2 (.light 3 (.light 4 (.light 5 (.light 6 (.light 7 (.light 9 (.light 10 (.light 11 (.light 12 (.node (.alt 8 (.light 13 (.light 14 (.light 15 (.light 16 (.light 17 (.light 18 (.light 19 (.light 20 (.light 21 (.light 22 (.light 24 (.node (.alt 23 (.light 25 (.light 26 (.light 27 (.light 28 (.light 29 (.light 32 (.light 33 (.node (.alt 30 (.node (.alt 31 (.node (.alt 34 (.node (.alt 35 (.light 36 (.light 37 (.light 38 .nil))) .stop)) .stop)) (.alt 34 (.node (.alt 31 (.node (.alt 35 (.light 36 (.light 37 (.light 38 .nil))) .stop)) .stop)) .stop))) (.alt 34 (.node (.alt 30 (.node (.alt 31 (.node (.alt 35 (.light 36 (.light 37 (.light 38 .nil))) .stop)) .stop)) .stop)) .stop)))))))))) .stop))))))))))))) .stop))))))))))))) .stop)
end ldadds
namespace ldsplits
def tree4 : Run.Tree := .light 0 (.light 1 (.light 2 (.light 3 (.light 4 (.light 5 (.light 6 (.light 7 (.node (.alt 8 (.node (.alt 9 (.node (.alt 10 (.node (.alt 11 .nil .stop)) .stop)) .stop)) (.alt 9 (.node (.alt 8 (.node (.alt 10 (.node (.alt 11 .nil .stop)) .stop)) .stop)) .stop))))))))))
end ldsplits
end Go.Proofs.Ytpfdmjgojpngjaa
