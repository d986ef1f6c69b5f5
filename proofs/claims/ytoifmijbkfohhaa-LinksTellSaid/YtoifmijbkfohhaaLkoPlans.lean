/- Plans of the regions whose order is open (made by program; what they say is checked where they are used). -/
namespace Go.Proofs.Ytoifmijbkfohhaa
namespace lkof
def rows7 : List (Nat × Nat × Nat) := [(0, 1, 536870912), (0, 32, 1073741824), (0, 8, 2147483648), (4, 2147483648, 4294967296), (10, 5368709120, 8589934592), (25, 9126805504, 17179869184), (32, 17179869184, 268435456), (64, 268435456, 34359738368), (64, 268435456, 68719476736), (255, 34359738368, 4096), (1023, 68719476736, 8192)]
def plan7 : List (Nat × Nat) := [(0, 0), (1, 0), (2, 0), (3, 1), (4, 0), (5, 1), (6, 0), (7, 0), (8, 0), (9, 0), (10, 0)]
end lkof
end Go.Proofs.Ytoifmijbkfohhaa
