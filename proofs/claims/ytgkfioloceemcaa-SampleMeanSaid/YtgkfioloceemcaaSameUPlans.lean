/- Plans of the regions whose order is open (made by program; what they say is checked where they are used). -/
namespace Go.Proofs.Ytgkfioloceemcaa
namespace sameu
def rows5 : List (Nat × Nat × Nat) := [(0, 4, 524288), (0, 1, 1048576), (0, 128, 2097152), (6, 3145728, 4194304), (8, 4194304, 8388608), (0, 2, 16777216), (0, 128, 33554432), (96, 50331648, 67108864), (128, 67108864, 134217728), (273, 143130624, 268435456), (512, 268435456, 536870912)]
def plan5 : List (Nat × Nat) := [(0, 0), (1, 0), (2, 0), (3, 0), (4, 0), (5, 0), (6, 0), (7, 0), (8, 0), (9, 1), (10, 0)]
end sameu
namespace seq
def rows6 : List (Nat × Nat × Nat) := [(0, 1, 65536), (0, 32, 131072), (3, 196608, 262144), (4, 262144, 524288), (0, 2, 1048576), (0, 32, 2097152), (48, 3145728, 4194304), (64, 4194304, 8388608), (136, 8912896, 16777216)]
def plan6 : List (Nat × Nat) := [(0, 0), (1, 0), (2, 0), (3, 0), (4, 0), (5, 0), (6, 0), (7, 0), (8, 0)]
end seq
end Go.Proofs.Ytgkfioloceemcaa
