/- Plans of the regions whose order is open (made by program; what they say is checked where they are used). -/
namespace Go.Proofs.Ythdcgobdcdfefaa
namespace obest
def rows3 : List (Nat × Nat × Nat) := [(0, 1, 65536), (1, 65536, 131072), (2, 131072, 262144), (0, 2, 524288), (8, 524288, 1048576), (16, 1048576, 2097152), (36, 2359296, 4194304), (64, 0, 64), (255, 4194304, 128)]
def plan3 : List (Nat × Nat) := [(0, 0), (1, 0), (2, 0), (3, 0), (4, 0), (5, 0), (6, 1), (7, 0), (8, 0)]
def rows7 : List (Nat × Nat × Nat) := [(0, 512, 1073741824), (0, 2, 2147483648), (0, 256, 4294967296), (6, 6442450944, 8589934592), (8, 8589934592, 17179869184), (17, 18253611008, 34359738368), (63, 34359738368, 1024)]
def plan7 : List (Nat × Nat) := [(0, 0), (1, 0), (2, 0), (3, 0), (4, 0), (5, 1), (6, 0)]
end obest
end Go.Proofs.Ythdcgobdcdfefaa
