package rules

import (
	"petasos/api"
	"petasos/audit"
	"petasos/balance"
	"petasos/box"
	"petasos/circle"
	"petasos/client"
	"petasos/cover"
	"petasos/cursor"
	"petasos/density"
	"petasos/dice"
	"petasos/estimate"
	"petasos/gather"
	"petasos/greedy"
	"petasos/hub"
	"petasos/links"
	"petasos/message"
	"petasos/model"
	"petasos/node"
	"petasos/octet"
	"petasos/pool"
	"petasos/record"
	"petasos/ring"
	"petasos/sample"
	"petasos/script"
	"petasos/shadow"
	"petasos/shelf"
	"petasos/world"
)

// The calls of each layer, as its chapter lists them: what differs does not compile.
var (
	_ func(api.Span, uint32) bool         = circle.Has
	_ func(api.Span) uint64               = circle.Size
	_ func(uint32, uint32) uint32         = circle.Far
	_ func(api.Span, api.Span) []api.Span = circle.Meet
	_ func(api.Span, api.Span) []api.Span = circle.Less
	_ func(api.Span) uint32               = circle.Middle

	_ func(api.Span) *cover.Cover         = cover.New
	_ func(*cover.Cover, api.Span) uint64 = (*cover.Cover).Add
	_ func(*cover.Cover) []api.Span       = (*cover.Cover).Gaps
	_ func(*cover.Cover) bool             = (*cover.Cover).Whole
	_ func(*cover.Cover) uint64           = (*cover.Cover).Left
	_ func(*cover.Cover) *cover.Cover     = (*cover.Cover).Fork

	_ func(*octet.Writer, uint64, int) = (*octet.Writer).Put
	_ func(*octet.Writer, []byte)      = (*octet.Writer).Text
	_ func(*octet.Writer) []byte       = (*octet.Writer).Bytes
	_ func([]byte) *octet.Reader       = octet.Read
	_ func(*octet.Reader, int) uint64  = (*octet.Reader).Get
	_ func(*octet.Reader) []byte       = (*octet.Reader).Text
	_ func(*octet.Reader) api.Errno    = (*octet.Reader).Err
	_ func(*octet.Reader) int          = (*octet.Reader).Left

	_ func(int, api.Record) bool        = record.Right
	_ func(api.Entry, api.Entry) bool   = record.Newer
	_ func(int, uint32) uint64          = record.Own
	_ func(uint64) int                  = record.Client
	_ func(api.Record, api.Record) bool = record.Same

	_ func(int, []api.Range) bool      = box.Right
	_ func([]api.Range, []uint32) bool = box.Match
	_ func(api.Range) (api.Span, bool) = box.Span
	_ func(api.Range, uint32) bool     = box.In
	_ func([]api.Range) bool           = box.Empty
	_ func([]api.Range) []byte         = box.Pack

	_ func(int, api.Message) bool                = message.Right
	_ func(int, api.Message) ([]byte, api.Errno) = message.Pack
	_ func(int, []byte) (api.Message, api.Errno) = message.Take

	_ func(uint64) *dice.Dice     = dice.New
	_ func(*dice.Dice, int) int   = (*dice.Dice).Roll
	_ func(*dice.Dice) uint64     = (*dice.Dice).Step
	_ func(*dice.Dice) *dice.Dice = (*dice.Dice).Fork

	_ func() *pool.Pool                         = pool.New
	_ func(*pool.Pool, []byte) api.Errno        = (*pool.Pool).Push
	_ func(*pool.Pool, int) ([]byte, api.Errno) = (*pool.Pool).Take
	_ func(*pool.Pool, int) api.Errno           = (*pool.Pool).Double
	_ func(*pool.Pool, int) ([]byte, bool)      = (*pool.Pool).Peek
	_ func(*pool.Pool) int                      = (*pool.Pool).Len
	_ func(*pool.Pool) *pool.Pool               = (*pool.Pool).Fork

	_ func() *shelf.Shelf                             = shelf.New
	_ func(*shelf.Shelf, api.Entry) (bool, api.Errno) = (*shelf.Shelf).Put
	_ func(*shelf.Shelf, api.Key) (api.Entry, bool)   = (*shelf.Shelf).Get
	_ func(*shelf.Shelf, api.Span) []api.Entry        = (*shelf.Shelf).Scan
	_ func(*shelf.Shelf, api.Span) []api.Entry        = (*shelf.Shelf).Cut
	_ func(*shelf.Shelf, []api.Entry) int             = (*shelf.Shelf).Join
	_ func(*shelf.Shelf) int                          = (*shelf.Shelf).Len
	_ func(*shelf.Shelf) int                          = (*shelf.Shelf).Live
	_ func(*shelf.Shelf) *shelf.Shelf                 = (*shelf.Shelf).Fork

	_ func() *shadow.Shadow                        = shadow.New
	_ func(*shadow.Shadow, uint32, api.Entry) bool = (*shadow.Shadow).Put
	_ func(*shadow.Shadow, uint32) []api.Entry     = (*shadow.Shadow).Of
	_ func(*shadow.Shadow, uint32) int             = (*shadow.Shadow).Drop
	_ func(*shadow.Shadow, uint32, []api.Entry)    = (*shadow.Shadow).Set
	_ func(*shadow.Shadow) []uint32                = (*shadow.Shadow).Owners
	_ func(*shadow.Shadow) *shadow.Shadow          = (*shadow.Shadow).Fork

	_ func() *ring.Ring                         = ring.New
	_ func(*ring.Ring, uint32) api.Errno        = (*ring.Ring).Add
	_ func(*ring.Ring, uint32) api.Errno        = (*ring.Ring).Drop
	_ func(*ring.Ring, uint32) bool             = (*ring.Ring).Has
	_ func(*ring.Ring, uint32) (uint32, bool)   = (*ring.Ring).Owner
	_ func(*ring.Ring, uint32) (uint32, bool)   = (*ring.Ring).Next
	_ func(*ring.Ring, uint32) (api.Span, bool) = (*ring.Ring).Span
	_ func(*ring.Ring, uint32, int) []uint32    = (*ring.Ring).Heirs
	_ func(*ring.Ring) []uint32                 = (*ring.Ring).Points
	_ func(*ring.Ring) *ring.Ring               = (*ring.Ring).Fork

	_ func(*dice.Dice) uint32                            = links.Far
	_ func(*ring.Ring, uint32, int, *dice.Dice) []uint32 = links.Of

	_ func(*ring.Ring, []uint32, uint32, uint32) (uint32, bool)              = greedy.Next
	_ func(*ring.Ring, map[uint32][]uint32, uint32, uint32) ([]uint32, bool) = greedy.Way

	_ func(api.Density, uint32, int) api.Density = density.Add
	_ func(api.Density) uint64                   = density.All
	_ func(api.Density, api.Span) uint64         = density.Within
	_ func([]api.Density) api.Density            = density.Sum
	_ func([]api.Entry) api.Density              = density.Count

	_ func(api.Density, api.Range) uint32               = estimate.Part
	_ func([]api.Density, []api.Range) (int, api.Errno) = estimate.Best

	_ func(*ring.Ring, map[uint32][]uint32, uint32, int, *dice.Dice) []uint32 = sample.Walk
	_ func([]api.Load) uint64                                                 = sample.Mean

	_ func([]api.Load, []api.Entry) (api.Move, api.Errno) = balance.Plan
	_ func([]api.Load) (api.Load, bool)                   = balance.Heavy
	_ func([]api.Load) (api.Load, bool)                   = balance.Light

	_ func([]api.Range) *gather.Gather                             = gather.New
	_ func(*gather.Gather, []api.Record) int                       = (*gather.Gather).Add
	_ func(*gather.Gather) []api.Record                            = (*gather.Gather).All
	_ func(*gather.Gather, uint64, bool, int) ([]api.Record, bool) = (*gather.Gather).Page
	_ func(*gather.Gather) *gather.Gather                          = (*gather.Gather).Fork

	_ func([]api.Range, int) uint64                      = cursor.Mark
	_ func([]api.Range, int, uint64) []byte              = cursor.Pack
	_ func([]api.Range, int, []byte) (uint64, api.Errno) = cursor.Take

	_ func(int) (*hub.Hub, api.Errno)                     = hub.New
	_ func(*hub.Hub, uint32) api.Errno                    = (*hub.Hub).Join
	_ func(*hub.Hub, uint32) api.Errno                    = (*hub.Hub).Leave
	_ func(*hub.Hub, uint32) api.Errno                    = (*hub.Hub).Crash
	_ func(*hub.Hub) (int, api.Errno)                     = (*hub.Hub).Repair
	_ func(*hub.Hub, uint32, api.Entry) (bool, api.Errno) = (*hub.Hub).Store
	_ func(*hub.Hub, uint32, uint32, api.Entry) bool      = (*hub.Hub).Copy
	_ func(*hub.Hub, uint32) []api.Entry                  = (*hub.Hub).Shelf
	_ func(*hub.Hub, uint32, uint32) []api.Entry          = (*hub.Hub).Shadow
	_ func(*hub.Hub) *ring.Ring                           = (*hub.Hub).Ring
	_ func(*hub.Hub, uint32) bool                         = (*hub.Hub).Alive
	_ func(*hub.Hub) []uint32                             = (*hub.Hub).Dead
	_ func(*hub.Hub) []api.Span                           = (*hub.Hub).Lost
	_ func(*hub.Hub) *hub.Hub                             = (*hub.Hub).Fork

	_ func(int, int, int, uint64) (*node.Nodes, api.Errno)      = node.New
	_ func(*node.Nodes, int) *hub.Hub                           = (*node.Nodes).Hub
	_ func(*node.Nodes, int, uint32) []uint32                   = (*node.Nodes).Links
	_ func(*node.Nodes, int) (uint32, bool)                     = (*node.Nodes).Entry
	_ func(*node.Nodes, api.Message) ([]api.Message, api.Errno) = (*node.Nodes).Do
	_ func(*node.Nodes, api.Deed) api.Errno                     = (*node.Nodes).Change
	_ func(*node.Nodes, int) []api.Load                         = (*node.Nodes).Loads
	_ func(*node.Nodes) *node.Nodes                             = (*node.Nodes).Fork

	_ func(int) (*client.Clients, api.Errno)                                                    = client.New
	_ func(*client.Clients, int, uint32, []uint32) (int, []api.Message, api.Errno)              = (*client.Clients).Put
	_ func(*client.Clients, int, uint32) (int, []api.Message, api.Errno)                        = (*client.Clients).Delete
	_ func(*client.Clients, int, []api.Range, int, int, []byte) (int, []api.Message, api.Errno) = (*client.Clients).Query
	_ func(*client.Clients, api.Message) bool                                                   = (*client.Clients).Hear
	_ func(*client.Clients, int, int) ([]api.Message, api.Errno)                                = (*client.Clients).Retry
	_ func(*client.Clients, int, int) api.Errno                                                 = (*client.Clients).GiveUp
	_ func(*client.Clients, int, int) (api.Outcome, api.Errno)                                  = (*client.Clients).Outcome
	_ func(*client.Clients, int) int                                                            = (*client.Clients).Ops
	_ func(*client.Clients, int, uint32) []api.Key                                              = (*client.Clients).Places
	_ func(*client.Clients) *client.Clients                                                     = (*client.Clients).Fork

	_ func(api.Config) (*world.World, api.Errno)       = world.New
	_ func(*world.World, api.Deed) api.Reply           = (*world.World).Do
	_ func(*world.World) *node.Nodes                   = (*world.World).Nodes
	_ func(*world.World) *client.Clients               = (*world.World).Clients
	_ func(*world.World) *pool.Pool                    = (*world.World).Pool
	_ func(*world.World, []api.Range) (int, api.Errno) = (*world.World).Best
	_ func(*world.World) *world.World                  = (*world.World).Fork

	_ func(int) *model.Model                        = model.New
	_ func(*model.Model, api.Record) bool           = (*model.Model).Put
	_ func(*model.Model, uint64, uint64) bool       = (*model.Model).Delete
	_ func(*model.Model, []api.Range) []api.Record  = (*model.Model).Find
	_ func(*model.Model, uint64) (api.Record, bool) = (*model.Model).Get
	_ func(*model.Model) int                        = (*model.Model).Len

	_ func(*hub.Hub) bool                     = audit.Placed
	_ func(*hub.Hub, int) bool                = audit.Shadowed
	_ func(*node.Nodes, int, api.Record) bool = audit.Held
	_ func(*world.World) bool                 = audit.Quiet
	_ func(*node.Nodes, int) []api.Record     = audit.All

	_ func([]byte) (api.Config, []api.Deed) = script.Decode
	_ func([]byte) []byte                   = script.Run
	_ func(*world.World, int) int           = script.Calm
)
