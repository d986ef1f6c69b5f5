package rules

import (
	"testing"

	"petasos/api"
)

// The plain types, field by field: what differs does not compile.
var (
	_ = struct{ From, To uint32 }(api.Span{})
	_ = struct {
		Id, Version uint64
		Values      []uint32
	}(api.Record{})
	_ = struct {
		Kind   int
		Lo, Hi uint32
	}(api.Range{})
	_ = struct {
		Value  uint32
		Record api.Record
		Gone   bool
	}(api.Entry{})
	_ = struct {
		Value uint32
		Id    uint64
	}(api.Key{})
	_ = struct {
		Kind, Hub  int
		Point      uint32
		Client, Op int
		Target     uint32
		Hops       int
		Owner      uint32
		Turn       int
		Entry      api.Entry
		Span       api.Span
		Box        []api.Range
		Records    []api.Record
	}(api.Message{})
	_ = [16]uint32(api.Density{})
	_ = struct{ From, To uint32 }(api.Move{})
	_ = struct {
		Point   uint32
		Entries int
	}(api.Load{})
	_ = struct {
		Op, State, Hub int
		Records        []api.Record
		Gaps           []api.Span
		Cursor         []byte
	}(api.Outcome{})
	_ = struct{ Attrs, Replicas, Links int }(api.Config{})
	_ = struct {
		Kind, Hub  int
		Point      uint32
		Client, Op int
		Number     uint32
		Values     []uint32
		Box        []api.Range
		Page       int
		Cursor     []byte
		Index      int
		Bytes      []byte
	}(api.Deed{})
	_ = struct {
		Err api.Errno
		Op  int
	}(api.Reply{})
)

func TestLimits(t *testing.T) {
	for _, r := range []struct {
		name      string
		got, want int
	}{
		{"MaxAttrs", api.MaxAttrs, 8}, {"MaxNodes", api.MaxNodes, 64}, {"MaxEntries", api.MaxEntries, 10000}, {"MaxPool", api.MaxPool, 5000},
		{"MaxHops", api.MaxHops, 100}, {"MaxReplicas", api.MaxReplicas, 4}, {"MaxClients", api.MaxClients, 16}, {"MaxLinks", api.MaxLinks, 6},
		{"MaxPage", api.MaxPage, 100}, {"MaxRecords", api.MaxRecords, 10000}, {"MaxBuckets", api.MaxBuckets, 16}, {"MaxOps", api.MaxOps, 500},
	} {
		if r.got != r.want {
			t.Errorf("%s: %d; want %d", r.name, r.got, r.want)
		}
	}
}

func TestNumbers(t *testing.T) {
	for what, l := range map[string][]int{
		"ranges":     {api.Any, api.Between, api.Nothing},
		"messages":   {api.Store, api.Copy, api.Copied, api.Ack, api.Ask, api.Answer},
		"operations": {api.Waiting, api.Done, api.Partial, api.Given},
		"deeds": {api.DoJoin, api.DoLeave, api.DoCrash, api.DoRepair, api.DoPut, api.DoDelete, api.DoQuery, api.DoDeliver,
			api.DoDrop, api.DoDouble, api.DoRetry, api.DoGiveUp, api.DoBalance, api.DoInject},
	} {
		for i, n := range l {
			if n != i+1 {
				t.Errorf("%s: the kind %d is %d", what, i+1, n)
			}
		}
	}
	for i, e := range []api.Errno{api.OK, api.ErrArg, api.ErrNil, api.ErrShort, api.ErrForm, api.ErrFull, api.ErrNone, api.ErrThere,
		api.ErrBox, api.ErrRecord, api.ErrHub, api.ErrNode, api.ErrDead, api.ErrLast, api.ErrClient, api.ErrOp, api.ErrBusy,
		api.ErrPage, api.ErrCursor, api.ErrKind, api.ErrEven, api.ErrLost} {
		if int(e) != i {
			t.Errorf("errno %d is %d", i, e)
		}
	}
}
