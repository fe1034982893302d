package run_test

import (
	"testing"

	"vaultkeel/api"
	"vaultkeel/check"
	"vaultkeel/device"
	"vaultkeel/diff"
	"vaultkeel/extent"
	"vaultkeel/heap"
	"vaultkeel/image"
	"vaultkeel/merge"
	"vaultkeel/move"
	"vaultkeel/num"
	"vaultkeel/old"
	"vaultkeel/pages"
	"vaultkeel/play"
	"vaultkeel/reach"
	"vaultkeel/root"
	"vaultkeel/run"
	"vaultkeel/stamp"
	"vaultkeel/stat"
	"vaultkeel/store"
	"vaultkeel/undo"
	"vaultkeel/view"
)

// The faces of all layers as their chapters list them: another signature does not compile.
var (
	_ func([]byte, int, int, int) ([]byte, error) = num.Put
	_ func([]byte, int, int) (int, error)         = num.Get
	_ func(string) ([]byte, error)                = num.PutName
	_ func([]byte) (string, error)                = num.GetName
	_ func([]byte, []byte) int                    = num.Same

	_ func(int) (*device.Device, error) = device.New
	_ interface {
		Read(int) ([]byte, error)
		Write(int, []byte) error
		Flush() error
		Fail(int)
		Crash([]bool, int, int) int
		Pending() []int
		Len() int
		Down() bool
	} = (*device.Device)(nil)

	_ func(int, []byte) ([]byte, error)         = stamp.Make
	_ func([]byte) (int, []byte, error)         = stamp.Open
	_ func([]byte, []byte, int) ([]byte, error) = stamp.Mix

	_ func(*device.Device) (*pages.Pages, error) = pages.Format
	_ func(*device.Device) (*pages.Pages, error) = pages.Open
	_ interface {
		Read(int) ([]byte, error)
		Commit([]api.Page) error
		Stamp() int
		Len() int
	} = (*pages.Pages)(nil)

	_ func(*pages.Pages) (*view.View, error) = view.New
	_ interface {
		Read(int, int) ([]byte, error)
		Write(int, []byte) error
		Dirty() []int
		Commit() error
		Abort()
		Len() int
	} = (*view.View)(nil)

	_ func(int, []api.Extent) error                 = extent.Check
	_ func(int, []api.Extent) ([]api.Extent, error) = extent.Frees
	_ func(int, []api.Extent, int) (int, error)     = extent.Fit
	_ func(int, []api.Extent) (api.Stat, error)     = extent.Stat

	_ func(int) ([]byte, error)                   = image.New
	_ func([]byte) ([]api.Entry, error)           = image.Entries
	_ func([]byte, int) (api.Entry, error)        = image.Get
	_ func([]byte, api.Entry) ([]byte, error)     = image.Put
	_ func([]byte, int) ([]byte, error)           = image.Drop
	_ func([]byte) ([]api.Root, error)            = image.Roots
	_ func([]byte, int, api.Root) ([]byte, error) = image.PutRoot

	_ func([]byte) ([]api.Fault, error)  = check.Check
	_ func([]byte) ([]byte, error)       = check.Mend
	_ func([]byte, []byte) (bool, error) = check.Same

	_ func([]byte, []byte) ([]api.Change, error) = diff.Diff
	_ func([]byte, []api.Change) ([]byte, error) = diff.Apply
	_ func([]api.Change) []api.Change            = diff.Turn
	_ func([]api.Change) ([]int, error)          = diff.Pages

	_ func(int) (*heap.Heap, error)    = heap.New
	_ func([]byte) (*heap.Heap, error) = heap.Load
	_ interface {
		Alloc(int, int) (int, error)
		Free(int) error
		Read(int, int, int) ([]byte, error)
		Write(int, int, []byte) error
		Tag(int) (int, error)
		Size(int) (int, error)
		Bytes() []byte
	} = (*heap.Heap)(nil)

	_ func(*heap.Heap) *undo.Undo = undo.New
	_ interface {
		Heap() *heap.Heap
		Mark() int
		Back(int) error
		Marks() []int
		Changes(int) ([]api.Change, error)
	} = (*undo.Undo)(nil)

	_ func(*heap.Heap, string, int) (bool, error) = root.Set
	_ func(*heap.Heap, string) error              = root.Unset
	_ func(*heap.Heap, string, int) (int, error)  = root.Get
	_ func(*heap.Heap) []api.Root                 = root.All

	_ func(*heap.Heap, int) ([]int, error) = reach.Refs
	_ func(*heap.Heap) []int               = reach.Live
	_ func(*heap.Heap) []int               = reach.Dead
	_ func(*heap.Heap) (int, error)        = reach.Sweep
	_ func(*heap.Heap, int) ([]int, error) = reach.Path

	_ func(*heap.Heap) (bool, error) = move.Step
	_ func(*heap.Heap) (int, error)  = move.All
	_ func(*heap.Heap) int           = move.Gain

	_ func([]byte) ([]byte, error) = old.Up
	_ func([]byte) ([]byte, error) = old.Down
	_ func([]byte) int             = old.Version

	_ func(*device.Device) (*store.Store, error) = store.Create
	_ func(*device.Device) (*store.Store, error) = store.Open
	_ interface {
		Heap() *heap.Heap
		Commit() error
		Abort()
		Stamp() int
		Dirty() []int
	} = (*store.Store)(nil)

	_ func(*store.Store, api.Op) error                                            = play.Do
	_ func(int, []api.Op, int, []bool, int, int) ([]api.Entry, []api.Root, error) = play.Play
	_ func(int, []api.Op) (int, error)                                            = play.Steps

	_ func(*heap.Heap) (api.Stat, error)   = stat.Heap
	_ func(*heap.Heap, []int) (int, error) = stat.Can
	_ func(*heap.Heap) (int, error)        = stat.Loose
	_ func(*heap.Heap) []int               = stat.ByTag

	_ func([]byte, []byte, []byte) ([]byte, []int, error) = merge.Three
	_ func([]byte, []byte) ([]int, error)                 = merge.Moved

	_ func(string) string = run.Run
)

// The numbers of the errors, and the bounds that chapter 1 leans on.
func TestGivenNumbers(t *testing.T) {
	for i, e := range []api.Errno{api.OK, api.ErrRange, api.ErrSyntax, api.ErrShape, api.ErrFull, api.ErrNone, api.ErrState, api.ErrClash, api.ErrTag, api.ErrLost} {
		if int(e) != i {
			t.Errorf("%v: got %d, want %d", e, int(e), i)
		}
	}
	if api.MaxName != 8 {
		t.Errorf("MaxName: got %d, want 8", api.MaxName)
	}
}
