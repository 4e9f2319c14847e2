package tests

import (
	"bytes"
	"fmt"
	"math"
	"math/rand"
	"slices"
	"testing"

	"loop.example/s02533/impl"
)

func rightInfo() impl.Fsinfo {
	return impl.Fsinfo{Gen: 7, Blocks: 64, Cursor: 9, Clock: 5, Ops: 4, Every: 3, Log: 8192,
		Ino: impl.Root{Size: 256, Direct: [12]int{5}}, Map: impl.Root{Size: 256, Direct: [12]int{6}}, Snaps: [31]int{30: 63}}
}

func TestStepsOfAPlan(t *testing.T) {
	a, b := bytes.Repeat([]byte("a"), 512), bytes.Repeat([]byte("b"), 512)
	for name, puts := range map[string][]impl.Put{
		"no puts":                  nil,
		"one":                      {{Block: 5, Data: a}},
		"two that rise":            {{Block: 5, Data: a}, {Block: 6, Data: b}},
		"two that fall":            {{Block: 6, Data: b}, {Block: 5, Data: a}},
		"one twice":                {{Block: 6, Data: a}, {Block: 6, Data: b}, {Block: 6, Data: a}},
		"no block of any device":   {{Block: -1, Data: a}, {Block: math.MinInt, Data: b}, {Block: math.MaxInt}, {Block: 64, Data: a}, {}},
		"the record's blocks":      {{Block: 0, Data: a}, {Block: 1, Data: b}},
		"more and less than bytes": {{Block: 5}, {Block: 6, Data: []byte("x")}, {Block: 7, Data: make([]byte, 513)}, {Block: 8, Data: []byte{}}},
		"very many":                slices.Repeat([]impl.Put{{Block: 5, Data: a}}, 5000),
	} {
		list := steps(t, name, impl.CpOut{Puts: puts, Info: rightInfo()})
		if len(list) != len(puts)+5 {
			t.Fatalf("%s: %d steps", name, len(list))
		}
	}
	// Two Puts that have the same memory: the steps do not.
	steps(t, "one list", impl.CpOut{Puts: []impl.Put{{Block: 5, Data: a}, {Block: 6, Data: a}}, Info: rightInfo()})
	got, code := impl.CpSteps(impl.CpOut{Info: rightInfo()})
	record := plainFsinfo(rightInfo())
	if code != impl.OK || len(got) != 5 {
		t.Fatalf("no puts: %d steps, code %d", len(got), code)
	}
	for k, want := range []impl.DiskOp{{Kind: impl.DiskBarrier}, {Kind: impl.DiskWrite, Data: record}, {Kind: impl.DiskBarrier}, {Kind: impl.DiskWrite, A: 1, Data: record}, {Kind: impl.DiskBarrier}} {
		if got[k].Kind != want.Kind || got[k].A != want.A || !bytes.Equal(got[k].Data, want.Data) {
			t.Errorf("step %d: kind %d, A %d, %d bytes", k, got[k].Kind, got[k].A, len(got[k].Data))
		}
	}
}

func TestStepsOfWrongRecords(t *testing.T) {
	for name, change := range map[string]func(f *impl.Fsinfo){
		"all zero": func(f *impl.Fsinfo) { *f = impl.Fsinfo{} }, "Gen 0": func(f *impl.Fsinfo) { f.Gen = 0 }, "a great Gen": func(f *impl.Fsinfo) { f.Gen = impl.MaxClock + 1 },
		"Clock 0": func(f *impl.Fsinfo) { f.Clock = 0 }, "a great Clock": func(f *impl.Fsinfo) { f.Clock = math.MaxInt }, "Ops -1": func(f *impl.Fsinfo) { f.Ops = -1 },
		"great Ops": func(f *impl.Fsinfo) { f.Ops = impl.MaxClock + 1 }, "63 Blocks": func(f *impl.Fsinfo) { f.Blocks = 63 }, "2049 Blocks": func(f *impl.Fsinfo) { f.Blocks = 2049 },
		"other Blocks": func(f *impl.Fsinfo) { f.Blocks = 65 }, "Cursor 1": func(f *impl.Fsinfo) { f.Cursor = 1 }, "Cursor 64": func(f *impl.Fsinfo) { f.Cursor = 64 },
		"Every": func(f *impl.Fsinfo) { f.Every = 1001 }, "Every -1": func(f *impl.Fsinfo) { f.Every = math.MinInt }, "Log": func(f *impl.Fsinfo) { f.Log = 8191 },
		"no table": func(f *impl.Fsinfo) { f.Ino = impl.Root{} }, "a table of 128 bytes": func(f *impl.Fsinfo) { f.Ino.Size = 128 }, "a table at 64": func(f *impl.Fsinfo) { f.Ino.Direct[0] = 64 },
		"no map": func(f *impl.Fsinfo) { f.Map = impl.Root{} }, "a map at 1": func(f *impl.Fsinfo) { f.Map.Direct[0] = 1 }, "a snapshot at 64": func(f *impl.Fsinfo) { f.Snaps[0] = 64 },
		"a snapshot at -1": func(f *impl.Fsinfo) { f.Snaps[30] = -1 },
	} {
		out := impl.CpOut{Info: rightInfo(), Puts: []impl.Put{{Block: 5, Data: make([]byte, 512)}}}
		change(&out.Info)
		if list, code := impl.CpSteps(out); code != impl.ErrInval || len(list) != 0 {
			t.Errorf("%s: %d steps, code %d", name, len(list), code)
		}
	}
	for name, change := range map[string]func(f *impl.Fsinfo){
		"as it is": func(f *impl.Fsinfo) {}, "the greatest": func(f *impl.Fsinfo) { f.Gen, f.Clock, f.Ops = impl.MaxClock, impl.MaxClock, impl.MaxClock },
		"the least": func(f *impl.Fsinfo) { f.Gen, f.Clock, f.Ops, f.Every, f.Log, f.Cursor = 1, 1, 0, 0, 0, 2 }, "holes": func(f *impl.Fsinfo) { f.Ino.Direct, f.Map.Direct = [12]int{}, [12]int{} },
	} {
		out := impl.CpOut{Info: rightInfo()}
		change(&out.Info)
		steps(t, name, out)
	}
}

// afterCrash is the image behind a fuse of so many sector writes, the steps, and a
// crash of which a choice survives.
func afterCrash(image []byte, list []impl.DiskOp, fuse int, choice []byte) []byte {
	ops := append([]impl.DiskOp{{Kind: impl.DiskFuse, A: fuse}}, list...)
	return impl.DiskRun(image, append(ops, impl.DiskOp{Kind: impl.DiskCrash, Data: choice})).Image
}

// Until the record is switched the old state is whole, and then the new one is.
func TestACrashIsHarmless(t *testing.T) {
	random := rand.New(rand.NewSource(111))
	image, _ := impl.Format(64, 0, 0)
	p := example()
	image, _ = keepsPromise(t, "ahead", image, p.State, 1, create("zero"))
	p.file(1, "single", fileOf(13))
	image, _ = keepsPromise(t, "ahead", image, p.State, 2, create("one"))
	old := copyOf(p.State)
	p.Nodes[7].Data[512*12] = 'x'
	p.Nodes[3].Data = []byte("changed")
	p.Clock = 10
	for _, act := range []impl.Act{{}, create("two"), toDelete("one"), restore("zero")} {
		out, code := impl.CpPlan(image, p.State, 3, act)
		if code != impl.OK {
			t.Fatalf("act %d: code %d", act.Kind, code)
		}
		list, _ := impl.CpSteps(out)
		before := 4 * len(out.Puts)
		for fuse := range before + 10 {
			for range 4 {
				choice := make([]byte, 1+random.Intn(40))
				random.Read(choice)
				behind := afterCrash(image, list, fuse, choice)
				want := old
				if fuse >= before+4 {
					want = p.State
				}
				s, code := impl.LoadState(behind)
				if code != impl.OK || !sameState(s, want) {
					t.Errorf("act %d, %d sectors: code %d, Clock %d", act.Kind, fuse, code, s.Clock)
				}
				if words, code := impl.MapWords(behind); code != impl.OK || !slices.Equal(words, reachedPlanes(t, "a crash", behind)) {
					t.Errorf("act %d, %d sectors: the map isn't right, code %d", act.Kind, fuse, code)
				}
				if s, code := impl.LoadSnap(behind, "zero"); code != impl.OK || len(s.Nodes) != 7 {
					t.Errorf("act %d, %d sectors: the snapshot is lost, code %d", act.Kind, fuse, code)
				}
			}
		}
	}
}

// A barrier stands between what is written and each copy of the record.
func TestWhereTheBarriersStand(t *testing.T) {
	image := volumeOf(64, example().State)
	out, _ := plans(t, "one file more", image, manyFiles(3).State, 3, impl.Act{})
	list, _ := impl.CpSteps(out)
	for k, op := range list {
		barrier := k == len(out.Puts) || k == len(out.Puts)+2 || k == len(out.Puts)+4
		if (op.Kind == impl.DiskBarrier) != barrier || barrier && (op.A != 0 || len(op.Data) != 0) {
			t.Errorf("step %d: %s", k, fmt.Sprint(op.Kind, " ", op.A))
		}
	}
}
