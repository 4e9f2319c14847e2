package tests

import (
	"bytes"
	"fmt"
	"math/rand"
	"slices"
	"testing"

	"loop.example/s02533/impl"
)

// auditedRun runs a machine and audits what is left behind each consistency point and
// each mounting of the run, and once more when that has been mounted; it tells the
// machine at the end, and how many audits there were.
func auditedRun(t *testing.T, name string, m impl.Machine, ops []impl.Op) (impl.Machine, int) {
	t.Helper()
	b := newPlainBox(m)
	if code := b.mount(); code != impl.OK {
		t.Fatalf("%s: mounts with code %d", name, code)
	}
	many := 0
	for k, op := range ops {
		before := b.record
		code := b.answer(op).Code
		if b.record == before && (op.Kind != impl.OpCrash || code != impl.OK) && k < len(ops)-1 {
			continue
		}
		out := impl.Run(m, ops[:k+1])
		here := fmt.Sprintf("%s, behind operation %d (%s)", name, k, tellOp(op))
		if out.Code != impl.OK || !spotless(t, here, out.Machine.Disk) {
			t.Fatalf("%s: code %d", here, out.Code)
		}
		left, code := impl.Recover(out.Machine)
		if code != impl.OK || !spotless(t, here+", mounted", left.Disk) {
			t.Fatalf("%s, mounted: code %d", here, code)
		}
		many++
		if k == len(ops)-1 {
			finds(t, here, left.Disk, found{})
			return out.Machine, many
		}
	}
	return impl.Run(m, ops).Machine, many
}

// Promise 20, behind each operation of a story in which every kind of point comes.
func TestNoLeakInAStory(t *testing.T) {
	t.Parallel()
	for _, blocks := range []int{64, 100, 129, 1536, 1537, 2048} {
		for _, every := range []int{0, 1, 3} {
			for _, log := range []int{0, 8192} {
				name := fmt.Sprint(blocks, " blocks, every ", every, ", log ", log)
				m := made(t, blocks, every, log)
				spotless(t, name, m.Disk)
				if _, many := auditedRun(t, name, m, story()); many < 6 {
					t.Errorf("%s: only %d audits", name, many)
				}
			}
		}
	}
}

// Counted by hand: the blocks that each plane has, behind each consistency point.
func TestPlanesOfAVolumeCountedByHand(t *testing.T) {
	m := made(t, 64, 0, 8192)
	for _, c := range []struct {
		name   string
		ops    []impl.Op
		used   int
		planes map[int]int
	}{
		{"new", nil, 2, map[int]int{0: 2}},
		// The root directory, the file, the table, the map.
		{"a file", []impl.Op{on(impl.OpCreate, "/f", 0o644), writing("/f", 0, "x"), point}, 4, map[int]int{0: 4}},
		{"a snapshot", []impl.Op{taking("a")}, 5, map[int]int{0: 4, 1: 4}},
		// A second block of the file and another table.
		{"longer", []impl.Op{writing("/f", 600, "y"), point}, 7, map[int]int{0: 5, 1: 4}},
		{"two snapshots", []impl.Op{taking("b")}, 8, map[int]int{0: 5, 1: 4, 2: 5}},
		// Data block 12 and Single, and another table.
		{"Single", []impl.Op{writing("/f", 6144, "z"), point}, 11, map[int]int{0: 7, 1: 4, 2: 5}},
		// The map alone: the table is that of the snapshot again.
		{"restored", []impl.Op{restoring("a")}, 8, map[int]int{0: 4, 1: 4, 2: 5}},
		{"its snapshot deleted", []impl.Op{dropping("a")}, 7, map[int]int{0: 4, 2: 5}},
		// The least plane is in use again.
		{"a third", []impl.Op{taking("c")}, 8, map[int]int{0: 4, 1: 4, 2: 5}},
		// The state has only its table and the map left.
		{"unlinked", []impl.Op{on(impl.OpUnlink, "/f"), point}, 9, map[int]int{0: 2, 1: 4, 2: 5}},
		{"one deleted", []impl.Op{dropping("b")}, 6, map[int]int{0: 2, 1: 4}},
		{"all deleted", []impl.Op{dropping("c")}, 2, map[int]int{0: 2}},
	} {
		out := codesAre(t, c.name, m, c.ops, slices.Repeat([]int{0}, len(c.ops))...)
		m = out.Machine
		countsAre(t, c.name, m.Disk, infoOf(t, c.name, m).Gen, c.used, c.planes)
	}
}

// All planes in use, each snapshot another state; then deleted and restored in any order.
func TestNoLeakWithAllPlanes(t *testing.T) {
	t.Parallel()
	random := rand.New(rand.NewSource(204))
	for _, log := range []int{0, 65536} {
		m := made(t, 300, 0, log)
		ops := []impl.Op{on(impl.OpMkdir, "/d", 0o755)}
		for k := range 31 {
			path := fmt.Sprint("/d/f", k)
			ops = append(ops, on(impl.OpCreate, path, 0o644), writing(path, 512*(k%15), letters(1+k*20)), taking(fmt.Sprint("s", k)))
		}
		ops = append(ops, taking("one too many"))
		m, many := auditedRun(t, fmt.Sprint("log ", log), m, ops)
		if r, _ := impl.Audit(m.Disk); many < 31 || slices.Contains(r.Planes[:], 0) {
			t.Fatalf("log %d: %d audits, %s", log, many, tellReport(r))
		}
		ops = nil
		for _, k := range random.Perm(31) {
			name := fmt.Sprint("s", k)
			if k%3 == 0 {
				ops = append(ops, restoring(name), on(impl.OpUnlink, fmt.Sprint("/d/f", k/2)), point)
			}
			ops = append(ops, dropping(name))
		}
		m, _ = auditedRun(t, fmt.Sprint("log ", log, ", deleted"), m, ops)
		if r, _ := impl.Audit(m.Disk); slices.ContainsFunc(r.Planes[1:], func(n int) bool { return n != 0 }) || r.Used != r.Planes[0] {
			t.Errorf("log %d: %s", log, tellReport(r))
		}
	}
}

// Volumes whose cursor goes round the end, so that every block comes into use, those too
// that the last blocks of the map tell of; a snapshot is always there.
func TestNoLeakRoundTheEnd(t *testing.T) {
	t.Parallel()
	for _, c := range []struct{ blocks, pieces int }{{64, 3}, {130, 7}, {300, 12}, {1540, 28}, {1700, 28}} {
		m := made(t, c.blocks, 0, 0)
		ops := []impl.Op{on(impl.OpCreate, "/f", 0o644)}
		seen, rounds, last := map[int]bool{}, 0, 0
		for k := 0; rounds < 2; k++ {
			if k > 200 {
				t.Fatalf("%d blocks: the test's own cursor doesn't go round", c.blocks)
			}
			name := fmt.Sprint(c.blocks, " blocks, point ", k)
			for piece := range c.pieces {
				ops = append(ops, writing("/f", 4096*piece, fmt.Sprint(k, letters(4000))))
			}
			if k > 0 {
				ops = append(ops, dropping(fmt.Sprint("s", k-1)))
			}
			ops = append(ops, point, taking(fmt.Sprint("s", k)))
			out := impl.Run(m, ops)
			for n, ans := range out.Answers {
				if ans.Code != impl.OK {
					t.Fatalf("%s (%s): %s", name, tellOp(ops[n]), tellAns(ans))
				}
			}
			m, ops = out.Machine, nil
			soundMap(t, name, m)
			for _, plane := range []int{0, 1} {
				list, _ := impl.Reach(m.Disk, plane)
				for _, b := range list {
					seen[b] = true
				}
			}
			f := infoOf(t, name, m)
			if f.Cursor < last {
				rounds++
			}
			last = f.Cursor
		}
		if len(seen) < c.blocks*3/4 || c.blocks > 1536 && !seen[c.blocks-1] && !seen[c.blocks-2] {
			t.Errorf("%d blocks: only %d were ever in use", c.blocks, len(seen))
		}
		finds(t, fmt.Sprint(c.blocks, " blocks"), m.Disk, found{})
	}
}

// The power fails at every sector write of a story: what lies on the device then is
// audited as it is, whatever survives, and when it has been mounted, with the power
// failing in that too.
func TestNoLeakBehindACrash(t *testing.T) {
	t.Parallel()
	random := rand.New(rand.NewSource(205))
	for _, log := range []int{0, 8192} {
		for _, every := range []int{0, 2} {
			m := made(t, 72, every, log)
			ops := story()
			many := sectorsOf(t, m, ops)
			for k := range many + 1 {
				name := fmt.Sprint("log ", log, ", every ", every, ", ", k, " of ", many, " sector writes")
				begun := append([]impl.Op{fuseOf(k)}, ops...)
				dark := impl.Run(m, begun)
				spotless(t, name, dark.Machine.Disk)
				for _, choice := range [][]byte{nil, bytes.Repeat([]byte{255}, 60), bytes.Repeat([]byte{85}, 60), anyChoice(random)} {
					// A fuse of nothing: if mounting has something to write it fails, and the disk
					// is as the crash has left it.
					crashed := impl.Run(m, append(slices.Clone(begun), crashOf(1, choice...)))
					spotless(t, name+", crashed", crashed.Machine.Disk)
					failed := impl.Run(m, append(slices.Clone(begun), crashOf(1+random.Intn(30), choice...), crashOf(1+random.Intn(30), anyChoice(random)...)))
					spotless(t, name+", crashed in mounting", failed.Machine.Disk)
					for _, left := range []impl.Machine{dark.Machine, crashed.Machine, failed.Machine} {
						mounted, code := impl.Recover(left)
						if code != impl.OK || !spotless(t, name+", mounted", mounted.Disk) {
							t.Fatalf("%s, mounted: code %d", name, code)
						}
					}
				}
				if t.Failed() {
					return
				}
			}
		}
	}
}

// anyLinkOp makes a link of some kind, or reads one.
func anyLinkOp(random *rand.Rand, s impl.State) impl.Op {
	list := append(plainList(s, 1, ""), impl.Found{Path: "/", Ino: 1})
	entry, path := list[random.Intn(len(list))], fmt.Sprint("/link", random.Intn(9))
	switch s.Nodes[entry.Ino].Kind {
	case impl.KindLink:
		return on(impl.OpReadlink, entry.Path)
	case impl.KindFile:
		return two(impl.OpLink, entry.Path, path)
	}
	return two(impl.OpSymlink, path, letters(1+random.Intn(255)))
}

// Promise 20 on volumes that live with all kinds of operations, snapshots, little space
// and a power that fails, with a log and without one.
func TestNoLeakAtRandom(t *testing.T) {
	t.Parallel()
	random := rand.New(rand.NewSource(206))
	audited, kinds := 0, map[int]int{}
	for round := range 40 {
		n := []int{64, 64, 66, 80, 110, 129, 200, 1537}[random.Intn(8)]
		m := made(t, n, []int{0, 0, 1, 4, 30}[random.Intn(5)], []int{0, 8192, 8192, 65536}[random.Intn(4)])
		for part := range 3 {
			name := fmt.Sprint("round ", round, ", part ", part)
			_, b := plainRun(m, nil)
			ops := []impl.Op{}
			for range 50 {
				op := anySnapOp(random, b)
				switch k := random.Intn(20); {
				case k < 7:
					op = anyMachineOp(random, b.s, true)
				case k < 9:
					op = anyLinkOp(random, b.s)
				case b.off && k < 15:
					op = crashOf(random.Intn(40)-10, anyChoice(random)...)
				}
				if b.answer(op).Code == impl.OK {
					kinds[op.Kind]++
				}
				ops = append(ops, op)
			}
			var many int
			m, many = auditedRun(t, name, m, ops)
			audited += many
			if t.Failed() {
				return
			}
		}
	}
	for kind := 1; kind <= impl.OpCrash; kind++ {
		if kinds[kind] < 5 {
			t.Errorf("kind %d was done only %d times", kind, kinds[kind])
		}
	}
	if audited < 900 {
		t.Errorf("only %d audits", audited)
	}
}

// Mounting neither finds nor mends a bit of the map that is changed: that is the auditor's.
func TestBitsOfAMachinesMap(t *testing.T) {
	m, _ := album(t, 80, 0, 8192)
	words, _ := impl.MapWords(m.Disk)
	for b := 2; b < 80; b++ {
		for _, plane := range []int{0, 1, 2, 3, 31} {
			changed := impl.Machine{Disk: withBit(m.Disk, plane, b)}
			want := found{leaked: [][2]int{{plane, b}}}
			if words[b]&(1<<plane) != 0 {
				want = found{missing: [][2]int{{plane, b}}}
			}
			left, code := impl.Recover(changed)
			if code != impl.OK {
				t.Fatalf("plane %d, block %d: code %d", plane, b, code)
			}
			name := fmt.Sprint("plane ", plane, ", block ", b)
			r, code := impl.Audit(left.Disk)
			if code != impl.OK || !slices.Equal(blocksTold(r.Leaked), want.leaked) || !slices.Equal(blocksTold(r.Missing), want.missing) || len(r.Twice) != 0 {
				t.Errorf("%s: %s, code %d, want %v", name, tellReport(r), code, want)
			}
		}
	}
}
