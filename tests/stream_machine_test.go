package tests

import (
	"bytes"
	"fmt"
	"math/rand"
	"slices"
	"strings"
	"testing"

	"loop.example/s02533/impl"
)

// sameTree asks that two states have the same paths and files, whatever their Clocks are.
func sameTree(t *testing.T, name string, a, b impl.State) {
	t.Helper()
	if !sameState(withClock(a, 1), withClock(b, 1)) {
		t.Errorf("%s: the nodes differ", name)
	}
	one, other := plainList(a, 1, ""), plainList(b, 1, "")
	if !slices.Equal(one, other) {
		t.Errorf("%s: paths %v, want %v", name, other, one)
	}
	for _, f := range one {
		if !bytes.Equal(a.Nodes[f.Ino].Data, b.Nodes[f.Ino].Data) {
			t.Errorf("%s: %s has other bytes", name, f.Path)
		}
	}
}

// looks are operations that ask for all that a state has, each file's bytes too, below a
// path of a snapshot or the root.
func looks(s impl.State, top string) []impl.Op {
	ops := []impl.Op{on(impl.OpList, top+"/"), on(impl.OpStat, top+"/")}
	for _, f := range plainList(s, 1, "") {
		ops = append(ops, on(impl.OpLstat, top+f.Path))
		switch s.Nodes[f.Ino].Kind {
		case impl.KindDir:
			ops = append(ops, on(impl.OpList, top+f.Path))
		case impl.KindLink:
			ops = append(ops, on(impl.OpReadlink, top+f.Path))
		default:
			for at := 0; at < len(s.Nodes[f.Ino].Data); at += impl.MaxIo {
				ops = append(ops, on(impl.OpRead, top+f.Path, at, impl.MaxIo))
			}
		}
	}
	return ops
}

// Chapter 15's second worked example: two volumes, two snapshots, two streams.
func TestWorkedExampleOfTwoVolumes(t *testing.T) {
	for _, log := range []int{0, 8192} {
		first := made(t, 64, 0, 0)
		out := codesAre(t, "the first volume", first, []impl.Op{on(impl.OpMkdir, "/d", 0o755), taking("one"), on(impl.OpCreate, "/d/f", 0o644), writing("/d/f", 0, "hello"), taking("two"), sending("", "one"), sending("one", "two"), sending("two", ""), sending("two", "one"), statfs},
			0, 0, 0, 0, 0, 0, 0, 0, 0, 0)
		streams := [][]byte{out.Answers[5].Data, out.Answers[6].Data, out.Answers[7].Data, out.Answers[8].Data}
		for k, stream := range streams {
			if out.Answers[5+k].N != len(stream) {
				t.Errorf("stream %d: N %d, %d bytes", k, out.Answers[5+k].N, len(stream))
			}
		}
		if len(streams[2]) != 36 || len(streams[3]) != 36+2*136 || len(streams[0]) != 36+136+516+136 || len(streams[1]) != 36+2*(136+516) || out.Answers[9].Usage.Gen != 3 {
			t.Errorf("lengths %d, %d, %d, %d", len(streams[0]), len(streams[1]), len(streams[2]), len(streams[3]))
		}
		second := made(t, 80, 0, log)
		ops := []impl.Op{receiving(streams[1]), statfs, receiving(streams[0]), statfs, on(impl.OpStat, "/d/f"), receiving(streams[0]), receiving(streams[1]), statfs, on(impl.OpRead, "/d/f", 0, 9), receiving(streams[1]), receiving(streams[2]), statfs, receiving(streams[3]), statfs, on(impl.OpList, "/d")}
		out = codesAre(t, "the second volume", second, ops, impl.ErrStale, 0, 0, 0, impl.ErrNoEnt, impl.ErrStale, 0, 0, 0, impl.ErrStale, 0, 0, 0, 0, 0)
		if string(out.Answers[8].Data) != "hello" || out.Answers[14].N != 0 {
			t.Errorf("/d/f: %q", out.Answers[8].Data)
		}
		// 1 and 3 make 4, then 4 and 6 make 7; a stream that has nothing new makes 8 of 7 and 6,
		// and one that leads back 9 of 8 and 3.
		for k, want := range map[int][3]int{1: {1, 0, 1}, 3: {4, 1, 2}, 7: {7, 2, 3}, 11: {8, 3, 4}, 13: {9, 4, 5}} {
			if u := out.Answers[k].Usage; u.Clock != want[0] || u.Ops != want[1] || u.Gen != want[2] || u.Fresh != 0 {
				t.Errorf("operation %d: %v, want %v", k, u, want)
			}
		}
		soundMap(t, "the second volume", out.Machine)
	}
}

// Send with all names that there are and others: the state, NewState() and snapshots, as
// the one and as the other.
func TestWhatIsSent(t *testing.T) {
	for _, log := range []int{0, 8192} {
		m, k := album(t, 100, 0, log)
		ahead := []impl.Op{writing("/hard", 700, "not yet safe"), on(impl.OpMkdir, "/new", 0o700)}
		now := k.following(ahead...).s
		states := map[string]impl.State{"one": k.snaps["one"], "two": k.snaps["two"]}
		for _, from := range []string{"", "one", "two", "three", "ONE", "on", "/one", "one/", ".", "..", strings.Repeat("x", 27), strings.Repeat("/", 600), "\x00", "/d"} {
			for _, to := range []string{"", "one", "two", "three", "/", "\xff", strings.Repeat("y", 27), strings.Repeat("/", 600)} {
				name := fmt.Sprintf("from %.9q to %.9q", from, to)
				a, there := states[from]
				if from == "" {
					a, there = impl.NewState(), true
				}
				b, alsoThere := states[to]
				if to == "" {
					b, alsoThere = now, true
				}
				ops := append(slices.Clone(ahead), sending(from, to))
				if !there || !alsoThere {
					refusedWith(t, name, m, impl.ErrNoEnt, ops...)
					continue
				}
				out := codesAre(t, name, m, append(ops, statfs), 0, 0, 0, 0)
				want := streamOf(a, b)
				if !sameAns(out.Answers[2], impl.Ans{N: len(want), Data: want}) {
					t.Errorf("%s: %s, want %d bytes", name, tellAns(out.Answers[2]), len(want))
				}
				if made, code := impl.Patch(a, out.Answers[2].Data); code != impl.OK || !sameState(made, b) {
					t.Errorf("%s: patched, code %d", name, code)
				}
				// Nothing is done by it: neither a point nor an operation.
				if without := impl.Run(m, ahead); !sameMachine(out.Machine, without.Machine) {
					t.Errorf("%s: something has changed", name)
				}
			}
		}
		// What stands in other fields is not looked at.
		codesAre(t, "other fields", m, []impl.Op{{Kind: impl.OpSend, Path: "one", A: -1, B: 1 << 62, Data: []byte("x"), Gid: 65535}}, 0)
	}
	fresh := made(t, 64, 0, 0)
	if out := codesAre(t, "new", fresh, []impl.Op{sending("", "")}, 0); out.Answers[0].N != 36 {
		t.Errorf("new: %s", tellAns(out.Answers[0]))
	}
}

// Only the user 0 sends and receives, whatever its group is.
func TestWhoSendsAndReceives(t *testing.T) {
	m, k := album(t, 100, 0, 8192)
	stream := streamOf(k.s, k.behind(on(impl.OpMkdir, "/x", 0)).s)
	for _, op := range []impl.Op{sending("", ""), sending("one", "two"), sending("nobody", "nobody"), receiving(stream), receiving(nil), receiving(make([]byte, impl.MaxStream+1))} {
		for _, user := range [][3]int{{1, 0, impl.ErrPerm}, {5, 6, impl.ErrPerm}, {65535, 65535, impl.ErrPerm}, {-1, 0, impl.ErrInval}, {0, -1, impl.ErrInval}, {0, 65536, impl.ErrInval}, {65536, 0, impl.ErrInval}, {5, -1, impl.ErrInval}} {
			refusedWith(t, fmt.Sprint("user ", user[:2]), m, user[2], by(user[0], user[1], op))
		}
	}
	for _, gid := range []int{0, 1, 65535} {
		codesAre(t, "the user 0", m, []impl.Op{by(0, gid, sending("one", "")), by(0, gid, receiving(stream)), on(impl.OpStat, "/x")}, 0, 0, 0)
	}
}

// Received: the state is that of the stream with its numbers, owners and times; Ops goes on
// by one, a point is made, and the log is empty then, whatever stood in it.
func TestWhatIsReceived(t *testing.T) {
	for _, log := range []int{0, 8192} {
		for _, every := range []int{0, 1, 2, 5} {
			m, k := album(t, 100, every, log)
			f := infoOf(t, "begun", m)
			for _, ahead := range [][]impl.Op{nil, {on(impl.OpMkdir, "/new", 0o700)}, {writing("/hard", 600, "not yet safe"), on(impl.OpUnlink, "/d/mine"), on(impl.OpChmod, "/", 0o700)}} {
				begun := k.following(ahead...)
				goals := map[string]impl.State{"new": impl.NewState(), "one": k.snaps["one"], "two": k.snaps["two"], "the same": begun.s, "far ahead": withClock(begun.s, 1000), "another": example().State, "a file": begun.following(by(5, 6, on(impl.OpCreate, "/d/theirs", 0o600)), on(impl.OpChmod, "/d", 0o777), by(5, 6, on(impl.OpCreate, "/d/theirs", 0o600)), writing("/d/theirs", 6000, letters(900))).s}
				for name, goal := range goals {
					name = fmt.Sprint(name, ", ", len(ahead), " ahead, every ", every, ", log ", log)
					stream := streamOf(begun.s, goal)
					ops := append(slices.Clone(ahead), receiving(stream), statfs)
					out := codesAre(t, name, m, append(ops, receiving(stream), point, statfs))
					n := len(ahead)
					clock := max(begun.s.Clock, goal.Clock) + 1
					if !sameAns(out.Answers[n], impl.Ans{}) {
						t.Errorf("%s: %s", name, tellAns(out.Answers[n]))
					}
					if u := out.Answers[n+1].Usage; u.Clock != clock || u.Ops != f.Ops+n+1 || u.Fresh != 0 || u.Snaps != 2 {
						t.Errorf("%s: %v", name, u)
					}
					// The same stream once more is stale, unless it leads from a state to itself.
					again := impl.ErrStale
					if one, _ := plainFingerprint(begun.s); int(one) == int(plainSum(t, goal)) {
						again = impl.OK
					}
					if out.Answers[n+2].Code != again {
						t.Errorf("%s, again: %s", name, tellAns(out.Answers[n+2]))
					}
					done := codesAre(t, name, m, ops)
					left := begun.behind(receiving(stream)).mountsAs(t, name, done.Machine)
					if len(done.Machine.Log) != 0 || !sameMachine(left, done.Machine) {
						t.Errorf("%s: mounting finds something to do, a log of %d bytes", name, len(done.Machine.Log))
					}
					sameTree(t, name, goal, stateOf(t, name, done.Machine))
					if got := infoOf(t, name, done.Machine); got.Clock != clock || got.Ops != f.Ops+n+1 {
						t.Errorf("%s: Clock %d, Ops %d", name, got.Clock, got.Ops)
					}
				}
			}
		}
	}
}

func plainSum(t *testing.T, s impl.State) uint32 {
	t.Helper()
	sum, code := plainFingerprint(s)
	if code != impl.OK {
		t.Fatal("the test's own state isn't right")
	}
	return sum
}

// What isn't received changes nothing: neither in memory nor on the device, and no log is
// dropped.
func TestWhatIsNotReceived(t *testing.T) {
	for _, log := range []int{0, 8192} {
		m, k := album(t, 100, 0, log)
		ahead := []impl.Op{writing("/hard", 600, "not yet safe"), on(impl.OpMkdir, "/new", 0o700)}
		begun := k.following(ahead...).s
		next := k.following(append(slices.Clone(ahead), on(impl.OpUnlink, "/d/mine"))...).s
		right := streamOf(begun, next)
		behind := func(p parcel) []byte { return p.laid() }
		spoilt := func(spoil func(p *parcel)) []byte {
			p, _ := plainParcel(begun, next)
			spoil(&p)
			return behind(p)
		}
		for name, c := range map[string]struct {
			data []byte
			code int
		}{
			"nothing":                      {nil, impl.ErrCorrupt},
			"for the last point":           {streamOf(k.s, next), impl.ErrStale},
			"for a snapshot":               {streamOf(k.snaps["one"], next), impl.ErrStale},
			"for a new volume":             {streamOf(impl.NewState(), next), impl.ErrStale},
			"for what it makes":            {streamOf(next, begun), impl.ErrStale},
			"cut short":                    {right[:len(right)-1], impl.ErrCorrupt},
			"a byte behind":                {append(bytes.Clone(right), 0), impl.ErrCorrupt},
			"just as many bytes as may be": {append(bytes.Clone(right), make([]byte, impl.MaxStream-len(right))...), impl.ErrCorrupt},
			"a byte too many":              {append(bytes.Clone(right), make([]byte, impl.MaxStream-len(right)+1)...), impl.ErrLarge},
			"very many bytes":              {make([]byte, 3*impl.MaxStream), impl.ErrLarge},
			"too many, for another":        {append(streamOf(k.s, next), make([]byte, impl.MaxStream)...), impl.ErrLarge},
			"another second fingerprint":   {spoilt(func(p *parcel) { p.to++ }), impl.ErrCorrupt},
			"another first fingerprint":    {spoilt(func(p *parcel) { p.from++ }), impl.ErrStale},
			"both":                         {spoilt(func(p *parcel) { p.to++; p.from++ }), impl.ErrStale},
			"no Clock":                     {spoilt(func(p *parcel) { p.clock = 0 }), impl.ErrCorrupt},
			"no Clock, for another":        {spoilt(func(p *parcel) { p.clock = 0; p.from++ }), impl.ErrStale},
			"a Clock behind the last":      {spoilt(func(p *parcel) { p.clock = impl.MaxClock + 1 }), impl.ErrCorrupt},
			"the last Clock":               {spoilt(func(p *parcel) { p.clock = impl.MaxClock }), impl.ErrRange},
			"one node":                     {spoilt(func(p *parcel) { p.nodes = 1 }), impl.ErrCorrupt},
			"too many records told":        {spoilt(func(p *parcel) { p.many++; p.from++ }), impl.ErrCorrupt},
		} {
			refusedWith(t, fmt.Sprint(name, ", log ", log), m, c.code, append(slices.Clone(ahead), receiving(c.data))...)
		}
		codesAre(t, "right", m, append(slices.Clone(ahead), receiving(right)), 0, 0, 0)
	}
}

// The last numbers of a volume and of a stream: the one ahead of them is still there.
func TestTheLastNumbersOfStreams(t *testing.T) {
	for _, log := range []int{0, 8192} {
		m, k := album(t, 100, 0, log)
		for _, c := range []struct {
			clock, sent, ops, gen, code int
		}{
			{impl.MaxClock - 1, 50, 50, 50, impl.OK}, {impl.MaxClock, 50, 50, 50, impl.ErrRange},
			{50, impl.MaxClock - 1, 50, 50, impl.OK}, {50, impl.MaxClock, 50, 50, impl.ErrRange},
			{impl.MaxClock - 1, impl.MaxClock - 1, 50, 50, impl.OK}, {impl.MaxClock, impl.MaxClock, 50, 50, impl.ErrRange}, {impl.MaxClock - 1, impl.MaxClock, 50, 50, impl.ErrRange}, {impl.MaxClock, impl.MaxClock - 1, 50, 50, impl.ErrRange},
			{50, 60, impl.MaxClock - 1, 50, impl.OK}, {50, 60, impl.MaxClock, 50, impl.ErrRange},
			{50, 60, 50, impl.MaxClock - 1, impl.OK}, {50, 60, 50, impl.MaxClock, impl.ErrRange},
			{impl.MaxClock - 1, impl.MaxClock - 1, impl.MaxClock - 1, impl.MaxClock - 1, impl.OK},
		} {
			name := fmt.Sprintf("Clocks %d and %d, Ops %d, Gen %d, log %d", c.clock, c.sent, c.ops, c.gen, log)
			last := changedRecord(m, func(f *impl.Fsinfo) { f.Clock, f.Ops, f.Gen = c.clock, c.ops, c.gen })
			goal := withClock(becomes(t, k.s, on(impl.OpMkdir, "/x", 0)), c.sent)
			op := receiving(streamOf(withClock(k.s, c.clock), goal))
			if c.code != impl.OK {
				refusedWith(t, name, last, c.code, op)
				continue
			}
			out := codesAre(t, name, last, []impl.Op{op, statfs}, 0, 0)
			if u := out.Answers[1].Usage; u.Clock != max(c.clock, c.sent)+1 || u.Ops != c.ops+1 || u.Gen != c.gen+1 {
				t.Errorf("%s: %v", name, u)
			}
			held := keeper{s: withClock(k.s, c.clock), snaps: k.snaps}
			held.behind(op).mountsAs(t, name, out.Machine)
		}
	}
}

// streamScenes tries a Receive with troubles that stand together.
func streamScenes(t *testing.T) func(what string, has standing, code int) bool {
	begun := hollow(t, false)
	return func(what string, has standing, code int) bool {
		t.Helper()
		if has["power"] && (has["gen"] || has["room"]) {
			return false
		}
		m, ahead := strained(begun, has)
		s, _ := plainLoadState(m.Disk)
		next := withClock(s, impl.MaxClock)
		if !has["sent"] {
			next = withClock(s, s.Clock)
		}
		next.Nodes[2].Data = []byte("from elsewhere")
		p, _ := plainParcel(s, next)
		if has["room"] {
			// The file's block and the table's are fresh: one too few is left behind them.
			m = leaving(m, impl.MapReserve(130)+2+impl.Slack-1)
		}
		if has["making"] {
			p.to++
		}
		if has["stale"] {
			p.from++
		}
		if has["form"] {
			p.many++
		}
		op := receiving(p.laid())
		if has["large"] {
			op.Data = append(op.Data, make([]byte, impl.MaxStream)...)
		}
		if has["perm"] {
			op.Uid = 5
		}
		if has["user"] {
			op.Gid = 65536
		}
		if has["kind"] {
			op.Kind += 27
		}
		endsWith(t, what, m, code, append(ahead, op)...)
		return true
	}
}

func TestOrderOfFaultsOfReceiving(t *testing.T) {
	eachOrder(t, "receive", []trouble{{"power", impl.ErrPower}, {"kind", impl.ErrKind}, {"user", impl.ErrInval}, {"perm", impl.ErrPerm}, {"large", impl.ErrLarge}, {"form", impl.ErrCorrupt}, {"stale", impl.ErrStale}, {"making", impl.ErrCorrupt},
		{"clock", impl.ErrRange}, {"sent", impl.ErrRange}, {"ops", impl.ErrRange}, {"room", impl.ErrNoSpace}, {"gen", impl.ErrRange}}, streamScenes(t))
}

// Send: the first name is looked for ahead of the second one, and a snapshot that can't be
// read is found as it is.
func TestOrderOfFaultsOfSending(t *testing.T) {
	begun := hollow(t, false)
	for _, c := range []struct {
		from, to string
		code     int
	}{
		{"bad", "nobody", impl.ErrCorrupt}, {"nobody", "bad", impl.ErrNoEnt}, {"bad", "one", impl.ErrCorrupt}, {"one", "bad", impl.ErrCorrupt}, {"bad", "", impl.ErrCorrupt}, {"", "bad", impl.ErrCorrupt}, {"nobody", "", impl.ErrNoEnt}, {"", "nobody", impl.ErrNoEnt},
		{"bad", "bad", impl.ErrCorrupt}, {"nobody", "nobody", impl.ErrNoEnt}, {"one", "nobody", impl.ErrNoEnt},
	} {
		name := fmt.Sprintf("from %q to %q", c.from, c.to)
		op := sending(c.from, c.to)
		refusedWith(t, name, begun, c.code, op)
		refusedWith(t, name, begun, impl.ErrPerm, by(5, 5, op))
		refusedWith(t, name, begun, impl.ErrInval, by(5, -1, op))
		refusedWith(t, name, begun, impl.ErrPower, on(impl.OpChmod, "/", 0o700), fuseOf(0), point, op)
	}
	// What is sent needs neither numbers nor room.
	m := changedRecord(leaving(begun, 0), func(f *impl.Fsinfo) { f.Clock, f.Ops, f.Gen = impl.MaxClock, impl.MaxClock, impl.MaxClock })
	codesAre(t, "the last numbers", m, []impl.Op{sending("", ""), sending("one", ""), fuseOf(0), sending("one", "one")}, 0, 0, 0, 0)
}

// thrifty is a volume of a state in which equal files have the same blocks, as no operation
// writes them, so that a device has more than it could.
func thrifty(blocks int, s impl.State) impl.Machine {
	m := newMason(blocks)
	m.info.Clock = s.Clock
	roots := map[string]impl.Root{}
	list := make([]impl.Inode, len(s.Nodes))
	for number, n := range s.Nodes {
		if zeroNode(n) {
			continue
		}
		if _, laid := roots[string(n.Data)]; !laid {
			roots[string(n.Data)] = m.lay(n.Data)
		}
		list[number] = inodeWith(n, roots[string(n.Data)])
	}
	m.info.Ino = m.lay(plainTable(list))
	return impl.Machine{Disk: m.done()}
}

// A stream of just MaxStream bytes is sent and received, one that is longer isn't: 133
// records with 1997 blocks, and one block more.
func TestTheLongestStream(t *testing.T) {
	heavy := func(blocks int) *planter {
		p := newPlanter()
		p.Clock = 9
		for k := range 4 {
			p.file(1, fmt.Sprint("b", k), strings.Repeat("x", 512*min(512, blocks-512*k)))
		}
		for k := range 128 {
			p.file(1, fmt.Sprint("n", k), "")
		}
		return p
	}
	// The root has nine blocks of entries.
	for _, more := range []int{0, 1} {
		s := heavy(1988 + more).State
		name := fmt.Sprint(more, " blocks more")
		want := 36 + 133*136 + (1997+more)*516
		if stream := streamOf(impl.NewState(), s); len(stream) != want || (want == impl.MaxStream) != (more == 0) {
			t.Fatalf("%s: the test's own stream has %d bytes", name, len(stream))
		}
		m := thrifty(2048, s)
		if more > 0 {
			refusedWith(t, name, m, impl.ErrLarge, sending("", ""))
			continue
		}
		out := codesAre(t, name, m, []impl.Op{sending("", "")}, 0)
		if out.Answers[0].N != impl.MaxStream {
			t.Errorf("%s: %s", name, tellAns(out.Answers[0]))
		}
		// So much has no place on a volume that has nothing of it.
		refusedWith(t, name, made(t, 2048, 0, 0), impl.ErrNoSpace, receiving(out.Answers[0].Data))
	}
	// Blocks that become zeros are sent, but take no place.
	for more, code := range map[int]int{0: impl.OK, 1: impl.ErrLarge} {
		p := heavy(1997 + more)
		s := copyOf(p.State)
		for number := 2; number < 6; number++ {
			p.Nodes[number].Data = make([]byte, len(p.Nodes[number].Data))
		}
		for number := 6; number < 6+129 && number < len(p.Nodes); number++ {
			p.Nodes[number].Mode = 0
		}
		p.Nodes[1].Mode = 0
		stream := streamOf(s, p.State)
		if len(stream) != 36+133*136+(1997+more)*516 {
			t.Fatalf("the test's own stream has %d bytes", len(stream))
		}
		m := thrifty(2048, s)
		name := fmt.Sprint(more, " blocks of zeros more")
		if code != impl.OK {
			refusedWith(t, name, m, code, receiving(stream))
			continue
		}
		out := codesAre(t, name, m, []impl.Op{receiving(stream)}, 0)
		sameTree(t, name, p.State, stateOf(t, name, out.Machine))
	}
}

// Promise 21: a stream is refused for space just where Room says so, with what it must
// leave, more and less; what it takes away gives nothing back ahead of its point.
func TestRoomForAStream(t *testing.T) {
	t.Parallel()
	seen := map[int]int{}
	for log, snapshot := range map[int]bool{0: true, 65536: false} {
		l := newLarder(t, log, 0, snapshot)
		for _, room := range []int{0, 11, 12, 13, 14, 15, 20} {
			ahead := l.squeezed(room)
			_, b := plainRun(l.m, ahead)
			last := crumb(crumbs - 1)
			for name, changes := range map[string][]impl.Op{
				"nothing": nil, "a mode": {on(impl.OpChmod, "/f", 0)}, "a block": {writing("/f", 0, "new")}, "two blocks": {writing("/f", 0, "new"), writing("/f", 600, "new")}, "five blocks": {writing("/f", 0, letters(2500)), writing("/f", 9, "other")},
				"taking away": {on(impl.OpUnlink, last+"/a"), on(impl.OpUnlink, last+"/b"), on(impl.OpRmdir, last)}, "all goes": {on(impl.OpTruncate, "/fill", 0), on(impl.OpTruncate, "/f", 0)}, "a new file": {on(impl.OpCreate, last+"/c", 0)},
			} {
				name = fmt.Sprintf("room for %d, log %d, snapshot %v: %s", room, log, snapshot, name)
				next := keeper{s: b.s}.following(changes...).s
				left, code := plainRoom(b.image(), next)
				if code != impl.OK {
					t.Fatalf("%s: Room, code %d", name, code)
				}
				op := receiving(streamOf(b.s, next))
				seen[left]++
				if left < impl.Slack {
					refusedWith(t, name, l.m, impl.ErrNoSpace, append(slices.Clone(ahead), op)...)
					continue
				}
				out := codesAre(t, name, l.m, append(slices.Clone(ahead), op, statfs, point))
				if n := len(ahead); out.Answers[n].Code != impl.OK || out.Answers[n+1].Usage.Fresh != 0 || out.Answers[n+2].Code != impl.OK {
					t.Errorf("%s: %s, %s", name, tellAns(out.Answers[n]), tellAns(out.Answers[n+1]))
				}
				l.held.following(append(slices.Clone(ahead), op)...).mountsAs(t, name, out.Machine)
			}
		}
	}
	for _, left := range []int{11, 12, 13} {
		if seen[left] < 4 {
			t.Errorf("a room of %d was left only %d times", left, seen[left])
		}
	}
}

// deliveries are Receives in whose consistency point the power fails: without a log, with
// one and with one that is full.
func deliveries(t *testing.T) []venture {
	t.Helper()
	list := []venture{}
	for _, log := range []int{0, 8192, -8192} {
		m, k := album(t, 100, 0, max(log, -log))
		ahead := []impl.Op{writing("/hard", 600, "not yet safe"), on(impl.OpMkdir, "/late", 0o755), on(impl.OpUnlink, "/d/mine")}
		if log < 0 {
			// So much that the log has hardly a byte left.
			ahead = append(ahead, writing("/hard", 0, letters(4090)), writing("/d/f", 8000, letters(3830)))
		}
		begun := k.following(ahead...)
		for name, goal := range map[string]impl.State{
			"another file": begun.following(on(impl.OpCreate, "/late/f", 0o644), writing("/late/f", 0, letters(1500)), on(impl.OpUnlink, "/hard")).s, "a snapshot": k.snaps["one"], "nothing new": begun.s, "a new volume": impl.NewState(),
			"another Clock": withClock(begun.s, 1<<39),
		} {
			v := venture{name: fmt.Sprint(name, ", log ", log), m: m, ahead: ahead, op: receiving(streamOf(begun.s, goal)), safe: k, begun: begun}
			v.done = v.begun.behind(v.op)
			ops := append(slices.Clone(ahead), v.op)
			codesAre(t, v.name, m, ops, slices.Repeat([]int{0}, len(ops))...)
			v.all = sectorsOf(t, m, ops)
			// However full the log is, no point comes ahead of its own.
			if begun, own := infoOf(t, v.name, impl.Run(m, ahead).Machine).Gen, infoOf(t, v.name, impl.Run(m, ops).Machine).Gen; begun != infoOf(t, v.name, m).Gen || own != begun+1 {
				t.Fatalf("%s: Gen %d, then %d", v.name, begun, own)
			}
			list = append(list, v)
		}
	}
	return list
}

// kept is what must be held behind a crash when so many sectors of a Receive's point were
// written: all of it or nothing, and what was done ahead if there is a log.
func (v venture) kept(sectors int) keeper {
	switch {
	case sectors >= v.all-4:
		return v.done
	case infoLog(v.m) > 0:
		return v.begun
	}
	return v.safe
}

// Promises 16, 17 and 18 of a Receive: the power fails at every sector write of its
// consistency point, whatever survives.
func TestCrashesInReceiving(t *testing.T) {
	t.Parallel()
	random := rand.New(rand.NewSource(243))
	for _, v := range deliveries(t) {
		for sectors := range v.all + 2 {
			for _, choice := range [][]byte{nil, bytes.Repeat([]byte{255}, 40), anyChoice(random)} {
				name := fmt.Sprintf("%s, %d of %d sector writes, choice %.4x", v.name, sectors, v.all, choice)
				ops := append(slices.Clone(v.ahead), fuseOf(sectors), v.op, crashOf(0, choice...))
				n := len(ops)
				ops = append(ops, glimpses()...)
				out := impl.Run(v.m, ops)
				if len(choice) == 0 {
					out = codesAre(t, name, v.m, ops)
				}
				code := impl.ErrPower
				if sectors >= v.all {
					code = impl.OK
				}
				if !sameAns(out.Answers[n-2], impl.Ans{Code: code}) || out.Answers[n-1].Code != impl.OK {
					t.Errorf("%s: %s, then %s", name, tellAns(out.Answers[n-2]), tellAns(out.Answers[n-1]))
				}
				held := v.kept(sectors)
				held.glimpsed(t, name, out.Answers[n:])
				held.mountsAs(t, name, out.Machine)
				if t.Failed() {
					return
				}
			}
		}
	}
}

// The run ends in it, or right behind it, and mounting fails again and again before it is
// done.
func TestMountingBehindAReceive(t *testing.T) {
	t.Parallel()
	random := rand.New(rand.NewSource(244))
	for _, v := range deliveries(t) {
		for sectors := 0; sectors < v.all+2; sectors += 1 + random.Intn(3) {
			name := fmt.Sprintf("%s, %d of %d sector writes", v.name, sectors, v.all)
			begun := append(slices.Clone(v.ahead), fuseOf(sectors), v.op)
			v.kept(sectors).mountsAs(t, name, codesAre(t, name, v.m, begun).Machine)
			for range 3 {
				ops := slices.Clone(begun)
				for range 1 + random.Intn(3) {
					ops = append(ops, crashOf(1+random.Intn(30), anyChoice(random)...))
				}
				out := codesAre(t, name, v.m, append(ops, crashOf(0, anyChoice(random)...)))
				if last := out.Answers[len(ops)]; last.Code != impl.OK {
					t.Errorf("%s: %s", name, tellAns(last))
				}
				v.kept(sectors).mountsAs(t, name, out.Machine)
			}
			if t.Failed() {
				return
			}
		}
	}
}

// What is done behind a Receive stands in the log with the numbers that follow, and is done
// again behind a crash.
func TestOperationsBehindAReceive(t *testing.T) {
	m, k := album(t, 100, 0, 8192)
	ahead := []impl.Op{on(impl.OpMkdir, "/late", 0o755), writing("/hard", 0, "again")}
	begun := k.following(ahead...)
	op := receiving(streamOf(begun.s, withClock(begun.following(on(impl.OpCreate, "/late/f", 0o644)).s, 500)))
	behind := []impl.Op{writing("/late/f", 0, "behind"), on(impl.OpUnlink, "/hard"), taking("three"), on(impl.OpMkdir, "/more", 0)}
	f := infoOf(t, "begun", m)
	all := slices.Concat(ahead, []impl.Op{op}, behind)
	out := codesAre(t, "behind", m, all, slices.Repeat([]int{0}, len(all))...)
	leftAs(t, "behind", out, f.Gen+2, f.Ops+6, len(plainRecord(1, behind[3])))
	if list := plainScan(out.Machine.Log); len(list) != 1 || list[0].Number != f.Ops+7 {
		t.Errorf("behind: %s", tellEntries(list))
	}
	k.following(all...).mountsAs(t, "behind", out.Machine)
	for n := range behind {
		ops := append(slices.Clone(all[:len(ahead)+2+n]), crashOf(0, 255, 255), statfs)
		out := codesAre(t, "crashed", m, ops, slices.Repeat([]int{0}, len(ops))...)
		if u := out.Answers[len(ops)-1].Usage; u.Ops != f.Ops+len(ops)-2 || u.Clock != 501+1+n {
			t.Errorf("crashed behind %d: %v", n, u)
		}
		k.following(all[:len(ahead)+2+n]...).mountsAs(t, "crashed", out.Machine)
	}
}

// Promise 18: what is received reaches no snapshot, and snapshots of what was received are
// what it was.
func TestSnapshotsAndReceiving(t *testing.T) {
	for _, log := range []int{0, 8192} {
		m, k := album(t, 100, 0, log)
		goal := grove().State
		ops := []impl.Op{receiving(streamOf(k.s, goal)), taking("three"), on(impl.OpUnlink, "/d/f")}
		ops = append(ops, receiving(streamOf(k.following(ops...).s, k.snaps["two"])), restoring("three"), restoring("one"))
		held := k.following(ops...)
		// "two" is the state that the last stream had: from there to the restored one.
		ops = append(ops, receiving(streamOf(k.snaps["one"], k.snaps["two"])), dropping("one"), receiving(streamOf(k.snaps["two"], impl.NewState())), dropping("two"), receiving(streamOf(impl.NewState(), goal)))
		out := codesAre(t, "snapshots", m, append(slices.Clone(ops), glimpses()...), slices.Repeat([]int{0}, len(ops))...)
		held = k.following(ops...)
		held.glimpsed(t, "snapshots", out.Answers[len(ops):])
		held.mountsAs(t, "snapshots", out.Machine)
		sameTree(t, "snapshots", goal, stateOf(t, "snapshots", out.Machine))
		sameTree(t, "snapshots", goal, held.snaps["three"])
		emptied(t, "snapshots", out.Machine, true)
	}
}

// keepsUp lets a mirror follow its original by the stream between two of its snapshots, and
// asks that paths and files are the same.
func keepsUp(t *testing.T, name string, original, mirror impl.Machine, from, to string) impl.Machine {
	t.Helper()
	out := impl.Run(original, []impl.Op{sending(from, to)})
	if out.Answers[0].Code != impl.OK {
		t.Fatalf("%s: sent, %s", name, tellAns(out.Answers[0]))
	}
	got := codesAre(t, name, mirror, []impl.Op{receiving(out.Answers[0].Data)}, 0).Machine
	s, code := impl.LoadSnap(original.Disk, to)
	if code != impl.OK {
		t.Fatalf("%s: the snapshot, code %d", name, code)
	}
	sameTree(t, name, s, stateOf(t, name, got))
	// And what is asked through paths, there below the snapshot and here.
	there, here := impl.Run(original, looks(s, "/.snapshot/"+to)), impl.Run(got, looks(s, ""))
	if !slices.EqualFunc(there.Answers, here.Answers, sameAns) {
		t.Errorf("%s: paths are answered in another way", name)
	}
	soundMap(t, name, got)
	return got
}

// Promise 24: volumes that mirror another one through several streams, one behind the
// other, with other sizes and logs, and snapshots of their own.
func TestMirrors(t *testing.T) {
	t.Parallel()
	random := rand.New(rand.NewSource(245))
	for round := range 12 {
		original := made(t, []int{200, 300, 2048}[random.Intn(3)], 0, []int{0, 8192, 65536}[random.Intn(3)])
		mirrors := []impl.Machine{made(t, 300, 0, 0), made(t, 400, 2, 8192), made(t, 1600, 0, 65536)}
		last := ""
		for step := range 6 {
			name := fmt.Sprint("round ", round, ", step ", step)
			_, b := plainRun(original, nil)
			ops := []impl.Op{}
			for range 25 {
				op := anyMachineOp(random, b.s, false)
				if op.Kind < impl.OpMkdir || op.Kind > impl.OpChown {
					op = anyLinkOp(random, b.s)
				}
				op.Uid, op.Gid = 0, 0
				b.answer(op)
				ops = append(ops, op)
			}
			next := fmt.Sprint("m", step)
			if step > 2 {
				ops = append(ops, dropping(fmt.Sprint("m", step-3)))
			}
			out := impl.Run(original, append(ops, taking(next)))
			if out.Answers[len(out.Answers)-1].Code != impl.OK {
				break
			}
			original = out.Machine
			for k := range mirrors {
				here := fmt.Sprint(name, ", mirror ", k)
				if k == 1 {
					// Its own snapshot, a change, and back again: then it may go on.
					ahead := []impl.Op{taking("own" + next), on(impl.OpMkdir, "/own", 0), on(impl.OpCreate, "/mine", 0), crashOf(0, 7), restoring("own" + next), dropping("own" + next)}
					mirrors[k] = codesAre(t, here, mirrors[k], ahead, slices.Repeat([]int{0}, len(ahead))...).Machine
				}
				mirrors[k] = keepsUp(t, here, original, mirrors[k], last, next)
			}
			last = next
			if t.Failed() {
				return
			}
		}
		// A stream of all at once makes the same of a new volume, and each mirror is now a
		// mirror of the others.
		sent := impl.Run(original, []impl.Op{sending("", last)})
		once := codesAre(t, "at once", made(t, 1000, 0, 0), []impl.Op{receiving(sent.Answers[0].Data)}, 0).Machine
		for k, mirror := range mirrors {
			name := fmt.Sprint("round ", round, ", mirror ", k)
			sameTree(t, name, stateOf(t, name, once), stateOf(t, name, mirror))
			back := impl.Run(mirror, []impl.Op{on(impl.OpMkdir, "/turned", 0o755), taking("back"), sending(last, "back"), sending("", "back")})
			if back.Answers[2].Code != impl.ErrNoEnt || back.Answers[3].Code != impl.OK {
				t.Errorf("%s: %s, %s", name, tellAns(back.Answers[2]), tellAns(back.Answers[3]))
			}
			refusedWith(t, name, once, impl.ErrStale, receiving(back.Answers[3].Data))
		}
	}
}

// A mirror whose state is another one finds the stream stale until it is brought back.
func TestAMirrorThatWentAstray(t *testing.T) {
	original := made(t, 100, 0, 8192)
	out := codesAre(t, "original", original, []impl.Op{on(impl.OpCreate, "/f", 0o644), writing("/f", 0, "one"), taking("one"), writing("/f", 0, "two"), taking("two"), sending("", "one"), sending("one", "two"), sending("two", "one")}, 0, 0, 0, 0, 0, 0, 0, 0)
	first, second, back := out.Answers[5].Data, out.Answers[6].Data, out.Answers[7].Data
	for _, log := range []int{0, 8192} {
		mirror := made(t, 64, 0, log)
		got := codesAre(t, "astray", mirror, []impl.Op{
			receiving(second), receiving(first), taking("one"), on(impl.OpChmod, "/f", 0), receiving(second), on(impl.OpChmod, "/f", 0o644), receiving(second),
			restoring("one"), receiving(second), on(impl.OpRead, "/f", 0, 9), receiving(back), on(impl.OpRead, "/f", 0, 9), receiving(second), receiving(second), on(impl.OpRead, "/.snapshot/one/f", 0, 9),
		}, impl.ErrStale, 0, 0, 0, impl.ErrStale, 0, impl.ErrStale, 0, 0, 0, 0, 0, 0, impl.ErrStale, 0)
		// The mode was the same again, but the time of the change wasn't.
		if string(got.Answers[9].Data) != "two" || string(got.Answers[11].Data) != "one" || string(got.Answers[14].Data) != "one" {
			t.Errorf("astray: %q, %q, %q", got.Answers[9].Data, got.Answers[11].Data, got.Answers[14].Data)
		}
		// The Clock went on with each: so did the times of what is done here.
		more := codesAre(t, "astray", got.Machine, []impl.Op{statfs, on(impl.OpMkdir, "/d", 0o755), on(impl.OpStat, "/d"), on(impl.OpStat, "/f")}, 0, 0, 0, 0)
		if u, d, f := more.Answers[0].Usage, more.Answers[2].Stat, more.Answers[3].Stat; d.Gen != u.Clock+1 || f.Mtime > u.Clock || u.Clock < 12 {
			t.Errorf("astray: %v, %v, %v", u, d, f)
		}
		soundMap(t, "astray", more.Machine)
	}
}
