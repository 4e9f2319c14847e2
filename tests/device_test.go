package tests

import (
	"bytes"
	"math"
	"math/rand"
	"testing"

	"loop.example/s02533/impl"
)

const blocks = impl.MinBlocks

func blank(n int) []byte { return make([]byte, n*impl.BlockSize) }

func filled(c byte) []byte { return bytes.Repeat([]byte{c}, impl.BlockSize) }

func write(block int, c byte) impl.DiskOp {
	return impl.DiskOp{Kind: impl.DiskWrite, A: block, Data: filled(c)}
}

func read(block int) impl.DiskOp { return impl.DiskOp{Kind: impl.DiskRead, A: block} }

func fuse(n int) impl.DiskOp { return impl.DiskOp{Kind: impl.DiskFuse, A: n} }

func crash(choice ...byte) impl.DiskOp {
	return impl.DiskOp{Kind: impl.DiskCrash, Data: choice}
}

var barrier = impl.DiskOp{Kind: impl.DiskBarrier}

// sectorsRead tells a block by the first byte of each of its sectors, and '?'
// for a sector that isn't all of one byte.
func sectorsRead(block []byte) string {
	out := ""
	for at := 0; at+impl.SectorSize <= len(block); at += impl.SectorSize {
		s := block[at : at+impl.SectorSize]
		c := s[0]
		if !bytes.Equal(s, bytes.Repeat([]byte{c}, impl.SectorSize)) {
			c = '?'
		} else if c == 0 {
			c = '.'
		}
		out += string(rune(c))
	}
	return out
}

func blockOf(image []byte, b int) string {
	return sectorsRead(image[b*impl.BlockSize : (b+1)*impl.BlockSize])
}

// run asks for the codes of the answers, and that an answer without Data has none.
func run(t *testing.T, name string, ops []impl.DiskOp, codes ...int) impl.DiskOut {
	t.Helper()
	out := impl.DiskRun(blank(blocks), ops)
	if out.Code != impl.OK || len(out.Answers) != len(ops) || len(codes) != len(ops) {
		t.Fatalf("%s: code %d, %d answers for %d operations", name, out.Code, len(out.Answers), len(ops))
	}
	for i, a := range out.Answers {
		if a.Code != codes[i] {
			t.Errorf("%s: operation %d: code %d, want %d", name, i, a.Code, codes[i])
		}
		if hasData := a.Code == impl.OK && ops[i].Kind == impl.DiskRead; hasData != (len(a.Data) == impl.BlockSize) || !hasData && len(a.Data) != 0 {
			t.Errorf("%s: operation %d: %d bytes of data", name, i, len(a.Data))
		}
	}
	return out
}

func refused(t *testing.T, name string, out impl.DiskOut, code int) {
	t.Helper()
	if out.Code != code || len(out.Answers) != 0 || len(out.Image) != 0 || len(out.Seen) != 0 || out.Cached != 0 {
		t.Errorf("%s: code %d, want %d and nothing else", name, out.Code, code)
	}
}

func TestDiskImageSizes(t *testing.T) {
	for _, n := range []int{impl.MinBlocks, impl.MinBlocks + 1, impl.MaxBlocks} {
		image := blank(n)
		image[len(image)-1] = 7
		out := impl.DiskRun(image, nil)
		if out.Code != impl.OK || !bytes.Equal(out.Image, image) || !bytes.Equal(out.Seen, image) || len(out.Answers) != 0 || out.Cached != 0 {
			t.Errorf("%d blocks: code %d", n, out.Code)
		}
	}
	for _, size := range []int{0, 1, impl.BlockSize, (impl.MinBlocks - 1) * impl.BlockSize, impl.MinBlocks*impl.BlockSize - 1, impl.MinBlocks*impl.BlockSize + 1,
		impl.MinBlocks*impl.BlockSize + impl.SectorSize, impl.MaxBlocks*impl.BlockSize - 1, impl.MaxBlocks*impl.BlockSize + 1, (impl.MaxBlocks + 1) * impl.BlockSize} {
		refused(t, "an image of wrong size", impl.DiskRun(make([]byte, size), []impl.DiskOp{read(0)}), impl.ErrInval)
	}
	refused(t, "no image", impl.DiskRun(nil, nil), impl.ErrInval)
}

func TestDiskManyOperations(t *testing.T) {
	many := make([]impl.DiskOp, impl.MaxDiskOps+1)
	for i := range many {
		many[i] = write(i%blocks, byte(i))
	}
	out := impl.DiskRun(blank(blocks), many[1:])
	if out.Code != impl.OK || len(out.Answers) != impl.MaxDiskOps || out.Cached != 4*impl.MaxDiskOps {
		t.Errorf("as many as allowed: code %d, %d answers, %d cached", out.Code, len(out.Answers), out.Cached)
	}
	refused(t, "one more", impl.DiskRun(blank(blocks), many), impl.ErrLarge)
	refused(t, "the image is looked at first", impl.DiskRun(blank(blocks-1), many), impl.ErrInval)
}

func TestDiskBlocksThatAreNotThere(t *testing.T) {
	for _, b := range []int{-1, blocks, blocks + 1, math.MinInt, math.MaxInt, math.MaxInt / 4, math.MaxInt/4 + 1, math.MaxInt/512 + 1} {
		out := run(t, "not there", []impl.DiskOp{read(b), write(b, 'a'), {Kind: impl.DiskWrite, A: b}},
			impl.ErrRange, impl.ErrRange, impl.ErrRange)
		if out.Cached != 0 || !bytes.Equal(out.Seen, blank(blocks)) {
			t.Errorf("block %d: something was written", b)
		}
	}
	out := run(t, "first and last", []impl.DiskOp{write(0, 'a'), write(blocks-1, 'b'), read(0), read(blocks - 1)}, 0, 0, 0, 0)
	if sectorsRead(out.Answers[2].Data) != "aaaa" || sectorsRead(out.Answers[3].Data) != "bbbb" || out.Cached != 8 {
		t.Errorf("first and last block")
	}
}

func TestDiskWriteOfWrongLength(t *testing.T) {
	for _, n := range []int{0, 1, impl.SectorSize, impl.BlockSize - 1, impl.BlockSize + 1, 2 * impl.BlockSize} {
		ops := []impl.DiskOp{fuse(0), {Kind: impl.DiskWrite, A: 3, Data: make([]byte, n)}, read(3)}
		out := run(t, "wrong length", ops, 0, impl.ErrInval, 0)
		if out.Cached != 0 {
			t.Errorf("%d bytes: %d cached", n, out.Cached)
		}
	}
}

func TestDiskUnknownKinds(t *testing.T) {
	for _, k := range []int{0, 6, -1, 7, 256 + 1, math.MinInt, math.MaxInt} {
		run(t, "unknown kind", []impl.DiskOp{{Kind: k, A: 3, Data: filled('a')}, read(3)}, impl.ErrKind, 0)
	}
}

func TestDiskCacheAndBarrier(t *testing.T) {
	ops := []impl.DiskOp{write(3, 'a'), write(3, 'b'), write(4, 'c'), read(3)}
	out := run(t, "cached", ops, 0, 0, 0, 0)
	if sectorsRead(out.Answers[3].Data) != "bbbb" || out.Cached != 12 {
		t.Errorf("cached: %s, %d", sectorsRead(out.Answers[3].Data), out.Cached)
	}
	if !bytes.Equal(out.Image, blank(blocks)) || blockOf(out.Seen, 3) != "bbbb" || blockOf(out.Seen, 4) != "cccc" {
		t.Errorf("the image isn't written ahead of a barrier, and is seen so")
	}
	out = run(t, "barrier", append(ops, barrier, crash(), read(3)), 0, 0, 0, 0, 0, 0, 0)
	if blockOf(out.Image, 3) != "bbbb" || blockOf(out.Image, 4) != "cccc" || out.Cached != 0 || !bytes.Equal(out.Image, out.Seen) {
		t.Errorf("behind the barrier: %s %s", blockOf(out.Image, 3), blockOf(out.Image, 4))
	}
	// A write of what is there already is a write.
	out = run(t, "the same again", []impl.DiskOp{write(3, 0), fuse(0), write(3, 0)}, 0, 0, impl.ErrPower)
	if out.Cached != 4 {
		t.Errorf("the same again: %d cached", out.Cached)
	}
}

// Each length of the fuse against two writes of four sectors.
func TestDiskFuseRunsOut(t *testing.T) {
	for k := 0; k <= 9; k++ {
		codes := []int{0, 0, 0, impl.ErrPower}
		switch {
		case k < 4:
			codes = []int{0, impl.ErrPower, impl.ErrPower, impl.ErrPower}
		case k < 8:
			codes = []int{0, 0, impl.ErrPower, impl.ErrPower}
		}
		out := run(t, "fuse", []impl.DiskOp{fuse(k), write(3, 'a'), write(4, 'b'), write(5, 'c')}, codes...)
		if out.Cached != k {
			t.Errorf("fuse %d: %d cached", k, out.Cached)
		}
		want := ("aaaabbbbcccc"[:k] + "............")[:12]
		if got := blockOf(out.Seen, 3) + blockOf(out.Seen, 4) + blockOf(out.Seen, 5); got != want {
			t.Errorf("fuse %d: %s, want %s", k, got, want)
		}
		if !bytes.Equal(out.Image, blank(blocks)) {
			t.Errorf("fuse %d: the image is written", k)
		}
	}
}

func TestDiskFuseJustZero(t *testing.T) {
	ops := []impl.DiskOp{fuse(4), write(3, 'a'), read(3), barrier, {Kind: 9}, write(3, 'b'), read(3)}
	out := run(t, "just 0", ops, 0, 0, 0, 0, impl.ErrKind, impl.ErrPower, impl.ErrPower)
	if blockOf(out.Image, 3) != "aaaa" || out.Cached != 0 {
		t.Errorf("just 0: %s, %d cached", blockOf(out.Image, 3), out.Cached)
	}
}

func TestDiskFuseIsSetAnew(t *testing.T) {
	for _, n := range []int{-1, -2, math.MinInt, math.MaxInt} {
		out := run(t, "any number", []impl.DiskOp{fuse(0), fuse(n), write(3, 'a'), write(4, 'b')}, 0, 0, 0, 0)
		if out.Cached != 8 {
			t.Errorf("fuse %d: %d cached", n, out.Cached)
		}
	}
	out := run(t, "the last fuse counts", []impl.DiskOp{fuse(1), fuse(6), write(3, 'a'), fuse(3), write(4, 'b')}, 0, 0, 0, 0, impl.ErrPower)
	if out.Cached != 7 {
		t.Errorf("the last fuse counts: %d cached", out.Cached)
	}
	out = run(t, "refused writes and barriers leave it", []impl.DiskOp{fuse(4), write(-1, 'a'), {Kind: impl.DiskWrite, A: 1}, barrier, read(1), write(3, 'a')}, 0, impl.ErrRange, impl.ErrInval, 0, 0, 0)
	if out.Cached != 4 {
		t.Errorf("refused writes: %d cached", out.Cached)
	}
}

func TestDiskPowerIsOff(t *testing.T) {
	ops := []impl.DiskOp{write(2, 'x'), fuse(2), write(3, 'a'), // off
		read(3), read(-1), write(4, 'b'), {Kind: impl.DiskWrite, A: -1}, barrier, {Kind: 0}, {Kind: 77},
		fuse(100), write(4, 'b'), fuse(-1), read(0)}
	p := impl.ErrPower
	codes := []int{0, 0, p, p, p, p, p, p, p, p, 0, p, 0, p}
	out := run(t, "off", ops, codes...)
	if out.Cached != 6 || blockOf(out.Seen, 2) != "xxxx" || blockOf(out.Seen, 3) != "aa.." || !bytes.Equal(out.Image, blank(blocks)) {
		t.Errorf("off: %d cached, %s %s", out.Cached, blockOf(out.Seen, 2), blockOf(out.Seen, 3))
	}
	// The fuse that was set while the power was off is gone behind the crash.
	out = run(t, "on", append(ops, fuse(1), crash(0x31), write(4, 'b'), write(5, 'c'), read(3)), append(codes, 0, 0, 0, 0, 0)...)
	if blockOf(out.Image, 2) != "x..." || blockOf(out.Image, 3) != "aa.." || out.Cached != 8 || blockOf(out.Seen, 5) != "cccc" {
		t.Errorf("on: %s %s, %d cached", blockOf(out.Image, 2), blockOf(out.Image, 3), out.Cached)
	}
}

func TestDiskCrashTakesTheFuse(t *testing.T) {
	out := run(t, "crash", []impl.DiskOp{fuse(1), crash(), write(3, 'a'), crash(0xff), read(3)}, 0, 0, 0, 0, 0)
	if sectorsRead(out.Answers[4].Data) != "aaaa" {
		t.Errorf("behind the crashes: %s", sectorsRead(out.Answers[4].Data))
	}
}

// Every choice of one bit keeps just that sector write, from the first byte's
// lowest bit on.
func TestDiskCrashKeepsWhatIsChosen(t *testing.T) {
	ops := []impl.DiskOp{write(3, 'a'), write(4, 'b'), write(5, 'c')}
	for bit := 0; bit < 16; bit++ {
		choice := make([]byte, 2)
		choice[bit/8] = 1 << (bit % 8)
		out := run(t, "one bit", append(ops, crash(choice...)), 0, 0, 0, 0)
		want := []byte("............")
		if bit < 12 {
			want[bit] = "aaaabbbbcccc"[bit]
		}
		if got := blockOf(out.Image, 3) + blockOf(out.Image, 4) + blockOf(out.Image, 5); got != string(want) {
			t.Errorf("bit %d: %s, want %s", bit, got, want)
		}
		if out.Cached != 0 || !bytes.Equal(out.Image, out.Seen) {
			t.Errorf("bit %d: %d cached", bit, out.Cached)
		}
	}
	out := run(t, "a short choice", append(ops, crash(0xff)), 0, 0, 0, 0)
	if blockOf(out.Image, 4) != "bbbb" || blockOf(out.Image, 5) != "...." {
		t.Errorf("a short choice: %s %s", blockOf(out.Image, 4), blockOf(out.Image, 5))
	}
	out = run(t, "no choice", append(ops, crash()), 0, 0, 0, 0)
	if !bytes.Equal(out.Image, blank(blocks)) || !bytes.Equal(out.Seen, blank(blocks)) {
		t.Errorf("no choice: something is left")
	}
	out = run(t, "a long choice", append(ops, crash(0xff, 0xff, 0xff, 0xff)), 0, 0, 0, 0)
	if blockOf(out.Image, 5) != "cccc" {
		t.Errorf("a long choice: %s", blockOf(out.Image, 5))
	}
}

// Of two writes to a sector the newer one that survives stands, and an older
// one shows again where the newer is lost.
func TestDiskCrashOverlaps(t *testing.T) {
	ops := []impl.DiskOp{write(3, 'z'), barrier, write(3, 'a'), write(3, 'b')}
	// a survives in sectors 0 and 1, b in 1 and 2.
	out := run(t, "overlap", append(ops, crash(0b0110_0011), read(3)), 0, 0, 0, 0, 0, 0)
	if got := sectorsRead(out.Answers[5].Data); got != "abbz" {
		t.Errorf("overlap: %s", got)
	}
}

func TestDiskLeavesArgumentsAlone(t *testing.T) {
	image := blank(blocks)
	data := filled('a')
	choice := []byte{0x55}
	ops := []impl.DiskOp{{Kind: impl.DiskWrite, A: 3, Data: data}, read(3), read(3), {Kind: impl.DiskCrash, Data: choice}, barrier}
	out := impl.DiskRun(image, ops)
	if !bytes.Equal(image, blank(blocks)) || !bytes.Equal(data, filled('a')) || choice[0] != 0x55 {
		t.Fatalf("an argument is changed")
	}
	lists := [][]byte{out.Answers[1].Data, out.Answers[2].Data, out.Image, out.Seen, image, data}
	for i, one := range lists {
		before := make([][]byte, len(lists))
		for j := range lists {
			before[j] = bytes.Clone(lists[j])
		}
		for k := range one {
			one[k] ^= 0xff
		}
		for j := range lists {
			if j != i && !bytes.Equal(lists[j], before[j]) {
				t.Errorf("lists %d and %d share memory", i, j)
			}
		}
	}
}

// plainDevice is the device as the document tells it, without any short cut.
type plainDevice struct {
	image []byte
	at    []int
	data  [][]byte
	fuse  int
	off   bool
}

func (d *plainDevice) seen() []byte {
	out := bytes.Clone(d.image)
	for i, at := range d.at {
		copy(out[at:], d.data[i])
	}
	return out
}

func (d *plainDevice) keep(choose func(int) bool) {
	for i, at := range d.at {
		if choose(i) {
			copy(d.image[at:], d.data[i])
		}
	}
	d.at, d.data = nil, nil
}

func (d *plainDevice) write(op impl.DiskOp) int {
	if op.A < 0 || op.A >= len(d.image)/impl.BlockSize {
		return impl.ErrRange
	}
	if len(op.Data) != impl.BlockSize {
		return impl.ErrInval
	}
	for s := 0; s < 4; s++ {
		if d.fuse == 0 {
			d.off = true
			return impl.ErrPower
		}
		d.fuse--
		d.at = append(d.at, op.A*impl.BlockSize+s*impl.SectorSize)
		d.data = append(d.data, op.Data[s*impl.SectorSize:(s+1)*impl.SectorSize])
	}
	return impl.OK
}

func (d *plainDevice) do(op impl.DiskOp) impl.DiskAns {
	if d.off && op.Kind != impl.DiskFuse && op.Kind != impl.DiskCrash {
		return impl.DiskAns{Code: impl.ErrPower}
	}
	switch op.Kind {
	case impl.DiskRead:
		if op.A < 0 || op.A >= len(d.image)/impl.BlockSize {
			return impl.DiskAns{Code: impl.ErrRange}
		}
		return impl.DiskAns{Data: d.seen()[op.A*impl.BlockSize:][:impl.BlockSize]}
	case impl.DiskWrite:
		return impl.DiskAns{Code: d.write(op)}
	case impl.DiskBarrier:
		d.keep(func(int) bool { return true })
	case impl.DiskFuse:
		d.fuse = op.A
	case impl.DiskCrash:
		d.keep(func(i int) bool { return i/8 < len(op.Data) && op.Data[i/8]&(1<<(i%8)) != 0 })
		d.fuse, d.off = -1, false
	default:
		return impl.DiskAns{Code: impl.ErrKind}
	}
	return impl.DiskAns{}
}

func anyDiskOp(r *rand.Rand) impl.DiskOp {
	op := impl.DiskOp{A: r.Intn(6)}
	switch k := r.Intn(100); {
	case k < 30:
		op.Kind = impl.DiskRead
	case k < 70:
		op.Kind = impl.DiskWrite
		op.Data = make([]byte, impl.BlockSize)
		r.Read(op.Data)
	case k < 78:
		op.Kind = impl.DiskBarrier
	case k < 88:
		op.Kind, op.A = impl.DiskFuse, r.Intn(20)-3
	case k < 97:
		op.Kind = impl.DiskCrash
		op.Data = make([]byte, r.Intn(6))
		r.Read(op.Data)
	default:
		op.Kind, op.A = r.Intn(9)-1, r.Intn(2*blocks)-blocks/2
	}
	return op
}

func TestDiskAnswersAsTheDocumentSays(t *testing.T) {
	for seed := int64(0); seed < 60; seed++ {
		r := rand.New(rand.NewSource(seed))
		image := blank(blocks)
		r.Read(image)
		ops := make([]impl.DiskOp, r.Intn(120))
		for i := range ops {
			ops[i] = anyDiskOp(r)
		}
		plain := &plainDevice{image: bytes.Clone(image), fuse: -1}
		out := impl.DiskRun(image, ops)
		if out.Code != impl.OK || len(out.Answers) != len(ops) {
			t.Fatalf("seed %d: code %d", seed, out.Code)
		}
		for i, op := range ops {
			want := plain.do(op)
			if got := out.Answers[i]; got.Code != want.Code || !bytes.Equal(got.Data, want.Data) {
				t.Fatalf("seed %d, operation %d (kind %d): code %d, want %d, or other bytes", seed, i, op.Kind, got.Code, want.Code)
			}
		}
		if !bytes.Equal(out.Image, plain.image) || !bytes.Equal(out.Seen, plain.seen()) || out.Cached != len(plain.at) {
			t.Fatalf("seed %d: another end: %d cached, want %d", seed, out.Cached, len(plain.at))
		}
	}
}

// What was behind a barrier stands behind every crash, unless written since.
func TestDiskBarrierOutlivesCrashes(t *testing.T) {
	for choice := 0; choice < 256; choice++ {
		ops := []impl.DiskOp{write(3, 'a'), write(4, 'b'), barrier, fuse(6), write(4, 'c'), write(5, 'd'),
			crash(byte(choice)), read(3), write(6, 'e'), crash(), read(3), read(6)}
		p := impl.ErrPower
		out := run(t, "barrier and crash", ops, 0, 0, 0, 0, 0, p, 0, 0, 0, 0, 0, 0)
		want4, want5 := []byte("bbbb"), []byte("....")
		for s := 0; s < 4; s++ {
			if choice>>s&1 == 1 {
				want4[s] = 'c'
			}
			if s < 2 && choice>>(4+s)&1 == 1 {
				want5[s] = 'd'
			}
		}
		if sectorsRead(out.Answers[7].Data) != "aaaa" || sectorsRead(out.Answers[10].Data) != "aaaa" || sectorsRead(out.Answers[11].Data) != "...." {
			t.Errorf("choice %x: what was behind the barrier is lost", choice)
		}
		if blockOf(out.Image, 4) != string(want4) || blockOf(out.Image, 5) != string(want5) {
			t.Errorf("choice %x: %s %s, want %s %s", choice, blockOf(out.Image, 4), blockOf(out.Image, 5), want4, want5)
		}
	}
}
