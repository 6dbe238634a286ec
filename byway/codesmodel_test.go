package byway

import (
	"bytes"
	"cmp"
	"encoding/binary"
	"math/rand"
	"net/netip"
	"slices"
	"testing"

	"byway/api"
)

// fault is something that is wrong with some bytes. Of several the answer is
// the one of the least stage; there, of the least attribute; there, of the
// least error.
type fault struct {
	stage, attribute int
	e                api.Errno
}

// judge reads bytes a second time: it gathers all that is wrong with them.
type judge struct {
	faults []fault
	seen   []netip.Prefix
	count  int
}

func (j *judge) blame(stage, attribute int, e api.Errno) {
	j.faults = append(j.faults, fault{stage, attribute, e})
}

// answer gives the error that Decode must tell.
func (j *judge) answer() api.Errno {
	if len(j.faults) == 0 {
		return api.OK
	}
	return slices.MinFunc(j.faults, func(a, b fault) int {
		return cmp.Or(cmp.Compare(a.stage, b.stage), cmp.Compare(a.attribute, b.attribute), cmp.Compare(a.e, b.e))
	}).e
}

// part takes a length and what it counts from a buffer; false, if it isn't there.
func part(b *bytes.Buffer) (*bytes.Buffer, bool) {
	if b.Len() < 2 {
		return nil, false
	}
	size := int(binary.BigEndian.Uint16(b.Next(2)))
	if b.Len() < size {
		return nil, false
	}
	return bytes.NewBuffer(b.Next(size)), true
}

func (j *judge) nets(b *bytes.Buffer) {
	for b.Len() > 0 {
		length, _ := b.ReadByte()
		j.count++
		if length > 32 {
			j.blame(3, 0, api.ErrNet)
			continue
		}
		size := (int(length) + 7) / 8
		if b.Len() < size {
			j.blame(0, 0, api.ErrBody)
			return
		}
		quad := [4]byte{}
		copy(quad[:], b.Next(size))
		p := netip.PrefixFrom(netip.AddrFrom4(quad), int(length))
		if p != p.Masked() || slices.Contains(j.seen, p) {
			j.blame(3, 0, api.ErrNet)
		}
		j.seen = append(j.seen, p)
	}
}

func pathMay(value []byte) bool {
	if len(value) == 0 {
		return true
	}
	if len(value)%2 == 1 || len(value) < 4 || len(value) > 26 || value[0] != 2 || 2*int(value[1])+2 != len(value) {
		return false
	}
	for pair := range slices.Chunk(value[2:], 2) {
		if bytes.Equal(pair, []byte{0, 0}) {
			return false
		}
	}
	return true
}

func marksMay(value []byte) bool {
	if len(value) == 0 || len(value)%2 == 1 || len(value) > 16 {
		return false
	}
	pairs := slices.Collect(slices.Chunk(value, 2))
	return slices.IsSortedFunc(pairs, bytes.Compare) && len(slices.CompactFunc(pairs, bytes.Equal)) == len(value)/2
}

func valueMay(kind byte, value []byte) bool {
	switch kind {
	case 2:
		return pathMay(value)
	case 4:
		return len(value) == 4 && !bytes.Equal(value, make([]byte, 4))
	case 5:
		return len(value) == 4
	}
	return marksMay(value)
}

func (j *judge) attributes(b *bytes.Buffer) []byte {
	kinds := []byte(nil)
	for n := 0; b.Len() > 0; n++ {
		head := b.Next(3)
		if len(head) < 3 || b.Len() < int(head[2]) {
			j.blame(0, 0, api.ErrBody)
			return kinds
		}
		value := b.Next(int(head[2]))
		flags, known := map[byte]byte{2: 64, 4: 128, 5: 64, 8: 192}[head[1]]
		if !known || flags != head[0] || len(kinds) > 0 && head[1] <= kinds[len(kinds)-1] {
			j.blame(1, n, api.ErrFlags)
		} else if !valueMay(head[1], value) {
			j.blame(1, n, api.ErrValue)
		}
		kinds = append(kinds, head[1])
	}
	return kinds
}

// judged gives the error that Decode must tell of b.
func judged(b []byte) api.Errno {
	j, whole := &judge{}, bytes.NewBuffer(slices.Clone(b))
	gone, ok := part(whole)
	if !ok {
		return api.ErrBody
	}
	attributes, ok := part(whole)
	if !ok {
		return api.ErrBody
	}
	with := whole.Len() > 0
	j.nets(gone)
	j.nets(whole)
	kinds := j.attributes(attributes)
	if with && !(bytes.Contains(kinds, []byte{2}) && bytes.Contains(kinds, []byte{5})) || !with && len(kinds) > 0 {
		j.blame(2, 0, api.ErrMissing)
	}
	if j.count > 20 {
		j.blame(3, 0, api.ErrNet)
	}
	return j.answer()
}

// checkJudged holds Decode against the second reading, and Encode against Decode.
func checkJudged(t *testing.T, b []byte) api.Errno {
	t.Helper()
	u, e := Decode(b)
	if want := judged(b); e != want || e != api.OK && !sameUpdate(u, api.Update{}) {
		t.Fatalf("Decode(%v) = %+v, %d, want %d", b, u, e, want)
	}
	if e == api.OK {
		if again, e := Encode(u); e != api.OK || !bytes.Equal(again, b) {
			t.Fatalf("Decode(%v) = %+v, of which Encode gives %v, %d", b, u, again, e)
		}
	}
	return e
}

// TestShortBytes: all rows of up to six of some bytes.
func TestShortBytes(t *testing.T) {
	some := []byte{0, 1, 2, 3, 8, 33, 64}
	rows := [][]byte{nil}
	for range 7 {
		longer := [][]byte(nil)
		for _, row := range rows {
			checkJudged(t, row)
			for _, c := range some {
				longer = append(longer, append(slices.Clip(row), c))
			}
		}
		rows = longer
	}
}

// randomNet gives nets of which some are alike.
func randomNet(source *rand.Rand) api.Net {
	length := source.Intn(33)
	if source.Intn(2) == 0 {
		length = 8
	}
	return api.Net{Addr: source.Intn(1<<32) >> (32 - length) << (32 - length), Len: length}
}

// randomUpdate gives a message.
func randomUpdate(source *rand.Rand) api.Update {
	all, u := []api.Net(nil), api.Update{}
	for range source.Intn(21) {
		if n := randomNet(source); !slices.Contains(all, n) {
			all = append(all, n)
		}
	}
	cut := source.Intn(len(all) + 1)
	u.Gone, u.Nets = all[:cut], all[cut:]
	if len(u.Nets) == 0 {
		return u
	}
	for range source.Intn(13) {
		u.Path = append(u.Path, 1+source.Intn(65535))
	}
	for range source.Intn(9) {
		u.Marks = append(u.Marks, source.Intn(65536))
	}
	slices.Sort(u.Marks)
	u.Marks = slices.Compact(u.Marks)
	u.Pref, u.Med = source.Intn(1<<32), source.Intn(2)*source.Intn(1<<32)
	return u
}

func TestThereAndBack(t *testing.T) {
	source := rand.New(rand.NewSource(6))
	for range 20000 {
		u := randomUpdate(source)
		b, e := Encode(u)
		if e != api.OK {
			t.Fatalf("Encode(%+v) = %d", u, e)
		}
		if got, e := Decode(b); e != api.OK || !sameUpdate(got, u) {
			t.Fatalf("Decode(%v) = %+v, %d, want %+v", b, got, e, u)
		}
	}
}

// TestChangedBytes: messages in which something is changed, taken out or put in.
func TestChangedBytes(t *testing.T) {
	source := rand.New(rand.NewSource(7))
	told := map[api.Errno]int{}
	for range 60000 {
		b, _ := Encode(randomUpdate(source))
		for range 1 + source.Intn(3) {
			if len(b) == 0 {
				break
			}
			at := source.Intn(len(b))
			switch source.Intn(4) {
			case 0:
				b[at] = byte(source.Intn(256))
			case 1:
				b[at] ^= 1 << source.Intn(8)
			case 2:
				b = slices.Delete(b, at, min(len(b), at+1+source.Intn(3)))
			case 3:
				b = slices.Insert(b, at, []byte{0, 2, 4, 5, 8, 33, 64, 255}[source.Intn(8)])
			}
		}
		told[checkJudged(t, b)]++
	}
	for _, e := range []api.Errno{api.OK, api.ErrBody, api.ErrFlags, api.ErrValue, api.ErrMissing, api.ErrNet} {
		if told[e] < 20 {
			t.Errorf("the error %d was told %d times", e, told[e])
		}
	}
}

// TestEachByte: a message at every byte of which every other one is tried, and
// which is cut at every place.
func TestEachByte(t *testing.T) {
	u := sampleUpdate()
	u.Med, u.Marks = 7, []int{1, 300}
	u.Gone, u.Nets = append(u.Gone, netOf(10, 128, 0, 0, 9)), append(u.Nets, api.Net{})
	b, _ := Encode(u)
	for at := range b {
		checkJudged(t, b[:at])
		checkJudged(t, b[at:])
		for c := range 256 {
			other := slices.Clone(b)
			other[at] = byte(c)
			checkJudged(t, other)
		}
	}
}

// randomParts gives bytes whose lengths fit, of parts that may be wrong.
func randomParts(source *rand.Rand) []byte {
	pieces := [][]byte{pathPart, prefPart, medPart, markPart, {64, 2, 0}, {64, 2, 1, 2}, {64, 2, 2, 2, 0}, {128, 4, 4, 0, 0, 0, 0}, {192, 8, 0}, {192, 8, 4, 0, 2, 0, 1}, {64, 3, 0}, {0, 0, 0}, {65, 5, 4, 0, 0, 0, 0}, {64, 9, 1, 1}}
	lands := [][]byte{{8, 10}, {8, 11}, {9, 10, 0}, {9, 10, 128}, {0}, {7, 1}, {33}, {255}, {32, 1, 2, 3, 4}, {17, 1, 2, 128}, {17, 1, 2, 64}}
	some := func(list [][]byte, most int) []byte {
		b := []byte(nil)
		for range source.Intn(most + 1) {
			b = append(b, list[source.Intn(len(list))]...)
		}
		return b
	}
	attributes := some(pieces, 3)
	if source.Intn(2) == 0 {
		attributes = slices.Concat(pathPart, prefPart)
	}
	return message(some(lands, 2), attributes, some(lands, 2))
}

func TestAnyParts(t *testing.T) {
	source := rand.New(rand.NewSource(8))
	for range 60000 {
		checkJudged(t, randomParts(source))
	}
}

func TestAnyBytes(t *testing.T) {
	source := rand.New(rand.NewSource(9))
	for range 20000 {
		b := make([]byte, source.Intn(60))
		source.Read(b)
		if len(b) > 3 {
			b[0] = 0
			b[1] %= 16
		}
		checkJudged(t, b)
	}
}

// FuzzDecode: `go test -fuzz FuzzDecode ./byway` tries bytes of its own.
func FuzzDecode(f *testing.F) {
	source := rand.New(rand.NewSource(10))
	for range 50 {
		b, _ := Encode(randomUpdate(source))
		f.Add(b)
		f.Add(randomParts(source))
	}
	f.Fuzz(func(t *testing.T, b []byte) { checkJudged(t, b) })
}

// spread fills a list and its spare room.
func spread[T any](list []T, with T) {
	for i := range list[:cap(list)] {
		list[:cap(list)][i] = with
	}
}

// TestUpdateNotKept: lists that come in are left as they are, and those that
// come out are new memory, spare room too (P2).
func TestUpdateNotKept(t *testing.T) {
	u := sampleUpdate()
	u.Marks = []int{5}
	u.Gone, u.Nets = append(make([]api.Net, 0, 9), u.Gone...), append(make([]api.Net, 0, 9), u.Nets...)
	u.Path, u.Marks = append(make([]int, 0, 9), u.Path...), append(make([]int, 0, 9), u.Marks...)
	want, _ := Encode(u)
	got, _ := Encode(u)
	spread(got, 99)
	if again, e := Encode(u); e != api.OK || !bytes.Equal(again, want) {
		t.Errorf("Encode = %v, %d, want %v", again, e, want)
	}
	for _, list := range [][]api.Net{u.Gone[1:9], u.Nets[1:9]} {
		if !slices.Equal(list, make([]api.Net, 8)) {
			t.Errorf("spare room has become %v", list)
		}
	}
	if !slices.Equal(u.Path[2:9], make([]int, 7)) || !slices.Equal(u.Marks[1:9], make([]int, 8)) {
		t.Errorf("spare room has become %v, %v", u.Path[2:9], u.Marks[1:9])
	}
}

func TestBytesNotKept(t *testing.T) {
	u := sampleUpdate()
	u.Marks = []int{5}
	b, _ := Encode(u)
	room := append(make([]byte, 0, 200), b...)
	got, _ := Decode(room)
	second, _ := Decode(room)
	if !bytes.Equal(room, b) || !bytes.Equal(room[:200][len(b):], make([]byte, 200-len(b))) {
		t.Errorf("the bytes have become %v", room[:200])
	}
	spread(room, 99)
	if !sameUpdate(got, u) {
		t.Errorf("the message has become %+v", got)
	}
	spread(got.Gone, api.Net{Len: 9})
	spread(got.Path, 9)
	if !slices.Equal(got.Nets, u.Nets) || !slices.Equal(got.Marks, u.Marks) || !sameUpdate(second, u) {
		t.Errorf("lists share memory: %+v, %+v", got, second)
	}
	spread(got.Nets, api.Net{Len: 8})
	spread(got.Marks, 8)
	if slices.Contains(got.Gone[:cap(got.Gone)], api.Net{Len: 8}) || slices.Contains(got.Path[:cap(got.Path)], 8) || !sameUpdate(second, u) {
		t.Errorf("lists share memory: %+v, %+v", got, second)
	}
}
