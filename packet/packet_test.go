package packet

import (
	"bytes"
	"errors"
	"math"
	"slices"
	"testing"

	"stockade/api"
	"stockade/ether"
	"stockade/fault"
	"stockade/icmp"
	"stockade/ip4"
	"stockade/ip6"
	"stockade/tcp"
	"stockade/udp"
)

// noPlace: of an error that says none.
const noPlace = -1

// is tells whether e is an error of that number at that place; of 0 whether there is none.
func is(e error, code api.Errno, at int) bool {
	if code == 0 {
		return e == nil
	}
	place, placed := fault.Place(e)
	if !placed {
		place = noPlace
	}
	return errors.Is(e, code) && fault.Code(e) == code && place == at
}

// same: are all fields, and all bytes, the same?
func same(p, q api.Packet) bool {
	return p.Tuple == q.Tuple && p.Flags == q.Flags && p.Seq == q.Seq && p.Ack == q.Ack && p.Control == q.Control && bytes.Equal(p.Payload, q.Payload)
}

// v4, v6: addresses that begin with these bytes.
func v4(b ...byte) (a api.Addr) {
	copy(a.B[:], b)
	return a
}

func v6(b ...byte) (a api.Addr) {
	a.V6 = true
	copy(a.B[:], b)
	return a
}

// way: from where to where a packet goes.
type way struct{ src, dst api.Addr }

// wayOf: one of that version; back: the other way round.
func wayOf(v6th bool) way {
	if v6th {
		return way{v6(0xfe, 0x80, 3, 0, 0, 0, 0, 0, 5, 0, 0, 0, 0, 0, 7, 1), v6(0x20, 1, 0xd, 0xb8, 0, 9, 0, 0, 0, 0, 0, 0, 0, 0, 0, 2)}
	}
	return way{v4(10, 1, 2, 3), v4(9, 8, 7, 6)}
}

func (w way) back() way {
	return way{w.dst, w.src}
}

// versions: is it version 6?
func versions() []bool {
	return []bool{false, true}
}

// own: the protocol of the messages of a version; request, reply, wrong: their types.
func own(v6th bool) int {
	if v6th {
		return 58
	}
	return 1
}

func request(v6th bool) int {
	if v6th {
		return 128
	}
	return 8
}

func reply(v6th bool) int {
	if v6th {
		return 129
	}
	return 0
}

func wrong(v6th bool) int {
	if v6th {
		return 1
	}
	return 3
}

// high, low: the bytes of a number.
func high(v int) byte { return byte(v >> 8) }
func low(v int) byte  { return byte(v) }

// closed: what is missing from all numbers of two bytes to 65,535.
func closed(b []byte) (byte, byte) {
	all := 0
	for i, v := range b {
		if i%2 == 0 {
			all += 256 * int(v)
		} else {
			all += int(v)
		}
	}
	for all > 65_535 {
		all = all/65_536 + all%65_536
	}
	return high(65_535 - all), low(65_535 - all)
}

// summed: b, which is borne by that protocol on that way, with the sum at that place put right.
func summed(b []byte, at, proto int, w way) []byte {
	b = bytes.Clone(b)
	b[at], b[at+1] = 0, 0
	ahead := slices.Concat(w.src.B[:], w.dst.B[:], []byte{0, 0, high(len(b)), low(len(b)), 0, 0, 0, byte(proto)})
	if !w.src.V6 {
		ahead = slices.Concat(w.src.B[:4], w.dst.B[:4], []byte{0, byte(proto), high(len(b)), low(len(b))})
		if proto == 1 {
			ahead = nil
		}
	}
	b[at], b[at+1] = closed(slices.Concat(ahead, b))
	if proto == 17 && b[at] == 0 && b[at+1] == 0 {
		b[at], b[at+1] = 255, 255
	}
	return b
}

// turned: b with bytes at places.
func turned(b []byte, at ...int) []byte {
	b = bytes.Clone(b)
	for i := 0; i < len(at); i += 2 {
		b[at[i]] = byte(at[i+1])
	}
	return b
}

// framed: b behind a kind and tags; the twelve bytes ahead are addresses that do not count.
func framed(kind int, tags []int, b []byte) []byte {
	f := []byte{2, 1, 3, 5, 7, 11, 6, 13, 17, 19, 23, 29}
	for _, tag := range tags {
		f = append(f, 129, 0, high(tag), low(tag))
	}
	return slices.Concat(f, []byte{high(kind), low(kind)}, b)
}

// kindOf: of a frame with a packet of that version.
func kindOf(v6th bool) int {
	if v6th {
		return 34_525
	}
	return 2_048
}

// tagged: each number of tags that a frame may have.
func tagged() [][]int {
	return [][]int{nil, {5}, {65_535, 2_048}}
}

// behindKind: the place behind the kind of a frame with these tags.
func behindKind(tags []int) int {
	return 14 + 4*len(tags)
}

// headed: the packet that bears b, by that protocol, behind so many words of options, of version 6 behind so many heads of eight bytes.
func headed(w way, proto, more int, b []byte) []byte {
	if w.src.V6 {
		return headed6(w, proto, more, b)
	}
	size := 20 + 4*more
	p := []byte{byte(64 + size/4), 7, high(size + len(b)), low(size + len(b)), 1, 2, 64, 0, 9, byte(proto), 0, 0}
	p = slices.Concat(p, w.src.B[:4], w.dst.B[:4], bytes.Repeat([]byte{1}, 4*more))
	p[10], p[11] = closed(p)
	return append(p, b...)
}

func headed6(w way, proto, more int, b []byte) []byte {
	kinds := append(slices.Repeat([]int{60}, more), proto)
	size := 8*more + len(b)
	p := []byte{0x61, 2, 3, 4, high(size), low(size), byte(kinds[0]), 9}
	p = slices.Concat(p, w.src.B[:], w.dst.B[:])
	for _, kind := range kinds[1:] {
		p = append(p, byte(kind), 0, 1, 4, 0, 0, 0, 0)
	}
	return append(p, b...)
}

// behindHeads: the place in a packet of that version of what it bears.
func behindHeads(v6th bool, more int) int {
	if v6th {
		return 40 + 8*more
	}
	return 20 + 4*more
}

// resummed: a packet of version 4 with the sum of its head put right.
func resummed(p []byte) []byte {
	p = turned(p, 10, 0, 11, 0)
	p[10], p[11] = closed(p[:p[0]%16*4])
	return p
}

// sample: what a packet on wayOf bears, and what is parsed of it.
type sample struct {
	name  string
	v6th  bool
	proto int
	b     []byte
	want  api.Packet
}

// frame: of a sample, with these tags, and so much more ahead of it.
func (s sample) frame(tags []int, more int) []byte {
	return framed(kindOf(s.v6th), tags, headed(wayOf(s.v6th), s.proto, more, s.b))
}

// segmentOf: of TCP with so many words of options, and that payload.
func segmentOf(w way, words int, payload []byte) []byte {
	b := []byte{0x12, 0x34, 0x56, 0x78, 0xfe, 0xdc, 0xba, 0x98, 0x89, 0xab, 0xcd, 0xef, byte(16 * (5 + words)), 0xc0 | 18, 3, 9, 0, 0, 2, 5}
	return summed(slices.Concat(b, bytes.Repeat([]byte{1}, 4*words), payload), 16, 6, w)
}

// datagramOf: of UDP with that payload, and more behind it.
func datagramOf(w way, payload, behind []byte) []byte {
	b := []byte{0x9a, 0xbc, 0, 53, high(8 + len(payload)), low(8 + len(payload)), 0, 0}
	return append(summed(append(b, payload...), 6, 17, w), behind...)
}

// messageOf: of ICMP, of that type and code, with these bytes behind its sum.
func messageOf(w way, of, code int, behind ...byte) []byte {
	return summed(append([]byte{byte(of), byte(code), 0, 0}, behind...), 2, own(w.src.V6), w)
}

// about: an error on the way w about what came back on it.
func about(w way, inner []byte) []byte {
	return messageOf(w, wrong(w.src.V6), 1, append([]byte{0, 0, 5, 0}, inner...)...)
}

// inner: what an error is about: a packet on that way with these eight bytes in it.
func inner(w way, proto int, b ...byte) []byte {
	return headed(w, proto, 0, b)
}

// tuple: of a packet on w.
func tuple(w way, proto, from, to int) api.Tuple {
	return api.Tuple{Src: w.src, Dst: w.dst, Proto: proto, SrcPort: from, DstPort: to}
}

// samples: of a version, of all that a packet may bear.
func samples(v6th bool) []sample {
	w, icmp := wayOf(v6th), own(v6th)
	of := func(name string, proto int, b []byte, want api.Packet) sample {
		return sample{name, v6th, proto, b, want}
	}
	tcp := func(payload ...byte) api.Packet {
		return api.Packet{Tuple: tuple(w, 6, 0x1234, 0x5678), Flags: 18, Seq: 0xfedcba98, Ack: 0x89abcdef, Payload: payload}
	}
	udp := func(payload ...byte) api.Packet {
		return api.Packet{Tuple: tuple(w, 17, 0x9abc, 53), Payload: payload}
	}
	echo := func(kind int) api.Packet {
		return api.Packet{Tuple: tuple(w, icmp, 0x3456, 0x3456), Control: api.Control{Kind: kind, Id: 0x3456}}
	}
	wrong := func(proto, from, to int) api.Packet {
		return api.Packet{Tuple: tuple(w, icmp, 0, 0), Control: api.Control{Kind: api.Error, Inner: tuple(w.back(), proto, from, to)}}
	}
	ports := []byte{0x12, 0x34, 0x56, 0x78, 9, 9, 9, 9}
	return []sample{
		of("segment", 6, segmentOf(w, 0, []byte{7, 0, 9}), tcp(7, 0, 9)),
		of("segment of no bytes", 6, segmentOf(w, 0, nil), tcp()),
		of("segment with options", 6, segmentOf(w, 10, []byte{1, 2, 3, 4}), tcp(1, 2, 3, 4)),
		of("datagram", 17, datagramOf(w, []byte{5, 0, 6}, nil), udp(5, 0, 6)),
		of("datagram of no bytes", 17, datagramOf(w, nil, nil), udp()),
		of("datagram with more behind it", 17, datagramOf(w, []byte{8}, []byte{1, 2, 3}), udp(8)),
		of("request", icmp, messageOf(w, request(v6th), 0, 0x34, 0x56, 0, 1), echo(api.Request)),
		of("request with more behind it", icmp, messageOf(w, request(v6th), 0, 0x34, 0x56, 0, 1, 2, 3, 4), echo(api.Request)),
		of("reply", icmp, messageOf(w, reply(v6th), 0, 0x34, 0x56, 0, 1), echo(api.Reply)),
		of("error about a segment", icmp, about(w, inner(w.back(), 6, ports...)), wrong(6, 0x1234, 0x5678)),
		of("error about a datagram", icmp, about(w, inner(w.back(), 17, ports...)), wrong(17, 0x1234, 0x5678)),
		of("error about an echo", icmp, about(w, inner(w.back(), icmp, byte(request(v6th)), 0, 9, 9, 0x65, 0x43, 9, 9)), wrong(icmp, 0x6543, 0x6543)),
	}
}

// allSamples: of both versions.
func allSamples() []sample {
	return append(samples(false), samples(true)...)
}

// further: the number of e, and its place so much further.
func further(by int, e error) (code api.Errno, place int) {
	at, _ := fault.Place(e)
	return fault.Code(e), by + at
}

// expected: what the promise says of Parse, sentence by sentence.
func expected(b []byte) (p api.Packet, code api.Errno, place int) {
	kind, at, e := ether.Parse(b)
	if e != nil {
		place, placed := fault.Place(e)
		if !placed {
			place = noPlace
		}
		return p, fault.Code(e), place
	}
	var h api.Head
	if kind == 2_048 {
		h, e = ip4.Parse(b[at:])
	} else if kind == 34_525 {
		h, e = ip6.Parse(b[at:])
	} else {
		return p, api.ErrKind, at - 2
	}
	if e != nil {
		code, place = further(at, e)
		return p, code, place
	}
	from := at + h.From
	bears := bytes.Clone(b[from : at+h.To])
	w := api.Tuple{Src: h.Src, Dst: h.Dst, Proto: h.Proto}
	if h.Proto == 6 {
		s, e := tcp.Parse(bears, h.Src, h.Dst)
		if e != nil {
			code, place = further(from, e)
			return p, code, place
		}
		w.SrcPort, w.DstPort = s.SrcPort, s.DstPort
		return api.Packet{Tuple: w, Flags: s.Flags, Seq: s.Seq, Ack: s.Ack, Payload: s.Payload}, 0, 0
	}
	if h.Proto == 17 {
		d, e := udp.Parse(bears, h.Src, h.Dst)
		if e != nil {
			code, place = further(from, e)
			return p, code, place
		}
		w.SrcPort, w.DstPort = d.SrcPort, d.DstPort
		return api.Packet{Tuple: w, Payload: d.Payload}, 0, 0
	}
	if h.Proto == 1 && kind == 2_048 || h.Proto == 58 && kind == 34_525 {
		c, e := icmp.Parse(bears, h.Src, h.Dst)
		if e != nil {
			code, place = further(from, e)
			return p, code, place
		}
		if c.Kind == api.Else {
			return p, api.ErrKind, from
		}
		if c.Kind == api.Request || c.Kind == api.Reply {
			w.SrcPort, w.DstPort = c.Id, c.Id
		}
		return api.Packet{Tuple: w, Control: c}, 0, 0
	}
	return p, api.ErrKind, from
}

// checkParse holds Parse of b against the promise. As all checks it ends its test with the first fault: of many alike one says enough.
func checkParse(t *testing.T, b []byte) {
	t.Helper()
	before := bytes.Clone(b)
	want, code, place := expected(b)
	p, e := Parse(b)
	if !same(p, want) || !is(e, code, place) {
		t.Fatalf("P11.1: Parse of %v: %+v, %v; want %+v, %d at %d", b, p, e, want, code, place)
	}
	if !bytes.Equal(b, before) {
		t.Fatalf("R3: Parse changed the %d bytes that were handed in", len(b))
	}
}

// checkError: Parse of b is just that error.
func checkError(t *testing.T, b []byte, code api.Errno, place int) {
	t.Helper()
	if p, e := Parse(b); !same(p, api.Packet{}) || !is(e, code, place) {
		t.Fatalf("P11.1: Parse of %v: %+v, %v; want %d at %d", b, p, e, code, place)
	}
	checkParse(t, b)
}

// checkRight: Parse of b is that packet.
func checkRight(t *testing.T, b []byte, want api.Packet) {
	t.Helper()
	if p, e := Parse(b); !same(p, want) || e != nil {
		t.Fatalf("P11.1: Parse of %v: %+v, %v; want %+v", b, p, e, want)
	}
	checkParse(t, b)
}

// checkEverywhere: what a packet on w bears is just that error, wherever it stands.
func checkEverywhere(t *testing.T, w way, proto int, b []byte, code api.Errno, place int) {
	t.Helper()
	for _, tags := range tagged() {
		for _, more := range []int{0, 1, 3, 8} {
			f := framed(kindOf(w.src.V6), tags, headed(w, proto, more, b))
			checkError(t, f, code, behindKind(tags)+behindHeads(w.src.V6, more)+place)
			checkError(t, append(f, 1, 2, 3), code, behindKind(tags)+behindHeads(w.src.V6, more)+place)
		}
	}
}

// checkPacket: what a frame of that version bears is just that error, behind however many tags.
func checkPacket(t *testing.T, v6th bool, b []byte, code api.Errno, place int) {
	t.Helper()
	for _, tags := range tagged() {
		checkError(t, framed(kindOf(v6th), tags, b), code, behindKind(tags)+place)
	}
}

func TestExample(t *testing.T) {
	for _, b := range [][]byte{nil, {}, make([]byte, 0, 50), samples(false)[0].frame(nil, 0)[:0]} {
		checkError(t, b, api.ErrShort, 12)
	}
}

// byHand: frames, and the sums in them, that were worked out by hand, so that the tests' own answers are held against something, too.
func byHand() []struct {
	p api.Packet
	b []byte
} {
	short, long := way{v4(10, 1, 2, 3), v4(9, 8, 7, 6)}, way{v6(0xfe, 0x80, 0, 0, 0, 0, 0, 0, 0, 0, 0, 0, 0, 0, 0, 1), v6(0, 0, 0, 0, 0, 0, 0, 0, 0, 0, 0, 0, 0, 0, 0, 2)}
	return []struct {
		p api.Packet
		b []byte
	}{
		// Of the head: 4500 + 0029 + 4006 + 0a01 + 0203 + 0908 + 0706: a141.
		// Of the segment: 0a01 + 0203 + 0908 + 0706 + 0006 + 0015, 0001 + 0050 + 0003 + 0004 + 5012 + 0400 + 0900: 7997.
		{api.Packet{Tuple: tuple(short, 6, 1, 80), Flags: 18, Seq: 3, Ack: 4, Payload: []byte{9}}, []byte{
			0, 0, 0, 0, 0, 0, 0, 0, 0, 0, 0, 0, 8, 0,
			69, 0, 0, 41, 0, 0, 0, 0, 64, 6, 0x5e, 0xbe, 10, 1, 2, 3, 9, 8, 7, 6,
			0, 1, 0, 80, 0, 0, 0, 3, 0, 0, 0, 4, 0x50, 18, 4, 0, 0x86, 0x68, 0, 0, 9,
		}},
		// fe80 + 0001 + 0002 + 000a + 0011, 0005 + 0035 + 000a + 0708: 105ea, which is 05eb.
		{api.Packet{Tuple: tuple(long, 17, 5, 53), Payload: []byte{7, 8}}, slices.Concat([]byte{
			0, 0, 0, 0, 0, 0, 0, 0, 0, 0, 0, 0, 0x86, 0xdd,
			96, 0, 0, 0, 0, 10, 17, 64}, long.src.B[:], long.dst.B[:], []byte{
			0, 5, 0, 53, 0, 10, 0xfa, 0x14, 7, 8,
		})},
		// Of the head: 4500 + 001c + 4001 + 0a01 + 0203 + 0908 + 0706: a12f. Of the message: 0800 + 1234.
		{api.Packet{Tuple: tuple(short, 1, 0x1234, 0x1234), Control: api.Control{Kind: api.Request, Id: 0x1234}}, []byte{
			0, 0, 0, 0, 0, 0, 0, 0, 0, 0, 0, 0, 8, 0,
			69, 0, 0, 28, 0, 0, 0, 0, 64, 1, 0x5e, 0xd0, 10, 1, 2, 3, 9, 8, 7, 6,
			8, 0, 0xe5, 0xcb, 0x12, 0x34, 0, 0,
		}},
		// fe80 + 0001 + 0002 + 0038 + 003a, 0100 + 6000 + 0008 + 0640 + 0002 + fe80 + 0001, 1234 + 5678: 2cd6c, which is cd6e.
		{api.Packet{Tuple: tuple(long, 58, 0, 0), Control: api.Control{Kind: api.Error, Inner: tuple(long.back(), 6, 0x1234, 0x5678)}}, slices.Concat([]byte{
			0, 0, 0, 0, 0, 0, 0, 0, 0, 0, 0, 0, 0x86, 0xdd,
			96, 0, 0, 0, 0, 56, 58, 64}, long.src.B[:], long.dst.B[:], []byte{
			1, 0, 0x32, 0x91, 0, 0, 0, 0, 96, 0, 0, 0, 0, 8, 6, 64}, long.dst.B[:], long.src.B[:], []byte{
			0x12, 0x34, 0x56, 0x78, 0, 0, 0, 0,
		})},
	}
}

func TestByHand(t *testing.T) {
	for _, r := range byHand() {
		checkRight(t, r.b, r.p)
		if b, e := Build(r.p); e != nil || !bytes.Equal(b, r.b) {
			t.Errorf("P11.2: Build of %+v: %v, %v; want %v", r.p, b, e, r.b)
		}
		checkBuild(t, r.p)
	}
}

// Each sample behind each number of tags, and of options or heads: only the addresses of the frame, the tags and these are ahead of what counts.
func TestParseRight(t *testing.T) {
	for _, s := range allSamples() {
		for _, tags := range tagged() {
			most := 10
			if s.v6th {
				most = 8
			}
			for more := range most + 1 {
				checkRight(t, s.frame(tags, more), s.want)
			}
		}
		for at := range 12 {
			for v := range 256 {
				checkRight(t, turned(s.frame(nil, 0), at, v), s.want)
			}
		}
	}
}

// Frames of each number of bytes up to that of a whole one.
func TestParseEachNumberOfBytes(t *testing.T) {
	for _, s := range allSamples() {
		for _, tags := range tagged() {
			for _, more := range []int{0, 2} {
				whole := s.frame(tags, more)
				at := behindKind(tags)
				for size := range whole {
					code, place := cutAt(s.v6th, size, at, more)
					checkError(t, whole[:size], code, place)
					checkError(t, bytes.Clone(whole[:size]), code, place)
				}
				checkRight(t, whole[:len(whole):len(whole)], s.want)
			}
		}
	}
}

// cutAt: what is wrong with a frame that is cut to so many bytes, of which that place is behind the kind.
func cutAt(v6th bool, size, at, more int) (api.Errno, int) {
	for place := 12; place < at; place += 4 {
		if size < place+2 {
			return api.ErrShort, place
		}
	}
	switch {
	case v6th && size < at+40 || size < at+20:
		return api.ErrShort, at
	case v6th:
		return api.ErrLength, at + 4
	case size < at+20+4*more:
		return api.ErrLength, at
	}
	return api.ErrLength, at + 2
}

// What a packet bears, cut to each number of bytes, where the packet tells just as many.
func TestParseEachNumberOfBytesBorne(t *testing.T) {
	for _, s := range allSamples() {
		w := wayOf(s.v6th)
		for size := range s.b {
			cut := s.b[:size]
			switch {
			case s.proto == 6 && size < 20, size < 8:
				checkEverywhere(t, w, s.proto, cut, api.ErrShort, 0)
			case s.proto == 6 && size < int(s.b[12])/16*4:
				checkEverywhere(t, w, s.proto, cut, api.ErrLength, 12)
			case s.proto == 6:
				checkEverywhere(t, w, s.proto, cut, api.ErrSum, 16)
			case s.proto == 17 && size < int(s.b[5]):
				checkEverywhere(t, w, s.proto, cut, api.ErrLength, 4)
			case s.proto == 17:
				checkRight(t, framed(kindOf(s.v6th), nil, headed(w, 17, 0, cut)), s.want)
			default:
				checkParse(t, framed(kindOf(s.v6th), nil, headed(w, s.proto, 0, cut)))
				again := summed(cut, 2, s.proto, w)
				if s.want.Control.Kind == api.Error {
					checkEverywhere(t, w, s.proto, again, api.ErrShort, 8)
				} else {
					checkRight(t, framed(kindOf(s.v6th), nil, headed(w, s.proto, 0, again)), s.want)
				}
			}
		}
	}
}

// What stands behind the packet plays no part, up to as much as a frame may have.
func TestParseBehindPackets(t *testing.T) {
	for _, s := range allSamples() {
		for _, tags := range tagged() {
			whole := s.frame(tags, 1)
			for size := 1; len(whole)+size <= 2_000; size += 1 + size/3 {
				checkRight(t, append(bytes.Clone(whole), make([]byte, size)...), s.want)
				checkRight(t, append(bytes.Clone(whole), bytes.Repeat([]byte{0xa5}, size)...), s.want)
			}
			full := append(bytes.Clone(whole), bytes.Repeat([]byte{7}, 2_000-len(whole))...)
			checkRight(t, full, s.want)
			checkError(t, append(full, 7), api.ErrBig, noPlace)
		}
	}
}

// Each kind of frame that is neither version's, with nothing, or a right packet of either, behind it.
func TestParseKinds(t *testing.T) {
	short, long := samples(false)[3], samples(true)[3]
	packets := [][]byte{nil, headed(wayOf(false), 17, 0, short.b), headed(wayOf(true), 17, 0, long.b)}
	for kind := range 1 << 16 {
		for _, tags := range tagged() {
			for i, b := range packets {
				f := framed(kind, tags, b)
				switch {
				case kind == 33_024:
					checkParse(t, f)
				case kind != 2_048 && kind != 34_525:
					if p, e := Parse(f); !same(p, api.Packet{}) || !is(e, api.ErrKind, behindKind(tags)-2) {
						t.Fatalf("P11.1: Parse of the kind %d behind %v: %+v, %v; want %d at %d", kind, tags, p, e, api.ErrKind, behindKind(tags)-2)
					}
				case i == 0:
					checkError(t, f, api.ErrShort, behindKind(tags))
				case kind == 2_048 && i == 1:
					checkRight(t, f, short.want)
				case kind == 34_525 && i == 2:
					checkRight(t, f, long.want)
				case i == 2:
					checkError(t, f, api.ErrVersion, behindKind(tags))
				default:
					checkError(t, f, api.ErrShort, behindKind(tags))
				}
			}
		}
	}
	for _, tags := range tagged() {
		checkError(t, framed(34_525, tags, append(packets[1], make([]byte, 20)...)), api.ErrVersion, behindKind(tags))
	}
}

// The errors of the frame: as they are.
func TestParseErrorsOfFrames(t *testing.T) {
	for size := range 14 {
		checkError(t, make([]byte, size), api.ErrShort, 12)
		checkError(t, bytes.Repeat([]byte{129}, size), api.ErrShort, 12)
	}
	for _, s := range allSamples() {
		one, two := framed(33_024, nil, []byte{1, 2}), framed(33_024, []int{5}, []byte{1, 2})
		checkError(t, one[:14], api.ErrShort, 16)
		checkError(t, one, api.ErrShort, 16)
		checkError(t, two, api.ErrShort, 20)
		checkError(t, s.frame([]int{1, 2, 3}, 0), api.ErrDeep, 20)
		checkError(t, s.frame([]int{1, 2, 3, 4}, 0), api.ErrDeep, 20)
		checkError(t, framed(33_024, []int{1, 2}, nil), api.ErrDeep, 20)
		for _, tags := range tagged() {
			for _, size := range []int{2_001, 2_002, 4_000, 70_000} {
				f := s.frame(tags, 0)
				checkError(t, append(f, make([]byte, size-len(f))...), api.ErrBig, noPlace)
			}
		}
	}
	checkError(t, make([]byte, 2_001), api.ErrBig, noPlace)
	checkError(t, make([]byte, 2_000), api.ErrKind, 12)
	checkError(t, framed(33_024, []int{1, 2}, make([]byte, 2_000)), api.ErrBig, noPlace)
}

// The errors of packets of version 4: so much further as the tags and the kind are.
func TestParseErrorsOfVersion4(t *testing.T) {
	for _, s := range samples(false) {
		p := headed(wayOf(false), s.proto, 2, s.b)
		for size := range 20 {
			checkPacket(t, false, p[:size], api.ErrShort, 0)
		}
		for number := range 16 {
			if number != 4 {
				checkPacket(t, false, resummed(turned(p, 0, 16*number+7)), api.ErrVersion, 0)
			}
		}
		for words := range 5 {
			checkPacket(t, false, turned(p, 0, 64+words), api.ErrLength, 0)
		}
		checkPacket(t, false, turned(headed(wayOf(false), s.proto, 0, s.b[:8]), 0, 79), api.ErrLength, 0)
		checkPacket(t, false, resummed(turned(p, 2, 0, 3, 27)), api.ErrLength, 2)
		checkPacket(t, false, resummed(turned(p, 2, 0, 3, len(p)+1)), api.ErrLength, 2)
		checkPacket(t, false, turned(p, 10, int(p[10])^1), api.ErrSum, 10)
		checkPacket(t, false, turned(p, 8, int(p[8])^1), api.ErrSum, 10)
		for bit := range 14 {
			checkPacket(t, false, resummed(turned(p, 6, 1<<bit/256, 7, 1<<bit%256)), api.ErrFragment, 6)
		}
	}
}

// The errors of packets of version 6: so much further as the tags and the kind are.
func TestParseErrorsOfVersion6(t *testing.T) {
	w := wayOf(true)
	for _, s := range samples(true) {
		p := headed(w, s.proto, 2, s.b)
		for size := range 40 {
			checkPacket(t, true, p[:size], api.ErrShort, 0)
		}
		for number := range 16 {
			if number != 6 {
				checkPacket(t, true, turned(p, 0, 16*number+1), api.ErrVersion, 0)
			}
		}
		checkPacket(t, true, turned(p, 5, len(p)-39), api.ErrLength, 4)
		checkPacket(t, true, turned(p, 4, 255), api.ErrLength, 4)
		checkPacket(t, true, turned(p, 40, 0), api.ErrOrder, 48)
		checkPacket(t, true, turned(p, 5, 7), api.ErrShort, 40)
		checkPacket(t, true, turned(p, 5, 15), api.ErrShort, 48)
		checkPacket(t, true, turned(p, 49, 200), api.ErrShort, 48)
		checkPacket(t, true, turned(p, 40, 44, 50, 0, 51, 1), api.ErrFragment, 48)
		checkPacket(t, true, turned(p, 6, 44, 42, 1, 43, 0), api.ErrFragment, 40)
		checkPacket(t, true, headed(w, s.proto, 9, s.b), api.ErrDeep, 104)
	}
}

// The errors of what a packet bears: so much further as the tags, the kind, and the head with options or the heads are.
func TestParseErrorsOfSegments(t *testing.T) {
	for _, v6th := range versions() {
		w := wayOf(v6th)
		for words := range 11 {
			b := segmentOf(w, words, []byte{1, 2, 3})
			for size := range 20 {
				checkEverywhere(t, w, 6, b[:size], api.ErrShort, 0)
			}
			for size := range 5 {
				checkEverywhere(t, w, 6, turned(b, 12, 16*size), api.ErrLength, 12)
			}
			if words > 0 {
				checkEverywhere(t, w, 6, b[:20+4*words-1], api.ErrLength, 12)
			}
			for at := range b {
				if at != 12 {
					checkEverywhere(t, w, 6, turned(b, at, int(b[at])^4), api.ErrSum, 16)
				}
			}
		}
		// The sum of another way, or of another protocol.
		other := w
		other.src.B[0]++
		checkEverywhere(t, w, 6, segmentOf(other, 0, nil), api.ErrSum, 16)
		checkEverywhere(t, w, 6, summed(segmentOf(w, 0, nil), 16, 17, w), api.ErrSum, 16)
	}
}

func TestParseErrorsOfDatagrams(t *testing.T) {
	for _, v6th := range versions() {
		w := wayOf(v6th)
		for n := range 20 {
			b := datagramOf(w, bytes.Repeat([]byte{3}, n), nil)
			for size := range 8 {
				checkEverywhere(t, w, 17, b[:size], api.ErrShort, 0)
				checkEverywhere(t, w, 17, turned(b, 5, size), api.ErrLength, 4)
			}
			checkEverywhere(t, w, 17, turned(b, 5, len(b)+1), api.ErrLength, 4)
			checkEverywhere(t, w, 17, turned(b, 4, 1), api.ErrLength, 4)
			for at := range b {
				if at != 4 && at != 5 {
					checkEverywhere(t, w, 17, turned(b, at, int(b[at])^4), api.ErrSum, 6)
				}
			}
			none := turned(b, 6, 0, 7, 0)
			if v6th {
				checkEverywhere(t, w, 17, none, api.ErrSum, 6)
				continue
			}
			want := api.Packet{Tuple: tuple(w, 17, 0x9abc, 53), Payload: bytes.Repeat([]byte{3}, n)}
			checkRight(t, framed(2_048, nil, headed(w, 17, 0, none)), want)
		}
	}
}

func TestParseErrorsOfMessages(t *testing.T) {
	for _, v6th := range versions() {
		w, icmp := wayOf(v6th), own(v6th)
		echo := messageOf(w, request(v6th), 0, 1, 2, 3, 4)
		for size := range 8 {
			checkEverywhere(t, w, icmp, echo[:size], api.ErrShort, 0)
		}
		right := about(w, inner(w.back(), 6, 1, 2, 3, 4, 5, 6, 7, 8))
		for _, b := range [][]byte{echo, right} {
			for at := range b {
				checkEverywhere(t, w, icmp, turned(b, at, int(b[at])^4), api.ErrSum, 2)
			}
		}
		for size := range inner(w, 6, 1, 2, 3, 4, 5, 6, 7, 8) {
			checkEverywhere(t, w, icmp, about(w, inner(w.back(), 6, 1, 2, 3, 4, 5, 6, 7, 8)[:size]), api.ErrShort, 8)
		}
		other := append(inner(wayOf(!v6th), 6, 1, 2, 3, 4, 5, 6, 7, 8), make([]byte, 20)...)
		checkEverywhere(t, w, icmp, about(w, other), api.ErrVersion, 8)
		at := 8 + behindHeads(v6th, 0)
		for proto := range 256 {
			if proto != 6 && proto != 17 {
				checkEverywhere(t, w, icmp, about(w, inner(w.back(), proto, 1, 2, 3, 4, 5, 6, 7, 8)), api.ErrKind, at)
			}
		}
		checkEverywhere(t, w, icmp, about(w, inner(w.back(), icmp, byte(reply(v6th)), 0, 0, 0, 0, 0, 0, 0)), api.ErrKind, at)
	}
	w := wayOf(false)
	b := inner(w.back(), 6, 1, 2, 3, 4, 5, 6, 7, 8)
	checkEverywhere(t, w, 1, about(w, turned(b, 0, 0x44)), api.ErrLength, 8)
	checkEverywhere(t, w, 1, about(w, turned(b, 0, 0x46)), api.ErrLength, 8)
	checkEverywhere(t, w, 1, about(w, turned(b, 7, 1)), api.ErrFragment, 14)
	long := headed(w.back(), 50, 3, []byte{1, 2, 3, 4, 5, 6, 7, 8})
	checkEverywhere(t, w, 1, about(w, long), api.ErrKind, 40)
}

// Each protocol of either version, with what each of them would bear, and with nothing.
func TestParseProtocols(t *testing.T) {
	for _, v6th := range versions() {
		w := wayOf(v6th)
		for proto := range 256 {
			if v6th && slices.Contains([]int{0, 43, 44, 60}, proto) {
				// These are kinds of heads: never what a packet bears.
				for _, s := range allSamples() {
					checkParse(t, framed(34_525, nil, headed(w, proto, 0, s.b)))
				}
				continue
			}
			known := proto == 6 || proto == 17 || proto == own(v6th)
			for _, s := range allSamples() {
				switch {
				case !known:
					checkEverywhere(t, w, proto, s.b, api.ErrKind, 0)
				case s.v6th == v6th && s.proto == proto:
					checkRight(t, framed(kindOf(v6th), nil, headed(w, proto, 0, s.b)), s.want)
				default:
					checkParse(t, framed(kindOf(v6th), nil, headed(w, proto, 0, s.b)))
				}
			}
			if known {
				checkEverywhere(t, w, proto, nil, api.ErrShort, 0)
			} else {
				checkEverywhere(t, w, proto, nil, api.ErrKind, 0)
			}
		}
		// The other version's messages.
		checkEverywhere(t, w, own(!v6th), messageOf(w, request(v6th), 0, 1, 2, 3, 4), api.ErrKind, 0)
		checkEverywhere(t, w, own(!v6th), messageOf(wayOf(!v6th), request(!v6th), 0, 1, 2, 3, 4), api.ErrKind, 0)
	}
}

// Of TCP the flags, both numbers, both ports, and what it bears.
func TestParseSegments(t *testing.T) {
	for _, v6th := range versions() {
		w := wayOf(v6th)
		for v := range 256 {
			b := summed(turned(segmentOf(w, 0, nil), 13, v), 16, 6, w)
			p := api.Packet{Tuple: tuple(w, 6, 0x1234, 0x5678), Flags: v % 64, Seq: 0xfedcba98, Ack: 0x89abcdef}
			checkRight(t, framed(kindOf(v6th), nil, headed(w, 6, 0, b)), p)
			for at := range 12 {
				b := turned(segmentOf(w, 0, nil), at, v)
				p := api.Packet{Tuple: tuple(w, 6, 256*int(b[0])+int(b[1]), 256*int(b[2])+int(b[3])), Flags: 18}
				p.Seq = uint32(b[4])<<24 | uint32(b[5])<<16 | uint32(b[6])<<8 | uint32(b[7])
				p.Ack = uint32(b[8])<<24 | uint32(b[9])<<16 | uint32(b[10])<<8 | uint32(b[11])
				checkRight(t, framed(kindOf(v6th), nil, headed(w, 6, 0, summed(b, 16, 6, w))), p)
			}
		}
		for n := range 1_887 {
			payload := bytes.Repeat([]byte{byte(n), 3, byte(n / 256)}, n)[:n]
			p := api.Packet{Tuple: tuple(w, 6, 0x1234, 0x5678), Flags: 18, Seq: 0xfedcba98, Ack: 0x89abcdef, Payload: payload}
			checkRight(t, framed(kindOf(v6th), nil, headed(w, 6, 0, segmentOf(w, n%11, payload))), p)
		}
	}
}

// Of UDP both ports, and what it bears.
func TestParseDatagrams(t *testing.T) {
	for _, v6th := range versions() {
		w := wayOf(v6th)
		for v := range 256 {
			for at := range 4 {
				b := turned(datagramOf(w, []byte{4, 5}, nil), at, v)
				p := api.Packet{Tuple: tuple(w, 17, 256*int(b[0])+int(b[1]), 256*int(b[2])+int(b[3])), Payload: []byte{4, 5}}
				checkRight(t, framed(kindOf(v6th), nil, headed(w, 17, 0, summed(b, 6, 17, w))), p)
			}
		}
		for n := range 1_900 {
			payload := bytes.Repeat([]byte{byte(n), 3, byte(n / 256)}, n)[:n]
			p := api.Packet{Tuple: tuple(w, 17, 0x9abc, 53), Payload: payload}
			checkRight(t, framed(kindOf(v6th), nil, headed(w, 17, 0, datagramOf(w, payload, make([]byte, n%5)))), p)
		}
	}
}

// Of a Request and a Reply both ports are its Id.
func TestParseEchoes(t *testing.T) {
	for _, v6th := range versions() {
		w := wayOf(v6th)
		for id := range 1 << 16 {
			for kind, of := range map[int]int{api.Request: request(v6th), api.Reply: reply(v6th)} {
				p := api.Packet{Tuple: tuple(w, own(v6th), id, id), Control: api.Control{Kind: kind, Id: id}}
				b := messageOf(w, of, 0, high(id), low(id), 5, 6, 7)
				checkRight(t, framed(kindOf(v6th), nil, headed(w, own(v6th), 0, b)), p)
			}
		}
	}
}

// Of an Error both ports are 0, whatever it is about, and whatever stands ahead of that.
func TestParseErrorsAboutSomething(t *testing.T) {
	for _, v6th := range versions() {
		w := wayOf(v6th)
		types := []int{3, 11, 12}
		if v6th {
			types = []int{1, 2, 3, 4}
		}
		for _, s := range samples(v6th) {
			if s.want.Control.Kind != api.Error {
				continue
			}
			for _, of := range types {
				for v := range 256 {
					b := summed(turned(s.b, 0, of, 1, v, 4, v, 5, 255-v, 6, v, 7, v), 2, s.proto, w)
					checkRight(t, framed(kindOf(v6th), nil, headed(w, s.proto, 0, b)), s.want)
				}
			}
		}
		// It may be about a packet between others than those that it goes between.
		far := way{v4(1, 1, 1, 1), v4(255, 255, 255, 255)}
		if v6th {
			far = way{v6(), v6(bytes.Repeat([]byte{255}, 16)...)}
		}
		b := about(w, inner(far, 17, 255, 255, 0, 0, 0, 0, 0, 0))
		p := api.Packet{Tuple: tuple(w, own(v6th), 0, 0), Control: api.Control{Kind: api.Error, Inner: tuple(far, 17, 65_535, 0)}}
		checkRight(t, framed(kindOf(v6th), nil, headed(w, own(v6th), 0, b)), p)
	}
}

// A message that is none of these is of a kind that is not known, where it begins.
func TestParseElse(t *testing.T) {
	for _, v6th := range versions() {
		w := wayOf(v6th)
		types := []int{3, 11, 12}
		if v6th {
			types = []int{1, 2, 3, 4}
		}
		for of := range 256 {
			for code := range 256 {
				echo := of == request(v6th) || of == reply(v6th)
				if slices.Contains(types, of) || echo && code == 0 || code > 3 && code < 254 && !echo {
					continue
				}
				b := messageOf(w, of, code, 1, 2, 3, 4)
				checkError(t, framed(kindOf(v6th), nil, headed(w, own(v6th), 0, b)), api.ErrKind, 14+behindHeads(v6th, 0))
				if code < 2 {
					checkEverywhere(t, w, own(v6th), b, api.ErrKind, 0)
				}
			}
		}
	}
}

// Of more than one thing that is wrong the one that is named first is told.
func TestParseOrder(t *testing.T) {
	for _, v6th := range versions() {
		w, icmp := wayOf(v6th), own(v6th)
		from := 14 + behindHeads(v6th, 0)
		broken := segmentOf(w, 0, nil)
		broken[16] ^= 1
		for _, b := range [][]byte{broken, nil, {1}} {
			p := headed(w, 6, 0, b)
			big := append(framed(kindOf(v6th), []int{1, 2, 3}, p), make([]byte, 2_000)...)
			checkError(t, big, api.ErrBig, noPlace)
			checkError(t, framed(5, []int{1, 2, 3}, p), api.ErrDeep, 20)
			checkError(t, framed(5, nil, p[:7]), api.ErrKind, 12)
			checkError(t, framed(kindOf(v6th), nil, turned(p, 0, 0x55)), api.ErrVersion, 14)
			checkError(t, framed(kindOf(v6th), nil, turned(p, 0, 0x55)[:19]), api.ErrShort, 14)
		}
		// A protocol that is not known, in a packet that is wrong.
		p := headed(w, 50, 0, nil)
		if v6th {
			checkError(t, framed(34_525, nil, turned(p, 4, 1)), api.ErrLength, 18)
			checkError(t, framed(34_525, nil, turned(headed(w, 50, 1, nil), 6, 44, 42, 1)), api.ErrFragment, 54)
		} else {
			checkError(t, framed(2_048, nil, turned(p, 10, 0, 11, 0)), api.ErrSum, 24)
			checkError(t, framed(2_048, nil, resummed(turned(p, 6, 32))), api.ErrFragment, 20)
			checkError(t, framed(2_048, nil, turned(headed(w, 6, 0, broken), 10, 0, 11, 0)), api.ErrSum, 24)
		}
		// A message that is none, or whose packet is wrong, with a wrong sum, or cut.
		for _, b := range [][]byte{messageOf(w, 77, 0, 1, 2, 3, 4), about(w, nil), about(w, inner(w.back(), 50, 1, 2, 3, 4, 5, 6, 7, 8))} {
			checkError(t, framed(kindOf(v6th), nil, headed(w, icmp, 0, turned(b, 2, int(b[2])^1))), api.ErrSum, from+2)
			checkError(t, framed(kindOf(v6th), nil, headed(w, icmp, 0, b[:7])), api.ErrShort, from)
		}
	}
}

// A frame with a bit that was turned, whichever it is.
func TestParseEveryBit(t *testing.T) {
	for _, s := range allSamples() {
		for _, tags := range tagged() {
			b := s.frame(tags, 1)
			for bit := range 8 * len(b) {
				wrong := bytes.Clone(b)
				wrong[bit/8] ^= 1 << (bit % 8)
				checkParse(t, wrong)
				if at := bit / 8; !s.v6th && at >= behindKind(tags) && at < behindKind(tags)+20 {
					p := wrong[behindKind(tags):]
					if n := int(p[0]) % 16 * 4; n >= 20 && n <= len(p) {
						checkParse(t, append(bytes.Clone(wrong[:behindKind(tags)]), resummed(p)...))
					}
				}
			}
		}
	}
}

// random: bytes that look like no row.
func random(seed *uint32, n int) []byte {
	b := make([]byte, n)
	for i := range b {
		*seed = *seed*1_664_525 + 1_013_904_223
		b[i] = byte(*seed >> 24)
	}
	return b
}

func TestParseOfAnything(t *testing.T) {
	seed := uint32(11)
	for i := range 20_000 {
		m := random(&seed, 300)
		checkParse(t, m[:int(m[299])])
		v6th := i%2 == 0
		tags := tagged()[i%3]
		checkParse(t, framed(kindOf(v6th), tags, m[:int(m[299])]))
		w := way{v4(m[:4]...), v4(m[4:8]...)}
		if v6th {
			w = way{v6(m[:16]...), v6(m[16:32]...)}
		}
		proto := []int{1, 6, 17, 58, int(m[40])}[i%5]
		b := m[50 : 50+int(m[41])%100]
		checkParse(t, framed(kindOf(v6th), tags, headed(w, proto, i%9, b)))
		if at := sumAt(proto); at+2 <= len(b) {
			checkParse(t, framed(kindOf(v6th), tags, headed(w, proto, i%9, summed(b, at, proto, w))))
		}
		all := allSamples()
		f := all[i%len(all)].frame(tags, i%4)
		checkParse(t, turned(f, int(m[42])%len(f), int(m[43])))
		checkParse(t, turned(f, int(m[44])%len(f), int(m[45]), int(m[46])%len(f), int(m[47])))
	}
}

// sumAt: where what that protocol bears has its sum.
func sumAt(proto int) int {
	switch proto {
	case 6:
		return 16
	case 17:
		return 6
	}
	return 2
}

// rightAddr: is all behind the bytes of its version 0?
func rightAddr(a api.Addr) bool {
	for i, v := range a.B {
		if !a.V6 && i >= 4 && v != 0 {
			return false
		}
	}
	return true
}

// range16: may it be a number of two bytes?
func range16(v int) bool {
	return 0 <= v && v <= 65_535
}

// built: what the promise says of Build, byte by byte; nil, if an argument may not be.
func built(p api.Packet) []byte {
	w := way{p.Tuple.Src, p.Tuple.Dst}
	if !rightAddr(w.src) || !rightAddr(w.dst) || w.src.V6 != w.dst.V6 {
		return nil
	}
	b := bears(p, w)
	if b == nil {
		return nil
	}
	head := slices.Concat([]byte{96, 0, 0, 0, high(len(b)), low(len(b)), byte(p.Tuple.Proto), 64}, w.src.B[:], w.dst.B[:])
	if !w.src.V6 {
		head = slices.Concat([]byte{69, 0, high(20 + len(b)), low(20 + len(b)), 0, 0, 0, 0, 64, byte(p.Tuple.Proto), 0, 0}, w.src.B[:4], w.dst.B[:4])
		head[10], head[11] = closed(head)
	}
	f := slices.Concat(make([]byte, 12), []byte{high(kindOf(w.src.V6)), low(kindOf(w.src.V6))}, head, b)
	if len(f) > 2_000 {
		return nil
	}
	return f
}

// bears: what the packet of p bears; nil, if an argument may not be.
func bears(p api.Packet, w way) []byte {
	from, to := p.Tuple.SrcPort, p.Tuple.DstPort
	ports := []byte{high(from), low(from), high(to), low(to)}
	switch p.Tuple.Proto {
	case 6:
		if !range16(from) || !range16(to) || p.Flags < 0 || p.Flags > 63 {
			return nil
		}
		numbers := []byte{byte(p.Seq >> 24), byte(p.Seq >> 16), byte(p.Seq >> 8), byte(p.Seq), byte(p.Ack >> 24), byte(p.Ack >> 16), byte(p.Ack >> 8), byte(p.Ack)}
		return summed(slices.Concat(ports, numbers, []byte{80, byte(p.Flags), 4, 0, 0, 0, 0, 0}, p.Payload), 16, 6, w)
	case 17:
		if !range16(from) || !range16(to) {
			return nil
		}
		return summed(slices.Concat(ports, []byte{high(8 + len(p.Payload)), low(8 + len(p.Payload)), 0, 0}, p.Payload), 6, 17, w)
	case own(w.src.V6):
		// What is right of a message icmp's own tests say.
		b, e := icmp.Build(p.Control, w.src, w.dst)
		if e != nil {
			return nil
		}
		return b
	}
	return nil
}

// parsedAs: what is parsed of what was built of p: what plays no part in it is 0.
func parsedAs(p api.Packet) api.Packet {
	w := api.Tuple{Src: p.Tuple.Src, Dst: p.Tuple.Dst, Proto: p.Tuple.Proto}
	switch {
	case w.Proto == 6:
		p.Control = api.Control{}
		return p
	case w.Proto == 17:
		return api.Packet{Tuple: p.Tuple, Payload: p.Payload}
	case p.Control.Kind == api.Error:
		return api.Packet{Tuple: w, Control: api.Control{Kind: api.Error, Inner: p.Control.Inner}}
	}
	w.SrcPort, w.DstPort = p.Control.Id, p.Control.Id
	return api.Packet{Tuple: w, Control: api.Control{Kind: p.Control.Kind, Id: p.Control.Id}}
}

// checkBuild: Build answers what the promise says, and what it built is parsed.
func checkBuild(t *testing.T, p api.Packet) {
	t.Helper()
	before := bytes.Clone(p.Payload)
	want := built(p)
	b, e := Build(p)
	if want == nil && (!is(e, api.ErrArg, noPlace) || len(b) != 0) || want != nil && e != nil || !bytes.Equal(b, want) {
		t.Fatalf("P11.2: Build of %+v: %v, %v; want %v", p, b, e, want)
	}
	if !bytes.Equal(p.Payload, before) {
		t.Fatalf("R3: Build changed the payload that was handed in: %v; want %v", p.Payload, before)
	}
	if want == nil {
		return
	}
	if again, e := Parse(b); e != nil || !same(again, parsedAs(p)) {
		t.Fatalf("P11.2: what was built of %+v is parsed as %+v, %v", p, again, e)
	}
}

// checkBuilt: Build answers a frame that is parsed as that packet.
func checkBuilt(t *testing.T, p, want api.Packet) {
	t.Helper()
	b, e := Build(p)
	if e != nil {
		t.Fatalf("P11.2: Build of %+v: %v", p, e)
	}
	checkRight(t, b, want)
	checkBuild(t, p)
}

// checkArg: Build answers just that an argument may not be.
func checkArg(t *testing.T, p api.Packet) {
	t.Helper()
	if b, e := Build(p); len(b) != 0 || !is(e, api.ErrArg, noPlace) {
		t.Fatalf("P11.2: Build of %+v: %v, %v; want %d", p, b, e, api.ErrArg)
	}
	checkBuild(t, p)
}

// plain: a packet of each kind on w, which is of that version.
func plain(w way) []api.Packet {
	icmp := own(w.src.V6)
	back := wayOf(w.src.V6).back()
	return []api.Packet{
		{Tuple: tuple(w, 6, 1, 2), Flags: 18, Seq: 3, Ack: 4, Payload: []byte{9, 8}},
		{Tuple: tuple(w, 6, 49_152, 80), Flags: 2},
		{Tuple: tuple(w, 17, 5, 53), Payload: []byte{7}},
		{Tuple: tuple(w, 17, 0, 0)},
		{Tuple: tuple(w, icmp, 9, 9), Control: api.Control{Kind: api.Request, Id: 9}},
		{Tuple: tuple(w, icmp, 0, 0), Control: api.Control{Kind: api.Reply}},
		{Tuple: tuple(w, icmp, 0, 0), Control: api.Control{Kind: api.Error, Inner: tuple(back, 6, 5, 6)}},
		{Tuple: tuple(w, icmp, 0, 0), Control: api.Control{Kind: api.Error, Inner: tuple(back, 17, 7, 8)}},
		{Tuple: tuple(w, icmp, 0, 0), Control: api.Control{Kind: api.Error, Inner: tuple(back, icmp, 3, 3)}},
	}
}

// beyond: numbers of no two bytes, some of them one by their lowest bytes.
func beyond() []int {
	return []int{-1, -2, -256, -65_536, 65_536, 65_537, 1 << 24, 1 << 32, 1<<32 + 5, math.MinInt32, math.MaxInt32, math.MinInt, math.MinInt + 5, math.MaxInt}
}

// ends: the ends of what a number of two bytes may be.
func ends() []int {
	return []int{0, 1, 255, 256, 65_534, 65_535}
}

func TestBuildRight(t *testing.T) {
	for _, v6th := range versions() {
		for _, p := range plain(wayOf(v6th)) {
			checkBuilt(t, p, p)
		}
	}
	low, high := v6(), v6(bytes.Repeat([]byte{255}, 16)...)
	for _, w := range []way{{v4(), v4()}, {v4(255, 255, 255, 255), v4()}, {v4(), v4(255, 255, 255, 255)}, {low, low}, {high, low}, {low, high}, {high, high}} {
		for _, p := range plain(w) {
			checkBuilt(t, p, p)
		}
	}
}

func TestBuildPorts(t *testing.T) {
	for _, v6th := range versions() {
		for _, proto := range []int{6, 17} {
			p := api.Packet{Payload: []byte{1, 2, 3}}
			for _, from := range ends() {
				for _, to := range ends() {
					p.Tuple = tuple(wayOf(v6th), proto, from, to)
					checkBuilt(t, p, p)
				}
			}
			for v := 0; v < 65_536; v += 7 {
				p.Tuple = tuple(wayOf(v6th), proto, v, 65_535-v)
				checkBuilt(t, p, p)
			}
			for _, v := range beyond() {
				p.Tuple = tuple(wayOf(v6th), proto, v, 1)
				checkArg(t, p)
				p.Tuple = tuple(wayOf(v6th), proto, 1, v)
				checkArg(t, p)
			}
		}
	}
}

func TestBuildSegments(t *testing.T) {
	for _, v6th := range versions() {
		p := api.Packet{Tuple: tuple(wayOf(v6th), 6, 5, 6)}
		for flags := -300; flags < 300; flags++ {
			p.Flags = flags
			if flags < 0 || flags > 63 {
				checkArg(t, p)
			} else {
				checkBuilt(t, p, p)
			}
		}
		for _, flags := range slices.Concat(beyond(), []int{1<<32 + 2, 1<<16 + 2}) {
			p.Flags = flags
			checkArg(t, p)
		}
		p.Flags = 0
		for _, seq := range []uint32{0, 1, 0xff, 0x12345678, 1 << 31, math.MaxUint32} {
			for _, ack := range []uint32{0, 2, 0xff00, 0x9abcdef0, 1<<31 - 1, math.MaxUint32} {
				p.Seq, p.Ack = seq, ack
				checkBuilt(t, p, p)
			}
		}
	}
}

// What a frame of that version has room for, and one byte more.
func TestBuildLengths(t *testing.T) {
	for _, v6th := range versions() {
		for _, proto := range []int{6, 17} {
			room := 2_000 - 14 - behindHeads(v6th, 0) - 8
			if proto == 6 {
				room -= 12
			}
			p := api.Packet{Tuple: tuple(wayOf(v6th), proto, 5, 6)}
			for n := 0; n <= room; n++ {
				p.Payload = bytes.Repeat([]byte{byte(n), 7}, n)[:n]
				checkBuilt(t, p, p)
			}
			if b, e := Build(p); len(b) != 2_000 {
				t.Errorf("P11.2: Build of %d bytes: %d, %v; want 2000", room, len(b), e)
			}
			for _, n := range []int{room + 1, room + 2, 2_000, 65_507, 65_508, 65_515, 65_516, 65_527, 65_528, 65_535, 65_536, 65_537, 1 << 17} {
				p.Payload = make([]byte, n)
				checkArg(t, p)
			}
		}
	}
}

func TestBuildProtocols(t *testing.T) {
	for _, v6th := range versions() {
		w := wayOf(v6th)
		for _, p := range plain(w) {
			for proto := -300; proto < 600; proto++ {
				p.Tuple.Proto = proto
				if proto != 6 && proto != 17 && proto != own(v6th) {
					checkArg(t, p)
				}
				checkBuild(t, p)
			}
			for _, proto := range slices.Concat(beyond(), []int{own(!v6th), api.Any, 1<<32 + 6, 1<<16 + 17, 1<<8 + 1, 1<<8 + 58}) {
				p.Tuple.Proto = proto
				checkArg(t, p)
			}
		}
	}
}

// Addresses that are not right, or of unlike versions.
func TestBuildAddresses(t *testing.T) {
	short, long := wayOf(false), wayOf(true)
	for _, w := range []way{{short.src, long.dst}, {long.src, short.dst}, {short.src, v6()}, {v6(), short.src}, {v4(), v6()}, {v6(), v4()}} {
		for _, p := range slices.Concat(plain(short), plain(long)) {
			p.Tuple.Src, p.Tuple.Dst = w.src, w.dst
			checkArg(t, p)
		}
	}
	for i := 4; i < 16; i++ {
		for _, v := range []byte{1, 128, 255} {
			a := short.src
			a.B[i] = v
			for _, p := range plain(short) {
				p.Tuple.Src = a
				checkArg(t, p)
				p.Tuple.Src, p.Tuple.Dst = short.src, a
				checkArg(t, p)
				p.Tuple.Src = a
				checkArg(t, p)
			}
			for _, p := range plain(long) {
				p.Tuple.Dst = a
				checkArg(t, p)
			}
		}
	}
	// Each byte of right ones.
	for v := range 256 {
		for i := range 16 {
			w := long
			w.src.B[i], w.dst.B[15-i] = byte(v), byte(v+1)
			for _, p := range plain(w) {
				checkBuild(t, p)
			}
			w = short
			w.src.B[i%4], w.dst.B[3-i%4] = byte(v), byte(v+1)
			for _, p := range plain(w) {
				checkBuild(t, p)
			}
		}
	}
	checkArg(t, api.Packet{})
	checkArg(t, api.Packet{Tuple: api.Tuple{Proto: 6, Src: v6()}})
	checkBuilt(t, api.Packet{Tuple: api.Tuple{Proto: 6}}, api.Packet{Tuple: api.Tuple{Proto: 6}})
}

// A Control is built as it is: what it has in it that may not be is told.
func TestBuildControls(t *testing.T) {
	for _, v6th := range versions() {
		w := wayOf(v6th)
		back, icmp := w.back(), own(v6th)
		of := func(c api.Control) api.Packet {
			return api.Packet{Tuple: tuple(w, icmp, c.Id, c.Id), Control: c}
		}
		for _, kind := range []int{api.Request, api.Reply} {
			for id := 0; id < 65_536; id += 5 {
				p := of(api.Control{Kind: kind, Id: id})
				checkBuilt(t, p, p)
			}
			for _, id := range beyond() {
				checkArg(t, of(api.Control{Kind: kind, Id: id}))
			}
		}
		for _, kind := range slices.Concat(beyond(), []int{0, api.Else, 5, 6, 17}) {
			checkArg(t, of(api.Control{Kind: kind, Inner: tuple(back, 6, 1, 2)}))
		}
		for _, proto := range []int{6, 17} {
			for _, from := range ends() {
				for _, to := range ends() {
					p := of(api.Control{Kind: api.Error, Inner: tuple(back, proto, from, to)})
					checkBuilt(t, p, p)
				}
			}
			for _, v := range beyond() {
				checkArg(t, of(api.Control{Kind: api.Error, Inner: tuple(back, proto, v, 1)}))
				checkArg(t, of(api.Control{Kind: api.Error, Inner: tuple(back, proto, 1, v)}))
			}
		}
		for _, v := range ends() {
			p := of(api.Control{Kind: api.Error, Inner: tuple(back, icmp, v, v)})
			checkBuilt(t, p, p)
			checkArg(t, of(api.Control{Kind: api.Error, Inner: tuple(back, icmp, v, (v+1)%65_536)}))
		}
		checkArg(t, of(api.Control{Kind: api.Error}))
		checkArg(t, of(api.Control{Kind: api.Error, Inner: tuple(wayOf(!v6th), 6, 1, 2)}))
		checkArg(t, of(api.Control{Kind: api.Error, Inner: tuple(back, own(!v6th), 1, 1)}))
		checkArg(t, of(api.Control{Kind: api.Error, Inner: tuple(back, 50, 1, 1)}))
	}
}

// What a protocol does not have plays no part.
func TestBuildNoPart(t *testing.T) {
	for _, v6th := range versions() {
		w := wayOf(v6th)
		for _, p := range plain(w) {
			q := p
			switch p.Tuple.Proto {
			case 6:
				q.Control = api.Control{Kind: api.Else, Id: -5, Inner: tuple(wayOf(!v6th), -1, -1, 65_536)}
			case 17:
				q.Control = api.Control{Kind: 77, Id: 65_536}
				q.Flags, q.Seq, q.Ack = -1, 5, 6
			default:
				q.Flags, q.Seq, q.Ack, q.Payload = 64, 5, 6, make([]byte, 3_000)
			}
			checkBuilt(t, q, p)
			if p.Tuple.Proto != own(v6th) {
				continue
			}
			for _, v := range beyond() {
				q.Tuple.SrcPort, q.Tuple.DstPort = v, -v
				checkBuilt(t, q, p)
			}
			q.Tuple.SrcPort, q.Tuple.DstPort = 1, 2
			checkBuilt(t, q, p)
		}
	}
}

// The sum of a datagram that would be 0 is told as 65,535, so that what is built is parsed.
func TestBuildDatagramsOfEachSum(t *testing.T) {
	for _, v6th := range versions() {
		p := api.Packet{Tuple: tuple(wayOf(v6th), 17, 5, 6)}
		for v := range 1 << 16 {
			p.Payload = []byte{high(v), low(v)}
			checkBuild(t, p)
		}
	}
}

func TestBuildOfAnything(t *testing.T) {
	seed := uint32(7)
	for i := range 30_000 {
		m := random(&seed, 160)
		w := way{v4(m[:4]...), v4(m[4:8]...)}
		if i%2 == 0 {
			w = way{v6(m[:16]...), v6(m[16:32]...)}
		}
		proto := []int{1, 6, 17, 58, int(m[40])}[i%5]
		p := api.Packet{Tuple: tuple(w, proto, 256*int(m[41])+int(m[42]), 256*int(m[43])+int(m[44]))}
		p.Flags, p.Seq, p.Ack = int(m[45])%66, uint32(m[46])<<24|uint32(m[47]), uint32(m[48])<<16|uint32(m[49])
		p.Payload = m[60 : 60+int(m[50])%100]
		back := wayOf(m[51]%8 == 0 != w.src.V6)
		p.Control = api.Control{Kind: int(m[52]) % 5, Id: 256*int(m[53]) + int(m[54]), Inner: tuple(back, []int{1, 6, 17, 58, 50}[int(m[55])%5], int(m[56])%2, int(m[57])%2)}
		checkBuild(t, p)
	}
}

// fill writes v into all of b, and into the room behind its end.
func fill(b []byte, v byte) {
	b = b[:cap(b)]
	for i := range b {
		b[i] = v
	}
}

// Neither the bytes nor the room behind their end are written; what is answered is no part of them.
func TestParseIsNew(t *testing.T) {
	for _, s := range allSamples() {
		for _, tags := range tagged() {
			whole := s.frame(tags, 1)
			for _, size := range []int{0, 13, 20, 40, len(whole) - 1, len(whole)} {
				room := append(bytes.Clone(whole), bytes.Repeat([]byte{7}, 50)...)
				before := bytes.Clone(room)
				p, e := Parse(room[:size])
				next, _ := Parse(room[:size])
				want, code, place := expected(before[:size])
				if !bytes.Equal(room, before) {
					t.Errorf("R3: Parse of a %s wrote into what it was given: %v; want %v", s.name, room, before)
				}
				if fill(room, 55); !same(p, want) || !is(e, code, place) {
					t.Errorf("R3: Parse of a %s kept what it was given: %+v, %v; want %+v", s.name, p, e, want)
				}
				if fill(next.Payload, 99); !same(p, want) {
					t.Errorf("R3: who writes into what Parse answered changes others: %+v", p)
				}
			}
			room := bytes.Clone(whole)
			p, _ := Parse(room)
			if fill(p.Payload, 99); !bytes.Equal(room, whole) {
				t.Errorf("R3: who writes into what Parse of a %s answered changes what it was given: %v", s.name, room)
			}
		}
	}
}

func TestBuildIsNew(t *testing.T) {
	for _, v6th := range versions() {
		for _, p := range plain(wayOf(v6th)) {
			want := built(p)
			payload := bytes.Clone(p.Payload)
			room := append(bytes.Clone(p.Payload), bytes.Repeat([]byte{7}, 100)...)
			before := bytes.Clone(room)
			p.Payload = room[:len(payload)]
			one, _ := Build(p)
			other, _ := Build(p)
			if !bytes.Equal(room, before) {
				t.Errorf("R3: Build wrote into what it was given: %v; want %v", room, before)
			}
			if fill(one, 99); !bytes.Equal(room, before) || !bytes.Equal(other, want) {
				t.Errorf("R3: who writes into what Build answered changes others: %v, %v", room, other)
			}
			if fill(room, 55); !bytes.Equal(other, want) {
				t.Errorf("R3: Build kept what it was given: %v; want %v", other, want)
			}
		}
	}
}

// Who writes into an error changes no other one.
func TestErrorsAreNew(t *testing.T) {
	w := wayOf(false)
	p := headed(w, 6, 0, segmentOf(w, 0, nil))
	for _, b := range [][]byte{nil, framed(5, nil, nil), framed(2_048, nil, nil), framed(2_048, nil, turned(p, 0, 0x65)), framed(2_048, nil, turned(p, 36, 9)), framed(2_048, nil, headed(w, 50, 0, nil)), framed(2_048, nil, headed(w, 1, 0, messageOf(w, 77, 0, 1, 2, 3, 4)))} {
		_, code, place := expected(b)
		_, held := Parse(b)
		_, next := Parse(b)
		var f *api.Fault
		if !errors.As(next, &f) {
			t.Fatalf("R4: %v: no place in it", next)
		}
		f.At, f.Err = 77, api.ErrBig
		if !is(held, code, place) {
			t.Errorf("R3: who writes into one error changes another: %v", held)
		}
		checkError(t, b, code, place)
	}
}

// Whatever was asked ahead, the same answer comes.
func TestAnswersHangOnArgumentsAlone(t *testing.T) {
	for range 3 {
		for _, s := range allSamples() {
			checkRight(t, s.frame(nil, 0), s.want)
			checkError(t, nil, api.ErrShort, 12)
			checkError(t, s.frame([]int{1, 2, 3}, 0), api.ErrDeep, 20)
			for _, p := range plain(wayOf(!s.v6th)) {
				checkBuilt(t, p, p)
			}
			checkArg(t, api.Packet{})
			checkError(t, framed(5, nil, nil), api.ErrKind, 12)
		}
	}
}
