package message_test

import (
	"bytes"
	"encoding/binary"
	"encoding/hex"
	"fmt"
	"maps"
	"math"
	"slices"
	"strings"
	"testing"

	"quaestor/api"
)

// top is the greatest number that a message may have; free is of what has no bound.
const (
	top  = 1 << 40
	free = math.MaxInt
)

// Some numbers as eight bytes.
const (
	i0       = "0000000000000000"
	i1       = "0000000000000001"
	i2       = "0000000000000002"
	i3       = "0000000000000003"
	i4       = "0000000000000004"
	i5       = "0000000000000005"
	i6       = "0000000000000006"
	i7       = "0000000000000007"
	i8       = "0000000000000008"
	i9       = "0000000000000009"
	i10      = "000000000000000a"
	i11      = "000000000000000b"
	i1000    = "00000000000003e8"
	itop     = "0000010000000000"
	minusOne = "ffffffffffffffff"
	greatest = "7fffffffffffffff"
	least    = "8000000000000000"
)

// unhex makes bytes of hexadecimal digits; blanks may stand between them.
func unhex(t testing.TB, s string) []byte {
	t.Helper()
	b, err := hex.DecodeString(strings.ReplaceAll(s, " ", ""))
	if err != nil {
		t.Fatalf("%q: %v", s, err)
	}
	return b
}

// ints are numbers that a field, a signer or a kind may be, or none of them.
func ints() []int {
	return []int{math.MinInt, math.MinInt + 1, -1 << 40, -1 << 32, -2, -1, 0, 1, 2, 3, 4, 5, 1000, 1 << 31, 1 << 32, top - 1, top, top + 1, top << 1, math.MaxInt - 1, math.MaxInt}
}

// field is one that counts of a kind, and what it may be: a number, or how much of it there is.
type field struct {
	name        string
	least, most int
}

// rules are the chapter's table, in its order of fields.
func rules() map[int][]field {
	view, first, seq, client, stamp := field{"view", 0, top}, field{"view", 1, top}, field{"seq", 1, top}, field{"client", 0, top}, field{"stamp", 1, top}
	digest, result := field{"digest", 0, free}, field{"result", 0, free}
	return map[int][]field{
		api.MsgRequest:    {client, stamp, {"data", 0, 4096}},
		api.MsgPrePrepare: {view, seq, digest, {"batch", 0, 4}},
		api.MsgPrepare:    {view, seq, digest},
		api.MsgCommit:     {view, seq, digest},
		api.MsgCheckpoint: {seq, digest},
		api.MsgViewChange: {first, {"seq", 0, top}, {"batch", 0, 7}, {"certs", 0, 8}},
		api.MsgNewView:    {first, {"batch", 0, 7}, {"pres", 0, 8}},
		api.MsgReply:      {view, client, stamp, result},
		api.MsgStatus:     {{"seq", 0, top}},
		api.MsgProof:      {{"certs", 1, 1}},
		api.MsgSnapshot:   {seq, {"data", 0, free}, {"batch", 0, 7}},
	}
}

// kinds are those that there are, by rising numbers.
func kinds() []int { return slices.Sorted(maps.Keys(rules())) }

// names are all fields but the kind.
func names() []string {
	return []string{"view", "seq", "client", "stamp", "digest", "data", "result", "batch", "pres", "certs"}
}

// counts tells whether a field counts of a kind.
func counts(kind int, name string) bool {
	return slices.ContainsFunc(rules()[kind], func(f field) bool { return f.name == name })
}

// number tells where a message has a number of that name.
func number(m *api.Message, name string) *int {
	return map[string]*int{"view": &m.View, "seq": &m.Seq, "client": &m.Client, "stamp": &m.Stamp}[name]
}

// list tells where a message has a list of envelopes of that name.
func list(m *api.Message, name string) *[]api.Envelope {
	return map[string]*[]api.Envelope{"batch": &m.Batch, "pres": &m.Pres}[name]
}

// set makes a field that number, or so much of it.
func set(m *api.Message, name string, n int) {
	switch name {
	case "digest":
		m.Digest = api.Digest(strings.Repeat("d", n))
	case "data":
		m.Data = bytes.Repeat([]byte("x"), n)
	case "result":
		m.Result = came(api.Errno(n), -n)
	case "batch", "pres":
		*list(m, name) = envelopes(n)
	case "certs":
		m.Certs = certs(n)
	default:
		*number(m, name) = n
	}
}

// made is a message of a kind, whose fields that count are as wish says.
func made(kind int, wish func(f field) int) api.Message {
	m := api.Message{Kind: kind}
	for _, f := range rules()[kind] {
		set(&m, f.name, wish(f))
	}
	return m
}

// small is a message of a kind of which each field that counts has something.
func small(kind int) api.Message {
	return made(kind, func(f field) int { return min(f.most, 2) })
}

func signed(signer int, body string) api.Envelope {
	return api.Envelope{Signer: signer, Body: []byte(body)}
}

func came(code api.Errno, stage int) api.Result { return api.Result{Code: code, Stage: stage} }

// envelopes are n, each another one; the first ones are not of one length.
func envelopes(n int) []api.Envelope {
	var l []api.Envelope
	for i := range n {
		l = append(l, signed(i, strings.Repeat("e", i%16)))
	}
	return l
}

// certs are n, with more votes each than the one ahead, as far as there may be more.
func certs(n int) []api.Cert {
	var l []api.Cert
	for i := range n {
		l = append(l, api.Cert{Pre: signed(1000+i, "pre"), Votes: envelopes(i % 8)})
	}
	return l
}

// voted is a message of a kind with one certificate of so many votes.
func voted(kind, votes int) api.Message {
	m := small(kind)
	m.Certs = []api.Cert{{Pre: signed(3, "p"), Votes: envelopes(votes)}}
	return m
}

// wells are messages that are well: of each kind with as little and as much as there may be, and between.
func wells() []api.Message {
	var all []api.Message
	for _, k := range kinds() {
		all = append(all,
			made(k, func(f field) int { return f.least }),
			made(k, func(f field) int { return min(f.most, f.least+1) }),
			made(k, func(f field) int { return min(f.most, 3) }),
			made(k, func(f field) int {
				if f.most == free {
					return 70000
				}
				return f.most
			}),
		)
	}
	for _, k := range []int{api.MsgViewChange, api.MsgProof} {
		for votes := range 8 {
			all = append(all, voted(k, votes))
		}
	}
	odd := small(api.MsgReply)
	odd.Result = came(math.MinInt, math.MaxInt)
	ends := small(api.MsgPrePrepare)
	ends.Batch = []api.Envelope{signed(0, ""), signed(top, "\x00"), signed(top, "\x00"), signed(7, strings.Repeat("b", 70000))}
	return append(all, odd, ends)
}

// beyond are messages with a field that counts and is not within its bounds.
func beyond() []api.Message {
	var all []api.Message
	for _, k := range kinds() {
		for _, f := range rules()[k] {
			for _, n := range outside(f) {
				m := small(k)
				set(&m, f.name, n)
				all = append(all, m)
			}
		}
		all = append(all, strangers(k)...)
	}
	for _, k := range []int{api.MsgViewChange, api.MsgProof} {
		for _, votes := range []int{8, 9, 100} {
			m := voted(k, votes)
			all = append(all, m)
		}
	}
	last := made(api.MsgViewChange, func(f field) int { return f.most })
	last.Certs[7].Votes = envelopes(8)
	return append(all, last)
}

// outside are numbers, or amounts, that a field may not have.
func outside(f field) []int {
	switch f.name {
	case "view", "seq", "client", "stamp":
		return slices.DeleteFunc(ints(), func(n int) bool { return n >= f.least && n <= f.most })
	case "digest", "result":
		return nil
	}
	if f.most == free {
		return nil
	}
	return slices.DeleteFunc([]int{0, f.most + 1, f.most + 2, f.most + 300}, func(n int) bool { return n >= f.least && n <= f.most })
}

// strangers are messages of a kind in which a signer is no number that may be, at each place where one stands.
func strangers(kind int) []api.Message {
	var all []api.Message
	for _, n := range []int{math.MinInt, -1 << 40, -1, top + 1, math.MaxInt} {
		for i := range len(signers(ptr(small(kind)))) {
			m := small(kind)
			*signers(&m)[i] = n
			all = append(all, m)
		}
	}
	return all
}

func ptr(m api.Message) *api.Message { return &m }

// signers are where the signers of a message stand.
func signers(m *api.Message) []*int {
	var all []*int
	for _, l := range [][]api.Envelope{m.Batch, m.Pres} {
		for i := range l {
			all = append(all, &l[i].Signer)
		}
	}
	for i, c := range m.Certs {
		all = append(all, &m.Certs[i].Pre.Signer)
		for j := range c.Votes {
			all = append(all, &c.Votes[j].Signer)
		}
	}
	return all
}

// others are messages that are well but for a field that does not count and is not zero.
func others() []api.Message {
	var all []api.Message
	for _, k := range kinds() {
		for _, name := range names() {
			if counts(k, name) {
				continue
			}
			for _, m := range []api.Message{small(k), made(k, func(f field) int { return f.least })} {
				set(&m, name, 1)
				all = append(all, m)
			}
		}
	}
	return all
}

// unknown are messages of no kind that there is: some have nothing, some what those of a kind have.
func unknown() []api.Message {
	var all []api.Message
	for _, k := range append(ints(), 12, 13, 255, 256, 257, 1<<32+1, -11) {
		if k >= 1 && k <= 11 {
			continue
		}
		all = append(all, api.Message{Kind: k})
		for _, known := range kinds() {
			m := small(known)
			m.Kind = k
			all = append(all, m)
		}
	}
	return all
}

// word and row put plainly what layer 1 puts.
func word(n int) []byte { return binary.BigEndian.AppendUint64(nil, uint64(n)) }

func count(n int) []byte { return binary.BigEndian.AppendUint32(nil, uint32(n)) }

func row(x []byte) []byte { return append(count(len(x)), x...) }

func rowOfEnvelopes(l []api.Envelope) []byte {
	b := count(len(l))
	for _, e := range l {
		b = slices.Concat(b, word(e.Signer), row(e.Body))
	}
	return b
}

// fieldBytes puts together a field.
func fieldBytes(m api.Message, name string) []byte {
	switch name {
	case "digest":
		return row([]byte(m.Digest))
	case "data":
		return row(m.Data)
	case "result":
		return append(word(int(m.Result.Code)), word(m.Result.Stage)...)
	case "batch", "pres":
		return rowOfEnvelopes(*list(&m, name))
	case "certs":
		b := count(len(m.Certs))
		for _, c := range m.Certs {
			b = slices.Concat(b, word(c.Pre.Signer), row(c.Pre.Body), rowOfEnvelopes(c.Votes))
		}
		return b
	}
	return word(*number(&m, name))
}

// messageBytes puts together the fields of a message that count of its kind, of which nothing else is asked.
func messageBytes(m api.Message) []byte {
	b := word(m.Kind)
	for _, f := range rules()[m.Kind] {
		b = append(b, fieldBytes(m, f.name)...)
	}
	return b
}

// same holds two messages against each other.
func same(a, b api.Message) bool {
	return a.Kind == b.Kind && a.View == b.View && a.Seq == b.Seq && a.Client == b.Client && a.Stamp == b.Stamp &&
		a.Digest == b.Digest && bytes.Equal(a.Data, b.Data) && a.Result == b.Result &&
		sameList(a.Batch, b.Batch) && sameList(a.Pres, b.Pres) && slices.EqualFunc(a.Certs, b.Certs, sameCert)
}

func sameList(a, b []api.Envelope) bool { return slices.EqualFunc(a, b, sameEnvelope) }

func sameEnvelope(a, b api.Envelope) bool { return a.Signer == b.Signer && bytes.Equal(a.Body, b.Body) }

func sameCert(a, b api.Cert) bool { return sameEnvelope(a.Pre, b.Pre) && sameList(a.Votes, b.Votes) }

// tell tells a message, shortly, without bytes that cannot be shown.
func tell(m api.Message) string {
	return fmt.Sprintf("%.200q", fmt.Sprintf("%+v", m))
}

// looseRow is a row behind whose end other bytes stand.
func looseRow(x []byte) []byte {
	return append(bytes.Clone(x), "behind"...)[:len(x)]
}

// looseList is a list behind whose end another envelope stands, and other bytes behind its bodies.
func looseList(l []api.Envelope) []api.Envelope {
	var out []api.Envelope
	for _, e := range l {
		out = append(out, api.Envelope{Signer: e.Signer, Body: looseRow(e.Body)})
	}
	return append(out, signed(5, "behind"))[:len(l)]
}

// loose is a message, sharing nothing with another one, behind whose lists' ends other things stand.
func loose(m api.Message) api.Message {
	m.Data, m.Batch, m.Pres = looseRow(m.Data), looseList(m.Batch), looseList(m.Pres)
	var all []api.Cert
	for _, c := range m.Certs {
		all = append(all, api.Cert{Pre: looseList([]api.Envelope{c.Pre})[0], Votes: looseList(c.Votes)})
	}
	m.Certs = append(all, api.Cert{Pre: signed(6, "behind")})[:len(all)]
	return m
}

// wholeList tells all that stands in a list, behind its end and its bodies' ends too.
func wholeList(l []api.Envelope) string {
	var s strings.Builder
	for _, e := range l[:cap(l)] {
		fmt.Fprintf(&s, " %d %q", e.Signer, e.Body[:cap(e.Body)])
	}
	return s.String()
}

// whole tells all that stands in a message, behind its lists' ends too.
func whole(m api.Message) string {
	var s strings.Builder
	fmt.Fprintf(&s, "%d %d %d %d %d %q %q %v", m.Kind, m.View, m.Seq, m.Client, m.Stamp, m.Digest, m.Data[:cap(m.Data)], m.Result)
	fmt.Fprintf(&s, " batch %d%s pres %d%s", len(m.Batch), wholeList(m.Batch), len(m.Pres), wholeList(m.Pres))
	for _, c := range m.Certs[:cap(m.Certs)] {
		fmt.Fprintf(&s, " cert%s votes %d%s", wholeList([]api.Envelope{c.Pre}), len(c.Votes), wholeList(c.Votes))
	}
	return s.String()
}

// fill writes over a row.
func fill(x []byte) {
	for i := range x {
		x[i] = '!'
	}
}

func spoilList(l []api.Envelope) {
	for i, e := range l {
		fill(e.Body)
		l[i] = signed(-7, "!")
	}
}

// spoil writes over all that a message's lists hold.
func spoil(m api.Message) {
	fill(m.Data)
	spoilList(m.Batch)
	spoilList(m.Pres)
	for i, c := range m.Certs {
		fill(c.Pre.Body)
		spoilList(c.Votes)
		m.Certs[i] = api.Cert{Pre: signed(-7, "!")}
	}
}
