package block_test

import (
	"bytes"
	"math"
	"slices"
	"testing"

	"quaestor/api"
	"quaestor/block"
	"quaestor/merkle"
	"quaestor/term"
)

// leaf is the digest of numbered's request i.
func leaf(i int) api.Digest {
	b := numbered(i + 1)
	return term.Leaf(2, leafBytes(b.Requests[i], b.Results[i]))
}

func right(d api.Digest) api.Step { return api.Step{Left: false, Digest: d} }

func left(d api.Digest) api.Step { return api.Step{Left: true, Digest: d} }

// TestProve is of promise 10.2: the path of each place.
func TestProve(t *testing.T) {
	front, back := term.Pair(3, leaf(0), leaf(1)), term.Pair(3, leaf(2), leaf(3))
	for n, paths := range [][][]api.Step{
		{},
		{{}},
		{{right(leaf(1))}, {left(leaf(0))}},
		{{right(leaf(1)), right(leaf(2))}, {left(leaf(0)), right(leaf(2))}, {left(front)}},
		{{right(leaf(1)), right(back)}, {left(leaf(0)), right(back)}, {right(leaf(3)), left(front)}, {left(leaf(2)), left(front)}},
	} {
		for i, want := range paths {
			if got, err := block.Prove(numbered(n), i); err != api.OK || !slices.Equal(got, want) {
				t.Errorf("%d of %d: %#v, %d, want %#v", i, n, got, err, want)
			}
		}
	}
}

// TestProveOfNoPlace is of promise 10.2: there is no request i.
func TestProveOfNoPlace(t *testing.T) {
	for n := range api.MaxBatch + 1 {
		for _, i := range append(ints(), n, n+1) {
			path, err := block.Prove(numbered(n), i)
			switch {
			case i >= 0 && i < n && err != api.OK:
				t.Errorf("%d of %d: %d", i, n, err)
			case (i < 0 || i >= n) && (err != api.ErrRange || len(path) > 0):
				t.Errorf("%d of %d: %#v, %d", i, n, path, err)
			}
		}
	}
}

// TestProveOfWrong is of promise 10.2: Check's error is first, whatever the place is.
func TestProveOfWrong(t *testing.T) {
	for want, all := range wrong() {
		for _, b := range all {
			for _, i := range ints() {
				if path, err := block.Prove(b, i); err != want || len(path) > 0 {
					t.Errorf("height %d, %d requests, %d results, place %d: %#v, %d, want %d", b.Height, len(b.Requests), len(b.Results), i, path, err, want)
				}
			}
		}
	}
}

// TestProveIsNew is of promise 10.2 (R4, R5): a block stays as it is; each path is another one's memory, and the same.
func TestProveIsNew(t *testing.T) {
	l := loose(numbered(4))
	was := whole(l)
	first, _ := block.Prove(l, 2)
	second, _ := block.Prove(l, 2)
	want := slices.Clone(second)
	if !slices.Equal(first, second) || whole(l) != was {
		t.Errorf("%#v, and then %#v; %s, and then %s", first, second, was, whole(l))
	}
	for i := range first {
		first[i] = api.Step{}
	}
	spoil(l)
	if !slices.Equal(second, want) {
		t.Errorf("%#v, and then %#v", want, second)
	}
}

// TestIncluded is of promise 10.2: what stands there, and all that does not.
func TestIncluded(t *testing.T) {
	b := numbered(3)
	h := block.Header(b)
	other := func(change func(*api.Header)) api.Header {
		x := h
		change(&x)
		return x
	}
	path := []api.Step{left(leaf(0)), right(leaf(2))}
	e, r := b.Requests[1], b.Results[1]
	for name, x := range map[string]struct {
		h    api.Header
		i    int
		e    api.Envelope
		r    api.Result
		path []api.Step
		want api.Errno
	}{
		"it":                 {h, 1, e, r, path, api.OK},
		"another height":     {other(func(h *api.Header) { h.Height = -5 }), 1, e, r, path, api.OK}, // the root has it not
		"another one ahead":  {other(func(h *api.Header) { h.Prev = "" }), 1, e, r, path, api.OK},
		"another root":       {other(func(h *api.Header) { h.Root = leaf(1) }), 1, e, r, path, api.ErrPath},
		"no root":            {other(func(h *api.Header) { h.Root = "" }), 1, e, r, path, api.ErrPath},
		"fewer":              {other(func(h *api.Header) { h.Count = 2 }), 1, e, r, path, api.ErrPath},
		"far fewer":          {other(func(h *api.Header) { h.Count = 1 }), 1, e, r, path, api.ErrRange},
		"none":               {other(func(h *api.Header) { h.Count = 0 }), 1, e, r, path, api.ErrRange},
		"fewer than none":    {other(func(h *api.Header) { h.Count = math.MinInt }), 1, e, r, path, api.ErrRange},
		"far more":           {other(func(h *api.Header) { h.Count = math.MaxInt }), 1, e, r, path, api.ErrPath},
		"another place":      {h, 0, e, r, path, api.ErrPath},
		"no place":           {h, 3, e, r, path, api.ErrRange},
		"no place ahead":     {h, -1, e, r, path, api.ErrRange},
		"the greatest place": {h, math.MaxInt, e, r, nil, api.ErrRange},
		"another signer":     {h, 1, signed(1000, "x"), r, path, api.ErrPath},
		"another body":       {h, 1, signed(1001, "y"), r, path, api.ErrPath},
		"no body":            {h, 1, signed(1001, ""), r, path, api.ErrPath},
		"another request":    {h, 1, b.Requests[2], r, path, api.ErrPath},
		"another code":       {h, 1, e, came(11, 0), path, api.ErrPath},
		"another stage":      {h, 1, e, came(10, 1), path, api.ErrPath},
		"another result":     {h, 1, e, b.Results[0], path, api.ErrPath},
		"no path":            {h, 1, e, r, nil, api.ErrPath},
		"a shorter path":     {h, 1, e, r, path[:1], api.ErrPath},
		"a longer path":      {h, 1, e, r, append(slices.Clone(path), right("")), api.ErrPath},
		"another side":       {h, 1, e, r, []api.Step{right(leaf(0)), right(leaf(2))}, api.ErrPath},
		"another digest":     {h, 1, e, r, []api.Step{left(leaf(0)), right(leaf(1))}, api.ErrPath},
	} {
		if got := block.Included(x.h, x.i, x.e, x.r, x.path); got != x.want {
			t.Errorf("%s: %d, want %d", name, got, x.want)
		}
	}
	if got := block.Included(api.Header{}, 0, api.Envelope{}, api.Result{}, nil); got != api.ErrRange {
		t.Errorf("of nothing: %d", got)
	}
}

// TestIncludedIsCheck is of promise 10.2: all that merkle's Check says of places, counts and paths.
func TestIncludedIsCheck(t *testing.T) {
	b := numbered(4)
	h := block.Header(b)
	for _, count := range ints() {
		h.Count = count
		for _, i := range ints() {
			for at := range b.Requests {
				path, _ := block.Prove(b, at)
				e, r := b.Requests[at], b.Results[at]
				if got, want := block.Included(h, i, e, r, path), merkle.Check(h.Root, leafBytes(e, r), i, count, path); got != want {
					t.Errorf("%d at %d of %d: %d, want %d", at, i, count, got, want)
				}
			}
		}
	}
}

// TestIncludedLeavesAll is of promise 10.2 (R4, R5): what is handed in stays as it is, behind its end too, and the answer is the same again.
func TestIncludedLeavesAll(t *testing.T) {
	b := numbered(4)
	p, _ := block.Prove(b, 3)
	path := append(slices.Clone(p), left("behind"))
	body := append(bytes.Clone(b.Requests[3].Body), "behind"...)
	steps, text := slices.Clone(path), string(body)
	for range 2 {
		e := api.Envelope{Signer: 1003, Body: body[:3]}
		if got := block.Included(block.Header(b), 3, e, b.Results[3], path[:2]); got != api.OK {
			t.Errorf("%d", got)
		}
	}
	if !slices.Equal(path, steps) || string(body) != text {
		t.Errorf("%#v, and then %#v; %q, and then %q", steps, path, text, body)
	}
}
