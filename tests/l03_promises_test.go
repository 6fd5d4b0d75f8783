package tests

import (
	"bytes"
	"slices"
	"strings"
	"testing"

	"loop.example/g00804/impl"
)

// first returns the first token of data, within a paste or outside.
func first(data string, paste bool) impl.TokenResult {
	if paste {
		return impl.FirstPaste([]byte(data))
	}
	return impl.FirstToken([]byte(data))
}

// isToken reports whether the result has a token of the first bytes of data that can be handed on.
func isToken(r impl.TokenResult, data string) bool {
	if r.Code != impl.OK || r.Token.Size < 1 || r.Token.Size > int64(len(data)) {
		return false
	}
	if r.Token.None {
		return unchanged([]impl.Event{r.Token.Event}, []impl.Event{{}})
	}
	return impl.EventFault(r.Token.Event) == impl.OK
}

func laterInputs() []string {
	return []string{"a", "~", "A", "M", "0", ";", "<", " ", "\x1b", "\x1b[201~", "[201~", "201~", "\x1b[A", "[A", "OA", "\x00", "\x7f", "\x80", "\xa9", "\xc3\xa9", "\xff",
		strings.Repeat("1", 30), strings.Repeat("x", 40)}
}

// checkP4 checks the promise for one sequence of bytes.
func checkP4(t *testing.T, data string, paste bool) {
	t.Helper()
	r := first(data, paste)
	flushed := impl.FlushToken([]byte(data), paste)
	if !isToken(flushed, data) {
		t.Fatalf("%.60q (paste %v) is resolved to %+v", data, paste, flushed)
	}
	if r.Code == impl.ErrFull {
		if !sameToken(r, codeOf(impl.ErrFull)) {
			t.Fatalf("%.60q (paste %v) waits with %+v", data, paste, r)
		}
		return
	}
	if !isToken(r, data) {
		t.Fatalf("the first token of %.60q (paste %v) is %+v", data, paste, r)
	}
	if !paste && !sameToken(flushed, r) {
		t.Fatalf("the complete token of %.60q is %+v, resolved to %+v", data, r, flushed)
	}
	for _, later := range laterInputs() {
		if again := first(data+later, paste); !sameToken(again, r) {
			t.Fatalf("the first token of %.60q (paste %v) is %+v, and with %.40q behind it %+v", data, paste, r, later, again)
		}
	}
}

func TestP4EveryStartOfTwoBytes(t *testing.T) {
	for n := range 1 << 16 {
		data := string([]byte{byte(n >> 8), byte(n)})
		checkP4(t, data, false)
		if n < 256 {
			checkP4(t, data[1:], false)
			checkP4(t, data[1:], true)
		}
	}
}

func TestP4SequencesOfAllKinds(t *testing.T) {
	for _, paste := range []bool{false, true} {
		call := func(data string) {
			if data != "" {
				checkP4(t, data, paste)
			}
		}
		eachSequence("", "\x1b[O<2;A~\x1c\xc3\xa9", 4, call)
		eachSequence("\x1b[", "<12;A~uM ", 4, call)
		eachSequence("\x1b[201", "\x1b[~1x", 4, call)
		eachSequence(strings.Repeat("x", 30), "\x1b[201~", 4, call)
		eachSequence("\x1b["+strings.Repeat("0", 19), "3~u;< ", 4, call)
	}
}

func TestP4RandomBytes(t *testing.T) {
	seed := uint64(5)
	all := make([]byte, 256)
	for i := range all {
		all[i] = byte(i)
	}
	for _, alphabet := range []string{string(all), "\x1b[O<0123;;A~uMm", "0123456789;<~", "\xc2\xc3\xe2\xed\xf0\xf4\x80\x90\xa0\xbf"} {
		for range 4000 {
			for _, start := range []string{"", "\x1b", "\x1b[", "\x1b[<", strings.Repeat("y", 27)} {
				data := start + randomData(&seed, alphabet, 30)
				if data != "" {
					checkP4(t, data, false)
					checkP4(t, data, true)
				}
			}
		}
	}
}

// All prefixes of a sequence either wait or have the token of the whole.
func TestP4PrefixesWait(t *testing.T) {
	cases := []string{"\x1b[1;5A", "\x1b[<0;3;4M", "\x1bOA", "\x1bOx", "\xf0\x9f\x98\x80", "\xe2\x82\xac", "\x1b[200~", "\x1b[99z", "\x1b[1 ", "\x1b[1;2;3;4;5x", "\x1b[" + strings.Repeat("1", 22)}
	for _, data := range cases {
		whole := first(data, false)
		if !isToken(whole, data) || whole.Token.Size != int64(len(data)) {
			t.Errorf("the first token of %q is %+v", data, whole)
		}
		for size := 1; size < len(data); size++ {
			checkToken(t, data[:size], codeOf(impl.ErrFull))
		}
	}
	for size := 1; size < 6; size++ {
		checkPaste(t, endOfPaste[:size], codeOf(impl.ErrFull))
	}
}

// Taking token by token, every byte is used once, and after the last one nothing waits.
func TestP4AllInputIsResolved(t *testing.T) {
	seed := uint64(6)
	for range 3000 {
		data := randomData(&seed, "\x1b\x1b[O<012;A~uM x\xc3\xa9\xe2\x00", 120)
		for _, paste := range []bool{false, true} {
			rest, inside := data, paste
			for count := 0; rest != ""; count++ {
				r := first(rest, inside)
				if r.Code == impl.ErrFull {
					r = impl.FlushToken([]byte(rest), inside)
				}
				if !isToken(r, rest) || count > len(data) {
					t.Fatalf("%q stops at %q with %+v", data, rest, r)
				}
				if d := r.Token.Event.Data; len(d) > 0 && string(d) != rest[:r.Token.Size] {
					t.Fatalf("the bytes of %q are %q", rest, d)
				}
				rest, inside = rest[r.Token.Size:], r.Token.Paste
			}
		}
	}
}

func tokenInputs() []string {
	return []string{"", "a", "\x1c", "\x1b", "\x1bx", "\x1b[", "\x1b[1;5", "\x1b[A", "\x1b[99z", "\x1b[1 ", "\x1b[200~", "\x1b[<0;3;4M", "\x1bOA", "\x1bOx", "\x1b\x1b",
		"\xc3", "\xc3\xa9", "\xff", "ab" + endOfPaste, endOfPaste, "ab\x1b[2", strings.Repeat("x", 31), strings.Repeat("x", 40), "\x1b[" + strings.Repeat("1", 40)}
}

func tokenCalls() []func([]byte) impl.TokenResult {
	return []func([]byte) impl.TokenResult{
		impl.FirstToken, impl.FirstPaste,
		func(data []byte) impl.TokenResult { return impl.FlushToken(data, false) },
		func(data []byte) impl.TokenResult { return impl.FlushToken(data, true) },
	}
}

func copyOf(r impl.TokenResult) impl.TokenResult {
	r.Token.Event.Data = slices.Clone(r.Token.Event.Data)
	return r
}

func TestP1TokenArgumentsStay(t *testing.T) {
	for _, start := range tokenInputs() {
		for i, call := range tokenCalls() {
			// What lies behind the argument in memory would make another token of it.
			room := []byte(start + "[A~\x1b[201~" + strings.Repeat("z", 40))
			before := bytes.Clone(room)
			got := call(room[:len(start)])
			if !bytes.Equal(room, before) {
				t.Errorf("call %d: the argument %q became %q", i, before, room)
			}
			if again := call([]byte(start)); !sameToken(again, got) {
				t.Errorf("call %d of %q: %+v, then %+v", i, start, got, again)
			}
		}
	}
}

func TestP1TokenResultsAreNew(t *testing.T) {
	for _, start := range tokenInputs() {
		for i, call := range tokenCalls() {
			data := []byte(start)
			one, two := call(data), call(data)
			want := copyOf(one)
			spoil(data)
			if !sameToken(one, want) || !sameToken(two, want) {
				t.Errorf("call %d of %q: the result shares memory with the argument", i, start)
			}
			spoil(one.Token.Event.Data)
			if !sameToken(two, want) || !sameToken(call([]byte(start)), want) {
				t.Errorf("call %d of %q: the results share memory", i, start)
			}
		}
	}
}

func TestP1PartsOfTokensStay(t *testing.T) {
	for _, numbers := range [][]int64{{}, {3}, {1, 5}, {1, 9}, {0, 3, 4}, {99, 3, 4}, {1, 2, 3, 4}} {
		for _, final := range []byte{'A', '~', 'u', 'M', 'm', 'z'} {
			for _, private := range []bool{false, true} {
				room := append(slices.Clone(numbers), 11, 12, 13)
				before := slices.Clone(room)
				p := impl.PartsResult{Private: private, Numbers: room[:len(numbers)], Final: final, Size: 5}
				key, mouse := impl.KeyOfParts(p), impl.MouseOfParts(p)
				if !slices.Equal(room, before) {
					t.Errorf("the numbers %v became %v", before, room)
				}
				p.Numbers = slices.Clone(numbers)
				if !sameToken(impl.KeyOfParts(p), key) || !sameToken(impl.MouseOfParts(p), mouse) {
					t.Errorf("the results for %+v differ: %+v, %+v", p, key, mouse)
				}
			}
		}
	}
}
