package tests

import (
	"fmt"
	"os"
	"os/exec"
	"slices"
	"strconv"
	"strings"
	"sync"
	"testing"

	"loop.example/g00535/impl"
)

// Promise 1, of what is worked out once: which call was the first of a whole process is not to be seen in any answer.
// Only a new process has a first call, so the test starts itself anew, and is told by this name which call comes first.
const firstCallName = "RING_FIRST_CALL"

func TestMain(m *testing.M) {
	if first, asked := os.LookupEnv(firstCallName); asked {
		fmt.Print(ringToldFrom(first))
		return
	}
	m.Run()
}

func callsOfRing(key string) []call {
	all := []call{
		func() string { place, code := impl.KeyPlace(key); return told("KeyPlace", place, code) },
		func() string { list, code := impl.Preference(key); return told("Preference", list, code) },
		func() string { list, code := impl.Owners(key); return told("Owners", list, code) },
		func() string { node, code := impl.Fallback(key); return told("Fallback", node, code) },
	}
	for _, node := range []int{-1, 0, 1, 2, 3} {
		all = append(all, func() string { owns, code := impl.OwnsKey(node, key); return told("OwnsKey", node, owns, code) })
	}
	return all
}

// A place ahead of each node, at it and behind it, and keys that are none.
var firstCallKeys = []string{"qz", "aaqx", "abv", "clmpe", "aavz", "ad", "qfglp", "j", "", "A", "sevenaa", longKeys[0]}

func ringCalls() []call {
	var all []call
	for _, key := range firstCallKeys {
		all = append(all, callsOfRing(key)...)
	}
	return all
}

// ringToldFrom asks all calls, the one of that number first, or all beside each other, and tells their answers in order.
func ringToldFrom(first string) string {
	calls := ringCalls()
	answers := make([]string, len(calls))
	if n, err := strconv.Atoi(first); err == nil {
		calls[n]()
		for i, c := range calls {
			answers[i] = c()
		}
		return strings.Join(answers, "")
	}
	start := make(chan bool)
	var all sync.WaitGroup
	for i, c := range calls {
		all.Go(func() {
			<-start
			answers[i] = c()
		})
	}
	close(start)
	all.Wait()
	return strings.Join(answers, "")
}

// ringTold is what the document asks of the same calls.
func ringTold() string {
	var text strings.Builder
	for _, key := range firstCallKeys {
		code := impl.OK
		switch {
		case len(key) > impl.MaxText:
			code = impl.ErrLong
		case slices.Contains(wrongKeys, key):
			code = impl.ErrKey
		}
		text.WriteString(ringToldOf(key, code))
	}
	return text.String()
}

func ringToldOf(key string, code int) string {
	place := placeTold(key)
	list := preferenceTold(place)
	answers := []string{told("KeyPlace", place, code), told("Preference", list[:], code), told("Owners", list[:2], code), told("Fallback", list[2], code)}
	if code != impl.OK {
		answers = []string{told("KeyPlace", 0, code), told("Preference", []int{}, code), told("Owners", []int{}, code), told("Fallback", 0, code)}
	}
	for _, node := range []int{-1, 0, 1, 2, 3} {
		switch {
		case code != impl.OK:
			answers = append(answers, told("OwnsKey", node, false, code))
		case node < 0 || node > 2:
			answers = append(answers, told("OwnsKey", node, false, impl.ErrRange))
		default:
			answers = append(answers, told("OwnsKey", node, node != list[2], impl.OK))
		}
	}
	return strings.Join(answers, "")
}

func TestWhicheverCallComesFirst(t *testing.T) {
	program, err := os.Executable()
	if err != nil {
		t.Fatal(err)
	}
	firsts := []string{"beside", "beside", "beside"}
	for n := range ringCalls() {
		firsts = append(firsts, strconv.Itoa(n))
	}
	want := ringTold()
	for _, first := range firsts {
		again := exec.Command(program)
		again.Env = append(os.Environ(), firstCallName+"="+first)
		got, err := again.Output()
		if err != nil || string(got) != want {
			t.Fatalf("first %s: %v: %s, not %s", first, err, got, want)
		}
	}
}
