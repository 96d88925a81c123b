package whole

import (
	"slices"
	"strings"
	"testing"

	"repartee/api"
	"repartee/play"
	"repartee/shell"
)

// common is the setup of the examples.
var common = api.Setup{Live: 4, Ring: 64, Win: 128, Out: 32, Quantum: 64, Visits: 2}

// tells checks what a text of rounds tells of a text of scripts.
func tells(t *testing.T, s api.Setup, scripts, rounds string, want ...string) {
	t.Helper()
	text, spot, e := play.Play(s, scripts, rounds)
	if got := strings.Split(strings.TrimSuffix(text, "\n"), "\n"); !slices.Equal(got, want) || e != api.OK {
		t.Errorf("%v %d\n got %s\nwant %s", spot, e, strings.Join(got, "; "), strings.Join(want, "; "))
	}
}

// The ten examples of the whole.
func TestTenExamples(t *testing.T) {
	tells(t, common, "script a 9 0", "tick 1\nopen 0", "round 1", "open 0 0", "step 0 1 0 done 0 0 done")

	wait := "script a 99 9\nexpect 10\non \"ok\" b\ntimeout c\nlabel b\ndone\nlabel c\nfail"
	tells(t, common, wait, "tick 3\nopen 0\noffer 0 \"xok\"\ntick 2\nread 0", "round 3", "open 0 0", "round 5", `read 0 "xok"`, "step 0 5 0 match 0 3 run", "step 0 5 1 done 0 0 done")
	tells(t, common, wait, "tick 3\nopen 0\ntick 9\ntick 2", "round 3", "open 0 0", "round 12", "round 14", "step 0 14 0 timeout 0 0 run", "step 0 14 2 fail 0 0 failed")

	s := common
	s.Out = 3
	tells(t, s, "script a 99 0\nsend \"hello\"", "tick 0\nopen 0\ntick 0\nwrite 0 3\ntick 0\nwrite 0 9", "round 0", "open 0 0", "step 0 0 0 load 0 3 run", "round 0", `write 0 "hel"`, "step 0 0 0 load 0 2 run", "round 0", `write 0 "lo"`, "step 0 0 0 sent 0 5 run", "step 0 0 1 done 0 0 done")

	s = common
	s.Ring = 4
	tells(t, s, "script a 99 0\nexpect 50", "tick 0\nopen 0\noffer 0 \"abcdef\"\nread 0\ntick 0\nread 0", "round 0", "open 0 0", `read 0 "abcd"`, "step 0 0 0 look 0 4 run", "round 0", `read 0 "ef"`, "step 0 0 0 look 0 2 run")
	s.Ring, s.Win = 5, 4
	tells(t, s, "script a 99 0\nexpect 50\non \"x\" b\nlabel b", "tick 0\nopen 0\noffer 0 \"abcde\"\nread 0", "round 0", "open 0 0", `read 0 "abcde"`, "step 0 0 0 overflow 0 4 overflow")

	wrong := "script a 9 0\ngoto b\nscript c 9 0"
	tells(t, common, wrong, "tick 0\nopen 0\nopen 1", "round 0", "refuse 0 0 2", "open 1 1", "step 1 0 0 done 0 0 done")
	if l := shell.Run("load \"script a 9 0\\ngoto b\\nscript c 9 0\"\nfaults"); !slices.Equal(l, []string{"ok", "in 0: line 2, column 6: error 13", "right 1"}) {
		t.Error(l)
	}

	s = common
	s.Live = 1
	tells(t, s, "script a 9 0\nexpect never", "tick 0\nopen 0\nopen 0\nabort\ntick 0\nopen 0", "round 0", "open 0 0", "refuse 1 0 7", "drain 0", "step 0 0 0 drained 0 0 drained", "stop", "round 0", "refuse 2 0 8")

	tells(t, common, "script a never 0\nexpect never", "tick 5\nopen 0\ntick 3\ndrain 3\ntick 2\ntick 1", "round 5", "open 0 0", "round 8", "drain 11", "round 10", "round 11", "step 0 11 0 drained 0 0 drained", "stop")

	tells(t, common, "script a never 2\nlabel b\nexpect never\non \"k\" b", "tick 0\nopen 0\noffer 0 \"kkk\"\nread 0", "round 0", "open 0 0", `read 0 "kkk"`, "step 0 0 0 match 0 1 run", "step 0 0 0 match 0 1 run", "step 0 0 0 looped 0 1 failed")
}

// The example of README.md.
func TestReadme(t *testing.T) {
	const scripts = "script greet 100 9\nexpect 10\non \"*hello\" answer\ntimeout gone\nlabel answer\nsend \"good day\\n\"\ndone\nlabel gone\nfail\n"
	const rounds = "tick 1\nopen 0\noffer 0 \"well, hello\"\ntick 2\nread 0\ntick 1\nwrite 0 64\n"
	tells(t, common, scripts, rounds, "round 1", "open 0 0", "round 3", `read 0 "well, hello"`, "step 0 3 0 match 0 11 run", "step 0 3 1 load 0 9 run", "round 4", `write 0 "good day\n"`, "step 0 4 1 sent 0 9 run", "step 0 4 2 done 0 0 done")
}
