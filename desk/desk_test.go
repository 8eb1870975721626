package desk

import (
	"reflect"
	"slices"
	"strings"
	"testing"

	"feria/api"
	"feria/plan"
)

const weekly = `DTSTART:19700105T090000Z\nRRULE:FREQ=WEEKLY;BYDAY=MO,TU`

// ready is a desk with some plans.
func ready(t *testing.T) *Desk {
	t.Helper()
	d := New()
	for _, line := range []string{"let a 0 9 * * 1-5", "let b Mon..Fri 9:00", "let c " + weekly, "let never *-02-30", "let either 0 0 13 * 5", `let huge DTSTART:19700105T090000Z\nRRULE:FREQ=DAILY;INTERVAL=999999999999999`} {
		if a := d.Do(line); !strings.HasPrefix(a, "ok ") {
			t.Fatalf("%q: %q", line, a)
		}
	}
	return d
}

func TestDo(t *testing.T) { // 46.1
	for _, c := range []struct{ line, want string }{
		{"let x 0 9 * * 1-5", "ok cron"}, {"let x daily", "ok cal"}, {"let abcdefgh " + weekly, "ok rule"}, {"let x   0 9 * * 1-5  ", "ok cron"}, {"let a x", "bad"}, {"let az daily", "ok cal"}, {"let a{ daily", "bad"}, {"let a` daily", "bad"}, {"let a ", "bad"}, {"let a", "bad"}, {"let", "bad"}, {"let ", "bad"}, {"let A daily", "bad"}, {"let abcdefghi daily", "bad"}, {"let a1 daily", "bad"}, {"let  daily", "bad"}, {"let a @daily", "bad"},
		{"show a", "0 9 * * 1-5"}, {"show b", "Mon..Fri *-*-* 09:00:00"}, {"show c", weekly}, {"show d", "none"}, {"show", "bad"}, {"show ", "bad"}, {"show a b", "bad"}, {"show a ", "bad"}, {"show  a", "bad"}, {"show A", "bad"}, {"show ninechars", "bad"}, {"show eightcha", "none"},
		{"canon a", "0 9 * * 1-5"}, {"canon c", `DTSTART:19700105T090000Z\nRRULE:FREQ=DAILY;BYDAY=MO,TU`}, {"canon never", "*-02-30 00:00:00"}, {"canon huge", "large"}, {"canon d", "none"}, {"canon", "bad"},
		{"tell a cal", "Mon..Fri *-*-* 09:00:00"}, {"tell a rule", `DTSTART:19700101T090000Z\nRRULE:FREQ=DAILY;BYDAY=MO,TU,WE,TH,FR`}, {"tell b cron", "0 9 * * 1-5"}, {"tell either cal", "none"}, {"tell huge cal", "large"}, {"tell d cal", "none"}, {"tell a xyz", "bad"}, {"tell d xyz", "bad"}, {"tell a", "bad"}, {"tell a cal x", "bad"}, {"tell A cal", "bad"},
		{"next a 19700101T000000Z", "1970-01-01 09:00:00"}, {"next a 19700101T090000Z", "1970-01-02 09:00:00"}, {"next never 19700101T090000Z", "none"}, {"next huge 19700101T090000Z", "large"}, {"next d 19700101T090000Z", "none"}, {"next a 19700101T090000", "bad"}, {"next d 5", "bad"}, {"next a 23700101T000000Z", "bad"}, {"next a", "bad"},
		{"has a 19700101T090000Z", "meant"}, {"has a 19700101T000000Z", "hour"}, {"has a 19700103T090000Z", "weekday"}, {"has huge 19700103T090000Z", "large"}, {"has d 19700103T090000Z", "none"}, {"has a x", "bad"},
		{"equal a b", "yes"}, {"equal a c", "no 1970-01-01 09:00:00"}, {"equal a d", "none"}, {"equal d a", "none"}, {"equal d x", "none"}, {"equal a huge", "large"}, {"equal a", "bad"}, {"equal a b c", "bad"}, {"equal a B", "bad"}, {"equal d B", "bad"}, {"equal B d", "bad"},
		{"subset c a", "yes"}, {"subset a c", "no 1970-01-01 09:00:00"}, {"subset never either", "yes"}, {"subset a d", "none"}, {"subset huge a", "large"},
		{"drop a", "ok"}, {"drop d", "none"}, {"drop", "bad"}, {"drop a b", "bad"}, {"drop D", "bad"},
		{"names", "a b c either huge never"}, {"names x", "bad"}, {"names ", "bad"}, {"", "bad"}, {" ", "bad"}, {" names", "bad"}, {"Names", "bad"}, {"give a", "bad"}, {"show a\n", "bad"},
	} {
		if a := ready(t).Do(c.line); a != c.want {
			t.Errorf("%q: %q, want %q", c.line, a, c.want)
		}
	}
}

func TestNamesPlan(t *testing.T) { // 46.1
	d := ready(t)
	if got := d.Names(); !slices.Equal(got, []string{"a", "b", "c", "either", "huge", "never"}) {
		t.Errorf("Names: %v", got)
	}
	p, ok := d.Plan("c")
	want, _ := plan.Guess(strings.ReplaceAll(weekly, `\n`, "\n"))
	if !ok || !reflect.DeepEqual(p, want) {
		t.Errorf("Plan: %+v, %v", p, ok)
	}
	p.Rule.Week[0].Day = 5
	q, _ := d.Plan("a")
	q.Cron.Hour[0].From = 5
	if d.Do("show c") != weekly || d.Do("show a") != "0 9 * * 1-5" {
		t.Error("what is told is new memory")
	}
	if p, ok := d.Plan("x"); ok || !reflect.DeepEqual(p, api.Plan{}) {
		t.Errorf("Plan of none: %+v", p)
	}
	if len(New().Names()) != 0 || New().Do("names") != "" {
		t.Error("a new desk")
	}
	var n *Desk
	if n.Do("names") != "bad" || n.Names() != nil {
		t.Error("a nil desk")
	}
	if p, ok := n.Plan("a"); ok || !reflect.DeepEqual(p, api.Plan{}) {
		t.Error("a plan of a nil desk")
	}
}

func TestPlay(t *testing.T) { // 46.1
	for text, want := range map[string]string{
		"": "", "\n": "bad\n", "names": "\n", "names\n": "\n", "\nnames": "bad\n\n",
		"let a 0 9 * * 1-5\ntell a cal": "ok cron\nMon..Fri *-*-* 09:00:00\n", "let a daily\ndrop a\nshow a\nlet a x\n": "ok cal\nok\nnone\nbad\n",
		"let b " + weekly + "\nlet a daily\nnames\nshow b\n": "ok rule\nok cal\na b\n" + weekly + "\n", "let a daily\r\n": "bad\n",
	} {
		if got := Play(text); got != want {
			t.Errorf("Play(%q) = %q, want %q", text, got, want)
		}
	}
}

func TestOnlyLetAndDropChange(t *testing.T) { // 46.2
	d := ready(t)
	all := func() string {
		out := d.Do("names")
		for _, n := range d.Names() {
			out += "\n" + d.Do("show "+n)
		}
		return out
	}
	before := all()
	for _, line := range []string{"show a", "canon c", "tell a cal", "next a 19700101T000000Z", "has a 19700101T000000Z", "equal a b", "subset a b", "names", "let a x", "let A daily", "drop x", "drop a b", "", "x"} {
		d.Do(line)
		if all() != before {
			t.Errorf("%q changes the desk", line)
		}
	}
	d.Do("let a daily")
	d.Do("drop b")
	if d.Do("show a") != "*-*-* 00:00:00" || d.Do("show b") != "none" || len(d.Names()) != 5 {
		t.Error("let and drop")
	}
}
