package disk_test

import (
	"math"
	"reflect"
	"slices"
	"testing"

	"heartwood/api"
	"heartwood/disk"
)

// deed does one act of that kind on a disk that has a page, and room for more.
func deed(d *disk.Disk, act api.Act) api.Errno {
	switch act {
	case api.ActWrite:
		return d.Write(0, full(d.Page(), "w"))
	case api.ActGrow:
		return d.Grow(1)
	}
	return d.Sync()
}

func acts() []api.Act { return []api.Act{api.ActWrite, api.ActGrow, api.ActSync} }

// refusal is what an act of that kind answers, if an arm refuses it.
func refusal(act api.Act) api.Errno {
	if act == api.ActGrow {
		return api.ErrFull
	}
	return api.ErrIO
}

func TestArmsThatMayNotBe(t *testing.T) {
	d := made(t, 1024, 9, zeros(1024))
	good := api.Arm{On: api.ActWrite, Nth: 1}
	bad := []api.Arm{{}, {On: 4, Nth: 1}, {On: 5, Nth: 1}, {On: 255, Nth: 1, Power: true}, {On: api.ActWrite}}
	for _, n := range ends() {
		bad = append(bad, api.Arm{On: api.ActSync, Nth: n}, api.Arm{On: api.ActAny, Nth: n, Power: true, Fates: []api.Fate{1}})
	}
	for _, x := range bad {
		answers(t, "arms that may not be", []api.Errno{d.Arm(x), d.Arm(x, good), d.Arm(good, x), d.Arm(good, x, good)}, api.ErrArg, api.ErrArg, api.ErrArg, api.ErrArg)
		many := slices.Repeat([]api.Arm{good}, api.MaxArms+1)
		many[api.MaxArms] = x
		answers(t, "too many of which one may not be", []api.Errno{d.Arm(many...)}, api.ErrArg)
	}
	if d.Armed() != 0 || d.Write(0, zeros(1024)) != api.OK {
		t.Error("a refused Arm has put something there")
	}
}

func TestMostArms(t *testing.T) {
	far := api.Arm{On: api.ActAny, Nth: math.MaxInt}
	for there := range api.MaxArms + 1 {
		d := made(t, 1024, 9, zeros(1024))
		first, rest := slices.Repeat([]api.Arm{far}, there), slices.Repeat([]api.Arm{far}, api.MaxArms-there)
		answers(t, "some arms", []api.Errno{d.Arm(first...), d.Arm(append(rest, far)...)}, api.OK, api.ErrLong)
		if d.Armed() != there {
			t.Errorf("%d arms, and not %d", d.Armed(), there)
		}
		answers(t, "all arms, none more, one more, a wrong one", []api.Errno{d.Arm(rest...), d.Arm(), d.Arm(far), d.Arm(api.Arm{})}, api.OK, api.OK, api.ErrLong, api.ErrArg)
		answers(t, "acts", []api.Errno{d.Write(0, zeros(1024)), d.Grow(1), d.Sync()}, api.OK, api.OK, api.OK)
		if d.Armed() != api.MaxArms {
			t.Errorf("%d arms", d.Armed())
		}
	}
}

// An arm that is used up makes room for another one.
func TestArmsMakeRoom(t *testing.T) {
	d := made(t, 1024, 9, zeros(1024))
	answers(t, "arms", []api.Errno{d.Arm(slices.Repeat([]api.Arm{{On: api.ActSync, Nth: 1}}, api.MaxArms)...), d.Sync(), d.Arm(api.Arm{Nth: 1}), d.Sync()}, api.OK, api.ErrIO, api.OK, api.ErrIO)
}

// Each kind of act is refused at the Nth of those that the arm counts, and at no other.
func TestRefusedActs(t *testing.T) {
	for _, on := range append(acts(), api.ActAny) {
		for nth := 1; nth < 5; nth++ {
			d := made(t, 2048, 99, zeros(2048))
			arm := api.Arm{On: on, Nth: nth, Fates: []api.Fate{255}}
			answers(t, "an arm", []api.Errno{d.Arm(arm)}, api.OK)
			counted := 0
			for range 6 {
				for _, act := range acts() {
					if on == act || on == api.ActAny {
						counted++
					}
					due := counted == nth && (on == act || on == api.ActAny)
					before := looks(t, d)
					e := deed(d, act)
					if !due && e != api.OK || due && e != refusal(act) {
						t.Fatalf("arm %v, act %d: %v", arm, act, e)
					}
					if due {
						before.armed = 0
						holds(t, d, before)
					}
				}
			}
		}
	}
}

// Calls that are refused for themselves, reads and looks are no acts; one that an arm refuses is.
func TestWhatArmsCount(t *testing.T) {
	d := made(t, 1024, 2, zeros(1024))
	a := mixed(1024, 1)
	answers(t, "arms", []api.Errno{d.Arm(api.Arm{On: api.ActAny, Nth: 3}, api.Arm{On: api.ActWrite, Nth: 1}, api.Arm{On: api.ActWrite, Nth: 2})}, api.OK)
	for range 3 {
		d.Read(0)
		d.Read(9)
		looks(t, d)
		d.Take()
		answers(t, "no acts", []api.Errno{d.Write(1, a), d.Write(0, "a"), d.Grow(0), d.Grow(2), d.Arm(), d.Arm(api.Arm{}), d.Wake()},
			api.ErrPage, api.ErrArg, api.ErrArg, api.ErrFull, api.OK, api.ErrArg, api.ErrOn)
	}
	if d.Armed() != 3 {
		t.Errorf("%d arms", d.Armed())
	}
	answers(t, "acts", []api.Errno{d.Write(0, a), d.Write(0, a), d.Sync(), d.Write(0, a)}, api.ErrIO, api.ErrIO, api.ErrIO, api.OK)
}

// Acts that were done ahead of an arm are not counted by it.
func TestArmsCountFromThenOn(t *testing.T) {
	d := made(t, 1024, 9, zeros(1024))
	answers(t, "one ahead", []api.Errno{d.Sync(), d.Arm(api.Arm{On: api.ActSync, Nth: 2}), d.Sync(), d.Arm(api.Arm{On: api.ActSync, Nth: 2}), d.Sync(), d.Sync(), d.Sync()},
		api.OK, api.OK, api.OK, api.OK, api.ErrIO, api.ErrIO, api.OK)
}

// Of several that are due the first that was put there says what happens, and all of them are gone.
func TestSeveralDue(t *testing.T) {
	power, refuse := api.Arm{On: api.ActWrite, Nth: 2, Power: true, Fates: []api.Fate{1, 2}}, api.Arm{On: api.ActAny, Nth: 2}
	later := api.Arm{On: api.ActAny, Nth: 3}
	z, a := zeros(1024), full(1024, "a")

	d := made(t, 1024, 9, z)
	answers(t, "refusal first", []api.Errno{d.Arm(later, refuse, power, refuse), d.Write(0, a), d.Write(0, a)}, api.OK, api.OK, api.ErrIO)
	if d.Armed() != 1 || !d.On() {
		t.Errorf("%d arms, on is %t", d.Armed(), d.On())
	}
	answers(t, "and the later one", []api.Errno{d.Write(0, a), d.Write(0, a)}, api.ErrIO, api.OK)

	d = made(t, 1024, 9, z)
	answers(t, "power first", []api.Errno{d.Arm(later), d.Arm(power), d.Arm(refuse), d.Write(0, a), d.Write(0, a)}, api.OK, api.OK, api.OK, api.OK, api.ErrOff)
	if d.Armed() != 0 || d.On() {
		t.Errorf("%d arms, on is %t", d.Armed(), d.On())
	}
	same(t, "its fates", d.Image(), a[:256]+z[256:])

	// Put there first is not due first: what was put there at an earlier call stands ahead, though it counts fewer acts.
	d = made(t, 1024, 9, z)
	answers(t, "by calls", []api.Errno{d.Arm(api.Arm{On: api.ActWrite, Nth: 1}), d.Arm(api.Arm{Nth: 2, Power: true}), d.Sync(), d.Write(0, a), d.Sync()}, api.OK, api.OK, api.OK, api.ErrIO, api.OK)

	for _, two := range [][]api.Fate{{1, 2}, {2, 1}} {
		d = made(t, 1024, 9, z)
		arms := []api.Arm{{Nth: 1, Power: true, Fates: two[:1]}, {Nth: 1, Power: true, Fates: two[1:]}}
		answers(t, "two losses", []api.Errno{d.Arm(arms...), d.Write(0, a)}, api.OK, api.ErrOff)
		if d.Taken() != 1 || d.Image()[0] == z || (d.Image()[0][0] == 'a') != (two[0] == 1) {
			t.Errorf("the first arm's fates are %v", two[0])
		}
	}
}

// The arms that are handed in are neither changed nor kept.
func TestArmsHandedIn(t *testing.T) {
	fates := []api.Fate{255, 0, 7}
	arms := []api.Arm{{On: api.ActSync, Nth: 2, Power: true, Fates: fates[:1]}, {Nth: 9}, {Nth: 8}}
	was := []api.Arm{{On: api.ActSync, Nth: 2, Power: true, Fates: []api.Fate{255}}, {Nth: 9}, {Nth: 8}}
	a := full(1024, "a")
	d := made(t, 1024, 9, zeros(1024))
	answers(t, "acts", []api.Errno{d.Arm(arms[:2]...), d.Sync(), d.Write(0, a)}, api.OK, api.OK, api.OK)
	if !reflect.DeepEqual(arms, was) || !slices.Equal(fates, []api.Fate{255, 0, 7}) {
		t.Errorf("what was handed in is %v now", arms)
	}
	clear(fates)
	clear(arms)
	answers(t, "the loss of power", []api.Errno{d.Sync()}, api.ErrOff)
	same(t, "the image", d.Image(), a)

	given := []api.Fate{255, 255}
	d = made(t, 1024, 9, zeros(1024))
	answers(t, "a crash", []api.Errno{d.Write(0, a), d.Crash(given[:1]...)}, api.OK, api.OK)
	if !slices.Equal(given, []api.Fate{255, 255}) {
		t.Error(given)
	}
}
