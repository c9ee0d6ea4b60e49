package tests

import (
	bytehex "encoding/hex"
	"strings"

	"loop.example/g01309/impl"
)

func complexOf(text string) complex64 {
	return complex(numbers(text[:8])[0], numbers(text[8:])[0])
}

func guessOf(text string) impl.Guess {
	mean, spread, _ := strings.Cut(text, ":")
	return impl.Guess{Mean: numbers(mean)[0], Spread: numbers(spread)[0]}
}

// trackOf reads a track as sensorCase has it.
func trackOf(text string) impl.Track {
	name, rest, _ := strings.Cut(text, ":")
	return impl.Track{Name: name, Hundreds: wholesOf(rest)}
}

func tracksOf(text string) []impl.Track {
	var list []impl.Track
	for _, part := range partsOf(text, "/") {
		list = append(list, trackOf(part))
	}
	return list
}

// bytesOf reads bytes as sensorCase has them.
func bytesOf(text string) string {
	if text == "-" {
		return ""
	}
	s, err := bytehex.DecodeString(text)
	if err != nil {
		panic(err)
	}
	return string(s)
}

func guessText(g impl.Guess) string { return digits(g.Mean) + ":" + digits(g.Spread) }

func tracksText(list []impl.Track) string {
	var words []string
	for _, t := range list {
		words = append(words, t.Name+":"+wholes(t.Hundreds))
	}
	return joined(words, "/")
}

func toldPair(x, y float32, ok bool) string { return orFail(ok, digits(x), digits(y)) }

func toldWholePair(n, k int64, ok bool) string { return orFail(ok, whole(n), whole(k)) }

func toldGuess(g impl.Guess, ok bool) string { return orFail(ok, guessText(g)) }

func toldMeans(g impl.Guess, means []float32, ok bool) string {
	return orFail(ok, guessText(g), toldList(means, true))
}

func toldWave(wave complex64, ok bool) string {
	return orFail(ok, digits(real(wave))+digits(imag(wave)))
}

func toldTrack(t impl.Track, ok bool) string { return orFail(ok, tracksText([]impl.Track{t})) }

func toldBytes(s string, ok bool) string {
	if ok && s == "" {
		return "-"
	}
	return orFail(ok, bytehex.EncodeToString([]byte(s)))
}

func toldRecovered(list []impl.Track, n int64, ok bool) string {
	return orFail(ok, tracksText(list), whole(n))
}

// sensorOutcome writes what a function of chapter 7 returns for the arguments of a case.
func sensorOutcome(name, arguments string) string {
	words := strings.Fields(arguments)
	x := func(i int) float32 { return numbers(words[i])[0] }
	list := func(i int) []float32 { return listOf(words[i]) }
	switch name {
	case "IsTable":
		return toldBool(impl.IsTable(list(0), list(1)))
	case "ReadTable":
		return toldNumber(impl.ReadTable(list(0), list(1), x(2)))
	case "BackTable":
		return toldNumber(impl.BackTable(list(0), list(1), x(2)))
	case "SlowReads":
		return toldList(impl.SlowReads(list(0), x(1), x(2), x(3)))
	case "QuickReads":
		return toldList(impl.QuickReads(list(0), x(1), x(2), x(3)))
	case "MedianReads":
		return toldList(impl.MedianReads(list(0)))
	case "SpikesIn":
		return toldWholes(impl.SpikesIn(list(0), x(1)))
	case "CoolTo":
		return toldNumber(impl.CoolTo(x(0), x(1), x(2), x(3)))
	case "TimeTo":
		return toldNumber(impl.TimeTo(x(0), x(1), x(2), x(3)))
	case "FitCooling":
		return toldPair(impl.FitCooling(list(0), x(1), x(2)))
	case "FitLine":
		return toldPair(impl.FitLine(list(0), list(1)))
	case "LineMiss":
		return toldNumber(impl.LineMiss(list(0), list(1), x(2), x(3)))
	case "DriftGuess":
		return toldGuess(impl.DriftGuess(guessOf(words[0]), x(1), x(2)))
	case "MeetGuess":
		return toldGuess(impl.MeetGuess(guessOf(words[0]), x(1), x(2)))
	case "RunGuess":
		return toldMeans(impl.RunGuess(guessOf(words[0]), list(1), x(2), x(3)))
	case "DegreeDays":
		return toldNumber(impl.DegreeDays(list(0), x(1)))
	case "FrostIn":
		return toldWholePair(impl.FrostIn(list(0)))
	case "SwingIn":
		return toldWave(impl.SwingIn(list(0), wholeOf(words[1])))
	case "SwingList":
		return toldList(impl.SwingList(complexOf(words[0]), wholeOf(words[1]), wholeOf(words[2])))
	case "LagOfSwings":
		return toldNumber(impl.LagOfSwings(complexOf(words[0]), complexOf(words[1])))
	}
	return trackOutcome(name, words)
}

// trackOutcome writes what a function of tracks returns.
func trackOutcome(name string, words []string) string {
	switch name {
	case "ValidTrack":
		return toldBool(impl.ValidTrack(trackOf(words[0])))
	case "SameTracks":
		return toldBool(impl.SameTracks(tracksOf(words[0]), tracksOf(words[1])))
	case "TrackOf":
		title, rest, _ := strings.Cut(words[0], ":")
		return toldTrack(impl.TrackOf(title, listOf(rest)))
	case "ReadsOf":
		return toldList(impl.ReadsOf(trackOf(words[0])))
	case "PackTrack":
		return toldBytes(impl.PackTrack(wholesOf(words[0])))
	case "UnpackTrack":
		return toldWholes(impl.UnpackTrack(bytesOf(words[0])))
	case "StoreTrack":
		return toldBytes(impl.StoreTrack(trackOf(words[0])))
	case "LoadTrack":
		return toldTrack(impl.LoadTrack(bytesOf(words[0])))
	case "StoreTracks":
		return toldBytes(impl.StoreTracks(tracksOf(words[0])))
	case "RecoverTracks":
		return toldRecovered(impl.RecoverTracks(bytesOf(words[0])))
	}
	panic("a function that trackOutcome does not know")
}

func guess(mean, spread float32) impl.Guess { return impl.Guess{Mean: mean, Spread: spread} }

func track(name string, list ...int64) impl.Track { return impl.Track{Name: name, Hundreds: list} }
